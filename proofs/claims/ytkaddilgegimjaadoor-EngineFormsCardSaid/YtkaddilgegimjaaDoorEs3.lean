/- The document's At, Get of layer 30. -/
import Derived.Test.YtkaddilgegimjaaDoorEs2
namespace Go.Proofs.YtkaddilgegimjaaDoor
set_option linter.unusedVariables false
set_option linter.unusedSimpArgs false
open Go.RowKit

theorem rmay_yes (oa : Option Addr) (n cp last : Nat) (max : Int) (V : Nat → Ver) (w : World) (hn : n ≤ maxLen) (hl : last < 4294967296) (hV : Vers w oa n V) (hm : ∀ i, i < n → (V i).n < 4294967296) (h : SecOk n last max V) :
    Calls Tryd.prog 56 #[.agg #[.slice oa n cp, .int .u32 (last : Int), .int .i64 max]] w fun e w' => e = .returned (.bool true) ∧ Below w.heap.size w w' :=
  (rmay_any oa n cp last max V w hn hl hV hm).mono fun e w' ⟨he, hb⟩ => ⟨by rcases he with he | he; exact he.2; exact absurd h he.1, hb⟩
theorem rmay_no' (oa : Option Addr) (n cp last : Nat) (max : Int) (V : Nat → Ver) (w : World) (hn : n ≤ maxLen) (hl : last < 4294967296) (hV : Vers w oa n V) (hm : ∀ i, i < n → (V i).n < 4294967296) (h : ¬ SecOk n last max V) :
    Calls Tryd.prog 56 #[.agg #[.slice oa n cp, .int .u32 (last : Int), .int .i64 max]] w fun e w' => e = .returned (.bool false) ∧ Below w.heap.size w w' :=
  (rmay_any oa n cp last max V w hn hl hV hm).mono fun e w' ⟨he, hb⟩ => ⟨by rcases he with he | he; exact absurd he.1 h; exact he.2, hb⟩
/-- What the document finds. -/
def RFindE (n last q : Nat) (V : Nat → Ver) (e : Ending) : Prop := (∃ k, k < n ∧ (V k).n = seek last q ∧ e = .returned (.tuple #[.int .i64 (k : Nat), .int .i64 0])) ∨ ((∀ i, i < n → (V i).n ≠ seek last q) ∧ e = .returned (.tuple #[.int .i64 0, .int .i64 5]))
set_option maxRecDepth 100000 in
set_option maxHeartbeats 1000000 in
theorem rat_bad (oa : Option Addr) (n cp last : Nat) (max : Int) (V : Nat → Ver) (w : World) (hn : n ≤ maxLen) (hl : last < 4294967296) (hV : Vers w oa n V) (hm : ∀ i, i < n → (V i).n < 4294967296) (q : Nat) (h : ¬ SecOk n last max V) :
    Calls Tryd.prog 91 #[.agg #[.slice oa n cp, .int .u32 (last : Int), .int .i64 max], .int .u32 (q : Int)] w fun e w' => e = .returned (.tuple #[.int .i64 0, .int .i64 1]) ∧ Below w.heap.size w w' := by
  have HV := Lib.hid (hV.later ((Below.refl _ _).alloc (Nat.le_refl _) _ : Below w.heap.size w (w.alloc (.cells #[.slice oa n cp, .int .u32 (last : Int), .int .i64 max] 73))))
  have HF := Lib.hid fun w2 (hV2 : Vers w2 oa n V) => rmay_no' oa n cp last max V w2 hn hl hV2 hm h
  clear hV h hn hm
  go_enter Tryd.func91, Tryd.ntmps91
  go_wp2_with fail
  refine (HF.out _ HV.out).mono ?_
  rintro e w1 ⟨rfl, hb⟩
  go_wp2_with fail
  go_ret2
  exact ⟨rfl, ((Below.refl _ _).alloc (Nat.le_refl _) _).trans (hb.mono (by simp))⟩
set_option maxRecDepth 100000 in
set_option maxHeartbeats 2000000 in
theorem rat_zero (oa : Option Addr) (n cp last : Nat) (max : Int) (V : Nat → Ver) (w : World) (hn : n ≤ maxLen) (hl : last < 4294967296) (hV : Vers w oa n V) (hm : ∀ i, i < n → (V i).n < 4294967296)  (h : SecOk n last max V) :
    Calls Tryd.prog 91 #[.agg #[.slice oa n cp, .int .u32 (last : Int), .int .i64 max], .int .u32 0] w fun e w' => RFindE n last 0 V e ∧ Below w.heap.size w w' := by
  have HV0 := Lib.hid hV
  have HV := Lib.hid (hV.later ((Below.refl _ _).alloc (Nat.le_refl _) _ : Below w.heap.size w (w.alloc (.cells #[.slice oa n cp, .int .u32 (last : Int), .int .i64 max] 73))))
  have HF := Lib.hid fun w2 (hV2 : Vers w2 oa n V) => rmay_yes oa n cp last max V w2 hn hl hV2 hm h
  have HS := Lib.hid h
  have hn8 : (n : Int) ≤ 8 := by have := h.1.2.1; have := h.1.2.2.1; omega
  clear hV h hn hm
  go_enter Tryd.func91, Tryd.ntmps91
  go_wp2_with fail
  refine (HF.out _ HV.out).mono ?_
  rintro e w1 ⟨rfl, hb⟩
  have hX : Blk w1 w.heap.size #[.slice oa n cp, .int .u32 (last : Int), .int .i64 max] 73 := Blk.below (Blk.new _ _ _) hb (by simp)
  have hO1 : Below w.heap.size w w1 := ((Below.refl _ _).alloc (Nat.le_refl _) _).trans (hb.mono (by simp))
  have HX := Lib.hid hX
  have HO1 := Lib.hid hO1
  clear hX hb hO1
  go_wp2_with fail
  go_loopw [6] (fun i wr => ∃ k : Nat, k ≤ n ∧ i = .int .i64 k ∧ (∀ i, i < k → (V i).n ≠ seek last 0) ∧ Blk wr w.heap.size #[.slice oa n cp, .int .u32 (last : Int), .int .i64 max] 73 ∧ Below w.heap.size w wr) (fun i _ => n - (intOf i).toNat)
  case atStart => exact ⟨0, Nat.zero_le _, rfl, fun i hi => by omega, HX.out, HO1.out⟩
  case round =>
    obtain ⟨k, hk, rfl, hG, hY, hO⟩ := hrel
    have HG := Lib.hid hG
    have HY := Lib.hid hY
    have HO := Lib.hid hO
    have x0 : wr.cell? ⟨w.heap.size, 0, none⟩ = some (.slice oa n cp) := Blk.cell hY 0
    clear hG hY hO
    by_cases hlt : k < n
    · obtain ⟨b, off, od, cap, rfl, hB, _, _, _, c0, c1, c2, c3⟩ := (Vers.later HV0.out HO.out).get k hlt
      have k0 : (0 : Int) ≤ (k : Int) := by omega
      have k1 : (k : Int) < (n : Int) := by omega
      have hnum := (HS.out.2 k hlt).1
      have hnl := HS.out.1.2.2.2.2
      obtain ⟨m, hm⟩ : ∃ m, (V k).n = m := ⟨_, rfl⟩
      rw [hm] at c0 hnum
      have HM := Lib.hid hm
      have HNum := Lib.hid hnum
      clear hB hm
      have m0 : ((m : Int) == 0) = false := by rw [beq_eq_false_iff_ne]; omega
      by_cases he : k = n - 1
      · have he' : ((k : Int) == (n : Int) - 1) = true := by rw [beq_iff_eq]; omega
        have HE := Lib.hid (show m = last by omega)
        clear he hnum hnl
        go_wp2_with fail
        go_ret2
        exact ⟨.inl ⟨k, hlt, by rw [HM.out, HE.out]; rfl, rfl⟩, HO.out⟩
      · have he' : ((k : Int) == (n : Int) - 1) = false := by rw [beq_eq_false_iff_ne]; omega
        have HE := Lib.hid (show m ≠ seek last 0 from fun e => by have e2 : m = last := e; omega)
        clear he hnum hnl
        go_wp2_with fail
        go_roundw
        case rel => exact ⟨k + 1, by omega, by go_num, (fun i hi => by
          rcases Nat.lt_or_ge i k with h | h
          · exact HG.out i h
          · obtain rfl : i = k := by omega
            rw [HM.out]; exact HE.out), HY.out, HO.out⟩
        case measure => simp [intOf]; omega
    · obtain rfl : k = n := by omega
      go_wp2_with fail
      go_ret2
      exact ⟨.inr ⟨HG.out, rfl⟩, HO.out⟩
set_option maxRecDepth 100000 in
set_option maxHeartbeats 2000000 in
theorem rat_some (oa : Option Addr) (n cp last : Nat) (max : Int) (V : Nat → Ver) (w : World) (hn : n ≤ maxLen) (hl : last < 4294967296) (hV : Vers w oa n V) (hm : ∀ i, i < n → (V i).n < 4294967296) (q : Nat) (hq : q ≠ 0) (h : SecOk n last max V) :
    Calls Tryd.prog 91 #[.agg #[.slice oa n cp, .int .u32 (last : Int), .int .i64 max], .int .u32 (q : Int)] w fun e w' => RFindE n last q V e ∧ Below w.heap.size w w' := by
  have HV0 := Lib.hid hV
  have HV := Lib.hid (hV.later ((Below.refl _ _).alloc (Nat.le_refl _) _ : Below w.heap.size w (w.alloc (.cells #[.slice oa n cp, .int .u32 (last : Int), .int .i64 max] 73))))
  have HF := Lib.hid fun w2 (hV2 : Vers w2 oa n V) => rmay_yes oa n cp last max V w2 hn hl hV2 hm h
  have HS := Lib.hid h
  have hn8 : (n : Int) ≤ 8 := by have := h.1.2.1; have := h.1.2.2.1; omega
  have hq0 : ((q : Int) == 0) = false := by rw [beq_eq_false_iff_ne]; omega
  have HQ := Lib.hid hq
  clear hq
  clear hV h hn hm
  go_enter Tryd.func91, Tryd.ntmps91
  go_wp2_with fail
  refine (HF.out _ HV.out).mono ?_
  rintro e w1 ⟨rfl, hb⟩
  have hX : Blk w1 w.heap.size #[.slice oa n cp, .int .u32 (last : Int), .int .i64 max] 73 := Blk.below (Blk.new _ _ _) hb (by simp)
  have hO1 : Below w.heap.size w w1 := ((Below.refl _ _).alloc (Nat.le_refl _) _).trans (hb.mono (by simp))
  have HX := Lib.hid hX
  have HO1 := Lib.hid hO1
  clear hX hb hO1
  go_wp2_with fail
  go_loopw [6] (fun i wr => ∃ k : Nat, k ≤ n ∧ i = .int .i64 k ∧ (∀ i, i < k → (V i).n ≠ seek last q) ∧ Blk wr w.heap.size #[.slice oa n cp, .int .u32 (last : Int), .int .i64 max] 73 ∧ Below w.heap.size w wr) (fun i _ => n - (intOf i).toNat)
  case atStart => exact ⟨0, Nat.zero_le _, rfl, fun i hi => by omega, HX.out, HO1.out⟩
  case round =>
    obtain ⟨k, hk, rfl, hG, hY, hO⟩ := hrel
    have HG := Lib.hid hG
    have HY := Lib.hid hY
    have HO := Lib.hid hO
    have x0 : wr.cell? ⟨w.heap.size, 0, none⟩ = some (.slice oa n cp) := Blk.cell hY 0
    clear hG hY hO
    by_cases hlt : k < n
    · obtain ⟨b, off, od, cap, rfl, hB, _, _, _, c0, c1, c2, c3⟩ := (Vers.later HV0.out HO.out).get k hlt
      have k0 : (0 : Int) ≤ (k : Int) := by omega
      have k1 : (k : Int) < (n : Int) := by omega
      have hnum := (HS.out.2 k hlt).1
      have hnl := HS.out.1.2.2.2.2
      obtain ⟨m, hm⟩ : ∃ m, (V k).n = m := ⟨_, rfl⟩
      rw [hm] at c0 hnum
      have HM := Lib.hid hm
      have HNum := Lib.hid hnum
      clear hB hm
      by_cases he : m = q
      · have he' : ((m : Int) == (q : Int)) = true := by rw [beq_iff_eq]; omega
        have HE := Lib.hid he
        clear he hnum hnl
        go_wp2_with fail
        go_ret2
        exact ⟨.inl ⟨k, hlt, by rw [HM.out, HE.out]; exact (if_neg HQ.out).symm, rfl⟩, HO.out⟩
      · have he' : ((m : Int) == (q : Int)) = false := by rw [beq_eq_false_iff_ne]; omega
        have HE := Lib.hid (show m ≠ seek last q from fun e => he (e.trans (if_neg HQ.out)))
        clear he hnum hnl
        go_wp2_with fail
        go_roundw
        case rel => exact ⟨k + 1, by omega, by go_num, (fun i hi => by
          rcases Nat.lt_or_ge i k with h | h
          · exact HG.out i h
          · obtain rfl : i = k := by omega
            rw [HM.out]; exact HE.out), HY.out, HO.out⟩
        case measure => simp [intOf]; omega
    · obtain rfl : k = n := by omega
      go_wp2_with fail
      go_ret2
      exact ⟨.inr ⟨HG.out, rfl⟩, HO.out⟩
theorem rat_any (oa : Option Addr) (n cp last : Nat) (max : Int) (V : Nat → Ver) (w : World) (hn : n ≤ maxLen) (hl : last < 4294967296) (hV : Vers w oa n V) (hm : ∀ i, i < n → (V i).n < 4294967296) (q : Nat) (h : SecOk n last max V) :
    Calls Tryd.prog 91 #[.agg #[.slice oa n cp, .int .u32 (last : Int), .int .i64 max], .int .u32 (q : Int)] w fun e w' => RFindE n last q V e ∧ Below w.heap.size w w' := by
  by_cases hq : q = 0
  · subst hq; exact rat_zero oa n cp last max V w hn hl hV hm h
  · exact rat_some oa n cp last max V w hn hl hV hm q hq h
theorem rat_hit (oa : Option Addr) (n cp last : Nat) (max : Int) (V : Nat → Ver) (w : World) (hn : n ≤ maxLen) (hl : last < 4294967296) (hV : Vers w oa n V) (hm : ∀ i, i < n → (V i).n < 4294967296) (q i : Nat) (h : SecOk n last max V) (hi : i < n) (he : (V i).n = seek last q) :
    Calls Tryd.prog 91 #[.agg #[.slice oa n cp, .int .u32 (last : Int), .int .i64 max], .int .u32 (q : Int)] w fun e w' => e = .returned (.tuple #[.int .i64 (i : Nat), .int .i64 0]) ∧ Below w.heap.size w w' :=
  (rat_any oa n cp last max V w hn hl hV hm q h).mono fun e w' ⟨hE, hb⟩ => ⟨by
    rcases hE with ⟨k, hk, hv, rfl⟩ | ⟨hno, _⟩
    · rw [num_inj h hi hk (he.trans hv.symm)]
    · exact absurd he (hno i hi), hb⟩
theorem rat_miss (oa : Option Addr) (n cp last : Nat) (max : Int) (V : Nat → Ver) (w : World) (hn : n ≤ maxLen) (hl : last < 4294967296) (hV : Vers w oa n V) (hm : ∀ i, i < n → (V i).n < 4294967296) (q : Nat) (h : SecOk n last max V) (hno : ∀ i, i < n → (V i).n ≠ seek last q) :
    Calls Tryd.prog 91 #[.agg #[.slice oa n cp, .int .u32 (last : Int), .int .i64 max], .int .u32 (q : Int)] w fun e w' => e = .returned (.tuple #[.int .i64 0, .int .i64 5]) ∧ Below w.heap.size w w' :=
  (rat_any oa n cp last max V w hn hl hV hm q h).mono fun e w' ⟨hE, hb⟩ => ⟨by
    rcases hE with ⟨k, hk, hv, rfl⟩ | ⟨_, rfl⟩
    · exact absurd hv (hno k hk)
    · rfl, hb⟩
set_option maxRecDepth 100000 in
set_option maxHeartbeats 1000000 in
theorem rget_bad (oa : Option Addr) (n cp last : Nat) (max : Int) (V : Nat → Ver) (w : World) (hn : n ≤ maxLen) (hl : last < 4294967296) (hV : Vers w oa n V) (hm : ∀ i, i < n → (V i).n < 4294967296) (q : Nat) (h : ¬ SecOk n last max V) :
    Calls Tryd.prog 46 #[.agg #[.slice oa n cp, .int .u32 (last : Int), .int .i64 max], .int .u32 (q : Int)] w fun e w' => e = .returned (.tuple #[.agg #[.int .u32 0, .slice none 0 0, .int .u64 0, .int .i64 0], .int .i64 1]) ∧ Below w.heap.size w w' := by
  have HV := Lib.hid (hV.later (((Below.refl _ _).alloc (Nat.le_refl _) _).alloc (by simp) _ : Below w.heap.size w ((w.alloc (.cells #[.slice oa n cp, .int .u32 (last : Int), .int .i64 max] 73)).alloc (.cells #[.int .u32 0, .slice none 0 0, .int .u64 0, .int .i64 0] 89))))
  have HF := Lib.hid fun w2 (hV2 : Vers w2 oa n V) => rat_bad oa n cp last max V w2 hn hl hV2 hm q h
  clear hV hn hm
  go_enter Tryd.func46, Tryd.ntmps46
  go_wp2_with fail
  refine (HF.out _ HV.out).mono ?_
  rintro e w1 ⟨rfl, hb⟩
  have hX : Blk w1 (w.heap.size + 1) #[.int .u32 0, .slice none 0 0, .int .u64 0, .int .i64 0] 89 := Blk.below (blk2' _ _ _ _ _) hb (by simp)
  have hO : Below w.heap.size w w1 := (((Below.refl _ _).alloc (Nat.le_refl _) _).alloc (by simp) _).trans (hb.mono (by simp; omega))
  have s0 : w1.cell? ⟨w.heap.size + 1, 0, none⟩ = some (.int .u32 0) := Blk.cell hX 0
  have z0 : w1.frozen? ⟨w.heap.size + 1, 0, none⟩ = false := Blk.free hX 0
  have s1 : w1.cell? ⟨w.heap.size + 1, 1, none⟩ = some (.slice none 0 0) := Blk.cell hX 1
  have z1 : w1.frozen? ⟨w.heap.size + 1, 1, none⟩ = false := Blk.free hX 1
  have s2 : w1.cell? ⟨w.heap.size + 1, 2, none⟩ = some (.int .u64 0) := Blk.cell hX 2
  have z2 : w1.frozen? ⟨w.heap.size + 1, 2, none⟩ = false := Blk.free hX 2
  have s3 : w1.cell? ⟨w.heap.size + 1, 3, none⟩ = some (.int .i64 0) := Blk.cell hX 3
  have z3 : w1.frozen? ⟨w.heap.size + 1, 3, none⟩ = false := Blk.free hX 3
  have a0 : (w1.setCell ⟨w.heap.size + 1, 0, none⟩ (.int .u32 0)).cell? ⟨w.heap.size + 1, 0, none⟩ = some (.int .u32 0) := Blk.cell (Blk.set hX 0 _) 0
  have a1 : ((w1.setCell ⟨w.heap.size + 1, 0, none⟩ (.int .u32 0)).setCell ⟨w.heap.size + 1, 1, none⟩ (.slice none 0 0)).cell? ⟨w.heap.size + 1, 1, none⟩ = some (.slice none 0 0) := Blk.cell (Blk.set (Blk.set hX 0 _) 1 _) 1
  have a2 : (((w1.setCell ⟨w.heap.size + 1, 0, none⟩ (.int .u32 0)).setCell ⟨w.heap.size + 1, 1, none⟩ (.slice none 0 0)).setCell ⟨w.heap.size + 1, 2, none⟩ (.int .u64 0)).cell? ⟨w.heap.size + 1, 2, none⟩ = some (.int .u64 0) := Blk.cell (Blk.set (Blk.set (Blk.set hX 0 _) 1 _) 2 _) 2
  have a3 : ((((w1.setCell ⟨w.heap.size + 1, 0, none⟩ (.int .u32 0)).setCell ⟨w.heap.size + 1, 1, none⟩ (.slice none 0 0)).setCell ⟨w.heap.size + 1, 2, none⟩ (.int .u64 0)).setCell ⟨w.heap.size + 1, 3, none⟩ (.int .i64 0)).cell? ⟨w.heap.size + 1, 3, none⟩ = some (.int .i64 0) := Blk.cell (Blk.set (Blk.set (Blk.set (Blk.set hX 0 _) 1 _) 2 _) 3 _) 3
  have A0 := Lib.hid a0
  have A1 := Lib.hid a1
  have A2 := Lib.hid a2
  have A3 := Lib.hid a3
  clear a0 a1 a2 a3
  have HO := Lib.hid hO
  clear hX hb hO
  go_wp2_with fail
  refine bodyPost_ret (v := .tuple #[.agg #[.int .u32 0, .slice none 0 0, .int .u64 0, .int .i64 0], .int .i64 1]) ?_ rfl ⟨rfl, ?_⟩
  · simp [results, Tryd.results46, go_sem, A0.out, A1.out, A2.out, A3.out]
  · exact ((((HO.out).setCell (by simp) _).setCell (by simp) _).setCell (by simp) _).setCell (by simp) _
set_option maxRecDepth 100000 in
set_option maxHeartbeats 1000000 in
theorem rget_none (oa : Option Addr) (n cp last : Nat) (max : Int) (V : Nat → Ver) (w : World) (hn : n ≤ maxLen) (hl : last < 4294967296) (hV : Vers w oa n V) (hm : ∀ i, i < n → (V i).n < 4294967296) (q : Nat) (h : SecOk n last max V) (hno : ∀ i, i < n → (V i).n ≠ seek last q) :
    Calls Tryd.prog 46 #[.agg #[.slice oa n cp, .int .u32 (last : Int), .int .i64 max], .int .u32 (q : Int)] w fun e w' => e = .returned (.tuple #[.agg #[.int .u32 0, .slice none 0 0, .int .u64 0, .int .i64 0], .int .i64 5]) ∧ Below w.heap.size w w' := by
  have HV := Lib.hid (hV.later (((Below.refl _ _).alloc (Nat.le_refl _) _).alloc (by simp) _ : Below w.heap.size w ((w.alloc (.cells #[.slice oa n cp, .int .u32 (last : Int), .int .i64 max] 73)).alloc (.cells #[.int .u32 0, .slice none 0 0, .int .u64 0, .int .i64 0] 89))))
  have HF := Lib.hid fun w2 (hV2 : Vers w2 oa n V) => rat_miss oa n cp last max V w2 hn hl hV2 hm q h hno
  clear hV hn hm
  go_enter Tryd.func46, Tryd.ntmps46
  go_wp2_with fail
  refine (HF.out _ HV.out).mono ?_
  rintro e w1 ⟨rfl, hb⟩
  have hX : Blk w1 (w.heap.size + 1) #[.int .u32 0, .slice none 0 0, .int .u64 0, .int .i64 0] 89 := Blk.below (blk2' _ _ _ _ _) hb (by simp)
  have hO : Below w.heap.size w w1 := (((Below.refl _ _).alloc (Nat.le_refl _) _).alloc (by simp) _).trans (hb.mono (by simp; omega))
  have s0 : w1.cell? ⟨w.heap.size + 1, 0, none⟩ = some (.int .u32 0) := Blk.cell hX 0
  have z0 : w1.frozen? ⟨w.heap.size + 1, 0, none⟩ = false := Blk.free hX 0
  have s1 : w1.cell? ⟨w.heap.size + 1, 1, none⟩ = some (.slice none 0 0) := Blk.cell hX 1
  have z1 : w1.frozen? ⟨w.heap.size + 1, 1, none⟩ = false := Blk.free hX 1
  have s2 : w1.cell? ⟨w.heap.size + 1, 2, none⟩ = some (.int .u64 0) := Blk.cell hX 2
  have z2 : w1.frozen? ⟨w.heap.size + 1, 2, none⟩ = false := Blk.free hX 2
  have s3 : w1.cell? ⟨w.heap.size + 1, 3, none⟩ = some (.int .i64 0) := Blk.cell hX 3
  have z3 : w1.frozen? ⟨w.heap.size + 1, 3, none⟩ = false := Blk.free hX 3
  have a0 : (w1.setCell ⟨w.heap.size + 1, 0, none⟩ (.int .u32 0)).cell? ⟨w.heap.size + 1, 0, none⟩ = some (.int .u32 0) := Blk.cell (Blk.set hX 0 _) 0
  have a1 : ((w1.setCell ⟨w.heap.size + 1, 0, none⟩ (.int .u32 0)).setCell ⟨w.heap.size + 1, 1, none⟩ (.slice none 0 0)).cell? ⟨w.heap.size + 1, 1, none⟩ = some (.slice none 0 0) := Blk.cell (Blk.set (Blk.set hX 0 _) 1 _) 1
  have a2 : (((w1.setCell ⟨w.heap.size + 1, 0, none⟩ (.int .u32 0)).setCell ⟨w.heap.size + 1, 1, none⟩ (.slice none 0 0)).setCell ⟨w.heap.size + 1, 2, none⟩ (.int .u64 0)).cell? ⟨w.heap.size + 1, 2, none⟩ = some (.int .u64 0) := Blk.cell (Blk.set (Blk.set (Blk.set hX 0 _) 1 _) 2 _) 2
  have a3 : ((((w1.setCell ⟨w.heap.size + 1, 0, none⟩ (.int .u32 0)).setCell ⟨w.heap.size + 1, 1, none⟩ (.slice none 0 0)).setCell ⟨w.heap.size + 1, 2, none⟩ (.int .u64 0)).setCell ⟨w.heap.size + 1, 3, none⟩ (.int .i64 0)).cell? ⟨w.heap.size + 1, 3, none⟩ = some (.int .i64 0) := Blk.cell (Blk.set (Blk.set (Blk.set (Blk.set hX 0 _) 1 _) 2 _) 3 _) 3
  have A0 := Lib.hid a0
  have A1 := Lib.hid a1
  have A2 := Lib.hid a2
  have A3 := Lib.hid a3
  clear a0 a1 a2 a3
  have HO := Lib.hid hO
  clear hX hb hO
  go_wp2_with fail
  refine bodyPost_ret (v := .tuple #[.agg #[.int .u32 0, .slice none 0 0, .int .u64 0, .int .i64 0], .int .i64 5]) ?_ rfl ⟨rfl, ?_⟩
  · simp [results, Tryd.results46, go_sem, A0.out, A1.out, A2.out, A3.out]
  · exact ((((HO.out).setCell (by simp) _).setCell (by simp) _).setCell (by simp) _).setCell (by simp) _
set_option maxRecDepth 100000 in
set_option maxHeartbeats 2000000 in
theorem rget_gone (oa : Option Addr) (n cp last : Nat) (max : Int) (V : Nat → Ver) (w : World) (hn : n ≤ maxLen) (hl : last < 4294967296) (hV : Vers w oa n V) (hm : ∀ i, i < n → (V i).n < 4294967296) (q i : Nat) (h : SecOk n last max V) (hi : i < n) (he : (V i).n = seek last q) (hst : (V i).st ≠ 0) :
    Calls Tryd.prog 46 #[.agg #[.slice oa n cp, .int .u32 (last : Int), .int .i64 max], .int .u32 (q : Int)] w fun e w' => e = .returned (.tuple #[.agg #[.int .u32 0, .slice none 0 0, .int .u64 0, .int .i64 0], .int .i64 21]) ∧ Below w.heap.size w w' := by
  have HV := Lib.hid (hV.later (((Below.refl _ _).alloc (Nat.le_refl _) _).alloc (by simp) _ : Below w.heap.size w ((w.alloc (.cells #[.slice oa n cp, .int .u32 (last : Int), .int .i64 max] 73)).alloc (.cells #[.int .u32 0, .slice none 0 0, .int .u64 0, .int .i64 0] 89))))
  have HF := Lib.hid fun w2 (hV2 : Vers w2 oa n V) => rat_hit oa n cp last max V w2 hn hl hV2 hm q i h hi he
  obtain ⟨b, off, od, cap, rfl, hB, hno, hlc, hcm, c0, c1, c2, c3⟩ := hV.get i hi
  have i0 : (0 : Int) ≤ (i : Int) := by omega
  have i1 : (i : Int) < (n : Int) := by omega
  have HB := Lib.hid hB
  obtain ⟨st, hs⟩ : ∃ s, (V i).st = s := ⟨_, rfl⟩
  rw [hs] at c3 hst
  have hst' : (st != 0) = true := by rw [bne_iff_ne]; exact hst
  clear hs
  clear hV hn hm h he hi hst hB hno hlc hcm
  go_enter Tryd.func46, Tryd.ntmps46
  go_wp2_with fail
  refine (HF.out _ HV.out).mono ?_
  rintro e w1 ⟨rfl, hb⟩
  have hX : Blk w1 (w.heap.size + 1) #[.int .u32 0, .slice none 0 0, .int .u64 0, .int .i64 0] 89 := Blk.below (blk2' _ _ _ _ _) hb (by simp)
  have hS : Blk w1 w.heap.size #[.slice (some ⟨b, off, none⟩) n cp, .int .u32 (last : Int), .int .i64 max] 73 := Blk.below (blk2 _ _ _ _ _) hb (by simp; omega)
  have hO : Below w.heap.size w w1 := (((Below.refl _ _).alloc (Nat.le_refl _) _).alloc (by simp) _).trans (hb.mono (by simp; omega))
  have x0 : w1.cell? ⟨w.heap.size, 0, none⟩ = some (.slice (some ⟨b, off, none⟩) n cp) := Blk.cell hS 0
  have d0 := cell_below hO c0
  have d1 := cell_below hO c1
  have d2 := cell_below hO c2
  have d3 := cell_below hO c3
  have s0 : w1.cell? ⟨w.heap.size + 1, 0, none⟩ = some (.int .u32 0) := Blk.cell hX 0
  have z0 : w1.frozen? ⟨w.heap.size + 1, 0, none⟩ = false := Blk.free hX 0
  have s1 : w1.cell? ⟨w.heap.size + 1, 1, none⟩ = some (.slice none 0 0) := Blk.cell hX 1
  have z1 : w1.frozen? ⟨w.heap.size + 1, 1, none⟩ = false := Blk.free hX 1
  have s2 : w1.cell? ⟨w.heap.size + 1, 2, none⟩ = some (.int .u64 0) := Blk.cell hX 2
  have z2 : w1.frozen? ⟨w.heap.size + 1, 2, none⟩ = false := Blk.free hX 2
  have s3 : w1.cell? ⟨w.heap.size + 1, 3, none⟩ = some (.int .i64 0) := Blk.cell hX 3
  have z3 : w1.frozen? ⟨w.heap.size + 1, 3, none⟩ = false := Blk.free hX 3
  have a0 : (w1.setCell ⟨w.heap.size + 1, 0, none⟩ (.int .u32 0)).cell? ⟨w.heap.size + 1, 0, none⟩ = some (.int .u32 0) := Blk.cell (Blk.set hX 0 _) 0
  have a1 : ((w1.setCell ⟨w.heap.size + 1, 0, none⟩ (.int .u32 0)).setCell ⟨w.heap.size + 1, 1, none⟩ (.slice none 0 0)).cell? ⟨w.heap.size + 1, 1, none⟩ = some (.slice none 0 0) := Blk.cell (Blk.set (Blk.set hX 0 _) 1 _) 1
  have a2 : (((w1.setCell ⟨w.heap.size + 1, 0, none⟩ (.int .u32 0)).setCell ⟨w.heap.size + 1, 1, none⟩ (.slice none 0 0)).setCell ⟨w.heap.size + 1, 2, none⟩ (.int .u64 0)).cell? ⟨w.heap.size + 1, 2, none⟩ = some (.int .u64 0) := Blk.cell (Blk.set (Blk.set (Blk.set hX 0 _) 1 _) 2 _) 2
  have a3 : ((((w1.setCell ⟨w.heap.size + 1, 0, none⟩ (.int .u32 0)).setCell ⟨w.heap.size + 1, 1, none⟩ (.slice none 0 0)).setCell ⟨w.heap.size + 1, 2, none⟩ (.int .u64 0)).setCell ⟨w.heap.size + 1, 3, none⟩ (.int .i64 0)).cell? ⟨w.heap.size + 1, 3, none⟩ = some (.int .i64 0) := Blk.cell (Blk.set (Blk.set (Blk.set (Blk.set hX 0 _) 1 _) 2 _) 3 _) 3
  have A0 := Lib.hid a0
  have A1 := Lib.hid a1
  have A2 := Lib.hid a2
  have A3 := Lib.hid a3
  clear a0 a1 a2 a3
  have HO := Lib.hid hO
  clear hX hb hO hS c0 c1 c2 c3 d0 d1 d2
  go_wp2_with fail
  refine bodyPost_ret (v := .tuple #[.agg #[.int .u32 0, .slice none 0 0, .int .u64 0, .int .i64 0], .int .i64 21]) ?_ rfl ⟨rfl, ?_⟩
  · simp [results, Tryd.results46, go_sem, A0.out, A1.out, A2.out, A3.out]
  · exact ((((HO.out).setCell (by simp) _).setCell (by simp) _).setCell (by simp) _).setCell (by simp) _
set_option maxRecDepth 100000 in
set_option maxHeartbeats 2000000 in
theorem rget_ok (oa : Option Addr) (n cp last : Nat) (max : Int) (V : Nat → Ver) (w : World) (hn : n ≤ maxLen) (hl : last < 4294967296) (hV : Vers w oa n V) (hm : ∀ i, i < n → (V i).n < 4294967296) (q i : Nat) (h : SecOk n last max V) (hi : i < n) (he : (V i).n = seek last q) (hst : (V i).st = 0) :
    Calls Tryd.prog 46 #[.agg #[.slice oa n cp, .int .u32 (last : Int), .int .i64 max], .int .u32 (q : Int)] w fun e w' => ∃ od cap, e = .returned (.tuple #[.agg #[.int .u32 ((V i).n : Int), .slice od (V i).len cap, .int .u64 ((V i).t : Int), .int .i64 0], .int .i64 0]) ∧ Bytes w' od (V i).len (V i).f ∧ Below w.heap.size w w' := by
  have HV := Lib.hid (hV.later (((Below.refl _ _).alloc (Nat.le_refl _) _).alloc (by simp) _ : Below w.heap.size w ((w.alloc (.cells #[.slice oa n cp, .int .u32 (last : Int), .int .i64 max] 73)).alloc (.cells #[.int .u32 0, .slice none 0 0, .int .u64 0, .int .i64 0] 89))))
  have HF := Lib.hid fun w2 (hV2 : Vers w2 oa n V) => rat_hit oa n cp last max V w2 hn hl hV2 hm q i h hi he
  obtain ⟨b, off, od, cap, rfl, hB, hno, hlc, hcm, c0, c1, c2, c3⟩ := hV.get i hi
  have i0 : (0 : Int) ≤ (i : Int) := by omega
  have i1 : (i : Int) < (n : Int) := by omega
  have HB := Lib.hid hB
  rw [hst] at c3
  clear hV hn hm h he hi hst hB hno hlc hcm
  go_enter Tryd.func46, Tryd.ntmps46
  go_wp2_with fail
  refine (HF.out _ HV.out).mono ?_
  rintro e w1 ⟨rfl, hb⟩
  have hX : Blk w1 (w.heap.size + 1) #[.int .u32 0, .slice none 0 0, .int .u64 0, .int .i64 0] 89 := Blk.below (blk2' _ _ _ _ _) hb (by simp)
  have hS : Blk w1 w.heap.size #[.slice (some ⟨b, off, none⟩) n cp, .int .u32 (last : Int), .int .i64 max] 73 := Blk.below (blk2 _ _ _ _ _) hb (by simp; omega)
  have hO : Below w.heap.size w w1 := (((Below.refl _ _).alloc (Nat.le_refl _) _).alloc (by simp) _).trans (hb.mono (by simp; omega))
  have x0 : w1.cell? ⟨w.heap.size, 0, none⟩ = some (.slice (some ⟨b, off, none⟩) n cp) := Blk.cell hS 0
  have d0 := cell_below hO c0
  have d1 := cell_below hO c1
  have d2 := cell_below hO c2
  have d3 := cell_below hO c3
  have hB1 := HB.out.later hO
  have hB3 := hB1.set_apart (k := 0) (x := .int .u32 ((V i).n : Int)) hX no_u8_4
  have hB4 := hB3.set_apart (k := 1) (x := .slice od (V i).len cap) (Blk.set hX 0 _) no_u8_4
  have hB5 := hB4.set_apart (k := 2) (x := .int .u64 ((V i).t : Int)) (Blk.set (Blk.set hX 0 _) 1 _) no_u8_4
  have hB6 := hB5.set_apart (k := 3) (x := .int .i64 0) (Blk.set (Blk.set (Blk.set hX 0 _) 1 _) 2 _) no_u8_4
  have HB6 := Lib.hid hB6
  clear hB1 hB3 hB4 hB5 hB6
  have s0 : w1.cell? ⟨w.heap.size + 1, 0, none⟩ = some (.int .u32 0) := Blk.cell hX 0
  have z0 : w1.frozen? ⟨w.heap.size + 1, 0, none⟩ = false := Blk.free hX 0
  have s1 : w1.cell? ⟨w.heap.size + 1, 1, none⟩ = some (.slice none 0 0) := Blk.cell hX 1
  have z1 : w1.frozen? ⟨w.heap.size + 1, 1, none⟩ = false := Blk.free hX 1
  have s2 : w1.cell? ⟨w.heap.size + 1, 2, none⟩ = some (.int .u64 0) := Blk.cell hX 2
  have z2 : w1.frozen? ⟨w.heap.size + 1, 2, none⟩ = false := Blk.free hX 2
  have s3 : w1.cell? ⟨w.heap.size + 1, 3, none⟩ = some (.int .i64 0) := Blk.cell hX 3
  have z3 : w1.frozen? ⟨w.heap.size + 1, 3, none⟩ = false := Blk.free hX 3
  have a0 : (w1.setCell ⟨w.heap.size + 1, 0, none⟩ (.int .u32 ((V i).n : Int))).cell? ⟨w.heap.size + 1, 0, none⟩ = some (.int .u32 ((V i).n : Int)) := Blk.cell (Blk.set hX 0 _) 0
  have a1 : ((w1.setCell ⟨w.heap.size + 1, 0, none⟩ (.int .u32 ((V i).n : Int))).setCell ⟨w.heap.size + 1, 1, none⟩ (.slice od (V i).len cap)).cell? ⟨w.heap.size + 1, 1, none⟩ = some (.slice od (V i).len cap) := Blk.cell (Blk.set (Blk.set hX 0 _) 1 _) 1
  have a2 : (((w1.setCell ⟨w.heap.size + 1, 0, none⟩ (.int .u32 ((V i).n : Int))).setCell ⟨w.heap.size + 1, 1, none⟩ (.slice od (V i).len cap)).setCell ⟨w.heap.size + 1, 2, none⟩ (.int .u64 ((V i).t : Int))).cell? ⟨w.heap.size + 1, 2, none⟩ = some (.int .u64 ((V i).t : Int)) := Blk.cell (Blk.set (Blk.set (Blk.set hX 0 _) 1 _) 2 _) 2
  have a3 : ((((w1.setCell ⟨w.heap.size + 1, 0, none⟩ (.int .u32 ((V i).n : Int))).setCell ⟨w.heap.size + 1, 1, none⟩ (.slice od (V i).len cap)).setCell ⟨w.heap.size + 1, 2, none⟩ (.int .u64 ((V i).t : Int))).setCell ⟨w.heap.size + 1, 3, none⟩ (.int .i64 0)).cell? ⟨w.heap.size + 1, 3, none⟩ = some (.int .i64 0) := Blk.cell (Blk.set (Blk.set (Blk.set (Blk.set hX 0 _) 1 _) 2 _) 3 _) 3
  have A0 := Lib.hid a0
  have A1 := Lib.hid a1
  have A2 := Lib.hid a2
  have A3 := Lib.hid a3
  clear a0 a1 a2 a3
  have HO := Lib.hid hO
  clear hX hb hO hS c0 c1 c2 c3 
  go_wp2_with fail
  refine bodyPost_ret (v := .tuple #[.agg #[.int .u32 ((V i).n : Int), .slice od (V i).len cap, .int .u64 ((V i).t : Int), .int .i64 0], .int .i64 0]) ?_ rfl ⟨od, cap, rfl, HB6.out, ?_⟩
  · simp [results, Tryd.results46, go_sem, A0.out, A1.out, A2.out, A3.out]
  · exact ((((HO.out).setCell (by simp) _).setCell (by simp) _).setCell (by simp) _).setCell (by simp) _
end Go.Proofs.YtkaddilgegimjaaDoor
