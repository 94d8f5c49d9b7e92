/- engine.find, engine.Get. -/
import Derived.Test.YtkaddilgegimjaaDoorEn4
namespace Go.Proofs.YtkaddilgegimjaaDoor
set_option linter.unusedVariables false
set_option linter.unusedSimpArgs false
open Go.RowKit

/-- What is sought by a number; 0: the last one. -/
def seek (last q : Nat) : Nat := if q = 0 then last else q
/-- What is found. -/
def FindE (n last q : Nat) (V : Nat → Ver) (e : Ending) : Prop := (∃ k, k < n ∧ (V k).n = seek last q ∧ e = .returned (.tuple #[.int .i64 (k : Nat), .nilIface])) ∨ ((∀ i, i < n → (V i).n ≠ seek last q) ∧ e = .returned (.tuple #[.int .i64 0, .iface 146 (.int .i64 5)]))
set_option maxRecDepth 100000 in
set_option maxHeartbeats 1000000 in
theorem find_bad (oa : Option Addr) (n cp last : Nat) (max : Int) (V : Nat → Ver) (w : World) (hn : n ≤ maxLen) (hl : last < 4294967296) (hV : Vers w oa n V) (q : Nat) (h : ¬ SecOk n last max V) :
    Calls Tryd.prog 90 #[.agg #[.slice oa n cp, .int .u32 (last : Int), .int .i64 max], .int .u32 (q : Int)] w fun e w' => e = .returned (.tuple #[.int .i64 0, .iface 146 (.int .i64 1)]) ∧ Below w.heap.size w w' := by
  have HV := Lib.hid (hV.later ((Below.refl _ _).alloc (Nat.le_refl _) _ : Below w.heap.size w (w.alloc (.cells #[.slice oa n cp, .int .u32 (last : Int), .int .i64 max] 79))))
  have HS := Lib.hid h
  have HN := Lib.hid hn
  clear hV h hn
  go_enter Tryd.func90, Tryd.ntmps90
  go_wp2_with fail
  refine (check_bad oa n cp last max V _ HN.out hl HV.out HS.out).mono ?_
  rintro e w1 ⟨rfl, hb⟩
  go_wp2_with fail
  go_ret2
  exact ⟨rfl, ((Below.refl _ _).alloc (Nat.le_refl _) _).trans (hb.mono (by simp))⟩
set_option maxRecDepth 100000 in
set_option maxHeartbeats 2000000 in
theorem find_zero (oa : Option Addr) (n cp last : Nat) (max : Int) (V : Nat → Ver) (w : World) (hn : n ≤ maxLen) (hl : last < 4294967296) (hV : Vers w oa n V)  (h : SecOk n last max V) :
    Calls Tryd.prog 90 #[.agg #[.slice oa n cp, .int .u32 (last : Int), .int .i64 max], .int .u32 0] w fun e w' => FindE n last 0 V e ∧ Below w.heap.size w w' := by
  have HV0 := Lib.hid hV
  have HV := Lib.hid (hV.later ((Below.refl _ _).alloc (Nat.le_refl _) _ : Below w.heap.size w (w.alloc (.cells #[.slice oa n cp, .int .u32 (last : Int), .int .i64 max] 79))))
  have HS := Lib.hid h
  have HN := Lib.hid hn
  have hn8 : (n : Int) ≤ 8 := by have := h.1.2.1; have := h.1.2.2.1; omega

  clear hV h hn
  go_enter Tryd.func90, Tryd.ntmps90
  go_wp2_with fail
  refine (check_yes oa n cp last max V _ HN.out hl HV.out HS.out).mono ?_
  rintro e w1 ⟨rfl, hb⟩
  have hX : Blk w1 w.heap.size #[.slice oa n cp, .int .u32 (last : Int), .int .i64 max] 79 := Blk.below (Blk.new _ _ _) hb (by simp)
  have x0 : w1.cell? ⟨w.heap.size, 0, none⟩ = some (.slice oa n cp) := Blk.cell hX 0
  have x1 : w1.cell? ⟨w.heap.size, 1, none⟩ = some (.int .u32 (last : Int)) := Blk.cell hX 1
  have hO1 : Below w.heap.size w w1 := ((Below.refl _ _).alloc (Nat.le_refl _) _).trans (hb.mono (by simp))
  have HO1 := Lib.hid hO1
  clear hX hb hO1
  go_wp2_with fail
  go_loopw [21] (fun i wr => ∃ k : Nat, k ≤ n ∧ i = .int .i64 k ∧ (∀ i, i < k → (V i).n ≠ last) ∧ Below w.heap.size w wr) (fun i _ => n - (intOf i).toNat)
  case atStart => exact ⟨0, Nat.zero_le _, rfl, fun i hi => by omega, HO1.out⟩
  case round =>
    obtain ⟨k, hk, rfl, hG, hO⟩ := hrel
    have HG := Lib.hid hG
    clear hG
    by_cases hlt : k < n
    · obtain ⟨b, off, od, cap, rfl, hB, hno, hlc, hcm, c0, c1, c2, c3⟩ := (Vers.later HV0.out hO).get k hlt
      have k0 : (0 : Int) ≤ (k : Int) := by omega
      have k1 : (k : Int) < (n : Int) := by omega
      clear hB hno hlc hcm
      obtain ⟨m, hm⟩ : ∃ m, (V k).n = m := ⟨_, rfl⟩
      rw [hm] at c0
      have HM := Lib.hid hm
      clear hm
      generalize (V k).len = len at *
      generalize (V k).t = t at *
      generalize (V k).st = st at *
      by_cases he : m = last
      · have he' : ((m : Int) == (last : Int)) = true := by rw [beq_iff_eq]; omega
        have HE := Lib.hid he
        clear he
        go_wp2_with fail
        go_ret2
        exact ⟨.inl ⟨k, hlt, by rw [HM.out, HE.out]; unfold seek; rfl, rfl⟩, hO.alloc hO.size _⟩
      · have he' : ((m : Int) == (last : Int)) = false := by rw [beq_eq_false_iff_ne]; omega
        have HE := Lib.hid he
        clear he
        have HO2 := Lib.hid (hO.alloc hO.size (.cells #[.int .u32 (m : Int), .slice od len cap, .int .u64 (t : Int), .int .i64 st] 86))
        clear hO
        go_wp2_with fail
        go_roundw
        case rel => exact ⟨k + 1, by omega, by go_num, (fun i hi => by
          rcases Nat.lt_or_ge i k with h | h
          · exact HG.out i h
          · obtain rfl : i = k := by omega
            rw [HM.out]; exact HE.out), HO2.out⟩
        case measure => simp [intOf]; omega
    · obtain rfl : k = n := by omega
      go_wp2_with fail
      go_ret2
      exact ⟨.inr ⟨fun i hi => by unfold seek; exact HG.out i hi, rfl⟩, hO⟩
set_option maxRecDepth 100000 in
set_option maxHeartbeats 2000000 in
theorem find_some (oa : Option Addr) (n cp last : Nat) (max : Int) (V : Nat → Ver) (w : World) (hn : n ≤ maxLen) (hl : last < 4294967296) (hV : Vers w oa n V) (q : Nat) (hq : q ≠ 0) (h : SecOk n last max V) :
    Calls Tryd.prog 90 #[.agg #[.slice oa n cp, .int .u32 (last : Int), .int .i64 max], .int .u32 (q : Int)] w fun e w' => FindE n last q V e ∧ Below w.heap.size w w' := by
  have HV0 := Lib.hid hV
  have HV := Lib.hid (hV.later ((Below.refl _ _).alloc (Nat.le_refl _) _ : Below w.heap.size w (w.alloc (.cells #[.slice oa n cp, .int .u32 (last : Int), .int .i64 max] 79))))
  have HS := Lib.hid h
  have HN := Lib.hid hn
  have hn8 : (n : Int) ≤ 8 := by have := h.1.2.1; have := h.1.2.2.1; omega
  have hq0 : ((q : Int) == 0) = false := by rw [beq_eq_false_iff_ne]; omega
  have HQ := Lib.hid hq
  clear hq
  clear hV h hn
  go_enter Tryd.func90, Tryd.ntmps90
  go_wp2_with fail
  refine (check_yes oa n cp last max V _ HN.out hl HV.out HS.out).mono ?_
  rintro e w1 ⟨rfl, hb⟩
  have hX : Blk w1 w.heap.size #[.slice oa n cp, .int .u32 (last : Int), .int .i64 max] 79 := Blk.below (Blk.new _ _ _) hb (by simp)
  have x0 : w1.cell? ⟨w.heap.size, 0, none⟩ = some (.slice oa n cp) := Blk.cell hX 0
  have x1 : w1.cell? ⟨w.heap.size, 1, none⟩ = some (.int .u32 (last : Int)) := Blk.cell hX 1
  have hO1 : Below w.heap.size w w1 := ((Below.refl _ _).alloc (Nat.le_refl _) _).trans (hb.mono (by simp))
  have HO1 := Lib.hid hO1
  clear hX hb hO1
  go_wp2_with fail
  go_loopw [21] (fun i wr => ∃ k : Nat, k ≤ n ∧ i = .int .i64 k ∧ (∀ i, i < k → (V i).n ≠ q) ∧ Below w.heap.size w wr) (fun i _ => n - (intOf i).toNat)
  case atStart => exact ⟨0, Nat.zero_le _, rfl, fun i hi => by omega, HO1.out⟩
  case round =>
    obtain ⟨k, hk, rfl, hG, hO⟩ := hrel
    have HG := Lib.hid hG
    clear hG
    by_cases hlt : k < n
    · obtain ⟨b, off, od, cap, rfl, hB, hno, hlc, hcm, c0, c1, c2, c3⟩ := (Vers.later HV0.out hO).get k hlt
      have k0 : (0 : Int) ≤ (k : Int) := by omega
      have k1 : (k : Int) < (n : Int) := by omega
      clear hB hno hlc hcm
      obtain ⟨m, hm⟩ : ∃ m, (V k).n = m := ⟨_, rfl⟩
      rw [hm] at c0
      have HM := Lib.hid hm
      clear hm
      generalize (V k).len = len at *
      generalize (V k).t = t at *
      generalize (V k).st = st at *
      by_cases he : m = q
      · have he' : ((m : Int) == (q : Int)) = true := by rw [beq_iff_eq]; omega
        have HE := Lib.hid he
        clear he
        go_wp2_with fail
        go_ret2
        exact ⟨.inl ⟨k, hlt, by rw [HM.out, HE.out]; unfold seek; rw [if_neg HQ.out], rfl⟩, hO.alloc hO.size _⟩
      · have he' : ((m : Int) == (q : Int)) = false := by rw [beq_eq_false_iff_ne]; omega
        have HE := Lib.hid he
        clear he
        have HO2 := Lib.hid (hO.alloc hO.size (.cells #[.int .u32 (m : Int), .slice od len cap, .int .u64 (t : Int), .int .i64 st] 86))
        clear hO
        go_wp2_with fail
        go_roundw
        case rel => exact ⟨k + 1, by omega, by go_num, (fun i hi => by
          rcases Nat.lt_or_ge i k with h | h
          · exact HG.out i h
          · obtain rfl : i = k := by omega
            rw [HM.out]; exact HE.out), HO2.out⟩
        case measure => simp [intOf]; omega
    · obtain rfl : k = n := by omega
      go_wp2_with fail
      go_ret2
      exact ⟨.inr ⟨fun i hi => by unfold seek; rw [if_neg HQ.out]; exact HG.out i hi, rfl⟩, hO⟩
theorem find_any (oa : Option Addr) (n cp last : Nat) (max : Int) (V : Nat → Ver) (w : World) (hn : n ≤ maxLen) (hl : last < 4294967296) (hV : Vers w oa n V) (q : Nat) (h : SecOk n last max V) :
    Calls Tryd.prog 90 #[.agg #[.slice oa n cp, .int .u32 (last : Int), .int .i64 max], .int .u32 (q : Int)] w fun e w' => FindE n last q V e ∧ Below w.heap.size w w' := by
  by_cases hq : q = 0
  · subst hq; exact find_zero oa n cp last max V w hn hl hV h
  · exact find_some oa n cp last max V w hn hl hV q hq h
theorem field_L (a : Option Addr) (l c : Nat) (x y : Int) (w : World) : (Instr.field 79 (.agg #[.slice a l c, .int .u32 x, .int .i64 y]) 0).run Tryd.prog w = .ok (.slice a l c) w := by kernel_rfl
theorem num_inj {n last : Nat} {max : Int} {V : Nat → Ver} (h : SecOk n last max V) {i j : Nat} (hi : i < n) (hj : j < n) (he : (V i).n = (V j).n) : i = j := by
  have h1 := (h.2 i hi).1
  have h2 := (h.2 j hj).1
  omega
theorem find_hit (oa : Option Addr) (n cp last : Nat) (max : Int) (V : Nat → Ver) (w : World) (hn : n ≤ maxLen) (hl : last < 4294967296) (hV : Vers w oa n V) (q i : Nat) (h : SecOk n last max V) (hi : i < n) (he : (V i).n = seek last q) :
    Calls Tryd.prog 90 #[.agg #[.slice oa n cp, .int .u32 (last : Int), .int .i64 max], .int .u32 (q : Int)] w fun e w' => e = .returned (.tuple #[.int .i64 (i : Nat), .nilIface]) ∧ Below w.heap.size w w' :=
  (find_any oa n cp last max V w hn hl hV q h).mono fun e w' ⟨hE, hb⟩ => ⟨by
    rcases hE with ⟨k, hk, hv, rfl⟩ | ⟨hno, _⟩
    · rw [num_inj h hi hk (he.trans hv.symm)]
    · exact absurd he (hno i hi), hb⟩
theorem find_miss (oa : Option Addr) (n cp last : Nat) (max : Int) (V : Nat → Ver) (w : World) (hn : n ≤ maxLen) (hl : last < 4294967296) (hV : Vers w oa n V) (q : Nat) (h : SecOk n last max V) (hno : ∀ i, i < n → (V i).n ≠ seek last q) :
    Calls Tryd.prog 90 #[.agg #[.slice oa n cp, .int .u32 (last : Int), .int .i64 max], .int .u32 (q : Int)] w fun e w' => e = .returned (.tuple #[.int .i64 0, .iface 146 (.int .i64 5)]) ∧ Below w.heap.size w w' :=
  (find_any oa n cp last max V w hn hl hV q h).mono fun e w' ⟨hE, hb⟩ => ⟨by
    rcases hE with ⟨k, hk, hv, rfl⟩ | ⟨_, rfl⟩
    · exact absurd hv (hno k hk)
    · rfl, hb⟩
set_option maxRecDepth 100000 in
set_option maxHeartbeats 1000000 in
theorem get_bad (oa : Option Addr) (n cp last : Nat) (max : Int) (V : Nat → Ver) (w : World) (hn : n ≤ maxLen) (hl : last < 4294967296) (hV : Vers w oa n V) (q : Nat) (h : ¬ SecOk n last max V) :
    Calls Tryd.prog 45 #[.agg #[.slice oa n cp, .int .u32 (last : Int), .int .i64 max], .int .u32 (q : Int)] w fun e w' => e = .returned (.tuple #[.agg #[.int .u32 0, .slice none 0 0, .int .u64 0, .int .i64 0], .iface 146 (.int .i64 1)]) ∧ Below w.heap.size w w' := by
  have HV := Lib.hid (hV.later (((Below.refl _ _).alloc (Nat.le_refl _) _).alloc (by simp) _ : Below w.heap.size w ((w.alloc (.cells #[.slice oa n cp, .int .u32 (last : Int), .int .i64 max] 79)).alloc (.cells #[.int .u32 0, .slice none 0 0, .int .u64 0, .int .i64 0] 86))))
  have HF := Lib.hid fun w2 (hV2 : Vers w2 oa n V) => find_bad oa n cp last max V w2 hn hl hV2 q h
  clear hV hn
  go_enter Tryd.func45, Tryd.ntmps45
  go_wp2_with fail
  refine (HF.out _ HV.out).mono ?_
  rintro e w1 ⟨rfl, hb⟩
  have hX : Blk w1 (w.heap.size + 1) #[.int .u32 0, .slice none 0 0, .int .u64 0, .int .i64 0] 86 := Blk.below (blk2' _ _ _ _ _) hb (by simp)
  have hO : Below w.heap.size w w1 := (((Below.refl _ _).alloc (Nat.le_refl _) _).alloc (by simp) _).trans (hb.mono (by simp; omega))
  have s0 : w1.cell? ⟨w.heap.size + 1, 0, none⟩ = some (.int .u32 0) := Blk.cell hX 0
  have z0 : w1.frozen? ⟨w.heap.size + 1, 0, none⟩ = false := Blk.free hX 0
  have s1 : w1.cell? ⟨w.heap.size + 1, 1, none⟩ = some (.slice none 0 0) := Blk.cell hX 1
  have z1 : w1.frozen? ⟨w.heap.size + 1, 1, none⟩ = false := Blk.free hX 1
  have s2 : w1.cell? ⟨w.heap.size + 1, 2, none⟩ = some (.int .u64 0) := Blk.cell hX 2
  have z2 : w1.frozen? ⟨w.heap.size + 1, 2, none⟩ = false := Blk.free hX 2
  have s3 : w1.cell? ⟨w.heap.size + 1, 3, none⟩ = some (.int .i64 0) := Blk.cell hX 3
  have z3 : w1.frozen? ⟨w.heap.size + 1, 3, none⟩ = false := Blk.free hX 3
  have a0 : (w1.setCell ⟨w.heap.size + 1, 0, none⟩ (.int .u32 0)).cell? ⟨w.heap.size + 1, 0, none⟩ = some (.int .u32 0) := Blk.cell (Blk.set hX 0 _) 0
  have a1 : ((w1.setCell ⟨w.heap.size + 1, 0, none⟩ (.int .u32 0)).setCell ⟨w.heap.size + 1, 1, none⟩ (.slice none 0 0)).cell? ⟨w.heap.size + 1, 1, none⟩ = some (.slice none 0 0) := Blk.cell (Blk.set (Blk.set hX 0 _) 1 _) 1
  have a2 : (((w1.setCell ⟨w.heap.size + 1, 0, none⟩ (.int .u32 0)).setCell ⟨w.heap.size + 1, 1, none⟩ (.slice none 0 0)).setCell ⟨w.heap.size + 1, 2, none⟩ (.int .u64 0)).cell? ⟨w.heap.size + 1, 2, none⟩ = some (.int .u64 0) := Blk.cell (Blk.set (Blk.set (Blk.set hX 0 _) 1 _) 2 _) 2
  have a3 : ((((w1.setCell ⟨w.heap.size + 1, 0, none⟩ (.int .u32 0)).setCell ⟨w.heap.size + 1, 1, none⟩ (.slice none 0 0)).setCell ⟨w.heap.size + 1, 2, none⟩ (.int .u64 0)).setCell ⟨w.heap.size + 1, 3, none⟩ (.int .i64 0)).cell? ⟨w.heap.size + 1, 3, none⟩ = some (.int .i64 0) := Blk.cell (Blk.set (Blk.set (Blk.set (Blk.set hX 0 _) 1 _) 2 _) 3 _) 3
  have A0 := Lib.hid a0
  have A1 := Lib.hid a1
  have A2 := Lib.hid a2
  have A3 := Lib.hid a3
  clear a0 a1 a2 a3
  have HO := Lib.hid hO
  clear hX hb hO
  go_wp2_with fail
  refine bodyPost_ret (v := .tuple #[.agg #[.int .u32 0, .slice none 0 0, .int .u64 0, .int .i64 0], .iface 146 (.int .i64 1)]) ?_ rfl ⟨rfl, ?_⟩
  · simp [results, Tryd.results45, go_sem, A0.out, A1.out, A2.out, A3.out]
  · exact ((((HO.out).setCell (by simp) _).setCell (by simp) _).setCell (by simp) _).setCell (by simp) _
set_option maxRecDepth 100000 in
set_option maxHeartbeats 1000000 in
theorem get_none (oa : Option Addr) (n cp last : Nat) (max : Int) (V : Nat → Ver) (w : World) (hn : n ≤ maxLen) (hl : last < 4294967296) (hV : Vers w oa n V) (q : Nat) (h : SecOk n last max V) (hno : ∀ i, i < n → (V i).n ≠ seek last q) :
    Calls Tryd.prog 45 #[.agg #[.slice oa n cp, .int .u32 (last : Int), .int .i64 max], .int .u32 (q : Int)] w fun e w' => e = .returned (.tuple #[.agg #[.int .u32 0, .slice none 0 0, .int .u64 0, .int .i64 0], .iface 146 (.int .i64 5)]) ∧ Below w.heap.size w w' := by
  have HV := Lib.hid (hV.later (((Below.refl _ _).alloc (Nat.le_refl _) _).alloc (by simp) _ : Below w.heap.size w ((w.alloc (.cells #[.slice oa n cp, .int .u32 (last : Int), .int .i64 max] 79)).alloc (.cells #[.int .u32 0, .slice none 0 0, .int .u64 0, .int .i64 0] 86))))
  have HF := Lib.hid fun w2 (hV2 : Vers w2 oa n V) => find_miss oa n cp last max V w2 hn hl hV2 q h hno
  clear hV hn
  go_enter Tryd.func45, Tryd.ntmps45
  go_wp2_with fail
  refine (HF.out _ HV.out).mono ?_
  rintro e w1 ⟨rfl, hb⟩
  have hX : Blk w1 (w.heap.size + 1) #[.int .u32 0, .slice none 0 0, .int .u64 0, .int .i64 0] 86 := Blk.below (blk2' _ _ _ _ _) hb (by simp)
  have hO : Below w.heap.size w w1 := (((Below.refl _ _).alloc (Nat.le_refl _) _).alloc (by simp) _).trans (hb.mono (by simp; omega))
  have s0 : w1.cell? ⟨w.heap.size + 1, 0, none⟩ = some (.int .u32 0) := Blk.cell hX 0
  have z0 : w1.frozen? ⟨w.heap.size + 1, 0, none⟩ = false := Blk.free hX 0
  have s1 : w1.cell? ⟨w.heap.size + 1, 1, none⟩ = some (.slice none 0 0) := Blk.cell hX 1
  have z1 : w1.frozen? ⟨w.heap.size + 1, 1, none⟩ = false := Blk.free hX 1
  have s2 : w1.cell? ⟨w.heap.size + 1, 2, none⟩ = some (.int .u64 0) := Blk.cell hX 2
  have z2 : w1.frozen? ⟨w.heap.size + 1, 2, none⟩ = false := Blk.free hX 2
  have s3 : w1.cell? ⟨w.heap.size + 1, 3, none⟩ = some (.int .i64 0) := Blk.cell hX 3
  have z3 : w1.frozen? ⟨w.heap.size + 1, 3, none⟩ = false := Blk.free hX 3
  have a0 : (w1.setCell ⟨w.heap.size + 1, 0, none⟩ (.int .u32 0)).cell? ⟨w.heap.size + 1, 0, none⟩ = some (.int .u32 0) := Blk.cell (Blk.set hX 0 _) 0
  have a1 : ((w1.setCell ⟨w.heap.size + 1, 0, none⟩ (.int .u32 0)).setCell ⟨w.heap.size + 1, 1, none⟩ (.slice none 0 0)).cell? ⟨w.heap.size + 1, 1, none⟩ = some (.slice none 0 0) := Blk.cell (Blk.set (Blk.set hX 0 _) 1 _) 1
  have a2 : (((w1.setCell ⟨w.heap.size + 1, 0, none⟩ (.int .u32 0)).setCell ⟨w.heap.size + 1, 1, none⟩ (.slice none 0 0)).setCell ⟨w.heap.size + 1, 2, none⟩ (.int .u64 0)).cell? ⟨w.heap.size + 1, 2, none⟩ = some (.int .u64 0) := Blk.cell (Blk.set (Blk.set (Blk.set hX 0 _) 1 _) 2 _) 2
  have a3 : ((((w1.setCell ⟨w.heap.size + 1, 0, none⟩ (.int .u32 0)).setCell ⟨w.heap.size + 1, 1, none⟩ (.slice none 0 0)).setCell ⟨w.heap.size + 1, 2, none⟩ (.int .u64 0)).setCell ⟨w.heap.size + 1, 3, none⟩ (.int .i64 0)).cell? ⟨w.heap.size + 1, 3, none⟩ = some (.int .i64 0) := Blk.cell (Blk.set (Blk.set (Blk.set (Blk.set hX 0 _) 1 _) 2 _) 3 _) 3
  have A0 := Lib.hid a0
  have A1 := Lib.hid a1
  have A2 := Lib.hid a2
  have A3 := Lib.hid a3
  clear a0 a1 a2 a3
  have HO := Lib.hid hO
  clear hX hb hO
  go_wp2_with fail
  refine bodyPost_ret (v := .tuple #[.agg #[.int .u32 0, .slice none 0 0, .int .u64 0, .int .i64 0], .iface 146 (.int .i64 5)]) ?_ rfl ⟨rfl, ?_⟩
  · simp [results, Tryd.results45, go_sem, A0.out, A1.out, A2.out, A3.out]
  · exact ((((HO.out).setCell (by simp) _).setCell (by simp) _).setCell (by simp) _).setCell (by simp) _
set_option maxRecDepth 100000 in
set_option maxHeartbeats 2000000 in
theorem get_gone (oa : Option Addr) (n cp last : Nat) (max : Int) (V : Nat → Ver) (w : World) (hn : n ≤ maxLen) (hl : last < 4294967296) (hV : Vers w oa n V) (q i : Nat) (h : SecOk n last max V) (hi : i < n) (he : (V i).n = seek last q) (hst : (V i).st ≠ 0) :
    Calls Tryd.prog 45 #[.agg #[.slice oa n cp, .int .u32 (last : Int), .int .i64 max], .int .u32 (q : Int)] w fun e w' => e = .returned (.tuple #[.agg #[.int .u32 0, .slice none 0 0, .int .u64 0, .int .i64 0], .iface 146 (.int .i64 21)]) ∧ Below w.heap.size w w' := by
  have HV0 := Lib.hid hV
  have HV := Lib.hid (hV.later (((Below.refl _ _).alloc (Nat.le_refl _) _).alloc (by simp) _ : Below w.heap.size w ((w.alloc (.cells #[.slice oa n cp, .int .u32 (last : Int), .int .i64 max] 79)).alloc (.cells #[.int .u32 0, .slice none 0 0, .int .u64 0, .int .i64 0] 86))))
  have HF := Lib.hid fun w2 (hV2 : Vers w2 oa n V) => find_hit oa n cp last max V w2 hn hl hV2 q i h hi he
  have hfd := field_L
  have HL := Lib.hid fun j (hj : j < n) => (h.2 j hj).2.1
  have HN := Lib.hid (show n ≤ 1000 by have := h.1.2.1; have := h.1.2.2.1; omega)
  have HI := Lib.hid hi
  have HE := Lib.hid he
  obtain ⟨b, off, od, cap, rfl, hB, hno, hlc, hcm, c0, c1, c2, c3⟩ := hV.get i hi
  have i0 : (0 : Int) ≤ (i : Int) := by omega
  have i1 : (i : Int) < (n : Int) := by omega
  obtain ⟨st, hs⟩ : ∃ s, (V i).st = s := ⟨_, rfl⟩
  rw [hs] at c3 hst
  have hst' : (st != 0) = true := by rw [bne_iff_ne]; exact hst
  clear hV hn h he hi hst hB hno hlc hcm hs
  go_enter Tryd.func45, Tryd.ntmps45
  go_wp2_with fail
  refine (HF.out _ HV.out).mono ?_
  rintro e w1 ⟨rfl, hb⟩
  have hX : Blk w1 (w.heap.size + 1) #[.int .u32 0, .slice none 0 0, .int .u64 0, .int .i64 0] 86 := Blk.below (blk2' _ _ _ _ _) hb (by simp)
  have hS : Blk w1 w.heap.size #[.slice (some ⟨b, off, none⟩) n cp, .int .u32 (last : Int), .int .i64 max] 79 := Blk.below (blk2 _ _ _ _ _) hb (by simp; omega)
  have hO : Below w.heap.size w w1 := (((Below.refl _ _).alloc (Nat.le_refl _) _).alloc (by simp) _).trans (hb.mono (by simp; omega))
  have x0 : w1.cell? ⟨w.heap.size, 0, none⟩ = some (.slice (some ⟨b, off, none⟩) n cp) := Blk.cell hS 0
  have x1 : w1.cell? ⟨w.heap.size, 1, none⟩ = some (.int .u32 (last : Int)) := Blk.cell hS 1
  have x2 : w1.cell? ⟨w.heap.size, 2, none⟩ = some (.int .i64 max) := Blk.cell hS 2
  have d3 := cell_below hO c3
  have s0 : w1.cell? ⟨w.heap.size + 1, 0, none⟩ = some (.int .u32 0) := Blk.cell hX 0
  have z0 : w1.frozen? ⟨w.heap.size + 1, 0, none⟩ = false := Blk.free hX 0
  have s1 : w1.cell? ⟨w.heap.size + 1, 1, none⟩ = some (.slice none 0 0) := Blk.cell hX 1
  have z1 : w1.frozen? ⟨w.heap.size + 1, 1, none⟩ = false := Blk.free hX 1
  have s2 : w1.cell? ⟨w.heap.size + 1, 2, none⟩ = some (.int .u64 0) := Blk.cell hX 2
  have z2 : w1.frozen? ⟨w.heap.size + 1, 2, none⟩ = false := Blk.free hX 2
  have s3 : w1.cell? ⟨w.heap.size + 1, 3, none⟩ = some (.int .i64 0) := Blk.cell hX 3
  have z3 : w1.frozen? ⟨w.heap.size + 1, 3, none⟩ = false := Blk.free hX 3
  have a0 : (w1.setCell ⟨w.heap.size + 1, 0, none⟩ (.int .u32 0)).cell? ⟨w.heap.size + 1, 0, none⟩ = some (.int .u32 0) := Blk.cell (Blk.set hX 0 _) 0
  have a1 : ((w1.setCell ⟨w.heap.size + 1, 0, none⟩ (.int .u32 0)).setCell ⟨w.heap.size + 1, 1, none⟩ (.slice none 0 0)).cell? ⟨w.heap.size + 1, 1, none⟩ = some (.slice none 0 0) := Blk.cell (Blk.set (Blk.set hX 0 _) 1 _) 1
  have a2 : (((w1.setCell ⟨w.heap.size + 1, 0, none⟩ (.int .u32 0)).setCell ⟨w.heap.size + 1, 1, none⟩ (.slice none 0 0)).setCell ⟨w.heap.size + 1, 2, none⟩ (.int .u64 0)).cell? ⟨w.heap.size + 1, 2, none⟩ = some (.int .u64 0) := Blk.cell (Blk.set (Blk.set (Blk.set hX 0 _) 1 _) 2 _) 2
  have a3 : ((((w1.setCell ⟨w.heap.size + 1, 0, none⟩ (.int .u32 0)).setCell ⟨w.heap.size + 1, 1, none⟩ (.slice none 0 0)).setCell ⟨w.heap.size + 1, 2, none⟩ (.int .u64 0)).setCell ⟨w.heap.size + 1, 3, none⟩ (.int .i64 0)).cell? ⟨w.heap.size + 1, 3, none⟩ = some (.int .i64 0) := Blk.cell (Blk.set (Blk.set (Blk.set (Blk.set hX 0 _) 1 _) 2 _) 3 _) 3
  have A0 := Lib.hid a0
  have A1 := Lib.hid a1
  have A2 := Lib.hid a2
  have A3 := Lib.hid a3
  clear a0 a1 a2 a3
  have HO := Lib.hid hO
  clear hX hb hO hS c0 c1 c2 c3
  go_wp2_with fail
  refine bodyPost_ret (v := .tuple #[.agg #[.int .u32 0, .slice none 0 0, .int .u64 0, .int .i64 0], .iface 146 (.int .i64 21)]) ?_ rfl ⟨rfl, ?_⟩
  · simp [results, Tryd.results45, go_sem, A0.out, A1.out, A2.out, A3.out]
  · exact ((((HO.out).setCell (by simp) _).setCell (by simp) _).setCell (by simp) _).setCell (by simp) _
set_option maxRecDepth 100000 in
set_option maxHeartbeats 2000000 in
theorem get_ok (oa : Option Addr) (n cp last : Nat) (max : Int) (V : Nat → Ver) (w : World) (hn : n ≤ maxLen) (hl : last < 4294967296) (hV : Vers w oa n V) (q i : Nat) (h : SecOk n last max V) (hi : i < n) (he : (V i).n = seek last q) (hst : (V i).st = 0) :
    Calls Tryd.prog 45 #[.agg #[.slice oa n cp, .int .u32 (last : Int), .int .i64 max], .int .u32 (q : Int)] w fun e w' => ∃ od cap, e = .returned (.tuple #[.agg #[.int .u32 ((V i).n : Int), .slice od (V i).len cap, .int .u64 ((V i).t : Int), .int .i64 0], .nilIface]) ∧ Bytes w' od (V i).len (V i).f ∧ (od = none → (V i).len = 0) ∧ Below w.heap.size w w' := by
  have HV0 := Lib.hid hV
  have HV := Lib.hid (hV.later (((Below.refl _ _).alloc (Nat.le_refl _) _).alloc (by simp) _ : Below w.heap.size w ((w.alloc (.cells #[.slice oa n cp, .int .u32 (last : Int), .int .i64 max] 79)).alloc (.cells #[.int .u32 0, .slice none 0 0, .int .u64 0, .int .i64 0] 86))))
  have HF := Lib.hid fun w2 (hV2 : Vers w2 oa n V) => find_hit oa n cp last max V w2 hn hl hV2 q i h hi he
  have hfd := field_L
  have HL := Lib.hid fun j (hj : j < n) => (h.2 j hj).2.1
  have HN := Lib.hid (show n ≤ 1000 by have := h.1.2.1; have := h.1.2.2.1; omega)
  have HI := Lib.hid hi
  have HE := Lib.hid he
  obtain ⟨b, off, od, cap, rfl, hB, hno, hlc, hcm, c0, c1, c2, c3⟩ := hV.get i hi
  have i0 : (0 : Int) ≤ (i : Int) := by omega
  have i1 : (i : Int) < (n : Int) := by omega
  rw [hst] at c3
  have HST := Lib.hid hst
  clear hV hn h he hi hst hB hno hlc hcm 
  go_enter Tryd.func45, Tryd.ntmps45
  go_wp2_with fail
  refine (HF.out _ HV.out).mono ?_
  rintro e w1 ⟨rfl, hb⟩
  have hX : Blk w1 (w.heap.size + 1) #[.int .u32 0, .slice none 0 0, .int .u64 0, .int .i64 0] 86 := Blk.below (blk2' _ _ _ _ _) hb (by simp)
  have hS : Blk w1 w.heap.size #[.slice (some ⟨b, off, none⟩) n cp, .int .u32 (last : Int), .int .i64 max] 79 := Blk.below (blk2 _ _ _ _ _) hb (by simp; omega)
  have hO : Below w.heap.size w w1 := (((Below.refl _ _).alloc (Nat.le_refl _) _).alloc (by simp) _).trans (hb.mono (by simp; omega))
  have x0 : w1.cell? ⟨w.heap.size, 0, none⟩ = some (.slice (some ⟨b, off, none⟩) n cp) := Blk.cell hS 0
  have x1 : w1.cell? ⟨w.heap.size, 1, none⟩ = some (.int .u32 (last : Int)) := Blk.cell hS 1
  have x2 : w1.cell? ⟨w.heap.size, 2, none⟩ = some (.int .i64 max) := Blk.cell hS 2
  have d3 := cell_below hO c3
  have HX := Lib.hid hX
  have HO := Lib.hid hO
  have HV1 := Lib.hid (HV0.out.later hO)
  clear hX hb hO hS c0 c1 c2 c3
  go_wp2_with fail
  refine (copied_any _ n cp _ _ V _ HV1.out HL.out HN.out).mono ?_
  rintro e w2 ⟨v, rfl, hG, hb2⟩
  obtain ⟨ov, cv, rfl, hcv, hcm, hVv⟩ := hG.vers
  obtain ⟨b2, off2, od2, cap2, rfl, hB2, hno2, hlc2, hcm2, g0, g1, g2, g3⟩ := hVv.get i HI.out
  have hX2 := Blk.below HX.out hb2 (Blk.lt HX.out)
  have hO2 := HO.out.trans (hb2.mono HO.out.size)
  rw [HST.out] at g3
  have HBB := Lib.hid hB2
  have HNN := Lib.hid hno2
  have hle : n ≤ cv := hcv
  clear hlc2 hcm2 hVv hG hcm
  have hB3 := hB2.set_apart (k := 0) (x := .int .u32 ((V i).n : Int)) hX2 no_u8_4
  have hB4 := hB3.set_apart (k := 1) (x := .slice od2 (V i).len cap2) (Blk.set hX2 0 _) no_u8_4
  have hB5 := hB4.set_apart (k := 2) (x := .int .u64 ((V i).t : Int)) (Blk.set (Blk.set hX2 0 _) 1 _) no_u8_4
  have hB6 := hB5.set_apart (k := 3) (x := .int .i64 0) (Blk.set (Blk.set (Blk.set hX2 0 _) 1 _) 2 _) no_u8_4
  have HB6 := Lib.hid hB6
  have HNo := Lib.hid hno2
  have HO2 := Lib.hid hO2
  have s0 : w2.cell? ⟨w.heap.size + 1, 0, none⟩ = some (.int .u32 0) := Blk.cell hX2 0
  have z0 : w2.frozen? ⟨w.heap.size + 1, 0, none⟩ = false := Blk.free hX2 0
  have s1 : w2.cell? ⟨w.heap.size + 1, 1, none⟩ = some (.slice none 0 0) := Blk.cell hX2 1
  have z1 : w2.frozen? ⟨w.heap.size + 1, 1, none⟩ = false := Blk.free hX2 1
  have s2 : w2.cell? ⟨w.heap.size + 1, 2, none⟩ = some (.int .u64 0) := Blk.cell hX2 2
  have z2 : w2.frozen? ⟨w.heap.size + 1, 2, none⟩ = false := Blk.free hX2 2
  have s3 : w2.cell? ⟨w.heap.size + 1, 3, none⟩ = some (.int .i64 0) := Blk.cell hX2 3
  have z3 : w2.frozen? ⟨w.heap.size + 1, 3, none⟩ = false := Blk.free hX2 3
  have a0 : (w2.setCell ⟨w.heap.size + 1, 0, none⟩ (.int .u32 ((V i).n : Int))).cell? ⟨w.heap.size + 1, 0, none⟩ = some (.int .u32 ((V i).n : Int)) := Blk.cell (Blk.set hX2 0 _) 0
  have a1 : ((w2.setCell ⟨w.heap.size + 1, 0, none⟩ (.int .u32 ((V i).n : Int))).setCell ⟨w.heap.size + 1, 1, none⟩ (.slice od2 (V i).len cap2)).cell? ⟨w.heap.size + 1, 1, none⟩ = some (.slice od2 (V i).len cap2) := Blk.cell (Blk.set (Blk.set hX2 0 _) 1 _) 1
  have a2 : (((w2.setCell ⟨w.heap.size + 1, 0, none⟩ (.int .u32 ((V i).n : Int))).setCell ⟨w.heap.size + 1, 1, none⟩ (.slice od2 (V i).len cap2)).setCell ⟨w.heap.size + 1, 2, none⟩ (.int .u64 ((V i).t : Int))).cell? ⟨w.heap.size + 1, 2, none⟩ = some (.int .u64 ((V i).t : Int)) := Blk.cell (Blk.set (Blk.set (Blk.set hX2 0 _) 1 _) 2 _) 2
  have a3 : ((((w2.setCell ⟨w.heap.size + 1, 0, none⟩ (.int .u32 ((V i).n : Int))).setCell ⟨w.heap.size + 1, 1, none⟩ (.slice od2 (V i).len cap2)).setCell ⟨w.heap.size + 1, 2, none⟩ (.int .u64 ((V i).t : Int))).setCell ⟨w.heap.size + 1, 3, none⟩ (.int .i64 0)).cell? ⟨w.heap.size + 1, 3, none⟩ = some (.int .i64 0) := Blk.cell (Blk.set (Blk.set (Blk.set (Blk.set hX2 0 _) 1 _) 2 _) 3 _) 3
  have A0 := Lib.hid a0
  have A1 := Lib.hid a1
  have A2 := Lib.hid a2
  have A3 := Lib.hid a3
  clear a0 a1 a2 a3
  clear hX2 hO2 hB2 hB3 hB4 hB5 hB6 hno2 HBB HNN hb2
  go_wp2_with fail
  refine bodyPost_ret (v := .tuple #[.agg #[.int .u32 ((V i).n : Int), .slice od2 (V i).len cap2, .int .u64 ((V i).t : Int), .int .i64 0], .nilIface]) ?_ rfl ⟨od2, cap2, rfl, HB6.out, HNo.out, ?_⟩
  · simp [results, Tryd.results45, go_sem, A0.out, A1.out, A2.out, A3.out]
  · exact ((((HO2.out).setCell (by simp) _).setCell (by simp) _).setCell (by simp) _).setCell (by simp) _
end Go.Proofs.YtkaddilgegimjaaDoor
