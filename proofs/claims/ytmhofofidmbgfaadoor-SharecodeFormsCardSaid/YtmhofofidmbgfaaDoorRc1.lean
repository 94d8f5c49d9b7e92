/- The document's Encode. -/
import Derived.Test.YtmhofofidmbgfaaDoorSc9
namespace Go.Proofs.YtmhofofidmbgfaaDoor
set_option linter.unusedVariables false
set_option linter.unusedSimpArgs false
open Go.RowKit

set_option maxRecDepth 100000 in
set_option maxHeartbeats 4000000 in
theorem rmay04 (ix gen n cap : Nat) (oa : Option Addr) (w : World) (hn : n < 9000000000000000000) :
    Calls Tryd.prog 49 #[.agg #[.int .u8 (ix : Int), .int .u32 (gen : Int), .slice oa n cap]] w fun e w' => ((MayS ix n ∧ e = .returned (.bool true)) ∨ (¬ MayS ix n ∧ e = .returned (.bool false))) ∧ Below w.heap.size w w' := by
  obtain ⟨w0, hw0⟩ : ∃ y, w.alloc (.cells #[.int .u8 (ix : Int), .int .u32 (gen : Int), .slice oa n cap] 46) = y := ⟨_, rfl⟩
  have HB0 : Hid (Below w.heap.size w w0) := Lib.hid (by rw [← hw0]; exact (Below.refl _ _).alloc (Nat.le_refl _) _)
  have HPL : Hid (Blk w0 w.heap.size #[.int .u8 (ix : Int), .int .u32 (gen : Int), .slice oa n cap] 46) := Lib.hid (by rw [← hw0]; exact Blk.new _ _ _)
  have c0 : w0.cell? ⟨w.heap.size, 0, none⟩ = some (.int .u8 (ix : Int)) := by rw [Blk.cell HPL.out]; rfl
  have c2 : w0.cell? ⟨w.heap.size, 2, none⟩ = some (.slice oa n cap) := by rw [Blk.cell HPL.out]; rfl
  by_cases h0 : ix = 0
  · subst h0
    have hm : Hid (¬ MayS 0 n) := Lib.hid fun h => h.1 rfl
    clear hw0 HB0 HPL c0 c2
    go_enter Tryd.func49, Tryd.ntmps49
    go_wp2_with fail
    go_ret
    exact ⟨.inr ⟨hm.out, rfl⟩, (Below.refl _ _).alloc (Nat.le_refl _) _⟩
  have q0 : ((ix : Int) == 0) = false := by rw [beq_eq_false_iff_ne]; omega
  have q0' : (ix : Int) ≠ 0 := by omega
  by_cases h1 : n < 1
  · have q1 : decide ((1 : Int) ≤ (n : Int)) = false := decide_eq_false (by omega)
    have q1' : ¬ (1 : Int) ≤ (n : Int) := by omega
    have hm : Hid (¬ MayS ix n) := Lib.hid fun h => by have := h.2.1; omega
    clear h1
    go_enter Tryd.func49, Tryd.ntmps49
    go_wp2_with fail
    go_ret
    exact ⟨.inr ⟨hm.out, rfl⟩, HB0.out⟩
  have q1 : (1 : Int) ≤ (n : Int) := by omega
  by_cases h2 : 64 < n
  · have q2 : decide ((n : Int) ≤ 64) = false := decide_eq_false (by omega)
    have q2' : ¬ (n : Int) ≤ 64 := by omega
    have hm : Hid (¬ MayS ix n) := Lib.hid fun h => by have := h.2.2; omega
    clear h1 h2
    go_enter Tryd.func49, Tryd.ntmps49
    go_wp2_with fail
    go_ret
    exact ⟨.inr ⟨hm.out, rfl⟩, HB0.out⟩
  have q2 : (n : Int) ≤ 64 := by omega
  have q1d : decide ((1 : Int) ≤ (n : Int)) = true := decide_eq_true q1
  have q2d : decide ((n : Int) ≤ 64) = true := decide_eq_true q2
  have hm : Hid (MayS ix n) := Lib.hid ⟨h0, by omega, by omega⟩
  clear h1 h2 h0
  go_enter Tryd.func49, Tryd.ntmps49
  go_wp2_with fail
  go_ret
  have q0b : ((ix : Int) != 0) = true := by simp [bne, q0]
  exact ⟨.inl ⟨hm.out, by show Ending.returned (Value.bool ((ix : Int) != 0)) = _; rw [q0b]⟩, HB0.out⟩

/-- What the document divides by. -/
def unitN (i : Nat) : Nat := if i = 0 then 16777216 else if i = 1 then 65536 else if i = 2 then 256 else if i = 3 then 1 else 0
theorem unit_enc (ix gen n i : Nat) (f : Nat → Nat) (hi : i < 4) : gen / unitN i % 256 = encF ix gen n f (2 + i) ∧ unitN i / 256 = unitN (i + 1) ∧ 0 < unitN i ∧ unitN i < 4294967296 := by
  match i, hi with
  | 0, _ => exact ⟨rfl, rfl, by decide, by decide⟩
  | 1, _ => exact ⟨rfl, rfl, by decide, by decide⟩
  | 2, _ => exact ⟨rfl, rfl, by decide, by decide⟩
  | 3, _ => exact ⟨by rw [show unitN 3 = 1 from rfl, Nat.div_one]; rfl, rfl, by decide, by decide⟩

set_option maxRecDepth 100000 in
set_option maxHeartbeats 4000000 in
theorem renc_bad (ix gen n cap : Nat) (oa : Option Addr) (w : World) (hn : n < 9000000000000000000) (hm : ¬ MayS ix n) :
    Calls Tryd.prog 29 #[.agg #[.int .u8 (ix : Int), .int .u32 (gen : Int), .slice oa n cap]] w fun e w' => e = .returned (.tuple #[.slice none 0 0, .int .i64 4]) ∧ Below w.heap.size w w' := by
  obtain ⟨w0, hw0⟩ : ∃ y, w.alloc (.cells #[.int .u8 (ix : Int), .int .u32 (gen : Int), .slice oa n cap] 46) = y := ⟨_, rfl⟩
  have HB0 : Hid (Below w.heap.size w w0) := Lib.hid (by rw [← hw0]; exact (Below.refl _ _).alloc (Nat.le_refl _) _)
  have HPL : Hid (Blk w0 w.heap.size #[.int .u8 (ix : Int), .int .u32 (gen : Int), .slice oa n cap] 46) := Lib.hid (by rw [← hw0]; exact Blk.new _ _ _)
  have c0 : w0.cell? ⟨w.heap.size, 0, none⟩ = some (.int .u8 (ix : Int)) := by rw [Blk.cell HPL.out]; rfl
  have c1 : w0.cell? ⟨w.heap.size, 1, none⟩ = some (.int .u32 (gen : Int)) := by rw [Blk.cell HPL.out]; rfl
  have c2 : w0.cell? ⟨w.heap.size, 2, none⟩ = some (.slice oa n cap) := by rw [Blk.cell HPL.out]; rfl
  have HMY := Lib.hid (rmay04 ix gen n cap oa w0 hn)
  have HM := Lib.hid hm
  clear hm hn
  go_enter Tryd.func29, Tryd.ntmps29
  go_wp2_with fail
  refine HMY.out.mono ?_
  rintro e w1 ⟨⟨hmt, -⟩ | ⟨-, rfl⟩, hb⟩
  · exact absurd hmt HM.out
  have HB1 := Lib.hid (HB0.out.trans (hb.mono HB0.out.size))
  clear hb c0 c1 c2
  go_wp2_with fail
  go_ret2
  exact ⟨rfl, HB1.out⟩

set_option maxRecDepth 100000 in
set_option maxHeartbeats 4000000 in
theorem renc_any (ix gen n cap : Nat) (oa : Option Addr) (f : Nat → Nat) (w : World) (hm : MayS ix n) (hix : ix < 256) (hgen : gen < 4294967296) (hB : Bytes w oa n f) :
    Calls Tryd.prog 29 #[.agg #[.int .u8 (ix : Int), .int .u32 (gen : Int), .slice oa n cap]] w fun e w' => ∃ g c, e = .returned (.tuple #[.slice (some ⟨g, 0, none⟩) (8 + n) c, .int .i64 0]) ∧ 8 + n ≤ c ∧ Bytes w' (some ⟨g, 0, none⟩) (8 + n) (encF ix gen n f) ∧ Below w.heap.size w w' := by
  obtain ⟨w0, hw0⟩ : ∃ y, w.alloc (.cells #[.int .u8 (ix : Int), .int .u32 (gen : Int), .slice oa n cap] 46) = y := ⟨_, rfl⟩
  obtain ⟨b1, hb1⟩ : ∃ y, w.heap.size = y := ⟨_, rfl⟩
  have HB0 : Hid (Below w.heap.size w w0) := Lib.hid (by rw [← hw0]; exact (Below.refl _ _).alloc (Nat.le_refl _) _)
  have HPL : Hid (Blk w0 b1 #[.int .u8 (ix : Int), .int .u32 (gen : Int), .slice oa n cap] 46) := Lib.hid (by rw [← hw0, ← hb1]; exact Blk.new _ _ _)
  have HZ : Hid (w0.heap.size = b1 + 1 ∧ w.heap.size = b1) := Lib.hid ⟨by rw [← hw0, ← hb1]; simp, hb1⟩
  have c0 : w0.cell? ⟨b1, 0, none⟩ = some (.int .u8 (ix : Int)) := by rw [Blk.cell HPL.out]; rfl
  have c1 : w0.cell? ⟨b1, 1, none⟩ = some (.int .u32 (gen : Int)) := by rw [Blk.cell HPL.out]; rfl
  have c2 : w0.cell? ⟨b1, 2, none⟩ = some (.slice oa n cap) := by rw [Blk.cell HPL.out]; rfl
  have HS := Lib.hid (hB.later HB0.out)
  have HMY := Lib.hid (rmay04 ix gen n cap oa w0 (by have := hm.2.2; omega))
  have HM := Lib.hid hm
  have HX : Hid (ix < 256 ∧ gen < 4294967296) := Lib.hid ⟨hix, hgen⟩
  have HFB : Hid (∀ i, i < n → f i < 256) := Lib.hid fun i hi => (hB i hi).1
  have HNO : Hid (oa = none → n = 0) := Lib.hid fun e => by
    subst e
    obtain ⟨_, b, off, e2, _⟩ := hB 0 hm.2.1
    cases e2
  clear hm hix hgen hB
  go_enter Tryd.func29, Tryd.ntmps29
  rw [hb1]
  go_wp2_with fail
  refine HMY.out.mono ?_
  rintro e w1 ⟨⟨-, rfl⟩ | ⟨hmt, -⟩, hb⟩
  rotate_left
  · exact absurd HM.out hmt
  have H1 := Lib.hid hb
  have HL1 : Hid (b1 + 1 ≤ w1.heap.size) := Lib.hid (by have := HZ.out.1; have := hb.size; omega)
  have hg0 : Grow (w1.alloc (.cells #[.int .u8 115, .int .u8 104] 5)) (b1 + 1) (.slice (some ⟨w1.heap.size, 0, none⟩) 2 2) 2 (encF ix gen n f) :=
    ⟨rfl, .inr ⟨w1.heap.size, 2, #[.int .u8 115, .int .u8 104], rfl, HL1.out, Blk.new _ _ _, Nat.le_refl _, by unfold maxLen; decide, rfl, rfl⟩⟩
  have HG0 := Lib.hid hg0
  have hbw : Below (b1 + 1) w0 (w1.alloc (.cells #[.int .u8 115, .int .u8 104] 5)) := (hb.mono (by have := HZ.out.1; omega)).trans ((Below.refl _ w1).alloc HL1.out _)
  have HBW := Lib.hid hbw
  clear hb c0 c1 c2 hg0 hbw hw0 HMY
  go_wp2_with fail
  go_loopw [4, 5, 6] (fun x y z wr => ∃ (i : Nat), i ≤ 4 ∧ y = .int .u32 (unitN i : Int) ∧ z = .int .i64 (i : Int) ∧ Grow wr (b1 + 1) x (2 + i) (encF ix gen n f) ∧ Below (b1 + 1) w0 wr) (fun _ _ z _ => 4 - (intOf z).toNat)
  case atStart => exact ⟨0, by decide, rfl, rfl, HG0.out, HBW.out⟩
  case round =>
    obtain ⟨i, hi, rfl, rfl, hG, hW⟩ := hrel
    have hx1 := Blk.below HPL.out hW (Nat.lt_succ_self _)
    have c0 : wr.cell? ⟨b1, 0, none⟩ = some (.int .u8 (ix : Int)) := by rw [Blk.cell hx1]; rfl
    have c1 : wr.cell? ⟨b1, 1, none⟩ = some (.int .u32 (gen : Int)) := by rw [Blk.cell hx1]; rfl
    have c2 : wr.cell? ⟨b1, 2, none⟩ = some (.slice oa n cap) := by rw [Blk.cell hx1]; rfl
    by_cases hlt : i < 4
    · obtain ⟨h1, h2, h3, h4⟩ := unit_enc ix gen n i f hlt
      obtain ⟨u, eu⟩ : ∃ y, unitN i = y := ⟨_, rfl⟩
      obtain ⟨u2, eu2⟩ : ∃ y, unitN (i + 1) = y := ⟨_, rfl⟩
      obtain ⟨b, eb⟩ : ∃ y, encF ix gen n f (2 + i) = y := ⟨_, rfl⟩
      have HE := Lib.hid (show unitN (i + 1) = u2 ∧ encF ix gen n f (2 + i) = b from ⟨eu2, eb⟩)
      rw [eu] at h1 h2 h3 h4 ⊢
      rw [eb] at h1
      rw [eu2] at h2
      obtain ⟨q, eq⟩ : ∃ y, gen / u = y := ⟨_, rfl⟩
      rw [eq] at h1
      have hb256 : b < 256 := by omega
      have d1 : (gen : Int).tdiv (u : Int) = (q : Int) := by rw [Int.tdiv_eq_ediv_of_nonneg (by omega), ← eq]; exact (Int.natCast_ediv _ _).symm
      have d1' : (gen : Int) / (u : Int) = (q : Int) := by rw [← eq]; exact (Int.natCast_ediv _ _).symm
      have d2 : (q : Int).tmod 256 = (b : Int) := by rw [Int.tmod_eq_emod_of_nonneg (by omega)]; omega
      have d2' : (q : Int) % 256 = (b : Int) := by omega
      have d3 : (u : Int).tdiv 256 = (u2 : Int) := by rw [Int.tdiv_eq_ediv_of_nonneg (by omega)]; omega
      have d3' : (u : Int) / 256 = (u2 : Int) := by omega
      have nz : ((u : Int) == 0) = false := by rw [beq_eq_false_iff_ne]; omega
      have nz' : ¬ u = 0 := by omega
      have d4 : (b : Int) % 256 = (b : Int) := by omega
      have HG := Lib.hid hG
      have HW := Lib.hid hW
      have HLW : Hid (b1 + 1 ≤ wr.heap.size) := Lib.hid (by have := HZ.out.1; have := hW.size; omega)
      clear hG hW hx1 c0 c2 eu eu2 eb eq h1 h2
      go_wp2_with (first
        | (refine wpList_appO rfl (.tmp 15) (.tmp 22) rfl (b1 + 1) u4 (2 + i) 1 1 (some ⟨wr.heap.size, 0, none⟩) (encF ix gen n f) (fun _ => b) (wr.alloc (.cells #[.int .u8 (b : Int)] 5)) rfl (HG.out.later ((Below.refl _ _).alloc (Nat.le_refl _) _)) rfl (fun e => by cases e) (one_byte hb256) (by omega) (Nat.le_trans HLW.out (by simp)) ?_
           refine Hid.out ?_))
      refine Lib.hid ?_
      intro v2 w2 hG2 hg2 ho2
      have HG2 : Hid (Grow w2 (b1 + 1) v2 (2 + (i + 1)) (encF ix gen n f)) := Lib.hid (hG2.congr fun k hk => by
        unfold catF
        by_cases e : k < 2 + i
        · rw [if_pos e]
        · rw [if_neg e, show k = 2 + i by omega]; exact HE.out.2.symm)
      have HW2 : Hid (Below (b1 + 1) w0 w2) := Lib.hid (HW.out.trans (((Below.refl _ wr).alloc HLW.out _).trans (grow_bel (HG.out.later ((Below.refl _ _).alloc (Nat.le_refl _) _)) (Nat.le_trans HLW.out (by simp)) hg2)))
      clear hG2 hg2 ho2
      go_wp2_with fail
      go_roundw
      case rel => exact ⟨i + 1, by omega, by rw [HE.out.1], by go_num, HG2.out, HW2.out⟩
      case measure => simp [intOf]; omega
    · obtain rfl : i = 4 := by omega
      have HW := Lib.hid hW
      have HG := Lib.hid hG
      have hn64 := HM.out.2.2
      have v6 : (n : Int) % 256 = (n : Int) := by omega
      have HLW : Hid (b1 + 1 ≤ wr.heap.size) := Lib.hid (by have := HZ.out.1; have := hW.size; omega)
      clear hG hW hx1 c1
      go_wp2_with (first
        | (refine wpList_appO rfl (.tmp 26) (.tmp 33) rfl (b1 + 1) u4 6 2 2 (some ⟨wr.heap.size, 0, none⟩) (encF ix gen n f) (two ix n) (wr.alloc (.cells #[.int .u8 (ix : Int), .int .u8 (n : Int)] 5)) rfl (HG.out.later ((Below.refl _ _).alloc (Nat.le_refl _) _)) rfl (fun e => by cases e) (ob2 HX.out.1 (by have := HM.out.2.2; omega)) (by decide) (Nat.le_trans HLW.out (by simp)) ?_
           refine Hid.out ?_))
      refine Lib.hid ?_
      intro v2 w2 hG2 hg2 ho2
      have HG2 : Hid (Grow w2 (b1 + 1) v2 8 (encF ix gen n f)) := Lib.hid (hG2.congr fun k hk => by
        unfold catF
        by_cases e : k < 6
        · rw [if_pos e]
        · rw [if_neg e]
          by_cases e7 : k = 6
          · subst e7; rw [encF_6]; rfl
          · rw [show k = 7 by omega, encF_7]; rfl)
      have hW2 : Below (b1 + 1) w0 w2 := HW.out.trans (((Below.refl _ wr).alloc HLW.out _).trans (grow_bel (HG.out.later ((Below.refl _ _).alloc (Nat.le_refl _) _)) (Nat.le_trans HLW.out (by simp)) hg2))
      have HW2 := Lib.hid hW2
      have c2 : w2.cell? ⟨b1, 2, none⟩ = some (.slice oa n cap) := by rw [Blk.cell (Blk.below HPL.out hW2 (Nat.lt_succ_self _))]; rfl
      have HL2 : Hid (b1 + 1 ≤ w2.heap.size) := Lib.hid (by have := HLW.out; have := HZ.out.1; have := hW2.size; omega)
      have HS2 : Hid (Bytes w2 oa n f) := Lib.hid (HS.out.later (by rw [HZ.out.1]; exact hW2))
      clear hG2 hg2 ho2 hW2
      go_wp2_with (first
        | (refine wpList_appO rfl (.tmp 35) (.tmp 37) rfl (b1 + 1) v2 8 n cap oa (encF ix gen n f) f w2 rfl HG2.out rfl HNO.out HS2.out (by have := HM.out.2.2; omega) HL2.out ?_
           refine Hid.out ?_))
      refine Lib.hid ?_
      intro v3 w3 hG3 hg3 ho3
      have hG4 : Grow w3 (b1 + 1) v3 (8 + n) (encF ix gen n f) := hG3.congr fun k hk => by
        unfold catF
        by_cases e : k < 8
        · rw [if_pos e]
        · rw [if_neg e]
          obtain ⟨j, rfl⟩ : ∃ j, k = 8 + j := ⟨k - 8, by omega⟩
          rw [encF_hi]; congr 1; omega
      have HW3 := Lib.hid (HW2.out.trans (grow_bel HG2.out HL2.out hg3))
      obtain ⟨g, c, hv, -, hB3, hc, -⟩ := hG4.someN (by omega) (encF_lt HX.out.1 (by have := HM.out.2.2; omega) HFB.out)
      have HR := Lib.hid (And.intro hc hB3)
      subst hv
      clear hG3 hG4 hg3 ho3 hB3 hc
      go_wp2_with fail
      go_ret2
      exact ⟨g, c, rfl, HR.out.1, HR.out.2, by rw [← HZ.out.2]; exact HB0.out.trans (HW3.out.mono (by have := HZ.out.2; omega))⟩
end Go.Proofs.YtmhofofidmbgfaaDoor
