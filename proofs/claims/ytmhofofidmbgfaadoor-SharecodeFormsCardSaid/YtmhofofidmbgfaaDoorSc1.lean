/- sharecode.Encode: the bytes of a part, or the error. -/
import Derived.Test.YtmhofofidmbgfaaDoorSc0
namespace Go.Proofs.YtmhofofidmbgfaaDoor
set_option linter.unusedVariables false
set_option linter.unusedSimpArgs false
open Go.RowKit

def eN : Value := .iface 81 (.int .i64 4)

theorem eight_bytes {x0 x1 x2 x3 x4 x5 x6 x7 : Nat} {g : Nat → Nat} (h0 : x0 = g 0) (h1 : x1 = g 1) (h2 : x2 = g 2) (h3 : x3 = g 3) (h4 : x4 = g 4) (h5 : x5 = g 5) (h6 : x6 = g 6) (h7 : x7 = g 7) (hg : ∀ i, i < 8 → g i < 256) {w : World} :
    Bytes (w.alloc (.cells #[.int .u8 (x0 : Nat), .int .u8 (x1 : Nat), .int .u8 (x2 : Nat), .int .u8 (x3 : Nat), .int .u8 (x4 : Nat), .int .u8 (x5 : Nat), .int .u8 (x6 : Nat), .int .u8 (x7 : Nat)] 5)) (some ⟨w.heap.size, 0, none⟩) 8 g := fun k hk => ⟨hg k hk, w.heap.size, 0, rfl, by
  subst h0 h1 h2 h3 h4 h5 h6 h7
  match k, hk with
  | 0, _ => exact World.cell?_alloc_mark w _ 5 (0, 0) 0
  | 1, _ => exact World.cell?_alloc_mark w _ 5 (0, 0) 1
  | 2, _ => exact World.cell?_alloc_mark w _ 5 (0, 0) 2
  | 3, _ => exact World.cell?_alloc_mark w _ 5 (0, 0) 3
  | 4, _ => exact World.cell?_alloc_mark w _ 5 (0, 0) 4
  | 5, _ => exact World.cell?_alloc_mark w _ 5 (0, 0) 5
  | 6, _ => exact World.cell?_alloc_mark w _ 5 (0, 0) 6
  | 7, _ => exact World.cell?_alloc_mark w _ 5 (0, 0) 7⟩

set_option maxRecDepth 100000 in
set_option maxHeartbeats 4000000 in
theorem enc_bad (ix gen n cap : Nat) (oa : Option Addr) (w : World) (hn : n < 9000000000000000000) (hm : ¬ MayS ix n) :
    Calls Tryd.prog 28 #[.agg #[.int .u8 (ix : Int), .int .u32 (gen : Int), .slice oa n cap]] w fun e w' => e = .returned (.tuple #[.slice none 0 0, eN]) ∧ Below w.heap.size w w' := by
  obtain ⟨w0, hw0⟩ : ∃ y, w.alloc (.cells #[.int .u8 (ix : Int), .int .u32 (gen : Int), .slice oa n cap] 52) = y := ⟨_, rfl⟩
  have HB0 : Hid (Below w.heap.size w w0) := Lib.hid (by rw [← hw0]; exact (Below.refl _ _).alloc (Nat.le_refl _) _)
  have HPL : Hid (Blk w0 w.heap.size #[.int .u8 (ix : Int), .int .u32 (gen : Int), .slice oa n cap] 52) := Lib.hid (by rw [← hw0]; exact Blk.new _ _ _)
  have c0 : w0.cell? ⟨w.heap.size, 0, none⟩ = some (.int .u8 (ix : Int)) := by rw [Blk.cell HPL.out]; rfl
  have c2 : w0.cell? ⟨w.heap.size, 2, none⟩ = some (.slice oa n cap) := by rw [Blk.cell HPL.out]; rfl
  by_cases h0 : ix = 0
  · subst h0
    clear hm hw0 HB0 HPL c0 c2
    go_enter Tryd.func28, Tryd.ntmps28
    go_wp2_with fail
    go_ret2
    exact ⟨rfl, (Below.refl _ _).alloc (Nat.le_refl _) _⟩
  have q0 : ((ix : Int) == 0) = false := by rw [beq_eq_false_iff_ne]; omega
  by_cases h1 : n < 1
  · have q1 : (n : Int) < 1 := by omega
    clear hm h1
    go_enter Tryd.func28, Tryd.ntmps28
    go_wp2_with fail
    go_ret2
    exact ⟨rfl, HB0.out⟩
  have q1 : decide ((n : Int) < 1) = false := decide_eq_false (by omega)
  have q2 : (64 : Int) < (n : Int) := by unfold MayS at hm; omega
  clear hm h1
  go_enter Tryd.func28, Tryd.ntmps28
  go_wp2_with fail
  go_ret2
  exact ⟨rfl, HB0.out⟩

set_option maxRecDepth 100000 in
set_option maxHeartbeats 4000000 in
theorem enc_any (ix gen n cap : Nat) (oa : Option Addr) (f : Nat → Nat) (w : World) (hm : MayS ix n) (hix : ix < 256) (hgen : gen < 4294967296) (hB : Bytes w oa n f) :
    Calls Tryd.prog 28 #[.agg #[.int .u8 (ix : Int), .int .u32 (gen : Int), .slice oa n cap]] w fun e w' => ∃ g c, e = .returned (.tuple #[.slice (some ⟨g, 0, none⟩) (8 + n) c, .nilIface]) ∧ w.heap.size ≤ g ∧ 8 + n ≤ c ∧ c ≤ maxLen ∧ Bytes w' (some ⟨g, 0, none⟩) (8 + n) (encF ix gen n f) ∧ Below w.heap.size w w' := by
  obtain ⟨w0, hw0⟩ : ∃ y, w.alloc (.cells #[.int .u8 (ix : Int), .int .u32 (gen : Int), .slice oa n cap] 52) = y := ⟨_, rfl⟩
  have HB0 : Hid (Below w.heap.size w w0) := Lib.hid (by rw [← hw0]; exact (Below.refl _ _).alloc (Nat.le_refl _) _)
  have HPL : Hid (Blk w0 w.heap.size #[.int .u8 (ix : Int), .int .u32 (gen : Int), .slice oa n cap] 52) := Lib.hid (by rw [← hw0]; exact Blk.new _ _ _)
  have hz : w0.heap.size = w.heap.size + 1 := by rw [← hw0]; simp
  have HZ := Lib.hid hz
  have c0 : w0.cell? ⟨w.heap.size, 0, none⟩ = some (.int .u8 (ix : Int)) := by rw [Blk.cell HPL.out]; rfl
  have c1 : w0.cell? ⟨w.heap.size, 1, none⟩ = some (.int .u32 (gen : Int)) := by rw [Blk.cell HPL.out]; rfl
  have c2 : w0.cell? ⟨w.heap.size, 2, none⟩ = some (.slice oa n cap) := by rw [Blk.cell HPL.out]; rfl
  have HC2 := Lib.hid c2
  have HB := Lib.hid (hB.later HB0.out)
  have HM := Lib.hid hm
  have HIX := Lib.hid hix
  have HNO : Hid (oa = none → n = 0) := Lib.hid fun e => by
    subst e
    obtain ⟨_, b, off, e2, _⟩ := hB 0 hm.2.1
    cases e2
  have HFB : Hid (∀ i, i < n → f i < 256) := Lib.hid fun i hi => (hB i hi).1
  have hm1 := hm.1
  have hm2 := hm.2.1
  have hm3 := hm.2.2
  have q0 : ((ix : Int) == 0) = false := by rw [beq_eq_false_iff_ne]; omega
  have q1 : decide ((n : Int) < 1) = false := decide_eq_false (by omega)
  have q2 : decide ((64 : Int) < (n : Int)) = false := decide_eq_false (by omega)
  have q3 : IntKind.i64.wrap (8 + (n : Int)) = ((8 + n : Nat) : Int) := by rw [IntWalk.i64_in _ (by omega)]; omega
  obtain ⟨M, hM⟩ : ∃ y, 8 + n = y := ⟨_, rfl⟩
  have HMM := Lib.hid hM
  rw [hM] at q3
  obtain ⟨b0, e0⟩ : ∃ y, numB gen 4 0 = y := ⟨_, rfl⟩
  obtain ⟨b1, e1⟩ : ∃ y, numB gen 4 1 = y := ⟨_, rfl⟩
  obtain ⟨b2, e2⟩ : ∃ y, numB gen 4 2 = y := ⟨_, rfl⟩
  obtain ⟨b3, e3⟩ : ∃ y, numB gen 4 3 = y := ⟨_, rfl⟩
  have v0 := num4 gen 0 16777216 (by decide) (by decide)
  have v1 := num4 gen 1 65536 (by decide) (by decide)
  have v2 := num4 gen 2 256 (by decide) (by decide)
  have v3 := num4 gen 3 1 (by decide) (by decide)
  rw [e0] at v0
  rw [e1] at v1
  rw [e2] at v2
  rw [e3] at v3
  rw [show (((1 : Nat) : Int)) = 1 from rfl, Int.ediv_one] at v3
  rw [show (((16777216 : Nat) : Int)) = 16777216 from rfl] at v0
  rw [show (((65536 : Nat) : Int)) = 65536 from rfl] at v1
  rw [show (((256 : Nat) : Int)) = 256 from rfl] at v2
  have v4 : (gen : Int) / 16777216 = (b0 : Int) := by rw [← v0]; omega
  have v5 : (b0 : Int) % 256 = (b0 : Int) := by omega
  have v6 : (n : Int) % 256 = (n : Int) := by omega
  have H8 : Hid (∀ w' : World, Bytes (w'.alloc (.cells #[.int .u8 115, .int .u8 104, .int .u8 (b0 : Nat), .int .u8 (b1 : Nat), .int .u8 (b2 : Nat), .int .u8 (b3 : Nat), .int .u8 (ix : Nat), .int .u8 (n : Nat)] 5)) (some ⟨w'.heap.size, 0, none⟩) 8 (encF ix gen n f)) := Lib.hid fun w' =>
    eight_bytes (x0 := 115) (x1 := 104) rfl rfl (by rw [encF_2, ← e0]; rfl) (by rw [encF_3, ← e1]; rfl) (by rw [encF_4, ← e2]; rfl) (by rw [encF_5, ← e3]; unfold numB; rw [show 256 ^ (4 - 1 - 3) = 1 from rfl, Nat.div_one]) rfl rfl
      (fun i hi => encF_lt hix (by omega) HFB.out i (by omega))
  clear hB hm hz hm1 hm2 hm3 hix e0 e1 e2 e3
  go_enter Tryd.func28, Tryd.ntmps28
  go_wp2_with (first
    | (refine wpList_mk0 rfl _ (.tmp 24) rfl M w0.heap.size rfl rfl (by have := HMM.out; have := HM.out.2.2; omega) (Nat.le_refl _) ?_
       intro w1 hG0 hg1
       have HG0 := Lib.hid hG0
       have HB1 := Lib.hid (below_grown hg1)
       replace c0 := cell_below HB1.out c0
       replace c1 := cell_below HB1.out c1
       replace c2 := cell_below HB1.out c2
       clear hG0 hg1)
    | (refine wpList_appO rfl (.tmp 26) (.tmp 48) rfl w0.heap.size (.slice (some ⟨w0.heap.size, 0, none⟩) 0 M) 0 8 8 (some ⟨w1.heap.size, 0, none⟩) (fun _ => 0) (encF ix gen n f) (w1.alloc (.cells #[.int .u8 115, .int .u8 104, .int .u8 (b0 : Nat), .int .u8 (b1 : Nat), .int .u8 (b2 : Nat), .int .u8 (b3 : Nat), .int .u8 (ix : Nat), .int .u8 (n : Nat)] 5)) rfl ((HG0.out _).later ((Below.refl _ w1).alloc (Nat.le_refl _) _)) rfl (fun e => by cases e) (H8.out w1) (by decide) (Nat.le_trans HB1.out.size (by simp)) ?_
       refine Hid.out ?_))
  refine Lib.hid ?_
  intro va w2 hG2 hg2 hob2
  have HB2 : Hid (Below w0.heap.size w0 w2) := Lib.hid (HB1.out.trans (((Below.refl _ w1).alloc HB1.out.size _).trans (grow_bel ((HG0.out (fun _ => 0)).later ((Below.refl _ w1).alloc (Nat.le_refl _) _)) (Nat.le_trans HB1.out.size (by simp)) hg2)))
  have HG2 := Lib.hid hG2
  have hlt : w.heap.size < w0.heap.size := by have := HZ.out; omega
  replace c2 : w2.cell? ⟨w.heap.size, 2, none⟩ = some (.slice oa n cap) := cell_belowB HB2.out hlt HC2.out
  clear hG2 hg2 hob2 c0 c1 hlt v0 v1 v2 v3 v4 v5 v6
  go_wp2_with (first
    | (refine wpList_appO rfl (.tmp 50) (.tmp 52) rfl w0.heap.size va (0 + 8) n cap oa _ f w2 rfl HG2.out rfl HNO.out (HB.out.later HB2.out) (by have := HM.out.2.2; omega) HB2.out.size ?_
       refine Hid.out ?_))
  refine Lib.hid ?_
  intro vb w3 hG3 hg3 hob3
  have HB3 := Lib.hid (HB2.out.trans (grow_bel HG2.out HB2.out.size hg3))
  have hG3' : Grow w3 w0.heap.size vb (8 + n) (encF ix gen n f) := by
    rw [HMM.out]
    refine hG3.congr fun i hi => ?_
    unfold encF catF
    by_cases e : i < 8
    · simp [e]
    · simp [e]
  obtain ⟨g3, cp3, hv3, hg3b, hB3, hc3, hx3⟩ := hG3'.someN (by omega) (fun i hi => encF_lt HIX.out (by have := HM.out.2.2; omega) HFB.out i (by omega))
  have HR := Lib.hid hB3
  subst hv3
  clear hG3 hG3' hg3 hob3 hB3
  go_wp2_with fail
  go_ret2
  exact ⟨g3, cp3, rfl, by have := HZ.out; omega, hc3, hx3, HR.out, HB0.out.trans (HB3.out.mono (by have := HZ.out; omega))⟩
end Go.Proofs.YtmhofofidmbgfaaDoor
