/- sharecode.Text. -/
import Derived.Test.YtmhofofidmbgfaaDoorSc3
import Derived.Test.YtmhofofidmbgfaaDoorSc4
namespace Go.Proofs.YtmhofofidmbgfaaDoor
set_option linter.unusedVariables false
set_option linter.unusedSimpArgs false
open Go.RowKit

/-- A part's text. -/
def txtS (ix gen n : Nat) (f : Nat → Nat) : ByteArray := strF (2 * (8 + n)) (hexF (encF ix gen n f))

set_option maxRecDepth 100000 in
set_option maxHeartbeats 4000000 in
theorem text_bad (ix gen n cap : Nat) (oa : Option Addr) (w : World) (hn : n < 9000000000000000000) (hm : ¬ MayS ix n) :
    Calls Tryd.prog 30 #[.agg #[.int .u8 (ix : Int), .int .u32 (gen : Int), .slice oa n cap]] w fun e w' => e = .returned (.tuple #[.string ⟨#[]⟩, eN]) ∧ Below w.heap.size w w' := by
  obtain ⟨w0, hw0⟩ : ∃ y, w.alloc (.cells #[.int .u8 (ix : Int), .int .u32 (gen : Int), .slice oa n cap] 52) = y := ⟨_, rfl⟩
  have HB0 : Hid (Below w.heap.size w w0) := Lib.hid (by rw [← hw0]; exact (Below.refl _ _).alloc (Nat.le_refl _) _)
  have HPL : Hid (Blk w0 w.heap.size #[.int .u8 (ix : Int), .int .u32 (gen : Int), .slice oa n cap] 52) := Lib.hid (by rw [← hw0]; exact Blk.new _ _ _)
  have c0 : w0.cell? ⟨w.heap.size, 0, none⟩ = some (.int .u8 (ix : Int)) := by rw [Blk.cell HPL.out]; rfl
  have c1 : w0.cell? ⟨w.heap.size, 1, none⟩ = some (.int .u32 (gen : Int)) := by rw [Blk.cell HPL.out]; rfl
  have c2 : w0.cell? ⟨w.heap.size, 2, none⟩ = some (.slice oa n cap) := by rw [Blk.cell HPL.out]; rfl
  have HE := Lib.hid (enc_bad ix gen n cap oa w0 hn hm)
  clear hn hm
  unfold eN at HE ⊢
  go_enter Tryd.func30, Tryd.ntmps30
  go_wp2_with fail
  refine HE.out.mono ?_
  rintro e w1 ⟨rfl, hb⟩
  have HB1 := Lib.hid (HB0.out.trans (hb.mono HB0.out.size))
  clear hb c0 c1 c2
  go_wp2_with fail
  go_ret2
  exact ⟨rfl, HB1.out⟩

set_option maxRecDepth 100000 in
set_option maxHeartbeats 4000000 in
theorem text_any (ix gen n cap : Nat) (oa : Option Addr) (f : Nat → Nat) (w : World) (hm : MayS ix n) (hix : ix < 256) (hgen : gen < 4294967296) (hB : Bytes w oa n f) :
    Calls Tryd.prog 30 #[.agg #[.int .u8 (ix : Int), .int .u32 (gen : Int), .slice oa n cap]] w fun e w' => e = .returned (.tuple #[.string (txtS ix gen n f), .nilIface]) ∧ Below w.heap.size w w' := by
  obtain ⟨w0, hw0⟩ : ∃ y, w.alloc (.cells #[.int .u8 (ix : Int), .int .u32 (gen : Int), .slice oa n cap] 52) = y := ⟨_, rfl⟩
  have HB0 : Hid (Below w.heap.size w w0) := Lib.hid (by rw [← hw0]; exact (Below.refl _ _).alloc (Nat.le_refl _) _)
  have HPL : Hid (Blk w0 w.heap.size #[.int .u8 (ix : Int), .int .u32 (gen : Int), .slice oa n cap] 52) := Lib.hid (by rw [← hw0]; exact Blk.new _ _ _)
  have c0 : w0.cell? ⟨w.heap.size, 0, none⟩ = some (.int .u8 (ix : Int)) := by rw [Blk.cell HPL.out]; rfl
  have c1 : w0.cell? ⟨w.heap.size, 1, none⟩ = some (.int .u32 (gen : Int)) := by rw [Blk.cell HPL.out]; rfl
  have c2 : w0.cell? ⟨w.heap.size, 2, none⟩ = some (.slice oa n cap) := by rw [Blk.cell HPL.out]; rfl
  have HE := Lib.hid (enc_any ix gen n cap oa f w0 hm hix hgen (hB.later HB0.out))
  have HM := Lib.hid hm
  obtain ⟨S, hS⟩ : ∃ y, txtS ix gen n f = y := ⟨_, rfl⟩
  have HSS := Lib.hid hS
  rw [hS]
  obtain ⟨M, hM⟩ : ∃ y, 8 + n = y := ⟨_, rfl⟩
  have HMM := Lib.hid hM
  rw [hM] at HE
  clear hm hix hgen hB hS hM
  go_enter Tryd.func30, Tryd.ntmps30
  go_wp2_with fail
  refine HE.out.mono ?_
  rintro e w1 ⟨g, c, rfl, hg, hc, hx, hB, hb⟩
  have HB1 := Lib.hid (HB0.out.trans (hb.mono HB0.out.size))
  have HX := Lib.hid (hx_any M c (some ⟨g, 0, none⟩) (encF ix gen n f) w1 hB (by have := HMM.out; omega) (by have := HMM.out; have := HM.out.2.2; omega))
  rw [show strF (2 * M) (hexF (encF ix gen n f)) = S by rw [← HMM.out]; exact HSS.out] at HX
  clear hb c0 c1 c2 hg hc hx hB
  go_wp2_with fail
  refine HX.out.mono ?_
  rintro e w2 ⟨rfl, hb⟩
  have HB2 := Lib.hid (HB1.out.trans (hb.mono HB1.out.size))
  clear hb
  go_wp2_with fail
  go_ret2
  exact ⟨rfl, HB2.out⟩
end Go.Proofs.YtmhofofidmbgfaaDoor
