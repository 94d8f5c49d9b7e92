/- Parts held against one another. -/
import Derived.Test.YtmhofofidmbgfaaDoorSc9
namespace Go.Proofs.YtmhofofidmbgfaaDoor
set_option linter.unusedVariables false
set_option linter.unusedSimpArgs false
open Go.RowKit

set_option maxHeartbeats 4000000 in
set_option maxRecDepth 100000 in
theorem isshare_any (ix gen n m cn cm : Nat) (oa ob : Option Addr) (S : ByteArray) (w : World)
    (h1 : ∀ w', Below w.heap.size w w' → (convert 22 9 (.slice oa n cn)).run Tryd.prog w' = .ok (.string S) w')
    (h2 : ∀ w', Below w.heap.size w w' → (convert 22 9 (.slice ob m cm)).run Tryd.prog w' = .ok (.string S) w') :
    Calls Tryd.prog 37 #[.agg #[.int .u8 (ix : Int), .int .u32 (gen : Int), .slice oa n cn], .agg #[.int .u8 (ix : Int), .int .u32 (gen : Int), .slice ob m cm]] w fun e w' => e = .returned (.bool true) ∧ Below w.heap.size w w' := by
  obtain ⟨w0, hw0⟩ : ∃ y, w.alloc (.cells #[.int .u8 (ix : Int), .int .u32 (gen : Int), .slice oa n cn] 52) = y := ⟨_, rfl⟩
  obtain ⟨w1, hw1⟩ : ∃ y, w0.alloc (.cells #[.int .u8 (ix : Int), .int .u32 (gen : Int), .slice ob m cm] 46) = y := ⟨_, rfl⟩
  have hb0 : Below w.heap.size w w0 := by rw [← hw0]; exact (Below.refl _ _).alloc (Nat.le_refl _) _
  have hb1 : Below w0.heap.size w0 w1 := by rw [← hw1]; exact (Below.refl _ _).alloc (Nat.le_refl _) _
  have hB0 : Blk w0 w.heap.size #[.int .u8 (ix : Int), .int .u32 (gen : Int), .slice oa n cn] 52 := by rw [← hw0]; exact Blk.new _ _ _
  have hB1 : Blk w1 w0.heap.size #[.int .u8 (ix : Int), .int .u32 (gen : Int), .slice ob m cm] 46 := by rw [← hw1]; exact Blk.new _ _ _
  have hB01 := Blk.below hB0 hb1 (Blk.lt hB0)
  have c0 : w1.cell? ⟨w.heap.size, 0, none⟩ = some (.int .u8 (ix : Int)) := by rw [Blk.cell hB01]; rfl
  have c1 : w1.cell? ⟨w.heap.size, 1, none⟩ = some (.int .u32 (gen : Int)) := by rw [Blk.cell hB01]; rfl
  have c2 : w1.cell? ⟨w.heap.size, 2, none⟩ = some (.slice oa n cn) := by rw [Blk.cell hB01]; rfl
  have d0 : w1.cell? ⟨w0.heap.size, 0, none⟩ = some (.int .u8 (ix : Int)) := by rw [Blk.cell hB1]; rfl
  have d1 : w1.cell? ⟨w0.heap.size, 1, none⟩ = some (.int .u32 (gen : Int)) := by rw [Blk.cell hB1]; rfl
  have d2 : w1.cell? ⟨w0.heap.size, 2, none⟩ = some (.slice ob m cm) := by rw [Blk.cell hB1]; rfl
  have HB : Hid (Below w.heap.size w w1) := Lib.hid (hb0.trans (hb1.mono hb0.size))
  have k1 := h1 w1 HB.out
  have k2 := h2 w1 HB.out
  clear hB0 hB1 hB01 h1 h2 hb0 hb1
  go_enter Tryd.func37, Tryd.ntmps37
  go_wp2_with (first
    | (refine wpList_valueG rfl (exec_convO (x := .tmp 19) rfl rfl k1) ?_)
    | (refine wpList_valueG rfl (exec_convO (x := .tmp 22) rfl rfl k2) ?_))
  go_ret
  exact ⟨rfl, HB.out⟩
end Go.Proofs.YtmhofofidmbgfaaDoor
