/- A new table: a block of its own. -/
import Derived.Test.YtkcbckafibjflaaGreatDoorGfMul
namespace Go.Proofs.YtkcbckafibjflaaGreatDoor
set_option linter.unusedVariables false
set_option linter.unusedSimpArgs false
open Go.RowKit

/-- The cells of a new table. -/
def zeroT : Array Value := (tabCells 0 0 (Pk 0) (Lk 0)).toArray
theorem zero_run (w : World) : (zeroValue 150).run Tryz.prog w = .ok (.agg zeroT) w := by kernel_rfl

set_option maxRecDepth 100000 in
set_option maxHeartbeats 1600000 in
theorem gfnew_any (w : World) :
    Calls Tryz.prog 65 #[] w fun e w' => e = .returned (.pointer (some ⟨w.heap.size, 0, none⟩)) ∧ TabIn w' w.heap.size ∧ Below w.heap.size w w' := by
  have hz := zero_run
  go_enter Tryz.func65, Tryz.ntmps65
  go_wp2_with fail
  go_ret
  exact ⟨rfl, .inl ⟨Blk.new _ _ _, Pk_len 0, Lk_len 0⟩, (Below.refl _ _).alloc (Nat.le_refl _) _⟩
end Go.Proofs.YtkcbckafibjflaaGreatDoor
