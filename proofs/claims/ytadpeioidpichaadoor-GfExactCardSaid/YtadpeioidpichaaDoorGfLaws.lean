/- The walks of layer 1's laws: whatever the input, each returns true, and makes new memory alone. -/
import Derived.Test.YtadpeioidpichaaDoorGfInt
namespace Go.Proofs.YtadpeioidpichaaDoor
open Go.RowKit

theorem B8_0 : B8 0 := by unfold B8; omega
theorem B8_1 : B8 1 := by unfold B8; omega

set_option maxRecDepth 100000 in
set_option maxHeartbeats 1600000 in
theorem sure_any (w : World) :
    Calls Tryd.prog 13 #[] w fun e w' => e = .returned (.bool true) ∧ Below w.heap.size w w' := by
  go_enter Tryd.func13, Tryd.ntmps13
  go_wp2_with fail
  refine (gfnew_any _).mono ?_
  rintro e w0 ⟨rfl, hT0, hB0⟩
  go_wp2_with fail
  refine (inv_i (x := 141) _ hT0 (by unfold B8; omega) (by decide) (by decide +kernel)).mono ?_
  rintro e w1 ⟨rfl, hT1, hO1⟩
  go_wp2_with fail
  refine (log_i (x := 1) _ hT1 (by unfold B8; omega) (by decide) (by decide +kernel)).mono ?_
  rintro e w2 ⟨rfl, hT2, hO2⟩
  go_wp2_with fail
  refine (mul_i (x := 193) _ hT2 (by unfold B8; omega) (by unfold B8; omega) (by decide +kernel)).mono ?_
  rintro e w3 ⟨rfl, hT3, hO3⟩
  go_wp2_with fail
  refine (add_i (x := 6) _ (by unfold B8; omega) (by unfold B8; omega) (by decide +kernel)).mono ?_
  rintro e w' ⟨rfl, rfl⟩
  go_wp2_with fail
  go_ret
  exact ⟨rfl, (hB0.trans ((hO1.trans (hO2.trans hO3)).below (Nat.le_refl _) hB0.size))⟩

end Go.Proofs.YtadpeioidpichaaDoor
