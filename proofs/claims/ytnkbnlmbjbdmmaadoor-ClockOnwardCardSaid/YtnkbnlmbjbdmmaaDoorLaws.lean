/- The walks of the laws of layer 27: whatever the input, each returns true, and makes new memory alone. -/
import Derived.Test.YtnkbnlmbjbdmmaaDoorUntil
namespace Go.Proofs.YtnkbnlmbjbdmmaaDoor
open Go.RowKit

theorem left_is {a b x : Int} (w : World) (ha : U64 a) (hb : U64 b) (hx : leftI a b = x) :
    Calls Tryd.prog 15 #[.int .u64 a, .int .u64 b] w fun e w' => e = .returned (.int .u64 x) ∧ w = w' := by
  rw [← hx]; exact left_any a b w ha hb
theorem resume_is {a b x : Int} (w : World) (hx : maxI a b = x) :
    Calls Tryd.prog 16 #[.int .u64 a, .int .u64 b] w fun e w' => e = .returned (.int .u64 x) ∧ w = w' := by
  rw [← hx]; exact resume_any a b w
theorem over_is {a b : Int} {x : Bool} (w : World) (hx : overB a b = x) :
    Calls Tryd.prog 13 #[.int .u64 a, .int .u64 b] w fun e w' => e = .returned (.bool x) ∧ w = w' := by
  rw [← hx]; exact over_any a b w
theorem rover_is {a b : Int} {x : Bool} (w : World) (hx : overB a b = x) :
    Calls Tryd.prog 14 #[.int .u64 a, .int .u64 b] w fun e w' => e = .returned (.bool x) ∧ w = w' := by
  rw [← hx]; exact rover_any a b w
theorem tick_is {a b x : Int} (w : World) (ha : U64 a) (hb : U64 b) (hx : tickI a b = x) :
    Calls Tryd.prog 10 #[.int .u64 a, .int .u64 b] w fun e w' => e = .returned (.int .u64 x) ∧ w = w' := by
  rw [← hx]; exact tick_any a b w ha hb

theorem U64_lit (n : Nat) (h : n ≤ 18446744073709551615) : U64 (n : Int) := by unfold U64; omega

set_option maxHeartbeats 1000000 in
theorem sure_any (w : World) (h : Handle w) :
    Calls Tryd.prog 17 #[] w fun e w' => e = .returned (.bool true) ∧ Below w.heap.size w w' := by
  go_enter Tryd.func17, Tryd.ntmps17
  go_wp2_with fail
  refine (until_v 5 3 _ (by unfold U64; omega) (by unfold U64; omega) rfl (by decide)).mono ?_
  rintro e w' ⟨rfl, rfl⟩
  rw [show tickI 5 3 = 8 from rfl]
  go_wp2_with fail
  refine (until_e 5 18446744073709551610 _ (by unfold U64; omega) (by unfold U64; omega) rfl (by decide)).mono ?_
  rintro e w' ⟨rfl, rfl⟩
  go_wp2_with fail
  refine (num_err 19 _ h).mono ?_
  rintro e w1 ⟨rfl, hb⟩
  go_wp2_with fail
  refine (over_is (x := true) _ (by decide)).mono ?_
  rintro e w' ⟨rfl, rfl⟩
  go_wp2_with fail
  refine (over_is (x := false) _ (by decide)).mono ?_
  rintro e w' ⟨rfl, rfl⟩
  go_wp2_with fail
  refine (left_is (x := 3) _ (by unfold U64; omega) (by unfold U64; omega) (by decide)).mono ?_
  rintro e w' ⟨rfl, rfl⟩
  go_wp2_with fail
  refine (resume_is (x := 9) _ (by decide)).mono ?_
  rintro e w' ⟨rfl, rfl⟩
  go_wp2_with fail
  refine (tick_is (x := 18446744073709551615) _ (by unfold U64; omega) (by unfold U64; omega) (by decide)).mono ?_
  rintro e w' ⟨rfl, rfl⟩
  go_wp2_with fail
  go_ret
  exact ⟨rfl, hb⟩

end Go.Proofs.YtnkbnlmbjbdmmaaDoor
