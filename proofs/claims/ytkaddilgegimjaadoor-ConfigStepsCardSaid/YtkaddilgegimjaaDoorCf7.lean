/- ConfigSteps, whatever the plan, the numbers and the bytes are. -/
import Derived.Test.YtkaddilgegimjaaDoorCf5
import Derived.Test.YtkaddilgegimjaaDoorCf6
import Derived.Deep.Fields
namespace Go.Proofs.YtkaddilgegimjaaDoor
set_option linter.unusedVariables false
set_option linter.unusedSimpArgs false
open Go.RowKit

theorem steps_long (k n g a b : Int) (oa : Option Addr) (nb cp : Nat) (w : World) (hg : Handle w) (h : 100 < nb) :
    Calls Tryd.prog 6 #[.agg #[.int .i64 k, .int .i64 n, .int .u32 g], .agg #[.int .i64 a, .int .i64 b], .slice oa nb cp] w fun e w' => e = .returned (.bool true) ∧ Below w.heap.size w w' := by
  have g1 : (100 : Int) < (nb : Int) := by omega
  have N1 : Wn w (((w.alloc (.cells #[.int .i64 k, .int .i64 n, .int .u32 g] 52)).alloc (.cells #[.int .i64 a, .int .i64 b] 53))) := ((Wn.new hg).alloc _).alloc _
  go_enter Tryd.func6, Tryd.ntmps6
  go_wp2_with fail
  refine (sure21_any _ N1.handle).mono ?_
  rintro e w1 ⟨rfl, hb⟩
  have N2 := N1.step hb
  go_wp2_with fail
  go_ret
  exact ⟨rfl, N2.bel⟩
theorem steps_any (k n g a b : Int) (oa : Option Addr) (nb cp : Nat) (f : Nat → Nat) (w : World) (hg : Handle w) (hgg : 0 ≤ g ∧ g ≤ 4294967295) (hB : Bytes w oa nb f) :
    Calls Tryd.prog 6 #[.agg #[.int .i64 k, .int .i64 n, .int .u32 g], .agg #[.int .i64 a, .int .i64 b], .slice oa nb cp] w fun e w' => e = .returned (.bool true) ∧ Below w.heap.size w w' := by
  by_cases h : nb ≤ 100
  · by_cases hp : OkP k n ∧ g ≠ 0
    · by_cases ho : OkP a b
      · exact steps_oo k n g a b oa nb cp f w hg hgg hB h hp ho
      · exact steps_on k n g a b oa nb cp f w hg hgg hB h hp ho
    · by_cases ho : OkP a b
      · exact steps_no k n g a b oa nb cp f w hg hgg hB h hp ho
      · exact steps_nn k n g a b oa nb cp f w hg hgg hB h hp ho
  · exact steps_long k n g a b oa nb cp w hg (by omega)
end Go.Proofs.YtkaddilgegimjaaDoor
