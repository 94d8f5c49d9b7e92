/- An error's number as the statements ask it: 0 of nil, its own of an api.Errno; new memory alone is made. -/
import Derived.Test.YtloajfbehejehaaDoorAs
namespace Go.Proofs.YtloajfbehejehaaDoor
set_option linter.unusedVariables false
set_option linter.unusedSimpArgs false
open Go.RowKit

theorem cell_new {w : World} {C : Array Value} {t : TypeId} {fr : Nat × Nat} {b k : Nat} (h : b = w.heap.size) : (w.alloc (.cells C t fr)).cell? ⟨b, k, none⟩ = C[k]? := by
  subst h; exact World.cell?_alloc_mark w C t fr k
theorem cell_old {w : World} {o : Obj} {b k : Nat} (h : b < w.heap.size) : (w.alloc o).cell? ⟨b, k, none⟩ = w.cell? ⟨b, k, none⟩ :=
  World.cell?_alloc_lt _ _ ⟨b, k, none⟩ h

set_option maxHeartbeats 400000 in
theorem num_nil (w : World) :
    Calls Tryd.prog 8 #[.nilIface] w fun e w' => e = .returned (.int .i64 0) ∧ Below w.heap.size w w' := by
  go_enter Tryd.func8, Tryd.ntmps8
  go_wp2
  go_ret
  exact ⟨rfl, (Below.refl _ _).alloc (Nat.le_refl _) _⟩

set_option maxHeartbeats 400000 in
theorem num_err (n : Int) (w : World) (h : Handle w) :
    Calls Tryd.prog 8 #[.iface 64 (.int .i64 n)] w fun e w' => e = .returned (.int .i64 n) ∧ Below w.heap.size w w' := by
  have hA := as_hit n ⟨w.heap.size, 0, none⟩ (.int .i64 0) (w.alloc (.cells #[.int .i64 0] 64)) (h.alloc _).1 (by simp) (by simp)
  go_enter Tryd.func8, Tryd.ntmps8
  go_wp2_with fail
  refine hA.mono ?_
  rintro e w' ⟨rfl, rfl⟩
  go_wp2
  go_ret
  refine ⟨rfl, ?_⟩
  exact (((((Below.refl _ _).alloc (Nat.le_refl _) _).alloc (by simp) _).alloc (by simp; omega) _).alloc (by simp; omega) _).alloc (by simp; omega) _

end Go.Proofs.YtloajfbehejehaaDoor
