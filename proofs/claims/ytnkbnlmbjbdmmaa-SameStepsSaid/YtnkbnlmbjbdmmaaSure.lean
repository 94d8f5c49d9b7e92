/- What the law asks of whatever input: it returns true, and makes new memory alone. -/
import Derived.Test.YtnkbnlmbjbdmmaaWalks
import Derived.Lib.SlBytesConst
import Derived.Lib.SmallJoins
namespace Go.Proofs.Ytnkbnlmbjbdmmaa
open Go.RowKit

/-- Bytes that lie in a block of their own. -/
theorem bytes_of {w : World} {b n : Nat} {f : Nat → Nat} (h : ∀ k, k < n → f k < 256 ∧ w.cell? ⟨b, k, none⟩ = some (.int .u8 (f k))) : Bytes w (some ⟨b, 0, none⟩) n f :=
  fun k hk => ⟨(h k hk).1, b, 0, rfl, by simpa using (h k hk).2⟩

theorem cell_new {w : World} {C : Array Value} {t : TypeId} {fr : Nat × Nat} {b k : Nat} (h : b = w.heap.size) : (w.alloc (.cells C t fr)).cell? ⟨b, k, none⟩ = C[k]? := by
  subst h; exact World.cell?_alloc_mark w C t fr k
theorem cell_old {w : World} {o : Obj} {b k : Nat} (h : b < w.heap.size) : (w.alloc o).cell? ⟨b, k, none⟩ = w.cell? ⟨b, k, none⟩ :=
  World.cell?_alloc_lt _ _ ⟨b, k, none⟩ h

def ab (k : Nat) : Nat := 97 + k

set_option maxHeartbeats 400000 in
theorem sure_any (w : World) :
    Calls Try.prog 5 #[] w fun e w' => e = .returned (.bool true) ∧ Below w.heap.size w w' := by
  have kc := fun (w : World) (C : Array Value) (n c g : Nat) (hg : g = w.heap.size) => Joins.run_convert_bytes_const_at (P := Try.prog) w 23 5 C n c g hg Try.underlying23 Try.underlying5
  go_enter Try.func5, Try.ntmps5
  go_wp2_with fail
  refine (equal_any _ _ 2 3 2 3 ab ab _ (by omega) (by omega) (bytes_of ?b1) (bytes_of ?b2)).mono ?_
  case b1 => intro k hk; match k, hk with | 0, _ => simp [cell_new, cell_old, ab] | 1, _ => simp [cell_new, cell_old, ab]
  case b2 => intro k hk; match k, hk with | 0, _ => simp [cell_new, cell_old, ab] | 1, _ => simp [cell_new, cell_old, ab] | 2, _ => simp [cell_new, cell_old, ab]
  rintro e w' ⟨rfl, rfl⟩
  rw [eqB_ne (by omega)]
  go_wp2_with fail
  refine (equal_any _ _ 2 2 2 2 ab ab _ (by omega) (by omega) (bytes_of ?b3) (bytes_of ?b4)).mono ?_
  case b3 => intro k hk; match k, hk with | 0, _ => simp [cell_new, cell_old, ab] | 1, _ => simp [cell_new, cell_old, ab]
  case b4 => intro k hk; match k, hk with | 0, _ => simp [cell_new, cell_old, ab] | 1, _ => simp [cell_new, cell_old, ab]
  rintro e w' ⟨rfl, rfl⟩
  rw [show eqB ab ab 2 2 = true from by simp [eqB]]
  go_wp2_with fail
  go_ret
  refine ⟨rfl, ?_⟩
  exact ((((Below.refl _ _).alloc (by simp) _).alloc (by simp) _).alloc (by simp; omega) _).alloc (by simp; omega) _

end Go.Proofs.Ytnkbnlmbjbdmmaa
