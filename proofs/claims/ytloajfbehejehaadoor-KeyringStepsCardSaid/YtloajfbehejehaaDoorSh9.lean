/- What must come of sums whatever the input is. -/
import Derived.Test.YtloajfbehejehaaDoorSh8
import Derived.Lib.SmallJoins
namespace Go.Proofs.YtloajfbehejehaaDoor
set_option linter.unusedVariables false
set_option linter.unusedSimpArgs false
open Go.RowKit

theorem exec_load32 {o : Oper} {a : Act} {w : World} {g : Nat} {C : Array Value} {x : Operand} (ho : o.op = .load 22 x) (hx : a.eval x = .pointer (some ⟨g, 0, none⟩)) (hB : Blk w g C 22) (hs : (Tryd.prog.info? 22).map (·.size) = some C.size) : (execOp a.eval o).run Tryd.prog w = .ok (.value (.agg C)) w := by
  unfold execOp
  simp only [ho, hx, Instr.loadAt, Instr.sureAddr, Sem.run_bind, Sem.run_pure, Result.andThen_ok, run_loadVar_row w g 22 22 C (0, 0) _ hB Tryd.underlying22 rfl hs]
theorem RB.int {t : TypeId} {n g : Nat} {f : Nat → Nat} {w : World} (h : RB t n g f w) {i : Nat} {x : Int} (hi : i < n) (hx : (f i : Int) = x) : w.cell? ⟨g, i, none⟩ = some (.int .u8 x) := by rw [← hx]; exact h.cell hi
theorem conv25 (w : World) : (convert 33 33 (.slice (some ⟨w.heap.size, 0, none⟩) 3 3)).run Tryd.prog (w.alloc (.cells #[.int .u8 97, .int .u8 98, .int .u8 99] 5)) = .ok (.slice (some ⟨w.heap.size, 0, none⟩) 3 3) (w.alloc (.cells #[.int .u8 97, .int .u8 98, .int .u8 99] 5 (3, 4))) :=
  Joins.run_convert_bytes_const_at (P := Tryd.prog) w 33 5 #[.int .u8 97, .int .u8 98, .int .u8 99] 3 3 w.heap.size rfl Tryd.underlying33 Tryd.underlying5
/-- Two sums. -/
def S2 (g1 g2 : Nat) (D E : Nat → Nat) (w : World) : Prop := RB 22 32 g1 D w ∧ RB 22 32 g2 E w
theorem S2.below {g1 g2 : Nat} {D E : Nat → Nat} {w w' : World} (h : S2 g1 g2 D E w) (hb : Below w.heap.size w w') : S2 g1 g2 D E w' := ⟨Blk.below h.1 hb (Blk.lt h.1), Blk.below h.2 hb (Blk.lt h.2)⟩
theorem three_bytes {w : World} : Bytes (w.alloc (.cells #[.int .u8 97, .int .u8 98, .int .u8 99] 5 (3, 4))) (some ⟨w.heap.size, 0, none⟩) 3 abcF := fun k hk => by
  rcases (by omega : k = 0 ∨ k = 1 ∨ k = 2) with rfl | rfl | rfl
  · exact ⟨by decide, w.heap.size, 0, rfl, World.cell?_alloc_mark w #[.int .u8 97, .int .u8 98, .int .u8 99] 5 (3, 4) 0⟩
  · exact ⟨by decide, w.heap.size, 0, rfl, World.cell?_alloc_mark w #[.int .u8 97, .int .u8 98, .int .u8 99] 5 (3, 4) 1⟩
  · exact ⟨by decide, w.heap.size, 0, rfl, World.cell?_alloc_mark w #[.int .u8 97, .int .u8 98, .int .u8 99] 5 (3, 4) 2⟩
/-- A sum, laid in a block of its own. -/
theorem lay32 (w : World) (D : Nat → Nat) {E : Array Value} (hE : (rowC 32 D).toArray = E) : RB 22 32 w.heap.size D ((w.alloc (.cells zero32 22)).setCells w.heap.size 0 E.toList) ∧ Below w.heap.size w ((w.alloc (.cells zero32 22)).setCells w.heap.size 0 E.toList) ∧ (w.alloc (.cells zero32 22)).there w.heap.size 0 E.size := by
  subst hE
  have hA : RB 22 32 w.heap.size (fun _ => 0) (w.alloc (.cells zero32 22)) := Blk.new w _ _
  have hb : Below w.heap.size w (w.alloc (.cells zero32 22)) := (Below.refl _ _).alloc (Nat.le_refl _) _
  exact ⟨Blk.setCells hA (rowC 32 D) (by rw [rowC_size, rowC_len]), hb.trans ((Own.setCells _ 0 _).below (Nat.le_refl _) hb.size), Blk.there hA (by rw [rowC_size, rowC_size]; exact Nat.le_refl _)⟩
end Go.Proofs.YtloajfbehejehaaDoor
