/- What must come of keys out of keys whatever the input is. -/
import Derived.Test.YtloajfbehejehaaDoorEx3
import Derived.Test.YtloajfbehejehaaDoorNum07
import Derived.Test.YtloajfbehejehaaDoorShB
namespace Go.Proofs.YtloajfbehejehaaDoor
set_option linter.unusedVariables false
set_option linter.unusedSimpArgs false
open Go.RowKit

theorem exec_convB {o : Oper} {a : Act} {w : World} {x : Operand} {b off n cap : Nat} {f : Nat → Nat} (ho : o.op = .convert 33 9 x) (hx : a.eval x = .slice (some ⟨b, off, none⟩) n cap) (h : Bytes w (some ⟨b, off, none⟩) n f) : (execOp a.eval o).run Tryd.prog w = .ok (.value (.string (strF n f))) w := by
  unfold execOp
  simp only [ho, hx, h.conv, Sem.run_bind, Result.andThen_ok]
  rfl
theorem str_ne {S1 S2 : ByteArray} (h : S1 ≠ S2) : ¬ S1.toList = S2.toList := fun e => h (by
  rw [ByteArray.toList_eq, ByteArray.toList_eq] at e
  cases S1; cases S2
  exact congrArg ByteArray.mk (Array.toList_inj.1 e))
theorem key_use (x : Nat) (hx : x < 4294967296) (g : Nat) (w : World) (hR : RB 5 32 g (fun _ => 0) w) (hg : GV w) :
    Calls Tryd.prog 26 #[.slice (some ⟨g, 0, none⟩) 32 32, .string ⟨#[117, 115, 101]⟩, .int .u32 (x : Int)] w fun e w' => ∃ b off, e = .returned (.tuple #[.slice (some ⟨b, off, none⟩) 32 32, .nilIface]) ∧ Bytes w' (some ⟨b, off, none⟩) 32 (exF 32 (fun _ => 0) 8 (kiF useS x)) ∧ Below w.heap.size w w' := by
  refine (key_any (some ⟨g, 0, none⟩) 32 (fun _ => 0) useS x w (RB.bytes hR fun i _ => by decide) (Nat.le_refl _) (by decide) (by decide) hx hg).mono ?_
  rintro e w' ⟨o, h1, h2, h3⟩
  obtain ⟨_, b, off, rfl, _⟩ := h2 0 (by decide)
  exact ⟨b, off, h1, h2, h3⟩
/-- The package's variables, both kinds. -/
def GH (w : World) : Prop := GV w ∧ Handle w
theorem GH.later {w w' : World} (h : GH w) (hb : Below w.heap.size w w') : GH w' := ⟨h.1.later hb, h.2.later hb⟩
end Go.Proofs.YtloajfbehejehaaDoor
