/- HkdfMore walked. -/
import Derived.Test.YtloajfbehejehaaDoorEx4
import Derived.Lib.BufferRead
namespace Go.Proofs.YtloajfbehejehaaDoor
set_option linter.unusedVariables false
set_option linter.unusedSimpArgs false
open Go.RowKit

theorem conv_any {w : World} {oa : Option Addr} {n cap : Nat} {f : Nat → Nat} (h : Bytes w oa n f) (hno : oa = none → n = 0) : (convert 33 9 (.slice oa n cap)).run Tryd.prog w = .ok (.string (strF n f)) w := by
  by_cases h0 : n = 0
  · subst h0
    have e : strF 0 f = ⟨#[]⟩ := rfl
    rw [e]
    cases oa with
    | none => exact Lib.run_convert_nil_bytes w 33 9 5 cap Tryd.underlying33 Tryd.underlying5 Tryd.underlying9
    | some ad => exact run_convert_bytes_back w 33 9 5 ad cap [] Tryd.underlying33 Tryd.underlying5 Tryd.underlying9 (fun j hj => absurd hj (Nat.not_lt_zero _))
  · obtain ⟨_, b, off, rfl, _⟩ := h 0 (by omega)
    exact h.conv
theorem exec_convO {o : Oper} {a : Act} {w : World} {x : Operand} {oa : Option Addr} {n cap : Nat} {S : ByteArray} (ho : o.op = .convert 33 9 x) (hx : a.eval x = .slice oa n cap) (h : (convert 33 9 (.slice oa n cap)).run Tryd.prog w = .ok (.string S) w) : (execOp a.eval o).run Tryd.prog w = .ok (.value (.string S)) w := by
  unfold execOp
  simp only [ho, hx, h, Sem.run_bind, Result.andThen_ok]
  rfl
theorem wpStill_valueG {ops : Array Oper} {rest : List Oper} {o : Oper} {a : Act} {w : World} {Q : Act → Prop} {v : Value} (hw : Region.wanted o (yielded ops a.tmps) = true) (he : (execOp a.eval o).run Tryd.prog w = .ok (.value v) w)
    (hk : wpStill Tryd.prog ops w Q rest (a.put o.dst v)) : wpStill Tryd.prog ops w Q (o :: rest) a := by
  refine wpStill_step fun K hK => ?_
  rw [if_pos hw]
  unfold Oper.still
  rw [he, Oper.stillUpon_value]
  exact hK _ hk
end Go.Proofs.YtloajfbehejehaaDoor
