/- How what came in reads: rows of bytes, nil too; rows of parts. -/
import Derived.Test.YtmhofofidmbgfaaDoorSmR
import Derived.Lib.SmallJoins
import Derived.Deep.Slices
import Derived.Deep.Fields
import Derived.SizedLaws
namespace Go.Proofs.YtmhofofidmbgfaaDoor
set_option linter.unusedVariables false
set_option linter.unusedSimpArgs false
open Go.Deep Go.Joins Go.ChangeShapes Go.WideShapes Go.RowKit

theorem row_bytes_nil {H : Type} {enc : TypeId × Value → H} {P : Program} {W : World} {base : Nat} {held : Bool} {T E : TypeId} {fuel : Nat} {v : Value} {x : DataW H × List MemPlace}
    (hT : P.underlying T = some (.slice E)) (hE : P.underlying E = some (.int .u8)) (hc : P.cellsOf E = 1)
    (h : DataW.trod enc P W base (fun _ => true) held fuel T [v] = some x) :
    ∃ oa n cap f, v = .slice oa n cap ∧ n ≤ cap ∧ cap ≤ maxLen ∧ Bytes W oa n f ∧ (oa = none → n = 0) := by
  obtain ⟨oa, n, cap, f, hv, hl, hm, hB⟩ := row_bytes hT hE hc h
  simp at hv
  refine ⟨oa, n, cap, f, hv, hl, hm, hB.mono hl, fun e => ?_⟩
  rcases Nat.eq_zero_or_pos cap with h0 | h0
  · omega
  · obtain ⟨_, b, off, e2, _⟩ := hB 0 h0
    rw [e] at e2; cases e2
theorem bytes_nil0 {W : World} {oa : Option Addr} {cap : Nat} {f : Nat → Nat} (h : Bytes W oa cap f) : oa = none → cap = 0 := fun e => by
  rcases Nat.eq_zero_or_pos cap with h0 | h0
  · exact h0
  · obtain ⟨_, b, off, e2, _⟩ := h 0 h0
    rw [e] at e2; cases e2
end Go.Proofs.YtmhofofidmbgfaaDoor
