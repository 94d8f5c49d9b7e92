/- Structs of three numbers that came in, by value. -/
import Derived.Test.YtmhofofidmbgfaaDoorCame
import Derived.Lib.SmallJoins
namespace Go.Proofs.YtmhofofidmbgfaaDoor
set_option linter.unusedVariables false
set_option linter.unusedSimpArgs false
open Go.Deep Go.Joins Go.ChangeShapes Go.WideShapes Go.RowKit

theorem agg3_int {H : Type} {enc : TypeId × Value → H} {P : Program} {W : World} {r : Reach} {b0 base : Nat} {spare : Nat → Bool} {held : Bool} {T : TypeId} {f0 f1 f2 : Field} {k0 k1 k2 : IntKind} {v : Value} {d : DataW H} {p : List MemPlace}
    (hT : P.underlying T = some (.struct #[f0, f1, f2])) (hone : oneCellFields P #[f0, f1, f2] = true) (hC : P.cellsOf T = 3)
    (e0 : P.underlying f0.type = some (.int k0)) (e1 : P.underlying f1.type = some (.int k1)) (e2 : P.underlying f2.type = some (.int k2))
    (hv : Value.okWide P W r b0 T v) (h : DataW.Trod enc P W base spare held T v d p) :
    ∃ x y z, v = .agg #[.int k0 x, .int k1 y, .int k2 z] ∧ (Lit.int k0 x).wf = true ∧ (Lit.int k1 y).wf = true ∧ (Lit.int k2 z).wf = true := by
  obtain ⟨v0, v1, v2, y0, y1, y2, n, rfl, _, _, h0, h1, h2⟩ := open_agg3 hT hone hC hv h
  obtain ⟨x, a0, _, w0⟩ := DataW.trod_int e0 h0
  obtain ⟨y, a1, _, w1⟩ := DataW.trod_int e1 h1
  obtain ⟨z, a2, _, w2⟩ := DataW.trod_int e2 h2
  simp at a0 a1 a2
  subst a0 a1 a2
  exact ⟨x, y, z, rfl, w0, w1, w2⟩
end Go.Proofs.YtmhofofidmbgfaaDoor
