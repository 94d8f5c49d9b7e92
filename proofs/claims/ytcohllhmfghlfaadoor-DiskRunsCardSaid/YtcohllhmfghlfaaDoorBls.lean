/- Truth values that came in. -/
import Derived.Test.YtcohllhmfghlfaaDoorCv
import Derived.Deep.Grids
namespace Go.Proofs.YtcohllhmfghlfaaDoor
set_option linter.unusedVariables false
set_option linter.unusedSimpArgs false
open Go.ChangeShapes Go.WideShapes Go.ChangeAt Go.RowKit Go.Deep

/-- Truth values, in memory. -/
def Bools (w : World) (oa : Option Addr) (n : Nat) (f : Nat → Bool) : Prop := ∀ k, k < n → ∃ b off, oa = some ⟨b, off, none⟩ ∧ w.cell? ⟨b, off + k, none⟩ = some (.bool (f k))
theorem Bools.later {w w' : World} {oa : Option Addr} {n : Nat} {f : Nat → Bool} (h : Bools w oa n f) (hb : Below w.heap.size w w') : Bools w' oa n f := fun k hk => by
  obtain ⟨b, off, h2, h3⟩ := h k hk
  exact ⟨b, off, h2, cell_below hb h3⟩
theorem row_bools {H : Type} {enc : TypeId × Value → H} {P : Program} {W : World} {base : Nat} {held : Bool} {T E : TypeId} {fuel : Nat} {cs : List Value} {x : DataW H × List MemPlace}
    (hT : P.underlying T = some (.slice E)) (hE : P.underlying E = some .bool) (hc : P.cellsOf E = 1)
    (h : DataW.trod enc P W base (fun _ => true) held fuel T cs = some x) :
    ∃ oa n cap f, cs = [.slice oa n cap] ∧ n ≤ cap ∧ cap ≤ maxLen ∧ Bools W oa n f := by
  rcases open_bools hT hE hc h with ⟨hcs, _⟩ | ⟨a, n, cap, B, hcs, _, hl, hm, _, hcell⟩
  · exact ⟨none, 0, 0, fun _ => false, hcs, by omega, by unfold maxLen; omega, fun k hk => by omega⟩
  · refine ⟨some a, n, cap, B, hcs, hl, hm, fun k hk => ?_⟩
    obtain ⟨b, off, spot⟩ := a
    have hspot : spot = none := by simpa [Addr.add] using World.cell?_spot (hcell 0 (by omega))
    subst hspot
    refine ⟨b, off, rfl, ?_⟩
    have h1 := hcell k (by omega)
    have ha : (Addr.mk b off none).add k = ⟨b, off + k, none⟩ := by
      unfold Addr.add; split
      · rename_i hk0; subst hk0; rfl
      · rfl
    rw [ha] at h1; exact h1
end Go.Proofs.YtcohllhmfghlfaaDoor
