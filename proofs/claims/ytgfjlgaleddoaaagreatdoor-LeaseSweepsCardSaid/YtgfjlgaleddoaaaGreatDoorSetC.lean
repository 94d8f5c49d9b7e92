/- A whole block stored over. -/
import Derived.Test.YtgfjlgaleddoaaaGreatDoorBlk
import Derived.Laws.Rows
import Derived.Deep.MidRow
namespace Go.Proofs.YtgfjlgaleddoaaaGreatDoor
set_option linter.unusedVariables false
set_option linter.unusedSimpArgs false
open Go.RowKit

theorem Blk.setCells_any {b : Nat} {t : TypeId} : ∀ (vs : List Value) (o : Nat) (w : World) (D : Array Value), Blk w b D t → ∃ D', Blk (w.setCells b o vs) b D' t ∧ D'.size = D.size
  | [], _, _, D, h => ⟨D, h, rfl⟩
  | v :: r, o, w, D, h => by
    obtain ⟨D', h1, h2⟩ := Blk.setCells_any r (o + 1) (w.setCell ⟨b, o, none⟩ v) _ (h.set o v)
    exact ⟨D', h1, by rw [h2, Array.size_setIfInBounds]⟩
theorem Own.setCells {b : Nat} : ∀ (vs : List Value) (o : Nat) (w : World), Own b w (w.setCells b o vs)
  | [], _, w => Own.refl b w
  | v :: r, o, w => ((Own.refl b w).set o v).trans (Own.setCells r (o + 1) _)
/-- A block is stored over, all of it. -/
theorem Blk.setCells {w : World} {b : Nat} {D : Array Value} {t : TypeId} (h : Blk w b D t) (vs : List Value) (hs : vs.length = D.size) : Blk (w.setCells b 0 vs) b vs.toArray t := by
  obtain ⟨D', h1, h2⟩ := Blk.setCells_any vs 0 w D h
  have e : D' = vs.toArray := by
    refine Array.ext (by rw [h2, ← hs]; simp) fun j hj hj2 => ?_
    have hjl : j < vs.length := by simpa using hj2
    have hc := World.cell?_setCells_in b vs 0 w (fun i hi => by
      rw [Blk.cell h (0 + i), Array.getElem?_eq_getElem (by omega)]; rfl) j hjl
    rw [Blk.cell h1, Nat.zero_add, Array.getElem?_eq_getElem hj] at hc
    simpa using hc
  rw [← e]; exact h1
theorem Blk.there {w : World} {b : Nat} {D : Array Value} {t : TypeId} (h : Blk w b D t) {n : Nat} (hn : n ≤ D.size) : w.there b 0 n := fun j hj => by
  rw [Nat.zero_add, Blk.cell h j, Blk.free h j, Array.getElem?_eq_getElem (by omega)]
  exact ⟨rfl, rfl⟩
end Go.Proofs.YtgfjlgaleddoaaaGreatDoor
