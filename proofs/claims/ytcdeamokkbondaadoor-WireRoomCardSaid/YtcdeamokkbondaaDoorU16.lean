/- A row of small numbers that came in. -/
import Derived.Test.YtcdeamokkbondaaDoorCame
namespace Go.Proofs.YtcdeamokkbondaaDoor
set_option linter.unusedVariables false
set_option linter.unusedSimpArgs false
open Go.Deep Go.ChangeShapes Go.WideShapes Go.ChangeAt Go.RowKit

def U16s (W : World) (oa : Option Addr) (n : Nat) (f : Nat → Nat) : Prop :=
  ∀ k, k < n → f k < 65536 ∧ ∃ b off, oa = some ⟨b, off, none⟩ ∧ W.cell? ⟨b, off + k, none⟩ = some (.int .u16 (f k : Nat))
theorem U16s.below {W w : World} {oa : Option Addr} {n : Nat} {f : Nat → Nat} (h : U16s W oa n f) (hb : Below W.heap.size W w) : U16s w oa n f := fun k hk => by
  obtain ⟨h1, b, off, h2, h3⟩ := h k hk
  exact ⟨h1, b, off, h2, cell_below hb h3⟩
theorem row_u16 {H : Type} {enc : TypeId × Value → H} {P : Program} {W : World} {base : Nat} {held : Bool} {T E : TypeId} {fuel : Nat} {cs : List Value} {x : DataW H × List MemPlace}
    (hT : P.underlying T = some (.slice E)) (hE : P.underlying E = some (.int .u16)) (hc : P.cellsOf E = 1)
    (h : DataW.trod enc P W base (fun _ => true) held fuel T cs = some x) :
    ∃ oa n cap f, cs = [.slice oa n cap] ∧ n ≤ cap ∧ cap ≤ maxLen ∧ U16s W oa cap f := by
  rcases open_ints hT hE hc h with ⟨hcs, _⟩ | ⟨a, n, cap, zs, hcs, _, hl, hm, hz, _, hcell, hwz⟩
  · exact ⟨none, 0, 0, fun _ => 0, hcs, by omega, by unfold maxLen; omega, fun k hk => by omega⟩
  · refine ⟨some a, n, cap, fun k => (zs.getD k 0).toNat, hcs, hl, hm, fun k hk => ?_⟩
    have hzl : zs.length = cap := by simpa using hz
    have hk' : k < zs.length := by omega
    have h1 := hcell k hk'
    have h2 := hwz _ (List.getElem_mem hk')
    have e : zs.getD k 0 = zs[k] := by simp [List.getD, hk']
    rw [e] at h1
    have hb : 0 ≤ zs[k] ∧ zs[k] ≤ 65535 := by
      simp [Lit.wf, IntKind.min, IntKind.max, IntKind.bits, IntKind.signed] at h2; omega
    obtain ⟨b, off, spot⟩ := a
    have hspot : spot = none := by simpa [Addr.add] using World.cell?_spot (hcell 0 (by omega))
    subst hspot
    refine ⟨by simp only [e]; omega, b, off, rfl, ?_⟩
    simp only [e]
    rw [show ((zs[k].toNat : Nat) : Int) = zs[k] from by omega]
    have ha : (Addr.mk b off none).add k = ⟨b, off + k, none⟩ := by
      unfold Addr.add; split
      · rename_i hk0; subst hk0; rfl
      · rfl
    rw [ha] at h1; exact h1
end Go.Proofs.YtcdeamokkbondaaDoor
