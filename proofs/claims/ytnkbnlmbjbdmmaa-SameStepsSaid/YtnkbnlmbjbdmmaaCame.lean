/- How arguments that came in read, for walks: rows of bytes. -/
import Derived.Test.YtnkbnlmbjbdmmaaSteps
import Derived.ProofKit
import Derived.OpenShut
import Derived.Below
namespace Go.Proofs.Ytnkbnlmbjbdmmaa
open Go.ChangeShapes Go.WideShapes Go.ChangeAt Go.RowKit

theorem okWide_array {P : Program} {w : World} {r : Reach} {base : Nat} {t : TypeId} {v : Value} {n : Nat} {e : TypeId} (ht : P.underlying t = some (.array n e)) (h : Value.okWide P w r base t v) : ∃ cs, v = .agg cs ∧ cs.size = P.cellsOf t := by
  simp only [Value.okWide, ht] at h
  obtain ⟨cs, h1, h2, _⟩ := h
  exact ⟨cs, h1, h2⟩

theorem Bytes.mono {w : World} {oa : Option Addr} {n m : Nat} {f : Nat → Nat} (h : Bytes w oa n f) (hm : m ≤ n) : Bytes w oa m f := fun k hk => h k (by omega)

theorem row_bytes {H : Type} {enc : TypeId × Value → H} {P : Program} {W : World} {base : Nat} {held : Bool} {T E : TypeId} {fuel : Nat} {cs : List Value} {x : DataW H × List MemPlace}
    (hT : P.underlying T = some (.slice E)) (hE : P.underlying E = some (.int .u8)) (hc : P.cellsOf E = 1)
    (h : DataW.trod enc P W base (fun _ => true) held fuel T cs = some x) :
    ∃ oa n cap f, cs = [.slice oa n cap] ∧ n ≤ cap ∧ cap ≤ maxLen ∧ Bytes W oa cap f := by
  rcases open_ints hT hE hc h with ⟨hcs, _⟩ | ⟨a, n, cap, zs, hcs, _, hl, hm, hz, _, hcell, hwz⟩
  · exact ⟨none, 0, 0, fun _ => 0, hcs, by omega, by unfold maxLen; omega, fun k hk => by omega⟩
  · refine ⟨some a, n, cap, fun k => (zs.getD k 0).toNat, hcs, hl, hm, fun k hk => ?_⟩
    have hzl : zs.length = cap := by simpa using hz
    have hk' : k < zs.length := by omega
    have h1 := hcell k hk'
    have h2 := hwz _ (List.getElem_mem hk')
    have e : zs.getD k 0 = zs[k] := by simp [List.getD, hk']
    rw [e] at h1
    have hb : 0 ≤ zs[k] ∧ zs[k] ≤ 255 := by
      simp [Lit.wf, IntKind.min, IntKind.max, IntKind.bits, IntKind.signed] at h2; omega
    obtain ⟨b, off, spot⟩ := a
    have hspot : spot = none := by simpa [Addr.add] using World.cell?_spot (hcell 0 (by omega))
    subst hspot
    refine ⟨by simp only [e]; omega, b, off, rfl, ?_⟩
    simp only [e]
    rw [show ((zs[k].toNat : Nat) : Int) = zs[k] from by omega]
    have ha : (Addr.mk b off none).add k = ⟨b, off + k, none⟩ := by
      unfold Addr.add; split
      · rename_i hk0; subst hk0; rfl
      · rfl
    rw [ha] at h1; exact h1
end Go.Proofs.Ytnkbnlmbjbdmmaa
