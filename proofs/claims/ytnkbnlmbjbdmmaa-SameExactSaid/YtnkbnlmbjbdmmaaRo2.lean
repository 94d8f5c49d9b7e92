/- Rows of bytes that came in: one, nil or not; many, one behind the other. -/
import Derived.Test.YtnkbnlmbjbdmmaaCame
import Derived.Deep.Matrix
namespace Go.Proofs.Ytnkbnlmbjbdmmaa
set_option linter.unusedVariables false
set_option linter.unusedSimpArgs false
open Go.Deep Go.ChangeShapes Go.WideShapes Go.ChangeAt Go.RowKit

theorem row_bytes0 {H : Type} {enc : TypeId × Value → H} {P : Program} {W : World} {base : Nat} {held : Bool} {T E : TypeId} {fuel : Nat} {cs : List Value} {x : DataW H × List MemPlace}
    (hT : P.underlying T = some (.slice E)) (hE : P.underlying E = some (.int .u8)) (hc : P.cellsOf E = 1)
    (h : DataW.trod enc P W base (fun _ => true) held fuel T cs = some x) :
    ∃ oa n cap f, cs = [.slice oa n cap] ∧ n ≤ cap ∧ cap ≤ maxLen ∧ Bytes W oa n f ∧ (oa = none → n = 0) := by
  obtain ⟨oa, n, cap, f, hv, hl, hm, hB⟩ := row_bytes hT hE hc h
  refine ⟨oa, n, cap, f, hv, hl, hm, hB.mono hl, fun e => ?_⟩
  rcases Nat.eq_zero_or_pos cap with h0 | h0
  · omega
  · obtain ⟨_, b, off, e2, _⟩ := hB 0 h0
    rw [e] at e2; cases e2
theorem row_rows {H : Type} {enc : TypeId × Value → H} {P : Program} {W : World} {base : Nat} {held : Bool} {T E Q : TypeId} {fuel : Nat} {cs : List Value} {x : DataW H × List MemPlace}
    (hT : P.underlying T = some (.slice E)) (hE : P.underlying E = some (.slice Q)) (hQ : P.underlying Q = some (.int .u8)) (cE : P.cellsOf E = 1) (cQ : P.cellsOf Q = 1)
    (h : DataW.trod enc P W base (fun _ => true) held fuel T cs = some x) :
    ∃ (oa : Option Addr) (n cap : Nat) (L : Nat → Nat) (F : Nat → Nat → Nat), cs = [.slice oa n cap] ∧ n ≤ cap ∧ cap ≤ maxLen ∧ ∀ i, i < n → ∃ b off od cp, oa = some ⟨b, off, none⟩ ∧ W.cell? ⟨b, off + i, none⟩ = some (.slice od (L i) cp) ∧ Bytes W od (L i) (F i) ∧ (od = none → L i = 0) ∧ L i ≤ cp ∧ cp ≤ maxLen := by
  rcases open_int_rows hT hE hQ cE cQ h with ⟨hcs, _⟩ | ⟨a, len, cap, A, L, C, Z, hcs, _, hl, hm, _, hr⟩
  · exact ⟨none, 0, 0, fun _ => 0, fun _ _ => 0, hcs, Nat.le_refl _, by unfold maxLen; omega, fun i hi => absurd hi (Nat.not_lt_zero _)⟩
  · refine ⟨some a, len, cap, L, fun r c => ((Z r).getD c 0).toNat, hcs, hl, hm, fun i hi => ?_⟩
    obtain ⟨hc, hLC, hCm, hZ, hwf, hno, hcell⟩ := hr i (by omega)
    obtain ⟨b, off, spot⟩ := a
    have hsp : spot = none := by simpa [Addr.add] using World.cell?_spot (hr 0 (by omega)).1
    subst hsp
    have ha : ∀ (b off k : Nat), (Addr.mk b off none).add k = ⟨b, off + k, none⟩ := fun b off k => by
      unfold Addr.add; split
      · rename_i hk0; subst hk0; rfl
      · rfl
    rw [ha] at hc
    refine ⟨b, off, A i, C i, rfl, hc, fun k hk => ?_, fun e => by have := hno e; omega, hLC, hCm⟩
    rcases hA : A i with _ | a'
    · have := hno hA; omega
    · obtain ⟨_, hcc⟩ := hcell a' hA
      have h1 := hcc k (by omega)
      obtain ⟨b', off', spot'⟩ := a'
      have hsp' : spot' = none := by simpa [Addr.add] using World.cell?_spot (hcc 0 (by omega))
      subst hsp'
      rw [ha] at h1
      have hk' : k < (Z i).length := by omega
      have h2 := hwf _ (List.getElem_mem hk')
      have e : (Z i).getD k 0 = (Z i)[k] := by simp [List.getD, hk']
      have hb : 0 ≤ (Z i)[k] ∧ (Z i)[k] ≤ 255 := by
        simp [Lit.wf, IntKind.min, IntKind.max, IntKind.bits, IntKind.signed] at h2; omega
      rw [e] at h1
      refine ⟨by show ((Z i).getD k 0).toNat < 256; rw [e]; omega, b', off', rfl, ?_⟩
      show W.cell? _ = some (Value.int .u8 (((Z i).getD k 0).toNat : Nat))
      rw [e, show (((Z i)[k]).toNat : Int) = (Z i)[k] from by omega]
      exact h1
end Go.Proofs.Ytnkbnlmbjbdmmaa
