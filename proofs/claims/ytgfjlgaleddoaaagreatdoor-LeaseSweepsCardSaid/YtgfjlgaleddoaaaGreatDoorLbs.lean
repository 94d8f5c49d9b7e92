/- A list of byte rows that came in. -/
import Derived.Test.YtgfjlgaleddoaaaGreatDoorCame
import Derived.ProofKit
import Derived.OpenShut
import Derived.ChangeSame
import Derived.ChangeVars
import Derived.RowKit
import Derived.RowKitTokens
import Derived.Lib.SmallJoins
import Derived.Deep.Slices
import Derived.SizedLaws
import Derived.Deep.MidRow
namespace Go.Proofs.YtgfjlgaleddoaaaGreatDoor
set_option linter.unusedVariables false
set_option linter.unusedSimpArgs false
open Go.Deep Go.ChangeShapes Go.WideShapes Go.ChangeAt Go.RowKit

/-- Byte rows, one behind the other. -/
def LBs (W : World) (oa : Option Addr) (n : Nat) (L : Nat → Nat) (G : Nat → Nat → Nat) : Prop :=
  ∀ i, i < n → ∃ b off od cp, oa = some ⟨b, off, none⟩ ∧ W.cell? ⟨b, off + i, none⟩ = some (.slice od (L i) cp) ∧ L i ≤ cp ∧ Bytes W od (L i) (G i) ∧ (od = none → L i = 0) ∧ cp ≤ maxLen
theorem row_bytes_nil {H : Type} {enc : TypeId × Value → H} {P : Program} {W : World} {base : Nat} {held : Bool} {T E : TypeId} {fuel : Nat} {v : Value} {x : DataW H × List MemPlace}
    (hT : P.underlying T = some (.slice E)) (hE : P.underlying E = some (.int .u8)) (hc : P.cellsOf E = 1)
    (h : DataW.trod enc P W base (fun _ => true) held fuel T [v] = some x) :
    ∃ oa n cap f, v = .slice oa n cap ∧ n ≤ cap ∧ cap ≤ maxLen ∧ Bytes W oa n f ∧ (oa = none → n = 0) := by
  obtain ⟨oa, n, cap, f, hv, hl, hm, hB⟩ := row_bytes hT hE hc h
  simp at hv
  refine ⟨oa, n, cap, f, hv, hl, hm, hB.mono hl, fun e => ?_⟩
  rcases Nat.eq_zero_or_pos cap with h0 | h0
  · omega
  · obtain ⟨_, b, off, e2, _⟩ := hB 0 h0
    rw [e] at e2; cases e2
instance : Inhabited (Nat × (Nat → Nat)) := ⟨⟨0, fun _ => 0⟩⟩
theorem rows_bytes {H : Type} {enc : TypeId × Value → H} {P : Program} {W : World} {base : Nat} {held : Bool} {T E B : TypeId} {fuel : Nat} {v : Value} {x : DataW H × List MemPlace}
    (hT : P.underlying T = some (.slice E)) (hE : P.underlying E = some (.slice B)) (hB : P.underlying B = some (.int .u8)) (hC : P.cellsOf E = 1) (cB : P.cellsOf B = 1)
    (h : DataW.trod enc P W base (fun _ => true) held fuel T [v] = some x) :
    ∃ oa n cap L G, v = .slice oa n cap ∧ n ≤ cap ∧ cap ≤ maxLen ∧ LBs W oa n L G := by
  rcases open_slice hT h with ⟨hcs, _⟩ | ⟨a, n, cap, m, fu, D, Pl, hcs, _, hl, hm, hmm, hx, hi⟩
  · simp at hcs
    exact ⟨none, 0, 0, fun _ => 0, fun _ _ => 0, hcs, by omega, by unfold maxLen; omega, fun k hk => absurd hk (Nat.not_lt_zero _)⟩
  · simp at hcs
    simp only [if_true] at hmm
    subst hmm
    obtain ⟨V, hV⟩ := choose_lt (α := Nat × (Nat → Nat)) (n := m) (p := fun i v => ∃ od cp, W.cell? (a.add i) = some (.slice od v.1 cp) ∧ v.1 ≤ cp ∧ Bytes W od v.1 v.2 ∧ (od = none → v.1 = 0) ∧ cp ≤ maxLen) (fun i him => by
      obtain ⟨cs', hc, ht'⟩ := hi i him
      rw [hC] at hc
      obtain ⟨_, hcl, hat⟩ := World.cells?_some hc
      match cs', hcl with
      | [c0], _ =>
        obtain ⟨od, dl, dc, df, a1, hdl, hdm, hdB, hdn⟩ := row_bytes_nil hE hB cB ht'
        subst a1
        refine ⟨⟨dl, df⟩, od, dc, ?_, hdl, hdB, hdn, hdm⟩
        have := hat 0 (by omega)
        rw [Nat.mul_one, Go.Deep.add_add, Nat.add_zero] at this
        simpa using this)
    refine ⟨some a, n, m, fun i => (V i).1, fun i => (V i).2, hcs, hl, hm, fun i hi' => ?_⟩
    obtain ⟨od, cp, h1, h2, h3, h4, h5⟩ := hV i (by omega)
    obtain ⟨b, off, spot⟩ := a
    have hsp : spot = none := by
      obtain ⟨od0, cp0, g1, _⟩ := hV 0 (by omega)
      simpa [Addr.add] using World.cell?_spot g1
    subst hsp
    refine ⟨b, off, od, cp, rfl, ?_, h2, h3, h4, h5⟩
    rw [← Addr.add_mid]; exact h1
end Go.Proofs.YtgfjlgaleddoaaaGreatDoor
