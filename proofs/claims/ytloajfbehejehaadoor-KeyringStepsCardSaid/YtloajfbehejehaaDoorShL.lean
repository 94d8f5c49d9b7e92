/- What the rows' condition on the package's variables gives a walk; a list of byte rows that came in. -/
import Derived.Test.YtloajfbehejehaaDoorRows
import Derived.Test.YtloajfbehejehaaDoorSh1
import Derived.ProofKit
import Derived.OpenShut
import Derived.ChangeSame
import Derived.ChangeVars
import Derived.JoinedOf
import Derived.RowKit
import Derived.RowKitTokens
import Derived.LaidLaws
import Derived.LaidMore
import Derived.LaidSub
import Derived.Lay
import Derived.Stop.Joined
import Derived.Lib.SmallJoins
import Derived.Deep.Slices
namespace Go.Proofs.YtloajfbehejehaaDoor
set_option linter.unusedVariables false
set_option linter.unusedSimpArgs false
open Go.Deep Go.ChangeShapes Go.WideShapes Go.ChangeAt Go.RowKit

theorem Tryd.own : ownKnob Tryd.prog.godebug = none := by kernel_rfl
theorem Tryd.laidOut : laidOutB Tryd.prog = true := by kernel_rfl
def laidL : List (String × DataW Unit) := [("bursary/sha.first", Rows.laid_bursary_sha_first), ("bursary/sha.added", Rows.laid_bursary_sha_added)]
def ints (l : List Nat) : List Int := l.map fun (n : Nat) => (n : Int)
theorem laid_first : (Rows.laid_bursary_sha_first : DataW Unit) = .agg ((ints hTab).map fun n => .lit (.int .u32 n)) := by kernel_rfl
theorem laid_added : (Rows.laid_bursary_sha_added : DataW Unit) = .agg ((ints kTab).map fun n => .lit (.int .u32 n)) := by kernel_rfl
theorem tab_cell {W : World} {name : String} {g : Nat} {T : TypeId} {n : Nat} {l : List Nat} (h : laidMetH Tryd.prog [(name, .agg ((ints l).map fun n => .lit (.int .u32 n)))] W)
    (hp : laidMetH Tryd.prog [(name, .agg ((ints l).map fun n => .lit (.int .u32 n)))] W = laidMet Tryd.prog [(name, .agg ((ints l).map fun n => .lit (.int .u32 n)))] W)
    (hg : Tryd.prog.globalNamed name = some g) (ht : (Tryd.prog.globals[g]?).map (·.type) = some T) (hT : Tryd.prog.underlying T = some (.array n 39)) (hl : l.length = n) (r : Nat) (hr : r < n) : W.cell? ⟨g, r, none⟩ = some (.int .u32 (l.getD r 0 : Nat)) := by
  rw [hp] at h
  obtain ⟨ps, ⟨g', t, cs, fuel, p, q, hg', ht', hv, hd, _, _⟩, _, _⟩ := h
  obtain rfl := Option.some.inj (hg.symm.trans hg')
  obtain rfl := Option.some.inj (ht.symm.trans ht')
  obtain ⟨xs, m, _, ex, _, hlx, hel⟩ := DataW.trod_array hT hd
  have c5 : Tryd.prog.cellsOf 39 = 1 := by kernel_rfl
  have hE := hel r hr
  rw [c5, Nat.mul_one, List.getElem?_eq_getElem (by omega)] at hE
  obtain ⟨z, e1, e2, _⟩ := DataW.trod_int Tryd.underlying39 hE
  have hlen : (ints l).length = n := by simpa [ints] using hl
  have e3 : (xs.map (·.1)) = (ints l).map fun n => .lit (.int .u32 n) := (DataW.agg.inj (Prod.mk.inj ex).1).symm
  have e4 : (xs.map (·.1))[r]? = ((ints l).map fun n => (DataW.lit (.int .u32 n) : DataW Unit))[r]? := by rw [e3]
  rw [List.getElem?_map, List.getElem?_map, List.getElem?_eq_getElem (by omega : r < xs.length), List.getElem?_eq_getElem (by omega : r < (ints l).length), e2] at e4
  have hz : z = ((l.getD r 0 : Nat) : Int) := by
    simp only [Option.map_some, Option.some.injEq, DataW.lit.injEq, Lit.int.injEq, true_and] at e4
    rw [e4]
    have h1 : (ints l)[r]'(by omega) = ((l[r]'(by omega) : Nat) : Int) := by simp [ints]
    rw [h1, List.getD_eq_getElem?_getD, List.getElem?_eq_getElem (by omega : r < l.length)]; rfl
  rw [World.var?_cell hg hv r, ← hz]
  have : cs.toList[r]? = some (.int .u32 z) := by
    have h0 : ((cs.toList.drop r).take 1)[0]? = some (.int .u32 z) := by rw [e1]; rfl
    simpa using h0
  simpa using this
theorem gv_of_laid {W : World} (h : laidMetH Tryd.prog laidL W) : GV W := by
  have h1 := h.filter (fun x => x.1 == "bursary/sha.first")
  have h2 := h.filter (fun x => x.1 == "bursary/sha.added")
  rw [show laidL.filter (fun x => x.1 == "bursary/sha.first") = [("bursary/sha.first", .agg ((ints hTab).map fun n => .lit (.int .u32 n)))] by rw [← laid_first]; rfl] at h1
  rw [show laidL.filter (fun x => x.1 == "bursary/sha.added") = [("bursary/sha.added", .agg ((ints kTab).map fun n => .lit (.int .u32 n)))] by rw [← laid_added]; rfl] at h2
  exact ⟨fun i hi => tab_cell h1 (MakeChecks.laidMetH_plain _ _ _ (by kernel_rfl)) (by kernel_rfl) (by kernel_rfl) Tryd.underlying115 rfl i hi,
    fun i hi => tab_cell h2 (MakeChecks.laidMetH_plain _ _ _ (by kernel_rfl)) (by kernel_rfl) (by kernel_rfl) Tryd.underlying121 rfl i hi⟩

/-- Byte rows, one behind the other. -/
def LBs (W : World) (oa : Option Addr) (n : Nat) (L : Nat → Nat) (G : Nat → Nat → Nat) : Prop :=
  ∀ i, i < n → ∃ b off od cp, oa = some ⟨b, off, none⟩ ∧ W.cell? ⟨b, off + i, none⟩ = some (.slice od (L i) cp) ∧ L i ≤ cp ∧ Bytes W od (L i) (G i) ∧ (od = none → L i = 0) ∧ cp ≤ maxLen
theorem row_bytes_nil {H : Type} {enc : TypeId × Value → H} {P : Program} {W : World} {base : Nat} {held : Bool} {T E : TypeId} {fuel : Nat} {v : Value} {x : DataW H × List MemPlace}
    (hT : P.underlying T = some (.slice E)) (hE : P.underlying E = some (.int .u8)) (hc : P.cellsOf E = 1)
    (h : DataW.trod enc P W base (fun _ => true) held fuel T [v] = some x) :
    ∃ oa n cap f, v = .slice oa n cap ∧ n ≤ cap ∧ cap ≤ maxLen ∧ Bytes W oa n f ∧ (oa = none → n = 0) := by
  obtain ⟨oa, n, cap, f, hv, hl, hm, hB⟩ := row_bytes hT hE hc h
  simp at hv
  refine ⟨oa, n, cap, f, hv, hl, hm, hB.mono hl, fun e => ?_⟩
  rcases Nat.eq_zero_or_pos cap with h0 | h0
  · omega
  · obtain ⟨_, b, off, e2, _⟩ := hB 0 h0
    rw [e] at e2; cases e2
instance : Inhabited (Nat × (Nat → Nat)) := ⟨⟨0, fun _ => 0⟩⟩
theorem rows_bytes {H : Type} {enc : TypeId × Value → H} {P : Program} {W : World} {base : Nat} {held : Bool} {T E B : TypeId} {fuel : Nat} {v : Value} {x : DataW H × List MemPlace}
    (hT : P.underlying T = some (.slice E)) (hE : P.underlying E = some (.slice B)) (hB : P.underlying B = some (.int .u8)) (hC : P.cellsOf E = 1) (cB : P.cellsOf B = 1)
    (h : DataW.trod enc P W base (fun _ => true) held fuel T [v] = some x) :
    ∃ oa n cap L G, v = .slice oa n cap ∧ n ≤ cap ∧ cap ≤ maxLen ∧ LBs W oa n L G := by
  rcases open_slice hT h with ⟨hcs, _⟩ | ⟨a, n, cap, m, fu, D, Pl, hcs, _, hl, hm, hmm, hx, hi⟩
  · simp at hcs
    exact ⟨none, 0, 0, fun _ => 0, fun _ _ => 0, hcs, by omega, by unfold maxLen; omega, fun k hk => absurd hk (Nat.not_lt_zero _)⟩
  · simp at hcs
    simp only [if_true] at hmm
    subst hmm
    obtain ⟨V, hV⟩ := choose_lt (α := Nat × (Nat → Nat)) (n := m) (p := fun i v => ∃ od cp, W.cell? (a.add i) = some (.slice od v.1 cp) ∧ v.1 ≤ cp ∧ Bytes W od v.1 v.2 ∧ (od = none → v.1 = 0) ∧ cp ≤ maxLen) (fun i him => by
      obtain ⟨cs', hc, ht'⟩ := hi i him
      rw [hC] at hc
      obtain ⟨_, hcl, hat⟩ := World.cells?_some hc
      match cs', hcl with
      | [c0], _ =>
        obtain ⟨od, dl, dc, df, a1, hdl, hdm, hdB, hdn⟩ := row_bytes_nil hE hB cB ht'
        subst a1
        refine ⟨⟨dl, df⟩, od, dc, ?_, hdl, hdB, hdn, hdm⟩
        have := hat 0 (by omega)
        rw [Nat.mul_one, Go.Deep.add_add, Nat.add_zero] at this
        simpa using this)
    refine ⟨some a, n, m, fun i => (V i).1, fun i => (V i).2, hcs, hl, hm, fun i hi' => ?_⟩
    obtain ⟨od, cp, h1, h2, h3, h4, h5⟩ := hV i (by omega)
    obtain ⟨b, off, spot⟩ := a
    have hsp : spot = none := by
      obtain ⟨od0, cp0, g1, _⟩ := hV 0 (by omega)
      simpa [Addr.add] using World.cell?_spot g1
    subst hsp
    refine ⟨b, off, od, cp, rfl, ?_, h2, h3, h4, h5⟩
    rw [← Addr.add_mid]; exact h1
end Go.Proofs.YtloajfbehejehaaDoor
