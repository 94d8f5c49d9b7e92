/- Leases and texts that came in. -/
import Derived.Test.YtgfjlgaleddoaaaGreatDoorStp
import Derived.Test.YtgfjlgaleddoaaaGreatDoorLe2
import Derived.ProofKit
import Derived.OpenShut
import Derived.ChangeSame
import Derived.ChangeVars
import Derived.RowKitTokens
import Derived.Lib.SmallJoins
import Derived.Deep.Slices
import Derived.SizedLaws
namespace Go.Proofs.YtgfjlgaleddoaaaGreatDoor
set_option linter.unusedVariables false
set_option linter.unusedSimpArgs false
open Go.Deep Go.Joins Go.ChangeShapes Go.WideShapes Go.ChangeAt Go.RowKit
theorem trod_struct5 {H : Type} {enc : TypeId × Value → H} {P : Program} {w : World} {base : Nat} {spare : Nat → Bool} {held : Bool} {t : TypeId} {f0 f1 f2 f3 f4 : Field} {fuel : Nat} {cs : List Value} {x : DataW H × List MemPlace} (ht : P.underlying t = some (.struct #[f0, f1, f2, f3, f4])) (h : DataW.trod enc P w base spare held fuel t cs = some x) :
    ∃ y0 y1 y2 y3 y4 n, cs.length = P.cellsOf t ∧ DataW.trod enc P w base spare held n f0.type ((cs.drop f0.offset).take (P.cellsOf f0.type)) = some y0 ∧ DataW.trod enc P w base spare held n f1.type ((cs.drop f1.offset).take (P.cellsOf f1.type)) = some y1 ∧
      DataW.trod enc P w base spare held n f2.type ((cs.drop f2.offset).take (P.cellsOf f2.type)) = some y2 ∧ DataW.trod enc P w base spare held n f3.type ((cs.drop f3.offset).take (P.cellsOf f3.type)) = some y3 ∧ DataW.trod enc P w base spare held n f4.type ((cs.drop f4.offset).take (P.cellsOf f4.type)) = some y4 := by
  obtain ⟨xs, n, _, rfl, hl, hlen, hf⟩ := DataW.trod_struct ht h
  match xs, hlen with
  | [y0, y1, y2, y3, y4], _ => exact ⟨y0, y1, y2, y3, y4, n, hl, by simpa using hf 0 f0 rfl, by simpa using hf 1 f1 rfl, by simpa using hf 2 f2 rfl, by simpa using hf 3 f3 rfl, by simpa using hf 4 f4 rfl⟩
/-- A slice's bytes, by the reach. -/
theorem reach_slice {H : Type} {enc : TypeId × Value → H} {P : Program} {W : World} {base : Nat} {held : Bool} {T E : TypeId} {fuel : Nat} {oa : Option Addr} {n cap : Nat} {d : DataW H} {p : List MemPlace} {ts : List TypeId} {ds : List (DataW H)} {j : Nat}
    (hT : P.underlying T = some (.slice E)) (h : DataW.trod enc P W base (fun _ => true) held fuel T [.slice oa n cap] = some (d, p)) (hwt : (DataW.weightsEach P ts ds).all (· ≤ reachBytes) = true) (hj : ts[j]? = some T) (hd : ds[j]? = some d) : n * P.bytesOf E ≤ 140737488355328 := by
  rcases open_slice hT h with ⟨hcs, _⟩ | ⟨a, len, cap', m, k, D, Pl, hcs, _, hl, hm, hmm, hx, _⟩
  · cases hcs; omega
  · cases hcs
    have hd' : d = .slice ((List.range n).map D) ((List.range (m - n)).map fun j => D (n + j)) := (Prod.mk.inj hx).1
    have h1 := DataW.weights_mem_each (P := P) hj hd
    have hle : n ≤ m := by rw [hmm]; simpa using hl
    have h2 : m * P.bytesOf E ∈ d.weights P T := by
      subst hd'
      simp only [DataW.weights, hT]
      refine List.mem_cons.2 (.inl ?_)
      simp only [List.length_map, List.length_range]
      rw [Nat.add_sub_cancel' hle]
    have h3 := List.all_eq_true.1 hwt _ (h1 _ h2)
    have h4 : m * P.bytesOf E ≤ reachBytes := of_decide_eq_true h3
    unfold reachBytes at h4
    exact Nat.le_trans (Nat.mul_le_mul_right _ hle) (Nat.le_trans h4 (by decide))
theorem row_ck {H : Type} {enc : TypeId × Value → H} {P : Program} {W : World} {base : Nat} {held : Bool} {fuel : Nat} {TS T : TypeId} {k : Nat} {α : Type} (dft : α) (G : α → Prop) (enc' : α → List Value) (hk : ∀ x, (enc' x).length = k) (h0 : 0 < k) {cs : List Value} {x : DataW H × List MemPlace}
    (hS : P.underlying TS = some (.slice T)) (cT : P.cellsOf T = k) (hel : ∀ n cs' D, DataW.trod enc P W base (fun _ => true) held n T cs' = some D → cs'.length = k → ∃ y : α, G y ∧ cs' = enc' y) (h : DataW.trod enc P W base (fun _ => true) held fuel TS cs = some x) :
    ∃ oa n cap, ∃ X : Nat → α, cs = [.slice oa n cap] ∧ n ≤ cap ∧ cap ≤ maxLen ∧ (∀ i, i < n → G (X i)) ∧ CK k W oa n (fun i => enc' (X i)) := by
  rcases open_slice hS h with ⟨hcs, _⟩ | ⟨a, len, cap, m, n, D, Pl, hcs, _, hl, hm, hmm, _, hx⟩
  · exact ⟨none, 0, 0, fun _ => dft, hcs, Nat.le_refl _, by unfold maxLen; omega, fun i hi => absurd hi (Nat.not_lt_zero _), CK.nil _ _ _ _⟩
  · have hm' : m = cap := by simpa using hmm
    subst hm'
    have key : ∀ i, ∃ y : α, i < m → G y ∧ W.cells? base (a.add (i * k)) k = some (enc' y) := fun i => by
      by_cases hi : i < m
      · obtain ⟨cs', h1', h2⟩ := hx i hi
        rw [cT] at h1'
        obtain ⟨y, hy, e⟩ := hel n cs' _ h2 (World.cells?_some h1').2.1
        exact ⟨y, fun _ => ⟨hy, by rw [h1', e]⟩⟩
      · exact ⟨dft, fun h => absurd h hi⟩
    refine ⟨some a, len, m, fun i => (key i).choose, hcs, hl, hm, fun i hi => ((key i).choose_spec (by omega)).1, fun i hi => ?_⟩
    have hc := (World.cells?_some ((key i).choose_spec (by omega)).2).2.2
    have hc0 := (World.cells?_some ((key 0).choose_spec (by omega)).2).2.2 0 h0
    obtain ⟨b, off, spot⟩ := a
    have hlen0 := hk (key 0).choose
    have hspot : spot = none := by
      have h9 : (enc' (key 0).choose)[0]? = some ((enc' (key 0).choose)[0]'(by omega)) := List.getElem?_eq_getElem _
      have := World.cell?_spot (v := (enc' (key 0).choose)[0]'(by omega)) (by rw [hc0]; exact h9)
      simpa [Addr.add] using this
    subst hspot
    refine ⟨b, off, rfl, fun j v hv => ?_⟩
    have hj : j < k := by have := (List.getElem?_eq_some_iff.1 hv).1; rwa [hk] at this
    have h2 := hc j hj
    rw [hv, add_add] at h2
    have ha : (Addr.mk b off none).add (i * k + j) = ⟨b, off + i * k + j, none⟩ := by rw [Addr.add_mid, Nat.add_assoc]
    rw [ha] at h2; exact h2
theorem row_leases {H : Type} {enc : TypeId × Value → H} {P : Program} {W : World} {base : Nat} {held : Bool} {fuel : Nat} {TS T S U : TypeId} {f0 f1 f2 f3 f4 : Field} {cs : List Value} {x : DataW H × List MemPlace}
    (hS : P.underlying TS = some (.slice T)) (hT : P.underlying T = some (.struct #[f0, f1, f2, f3, f4])) (t0 : f0.type = S) (t1 : f1.type = S) (t2 : f2.type = S) (t3 : f3.type = U) (t4 : f4.type = U) (o0 : f0.offset = 0) (o1 : f1.offset = 1) (o2 : f2.offset = 2) (o3 : f3.offset = 3) (o4 : f4.offset = 4)
    (uS : P.underlying S = some .string) (uU : P.underlying U = some (.int .u64)) (cT : P.cellsOf T = 5) (cS : P.cellsOf S = 1) (cU : P.cellsOf U = 1) (h : DataW.trod enc P W base (fun _ => true) held fuel TS cs = some x) :
    ∃ oa n cap, ∃ X : Nat → LE, cs = [.slice oa n cap] ∧ n ≤ cap ∧ cap ≤ maxLen ∧ (∀ i, i < n → LES (X i)) ∧ CK 5 W oa n (leC X) :=
  row_ck (⟨⟨#[]⟩, ⟨#[]⟩, ⟨#[]⟩, 0, 0⟩ : LE) LES leL (fun _ => rfl) (by decide) hS cT (fun n cs' D hD hl => by
    subst t0
    obtain ⟨y0, y1, y2, y3, y4, k, _, g0, g1, g2, g3, g4⟩ := trod_struct5 hT hD
    rw [cS, o0] at g0
    rw [t1, cS, o1] at g1
    rw [t2, cS, o2] at g2
    rw [t3, cU, o3] at g3
    rw [t4, cU, o4] at g4
    match cs', hl with
    | [v0, v1, v2, v3, v4], _ =>
      obtain ⟨s0, e0, _, b0⟩ := DataW.trod_string uS (show DataW.trod enc P W base (fun _ => true) held k f0.type [v0] = some y0 from g0)
      obtain ⟨s1, e1, _, b1⟩ := DataW.trod_string uS (show DataW.trod enc P W base (fun _ => true) held k f0.type [v1] = some y1 from g1)
      obtain ⟨s2, e2, _, b2⟩ := DataW.trod_string uS (show DataW.trod enc P W base (fun _ => true) held k f0.type [v2] = some y2 from g2)
      obtain ⟨z3, e3, _, w3⟩ := DataW.trod_int uU (show DataW.trod enc P W base (fun _ => true) held k U [v3] = some y3 from g3)
      obtain ⟨z4, e4, _, w4⟩ := DataW.trod_int uU (show DataW.trod enc P W base (fun _ => true) held k U [v4] = some y4 from g4)
      cases e0; cases e1; cases e2; cases e3; cases e4
      have q3 := bd_of_wf_u64 w3
      have q4 := bd_of_wf_u64 w4
      obtain ⟨u3, rfl⟩ := Int.eq_ofNat_of_zero_le q3.1
      obtain ⟨u4, rfl⟩ := Int.eq_ofNat_of_zero_le q4.1
      exact ⟨⟨s0, s1, s2, u3, u4⟩, ⟨b0, b1, b2, by have := q3.2; show u3 < _; omega, by have := q4.2; show u4 < _; omega⟩, rfl⟩) h
theorem row_texts {H : Type} {enc : TypeId × Value → H} {P : Program} {W : World} {base : Nat} {held : Bool} {fuel : Nat} {TS S : TypeId} {cs : List Value} {x : DataW H × List MemPlace}
    (hS : P.underlying TS = some (.slice S)) (uS : P.underlying S = some .string) (cS : P.cellsOf S = 1) (h : DataW.trod enc P W base (fun _ => true) held fuel TS cs = some x) :
    ∃ oa n cap, ∃ X : Nat → ByteArray, cs = [.slice oa n cap] ∧ n ≤ cap ∧ cap ≤ maxLen ∧ (∀ i, i < n → (X i).size ≤ maxLen) ∧ CK 1 W oa n (stC X) :=
  row_ck (⟨#[]⟩ : ByteArray) (fun s => s.size ≤ maxLen) (fun s => [.string s]) (fun _ => rfl) (by decide) hS cS (fun n cs' D hD hl => by
    obtain ⟨s, e, _, b⟩ := DataW.trod_string uS hD
    exact ⟨s, b, e⟩) h
end Go.Proofs.YtgfjlgaleddoaaaGreatDoor
