/- Secrets that came in: versions, one behind the other; four fields by value; the reach. -/
import Derived.Test.YtkaddilgegimjaaDoorEn1
import Derived.Lib.SmallJoins
import Derived.Deep.Slices
import Derived.Deep.Fields
import Derived.SizedLaws
namespace Go.Proofs.YtkaddilgegimjaaDoor
set_option linter.unusedVariables false
set_option linter.unusedSimpArgs false
open Go.Deep Go.Joins Go.ChangeShapes Go.WideShapes Go.RowKit

instance : Inhabited Ver := ⟨⟨0, 0, fun _ => 0, 0, 0⟩⟩
theorem bd64 {n : Int} (h : (Lit.int .u64 n).wf = true) : 0 ≤ n := by
  simp [Lit.wf, IntKind.min, IntKind.max, IntKind.signed, IntKind.bits] at h; omega
theorem bd32 {n : Int} (h : (Lit.int .u32 n).wf = true) : 0 ≤ n := by
  simp [Lit.wf, IntKind.min, IntKind.max, IntKind.signed, IntKind.bits] at h; omega
theorem row_bytes_nil {H : Type} {enc : TypeId × Value → H} {P : Program} {W : World} {base : Nat} {held : Bool} {T E : TypeId} {fuel : Nat} {v : Value} {x : DataW H × List MemPlace}
    (hT : P.underlying T = some (.slice E)) (hE : P.underlying E = some (.int .u8)) (hc : P.cellsOf E = 1)
    (h : DataW.trod enc P W base (fun _ => true) held fuel T [v] = some x) :
    ∃ oa n cap f, v = .slice oa n cap ∧ n ≤ cap ∧ cap ≤ maxLen ∧ Bytes W oa n f ∧ (oa = none → n = 0) := by
  obtain ⟨oa, n, cap, f, hv, hl, hm, hB⟩ := row_bytes hT hE hc h
  simp at hv
  refine ⟨oa, n, cap, f, hv, hl, hm, hB.mono hl, fun e => ?_⟩
  rcases Nat.eq_zero_or_pos cap with h0 | h0
  · omega
  · obtain ⟨_, b, off, e2, _⟩ := hB 0 h0
    rw [e] at e2; cases e2
theorem row_vers {H : Type} {enc : TypeId × Value → H} {P : Program} {W : World} {base : Nat} {held : Bool} {T E B : TypeId} {fuel : Nat} {v : Value} {x : DataW H × List MemPlace} {f0 f1 f2 f3 : Field}
    (hT : P.underlying T = some (.slice E)) (hE : P.underlying E = some (.struct #[f0, f1, f2, f3])) (hone : oneCellFields P #[f0, f1, f2, f3] = true) (hC : P.cellsOf E = 4)
    (e0 : P.underlying f0.type = some (.int .u32)) (e1 : P.underlying f1.type = some (.slice B)) (eB : P.underlying B = some (.int .u8)) (cB : P.cellsOf B = 1) (e2 : P.underlying f2.type = some (.int .u64)) (e3 : P.underlying f3.type = some (.int .i64))
    (h : DataW.trod enc P W base (fun _ => true) held fuel T [v] = some x) :
    ∃ oa n cap V, v = .slice oa n cap ∧ n ≤ cap ∧ cap ≤ maxLen ∧ Vers W oa n V ∧ (cap = 0 ∨ ∃ el sp, x.1 = .slice el sp ∧ el.length + sp.length = cap) := by
  rcases open_slice hT h with ⟨hcs, _⟩ | ⟨a, n, cap, m, fu, D, Pl, hcs, _, hl, hm, hmm, hx, hi⟩
  · simp at hcs
    exact ⟨none, 0, 0, fun _ => default, hcs, by omega, by unfold maxLen; omega, fun k hk => absurd hk (Nat.not_lt_zero _), .inl rfl⟩
  · simp at hcs
    simp only [if_true] at hmm
    subst hmm
    obtain ⟨V, hV⟩ := choose_lt (α := Ver) (n := m) (p := fun i v => ∃ C, IsVer W C v ∧ ∀ j, j < 4 → W.cell? (a.add (i * 4 + j)) = C[j]?) (fun i him => by
      obtain ⟨cs', hc, ht'⟩ := hi i him
      rw [hC] at hc
      obtain ⟨_, hcl, hat⟩ := World.cells?_some hc
      obtain ⟨ys, n', _, _, _, hyl, hf⟩ := DataW.trod_struct hE ht'
      obtain ⟨o0, k0⟩ := hone_of hone 0 f0 rfl
      obtain ⟨o1, k1⟩ := hone_of hone 1 f1 rfl
      obtain ⟨o2, k2⟩ := hone_of hone 2 f2 rfl
      obtain ⟨o3, k3⟩ := hone_of hone 3 f3 rfl
      match cs', hcl with
      | [c0, c1, c2, c3], _ =>
        match ys, hyl with
        | [y0, y1, y2, y3], _ =>
          have t0 := hf 0 f0 rfl
          have t1 := hf 1 f1 rfl
          have t2 := hf 2 f2 rfl
          have t3 := hf 3 f3 rfl
          rw [o0, k0] at t0
          rw [o1, k1] at t1
          rw [o2, k2] at t2
          rw [o3, k3] at t3
          simp at t0 t1 t2 t3
          obtain ⟨z0, a0, _, w0⟩ := DataW.trod_int e0 t0
          obtain ⟨od, dl, dc, df, a1, hdl, hdm, hdB, hdn⟩ := row_bytes_nil e1 eB cB t1
          obtain ⟨z2, a2, _, w2⟩ := DataW.trod_int e2 t2
          obtain ⟨z3, a3, _, _⟩ := DataW.trod_int e3 t3
          simp at a0 a1 a2 a3
          subst a0 a1 a2 a3
          obtain ⟨m0, rfl⟩ := Int.eq_ofNat_of_zero_le (bd32 w0)
          obtain ⟨m2, rfl⟩ := Int.eq_ofNat_of_zero_le (bd64 w2)
          exact ⟨⟨m0, dl, df, m2, z3⟩, _, ⟨od, dc, rfl, hdB, hdn, hdl, hdm⟩, fun j hj => by rw [← Go.Deep.add_add]; exact hat j hj⟩)
    refine ⟨some a, n, m, V, hcs, hl, hm, fun i hi' => ?_, .inr ⟨_, _, by rw [hx], by simp; omega⟩⟩
    obtain ⟨C, hI, hc⟩ := hV i (by omega)
    obtain ⟨b, off, spot⟩ := a
    have hsp : spot = none := by
      obtain ⟨C0, hI0, hc0⟩ := hV 0 (by omega)
      have h0 := hc0 0 (by omega)
      obtain ⟨_, _, rfl, _⟩ := hI0
      have h1 : W.cell? ((⟨b, off, spot⟩ : Addr).add (0 * 4 + 0)) = some (.int .u32 ((V 0).n : Int)) := h0
      simpa [Addr.add] using World.cell?_spot h1
    subst hsp
    refine ⟨b, off, C, rfl, hI, fun j hj => ?_⟩
    have ha : (Addr.mk b off none).add (i * 4 + j) = ⟨b, off + i * 4 + j, none⟩ := by
      unfold Addr.add; split
      · rename_i hk0; rw [Nat.add_assoc, hk0]; rfl
      · simp [Nat.add_assoc]
    rw [← ha]; exact hc j hj
theorem reach_sec {H : Type} {P : Program} {ts : List TypeId} {ds : List (DataW H)} {T S E : TypeId} {fs : Array Field} {d0 : DataW H} {r : List (DataW H)} {l : List TypeId} {el sp : List (DataW H)} (hwt : (DataW.weightsEach P ts ds).all (· ≤ reachBytes) = true)
    (ht : ts[0]? = some T) (hd : ds[0]? = some (.agg (d0 :: r))) (hT : P.underlying T = some (.struct fs)) (hf : fs.toList.map (·.type) = S :: l) (hS : P.underlying S = some (.slice E)) (hE : P.bytesOf E = 48) (hx : d0 = .slice el sp) :
    (el.length + sp.length) * 48 ≤ 140737488355328 := by
  have h1 : ∀ n ∈ (DataW.agg (d0 :: r)).weights P T, n ∈ DataW.weightsEach P ts ds := DataW.weights_mem_each ht hd
  have h2 : (el.length + sp.length) * 48 ∈ (DataW.agg (d0 :: r)).weights P T := by
    subst hx
    simp only [DataW.weights, hT, hf, DataW.weightsEach, hS, hE]
    simp
  have h3 := List.all_eq_true.1 hwt _ (h1 _ h2)
  have h4 : (el.length + sp.length) * 48 ≤ reachBytes := of_decide_eq_true h3
  unfold reachBytes at h4
  omega
end Go.Proofs.YtkaddilgegimjaaDoor
