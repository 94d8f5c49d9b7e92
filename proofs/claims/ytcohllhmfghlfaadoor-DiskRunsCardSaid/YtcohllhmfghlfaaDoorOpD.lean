/- What is done to a disk, as it came in. -/
import Derived.Test.YtcohllhmfghlfaaDoorDlA
import Derived.Deep.Grids
import Derived.Deep.Fields
namespace Go.Proofs.YtcohllhmfghlfaaDoor
set_option linter.unusedVariables false
set_option linter.unusedSimpArgs false
open Go.Deep Go.Joins Go.ChangeShapes Go.WideShapes Go.ChangeAt Go.RowKit

theorem bdD64 {n : Int} (h : (Lit.int .i64 n).wf = true) : -9223372036854775808 ≤ n ∧ n ≤ 9223372036854775807 := bd_of_wf_i64 h
theorem row_bools_1 {H : Type} {enc : TypeId × Value → H} {P : Program} {W : World} {base : Nat} {held : Bool} {T E : TypeId} {fuel : Nat} {v : Value} {x : DataW H × List MemPlace}
    (hT : P.underlying T = some (.slice E)) (hE : P.underlying E = some .bool) (hc : P.cellsOf E = 1)
    (h : DataW.trod enc P W base (fun _ => true) held fuel T [v] = some x) :
    ∃ oa n cap f, v = .slice oa n cap ∧ n ≤ cap ∧ cap ≤ maxLen ∧ Bools W oa n f := by
  obtain ⟨oa, n, cap, f, hv, h1, h2, h3⟩ := row_bools hT hE hc h
  simp at hv
  exact ⟨oa, n, cap, f, hv, h1, h2, h3⟩
theorem row_acts {H : Type} {enc : TypeId × Value → H} {P : Program} {W : World} {base : Nat} {held : Bool} {T E B G : TypeId} {fuel : Nat} {v : Value} {x : DataW H × List MemPlace} {f0 f1 f2 f3 : Field}
    (hT : P.underlying T = some (.slice E)) (hE : P.underlying E = some (.struct #[f0, f1, f2, f3])) (hone : oneCellFields P #[f0, f1, f2, f3] = true) (hC : P.cellsOf E = 4)
    (e0 : P.underlying f0.type = some (.int .i64)) (e1 : P.underlying f1.type = some (.int .i64)) (e2 : P.underlying f2.type = some (.slice B)) (eB : P.underlying B = some (.int .u8)) (cB : P.cellsOf B = 1) (e3 : P.underlying f3.type = some (.slice G)) (eG : P.underlying G = some .bool) (cG : P.cellsOf G = 1)
    (h : DataW.trod enc P W base (fun _ => true) held fuel T [v] = some x) :
    ∃ oa n cap A, v = .slice oa n cap ∧ n ≤ cap ∧ cap ≤ maxLen ∧ Acts W oa n A := by
  rcases open_slice hT h with ⟨hcs, _⟩ | ⟨a, n, cap, m, fu, D, Pl, hcs, _, hl, hm, hmm, hx, hi⟩
  · simp at hcs
    exact ⟨none, 0, 0, fun _ => ⟨0, 0, 0, fun _ => 0, 0, fun _ => false⟩, hcs, by omega, by unfold maxLen; omega, fun k hk => absurd hk (Nat.not_lt_zero _)⟩
  · simp at hcs
    simp only [if_true] at hmm
    subst hmm
    haveI : Inhabited ActD := ⟨⟨0, 0, 0, fun _ => 0, 0, fun _ => false⟩⟩
    obtain ⟨A, hA⟩ := choose_lt (α := ActD) (n := m) (p := fun i y => ∃ od cap ok ck, W.cell? (a.add (i * 4 + 0)) = some (.int .i64 y.kd) ∧ W.cell? (a.add (i * 4 + 1)) = some (.int .i64 y.n) ∧ W.cell? (a.add (i * 4 + 2)) = some (.slice od y.l cap) ∧ W.cell? (a.add (i * 4 + 3)) = some (.slice ok y.kl ck) ∧
      Bytes W od y.l y.f ∧ (od = none → y.l = 0) ∧ y.l ≤ cap ∧ cap ≤ maxLen ∧ Bools W ok y.kl y.kf ∧ y.kl ≤ maxLen ∧ (-9223372036854775808 ≤ y.kd ∧ y.kd ≤ 9223372036854775807) ∧ (-9223372036854775808 ≤ y.n ∧ y.n ≤ 9223372036854775807)) (fun i him => by
      obtain ⟨cs', hc, ht'⟩ := hi i him
      rw [hC] at hc
      obtain ⟨_, hcl, hat⟩ := World.cells?_some hc
      obtain ⟨ys, n', _, _, _, hyl, hf⟩ := DataW.trod_struct hE ht'
      obtain ⟨o0, k0⟩ := hone_of hone 0 f0 rfl
      obtain ⟨o1, k1⟩ := hone_of hone 1 f1 rfl
      obtain ⟨o2, k2⟩ := hone_of hone 2 f2 rfl
      obtain ⟨o3, k3⟩ := hone_of hone 3 f3 rfl
      match cs', hcl with
      | [c0, c1, c2, c3], _ =>
        match ys, hyl with
        | [y0, y1, y2, y3], _ =>
          have t0 := hf 0 f0 rfl
          have t1 := hf 1 f1 rfl
          have t2 := hf 2 f2 rfl
          have t3 := hf 3 f3 rfl
          rw [o0, k0] at t0
          rw [o1, k1] at t1
          rw [o2, k2] at t2
          rw [o3, k3] at t3
          simp at t0 t1 t2 t3
          obtain ⟨z0, a0, _, w0⟩ := DataW.trod_int e0 t0
          obtain ⟨z1, a1, _, w1⟩ := DataW.trod_int e1 t1
          obtain ⟨od, dl, dc, df, a2, hdl, hdm, hdB, hdn⟩ := row_bytes_nil e2 eB cB t2
          obtain ⟨ok, kl, kc, kf, a3, hkl, hkm, hkB⟩ := row_bools_1 e3 eG cG t3
          simp at a0 a1 a2 a3
          subst a0 a1 a2 a3
          have q : ∀ j, j < 4 → W.cell? (a.add (i * 4 + j)) = [Value.int .i64 z0, .int .i64 z1, .slice od dl dc, .slice ok kl kc][j]? := fun j hj => by rw [← Go.Deep.add_add]; exact hat j hj
          exact ⟨⟨z0, z1, dl, df, kl, kf⟩, od, dc, ok, kc, q 0 (by omega), q 1 (by omega), q 2 (by omega), q 3 (by omega), hdB, hdn, hdl, hdm, hkB, Nat.le_trans hkl hkm, bdD64 w0, bdD64 w1⟩)
    refine ⟨some a, n, m, A, hcs, hl, hm, fun i hi' => ?_⟩
    obtain ⟨od, dc, ok, kc, c0, c1, c2, c3, r⟩ := hA i (by omega)
    obtain ⟨b, off, spot⟩ := a
    have hsp : spot = none := by
      obtain ⟨_, _, _, _, h0, _⟩ := hA 0 (by omega)
      simpa [Addr.add] using World.cell?_spot h0
    subst hsp
    have ha : ∀ j, (Addr.mk b off none).add (i * 4 + j) = ⟨b, off + i * 4 + j, none⟩ := fun j => by
      unfold Addr.add; split
      · rename_i hk0; rw [Nat.add_assoc, hk0]; rfl
      · simp [Nat.add_assoc]
    rw [ha] at c0 c1 c2 c3
    exact ⟨b, off, od, dc, ok, kc, rfl, c0, c1, c2, c3, r⟩
end Go.Proofs.YtcohllhmfghlfaaDoor
