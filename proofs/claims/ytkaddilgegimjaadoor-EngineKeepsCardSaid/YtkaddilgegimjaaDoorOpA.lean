/- Asks that came in. -/
import Derived.Test.YtkaddilgegimjaaDoorEkB
import Derived.Test.YtkaddilgegimjaaDoorOpV
namespace Go.Proofs.YtkaddilgegimjaaDoor
set_option linter.unusedVariables false
set_option linter.unusedSimpArgs false
open Go.Deep Go.Joins Go.ChangeShapes Go.WideShapes Go.RowKit

theorem row_asks {H : Type} {enc : TypeId × Value → H} {P : Program} {W : World} {base : Nat} {held : Bool} {T E B : TypeId} {fuel : Nat} {v : Value} {x : DataW H × List MemPlace} {f0 f1 f2 f3 : Field}
    (hT : P.underlying T = some (.slice E)) (hE : P.underlying E = some (.struct #[f0, f1, f2, f3])) (hone : oneCellFields P #[f0, f1, f2, f3] = true) (hC : P.cellsOf E = 4)
    (e0 : P.underlying f0.type = some (.slice B)) (eB : P.underlying B = some (.int .u8)) (cB : P.cellsOf B = 1) (e1 : P.underlying f1.type = some (.int .i64)) (e2 : P.underlying f2.type = some (.int .u32)) (e3 : P.underlying f3.type = some (.int .u64))
    (h : DataW.trod enc P W base (fun _ => true) held fuel T [v] = some x) :
    ∃ oa n cap A, v = .slice oa n cap ∧ n ≤ cap ∧ cap ≤ maxLen ∧ Asks W oa n A := by
  rcases open_slice hT h with ⟨hcs, _⟩ | ⟨a, n, cap, m, fu, D, Pl, hcs, _, hl, hm, hmm, hx, hi⟩
  · simp at hcs
    exact ⟨none, 0, 0, fun _ => ⟨0, fun _ => 0, 0, 0, 0⟩, hcs, by omega, by unfold maxLen; omega, fun k hk => absurd hk (Nat.not_lt_zero _)⟩
  · simp at hcs
    simp only [if_true] at hmm
    subst hmm
    haveI : Inhabited AskD := ⟨⟨0, fun _ => 0, 0, 0, 0⟩⟩
    obtain ⟨A, hA⟩ := choose_lt (α := AskD) (n := m) (p := fun i y => ∃ od cap, Bytes W od y.len y.f ∧ (od = none → y.len = 0) ∧ W.cell? (a.add (i * 4 + 0)) = some (.slice od y.len cap) ∧ W.cell? (a.add (i * 4 + 1)) = some (.int .i64 y.cas) ∧ W.cell? (a.add (i * 4 + 2)) = some (.int .u32 (y.n : Int)) ∧ W.cell? (a.add (i * 4 + 3)) = some (.int .u64 (y.now : Int))) (fun i him => by
      obtain ⟨cs', hc, ht'⟩ := hi i him
      rw [hC] at hc
      obtain ⟨_, hcl, hat⟩ := World.cells?_some hc
      obtain ⟨ys, n', _, _, _, hyl, hf⟩ := DataW.trod_struct hE ht'
      obtain ⟨o0, k0⟩ := hone_of hone 0 f0 rfl
      obtain ⟨o1, k1⟩ := hone_of hone 1 f1 rfl
      obtain ⟨o2, k2⟩ := hone_of hone 2 f2 rfl
      obtain ⟨o3, k3⟩ := hone_of hone 3 f3 rfl
      match cs', hcl with
      | [c0, c1, c2, c3], _ =>
        match ys, hyl with
        | [y0, y1, y2, y3], _ =>
          have t0 := hf 0 f0 rfl
          have t1 := hf 1 f1 rfl
          have t2 := hf 2 f2 rfl
          have t3 := hf 3 f3 rfl
          rw [o0, k0] at t0
          rw [o1, k1] at t1
          rw [o2, k2] at t2
          rw [o3, k3] at t3
          simp at t0 t1 t2 t3
          obtain ⟨od, dl, dc, df, a0, hdl, hdm, hdB, hdn⟩ := row_bytes_nil e0 eB cB t0
          obtain ⟨z1, a1, _, _⟩ := DataW.trod_int e1 t1
          obtain ⟨z2, a2, _, w2⟩ := DataW.trod_int e2 t2
          obtain ⟨z3, a3, _, w3⟩ := DataW.trod_int e3 t3
          simp at a0 a1 a2 a3
          subst a0 a1 a2 a3
          obtain ⟨m2, rfl⟩ := Int.eq_ofNat_of_zero_le (bd32 w2)
          obtain ⟨m3, rfl⟩ := Int.eq_ofNat_of_zero_le (bd64 w3)
          have q : ∀ j, j < 4 → W.cell? (a.add (i * 4 + j)) = [Value.slice od dl dc, .int .i64 z1, .int .u32 (m2 : Int), .int .u64 (m3 : Int)][j]? := fun j hj => by rw [← Go.Deep.add_add]; exact hat j hj
          exact ⟨⟨dl, df, z1, m2, m3⟩, od, dc, hdB, hdn, q 0 (by omega), q 1 (by omega), q 2 (by omega), q 3 (by omega)⟩)
    refine ⟨some a, n, m, A, hcs, hl, hm, fun i hi' => ?_⟩
    obtain ⟨od, dc, hB, hno, c0, c1, c2, c3⟩ := hA i (by omega)
    obtain ⟨b, off, spot⟩ := a
    have hsp : spot = none := by
      obtain ⟨_, _, _, _, h0, _⟩ := hA 0 (by omega)
      simpa [Addr.add] using World.cell?_spot h0
    subst hsp
    have ha : ∀ j, (Addr.mk b off none).add (i * 4 + j) = ⟨b, off + i * 4 + j, none⟩ := fun j => by
      unfold Addr.add; split
      · rename_i hk0; rw [Nat.add_assoc, hk0]; rfl
      · simp [Nat.add_assoc]
    rw [ha] at c0 c1 c2 c3
    exact ⟨b, off, od, dc, rfl, hB, hno, c0, c1, c2, c3⟩
end Go.Proofs.YtkaddilgegimjaaDoor
