/- How what came in reads, merged: rows of bytes, structs of three numbers, parts (OpS, Op3, OpJ). -/
import Derived.Test.YtgiffaeckhhmpaaDoorSpA
import Derived.Lib.SmallJoins
import Derived.Deep.Slices
import Derived.Deep.Fields
import Derived.SizedLaws
import Derived.Test.YtgiffaeckhhmpaaDoorApA
namespace Go.Proofs.YtgiffaeckhhmpaaDoor
set_option linter.unusedVariables false
set_option linter.unusedSimpArgs false
open Go.Deep Go.Joins Go.ChangeShapes Go.WideShapes Go.RowKit

theorem row_bytes_nil {H : Type} {enc : TypeId × Value → H} {P : Program} {W : World} {base : Nat} {held : Bool} {T E : TypeId} {fuel : Nat} {v : Value} {x : DataW H × List MemPlace}
    (hT : P.underlying T = some (.slice E)) (hE : P.underlying E = some (.int .u8)) (hc : P.cellsOf E = 1)
    (h : DataW.trod enc P W base (fun _ => true) held fuel T [v] = some x) :
    ∃ oa n cap f, v = .slice oa n cap ∧ n ≤ cap ∧ cap ≤ maxLen ∧ Bytes W oa n f ∧ (oa = none → n = 0) := by
  obtain ⟨oa, n, cap, f, hv, hl, hm, hB⟩ := row_bytes hT hE hc h
  simp at hv
  refine ⟨oa, n, cap, f, hv, hl, hm, hB.mono hl, fun e => ?_⟩
  rcases Nat.eq_zero_or_pos cap with h0 | h0
  · omega
  · obtain ⟨_, b, off, e2, _⟩ := hB 0 h0
    rw [e] at e2; cases e2
theorem bytes_nil0 {W : World} {oa : Option Addr} {cap : Nat} {f : Nat → Nat} (h : Bytes W oa cap f) : oa = none → cap = 0 := fun e => by
  rcases Nat.eq_zero_or_pos cap with h0 | h0
  · exact h0
  · obtain ⟨_, b, off, e2, _⟩ := h 0 h0
    rw [e] at e2; cases e2

theorem agg3_int {H : Type} {enc : TypeId × Value → H} {P : Program} {W : World} {r : Reach} {b0 base : Nat} {spare : Nat → Bool} {held : Bool} {T : TypeId} {f0 f1 f2 : Field} {k0 k1 k2 : IntKind} {v : Value} {d : DataW H} {p : List MemPlace}
    (hT : P.underlying T = some (.struct #[f0, f1, f2])) (hone : oneCellFields P #[f0, f1, f2] = true) (hC : P.cellsOf T = 3)
    (e0 : P.underlying f0.type = some (.int k0)) (e1 : P.underlying f1.type = some (.int k1)) (e2 : P.underlying f2.type = some (.int k2))
    (hv : Value.okWide P W r b0 T v) (h : DataW.Trod enc P W base spare held T v d p) :
    ∃ x y z, v = .agg #[.int k0 x, .int k1 y, .int k2 z] ∧ (Lit.int k0 x).wf = true ∧ (Lit.int k1 y).wf = true ∧ (Lit.int k2 z).wf = true := by
  obtain ⟨v0, v1, v2, y0, y1, y2, n, rfl, _, _, h0, h1, h2⟩ := open_agg3 hT hone hC hv h
  obtain ⟨x, a0, _, w0⟩ := DataW.trod_int e0 h0
  obtain ⟨y, a1, _, w1⟩ := DataW.trod_int e1 h1
  obtain ⟨z, a2, _, w2⟩ := DataW.trod_int e2 h2
  simp at a0 a1 a2
  subst a0 a1 a2
  exact ⟨x, y, z, rfl, w0, w1, w2⟩

theorem row_shares {H : Type} {enc : TypeId × Value → H} {P : Program} {W : World} {base : Nat} {held : Bool} {T E B : TypeId} {fuel : Nat} {v : Value} {x : DataW H × List MemPlace} {f0 f1 f2 : Field}
    (hT : P.underlying T = some (.slice E)) (hE : P.underlying E = some (.struct #[f0, f1, f2])) (hone : oneCellFields P #[f0, f1, f2] = true) (hC : P.cellsOf E = 3)
    (e0 : P.underlying f0.type = some (.int .u8)) (e1 : P.underlying f1.type = some (.int .u32)) (e2 : P.underlying f2.type = some (.slice B)) (eB : P.underlying B = some (.int .u8)) (cB : P.cellsOf B = 1)
    (h : DataW.trod enc P W base (fun _ => true) held fuel T [v] = some x) :
    ∃ oa n cap S, v = .slice oa n cap ∧ n ≤ cap ∧ cap ≤ maxLen ∧ (∀ tb, W.heap.size ≤ tb → Shs tb W oa n S) ∧ ∀ i, i < n → (S i).ix < 256 := by
  rcases open_slice hT h with ⟨hcs, _⟩ | ⟨a, n, cap, m, fu, D, Pl, hcs, _, hl, hm, hmm, hx, hi⟩
  · simp at hcs
    exact ⟨none, 0, 0, fun _ => default, hcs, by omega, by unfold maxLen; omega, fun _ _ k hk => absurd hk (Nat.not_lt_zero _), fun k hk => absurd hk (Nat.not_lt_zero _)⟩
  · simp at hcs
    simp only [if_true] at hmm
    subst hmm
    obtain ⟨V, hV⟩ := choose_lt (α := Sh) (n := m) (p := fun i s => ∃ C, (∀ tb, W.heap.size ≤ tb → IsSh tb W C s) ∧ s.ix < 256 ∧ ∀ j, j < 3 → W.cell? (a.add (i * 3 + j)) = C[j]?) (fun i him => by
      obtain ⟨cs', hc, ht'⟩ := hi i him
      rw [hC] at hc
      obtain ⟨_, hcl, hat⟩ := World.cells?_some hc
      obtain ⟨ys, n', _, _, _, hyl, hf⟩ := DataW.trod_struct hE ht'
      obtain ⟨o0, k0⟩ := hone_of hone 0 f0 rfl
      obtain ⟨o1, k1⟩ := hone_of hone 1 f1 rfl
      obtain ⟨o2, k2⟩ := hone_of hone 2 f2 rfl
      match cs', hcl with
      | [c0, c1, c2], _ =>
        match ys, hyl with
        | [y0, y1, y2], _ =>
          have t0 := hf 0 f0 rfl
          have t1 := hf 1 f1 rfl
          have t2 := hf 2 f2 rfl
          rw [o0, k0] at t0
          rw [o1, k1] at t1
          rw [o2, k2] at t2
          simp at t0 t1 t2
          obtain ⟨z0, a0, _, w0⟩ := DataW.trod_int e0 t0
          obtain ⟨z1, a1, _, w1⟩ := DataW.trod_int e1 t1
          obtain ⟨od, dl, dc, df, a2, hdl, hdm, hdB, hdn⟩ := row_bytes_nil e2 eB cB t2
          simp at a0 a1 a2
          subst a0 a1 a2
          have b0 := bd_of_wf_u8 w0
          have b1 := bd_of_wf_u32 w1
          obtain ⟨m0, rfl⟩ := Int.eq_ofNat_of_zero_le b0.1
          obtain ⟨m1, rfl⟩ := Int.eq_ofNat_of_zero_le b1.1
          exact ⟨⟨m0, m1, dl, df⟩, _, fun tb htb => ⟨od, dc, rfl, hdB, hdn, hdl, hdm, fun h0 a e => by
            obtain ⟨_, b, off, e2, hc⟩ := hdB 0 h0
            rw [e] at e2; cases e2
            have h3 : b < W.heap.size := World.block_lt_of_cell? W _ hc
            show b ≠ tb
            omega⟩, by have := b0.2; show m0 < 256; omega, fun j hj => by rw [← Go.Deep.add_add]; exact hat j hj⟩)
    refine ⟨some a, n, m, V, hcs, hl, hm, fun tb htb i hi' => ?_, fun i hi' => (hV i (by omega)).choose_spec.2.1⟩
    obtain ⟨C, hI, -, hc⟩ := hV i (by omega)
    obtain ⟨b, off, spot⟩ := a
    have hsp : spot = none := by
      obtain ⟨C0, hI0, -, hc0⟩ := hV 0 (by omega)
      have h0 := hc0 0 (by omega)
      obtain ⟨_, _, rfl, _⟩ := hI0 _ (Nat.le_refl _)
      have h1 : W.cell? ((⟨b, off, spot⟩ : Addr).add (0 * 3 + 0)) = some (.int .u8 ((V 0).ix : Int)) := h0
      simpa [Addr.add] using World.cell?_spot h1
    subst hsp
    have hk : ∀ j, j < 3 → W.cell? ⟨b, off + i * 3 + j, none⟩ = C[j]? := fun j hj => by
      have ha : (Addr.mk b off none).add (i * 3 + j) = ⟨b, off + i * 3 + j, none⟩ := by
        unfold Addr.add; split
        · rename_i hk0; rw [Nat.add_assoc, hk0]; rfl
        · simp [Nat.add_assoc]
      rw [← ha]; exact hc j hj
    refine ⟨b, off, C, rfl, ?_, hI tb htb, hk⟩
    have h0 := hk 0 (by omega)
    obtain ⟨_, _, rfl, _⟩ := hI tb htb
    have h3 : b < W.heap.size := World.block_lt_of_cell? W _ h0
    omega
end Go.Proofs.YtgiffaeckhhmpaaDoor
