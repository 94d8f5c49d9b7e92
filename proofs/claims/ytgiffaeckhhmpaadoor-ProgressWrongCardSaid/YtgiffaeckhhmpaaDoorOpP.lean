/- A progress and a part that came in, by value; an array of 32 bytes. -/
import Derived.Test.YtgiffaeckhhmpaaDoorOpK
import Derived.Deep.Strs
import Derived.ChangeArms
import Derived.ProofKit
import Derived.OpenShut
namespace Go.Proofs.YtgiffaeckhhmpaaDoor
set_option linter.unusedVariables false
set_option linter.unusedSimpArgs false
open Go.Deep Go.Joins Go.ChangeShapes Go.WideShapes Go.ChangeAt Go.RowKit
theorem array5 {α : Type} {cs : Array α} (h : cs.size = 5) : ∃ c0 c1 c2 c3 c4, cs = #[c0, c1, c2, c3, c4] := by
  obtain ⟨l⟩ := cs
  match l, h with
  | [c0, c1, c2, c3, c4], _ => exact ⟨c0, c1, c2, c3, c4, rfl⟩
set_option maxRecDepth 100000 in
theorem prog_came {H : Type} {enc : TypeId × Value → H} {W : World} {r : Reach} {b0 base : Nat} {held : Bool} {v : Value} {d : DataW H} {p : List MemPlace}
    (hv : Value.okWide Tryd.prog W r b0 54 v) (h : DataW.Trod enc Tryd.prog W base (fun _ => true) held 54 v d p) :
    ∃ (K N : Int) (gen : Nat) (mk : ByteArray) (oa : Option Addr) (n cs : Nat) (S : Nat → Sh), v = .agg #[.int .i64 K, .int .i64 N, .int .u32 (gen : Int), .string mk, .slice oa n cs] ∧ n ≤ cs ∧ cs ≤ maxLen ∧ (∀ tb, W.heap.size ≤ tb → Shs tb W oa n S) ∧ ∀ i, i < n → (S i).ix < 256 := by
  obtain ⟨cs, rfl, hsz⟩ := okWide_struct Tryd.underlying54 hv
  have cT : Tryd.prog.cellsOf 54 = 5 := by kernel_rfl
  rw [cT] at hsz
  obtain ⟨c0, c1, c2, c3, c4, rfl⟩ := array5 hsz
  obtain ⟨fuel, hf⟩ := h
  obtain ⟨y0, y1, y2, n, hx, _, h0, h1, h2⟩ := trod_struct3 Tryd.underlying54 hf
  have k0 : Tryd.prog.cellsOf 51 = 3 := by kernel_rfl
  have k1 : Tryd.prog.cellsOf 9 = 1 := by kernel_rfl
  have k2 : Tryd.prog.cellsOf 52 = 1 := by kernel_rfl
  have t0 : DataW.trod enc Tryd.prog W base (fun _ => true) held n 51 [c0, c1, c2] = some y0 := by simpa [Value.cells, k0] using h0
  have t1 : DataW.trod enc Tryd.prog W base (fun _ => true) held n 9 [c3] = some y1 := by simpa [Value.cells, k1] using h1
  have t2 : DataW.trod enc Tryd.prog W base (fun _ => true) held n 52 [c4] = some y2 := by simpa [Value.cells, k2] using h2
  obtain ⟨z0, z1, z2, m, hz, _, g0, g1, g2⟩ := trod_struct3 Tryd.underlying51 t0
  have i0 : Tryd.prog.cellsOf 3 = 1 := by kernel_rfl
  have i1 : Tryd.prog.cellsOf 24 = 1 := by kernel_rfl
  have s0 : DataW.trod enc Tryd.prog W base (fun _ => true) held m 3 [c0] = some z0 := by simpa [i0] using g0
  have s1 : DataW.trod enc Tryd.prog W base (fun _ => true) held m 3 [c1] = some z1 := by simpa [i0] using g1
  have s2 : DataW.trod enc Tryd.prog W base (fun _ => true) held m 24 [c2] = some z2 := by simpa [i1] using g2
  obtain ⟨K, a0, _, w0⟩ := DataW.trod_int Tryd.underlying3 s0
  obtain ⟨N, a1, _, w1⟩ := DataW.trod_int Tryd.underlying3 s1
  obtain ⟨g, a2, _, w2⟩ := DataW.trod_int Tryd.underlying24 s2
  obtain ⟨mk, a3, _, _⟩ := DataW.trod_string Tryd.underlying9 t1
  obtain ⟨oa, l, cp, S, a4, hl, hm, hS, hix⟩ := row_shares Tryd.underlying52 Tryd.underlying55 (by kernel_rfl) (by kernel_rfl) (by kernel_rfl) (by kernel_rfl) (by kernel_rfl) Tryd.underlying5 (by kernel_rfl) t2
  simp at a0 a1 a2 a3 a4
  subst a0 a1 a2 a3 a4
  have b2 := bd_of_wf_u32 w2
  obtain ⟨G, rfl⟩ := Int.eq_ofNat_of_zero_le b2.1
  exact ⟨K, N, G, mk, oa, l, cp, S, rfl, hl, hm, hS, hix⟩
set_option maxRecDepth 100000 in
theorem share_came {H : Type} {enc : TypeId × Value → H} {W : World} {r : Reach} {b0 base : Nat} {held : Bool} {v : Value} {d : DataW H} {p : List MemPlace}
    (hv : Value.okWide Tryd.prog W r b0 55 v) (h : DataW.Trod enc Tryd.prog W base (fun _ => true) held 55 v d p) :
    ∃ (ix gn ln cp : Nat) (od : Option Addr) (f : Nat → Nat), v = .agg #[.int .u8 (ix : Int), .int .u32 (gn : Int), .slice od ln cp] ∧ ix < 256 ∧ ∀ tb, W.heap.size ≤ tb → IsSh tb W [.int .u8 (ix : Int), .int .u32 (gn : Int), .slice od ln cp] ⟨ix, gn, ln, f⟩ := by
  obtain ⟨v0, v1, v2, y0, y1, y2, n, rfl, _, _, h0, h1, h2⟩ := open_agg3 Tryd.underlying55 (by kernel_rfl) (by kernel_rfl) hv h
  obtain ⟨x, a0, _, w0⟩ := DataW.trod_int Tryd.underlying5 h0
  obtain ⟨y, a1, _, w1⟩ := DataW.trod_int Tryd.underlying24 h1
  obtain ⟨od, dl, dc, df, a2, hdl, hdm, hdB, hdn⟩ := row_bytes_nil Tryd.underlying34 Tryd.underlying5 (by kernel_rfl) h2
  simp at a0 a1 a2
  subst a0 a1 a2
  have b0 := bd_of_wf_u8 w0
  have b1 := bd_of_wf_u32 w1
  obtain ⟨m0, rfl⟩ := Int.eq_ofNat_of_zero_le b0.1
  obtain ⟨m1, rfl⟩ := Int.eq_ofNat_of_zero_le b1.1
  exact ⟨m0, m1, dl, dc, od, df, rfl, by have := b0.2; omega, fun tb htb => ⟨od, dc, rfl, hdB, hdn, hdl, hdm, fun h0 a e => by
    obtain ⟨_, b, off, e2, hc⟩ := hdB 0 h0
    rw [e] at e2; cases e2
    have h3 : b < W.heap.size := World.block_lt_of_cell? W _ hc
    show b ≠ tb
    omega⟩⟩
end Go.Proofs.YtgiffaeckhhmpaaDoor
