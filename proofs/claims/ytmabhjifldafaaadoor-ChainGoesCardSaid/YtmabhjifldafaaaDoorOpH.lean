/- A head that came in, by value. -/
import Derived.Test.YtmabhjifldafaaaDoorCh0
import Derived.Test.YtmabhjifldafaaaDoorCame
import Derived.ProofKit
import Derived.OpenShut
import Derived.Lib.SmallJoins
import Derived.Deep.Fields
namespace Go.Proofs.YtmabhjifldafaaaDoor
set_option linter.unusedVariables false
set_option linter.unusedSimpArgs false
open Go.Deep Go.Joins Go.ChangeShapes Go.WideShapes Go.ChangeAt Go.RowKit

set_option maxRecDepth 100000 in
theorem head_in {H : Type} {enc : TypeId × Value → H} {W : World} {r : Reach} {b0 base : Nat} {spare : Nat → Bool} {held : Bool} {v : Value} {d : DataW H} {p : List MemPlace}
    (hv : Value.okWide Tryd.prog W r b0 77 v) (h : DataW.Trod enc Tryd.prog W base spare held 77 v d p) :
    ∃ (k : Nat) (S : Nat → Nat), v = .agg (hdL k S).toArray ∧ k < 18446744073709551616 ∧ ∀ i, i < 32 → S i < 256 := by
  obtain ⟨cs, rfl, hsz⟩ := okWide_struct Tryd.underlying77 hv
  have cT : Tryd.prog.cellsOf 77 = 33 := by kernel_rfl
  rw [cT] at hsz
  obtain ⟨fuel, hf⟩ := h
  obtain ⟨ys, n', _, _, _, hyl, hfd⟩ := DataW.trod_struct Tryd.underlying77 hf
  have t0 : DataW.trod enc Tryd.prog W base spare held n' 62 (List.take (Tryd.prog.cellsOf 62) (List.drop 0 cs.toList)) = ys[0]? := hfd 0 _ rfl
  have t1 : DataW.trod enc Tryd.prog W base spare held n' 63 (List.take (Tryd.prog.cellsOf 63) (List.drop 1 cs.toList)) = ys[1]? := hfd 1 _ rfl
  have k0 : Tryd.prog.cellsOf 62 = 1 := by kernel_rfl
  have k1 : Tryd.prog.cellsOf 63 = 32 := by kernel_rfl
  have k2 : Tryd.prog.cellsOf 5 = 1 := by kernel_rfl
  have hly : ys.length = 2 := hyl
  rw [k0, List.getElem?_eq_getElem (by omega)] at t0
  rw [k1, List.getElem?_eq_getElem (by omega)] at t1
  have hlen : cs.toList.length = 33 := by simpa using hsz
  obtain ⟨z, e1, _, w1⟩ := DataW.trod_int Tryd.underlying62 t0
  obtain ⟨xs, m, _, _, _, hn2, hel⟩ := DataW.trod_array Tryd.underlying63 t1
  have c0 : cs.toList[0]? = some (.int .u64 z) := by
    have h0 : (List.take 1 (List.drop 0 cs.toList))[0]? = some (.int .u64 z) := by rw [e1]; rfl
    simpa using h0
  have key : ∀ i, i < 32 → ∃ n : Nat, n < 256 ∧ cs.toList[1 + i]? = some (.int .u8 (n : Int)) := fun i hi => by
    have g := hel i hi
    rw [k2, Nat.mul_one, List.getElem?_eq_getElem (by omega)] at g
    obtain ⟨x, e2, _, w2⟩ := DataW.trod_int Tryd.underlying5 g
    have hx := bd_of_wf_u8 w2
    refine ⟨x.toNat, by omega, ?_⟩
    have h0 : (List.take 1 (List.drop i (List.take 32 (List.drop 1 cs.toList))))[0]? = some (.int .u8 x) := by rw [e2]; rfl
    rw [List.getElem?_take_of_lt (by omega), List.getElem?_drop, Nat.add_zero, List.getElem?_take_of_lt hi, List.getElem?_drop] at h0
    rw [h0, show ((x.toNat : Nat) : Int) = x by omega]
  have hz := bd_of_wf_u64 w1
  refine ⟨z.toNat, fun i => match cs.toList[1 + i]? with | some (.int _ x) => x.toNat | _ => 0, ?_, by omega, fun i hi => ?_⟩
  · have hl : cs.toList = hdL z.toNat (fun i => match cs.toList[1 + i]? with | some (.int _ x) => x.toNat | _ => 0) := by
      refine List.ext_getElem? fun j => ?_
      rcases (by omega : j = 0 ∨ (1 ≤ j ∧ j < 33) ∨ 33 ≤ j) with rfl | ⟨h1, h2⟩ | h1
      · rw [c0, show z = ((z.toNat : Nat) : Int) by omega]; rfl
      · obtain ⟨i, rfl⟩ : ∃ i, j = 1 + i := ⟨j - 1, by omega⟩
        obtain ⟨n, hn, e⟩ := key i (by omega)
        rw [hdL_at _ _ (by omega : i < 32)]
        simp only [e]
        simp
      · rw [List.getElem?_eq_none (by omega), List.getElem?_eq_none (by rw [hdL_len]; omega)]
    congr 1
    exact Array.toList_inj.1 hl
  · obtain ⟨n, hn, e⟩ := key i hi
    simp only [e]
    simpa using hn
end Go.Proofs.YtmabhjifldafaaaDoor
