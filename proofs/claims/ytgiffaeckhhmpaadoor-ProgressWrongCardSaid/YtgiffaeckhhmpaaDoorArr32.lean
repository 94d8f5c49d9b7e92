/- An array of 32 bytes that came in. -/
import Derived.Test.YtgiffaeckhhmpaaDoorApA
import Derived.ProofKit
import Derived.OpenShut
namespace Go.Proofs.YtgiffaeckhhmpaaDoor
set_option linter.unusedVariables false
set_option linter.unusedSimpArgs false
open Go.ChangeShapes Go.WideShapes Go.ChangeAt Go.RowKit

theorem arr32_u8 {H : Type} {enc : TypeId × Value → H} {P : Program} {W : World} {r : Reach} {b0 base : Nat} {spare : Nat → Bool} {held : Bool} {T E : TypeId} {v : Value} {d : DataW H} {p : List MemPlace}
    (hT : P.underlying T = some (.array 32 E)) (hE : P.underlying E = some (.int .u8)) (cT : P.cellsOf T = 32) (cE : P.cellsOf E = 1)
    (hv : Value.okWide P W r b0 T v) (h : DataW.Trod enc P W base spare held T v d p) :
    ∃ f : Nat → Nat, v = .agg (rowC 32 f).toArray ∧ ∀ i, i < 32 → f i < 256 := by
  obtain ⟨cs, rfl, hsz⟩ := okWide_arr' hT hv
  rw [cT] at hsz
  obtain ⟨f, hf⟩ := h
  obtain ⟨xs, m, _, _, _, hn2, hel⟩ := DataW.trod_array hT hf
  have key : ∀ i, i < 32 → ∃ n : Nat, n < 256 ∧ cs[i]? = some (.int .u8 (n : Int)) := fun i hi => by
    have g := hel i (by omega)
    rw [cE] at g
    have hl : i < cs.toList.length := by simpa using (by omega : i < cs.size)
    have t0 : (List.take 1 (List.drop (i * 1) (Value.agg cs).cells.toList)) = [cs.toList[i]] := by
      show List.take 1 (List.drop (i * 1) cs.toList) = _
      rw [Nat.mul_one, List.drop_eq_getElem_cons hl]; rfl
    rw [t0, show xs[i]? = some (xs[i]'(by omega)) from by simp [hn2, hi]] at g
    obtain ⟨x, e1, _, w1⟩ := DataW.trod_int hE g
    have hx := bd_of_wf_u8 w1
    refine ⟨x.toNat, by omega, ?_⟩
    have e2 : cs.toList[i] = .int .u8 x := by simpa using e1
    rw [show ((x.toNat : Nat) : Int) = x by omega, ← e2]
    simp [show i < cs.size by omega]
  refine ⟨fun i => match cs[i]? with | some (.int _ x) => x.toNat | _ => 0, ?_, fun i hi => ?_⟩
  · congr 1
    refine Array.ext (by simp [rowC_len]; exact hsz) fun i h1 h2 => ?_
    obtain ⟨n, _, hn⟩ := key i (by omega)
    have h3 := rowC_get (n := 32) (fun i => match cs[i]? with | some (.int _ x) => x.toNat | _ => 0) (i := i) (by omega)
    have h4 : cs[i]? = some cs[i] := by simp [h1]
    have h5 : cs[i] = .int .u8 (n : Int) := by rw [h4] at hn; simpa using hn
    have h6 : (rowC 32 fun i => match cs[i]? with | some (.int _ x) => x.toNat | _ => 0).toArray[i]? = some (.int .u8 (n : Int)) := by
      simp only [hn] at h3
      simpa using h3
    rw [h5]
    rw [Array.getElem?_eq_getElem h2] at h6
    exact (Option.some.inj h6).symm
  · obtain ⟨n, hn, e⟩ := key i hi
    simp only [e]
    simpa using hn
end Go.Proofs.YtgiffaeckhhmpaaDoor
