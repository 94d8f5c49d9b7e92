/- Two uint16 that came in as one array. -/
import Derived.Test.YtbblibddikdakaaDoorCame
import Derived.Test.YtbblibddikdakaaDoorShL
namespace Go.Proofs.YtbblibddikdakaaDoor
set_option linter.unusedVariables false
set_option linter.unusedSimpArgs false
open Go.ChangeShapes Go.WideShapes Go.ChangeAt Go.RowKit

theorem arr2_u16 {H : Type} {enc : TypeId × Value → H} {P : Program} {W : World} {r : Reach} {b0 base : Nat} {spare : Nat → Bool} {held : Bool} {T E : TypeId} {v : Value} {d : DataW H} {p : List MemPlace}
    (hT : P.underlying T = some (.array 2 E)) (hE : P.underlying E = some (.int .u16)) (cT : P.cellsOf T = 2) (cE : P.cellsOf E = 1)
    (hv : Value.okWide P W r b0 T v) (h : DataW.Trod enc P W base spare held T v d p) :
    ∃ x y : Nat, v = .agg #[.int .u16 (x : Nat), .int .u16 (y : Nat)] ∧ x < 65536 ∧ y < 65536 := by
  obtain ⟨cs, rfl, hsz⟩ := okWide_arr' hT hv
  rw [cT] at hsz
  obtain ⟨f, hf⟩ := h
  obtain ⟨xs, m, _, _, _, hn2, hel⟩ := DataW.trod_array hT hf
  have key : ∀ i, i < 2 → ∃ n : Nat, n < 65536 ∧ cs[i]? = some (.int .u16 (n : Int)) := fun i hi => by
    have g := hel i (by omega)
    rw [cE] at g
    have hl : i < cs.toList.length := by simpa using (by omega : i < cs.size)
    have t0 : (List.take 1 (List.drop (i * 1) (Value.agg cs).cells.toList)) = [cs.toList[i]] := by
      show List.take 1 (List.drop (i * 1) cs.toList) = _
      rw [Nat.mul_one, List.drop_eq_getElem_cons hl]; rfl
    rw [t0, show xs[i]? = some (xs[i]'(by omega)) from by simp [hn2, hi]] at g
    obtain ⟨x, e1, _, w1⟩ := DataW.trod_int hE g
    have hx := bd_of_wf_u16 w1
    refine ⟨x.toNat, by omega, ?_⟩
    have e2 : cs.toList[i] = .int .u16 x := by simpa using e1
    rw [show ((x.toNat : Nat) : Int) = x by omega, ← e2]
    simp [show i < cs.size by omega]
  obtain ⟨a, ha, ea⟩ := key 0 (by decide)
  obtain ⟨b, hb, eb⟩ := key 1 (by decide)
  refine ⟨a, b, ?_, ha, hb⟩
  congr 1
  refine Array.ext (by simp [hsz]) fun i h1 h2 => ?_
  rcases (by omega : i = 0 ∨ i = 1) with rfl | rfl
  · rw [Array.getElem?_eq_getElem h1] at ea; simpa using ea
  · rw [Array.getElem?_eq_getElem h1] at eb; simpa using eb
end Go.Proofs.YtbblibddikdakaaDoor
