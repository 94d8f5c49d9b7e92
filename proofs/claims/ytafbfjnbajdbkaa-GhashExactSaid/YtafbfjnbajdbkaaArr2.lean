/- Two arrays of 16 bytes that came in as one array. -/
import Derived.Test.YtafbfjnbajdbkaaArr
namespace Go.Proofs.Ytafbfjnbajdbkaa
set_option linter.unusedVariables false
set_option linter.unusedSimpArgs false
open Go.ChangeShapes Go.WideShapes Go.ChangeAt Go.RowKit

theorem cells16 {H : Type} {enc : TypeId × Value → H} {P : Program} {W : World} {base : Nat} {spare : Nat → Bool} {held : Bool} {T E : TypeId} {fuel : Nat} {l : List Value} {x : DataW H × List MemPlace}
    (hT : P.underlying T = some (.array 16 E)) (hE : P.underlying E = some (.int .u8)) (cE : P.cellsOf E = 1) (hl : l.length = 16)
    (hf : DataW.trod enc P W base spare held fuel T l = some x) : ∃ f : Nat → Nat, l = rowC 16 f ∧ ∀ i, i < 16 → f i < 256 := by
  obtain ⟨d, p⟩ := x
  obtain ⟨xs, m, _, _, _, hn2, hel⟩ := DataW.trod_array hT hf
  have key : ∀ i, i < 16 → ∃ n : Nat, n < 256 ∧ l[i]? = some (.int .u8 (n : Int)) := fun i hi => by
    have g := hel i (by omega)
    rw [cE] at g
    have hli : i < l.length := by omega
    have t0 : (List.take 1 (List.drop (i * 1) l)) = [l[i]] := by
      rw [Nat.mul_one, List.drop_eq_getElem_cons hli]; rfl
    rw [t0, show xs[i]? = some (xs[i]'(by omega)) from by simp [hn2, hi]] at g
    obtain ⟨y, e1, _, w1⟩ := DataW.trod_int hE g
    have hx := bd_of_wf_u8 w1
    refine ⟨y.toNat, by omega, ?_⟩
    have e2 : l[i] = .int .u8 y := by simpa using e1
    rw [show ((y.toNat : Nat) : Int) = y by omega, ← e2]
    simp [hli]
  refine ⟨fun i => match l[i]? with | some (.int _ x) => x.toNat | _ => 0, ?_, fun i hi => ?_⟩
  · refine List.ext_getElem? fun i => ?_
    by_cases hi : i < 16
    · obtain ⟨n, _, hn⟩ := key i hi
      rw [rowC_get _ hi, hn]; simp
    · rw [List.getElem?_eq_none (by omega), List.getElem?_eq_none (by rw [rowC_len]; omega)]
  · obtain ⟨n, hn, e⟩ := key i hi
    simp only [e]
    simpa using hn
theorem arr2x16_u8 {H : Type} {enc : TypeId × Value → H} {P : Program} {W : World} {r : Reach} {b0 base : Nat} {spare : Nat → Bool} {held : Bool} {T R E : TypeId} {v : Value} {d : DataW H} {p : List MemPlace}
    (hT : P.underlying T = some (.array 2 R)) (hR : P.underlying R = some (.array 16 E)) (hE : P.underlying E = some (.int .u8)) (cT : P.cellsOf T = 32) (cR : P.cellsOf R = 16) (cE : P.cellsOf E = 1)
    (hv : Value.okWide P W r b0 T v) (h : DataW.Trod enc P W base spare held T v d p) :
    ∃ f g : Nat → Nat, v = .agg (rowC 16 f ++ rowC 16 g).toArray ∧ (∀ i, i < 16 → f i < 256) ∧ ∀ i, i < 16 → g i < 256 := by
  obtain ⟨cs, rfl, hsz⟩ := okWide_arr' hT hv
  rw [cT] at hsz
  obtain ⟨f, hf⟩ := h
  obtain ⟨xs, m, _, _, _, hn2, hel⟩ := DataW.trod_array hT hf
  have g0 := hel 0 (by omega)
  have g1 := hel 1 (by omega)
  rw [cR] at g0 g1
  rw [show xs[0]? = some (xs[0]'(by omega)) from by simp [hn2]] at g0
  rw [show xs[1]? = some (xs[1]'(by omega)) from by simp [hn2]] at g1
  have hl : (Value.agg cs).cells.toList.length = 32 := by show cs.toList.length = 32; simpa using hsz
  obtain ⟨f0, e0, b0'⟩ := cells16 hR hE cE (by rw [List.length_take, List.length_drop, hl]; rfl) g0
  obtain ⟨f1, e1, b1⟩ := cells16 hR hE cE (by rw [List.length_take, List.length_drop, hl]; rfl) g1
  refine ⟨f0, f1, ?_, b0', b1⟩
  rw [← e0, ← e1]
  have hl2 : cs.toList.length = 32 := hl
  show Value.agg cs = .agg (List.take 16 (List.drop (0 * 16) cs.toList) ++ List.take 16 (List.drop (1 * 16) cs.toList)).toArray
  congr 1
  rw [Nat.zero_mul, Nat.one_mul, List.drop_zero, List.take_of_length_le (l := List.drop 16 cs.toList) (by rw [List.length_drop, hl2]; decide), List.take_append_drop]
end Go.Proofs.Ytafbfjnbajdbkaa
