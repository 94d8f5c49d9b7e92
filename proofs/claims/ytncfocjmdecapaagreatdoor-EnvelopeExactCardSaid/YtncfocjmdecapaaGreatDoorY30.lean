/- Part of the proof: what stands here serves the walks of the functions that the statement calls. -/
import Derived.Deep.Strs
import Derived.ChangeArms
import Derived.Test.YtncfocjmdecapaaGreatDoorY08
namespace Go.Proofs.YtncfocjmdecapaaGreatDoor
set_option linter.unusedVariables false
set_option linter.unusedSimpArgs false
open Go.RowKit
section
open Go.Deep Go.ChangeShapes Go.WideShapes Go.ChangeAt Go.RowKit
theorem arr_cells {H : Type} {enc : TypeId × Value → H} {P : Program} {W : World} {base : Nat} {spare : Nat → Bool} {held : Bool} {fuel : Nat} {T E : TypeId} {cs : List Value} {x : DataW H × List MemPlace}
  (hT : P.underlying T = some (.array 32 E)) (hE : P.underlying E = some (.int .u8)) (cT : P.cellsOf T = 32) (cE : P.cellsOf E = 1) (h : DataW.trod enc P W base spare held fuel T cs = some x) :
  ∃ f : Nat → Nat, (∀ i, f i < 256) ∧ cs = rowC 32 f := by
 obtain ⟨xs, m, _, _, hl, hn2, hel⟩ := DataW.trod_array hT h
 rw [cT] at hl
 have key : ∀ i, i < 32 → ∃ n : Nat, n < 256 ∧ cs[i]? = some (.int .u8 (n : Int)) := fun i hi => by
  have g := hel i hi
  rw [cE] at g
  have hl' : i < cs.length := by omega
  have t0 : (List.take 1 (List.drop (i * 1) cs)) = [cs[i]] := by
   rw [Nat.mul_one, List.drop_eq_getElem_cons hl']; rfl
  rw [t0, show xs[i]? = some (xs[i]'(by omega)) from by simp [hn2, hi]] at g
  obtain ⟨z, e1, _, w1⟩ := DataW.trod_int hE g
  have hx := bd_of_wf_u8 w1
  refine ⟨z.toNat, by omega, ?_⟩
  have e2 : cs[i] = .int .u8 z := by simpa using e1
  rw [show ((z.toNat : Nat) : Int) = z by omega, ← e2]
  simp [hl']
 refine ⟨fun i => match cs[i]? with | some (.int .u8 y) => y.toNat % 256 | _ => 0, fun i => ?_, ?_⟩
 ·show (match cs[i]? with | some (.int .u8 y) => y.toNat % 256 | _ => 0) < 256
  split
  ·exact Nat.mod_lt _ (by omega)
  ·omega
 ·refine List.ext_getElem? fun i => ?_
  by_cases hi : i < 32
  ·obtain ⟨n, hn, e⟩ := key i hi
   rw [rowC_get _ hi, e]
   simp only [Int.toNat_natCast, Nat.mod_eq_of_lt hn]
  ·rw [List.getElem?_eq_none (by omega), List.getElem?_eq_none (by rw [rowC_len]; omega)]
end
section
open Go.Deep Go.Joins Go.ChangeShapes Go.WideShapes Go.ChangeAt Go.RowKit
theorem row_terms {H : Type} {enc : TypeId × Value → H} {P : Program} {W : World} {base : Nat} {held : Bool} {fuel : Nat} {TS T U A E : TypeId} {f0 f1 : Field} {cs : List Value} {x : DataW H × List MemPlace}
  (hS : P.underlying TS = some (.slice T)) (hT : P.underlying T = some (.struct #[f0, f1])) (h0 : f0.type = U) (h1 : f1.type = A) (o0 : f0.offset = 0) (o1 : f1.offset = 1) (hU : P.underlying U = some (.int .u32)) (hA : P.underlying A = some (.array 32 E)) (hE : P.underlying E = some (.int .u8))
  (cT : P.cellsOf T = 33) (cU : P.cellsOf U = 1) (cA : P.cellsOf A = 32) (cE : P.cellsOf E = 1) (h : DataW.trod enc P W base (fun _ => true) held fuel TS cs = some x) :
  ∃ oa n cap, ∃ (N : Nat → Nat) (S : Nat → Nat → Nat), cs = [.slice oa n cap] ∧ n ≤ cap ∧ cap ≤ maxLen ∧ (∀ i, N i < 4294967296) ∧ (∀ i j, S i j < 256) ∧ TL W oa n N S := by
 rcases open_slice hS h with ⟨hcs, _⟩ | ⟨a, len, cap, m, n, D, Pl, hcs, _, hl, hm, hmm, _, hx⟩
 ·exact ⟨none, 0, 0, fun _ => 0, fun _ _ => 0, hcs, Nat.le_refl _, by unfold maxLen; omega, fun _ => by show (0 : Nat) < 4294967296; omega, fun _ _ => by show (0 : Nat) < 256; omega, TL.nil _ _ _ _⟩
 ·have hm' : m = cap := by simpa using hmm
  subst hm'
  have key : ∀ i, ∃ (k : Nat) (f : Nat → Nat), k < 4294967296 ∧ (∀ j, f j < 256) ∧ (i < m → W.cells? base (a.add (i * 33)) 33 = some (tmL k f)) := fun i => by
   by_cases hi : i < m
   ·obtain ⟨cs', h1', h2⟩ := hx i hi
    rw [cT] at h1'
    have hlen := (World.cells?_some h1').2.1
    subst h0 h1
    obtain ⟨y0, y1, n', _, _, g0, g1⟩ := trod_struct2 hT h2
    rw [cU, o0, List.drop_zero] at g0
    rw [cA, o1] at g1
    match cs', hlen with
    | v0 :: r, hlen =>
     have t0 : (v0 :: r).take 1 = [v0] := rfl
     have t1 : ((v0 :: r).drop 1).take 32 = r := by
      rw [List.drop_one, List.tail_cons, List.take_of_length_le (by simp at hlen; omega)]
     rw [t0] at g0
     rw [t1] at g1
     obtain ⟨z, e1, _, w1⟩ := DataW.trod_int hU g0
     have e2 : v0 = .int .u32 z := by simpa using e1
     subst e2
     obtain ⟨f, hf, e3⟩ := arr_cells hA hE cA cE g1
     subst e3
     have hz := bd_of_wf_u32 w1
     obtain ⟨k, rfl⟩ := Int.eq_ofNat_of_zero_le hz.1
     exact ⟨k, f, by have := hz.2; omega, hf, fun _ => h1'⟩
   ·exact ⟨0, fun _ => 0, by omega, fun _ => by show (0 : Nat) < 256; omega, fun h => absurd h hi⟩
  refine ⟨some a, len, m, fun i => (key i).choose, fun i => (key i).choose_spec.choose, hcs, hl, hm, fun i => (key i).choose_spec.choose_spec.1, fun i => (key i).choose_spec.choose_spec.2.1, fun i hi => ?_⟩
  have h1 := (key i).choose_spec.choose_spec.2.2 (by omega)
  have hc := (World.cells?_some h1).2.2
  obtain ⟨b, off, spot⟩ := a
  have c0 := (World.cells?_some ((key 0).choose_spec.choose_spec.2.2 (by omega))).2.2 0 (by omega)
  have hspot : spot = none := by
   have := World.cell?_spot (v := .int .u32 ((key 0).choose : Int)) (by rw [c0]; rfl)
   simpa [Addr.add] using this
  subst hspot
  refine ⟨b, off, rfl, fun j v hv => ?_⟩
  have hj : j < 33 := by have := (List.getElem?_eq_some_iff.1 hv).1; rwa [tmL_len] at this
  have h2 := hc j hj
  rw [hv, add_add] at h2
  have ha : (Addr.mk b off none).add (i * 33 + j) = ⟨b, off + i * 33 + j, none⟩ := by
   unfold Addr.add; split
   ·rename_i hk0; rw [show off + i * 33 + j = off by omega]
   ·rw [← Nat.add_assoc]
  rw [ha] at h2; exact h2
end
end Go.Proofs.YtncfocjmdecapaaGreatDoor
