/- What layer 2's laws ask of whatever input; the walk of PolyProducts. -/
import Derived.Test.YtmfmlgohjpmpfaaDoorPoMul
import Derived.Test.YtmfmlgohjpmpfaaDoorSt
import Derived.Test.YtmfmlgohjpmpfaaDoorNum02
namespace Go.Proofs.YtmfmlgohjpmpfaaDoor
set_option linter.unusedVariables false
set_option linter.unusedSimpArgs false
open Go.RowKit

/-- What a literal holds. -/
def litF (L : List Nat) : Nat → Nat := fun i => L.getD i 0
theorem bytes_lit {w : World} {g : Nat} (L : List Nat) (h : ∀ i, i < L.length → w.cell? ⟨g, i, none⟩ = some (.int .u8 (litF L i : Nat))) (hl : L.all (fun x => decide (x < 256)) = true) : Bytes w (some ⟨g, 0, none⟩) L.length (litF L) := fun k hk => by
  refine ⟨?_, g, 0, rfl, by rw [Nat.zero_add]; exact h k hk⟩
  unfold litF
  rw [List.getD_eq_getElem?_getD, List.getElem?_eq_getElem hk]
  exact of_decide_eq_true (List.all_eq_true.1 hl _ (List.getElem_mem hk))
theorem Apart.of_ne {tb g off n : Nat} (h : g ≠ tb) : Apart tb (some ⟨g, off, none⟩) n := fun _ a e => by cases e; exact h
theorem Apart.none {tb n : Nat} : Apart tb none n := fun _ _ e => by cases e
theorem Bytes.apart {w : World} {oa : Option Addr} {n : Nat} {f : Nat → Nat} (h : Bytes w oa n f) : Apart w.heap.size oa n := fun h0 a e => by
  obtain ⟨_, b, off, e2, hc⟩ := h 0 h0
  cases e2; cases e
  have := World.block_lt_of_cell? w _ hc
  exact Nat.ne_of_lt this

theorem interp_is {tb n cp cq v : Nat} {oa ob : Option Addr} {f y : Nat → Nat} {x : Nat} (w : World) (h : TabIn w tb) (hb : Bytes w oa n f) (ha : Apart tb oa n) (hy : Bytes w ob n y) (hya : Apart tb ob n) (hn : n ≤ maxLen) (hx : x < 256)
    (hp : placesB f n = true) (hv : intF f y x n n = v) :
    Calls Tryd.prog 22 #[.pointer (some ⟨tb, 0, none⟩), .slice oa n cp, .slice ob n cq, .int .u8 x] w fun e w' => e = .returned (.tuple #[.int .u8 (v : Nat), .nilIface]) ∧ Left tb w w' := by
  subst hv; exact interp_any tb oa ob n cp cq f y x w h hb ha hy hya hn hx hp
theorem eval_is {tb n cp v : Nat} {oa : Option Addr} {f : Nat → Nat} {x : Nat} (w : World) (h : TabIn w tb) (hb : Bytes w oa n f) (ha : Apart tb oa n) (hn : n ≤ maxLen) (hx : x < 256) (hv : evalN f n x = v) :
    Calls Tryd.prog 16 #[.pointer (some ⟨tb, 0, none⟩), .slice oa n cp, .int .u8 x] w fun e w' => e = .returned (.int .u8 (v : Nat)) ∧ Left tb w w' := by
  subst hv; rw [← evalN_eq hx fun k hk => (hb k hk).1]; exact eval_any tb oa n cp f x w h hb ha hn hx

theorem conv_nil (w : World) : (convert 22 9 (.slice none 0 0)).run Tryd.prog w = .ok (.string (strF 0 (fun _ => 0))) w := by kernel_rfl

set_option maxRecDepth 100000 in
set_option maxHeartbeats 4000000 in
theorem sure02 (w : World) (hg : Handle w) :
    Calls Tryd.prog 14 #[] w fun e w' => e = .returned (.bool true) ∧ Below w.heap.size w w' := by
  go_enter Tryd.func14, Tryd.ntmps14
  go_wp2_with fail
  refine (gfnew_any _).mono ?_
  rintro e w0 ⟨rfl, hT0, hB0⟩
  have hS0 := St.new hg hT0 hB0
  have hsz : w.heap.size < w0.heap.size := hT0.lt
  clear hT0 hB0
  go_wp2_with fail
  refine (interp_is (v := 5) (f := litF [1, 2]) (y := litF [6, 3]) _ ?t1 ?b1 ?a1 ?b2 ?a2 (by unfold maxLen; omega) (by decide) (by decide +kernel) (by decide +kernel)).mono ?_
  case t1 => exact ((hS0.alloc _).alloc _).tab
  case b1 =>
    refine bytes_lit [1, 2] (fun i hi => ?_) rfl
    rw [cell_old (by simp), cell_new rfl]
    match i, hi with | 0, _ => rfl | 1, _ => rfl
  case a1 => exact Apart.of_ne (by omega)
  case b2 =>
    refine bytes_lit [6, 3] (fun i hi => ?_) rfl
    rw [cell_new (by simp)]
    match i, hi with | 0, _ => rfl | 1, _ => rfl
  case a2 => exact Apart.of_ne (by omega)
  rintro e w1 ⟨rfl, hL1⟩
  have hS1 := ((hS0.alloc _).alloc _).left hL1
  have hz1 := hS1.tab.lt
  clear hL1 hS0 hsz
  go_wp2_with fail
  refine (weights_bad _ _ 2 2 (litF [1, 1]) 0 _ ?b3 (by unfold maxLen; omega) (by decide +kernel)).mono ?_
  case b3 =>
    refine bytes_lit [1, 1] (fun i hi => ?_) rfl
    rw [cell_new rfl]
    match i, hi with | 0, _ => rfl | 1, _ => rfl
  rintro e w2 ⟨rfl, hb2⟩
  have hS2 := (hS1.alloc _).later hb2
  have hz2 := hS2.tab.lt
  clear hb2 hS1 hz1
  go_wp2_with fail
  refine (eval_is (v := 3) (f := litF [5, 3]) (x := 2) _ ?t4 ?b4 ?a4 (by unfold maxLen; omega) (by decide) (by decide +kernel)).mono ?_
  case t4 => exact (hS2.alloc _).tab
  case b4 =>
    refine bytes_lit [5, 3] (fun i hi => ?_) rfl
    rw [cell_new rfl]
    match i, hi with | 0, _ => rfl | 1, _ => rfl
  case a4 => exact Apart.of_ne (by omega)
  rintro e w3 ⟨rfl, hL3⟩
  have hS3 := (hS2.alloc _).left hL3
  clear hL3 hS2 hz2
  go_wp2_with fail
  refine (num_err02 1 _ hS3.handle).mono ?_
  rintro e w4 ⟨rfl, hb4⟩
  have hS4 := hS3.later hb4
  have hz4 := hS4.tab.lt
  clear hb4 hS3
  go_wp2_with fail
  refine (pmul_any _ _ _ 2 2 1 1 (litF [0, 1]) (litF [7]) _ ?t5 ?b5 ?a5 ?b6 ?a6 (by decide) (by decide) (by decide) (by decide)).mono ?_
  case t5 => exact ((hS4.alloc _).alloc _).tab
  case b5 =>
    refine bytes_lit [0, 1] (fun i hi => ?_) rfl
    rw [cell_old (by simp), cell_new rfl]
    match i, hi with | 0, _ => rfl | 1, _ => rfl
  case a5 => exact Apart.of_ne (by omega)
  case b6 =>
    refine bytes_lit [7] (fun i hi => ?_) rfl
    rw [cell_new (by simp)]
    match i, hi with | 0, _ => rfl
  case a6 => exact Apart.of_ne (by omega)
  rintro e w5 ⟨pg, rfl, hpg, hR, hL5⟩
  have hS5 := ((hS4.alloc _).alloc _).left hL5
  have hstr : strF 2 (convN (litF [0, 1]) (litF [7]) 2 1) = ⟨#[0, 7]⟩ := by decide +kernel
  have hconv := conv_bytes (cap := 2) Tryd.underlying22 Tryd.underlying5 Tryd.underlying9 (hR.bytes fun i _ => convN_lt _ _ _ _ i) (by decide)
  rw [show 2 + 1 - 1 = 2 from rfl, hstr] at hconv
  clear hL5 hR hstr hS4
  go_wp2_with fail
  go_ret
  exact ⟨rfl, hS5.bel⟩
end Go.Proofs.YtmfmlgohjpmpfaaDoor
