/- A disk: the writes of one sector, looked for. -/
import Derived.Test.YtcohllhmfghlfaaDoorDkD
namespace Go.Proofs.YtcohllhmfghlfaaDoor
set_option linter.unusedVariables false
set_option linter.unusedSimpArgs false
open Go.RowKit

set_option maxRecDepth 100000 in
set_option maxHeartbeats 4000000 in
/-- The closure: is it that sector's? -/
theorem del_any (a i bi : Nat) (f : Nat → Nat) (w : World) (hb : w.cell? ⟨bi, 0, none⟩ = some (.int .i64 (i : Int))) :
    Calls Tryd.prog 37 #[.agg (wtC a f).toArray, .pointer (some ⟨bi, 0, none⟩)] w fun e w' => e = .returned (.bool (decide (a = i))) ∧ Below w.heap.size w w' := by
  obtain ⟨w1, hw1⟩ : ∃ x, w.alloc (.cells (wtC a f).toArray 70) = x := ⟨_, rfl⟩
  have hb1 : Below w.heap.size w w1 := by rw [← hw1]; exact (Below.refl _ _).alloc (Nat.le_refl _) _
  have hK : Blk w1 w.heap.size (wtC a f).toArray 70 := by rw [← hw1]; exact Blk.new _ _ _
  have c1 : w1.cell? ⟨bi, 0, none⟩ = some (.int .i64 (i : Int)) := cell_below hb1 hb
  have cg : w1.cell? ⟨w.heap.size, 0, none⟩ = some (.int .i64 (a : Int)) := by rw [Blk.cell hK]; rfl
  have H1 := Lib.hid hb1
  generalize hWL : (wtC a f).toArray = WL at *
  clear hb hb1 hK hWL
  by_cases he : a = i
  · have e1 : ((a : Int) == (i : Int)) = true := by rw [he]; exact beq_self_eq_true _
    have e2 : decide ((a : Int) = (i : Int)) = true := decide_eq_true (by rw [he])
    have e3 : (a == i) = true := by rw [he]; exact beq_self_eq_true _
    have HE := Lib.hid he
    clear he
    go_enter Tryd.func37, Tryd.ntmps37
    go_wp2_with fail
    go_ret
    exact ⟨by rw [decide_eq_true HE.out]; rfl, H1.out⟩
  · have e1 : ((a : Int) == (i : Int)) = false := beq_false_of_ne (by omega)
    have e2 : decide ((a : Int) = (i : Int)) = false := decide_eq_false (by omega)
    have e3 : (a == i) = false := beq_false_of_ne he
    have HE := Lib.hid he
    clear he
    go_enter Tryd.func37, Tryd.ntmps37
    go_wp2_with fail
    go_ret
    exact ⟨by rw [decide_eq_false HE.out]; rfl, H1.out⟩
/-- The first one of that sector, or none. -/
def firstI (A : Nat → Nat) (i n : Nat) (x : Int) : Prop := (∃ p : Nat, x = (p : Int) ∧ p < n ∧ A p = i ∧ ∀ t, t < p → A t ≠ i) ∨ (x = -1 ∧ ∀ t, t < n → A t ≠ i)
set_option maxRecDepth 100000 in
set_option maxHeartbeats 4000000 in
theorem index_any (oa : Option Addr) (n cap bi i : Nat) (A : Nat → Nat) (D : Nat → Nat → Nat) (w : World) (hR : WRow w oa n A D) (hn : n < 100000000) (hb : w.cell? ⟨bi, 0, none⟩ = some (.int .i64 (i : Int))) :
    Calls Tryd.prog 47 #[.slice oa n cap, .func (.func 37) #[] #[.pointer (some ⟨bi, 0, none⟩)]] w fun e w' => ∃ x, e = .returned (.int .i64 x) ∧ firstI A i n x ∧ Below w.heap.size w w' := by
  have HR := Lib.hid hR
  have HB := Lib.hid hb
  have n0 : (n : Int) ≤ 9223372036854775807 := by omega
  have HN := Lib.hid hn
  clear hR hb hn
  go_enter Tryd.func47, Tryd.ntmps47
  go_wp2_with fail
  go_loopw [5, 8] (fun y x wr => ∃ j : Nat, j ≤ n ∧ x = .int .i64 (j : Int) ∧ (∀ t, t < j → A t ≠ i) ∧ Below w.heap.size w wr) (fun y x _ => n - (intOf x).toNat)
  case atStart => exact ⟨0, Nat.zero_le _, rfl, fun t ht => absurd ht (Nat.not_lt_zero _), Below.refl _ _⟩
  case round =>
    obtain ⟨j, hj, rfl, hno, hbw⟩ := hrel
    have HBW := Lib.hid hbw
    have HNO := Lib.hid hno
    clear hbw hno
    by_cases hlt : j < n
    · as_aux_lemma =>
      have i1 : (j : Int) < (n : Int) := by omega
      have i0 : (0 : Int) ≤ (j : Int) := by omega
      have k4 : IntKind.i64.wrap ((j : Int) + 1) = ((j + 1 : Nat) : Int) := by have := HN.out; rw [IntWalk.i64_in _ (by omega)]; omega
      obtain ⟨b, rfl, hrg⟩ := HR.out j hlt
      have HRG : Hid (wr.rangeAt b (j * 65) (wtC (A j) (D j))) := Lib.hid fun q u hu => cell_below HBW.out (hrg q u hu)
      have HDL := Lib.hid (del_any (A j) i bi (D j) wr (cell_below HBW.out HB.out))
      have HI := Lib.hid (show j < n ∧ j + 1 ≤ n from ⟨hlt, hlt⟩)
      have HIL : Hid ((Tryd.prog.info? 70).map (·.size) = some (wtC (A j) (D j)).length) := Lib.hid info_write
      generalize hWL : wtC (A j) (D j) = WL at *
      clear hlt hj hrg hWL
      go_wp2_with (first
        | (refine wpList_load_mid rfl 70 (.tmp 14) rfl b (j * 65) rfl WL _ HRG.out Tryd.underlying70 rfl HIL.out ?_))
      refine HDL.out.mono ?_
      rintro e w2 ⟨rfl, hb2⟩
      have HB2 := Lib.hid (HBW.out.trans (hb2.mono HBW.out.size))
      clear HDL hb2
      by_cases he : A j = i
      · rw [decide_eq_true he]
        have HE := Lib.hid he
        clear he
        go_wp2_with fail
        go_ret
        exact ⟨_, rfl, .inl ⟨j, rfl, HI.out.1, HE.out, HNO.out⟩, HB2.out⟩
      · rw [decide_eq_false he]
        have HE := Lib.hid he
        clear he
        go_wp2_with fail
        go_roundw
        case rel =>
          refine ⟨j + 1, HI.out.2, by first | rfl | go_num, fun t ht => ?_, HB2.out⟩
          by_cases e : t < j
          · exact HNO.out t e
          · rw [show t = j by omega]; exact HE.out
        case measure => have := HI.out; simp [intOf]; omega
    · obtain rfl : j = n := by omega
      have i1 : ¬ (j : Int) < (j : Int) := by omega
      clear hlt hj
      go_wp2_with fail
      go_ret
      exact ⟨_, rfl, .inr ⟨rfl, HNO.out⟩, HBW.out⟩
end Go.Proofs.YtcohllhmfghlfaaDoor
