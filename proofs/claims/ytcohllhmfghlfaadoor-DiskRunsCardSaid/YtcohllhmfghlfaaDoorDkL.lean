/- The document's disk: Read. -/
import Derived.Test.YtcohllhmfghlfaaDoorDkK
namespace Go.Proofs.YtcohllhmfghlfaaDoor
set_option linter.unusedVariables false
set_option linter.unusedSimpArgs false
open Go.RowKit

/-- The writes that wait, as the document keeps them. -/
def RW (w : World) (ow : Option Addr) (nw : Nat) (A : Nat → Nat) (D : Nat → Nat → Nat) : Prop := ∀ j, j < nw → ∃ b off od c, ow = some ⟨b, off, none⟩ ∧ w.cell? ⟨b, off + j * 2, none⟩ = some (.int .i64 (A j : Nat)) ∧ w.cell? ⟨b, off + j * 2 + 1, none⟩ = some (.slice od 64 c) ∧ 64 ≤ c ∧ c ≤ maxLen ∧ Bytes w od 64 (D j)
/-- A sector's bytes, as the document answers. -/
def RB (w : World) (f : Nat → Nat) (v : Value) : Prop := ∃ od c, v = .slice od 64 c ∧ 64 ≤ c ∧ c ≤ maxLen ∧ Bytes w od 64 f
set_option maxRecDepth 100000 in
set_option maxHeartbeats 4000000 in
theorem rread_any (oa : Option Addr) (n ca : Nat) (ow : Option Addr) (nw cw ar i : Nat) (S : Nat → Nat → Nat) (A : Nat → Nat) (D : Nat → Nat → Nat) (w : World) (hS : LBs w oa n (fun _ => 64) S) (hW : RW w ow nw A D) (hn : n < 100000) (hnw : nw < 100000000) (hi : i < n) :
    Calls Tryd.prog 26 #[.agg (rdV oa n ca ow nw cw ar false), .int .i64 (i : Int)] w fun e w' => ∃ v, e = .returned (.tuple #[v, .int .i64 0]) ∧ RB w' (curF S A D nw i) v ∧ Below w.heap.size w w' := by
  obtain ⟨w1, hw1⟩ : ∃ y, w.alloc (.cells (rdV oa n ca ow nw cw ar false) 47) = y := ⟨_, rfl⟩
  have hb1 : Below w.heap.size w w1 := by rw [← hw1]; exact (Below.refl _ _).alloc (Nat.le_refl _) _
  have hk1 : Blk w1 w.heap.size (rdV oa n ca ow nw cw ar false) 47 := by rw [← hw1]; exact Blk.new _ _ _
  have c0 : w1.cell? ⟨w.heap.size, 0, none⟩ = some (.slice oa n ca) := by rw [Blk.cell hk1]; rfl
  have c1 : w1.cell? ⟨w.heap.size, 1, none⟩ = some (.slice ow nw cw) := by rw [Blk.cell hk1]; rfl
  have c3 : w1.cell? ⟨w.heap.size, 3, none⟩ = some (.bool false) := by rw [Blk.cell hk1]; rfl
  obtain ⟨b0, o0, od0, cp0, rfl, hc0, hl0, hB0, hn0, hm0⟩ := hS i hi
  have cs : w1.cell? ⟨b0, o0 + i, none⟩ = some (.slice od0 64 cp0) := cell_below hb1 hc0
  have H0 := Lib.hid (show RB w1 (S i) (.slice od0 64 cp0) ∧ Below w.heap.size w w1 ∧ RW w ow nw A D from ⟨⟨od0, cp0, rfl, hl0, hm0, hB0.later hb1⟩, hb1, hW⟩)
  have i1 : (i : Int) < (n : Int) := by omega
  have i0 : (0 : Int) ≤ (i : Int) := by omega
  have i2 : ¬ (i : Int) < 0 := by omega
  have i3 : ¬ (n : Int) ≤ (i : Int) := by omega
  have i4 : decide ((i : Int) < 0) = false := decide_eq_false i2
  have i5 : decide ((n : Int) ≤ (i : Int)) = false := decide_eq_false i3
  have n0 : (n : Int) ≤ 9223372036854775807 := by omega
  have n1 : (nw : Int) ≤ 9223372036854775807 := by omega
  have HNW := Lib.hid hnw
  unfold rdV at hw1 ⊢
  clear hS hW hb1 hk1 hc0 hl0 hB0 hn0 hm0 hn hnw hi
  go_enter Tryd.func26, Tryd.ntmps26
  go_wp2_with fail
  go_loopw [6, 7] (fun x y wr => ∃ k : Nat, k ≤ nw ∧ y = .int .i64 (k : Int) ∧ RB w1 (curF S A D k i) x ∧ wr = w1) (fun x y _ => nw - (intOf y).toNat)
  case atStart => exact ⟨0, Nat.zero_le _, rfl, H0.out.1, by first | rfl | assumption⟩
  case round =>
    obtain ⟨k, hk, rfl, hRB, rfl⟩ := hrel
    have HRB := Lib.hid hRB
    clear hRB
    by_cases hlt : k < nw
    · as_aux_lemma =>
      have k1 : (k : Int) < (nw : Int) := by omega
      have k0 : (0 : Int) ≤ (k : Int) := by omega
      have k4 : IntKind.i64.wrap ((k : Int) + 1) = ((k + 1 : Nat) : Int) := by have := HNW.out; rw [IntWalk.i64_in _ (by omega)]; omega
      obtain ⟨b, off, od, c, rfl, hca, hcd, hc1, hc2, hB⟩ := H0.out.2.2 k hlt
      have ca1 := cell_below H0.out.2.1 hca
      have cd1 := cell_below H0.out.2.1 hcd
      have HNEW := Lib.hid (show RB wr (D k) (.slice od 64 c) from ⟨od, c, rfl, hc1, hc2, hB.later H0.out.2.1⟩)
      obtain ⟨a, ha⟩ : ∃ a, A k = a := ⟨_, rfl⟩
      rw [ha] at ca1
      have HA := Lib.hid (show A k = a ∧ k < nw ∧ k + 1 ≤ nw from ⟨ha, hlt, hlt⟩)
      clear hlt hk hca hcd hc1 hc2 hB ha
      by_cases he : a = i
      · have e1 : ((a : Int) == (i : Int)) = true := by rw [he]; exact beq_self_eq_true _
        have e2 : decide ((a : Int) = (i : Int)) = true := decide_eq_true (by rw [he])
        have e3 : (a == i) = true := by rw [he]; exact beq_self_eq_true _
        have HE := Lib.hid (show curF S A D (k + 1) i = D k by show (if A k = i then _ else _) = _; rw [if_pos (HA.out.1.trans he)])
        clear he
        go_wp2_with fail
        go_roundw
        case rel => exact ⟨k + 1, HA.out.2.2, by first | rfl | go_num, by rw [HE.out]; exact HNEW.out, by first | trivial | rfl⟩
        case measure => have := HA.out; simp [intOf]; omega
      · have e1 : ((a : Int) == (i : Int)) = false := beq_false_of_ne (by omega)
        have e2 : decide ((a : Int) = (i : Int)) = false := decide_eq_false (by omega)
        have e3 : (a == i) = false := beq_false_of_ne he
        have HE := Lib.hid (show curF S A D (k + 1) i = curF S A D k i by show (if A k = i then _ else _) = _; rw [if_neg (fun h => he (HA.out.1.symm.trans h))])
        clear he
        go_wp2_with fail
        go_roundw
        case rel => exact ⟨k + 1, HA.out.2.2, by first | rfl | go_num, by rw [HE.out]; exact HRB.out, by first | trivial | rfl⟩
        case measure => have := HA.out; simp [intOf]; omega
    · obtain rfl : k = nw := by omega
      have k1 : ¬ (k : Int) < (k : Int) := by omega
      clear hlt hk
      go_wp2_with fail
      refine bodyPost_ret (results_tmp2 rfl _ _ _) rfl ?_
      exact ⟨_, rfl, HRB.out, H0.out.2.1⟩
end Go.Proofs.YtcohllhmfghlfaaDoor
