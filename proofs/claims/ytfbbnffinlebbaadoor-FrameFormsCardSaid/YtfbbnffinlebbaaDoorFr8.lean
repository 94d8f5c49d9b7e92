/- The document's numbers of sectors and of records; lists held against one another; errors' numbers. -/
import Derived.Test.YtfbbnffinlebbaaDoorFr5
namespace Go.Proofs.YtfbbnffinlebbaaDoor
set_option linter.unusedVariables false
set_option linter.unusedSimpArgs false
open Go.RowKit

theorem er_any (v : Value) (k : Nat) (w : World) (h : Er v k) (hh : Handle w) : Calls Tryd.prog 14 #[v] w fun e w' => e = .returned (.int .i64 (k : Nat)) ∧ Below w.heap.size w w' := by
  rcases h with ⟨rfl, rfl⟩ | ⟨rfl, _⟩
  · exact num_nil w
  · exact num_err (k : Nat) w hh

set_option maxRecDepth 100000 in
set_option maxHeartbeats 8000000 in
theorem lists_any (oa ob : Option Addr) (n ca cb : Nat) (L : Nat → Nat) (G : Nat → Nat → Nat) (w : World) (hA : LBs w oa n L G) (hB : LBs w ob n L G) (hn : n ≤ maxLen) :
    Calls Tryd.prog 15 #[.slice oa n ca, .slice ob n cb] w fun e w' => e = .returned (.bool true) ∧ Below w.heap.size w w' := by
  unfold maxLen at hn
  have HA : Hid (∀ w', Below w.heap.size w w' → LBs w' oa n L G ∧ LBs w' ob n L G) := Lib.hid fun w' h => ⟨hA.later h, hB.later h⟩
  clear hA hB
  have hq0 : (n : Int) ≤ 9223372036854775807 := by omega
  go_enter Tryd.func15, Tryd.ntmps15
  go_wp2_with fail
  go_loopw [5] (fun v wr => ∃ i : Nat, i ≤ n ∧ v = .int .i64 (i : Int) ∧ Below w.heap.size w wr) (fun v _ => n - (intOf v).toNat)
  case atStart => exact ⟨0, Nat.zero_le _, rfl, Below.refl _ _⟩
  case round =>
    obtain ⟨i, hi, rfl, hX⟩ := hrel
    have HX : Hid (Below w.heap.size w wr) := Lib.hid hX
    by_cases hli : i < n
    · as_aux_lemma =>
      have i1 : (i : Int) < (n : Int) := by omega
      have i0 : (0 : Int) ≤ (i : Int) := by omega
      have HI : Hid (i < n) := Lib.hid hli
      obtain ⟨h1, h2⟩ := HA.out wr.drew HX.out.drew
      obtain ⟨b, off, od, cp, rfl, c1, _, hb1, hd1, _⟩ := h1 i hli
      obtain ⟨b2, off2, od2, cp2, rfl, c2, _, hb2, hd2, _⟩ := h2 i hli
      obtain ⟨j2, hj2⟩ : ∃ z, i + 1 = z := ⟨_, rfl⟩
      have HJ2 := Lib.hid hj2
      have k3 : (i : Int) + 1 = (j2 : Int) := by omega
      have k4 : IntKind.i64.wrap (j2 : Int) = (j2 : Int) := IntWalk.i64_in _ (by omega)
      have HC1 := Lib.hid (conv_any (cap := cp) hb1 hd1)
      have HC2 := Lib.hid (conv_any (cap := cp2) hb2 hd2)
      have H0 : Hid (Below w.heap.size w wr.drew) := Lib.hid HX.out.drew
      clear h1 h2 hj2 hli hi hX HX hb1 hb2 hd1 hd2
      generalize hS : strF (L i) (G i) = S at *
      clear hS
      go_wp2_with fail
      refine WS.lit (by kernel_rfl) (by kernel_rfl) ?_
      generalize wr.drew = W1 at *
      refine WS.val (v := ?_) (by kernel_rfl) ?_ ?_
      rotate_left
      · go_simp
        (try with_reducible rfl)
      (try simp only [Act.put, List.setIfInBounds_toArray, List.set_cons_zero, List.set_cons_succ])
      refine WS.val (v := ?_) (by kernel_rfl) ?_ ?_
      rotate_left
      · go_simp
        (try with_reducible rfl)
      (try simp only [Act.put, List.setIfInBounds_toArray, List.set_cons_zero, List.set_cons_succ])
      refine WS.val (v := ?_) (by kernel_rfl) ?_ ?_
      rotate_left
      · go_simp
        (try with_reducible rfl)
      (try simp only [Act.put, List.setIfInBounds_toArray, List.set_cons_zero, List.set_cons_succ])
      refine WS.val (v := ?_) (by kernel_rfl) ?_ ?_
      rotate_left
      · go_simp
        (try with_reducible rfl)
      (try simp only [Act.put, List.setIfInBounds_toArray, List.set_cons_zero, List.set_cons_succ])
      refine WS.val (by kernel_rfl) (exec_convO (x := .tmp 20) rfl rfl HC1.out) ?_
      (try simp only [Act.put, List.setIfInBounds_toArray, List.set_cons_zero, List.set_cons_succ])
      refine WS.val (v := ?_) (by kernel_rfl) ?_ ?_
      rotate_left
      · go_simp
        (try with_reducible rfl)
      (try simp only [Act.put, List.setIfInBounds_toArray, List.set_cons_zero, List.set_cons_succ])
      refine WS.val (v := ?_) (by kernel_rfl) ?_ ?_
      rotate_left
      · go_simp
        (try with_reducible rfl)
      (try simp only [Act.put, List.setIfInBounds_toArray, List.set_cons_zero, List.set_cons_succ])
      refine WS.val (v := ?_) (by kernel_rfl) ?_ ?_
      rotate_left
      · go_simp
        (try with_reducible rfl)
      (try simp only [Act.put, List.setIfInBounds_toArray, List.set_cons_zero, List.set_cons_succ])
      refine WS.val (v := ?_) (by kernel_rfl) ?_ ?_
      rotate_left
      · go_simp
        (try with_reducible rfl)
      (try simp only [Act.put, List.setIfInBounds_toArray, List.set_cons_zero, List.set_cons_succ])
      refine WS.val (by kernel_rfl) (exec_convO (x := .tmp 25) rfl rfl HC2.out) ?_
      (try simp only [Act.put, List.setIfInBounds_toArray, List.set_cons_zero, List.set_cons_succ])
      refine WS.val (v := ?_) (by kernel_rfl) ?_ ?_
      rotate_left
      · go_simp
        (try with_reducible rfl)
      (try simp only [Act.put, List.setIfInBounds_toArray, List.set_cons_zero, List.set_cons_succ])
      refine WS.nil ?_
      go_wp2_with fail
      go_roundw
      case rel => exact ⟨j2, by have := HI.out; have := HJ2.out; omega, by first | rfl | go_num, H0.out⟩
      case measure => have := HI.out; have := HJ2.out; simp [intOf] <;> omega
    · obtain rfl : i = n := by omega
      have i1 : ¬ (i : Int) < (i : Int) := by omega
      clear hli hi hX
      go_wp2_with fail
      go_ret
      exact ⟨rfl, HX.out⟩
set_option maxRecDepth 100000 in
set_option maxHeartbeats 4000000 in
theorem rsectors_any (n : Nat) (w : World) (h : n ≤ 9223372036854775807) :
    Calls Tryd.prog 17 #[.int .i64 (n : Int)] w fun e w' => e = .returned (.int .i64 (secO n : Nat)) ∧ Below w.heap.size w w' := by
  have h0 : ¬ (n : Int) < 0 := by omega
  by_cases h1 : n ≤ 14280
  · have h2 : ¬ (14280 : Int) < (n : Int) := by omega
    have HS := Lib.hid (show secO n = secN n ∧ n ≤ 14280 from ⟨if_pos h1, h1⟩)
    clear h1
    go_enter Tryd.func17, Tryd.ntmps17
    go_wp2_with fail
    go_loopw [3] (fun v wr => ∃ m : Nat, 1 ≤ m ∧ m ≤ secN n ∧ v = .int .i64 (m : Int) ∧ Below w.heap.size w wr) (fun v _ => 300 - (intOf v).toNat)
    case atStart => exact ⟨1, Nat.le_refl _, secN_pos _, rfl, Below.refl _ _⟩
    case round =>
      obtain ⟨m, hm1, hm2, rfl, hX⟩ := hrel
      have HX := Lib.hid hX
      have hm3 := secN_le HS.out.2
      have k1 : IntKind.i64.wrap (56 * (m : Int)) = 56 * (m : Int) := IntWalk.i64_in _ (by omega)
      have k4 : IntKind.i64.wrap ((m : Int) + 1) = ((m + 1 : Nat) : Int) := by rw [IntWalk.i64_in _ (by omega)]; omega
      by_cases hlt : 56 * m < n
      · have i1 : 56 * (m : Int) < (n : Int) := by omega
        have HM := Lib.hid (show m + 1 ≤ secN n ∧ secN n ≤ 255 from ⟨by unfold secN; omega, hm3⟩)
        clear hm1 hm2 hm3 hX hlt
        go_wp2_with fail
        go_roundw
        case rel => exact ⟨m + 1, Nat.le_add_left _ _, HM.out.1, by first | rfl | go_num, HX.out⟩
        case measure => have := HM.out; simp [intOf]; omega
      · have i1 : ¬ 56 * (m : Int) < (n : Int) := by omega
        have HM := Lib.hid (show secN n = m by unfold secN at hm2 ⊢; omega)
        clear hm1 hm2 hm3 hX hlt
        go_wp2_with fail
        go_ret
        exact ⟨by rw [HS.out.1, HM.out]; rfl, HX.out⟩
  · have h2 : (14280 : Int) < (n : Int) := by omega
    have e : secO n = 0 := if_neg h1
    rw [e]
    clear e h1
    go_enter Tryd.func17, Tryd.ntmps17
    go_wp2_with fail
    go_ret
    exact ⟨rfl, Below.refl _ _⟩
theorem rsectors_neg (n : Int) (w : World) (h : n < 0) :
    Calls Tryd.prog 17 #[.int .i64 n] w fun e w' => e = .returned (.int .i64 0) ∧ Below w.heap.size w w' := by
  go_enter Tryd.func17, Tryd.ntmps17
  go_wp2_with fail
  go_ret
  exact ⟨rfl, Below.refl _ _⟩
set_option maxRecDepth 100000 in
set_option maxHeartbeats 4000000 in
theorem rseq_any (o : Option Addr) (m c : Nat) (F : Nat → Nat) (w : World) (h : Bytes w o m F) (hm : m ≤ maxLen) :
    Calls Tryd.prog 13 #[.slice o m c] w fun e w' => ((m = 64 ∧ e = .returned (.tuple #[.int .u32 (seqF F : Nat), .int .i64 0])) ∨ (m ≠ 64 ∧ e = .returned (.tuple #[.int .u32 0, .int .i64 4]))) ∧ Below w.heap.size w w' := by
  unfold maxLen at hm
  by_cases h0 : m = 64
  · subst h0
    obtain ⟨b0, b, off, rfl, c0⟩ := h 0 (by decide)
    obtain ⟨b1, _, _, e1, c1⟩ := h 1 (by decide)
    obtain ⟨b2, _, _, e2, c2⟩ := h 2 (by decide)
    obtain ⟨b3, _, _, e3, c3⟩ := h 3 (by decide)
    cases e1; cases e2; cases e3
    clear h
    have hs : ((seqF F : Nat) : Int) = (F 0 : Nat) * 16777216 + (F 1 : Nat) * 65536 + (F 2 : Nat) * 256 + (F 3 : Nat) := by unfold seqF; omega
    replace hs := hs.symm
    generalize seqF F = Z at *
    generalize F 0 = x0 at *
    generalize F 1 = x1 at *
    generalize F 2 = x2 at *
    generalize F 3 = x3 at *
    have v0 : IntKind.u32.wrap (x0 : Int) = (x0 : Int) := IntWalk.u32_in _ (by omega)
    have v1 : IntKind.u32.wrap (x1 : Int) = (x1 : Int) := IntWalk.u32_in _ (by omega)
    have v2 : IntKind.u32.wrap (x2 : Int) = (x2 : Int) := IntWalk.u32_in _ (by omega)
    have v3 : IntKind.u32.wrap (x3 : Int) = (x3 : Int) := IntWalk.u32_in _ (by omega)
    have m0 : IntKind.u32.wrap ((x0 : Int) * 16777216) = (x0 : Int) * 16777216 := IntWalk.u32_in _ (by omega)
    have m1 : IntKind.u32.wrap ((x1 : Int) * 65536) = (x1 : Int) * 65536 := IntWalk.u32_in _ (by omega)
    have m2 : IntKind.u32.wrap ((x2 : Int) * 256) = (x2 : Int) * 256 := IntWalk.u32_in _ (by omega)
    have p1 : IntKind.u32.wrap ((x0 : Int) * 16777216 + (x1 : Int) * 65536) = (x0 : Int) * 16777216 + (x1 : Int) * 65536 := IntWalk.u32_in _ (by omega)
    have p2 : IntKind.u32.wrap ((x0 : Int) * 16777216 + (x1 : Int) * 65536 + (x2 : Int) * 256) = (x0 : Int) * 16777216 + (x1 : Int) * 65536 + (x2 : Int) * 256 := IntWalk.u32_in _ (by omega)
    have p3 : IntKind.u32.wrap (Z : Int) = (Z : Int) := IntWalk.u32_in _ (by omega)
    rw [Nat.add_zero] at c0
    have c0 : w.drew.cell? ⟨b, off, none⟩ = some (.int .u8 (x0 : Nat)) := c0
    have c1 : w.drew.cell? ⟨b, off + 1, none⟩ = some (.int .u8 (x1 : Nat)) := c1
    have c2 : w.drew.cell? ⟨b, off + 2, none⟩ = some (.int .u8 (x2 : Nat)) := c2
    have c3 : w.drew.cell? ⟨b, off + 3, none⟩ = some (.int .u8 (x3 : Nat)) := c3
    go_enter Tryd.func13, Tryd.ntmps13
    go_wp2_with fail
    have hB0 : Below w.heap.size w w.drew := (Below.refl _ _).drew
    refine still_lit (by kernel_rfl) (by kernel_rfl) ?_
    generalize w.drew = W0 at *
    repeat still_step
    refine wpStill_nil ?_
    go_wp2_with fail
    go_ret2
    exact ⟨.inl ⟨trivial, rfl⟩, hB0⟩
  · have h1 : ¬ (m : Int) = 64 := by omega
    have h2 : decide ((m : Int) = 64) = false := decide_eq_false h1
    have H0 := Lib.hid h0
    clear h h0
    go_enter Tryd.func13, Tryd.ntmps13
    go_wp2_with fail
    go_ret2
    exact ⟨.inr ⟨H0.out, rfl⟩, Below.refl _ _⟩
end Go.Proofs.YtfbbnffinlebbaaDoor
