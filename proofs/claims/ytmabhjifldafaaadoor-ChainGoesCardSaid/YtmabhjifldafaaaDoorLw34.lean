/- What the law of this package uses: an error's number, lists held against one another, how much is looked at. -/
import Derived.Test.YtmabhjifldafaaaDoorAs
import Derived.Test.YtmabhjifldafaaaDoorCv
namespace Go.Proofs.YtmabhjifldafaaaDoor
set_option linter.unusedVariables false
set_option linter.unusedSimpArgs false
open Go.RowKit

set_option maxHeartbeats 400000 in
theorem num_nil34 (w : World) :
    Calls Tryd.prog 45 #[.nilIface] w fun e w' => e = .returned (.int .i64 0) ∧ Below w.heap.size w w' := by
  go_enter Tryd.func45, Tryd.ntmps45
  go_wp2
  go_ret
  exact ⟨rfl, (Below.refl _ _).alloc (Nat.le_refl _) _⟩

set_option maxHeartbeats 400000 in
theorem num_err34 (n : Int) (w : World) (h : Handle w) :
    Calls Tryd.prog 45 #[.iface 118 (.int .i64 n)] w fun e w' => e = .returned (.int .i64 n) ∧ Below w.heap.size w w' := by
  have hA := as_hit n ⟨w.heap.size, 0, none⟩ (.int .i64 0) (w.alloc (.cells #[.int .i64 0] 118)) (h.alloc _).1 (by simp) (by simp)
  go_enter Tryd.func45, Tryd.ntmps45
  go_wp2_with fail
  refine hA.mono ?_
  rintro e w' ⟨rfl, rfl⟩
  go_wp2
  go_ret
  refine ⟨rfl, ?_⟩
  exact (((((Below.refl _ _).alloc (Nat.le_refl _) _).alloc (by simp) _).alloc (by simp; omega) _).alloc (by simp; omega) _).alloc (by simp; omega) _

theorem er_any34 (v : Value) (k : Nat) (w : World) (h : Er v k) (hh : Handle w) : Calls Tryd.prog 45 #[v] w fun e w' => e = .returned (.int .i64 (k : Nat)) ∧ Below w.heap.size w w' := by
  rcases h with ⟨rfl, rfl⟩ | ⟨rfl, _⟩
  · exact num_nil34 w
  · exact num_err34 (k : Nat) w hh
def BigA34 (q : Nat) (L : Nat → Nat) (w0 : World) (e : Ending) (w' : World) : Prop :=
  Below w0.heap.size w0 w' ∧ (e = .returned (.bool true) ∨ (e = .returned (.bool false) ∧ q ≤ 40 ∧ ∀ i, i < q → L i ≤ 3000))
set_option maxRecDepth 100000 in
set_option maxHeartbeats 8000000 in
theorem big_any34 (op : Option Addr) (q cq : Nat) (L : Nat → Nat) (G : Nat → Nat → Nat) (w : World) (hL : LBs w op q L G) (hq : q ≤ maxLen) :
    Calls Tryd.prog 33 #[.slice op q cq] w (BigA34 q L w) := by
  unfold maxLen at hq
  have HLB : Hid (∀ w', Below w.heap.size w w' → LBs w' op q L G) := Lib.hid fun w' h => hL.later h
  clear hL
  have hq0 : (q : Int) ≤ 9223372036854775807 := by omega
  go_enter Tryd.func33, Tryd.ntmps33
  go_wp2_with fail
  go_loopw [3, 4] (fun x v wr => ∃ i s : Nat, i ≤ q ∧ i ≤ 40 ∧ s ≤ 3000 ∧ v = .int .i64 (i : Int) ∧ x = .int .i64 (s : Int) ∧ (∀ j, j < i → L j ≤ s) ∧ Below w.heap.size w wr) (fun _ v _ => 40 - (intOf v).toNat)
  case atStart => exact ⟨0, 0, Nat.zero_le _, by omega, by omega, rfl, rfl, fun j hj => absurd hj (Nat.not_lt_zero _), Below.refl _ _⟩
  case round =>
    obtain ⟨i, s, hi, hi4, hs, rfl, rfl, hJ, hX⟩ := hrel
    have HX := Lib.hid hX
    have HJ := Lib.hid hJ
    have HI4 := Lib.hid hi4
    have HS := Lib.hid hs
    by_cases hli : i < q
    · have i1 : (i : Int) < (q : Int) := by omega
      by_cases h40 : i < 40
      · as_aux_lemma =>
        have i2 : (i : Int) < 40 := by omega
        have i0 : (0 : Int) ≤ (i : Int) := by omega
        have HI : Hid (i < q ∧ i < 40) := Lib.hid ⟨hli, h40⟩
        obtain ⟨b, off, od, cp, rfl, hc, hlc, _, _, hcm⟩ := HLB.out wr HX.out i hli
        unfold maxLen at hcm
        obtain ⟨x, hx⟩ : ∃ x, L i = x := ⟨_, rfl⟩
        obtain ⟨j2, hj2⟩ : ∃ z, i + 1 = z := ⟨_, rfl⟩
        rw [hx] at hc hlc
        have c0 : wr.cell? ⟨b, off + i, none⟩ = some (.slice od x cp) := hc
        have k3 : (i : Int) + 1 = (j2 : Int) := by omega
        have k4 : IntKind.i64.wrap (j2 : Int) = (j2 : Int) := IntWalk.i64_in _ (by omega)
        have k5 : (x : Int) ≤ 9223372036854775807 := by omega
        have HXX : Hid (L i = x ∧ i + 1 = j2) := Lib.hid ⟨hx, hj2⟩
        have h3c : (x : Int) < 5000 ∨ (x : Int) = 5000 ∨ 5000 < (x : Int) := by omega
        clear hc hlc hcm hx hj2 hli h40 hJ hi hi4 hX
        rcases h3c with hx1 | hx1 | hx1
        · obtain ⟨s2, hs2⟩ : ∃ z, s + x = z := ⟨_, rfl⟩
          have HS2 := Lib.hid hs2
          have k1 : (s : Int) + (x : Int) = (s2 : Int) := by omega
          have k2 : IntKind.i64.wrap (s2 : Int) = (s2 : Int) := IntWalk.i64_in _ (by omega)
          have hc3 : (3000 : Int) < (s2 : Int) ∨ ¬ (3000 : Int) < (s2 : Int) := by omega
          have k6 : min (x : Int) 5000 = (x : Int) := by omega
          clear hs2 hs
          rcases hc3 with g | g
          · go_wp2_with fail
            go_ret
            exact ⟨HX.out, .inl rfl⟩
          · have HG := Lib.hid g
            go_wp2_with fail
            go_roundw
            case rel => exact ⟨j2, s2, by have := HI.out; have := HXX.out; omega, by have := HI.out; have := HXX.out; omega, by have := HG.out; omega, by first | rfl | go_num, by first | rfl | go_num, fun j hj => by
              obtain ⟨e1, e4⟩ := HXX.out
              have e3 := HS2.out
              have h9 := HG.out
              by_cases e : j < i
              · have := HJ.out j e; omega
              · obtain rfl : j = i := by omega
                omega, HX.out⟩
            case measure => have := HI.out; have := HXX.out; simp [intOf] <;> omega
        · have k1 : (s : Int) + 5000 = ((s + 5000 : Nat) : Int) := by omega
          have k6 : min (x : Int) 5000 = 5000 := by omega
          have k2 : IntKind.i64.wrap ((s : Int) + 5000) = (s : Int) + 5000 := IntWalk.i64_in _ (by omega)
          have k7 : (3000 : Int) < (s : Int) + 5000 := by omega
          clear k1 hs
          go_wp2_with fail
          go_ret
          exact ⟨HX.out, .inl rfl⟩
        · have k1 : (s : Int) + 5000 = ((s + 5000 : Nat) : Int) := by omega
          have k6 : min (x : Int) 5000 = 5000 := by omega
          have k2 : IntKind.i64.wrap ((s : Int) + 5000) = (s : Int) + 5000 := IntWalk.i64_in _ (by omega)
          have k7 : (3000 : Int) < (s : Int) + 5000 := by omega
          clear k1 hs
          go_wp2_with fail
          go_ret
          exact ⟨HX.out, .inl rfl⟩
      · have i2 : ¬ (i : Int) < 40 := by omega
        obtain rfl : i = 40 := by omega
        have hc4 : (40 : Int) < (q : Int) := by omega
        clear hli h40 hJ hi hi4 hs hX
        go_wp2_with fail
        go_ret
        exact ⟨HX.out, .inl rfl⟩
    · obtain rfl : i = q := by omega
      have i1 : ¬ (i : Int) < (i : Int) := by omega
      have hc4 : ¬ (40 : Int) < (i : Int) := by omega
      clear hli hJ hi hi4 hs hX
      go_wp2_with fail
      go_ret
      exact ⟨HX.out, .inr ⟨rfl, HI4.out, fun j hj => Nat.le_trans (HJ.out j hj) HS.out⟩⟩
set_option maxRecDepth 100000 in
set_option maxHeartbeats 8000000 in
theorem lists_any34 (oa ob : Option Addr) (n ca cb : Nat) (L : Nat → Nat) (G : Nat → Nat → Nat) (w : World) (hA : LBs w oa n L G) (hB : LBs w ob n L G) (hn : n ≤ maxLen) :
    Calls Tryd.prog 39 #[.slice oa n ca, .slice ob n cb] w fun e w' => e = .returned (.bool true) ∧ Below w.heap.size w w' := by
  unfold maxLen at hn
  have HA : Hid (∀ w', Below w.heap.size w w' → LBs w' oa n L G ∧ LBs w' ob n L G) := Lib.hid fun w' h => ⟨hA.later h, hB.later h⟩
  clear hA hB
  have hq0 : (n : Int) ≤ 9223372036854775807 := by omega
  go_enter Tryd.func39, Tryd.ntmps39
  go_wp2_with fail
  go_loopw [5] (fun v wr => ∃ i : Nat, i ≤ n ∧ v = .int .i64 (i : Int) ∧ Below w.heap.size w wr) (fun v _ => n - (intOf v).toNat)
  case atStart => exact ⟨0, Nat.zero_le _, rfl, Below.refl _ _⟩
  case round =>
    obtain ⟨i, hi, rfl, hX⟩ := hrel
    have HX : Hid (Below w.heap.size w wr) := Lib.hid hX
    by_cases hli : i < n
    · as_aux_lemma =>
      have i1 : (i : Int) < (n : Int) := by omega
      have i0 : (0 : Int) ≤ (i : Int) := by omega
      have HI : Hid (i < n) := Lib.hid hli
      obtain ⟨h1, h2⟩ := HA.out wr.drew HX.out.drew
      obtain ⟨b, off, od, cp, rfl, c1, _, hb1, hd1, _⟩ := h1 i hli
      obtain ⟨b2, off2, od2, cp2, rfl, c2, _, hb2, hd2, _⟩ := h2 i hli
      obtain ⟨j2, hj2⟩ : ∃ z, i + 1 = z := ⟨_, rfl⟩
      have HJ2 := Lib.hid hj2
      have k3 : (i : Int) + 1 = (j2 : Int) := by omega
      have k4 : IntKind.i64.wrap (j2 : Int) = (j2 : Int) := IntWalk.i64_in _ (by omega)
      have HC1 := Lib.hid (conv_any (cap := cp) hb1 hd1)
      have HC2 := Lib.hid (conv_any (cap := cp2) hb2 hd2)
      have H0 : Hid (Below w.heap.size w wr.drew) := Lib.hid HX.out.drew
      clear h1 h2 hj2 hli hi hX HX hb1 hb2 hd1 hd2
      generalize hS : strF (L i) (G i) = S at *
      clear hS
      go_wp2_with fail
      refine WS.lit (by kernel_rfl) (by kernel_rfl) ?_
      generalize wr.drew = W1 at *
      refine WS.val (v := ?_) (by kernel_rfl) ?_ ?_
      rotate_left
      · go_simp
        (try with_reducible rfl)
      (try simp only [Act.put, List.setIfInBounds_toArray, List.set_cons_zero, List.set_cons_succ])
      refine WS.val (v := ?_) (by kernel_rfl) ?_ ?_
      rotate_left
      · go_simp
        (try with_reducible rfl)
      (try simp only [Act.put, List.setIfInBounds_toArray, List.set_cons_zero, List.set_cons_succ])
      refine WS.val (v := ?_) (by kernel_rfl) ?_ ?_
      rotate_left
      · go_simp
        (try with_reducible rfl)
      (try simp only [Act.put, List.setIfInBounds_toArray, List.set_cons_zero, List.set_cons_succ])
      refine WS.val (v := ?_) (by kernel_rfl) ?_ ?_
      rotate_left
      · go_simp
        (try with_reducible rfl)
      (try simp only [Act.put, List.setIfInBounds_toArray, List.set_cons_zero, List.set_cons_succ])
      refine WS.val (by kernel_rfl) (exec_convO (x := .tmp 20) rfl rfl HC1.out) ?_
      (try simp only [Act.put, List.setIfInBounds_toArray, List.set_cons_zero, List.set_cons_succ])
      refine WS.val (v := ?_) (by kernel_rfl) ?_ ?_
      rotate_left
      · go_simp
        (try with_reducible rfl)
      (try simp only [Act.put, List.setIfInBounds_toArray, List.set_cons_zero, List.set_cons_succ])
      refine WS.val (v := ?_) (by kernel_rfl) ?_ ?_
      rotate_left
      · go_simp
        (try with_reducible rfl)
      (try simp only [Act.put, List.setIfInBounds_toArray, List.set_cons_zero, List.set_cons_succ])
      refine WS.val (v := ?_) (by kernel_rfl) ?_ ?_
      rotate_left
      · go_simp
        (try with_reducible rfl)
      (try simp only [Act.put, List.setIfInBounds_toArray, List.set_cons_zero, List.set_cons_succ])
      refine WS.val (v := ?_) (by kernel_rfl) ?_ ?_
      rotate_left
      · go_simp
        (try with_reducible rfl)
      (try simp only [Act.put, List.setIfInBounds_toArray, List.set_cons_zero, List.set_cons_succ])
      refine WS.val (by kernel_rfl) (exec_convO (x := .tmp 25) rfl rfl HC2.out) ?_
      (try simp only [Act.put, List.setIfInBounds_toArray, List.set_cons_zero, List.set_cons_succ])
      refine WS.val (v := ?_) (by kernel_rfl) ?_ ?_
      rotate_left
      · go_simp
        (try with_reducible rfl)
      (try simp only [Act.put, List.setIfInBounds_toArray, List.set_cons_zero, List.set_cons_succ])
      refine WS.nil ?_
      go_wp2_with fail
      go_roundw
      case rel => exact ⟨j2, by have := HI.out; have := HJ2.out; omega, by first | rfl | go_num, H0.out⟩
      case measure => have := HI.out; have := HJ2.out; simp [intOf] <;> omega
    · obtain rfl : i = n := by omega
      have i1 : ¬ (i : Int) < (i : Int) := by omega
      clear hli hi hX
      go_wp2_with fail
      go_ret
      exact ⟨rfl, HX.out⟩
end Go.Proofs.YtmabhjifldafaaaDoor
