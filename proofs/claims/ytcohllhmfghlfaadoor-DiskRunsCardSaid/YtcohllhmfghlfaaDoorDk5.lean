/- slices.Backward over the writes that wait. -/
import Derived.Test.YtcohllhmfghlfaaDoorDk3
import Derived.Test.YtcohllhmfghlfaaDoorRf
import Derived.Deep.DeepCutAuto
import Derived.LoopNIn
import Derived.LoopIn
namespace Go.Proofs.YtcohllhmfghlfaaDoor
set_option linter.unusedVariables false
set_option linter.unusedSimpArgs false
open Go.RowKit

/-- The writes lie in a row. -/
def WRow (W : World) (oa : Option Addr) (N : Nat) (A : Nat → Nat) (D : Nat → Nat → Nat) : Prop := ∀ j, j < N → ∃ b, oa = some ⟨b, 0, none⟩ ∧ W.rangeAt b (j * 65) (wtC (A j) (D j))
def bkE (N : Nat) (A : Nat → Nat) (D : Nat → Nat → Nat) (r : Nat) : Array Value := #[.int .i64 ((N - 1 - r : Nat) : Int), .agg (wtC (A (N - 1 - r)) (D (N - 1 - r))).toArray]
def bkG (Bn : Nat) (oa : Option Addr) (N cap : Nat) (A : Nat → Nat) (D : Nat → Nat → Nat) (W : World) : Prop := W.cell? ⟨Bn, 0, none⟩ = some (.slice oa N cap) ∧ WRow W oa N A D
theorem wpListIn_value {ops : Array Oper} {rest : List Oper} {o : Oper} {a : Act} {w : World} {Q : Exit → Act → World → Prop} {v : Value} (hgd : o.guard = none) (hd : noDefer [o] = true) (he : (execOp a.eval o).run Tryd.prog w = .ok (.value v) w)
    (hk : wpListIn Fence.wide 0 Tryd.prog ops Q rest (a.put o.dst v) w) : wpListIn Fence.wide 0 Tryd.prog ops Q (o :: rest) a w := by
  have hw : Region.wanted o (yielded ops a.tmps) = true := by simp [Region.wanted, hgd]
  unfold wpListIn
  rw [if_pos hw]
  refine opIn_wd (r := none) (n := 0) (noDefer_of hd o (by simp)) ?_
  unfold Oper.wp
  rw [he]
  exact hk
set_option maxHeartbeats 4000000 in
set_option maxRecDepth 100000 in
theorem backward_seq (Bn N cap : Nat) (oa : Option Addr) (A : Nat → Nat) (D : Nat → Nat → Nat) (hN : N < 100000000) :
    Seq Tryd.prog 46 #[.pointer (some ⟨Bn, 0, none⟩)] (bkE N A D) N (fun _ A B => B = A) (fun _ W => bkG Bn oa N cap A D W) := by
  intro l J J' Jx W hG hJd hJxd hR hY h0
  have HG : Hid (∀ i A', J i A' → bkG Bn oa N cap A D A') := Lib.hid hG
  have HR : Hid (∀ i A B, i < N → J i A → B = A → J' i B) := Lib.hid hR
  have HY := Lib.hid hY
  have HN := Lib.hid hN
  have c0 := (hG 0 W h0).1
  have n0 : (N : Int) ≤ 9223372036854775807 := by omega
  have n1 : IntKind.i64.wrap ((N : Int) - 1) = (N : Int) - 1 := IntWalk.i64_in _ (by omega)
  clear hG hJd hJxd hR hY hN
  go_enter Tryd.func46, Tryd.ntmps46
  go_wp2_with fail
  clear c0 n1
  go_loopw [3] (fun y wr => ∃ r : Nat, r ≤ N ∧ y = .int .i64 ((N : Int) - 1 - (r : Int)) ∧ J r wr) (fun y _ => (intOf y + 1).toNat)
  case atStart => exact ⟨0, Nat.zero_le _, by simp, h0⟩
  case round =>
    obtain ⟨r, hr, rfl, hJ⟩ := hrel
    have hgr := HG.out r wr hJ
    have c0 := hgr.1
    by_cases hlt : r < N
    · obtain ⟨k, hk⟩ : ∃ k, N - 1 - r = k := ⟨_, rfl⟩
      have hkN : k < N := by omega
      obtain ⟨b, rfl, hrg⟩ := hgr.2 k hkN
      have hki : (N : Int) - 1 - (r : Int) = (k : Int) := by omega
      rw [hki]
      have HRG := Lib.hid hrg
      have HIL : Hid ((Tryd.prog.info? 70).map (·.size) = some (wtC (A k) (D k)).length) := Lib.hid info_write
      have k0 : (0 : Int) ≤ (k : Int) := by omega
      have k1 : (k : Int) < (N : Int) := by omega
      have k2 : IntKind.i64.wrap ((k : Int) - 1) = (k : Int) - 1 := by have := HN.out; exact IntWalk.i64_in _ (by omega)
      have HK := Lib.hid (show N - 1 - r = k ∧ r < N ∧ k < N from ⟨hk, hlt, hkN⟩)
      have HJ := Lib.hid hJ
      have hJ' : J' r wr := HR.out r wr wr hlt HJ.out rfl
      obtain ⟨fn, tmps, assign, body, hy, hRd⟩ := HY.out r wr hlt hJ'
      have HRD := Lib.hid hRd
      have hE : bkE N A D r = #[.int .i64 (k : Int), .agg (wtC (A k) (D k)).toArray] := by unfold bkE; rw [hk]
      rw [hE] at hy
      generalize hWC : wtC (A k) (D k) = WL at *
      clear hRd hJ hJ' hk hgr hrg hlt hr hkN hki hWC hE h0
      go_upto_region 3 with fail
      refine (wpIn_wide (n := 0)).1 ?_
      refine wpIn_region_lit ?_
      refine wpListIn_value (v := ?_) rfl (by kernel_rfl) ?_ ?_
      rotate_left
      · go_simp
        (try with_reducible rfl)
      (try simp only [Act.put, List.setIfInBounds_toArray, List.set_cons_zero, List.set_cons_succ])
      refine wpListIn_value (v := ?_) rfl (by kernel_rfl) ?_ ?_
      rotate_left
      · go_simp
        (try with_reducible rfl)
      (try simp only [Act.put, List.setIfInBounds_toArray, List.set_cons_zero, List.set_cons_succ])
      refine wpListIn_value (v := ?_) rfl (by kernel_rfl) ?_ ?_
      rotate_left
      · go_simp
        (try with_reducible rfl)
      (try simp only [Act.put, List.setIfInBounds_toArray, List.set_cons_zero, List.set_cons_succ])
      refine wpListIn_value (v := ?_) rfl (by kernel_rfl) ?_ ?_
      rotate_left
      · go_simp
        (try with_reducible rfl)
      (try simp only [Act.put, List.setIfInBounds_toArray, List.set_cons_zero, List.set_cons_succ])
      refine wpListIn_value (v := ?_) rfl (by kernel_rfl) ?_ ?_
      rotate_left
      · go_simp
        (try with_reducible rfl)
      (try simp only [Act.put, List.setIfInBounds_toArray, List.set_cons_zero, List.set_cons_succ])
      refine wpListIn_value rfl (by kernel_rfl) (exec_loadM (x := .tmp 15) (b := b) (f := k * 65) (cs := WL) (d := _) rfl rfl HRG.out Tryd.underlying70 rfl HIL.out) ?_
      (try simp only [Act.put, List.setIfInBounds_toArray, List.set_cons_zero, List.set_cons_succ])
      gi_wp2
      refine ⟨rfl, ?_⟩
      refine HRD.out.mono ?_
      rintro e W' (⟨rfl, hJ2⟩ | ⟨rfl, hJx⟩)
      · gi_wp2
        clear hy
        go_wp2_with fail
        go_roundw
        case rel => exact ⟨r + 1, HK.out.2.1, by have := HK.out; congr 1; omega, hJ2⟩
        case measure => have := HK.out; simp [intOf] <;> omega
      · gi_wp2
        clear hy
        go_wp2_with fail
        refine bodyPost_ret (results_none rfl _ _ _) rfl ?_
        exact ⟨⟨_, rfl⟩, .inr hJx⟩
    · obtain rfl : N = r := by omega
      have k0 : ¬ (0 : Int) ≤ (N : Int) - 1 - (N : Int) := by omega
      have k1 : decide ((0 : Int) ≤ (N : Int) - 1 - (N : Int)) = false := decide_eq_false k0
      have HJ := Lib.hid hJ
      clear hJ h0 hgr
      go_wp2_with fail
      go_end0
      exact ⟨⟨_, rfl⟩, .inl HJ.out⟩
end Go.Proofs.YtcohllhmfghlfaaDoor
