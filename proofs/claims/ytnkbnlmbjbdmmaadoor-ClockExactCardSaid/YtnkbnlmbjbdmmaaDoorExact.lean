/- The walk of ClockExact, case by case. -/
import Derived.Test.YtnkbnlmbjbdmmaaDoorLaws
namespace Go.Proofs.YtnkbnlmbjbdmmaaDoor
open Go.RowKit

set_option maxRecDepth 100000 in
set_option maxHeartbeats 1000000 in
theorem exact_z_n1 (now : Int) (w : World) (hH : Handle w) (ha : U64 now) (hn : now < 18446744073709551615) :
    Calls Tryd.prog 3 #[.int .u64 now, .int .u64 0, .int .u64 18446744073709551615] w fun e w' => e = .returned (.bool true) ∧ Below w.heap.size w w' := by
  have hb : U64 18446744073709551615 := U64_NV
  have hl0 : leftI now 18446744073709551615 = 18446744073709551615 := by have h1 : overB now 18446744073709551615 = false := (by unfold overB; rw [decide_eq_false_iff_not]; omega); unfold leftI; rw [h1, if_neg (by simp), if_pos rfl]
  have Hl : Hid _ := hl0
  clear hl0
  have Hx : Hid (maxI now 18446744073709551615 = 18446744073709551615) := if_pos hn
  go_enter Tryd.func3, Tryd.ntmps3
  go_wp2_with fail
  refine (until_z _ _).mono ?_
  rintro e w' ⟨rfl, rfl⟩
  go_wp2_with fail
  refine (runtil_z _ _).mono ?_
  rintro e w' ⟨rfl, rfl⟩
  go_wp2_with fail
  refine (renew_z _ _ _).mono ?_
  rintro e w' ⟨rfl, rfl⟩
  go_wp2_with fail
  refine (rrenew_z _ _ _).mono ?_
  rintro e w' ⟨rfl, rfl⟩
  go_wp2_with fail
  refine (tick_any _ _ _ ha (by unfold U64; omega)).mono ?_
  rintro e w' ⟨rfl, rfl⟩
  go_wp2_with fail
  refine (rtick_any _ _ _ ha (by unfold U64; omega)).mono ?_
  rintro e w' ⟨rfl, rfl⟩
  go_wp2_with fail
  refine (num_nil _).mono ?_
  rintro e w1 ⟨rfl, hb1⟩
  go_wp2_with fail
  refine (num_err 1 _ (hH.later hb1)).mono ?_
  rintro e w2 ⟨rfl, hb2⟩
  go_wp2_with fail
  refine (over_any _ _ _).mono ?_
  rintro e w' ⟨rfl, rfl⟩
  go_wp2_with fail
  refine (rover_any _ _ _).mono ?_
  rintro e w' ⟨rfl, rfl⟩
  go_wp2_with fail
  refine (left_is (x := 18446744073709551615) _ ha hb Hl.out).mono ?_
  rintro e w' ⟨rfl, rfl⟩
  go_wp2_with fail
  refine (resume_is (x := 18446744073709551615) _ Hx.out).mono ?_
  rintro e w' ⟨rfl, rfl⟩
  go_wp2_with fail
  refine (sure_any _ ((hH.later hb1).later hb2)).mono ?_
  rintro e w3 ⟨rfl, hb3⟩
  go_wp2_with fail
  go_ret
  exact ⟨rfl, hb1.trans ((hb2.mono hb1.size).trans (hb3.mono (Nat.le_trans hb1.size hb2.size)))⟩

set_option maxRecDepth 100000 in
set_option maxHeartbeats 1000000 in
theorem exact_z_n2 (w : World) (hH : Handle w) :
    Calls Tryd.prog 3 #[.int .u64 18446744073709551615, .int .u64 0, .int .u64 18446744073709551615] w fun e w' => e = .returned (.bool true) ∧ Below w.heap.size w w' := by
  have ha : U64 18446744073709551615 := U64_NV
  have hb : U64 18446744073709551615 := U64_NV
  have hl0 : leftI 18446744073709551615 18446744073709551615 = 18446744073709551615 := by decide
  have Hl : Hid _ := hl0
  clear hl0
  have Hx : Hid (maxI 18446744073709551615 18446744073709551615 = 18446744073709551615) := if_neg (by omega)
  go_enter Tryd.func3, Tryd.ntmps3
  go_wp2_with fail
  refine (until_z _ _).mono ?_
  rintro e w' ⟨rfl, rfl⟩
  go_wp2_with fail
  refine (runtil_z _ _).mono ?_
  rintro e w' ⟨rfl, rfl⟩
  go_wp2_with fail
  refine (renew_z _ _ _).mono ?_
  rintro e w' ⟨rfl, rfl⟩
  go_wp2_with fail
  refine (rrenew_z _ _ _).mono ?_
  rintro e w' ⟨rfl, rfl⟩
  go_wp2_with fail
  refine (tick_any _ _ _ ha (by unfold U64; omega)).mono ?_
  rintro e w' ⟨rfl, rfl⟩
  go_wp2_with fail
  refine (rtick_any _ _ _ ha (by unfold U64; omega)).mono ?_
  rintro e w' ⟨rfl, rfl⟩
  go_wp2_with fail
  refine (num_nil _).mono ?_
  rintro e w1 ⟨rfl, hb1⟩
  go_wp2_with fail
  refine (num_err 1 _ (hH.later hb1)).mono ?_
  rintro e w2 ⟨rfl, hb2⟩
  go_wp2_with fail
  refine (over_any _ _ _).mono ?_
  rintro e w' ⟨rfl, rfl⟩
  go_wp2_with fail
  refine (rover_any _ _ _).mono ?_
  rintro e w' ⟨rfl, rfl⟩
  go_wp2_with fail
  refine (left_is (x := 18446744073709551615) _ ha hb Hl.out).mono ?_
  rintro e w' ⟨rfl, rfl⟩
  go_wp2_with fail
  refine (resume_is (x := 18446744073709551615) _ Hx.out).mono ?_
  rintro e w' ⟨rfl, rfl⟩
  go_wp2_with fail
  refine (sure_any _ ((hH.later hb1).later hb2)).mono ?_
  rintro e w3 ⟨rfl, hb3⟩
  go_wp2_with fail
  go_ret
  exact ⟨rfl, hb1.trans ((hb2.mono hb1.size).trans (hb3.mono (Nat.le_trans hb1.size hb2.size)))⟩

set_option maxRecDepth 100000 in
set_option maxHeartbeats 1000000 in
theorem exact_z_l (now most : Int) (w : World) (hH : Handle w) (ha : U64 now) (hb : U64 most) (hm : (most == 18446744073709551615) = false) (hn : now < most) :
    Calls Tryd.prog 3 #[.int .u64 now, .int .u64 0, .int .u64 most] w fun e w' => e = .returned (.bool true) ∧ Below w.heap.size w w' := by
  have hl0 : leftI now most = (most - now) := by have h1 : overB now most = false := (by unfold overB; rw [decide_eq_false_iff_not]; omega); have h2 : most ≠ 18446744073709551615 := beq_eq_false_iff_ne.1 hm; unfold leftI; rw [h1, if_neg (by simp), if_neg h2]
  have Hl : Hid _ := hl0
  clear hl0
  have Hx : Hid (maxI now most = most) := if_pos hn
  obtain ⟨a0, a1⟩ := id ha
  obtain ⟨b0, b1⟩ := id hb
  go_enter Tryd.func3, Tryd.ntmps3
  go_wp2_with fail
  refine (until_z _ _).mono ?_
  rintro e w' ⟨rfl, rfl⟩
  go_wp2_with fail
  refine (runtil_z _ _).mono ?_
  rintro e w' ⟨rfl, rfl⟩
  go_wp2_with fail
  refine (renew_z _ _ _).mono ?_
  rintro e w' ⟨rfl, rfl⟩
  go_wp2_with fail
  refine (rrenew_z _ _ _).mono ?_
  rintro e w' ⟨rfl, rfl⟩
  go_wp2_with fail
  refine (tick_any _ _ _ ha (by unfold U64; omega)).mono ?_
  rintro e w' ⟨rfl, rfl⟩
  go_wp2_with fail
  refine (rtick_any _ _ _ ha (by unfold U64; omega)).mono ?_
  rintro e w' ⟨rfl, rfl⟩
  go_wp2_with fail
  refine (num_nil _).mono ?_
  rintro e w1 ⟨rfl, hb1⟩
  go_wp2_with fail
  refine (num_err 1 _ (hH.later hb1)).mono ?_
  rintro e w2 ⟨rfl, hb2⟩
  go_wp2_with fail
  refine (over_any _ _ _).mono ?_
  rintro e w' ⟨rfl, rfl⟩
  go_wp2_with fail
  refine (rover_any _ _ _).mono ?_
  rintro e w' ⟨rfl, rfl⟩
  go_wp2_with fail
  refine (left_is (x := (most - now)) _ ha hb Hl.out).mono ?_
  rintro e w' ⟨rfl, rfl⟩
  go_wp2_with fail
  refine (resume_is (x := most) _ Hx.out).mono ?_
  rintro e w' ⟨rfl, rfl⟩
  go_wp2_with fail
  refine (sure_any _ ((hH.later hb1).later hb2)).mono ?_
  rintro e w3 ⟨rfl, hb3⟩
  go_wp2_with fail
  go_ret
  exact ⟨rfl, hb1.trans ((hb2.mono hb1.size).trans (hb3.mono (Nat.le_trans hb1.size hb2.size)))⟩

set_option maxRecDepth 100000 in
set_option maxHeartbeats 1000000 in
theorem exact_z_s (now most : Int) (w : World) (hH : Handle w) (ha : U64 now) (hb : U64 most) (hm : (most == 18446744073709551615) = false) (hn : ¬ now < most) :
    Calls Tryd.prog 3 #[.int .u64 now, .int .u64 0, .int .u64 most] w fun e w' => e = .returned (.bool true) ∧ Below w.heap.size w w' := by
  have hl0 : leftI now most = 0 := by have h2 : most ≠ 18446744073709551615 := beq_eq_false_iff_ne.1 hm; have h1 : overB now most = true := (by unfold overB; rw [decide_eq_true_iff]; omega); unfold leftI; rw [h1, if_pos rfl]
  have Hl : Hid _ := hl0
  clear hl0
  have Hx : Hid (maxI now most = now) := if_neg hn
  have hn2 : most ≤ now := by omega
  go_enter Tryd.func3, Tryd.ntmps3
  go_wp2_with fail
  refine (until_z _ _).mono ?_
  rintro e w' ⟨rfl, rfl⟩
  go_wp2_with fail
  refine (runtil_z _ _).mono ?_
  rintro e w' ⟨rfl, rfl⟩
  go_wp2_with fail
  refine (renew_z _ _ _).mono ?_
  rintro e w' ⟨rfl, rfl⟩
  go_wp2_with fail
  refine (rrenew_z _ _ _).mono ?_
  rintro e w' ⟨rfl, rfl⟩
  go_wp2_with fail
  refine (tick_any _ _ _ ha (by unfold U64; omega)).mono ?_
  rintro e w' ⟨rfl, rfl⟩
  go_wp2_with fail
  refine (rtick_any _ _ _ ha (by unfold U64; omega)).mono ?_
  rintro e w' ⟨rfl, rfl⟩
  go_wp2_with fail
  refine (num_nil _).mono ?_
  rintro e w1 ⟨rfl, hb1⟩
  go_wp2_with fail
  refine (num_err 1 _ (hH.later hb1)).mono ?_
  rintro e w2 ⟨rfl, hb2⟩
  go_wp2_with fail
  refine (over_any _ _ _).mono ?_
  rintro e w' ⟨rfl, rfl⟩
  go_wp2_with fail
  refine (rover_any _ _ _).mono ?_
  rintro e w' ⟨rfl, rfl⟩
  go_wp2_with fail
  refine (left_is (x := 0) _ ha hb Hl.out).mono ?_
  rintro e w' ⟨rfl, rfl⟩
  go_wp2_with fail
  refine (resume_is (x := now) _ Hx.out).mono ?_
  rintro e w' ⟨rfl, rfl⟩
  go_wp2_with fail
  refine (sure_any _ ((hH.later hb1).later hb2)).mono ?_
  rintro e w3 ⟨rfl, hb3⟩
  go_wp2_with fail
  go_ret
  exact ⟨rfl, hb1.trans ((hb2.mono hb1.size).trans (hb3.mono (Nat.le_trans hb1.size hb2.size)))⟩

set_option maxRecDepth 100000 in
set_option maxHeartbeats 1000000 in
theorem exact_e_n1 (now ttl : Int) (w : World) (hH : Handle w) (ha : U64 now) (hc : U64 ttl) (hz : (ttl == 0) = false) (ho : tickI now ttl = 18446744073709551615) (hn : now < 18446744073709551615) :
    Calls Tryd.prog 3 #[.int .u64 now, .int .u64 ttl, .int .u64 18446744073709551615] w fun e w' => e = .returned (.bool true) ∧ Below w.heap.size w w' := by
  have hb : U64 18446744073709551615 := U64_NV
  have hl0 : leftI now 18446744073709551615 = 18446744073709551615 := by have h1 : overB now 18446744073709551615 = false := (by unfold overB; rw [decide_eq_false_iff_not]; omega); unfold leftI; rw [h1, if_neg (by simp), if_pos rfl]
  have Hl : Hid _ := hl0
  clear hl0
  have Hx : Hid (maxI now 18446744073709551615 = 18446744073709551615) := if_pos hn
  have Ho : Hid _ := ho
  clear ho
  go_enter Tryd.func3, Tryd.ntmps3
  go_wp2_with fail
  refine (until_e _ _ _ ha hc hz Ho.out).mono ?_
  rintro e w' ⟨rfl, rfl⟩
  go_wp2_with fail
  refine (runtil_e _ _ _ ha hc hz Ho.out).mono ?_
  rintro e w' ⟨rfl, rfl⟩
  go_wp2_with fail
  refine (renew_e _ _ _ _ ha hc hz Ho.out).mono ?_
  rintro e w' ⟨rfl, rfl⟩
  go_wp2_with fail
  refine (rrenew_e _ _ _ _ ha hc hz Ho.out).mono ?_
  rintro e w' ⟨rfl, rfl⟩
  go_wp2_with fail
  refine (tick_any _ _ _ ha hc).mono ?_
  rintro e w' ⟨rfl, rfl⟩
  go_wp2_with fail
  refine (rtick_any _ _ _ ha hc).mono ?_
  rintro e w' ⟨rfl, rfl⟩
  go_wp2_with fail
  refine (num_err 19 _ hH).mono ?_
  rintro e w1 ⟨rfl, hb1⟩
  go_wp2_with fail
  refine (num_err 19 _ (hH.later hb1)).mono ?_
  rintro e w2 ⟨rfl, hb2⟩
  go_wp2_with fail
  refine (over_any _ _ _).mono ?_
  rintro e w' ⟨rfl, rfl⟩
  go_wp2_with fail
  refine (rover_any _ _ _).mono ?_
  rintro e w' ⟨rfl, rfl⟩
  go_wp2_with fail
  refine (left_is (x := 18446744073709551615) _ ha hb Hl.out).mono ?_
  rintro e w' ⟨rfl, rfl⟩
  go_wp2_with fail
  refine (resume_is (x := 18446744073709551615) _ Hx.out).mono ?_
  rintro e w' ⟨rfl, rfl⟩
  go_wp2_with fail
  refine (sure_any _ ((hH.later hb1).later hb2)).mono ?_
  rintro e w3 ⟨rfl, hb3⟩
  go_wp2_with fail
  go_ret
  exact ⟨rfl, hb1.trans ((hb2.mono hb1.size).trans (hb3.mono (Nat.le_trans hb1.size hb2.size)))⟩

set_option maxRecDepth 100000 in
set_option maxHeartbeats 1000000 in
theorem exact_e_n2 (ttl : Int) (w : World) (hH : Handle w) (hc : U64 ttl) (hz : (ttl == 0) = false) (ho : tickI 18446744073709551615 ttl = 18446744073709551615) :
    Calls Tryd.prog 3 #[.int .u64 18446744073709551615, .int .u64 ttl, .int .u64 18446744073709551615] w fun e w' => e = .returned (.bool true) ∧ Below w.heap.size w w' := by
  have ha : U64 18446744073709551615 := U64_NV
  have hb : U64 18446744073709551615 := U64_NV
  have hl0 : leftI 18446744073709551615 18446744073709551615 = 18446744073709551615 := by decide
  have Hl : Hid _ := hl0
  clear hl0
  have Hx : Hid (maxI 18446744073709551615 18446744073709551615 = 18446744073709551615) := if_neg (by omega)
  have Ho : Hid _ := ho
  clear ho
  go_enter Tryd.func3, Tryd.ntmps3
  go_wp2_with fail
  refine (until_e _ _ _ ha hc hz Ho.out).mono ?_
  rintro e w' ⟨rfl, rfl⟩
  go_wp2_with fail
  refine (runtil_e _ _ _ ha hc hz Ho.out).mono ?_
  rintro e w' ⟨rfl, rfl⟩
  go_wp2_with fail
  refine (renew_e _ _ _ _ ha hc hz Ho.out).mono ?_
  rintro e w' ⟨rfl, rfl⟩
  go_wp2_with fail
  refine (rrenew_e _ _ _ _ ha hc hz Ho.out).mono ?_
  rintro e w' ⟨rfl, rfl⟩
  go_wp2_with fail
  refine (tick_any _ _ _ ha hc).mono ?_
  rintro e w' ⟨rfl, rfl⟩
  go_wp2_with fail
  refine (rtick_any _ _ _ ha hc).mono ?_
  rintro e w' ⟨rfl, rfl⟩
  go_wp2_with fail
  refine (num_err 19 _ hH).mono ?_
  rintro e w1 ⟨rfl, hb1⟩
  go_wp2_with fail
  refine (num_err 19 _ (hH.later hb1)).mono ?_
  rintro e w2 ⟨rfl, hb2⟩
  go_wp2_with fail
  refine (over_any _ _ _).mono ?_
  rintro e w' ⟨rfl, rfl⟩
  go_wp2_with fail
  refine (rover_any _ _ _).mono ?_
  rintro e w' ⟨rfl, rfl⟩
  go_wp2_with fail
  refine (left_is (x := 18446744073709551615) _ ha hb Hl.out).mono ?_
  rintro e w' ⟨rfl, rfl⟩
  go_wp2_with fail
  refine (resume_is (x := 18446744073709551615) _ Hx.out).mono ?_
  rintro e w' ⟨rfl, rfl⟩
  go_wp2_with fail
  refine (sure_any _ ((hH.later hb1).later hb2)).mono ?_
  rintro e w3 ⟨rfl, hb3⟩
  go_wp2_with fail
  go_ret
  exact ⟨rfl, hb1.trans ((hb2.mono hb1.size).trans (hb3.mono (Nat.le_trans hb1.size hb2.size)))⟩

set_option maxRecDepth 100000 in
set_option maxHeartbeats 1000000 in
theorem exact_e_l (now ttl most : Int) (w : World) (hH : Handle w) (ha : U64 now) (hb : U64 most) (hc : U64 ttl) (hz : (ttl == 0) = false) (ho : tickI now ttl = 18446744073709551615) (hm : (most == 18446744073709551615) = false) (hn : now < most) :
    Calls Tryd.prog 3 #[.int .u64 now, .int .u64 ttl, .int .u64 most] w fun e w' => e = .returned (.bool true) ∧ Below w.heap.size w w' := by
  have hl0 : leftI now most = (most - now) := by have h1 : overB now most = false := (by unfold overB; rw [decide_eq_false_iff_not]; omega); have h2 : most ≠ 18446744073709551615 := beq_eq_false_iff_ne.1 hm; unfold leftI; rw [h1, if_neg (by simp), if_neg h2]
  have Hl : Hid _ := hl0
  clear hl0
  have Hx : Hid (maxI now most = most) := if_pos hn
  have Ho : Hid _ := ho
  clear ho
  obtain ⟨a0, a1⟩ := id ha
  obtain ⟨b0, b1⟩ := id hb
  go_enter Tryd.func3, Tryd.ntmps3
  go_wp2_with fail
  refine (until_e _ _ _ ha hc hz Ho.out).mono ?_
  rintro e w' ⟨rfl, rfl⟩
  go_wp2_with fail
  refine (runtil_e _ _ _ ha hc hz Ho.out).mono ?_
  rintro e w' ⟨rfl, rfl⟩
  go_wp2_with fail
  refine (renew_e _ _ _ _ ha hc hz Ho.out).mono ?_
  rintro e w' ⟨rfl, rfl⟩
  go_wp2_with fail
  refine (rrenew_e _ _ _ _ ha hc hz Ho.out).mono ?_
  rintro e w' ⟨rfl, rfl⟩
  go_wp2_with fail
  refine (tick_any _ _ _ ha hc).mono ?_
  rintro e w' ⟨rfl, rfl⟩
  go_wp2_with fail
  refine (rtick_any _ _ _ ha hc).mono ?_
  rintro e w' ⟨rfl, rfl⟩
  go_wp2_with fail
  refine (num_err 19 _ hH).mono ?_
  rintro e w1 ⟨rfl, hb1⟩
  go_wp2_with fail
  refine (num_err 19 _ (hH.later hb1)).mono ?_
  rintro e w2 ⟨rfl, hb2⟩
  go_wp2_with fail
  refine (over_any _ _ _).mono ?_
  rintro e w' ⟨rfl, rfl⟩
  go_wp2_with fail
  refine (rover_any _ _ _).mono ?_
  rintro e w' ⟨rfl, rfl⟩
  go_wp2_with fail
  refine (left_is (x := (most - now)) _ ha hb Hl.out).mono ?_
  rintro e w' ⟨rfl, rfl⟩
  go_wp2_with fail
  refine (resume_is (x := most) _ Hx.out).mono ?_
  rintro e w' ⟨rfl, rfl⟩
  go_wp2_with fail
  refine (sure_any _ ((hH.later hb1).later hb2)).mono ?_
  rintro e w3 ⟨rfl, hb3⟩
  go_wp2_with fail
  go_ret
  exact ⟨rfl, hb1.trans ((hb2.mono hb1.size).trans (hb3.mono (Nat.le_trans hb1.size hb2.size)))⟩

set_option maxRecDepth 100000 in
set_option maxHeartbeats 1000000 in
theorem exact_e_s (now ttl most : Int) (w : World) (hH : Handle w) (ha : U64 now) (hb : U64 most) (hc : U64 ttl) (hz : (ttl == 0) = false) (ho : tickI now ttl = 18446744073709551615) (hm : (most == 18446744073709551615) = false) (hn : ¬ now < most) :
    Calls Tryd.prog 3 #[.int .u64 now, .int .u64 ttl, .int .u64 most] w fun e w' => e = .returned (.bool true) ∧ Below w.heap.size w w' := by
  have hl0 : leftI now most = 0 := by have h2 : most ≠ 18446744073709551615 := beq_eq_false_iff_ne.1 hm; have h1 : overB now most = true := (by unfold overB; rw [decide_eq_true_iff]; omega); unfold leftI; rw [h1, if_pos rfl]
  have Hl : Hid _ := hl0
  clear hl0
  have Hx : Hid (maxI now most = now) := if_neg hn
  have Ho : Hid _ := ho
  clear ho
  have hn2 : most ≤ now := by omega
  go_enter Tryd.func3, Tryd.ntmps3
  go_wp2_with fail
  refine (until_e _ _ _ ha hc hz Ho.out).mono ?_
  rintro e w' ⟨rfl, rfl⟩
  go_wp2_with fail
  refine (runtil_e _ _ _ ha hc hz Ho.out).mono ?_
  rintro e w' ⟨rfl, rfl⟩
  go_wp2_with fail
  refine (renew_e _ _ _ _ ha hc hz Ho.out).mono ?_
  rintro e w' ⟨rfl, rfl⟩
  go_wp2_with fail
  refine (rrenew_e _ _ _ _ ha hc hz Ho.out).mono ?_
  rintro e w' ⟨rfl, rfl⟩
  go_wp2_with fail
  refine (tick_any _ _ _ ha hc).mono ?_
  rintro e w' ⟨rfl, rfl⟩
  go_wp2_with fail
  refine (rtick_any _ _ _ ha hc).mono ?_
  rintro e w' ⟨rfl, rfl⟩
  go_wp2_with fail
  refine (num_err 19 _ hH).mono ?_
  rintro e w1 ⟨rfl, hb1⟩
  go_wp2_with fail
  refine (num_err 19 _ (hH.later hb1)).mono ?_
  rintro e w2 ⟨rfl, hb2⟩
  go_wp2_with fail
  refine (over_any _ _ _).mono ?_
  rintro e w' ⟨rfl, rfl⟩
  go_wp2_with fail
  refine (rover_any _ _ _).mono ?_
  rintro e w' ⟨rfl, rfl⟩
  go_wp2_with fail
  refine (left_is (x := 0) _ ha hb Hl.out).mono ?_
  rintro e w' ⟨rfl, rfl⟩
  go_wp2_with fail
  refine (resume_is (x := now) _ Hx.out).mono ?_
  rintro e w' ⟨rfl, rfl⟩
  go_wp2_with fail
  refine (sure_any _ ((hH.later hb1).later hb2)).mono ?_
  rintro e w3 ⟨rfl, hb3⟩
  go_wp2_with fail
  go_ret
  exact ⟨rfl, hb1.trans ((hb2.mono hb1.size).trans (hb3.mono (Nat.le_trans hb1.size hb2.size)))⟩

set_option maxRecDepth 100000 in
set_option maxHeartbeats 1000000 in
theorem exact_v_n1 (now ttl : Int) (w : World) (hH : Handle w) (ha : U64 now) (hc : U64 ttl) (hz : (ttl == 0) = false) (ho : tickI now ttl ≠ 18446744073709551615) (hn : now < 18446744073709551615) :
    Calls Tryd.prog 3 #[.int .u64 now, .int .u64 ttl, .int .u64 18446744073709551615] w fun e w' => e = .returned (.bool true) ∧ Below w.heap.size w w' := by
  have hb : U64 18446744073709551615 := U64_NV
  have hl0 : leftI now 18446744073709551615 = 18446744073709551615 := by have h1 : overB now 18446744073709551615 = false := (by unfold overB; rw [decide_eq_false_iff_not]; omega); unfold leftI; rw [h1, if_neg (by simp), if_pos rfl]
  have Hl : Hid _ := hl0
  clear hl0
  have Hx : Hid (maxI now 18446744073709551615 = 18446744073709551615) := if_pos hn
  have Ho : Hid _ := ho
  clear ho
  go_enter Tryd.func3, Tryd.ntmps3
  go_wp2_with fail
  refine (until_v _ _ _ ha hc hz Ho.out).mono ?_
  rintro e w' ⟨rfl, rfl⟩
  go_wp2_with fail
  refine (runtil_v _ _ _ ha hc hz Ho.out).mono ?_
  rintro e w' ⟨rfl, rfl⟩
  go_wp2_with fail
  refine (renew_v _ _ _ _ ha hc hz Ho.out).mono ?_
  rintro e w' ⟨rfl, rfl⟩
  go_wp2_with fail
  refine (rrenew_v _ _ _ _ ha hc hz Ho.out).mono ?_
  rintro e w' ⟨rfl, rfl⟩
  go_wp2_with fail
  refine (tick_any _ _ _ ha hc).mono ?_
  rintro e w' ⟨rfl, rfl⟩
  go_wp2_with fail
  refine (rtick_any _ _ _ ha hc).mono ?_
  rintro e w' ⟨rfl, rfl⟩
  go_wp2_with fail
  refine (num_nil _).mono ?_
  rintro e w1 ⟨rfl, hb1⟩
  go_wp2_with fail
  refine (num_nil _).mono ?_
  rintro e w2 ⟨rfl, hb2⟩
  go_wp2_with fail
  refine (over_any _ _ _).mono ?_
  rintro e w' ⟨rfl, rfl⟩
  go_wp2_with fail
  refine (rover_any _ _ _).mono ?_
  rintro e w' ⟨rfl, rfl⟩
  go_wp2_with fail
  refine (left_is (x := 18446744073709551615) _ ha hb Hl.out).mono ?_
  rintro e w' ⟨rfl, rfl⟩
  go_wp2_with fail
  refine (resume_is (x := 18446744073709551615) _ Hx.out).mono ?_
  rintro e w' ⟨rfl, rfl⟩
  go_wp2_with fail
  refine (sure_any _ ((hH.later hb1).later hb2)).mono ?_
  rintro e w3 ⟨rfl, hb3⟩
  go_wp2_with fail
  go_ret
  exact ⟨rfl, hb1.trans ((hb2.mono hb1.size).trans (hb3.mono (Nat.le_trans hb1.size hb2.size)))⟩

set_option maxRecDepth 100000 in
set_option maxHeartbeats 1000000 in
theorem exact_v_l (now ttl most : Int) (w : World) (hH : Handle w) (ha : U64 now) (hb : U64 most) (hc : U64 ttl) (hz : (ttl == 0) = false) (ho : tickI now ttl ≠ 18446744073709551615) (hm : (most == 18446744073709551615) = false) (hn : now < most) :
    Calls Tryd.prog 3 #[.int .u64 now, .int .u64 ttl, .int .u64 most] w fun e w' => e = .returned (.bool true) ∧ Below w.heap.size w w' := by
  have hl0 : leftI now most = (most - now) := by have h1 : overB now most = false := (by unfold overB; rw [decide_eq_false_iff_not]; omega); have h2 : most ≠ 18446744073709551615 := beq_eq_false_iff_ne.1 hm; unfold leftI; rw [h1, if_neg (by simp), if_neg h2]
  have Hl : Hid _ := hl0
  clear hl0
  have Hx : Hid (maxI now most = most) := if_pos hn
  have Ho : Hid _ := ho
  clear ho
  obtain ⟨a0, a1⟩ := id ha
  obtain ⟨b0, b1⟩ := id hb
  go_enter Tryd.func3, Tryd.ntmps3
  go_wp2_with fail
  refine (until_v _ _ _ ha hc hz Ho.out).mono ?_
  rintro e w' ⟨rfl, rfl⟩
  go_wp2_with fail
  refine (runtil_v _ _ _ ha hc hz Ho.out).mono ?_
  rintro e w' ⟨rfl, rfl⟩
  go_wp2_with fail
  refine (renew_v _ _ _ _ ha hc hz Ho.out).mono ?_
  rintro e w' ⟨rfl, rfl⟩
  go_wp2_with fail
  refine (rrenew_v _ _ _ _ ha hc hz Ho.out).mono ?_
  rintro e w' ⟨rfl, rfl⟩
  go_wp2_with fail
  refine (tick_any _ _ _ ha hc).mono ?_
  rintro e w' ⟨rfl, rfl⟩
  go_wp2_with fail
  refine (rtick_any _ _ _ ha hc).mono ?_
  rintro e w' ⟨rfl, rfl⟩
  go_wp2_with fail
  refine (num_nil _).mono ?_
  rintro e w1 ⟨rfl, hb1⟩
  go_wp2_with fail
  refine (num_nil _).mono ?_
  rintro e w2 ⟨rfl, hb2⟩
  go_wp2_with fail
  refine (over_any _ _ _).mono ?_
  rintro e w' ⟨rfl, rfl⟩
  go_wp2_with fail
  refine (rover_any _ _ _).mono ?_
  rintro e w' ⟨rfl, rfl⟩
  go_wp2_with fail
  refine (left_is (x := (most - now)) _ ha hb Hl.out).mono ?_
  rintro e w' ⟨rfl, rfl⟩
  go_wp2_with fail
  refine (resume_is (x := most) _ Hx.out).mono ?_
  rintro e w' ⟨rfl, rfl⟩
  go_wp2_with fail
  refine (sure_any _ ((hH.later hb1).later hb2)).mono ?_
  rintro e w3 ⟨rfl, hb3⟩
  go_wp2_with fail
  go_ret
  exact ⟨rfl, hb1.trans ((hb2.mono hb1.size).trans (hb3.mono (Nat.le_trans hb1.size hb2.size)))⟩

set_option maxRecDepth 100000 in
set_option maxHeartbeats 1000000 in
theorem exact_v_s (now ttl most : Int) (w : World) (hH : Handle w) (ha : U64 now) (hb : U64 most) (hc : U64 ttl) (hz : (ttl == 0) = false) (ho : tickI now ttl ≠ 18446744073709551615) (hm : (most == 18446744073709551615) = false) (hn : ¬ now < most) :
    Calls Tryd.prog 3 #[.int .u64 now, .int .u64 ttl, .int .u64 most] w fun e w' => e = .returned (.bool true) ∧ Below w.heap.size w w' := by
  have hl0 : leftI now most = 0 := by have h2 : most ≠ 18446744073709551615 := beq_eq_false_iff_ne.1 hm; have h1 : overB now most = true := (by unfold overB; rw [decide_eq_true_iff]; omega); unfold leftI; rw [h1, if_pos rfl]
  have Hl : Hid _ := hl0
  clear hl0
  have Hx : Hid (maxI now most = now) := if_neg hn
  have Ho : Hid _ := ho
  clear ho
  have hn2 : most ≤ now := by omega
  go_enter Tryd.func3, Tryd.ntmps3
  go_wp2_with fail
  refine (until_v _ _ _ ha hc hz Ho.out).mono ?_
  rintro e w' ⟨rfl, rfl⟩
  go_wp2_with fail
  refine (runtil_v _ _ _ ha hc hz Ho.out).mono ?_
  rintro e w' ⟨rfl, rfl⟩
  go_wp2_with fail
  refine (renew_v _ _ _ _ ha hc hz Ho.out).mono ?_
  rintro e w' ⟨rfl, rfl⟩
  go_wp2_with fail
  refine (rrenew_v _ _ _ _ ha hc hz Ho.out).mono ?_
  rintro e w' ⟨rfl, rfl⟩
  go_wp2_with fail
  refine (tick_any _ _ _ ha hc).mono ?_
  rintro e w' ⟨rfl, rfl⟩
  go_wp2_with fail
  refine (rtick_any _ _ _ ha hc).mono ?_
  rintro e w' ⟨rfl, rfl⟩
  go_wp2_with fail
  refine (num_nil _).mono ?_
  rintro e w1 ⟨rfl, hb1⟩
  go_wp2_with fail
  refine (num_nil _).mono ?_
  rintro e w2 ⟨rfl, hb2⟩
  go_wp2_with fail
  refine (over_any _ _ _).mono ?_
  rintro e w' ⟨rfl, rfl⟩
  go_wp2_with fail
  refine (rover_any _ _ _).mono ?_
  rintro e w' ⟨rfl, rfl⟩
  go_wp2_with fail
  refine (left_is (x := 0) _ ha hb Hl.out).mono ?_
  rintro e w' ⟨rfl, rfl⟩
  go_wp2_with fail
  refine (resume_is (x := now) _ Hx.out).mono ?_
  rintro e w' ⟨rfl, rfl⟩
  go_wp2_with fail
  refine (sure_any _ ((hH.later hb1).later hb2)).mono ?_
  rintro e w3 ⟨rfl, hb3⟩
  go_wp2_with fail
  go_ret
  exact ⟨rfl, hb1.trans ((hb2.mono hb1.size).trans (hb3.mono (Nat.le_trans hb1.size hb2.size)))⟩

theorem exact_any (now ttl most : Int) (w : World) (hH : Handle w) (ha : U64 now) (hc : U64 ttl) (hb : U64 most) :
    Calls Tryd.prog 3 #[.int .u64 now, .int .u64 ttl, .int .u64 most] w fun e w' => e = .returned (.bool true) ∧ Below w.heap.size w w' := by
  by_cases hz0 : ttl = 0
  · subst hz0
    by_cases hm0 : most = 18446744073709551615
    · subst hm0
      by_cases hn : now < 18446744073709551615
      · exact exact_z_n1 now w hH ha hn
      · obtain rfl : now = 18446744073709551615 := by unfold U64 at ha; omega
        exact exact_z_n2 w hH
    · have hm : (most == 18446744073709551615) = false := beq_eq_false_iff_ne.2 hm0
      by_cases hn : now < most
      · exact exact_z_l now most w hH ha hb hm hn
      · exact exact_z_s now most w hH ha hb hm hn
  · have hz : (ttl == 0) = false := beq_eq_false_iff_ne.2 hz0
    by_cases ho : tickI now ttl = 18446744073709551615
    · by_cases hm0 : most = 18446744073709551615
      · subst hm0
        by_cases hn : now < 18446744073709551615
        · exact exact_e_n1 now ttl w hH ha hc hz ho hn
        · obtain rfl : now = 18446744073709551615 := by unfold U64 at ha; omega
          exact exact_e_n2 ttl w hH hc hz ho
      · have hm : (most == 18446744073709551615) = false := beq_eq_false_iff_ne.2 hm0
        by_cases hn : now < most
        · exact exact_e_l now ttl most w hH ha hb hc hz ho hm hn
        · exact exact_e_s now ttl most w hH ha hb hc hz ho hm hn
    · by_cases hm0 : most = 18446744073709551615
      · subst hm0
        have hn : now < 18446744073709551615 := by
          have h2 : U64 ttl := hc
          have h3 : U64 now := ha
          unfold U64 at h2 h3; unfold tickI at ho
          split at ho <;> omega
        exact exact_v_n1 now ttl w hH ha hc hz ho hn
      · have hm : (most == 18446744073709551615) = false := beq_eq_false_iff_ne.2 hm0
        by_cases hn : now < most
        · exact exact_v_l now ttl most w hH ha hb hc hz ho hm hn
        · exact exact_v_s now ttl most w hH ha hb hc hz ho hm hn

end Go.Proofs.YtnkbnlmbjbdmmaaDoor
