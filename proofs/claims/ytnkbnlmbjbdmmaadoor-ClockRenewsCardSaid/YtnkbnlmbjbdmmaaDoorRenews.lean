/- The walk of ClockRenews, case by case. -/
import Derived.Test.YtnkbnlmbjbdmmaaDoorLaws
namespace Go.Proofs.YtnkbnlmbjbdmmaaDoor
open Go.RowKit

set_option maxHeartbeats 1000000 in
theorem renews_z (now most : Int) (w : World) (hH : Handle w) :
    Calls Tryd.prog 5 #[.int .u64 now, .int .u64 0, .int .u64 most] w fun e w' => e = .returned (.bool true) ∧ Below w.heap.size w w' := by
  go_enter Tryd.func5, Tryd.ntmps5
  go_wp2_with fail
  refine (renew_z _ _ _).mono ?_
  rintro e w' ⟨rfl, rfl⟩
  go_wp2_with fail
  refine (num_err 1 _ hH).mono ?_
  rintro e w1 ⟨rfl, hb1⟩
  go_wp2_with fail
  refine (sure_any _ (hH.later hb1)).mono ?_
  rintro e w3 ⟨rfl, hb3⟩
  go_wp2_with fail
  go_ret
  exact ⟨rfl, hb1.trans (hb3.mono hb1.size)⟩

set_option maxHeartbeats 1000000 in
theorem renews_e (now ttl most : Int) (w : World) (hH : Handle w) (ha : U64 now) (hc : U64 ttl) (hz : (ttl == 0) = false) (ho : tickI now ttl = 18446744073709551615) (hge : 18446744073709551615 - now ≤ ttl) :
    Calls Tryd.prog 5 #[.int .u64 now, .int .u64 ttl, .int .u64 most] w fun e w' => e = .returned (.bool true) ∧ Below w.heap.size w w' := by
  have Ho : Hid _ := ho
  clear ho
  obtain ⟨a0, a1⟩ := id ha
  go_enter Tryd.func5, Tryd.ntmps5
  go_wp2_with fail
  refine (renew_e _ _ _ _ ha hc hz Ho.out).mono ?_
  rintro e w' ⟨rfl, rfl⟩
  go_wp2_with fail
  refine (num_err 19 _ hH).mono ?_
  rintro e w1 ⟨rfl, hb1⟩
  go_wp2_with fail
  refine (sure_any _ (hH.later hb1)).mono ?_
  rintro e w3 ⟨rfl, hb3⟩
  go_wp2_with fail
  go_ret
  exact ⟨rfl, hb1.trans (hb3.mono hb1.size)⟩

set_option maxRecDepth 100000 in
set_option maxHeartbeats 1000000 in
theorem renews_a (now ttl most : Int) (w : World) (hH : Handle w) (ha : U64 now) (hb : U64 most) (hc : U64 ttl) (hz : (ttl == 0) = false) (hlt : now + ttl < 18446744073709551615) (hm : most < now + ttl) (hm2 : most ≤ now) :
    Calls Tryd.prog 5 #[.int .u64 now, .int .u64 ttl, .int .u64 most] w fun e w' => e = .returned (.bool true) ∧ Below w.heap.size w w' := by
  obtain ⟨a0, a1⟩ := id ha
  obtain ⟨b0, b1⟩ := id hb
  obtain ⟨c0, c1⟩ := id hc
  have ht0 : tickI now ttl = now + ttl := tickI_in (by omega)
  have ho0 : tickI now ttl ≠ 18446744073709551615 := by rw [ht0]; omega
  have hn0 : minI (tickI now ttl) most = most := by rw [ht0]; unfold minI; first | (rw [if_pos (by omega)]) | (rw [if_neg (by omega)])
  have hov0 : overB most most = true := by unfold overB; rw [decide_eq_true_iff]; omega
  have hl0 : leftI now most = 0 := by
    have h1 : overB now most = true := by unfold overB; rw [decide_eq_true_iff]; omega
    unfold leftI; rw [h1, if_pos rfl]
  have Ht : Hid _ := ht0
  have Ho : Hid _ := ho0
  have Hn : Hid _ := hn0
  have Hov : Hid _ := hov0
  have Hl : Hid _ := hl0
  have hne : (most == 18446744073709551615) = false := by rw [beq_eq_false_iff_ne]; omega
  have hne2 : (most != 18446744073709551615) = true := by rw [bne_iff_ne]; omega
  have hun : U64 (most) := by unfold U64; omega
  clear ht0 ho0 hn0 hov0 hl0
  go_enter Tryd.func5, Tryd.ntmps5
  go_wp2_with fail
  refine (renew_v _ _ _ _ ha hc hz Ho.out).mono ?_
  rintro e w' ⟨rfl, rfl⟩
  rw [Hn.out]
  go_wp2_with fail
  refine (over_is _ Hov.out).mono ?_
  rintro e w' ⟨rfl, rfl⟩
  go_wp2_with fail
  refine (left_is _ ha hun Hl.out).mono ?_
  rintro e w' ⟨rfl, rfl⟩
  go_wp2_with fail
  refine (tick_is _ ha hc Ht.out).mono ?_
  rintro e w' ⟨rfl, rfl⟩
  go_wp2_with fail
  refine (sure_any _ hH).mono ?_
  rintro e w3 ⟨rfl, hb3⟩
  go_wp2_with fail
  go_ret
  exact ⟨rfl, hb3⟩

set_option maxRecDepth 100000 in
set_option maxHeartbeats 1000000 in
theorem renews_b (now ttl most : Int) (w : World) (hH : Handle w) (ha : U64 now) (hb : U64 most) (hc : U64 ttl) (hz : (ttl == 0) = false) (hlt : now + ttl < 18446744073709551615) (hm : most < now + ttl) (hm2 : now < most) :
    Calls Tryd.prog 5 #[.int .u64 now, .int .u64 ttl, .int .u64 most] w fun e w' => e = .returned (.bool true) ∧ Below w.heap.size w w' := by
  obtain ⟨a0, a1⟩ := id ha
  obtain ⟨b0, b1⟩ := id hb
  obtain ⟨c0, c1⟩ := id hc
  have ht0 : tickI now ttl = now + ttl := tickI_in (by omega)
  have ho0 : tickI now ttl ≠ 18446744073709551615 := by rw [ht0]; omega
  have hn0 : minI (tickI now ttl) most = most := by rw [ht0]; unfold minI; first | (rw [if_pos (by omega)]) | (rw [if_neg (by omega)])
  have hov0 : overB most most = true := by unfold overB; rw [decide_eq_true_iff]; omega
  have hl0 : leftI now most = most - now := by
    have h1 : overB now most = false := by unfold overB; rw [decide_eq_false_iff_not]; omega
    unfold leftI; rw [h1, if_neg (by simp), if_neg (by omega)]
  have Ht : Hid _ := ht0
  have Ho : Hid _ := ho0
  have Hn : Hid _ := hn0
  have Hov : Hid _ := hov0
  have Hl : Hid _ := hl0
  have hne : (most == 18446744073709551615) = false := by rw [beq_eq_false_iff_ne]; omega
  have hne2 : (most != 18446744073709551615) = true := by rw [bne_iff_ne]; omega
  have hun : U64 (most) := by unfold U64; omega
  clear ht0 ho0 hn0 hov0 hl0
  go_enter Tryd.func5, Tryd.ntmps5
  go_wp2_with fail
  refine (renew_v _ _ _ _ ha hc hz Ho.out).mono ?_
  rintro e w' ⟨rfl, rfl⟩
  rw [Hn.out]
  go_wp2_with fail
  refine (over_is _ Hov.out).mono ?_
  rintro e w' ⟨rfl, rfl⟩
  go_wp2_with fail
  refine (left_is _ ha hun Hl.out).mono ?_
  rintro e w' ⟨rfl, rfl⟩
  go_wp2_with fail
  refine (tick_is _ ha hc Ht.out).mono ?_
  rintro e w' ⟨rfl, rfl⟩
  go_wp2_with fail
  refine (sure_any _ hH).mono ?_
  rintro e w3 ⟨rfl, hb3⟩
  go_wp2_with fail
  go_ret
  exact ⟨rfl, hb3⟩

set_option maxRecDepth 100000 in
set_option maxHeartbeats 1000000 in
theorem renews_c (now ttl most : Int) (w : World) (hH : Handle w) (ha : U64 now) (hb : U64 most) (hc : U64 ttl) (hz : (ttl == 0) = false) (hlt : now + ttl < 18446744073709551615) (hm : now + ttl < most) :
    Calls Tryd.prog 5 #[.int .u64 now, .int .u64 ttl, .int .u64 most] w fun e w' => e = .returned (.bool true) ∧ Below w.heap.size w w' := by
  obtain ⟨a0, a1⟩ := id ha
  obtain ⟨b0, b1⟩ := id hb
  obtain ⟨c0, c1⟩ := id hc
  have ht0 : tickI now ttl = now + ttl := tickI_in (by omega)
  have ho0 : tickI now ttl ≠ 18446744073709551615 := by rw [ht0]; omega
  have hn0 : minI (tickI now ttl) most = (now + ttl) := by rw [ht0]; unfold minI; first | (rw [if_pos (by omega)]) | (rw [if_neg (by omega)])
  have hov0 : overB (now + ttl) (now + ttl) = true := by unfold overB; rw [decide_eq_true_iff]; omega
  have hl0 : leftI now (now + ttl) = ttl := by
    have hpos : ttl ≠ 0 := beq_eq_false_iff_ne.1 hz
    have h1 : overB now (now + ttl) = false := by unfold overB; rw [decide_eq_false_iff_not]; omega
    unfold leftI; rw [h1, if_neg (by simp), if_neg (by omega)]
    omega
  have Ht : Hid _ := ht0
  have Ho : Hid _ := ho0
  have Hn : Hid _ := hn0
  have Hov : Hid _ := hov0
  have Hl : Hid _ := hl0
  have hne : ((now + ttl) == 18446744073709551615) = false := by rw [beq_eq_false_iff_ne]; omega
  have hne2 : ((now + ttl) != 18446744073709551615) = true := by rw [bne_iff_ne]; omega
  have hun : U64 ((now + ttl)) := by unfold U64; omega
  clear ht0 ho0 hn0 hov0 hl0
  go_enter Tryd.func5, Tryd.ntmps5
  go_wp2_with fail
  refine (renew_v _ _ _ _ ha hc hz Ho.out).mono ?_
  rintro e w' ⟨rfl, rfl⟩
  rw [Hn.out]
  go_wp2_with fail
  refine (over_is _ Hov.out).mono ?_
  rintro e w' ⟨rfl, rfl⟩
  go_wp2_with fail
  refine (left_is _ ha hun Hl.out).mono ?_
  rintro e w' ⟨rfl, rfl⟩
  go_wp2_with fail
  refine (tick_is _ ha hc Ht.out).mono ?_
  rintro e w' ⟨rfl, rfl⟩
  go_wp2_with fail
  refine (sure_any _ hH).mono ?_
  rintro e w3 ⟨rfl, hb3⟩
  go_wp2_with fail
  go_ret
  exact ⟨rfl, hb3⟩

set_option maxRecDepth 100000 in
set_option maxHeartbeats 1000000 in
theorem renews_d (now ttl : Int) (w : World) (hH : Handle w) (ha : U64 now) (hc : U64 ttl) (hz : (ttl == 0) = false) (hlt : now + ttl < 18446744073709551615) (hpz : 0 < ttl) :
    Calls Tryd.prog 5 #[.int .u64 now, .int .u64 ttl, .int .u64 (now + ttl)] w fun e w' => e = .returned (.bool true) ∧ Below w.heap.size w w' := by
  obtain ⟨a0, a1⟩ := id ha
  obtain ⟨c0, c1⟩ := id hc
  have ht0 : tickI now ttl = now + ttl := tickI_in (by omega)
  have ho0 : tickI now ttl ≠ 18446744073709551615 := by rw [ht0]; omega
  have hn0 : minI (tickI now ttl) (now + ttl) = (now + ttl) := by rw [ht0]; unfold minI; first | (rw [if_pos (by omega)]) | (rw [if_neg (by omega)])
  have hov0 : overB (now + ttl) (now + ttl) = true := by unfold overB; rw [decide_eq_true_iff]; omega
  have hl0 : leftI now (now + ttl) = ttl := by
    have h1 : overB now (now + ttl) = false := by unfold overB; rw [decide_eq_false_iff_not]; omega
    unfold leftI; rw [h1, if_neg (by simp), if_neg (by omega)]
    omega
  have Ht : Hid _ := ht0
  have Ho : Hid _ := ho0
  have Hn : Hid _ := hn0
  have Hov : Hid _ := hov0
  have Hl : Hid _ := hl0
  have hne : ((now + ttl) == 18446744073709551615) = false := by rw [beq_eq_false_iff_ne]; omega
  have hne2 : ((now + ttl) != 18446744073709551615) = true := by rw [bne_iff_ne]; omega
  have hun : U64 ((now + ttl)) := by unfold U64; omega
  clear ht0 ho0 hn0 hov0 hl0
  go_enter Tryd.func5, Tryd.ntmps5
  go_wp2_with fail
  refine (renew_v _ _ _ _ ha hc hz Ho.out).mono ?_
  rintro e w' ⟨rfl, rfl⟩
  rw [Hn.out]
  go_wp2_with fail
  refine (over_is _ Hov.out).mono ?_
  rintro e w' ⟨rfl, rfl⟩
  go_wp2_with fail
  refine (left_is _ ha hun Hl.out).mono ?_
  rintro e w' ⟨rfl, rfl⟩
  go_wp2_with fail
  refine (tick_is _ ha hc Ht.out).mono ?_
  rintro e w' ⟨rfl, rfl⟩
  go_wp2_with fail
  refine (sure_any _ hH).mono ?_
  rintro e w3 ⟨rfl, hb3⟩
  go_wp2_with fail
  go_ret
  exact ⟨rfl, hb3⟩

theorem renews_any (now ttl most : Int) (w : World) (hH : Handle w) (ha : U64 now) (hc : U64 ttl) (hb : U64 most) :
    Calls Tryd.prog 5 #[.int .u64 now, .int .u64 ttl, .int .u64 most] w fun e w' => e = .returned (.bool true) ∧ Below w.heap.size w w' := by
  by_cases hz0 : ttl = 0
  · subst hz0; exact renews_z now most w hH
  · have hz : (ttl == 0) = false := beq_eq_false_iff_ne.2 hz0
    by_cases hlt : now + ttl < 18446744073709551615
    · by_cases hm : most < now + ttl
      · by_cases hm2 : most ≤ now
        · exact renews_a now ttl most w hH ha hb hc hz hlt hm hm2
        · exact renews_b now ttl most w hH ha hb hc hz hlt hm (by omega)
      · by_cases hm2 : now + ttl = most
        · subst hm2; exact renews_d now ttl w hH ha hc hz hlt (by unfold U64 at hc; omega)
        · exact renews_c now ttl most w hH ha hb hc hz hlt (by omega)
    · refine renews_e now ttl most w hH ha hc hz ?_ (by omega)
      unfold tickI; split <;> omega

end Go.Proofs.YtnkbnlmbjbdmmaaDoor
