/- The walk of ClockOnward. -/
import Derived.Test.YtnkbnlmbjbdmmaaDoorLaws
namespace Go.Proofs.YtnkbnlmbjbdmmaaDoor
open Go.RowKit

/-- n numbers lie behind an address, as a function tells them. -/
def Words (w : World) (oa : Option Addr) (n : Nat) (f : Nat → Int) : Prop :=
  ∀ k, k < n → U64 (f k) ∧ ∃ b off, oa = some ⟨b, off, none⟩ ∧ w.cell? ⟨b, off + k, none⟩ = some (.int .u64 (f k))

theorem until_e0 {start ttl : Int} (hz : ttl ≠ 0) (ha : U64 start) (hc : U64 ttl) (ho : tickI start ttl ≠ 18446744073709551615) : 0 < ttl ∧ tickI start ttl = start + ttl ∧ start + ttl < 18446744073709551615 := by
  unfold U64 at ha hc; unfold tickI at ho ⊢; split at ho <;> omega

/-- The next time of a round. -/
def nextI (i : Nat) (x y : Int) : Int := if i % 3 = 2 then maxI x y else tickI x y
theorem next_bd {i : Nat} {x y : Int} (hx : U64 x) (hy : U64 y) : U64 (nextI i x y) ∧ x ≤ nextI i x y := by
  unfold U64 at *; unfold nextI maxI tickI; split <;> split <;> omega

theorem over_iff {x start ttl : Int} (hlt : start + ttl < 18446744073709551615) : overB x (start + ttl) = decide (ttl ≤ x - start) := by
  unfold overB; rw [decide_eq_decide]; omega
theorem left_iff {x start ttl : Int} (hlt : start + ttl < 18446744073709551615) (ht : 0 < ttl) : (leftI x (start + ttl) == 0) = overB x (start + ttl) := by
  rcases h : overB x (start + ttl) with _ | _
  · unfold leftI; rw [h, if_neg (by simp), if_neg (by omega), beq_eq_false_iff_ne]
    unfold overB at h; rw [decide_eq_false_iff_not] at h; omega
  · unfold leftI; rw [h, if_pos rfl]; rfl

set_option maxHeartbeats 1000000 in
theorem onward_z (start : Int) (oa : Option Addr) (n c : Nat) (w : World) (hH : Handle w) :
    Calls Tryd.prog 4 #[.int .u64 start, .int .u64 0, .slice oa n c] w fun e w' => e = .returned (.bool true) ∧ Below w.heap.size w w' := by
  go_enter Tryd.func4, Tryd.ntmps4
  go_wp2_with fail
  refine (until_z _ _).mono ?_
  rintro e w' ⟨rfl, rfl⟩
  go_wp2_with fail
  refine (sure_any _ hH).mono ?_
  rintro e w3 ⟨rfl, hb3⟩
  go_wp2_with fail
  go_ret
  exact ⟨rfl, hb3⟩

set_option maxHeartbeats 1000000 in
theorem onward_e (start ttl : Int) (oa : Option Addr) (n c : Nat) (w : World) (hH : Handle w) (ha : U64 start) (hc : U64 ttl) (hz : (ttl == 0) = false) (ho : tickI start ttl = 18446744073709551615) :
    Calls Tryd.prog 4 #[.int .u64 start, .int .u64 ttl, .slice oa n c] w fun e w' => e = .returned (.bool true) ∧ Below w.heap.size w w' := by
  have Ho : Hid _ := ho
  clear ho
  go_enter Tryd.func4, Tryd.ntmps4
  go_wp2_with fail
  refine (until_e _ _ _ ha hc hz Ho.out).mono ?_
  rintro e w' ⟨rfl, rfl⟩
  go_wp2_with fail
  refine (sure_any _ hH).mono ?_
  rintro e w3 ⟨rfl, hb3⟩
  go_wp2_with fail
  go_ret
  exact ⟨rfl, hb3⟩

set_option maxRecDepth 100000 in
set_option maxHeartbeats 4000000 in
theorem onward_v (start ttl : Int) (oa : Option Addr) (n c : Nat) (f : Nat → Int) (w : World) (hH : Handle w) (ha : U64 start) (hc : U64 ttl) (hz : (ttl == 0) = false) (ho : tickI start ttl ≠ 18446744073709551615) (hf : Words w oa n f) :
    Calls Tryd.prog 4 #[.int .u64 start, .int .u64 ttl, .slice oa n c] w fun e w' => e = .returned (.bool true) ∧ Below w.heap.size w w' := by
  obtain ⟨ht, hs0, hlt⟩ := until_e0 (beq_eq_false_iff_ne.1 hz) ha hc ho
  have Ho : Hid _ := ho
  have Hs : Hid _ := hs0
  clear ho hs0
  have hun : U64 (start + ttl) := by unfold U64 at *; omega
  have hb0 : overB start (start + ttl) = false := by unfold overB; rw [decide_eq_false_iff_not]; omega
  have Hb0 : Hid _ := hb0
  clear hb0
  obtain ⟨a0, a1⟩ := id ha
  go_enter Tryd.func4, Tryd.ntmps4
  go_wp2_with fail
  refine (until_v _ _ _ ha hc hz Ho.out).mono ?_
  rintro e w' ⟨rfl, rfl⟩
  rw [Hs.out]
  go_wp2_with fail
  go_loop [7, 11, 12] (fun x b i => ∃ k : Nat, k ≤ n ∧ k ≤ 60 ∧ i = .int .i64 k ∧ ∃ y : Int, x = .int .u64 y ∧ U64 y ∧ start ≤ y ∧ b = .bool (overB y (start + ttl))) (fun _ _ i => 60 - (intOf i).toNat)
  case atStart => exact ⟨0, by omega, by omega, rfl, start, rfl, ha, by omega, by rw [Hb0.out]⟩
  case round =>
    obtain ⟨k, hk, hk6, rfl, y, rfl, hy, hsy, rfl⟩ := hrel
    generalize hov : overB y (start + ttl) = b0 at *
    by_cases hlt2 : k < n ∧ k < 60
    · obtain ⟨hkn, hk60⟩ := hlt2
      obtain ⟨hfk, b, off, rfl, hcell⟩ := hf k hkn
      obtain ⟨nb, nge⟩ := next_bd (i := k) hy hfk
      by_cases h3 : k % 3 = 2
      · have h3' : (((k : Int) % 3) == 2) = true := by rw [beq_iff_eq]; omega
        have hnx : nextI k y (f k) = maxI y (f k) := by unfold nextI; rw [if_pos h3]
        rw [hnx] at nb nge
        clear hnx
        have Hov : Hid _ := hov
        clear hov
        rcases b0 with _ | _
        · go_wp2_with fail
          refine (tick_any _ _ _ hy hfk).mono ?_
          rintro e w' ⟨rfl, rfl⟩
          go_wp2_with fail
          refine (resume_any _ _ _).mono ?_
          rintro e w' ⟨rfl, rfl⟩
          generalize hq : maxI y (f k) = q at *
          clear hq
          obtain ⟨q0, q1⟩ := id nb
          by_cases hdone : ttl ≤ q - start
          · have hq0 : overB q (start + ttl) = true := by unfold overB; rw [decide_eq_true_iff]; omega
            have hl0 : leftI q (start + ttl) = 0 := by unfold leftI; rw [hq0, if_pos rfl]
            have Hq : Hid _ := hq0
            have Hl : Hid _ := hl0
            clear hq0 hl0
            go_wp2_with fail
            refine (over_is _ Hq.out).mono ?_
            rintro e w' ⟨rfl, rfl⟩
            go_wp2_with fail
            refine (left_is _ nb hun Hl.out).mono ?_
            rintro e w' ⟨rfl, rfl⟩
            go_wp2_with fail
            go_round
            case rel => exact ⟨k + 1, by omega, by omega, by go_num, q, rfl, nb, by omega, by rw [Hq.out]⟩
            case measure => simp [intOf]; omega
          · have hq0 : overB q (start + ttl) = false := by unfold overB; rw [decide_eq_false_iff_not]; omega
            have hl0 : leftI q (start + ttl) = start + ttl - q := by unfold leftI; rw [hq0, if_neg (by simp), if_neg (by omega)]
            have Hq : Hid _ := hq0
            have Hl : Hid _ := hl0
            have hlz : (start + ttl - q == 0) = false := by rw [beq_eq_false_iff_ne]; omega
            clear hq0 hl0
            go_wp2_with fail
            refine (over_is _ Hq.out).mono ?_
            rintro e w' ⟨rfl, rfl⟩
            go_wp2_with fail
            refine (left_is _ nb hun Hl.out).mono ?_
            rintro e w' ⟨rfl, rfl⟩
            go_wp2_with fail
            go_round
            case rel => exact ⟨k + 1, by omega, by omega, by go_num, q, rfl, nb, by omega, by rw [Hq.out]⟩
            case measure => simp [intOf]; omega
        · have hyo : start + ttl ≤ y := by
            have := Hov.out; unfold overB at this; rw [decide_eq_true_iff] at this; exact this.1
          go_wp2_with fail
          refine (tick_any _ _ _ hy hfk).mono ?_
          rintro e w' ⟨rfl, rfl⟩
          go_wp2_with fail
          refine (resume_any _ _ _).mono ?_
          rintro e w' ⟨rfl, rfl⟩
          generalize hq : maxI y (f k) = q at *
          clear hq
          obtain ⟨q0, q1⟩ := id nb
          have hdone : ttl ≤ q - start := by omega
          have hq0 : overB q (start + ttl) = true := by unfold overB; rw [decide_eq_true_iff]; omega
          have hl0 : leftI q (start + ttl) = 0 := by unfold leftI; rw [hq0, if_pos rfl]
          have Hq : Hid _ := hq0
          have Hl : Hid _ := hl0
          clear hq0 hl0
          go_wp2_with fail
          refine (over_is _ Hq.out).mono ?_
          rintro e w' ⟨rfl, rfl⟩
          go_wp2_with fail
          refine (over_is _ Hq.out).mono ?_
          rintro e w' ⟨rfl, rfl⟩
          go_wp2_with fail
          refine (left_is _ nb hun Hl.out).mono ?_
          rintro e w' ⟨rfl, rfl⟩
          go_wp2_with fail
          go_round
          case rel => exact ⟨k + 1, by omega, by omega, by go_num, q, rfl, nb, by omega, by rw [Hq.out]⟩
          case measure => simp [intOf]; omega
      · have h3' : (((k : Int) % 3) == 2) = false := by rw [beq_eq_false_iff_ne]; omega
        have hnx : nextI k y (f k) = tickI y (f k) := by unfold nextI; rw [if_neg h3]
        rw [hnx] at nb nge
        clear hnx
        have Hov : Hid _ := hov
        clear hov
        rcases b0 with _ | _
        · go_wp2_with fail
          refine (tick_any _ _ _ hy hfk).mono ?_
          rintro e w' ⟨rfl, rfl⟩
          generalize hq : tickI y (f k) = q at *
          clear hq
          obtain ⟨q0, q1⟩ := id nb
          by_cases hdone : ttl ≤ q - start
          · have hq0 : overB q (start + ttl) = true := by unfold overB; rw [decide_eq_true_iff]; omega
            have hl0 : leftI q (start + ttl) = 0 := by unfold leftI; rw [hq0, if_pos rfl]
            have Hq : Hid _ := hq0
            have Hl : Hid _ := hl0
            clear hq0 hl0
            go_wp2_with fail
            refine (over_is _ Hq.out).mono ?_
            rintro e w' ⟨rfl, rfl⟩
            go_wp2_with fail
            refine (left_is _ nb hun Hl.out).mono ?_
            rintro e w' ⟨rfl, rfl⟩
            go_wp2_with fail
            go_round
            case rel => exact ⟨k + 1, by omega, by omega, by go_num, q, rfl, nb, by omega, by rw [Hq.out]⟩
            case measure => simp [intOf]; omega
          · have hq0 : overB q (start + ttl) = false := by unfold overB; rw [decide_eq_false_iff_not]; omega
            have hl0 : leftI q (start + ttl) = start + ttl - q := by unfold leftI; rw [hq0, if_neg (by simp), if_neg (by omega)]
            have Hq : Hid _ := hq0
            have Hl : Hid _ := hl0
            have hlz : (start + ttl - q == 0) = false := by rw [beq_eq_false_iff_ne]; omega
            clear hq0 hl0
            go_wp2_with fail
            refine (over_is _ Hq.out).mono ?_
            rintro e w' ⟨rfl, rfl⟩
            go_wp2_with fail
            refine (left_is _ nb hun Hl.out).mono ?_
            rintro e w' ⟨rfl, rfl⟩
            go_wp2_with fail
            go_round
            case rel => exact ⟨k + 1, by omega, by omega, by go_num, q, rfl, nb, by omega, by rw [Hq.out]⟩
            case measure => simp [intOf]; omega
        · have hyo : start + ttl ≤ y := by
            have := Hov.out; unfold overB at this; rw [decide_eq_true_iff] at this; exact this.1
          go_wp2_with fail
          refine (tick_any _ _ _ hy hfk).mono ?_
          rintro e w' ⟨rfl, rfl⟩
          generalize hq : tickI y (f k) = q at *
          clear hq
          obtain ⟨q0, q1⟩ := id nb
          have hdone : ttl ≤ q - start := by omega
          have hq0 : overB q (start + ttl) = true := by unfold overB; rw [decide_eq_true_iff]; omega
          have hl0 : leftI q (start + ttl) = 0 := by unfold leftI; rw [hq0, if_pos rfl]
          have Hq : Hid _ := hq0
          have Hl : Hid _ := hl0
          clear hq0 hl0
          go_wp2_with fail
          refine (over_is _ Hq.out).mono ?_
          rintro e w' ⟨rfl, rfl⟩
          go_wp2_with fail
          refine (over_is _ Hq.out).mono ?_
          rintro e w' ⟨rfl, rfl⟩
          go_wp2_with fail
          refine (left_is _ nb hun Hl.out).mono ?_
          rintro e w' ⟨rfl, rfl⟩
          go_wp2_with fail
          go_round
          case rel => exact ⟨k + 1, by omega, by omega, by go_num, q, rfl, nb, by omega, by rw [Hq.out]⟩
          case measure => simp [intOf]; omega
    · have Hov : Hid _ := hov
      clear hov
      by_cases hkn : k < n
      · have hk60 : k = 60 := by omega
        subst hk60
        go_wp2_with fail
        refine (sure_any _ hH).mono ?_
        rintro e w3 ⟨rfl, hb3⟩
        go_wp2_with fail
        go_ret
        exact ⟨rfl, hb3⟩
      · go_wp2_with fail
        refine (sure_any _ hH).mono ?_
        rintro e w3 ⟨rfl, hb3⟩
        go_wp2_with fail
        go_ret
        exact ⟨rfl, hb3⟩

theorem onward_any (start ttl : Int) (oa : Option Addr) (n c : Nat) (f : Nat → Int) (w : World) (hH : Handle w) (ha : U64 start) (hc : U64 ttl) (hf : Words w oa n f) :
    Calls Tryd.prog 4 #[.int .u64 start, .int .u64 ttl, .slice oa n c] w fun e w' => e = .returned (.bool true) ∧ Below w.heap.size w w' := by
  by_cases hz0 : ttl = 0
  · subst hz0; exact onward_z start oa n c w hH
  · have hz : (ttl == 0) = false := beq_eq_false_iff_ne.2 hz0
    by_cases ho : tickI start ttl = 18446744073709551615
    · exact onward_e start ttl oa n c w hH ha hc hz ho
    · exact onward_v start ttl oa n c f w hH ha hc hz ho hf

end Go.Proofs.YtnkbnlmbjbdmmaaDoor
