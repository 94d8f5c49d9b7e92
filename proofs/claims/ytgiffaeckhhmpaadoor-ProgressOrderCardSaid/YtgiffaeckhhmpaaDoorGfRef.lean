/- Contracts of the document's own functions of layer 1: bits, powers, sums. -/
import Derived.Test.YtgiffaeckhhmpaaDoorGfRefMath
import Derived.Test.YtgiffaeckhhmpaaDoorGfA
namespace Go.Proofs.YtgiffaeckhhmpaaDoor
set_option linter.unusedVariables false
set_option linter.unusedSimpArgs false
open Go.RowKit

theorem pow2_pos (n : Nat) : 0 < 2 ^ n := Nat.pow_pos (by decide)
theorem testBit_half (n p : Nat) : n.testBit p = decide (n / 2 ^ p % 2 = 1) := Nat.testBit_eq_decide_div_mod_eq

set_option maxHeartbeats 400000 in
theorem bit_any (n p : Nat) (t : Bool) (w : World) (hn : n < 1152921504606846976) (hp : p < 64) (ht : n.testBit p = t) :
    Calls Tryd.prog 62 #[.int .i64 n, .int .i64 p] w fun e w' => e = .returned (.bool t) ∧ w = w' := by
  rw [testBit_half] at ht
  have Ht : Hid _ := ht
  clear ht
  go_enter Tryd.func62, Tryd.ntmps62
  go_wp2_with fail
  go_loop [0, 5] (fun x i => ∃ k : Nat, k ≤ p ∧ i = .int .i64 k ∧ x = .int .i64 ((n / 2 ^ k : Nat) : Int)) (fun _ i => p - (intOf i).toNat)
  case atStart => exact ⟨0, by omega, rfl, by rw [Nat.pow_zero, Nat.div_one]⟩
  case round =>
    obtain ⟨k, hk, rfl, rfl⟩ := hrel
    have hb : n / 2 ^ k ≤ n := Nat.div_le_self _ _
    have hs : n / 2 ^ (k + 1) = n / 2 ^ k / 2 := by rw [Nat.pow_succ, Nat.div_div_eq_div_mul]
    by_cases hlt : k < p
    · clear Ht
      obtain ⟨q, hq⟩ : ∃ q, n / 2 ^ k = q := ⟨_, rfl⟩
      rw [hq] at hb hs ⊢
      have Hs : Hid _ := hs
      clear hs hq
      go_wp2_with fail
      go_round
      case rel => exact ⟨k + 1, by omega, by go_num, by rw [Hs.out]; go_num⟩
      case measure => simp [intOf]; omega
    · obtain rfl : p = k := by omega
      have ht := Ht.out
      clear Ht hs
      obtain ⟨q, hq⟩ : ∃ q, n / 2 ^ p = q := ⟨_, rfl⟩
      rw [hq] at hb ht ⊢
      clear hq
      rcases t with _ | _
      · have h1 : ¬ q % 2 = 1 := of_decide_eq_false ht
        have h2 : (((q : Int) % 2) == 1) = false := by rw [beq_eq_false_iff_ne]; omega
        clear ht h1
        go_wp2_with fail
        go_ret
        exact ⟨rfl, rfl⟩
      · have h1 : q % 2 = 1 := of_decide_eq_true ht
        have h2 : (((q : Int) % 2) == 1) = true := by rw [beq_iff_eq]; omega
        clear ht h1
        go_wp2_with fail
        go_ret
        exact ⟨rfl, rfl⟩

set_option maxHeartbeats 400000 in
theorem power_any (n x : Nat) (w : World) (hn : n < 62) (hx : 2 ^ n = x) :
    Calls Tryd.prog 63 #[.int .i64 n] w fun e w' => e = .returned (.int .i64 (x : Int)) ∧ w = w' := by
  have Hx : Hid _ := hx
  clear hx
  go_enter Tryd.func63, Tryd.ntmps63
  go_wp2_with fail
  go_loop [3, 4] (fun v i => ∃ k : Nat, k ≤ n ∧ i = .int .i64 k ∧ v = .int .i64 ((2 ^ k : Nat) : Int)) (fun _ i => n - (intOf i).toNat)
  case atStart => exact ⟨0, by omega, rfl, rfl⟩
  case round =>
    obtain ⟨k, hk, rfl, rfl⟩ := hrel
    have hs : 2 ^ (k + 1) = 2 * 2 ^ k := by rw [Nat.pow_succ, Nat.mul_comm]
    by_cases hlt : k < n
    · have hb2 : 2 ^ k ≤ 2 ^ 61 := Nat.pow_le_pow_right (by decide) (by omega)
      rw [show (2 : Nat) ^ 61 = 2305843009213693952 from by decide] at hb2
      obtain ⟨q, hq⟩ : ∃ q, 2 ^ k = q := ⟨_, rfl⟩
      rw [hq] at hb2 hs ⊢
      have Hs : Hid _ := hs
      clear hs hq
      go_wp2_with fail
      go_round
      case rel => exact ⟨k + 1, by omega, by go_num, by rw [Hs.out]; go_num⟩
      case measure => simp [intOf]; omega
    · obtain rfl : n = k := by omega
      clear hs
      rw [Hx.out]
      go_wp2_with fail
      go_ret
      exact ⟨rfl, rfl⟩

theorem mod_step (x k : Nat) : x % 2 ^ (k + 1) = x % 2 ^ k + (if x.testBit k then 2 ^ k else 0) := by
  rw [Nat.mod_pow_succ, testBit_half]
  by_cases h : x / 2 ^ k % 2 = 1
  · rw [if_pos (by simpa using h), h, Nat.mul_one]
  · rw [if_neg (by simpa using h), show x / 2 ^ k % 2 = 0 from by omega, Nat.mul_zero]

set_option maxRecDepth 100000 in
set_option maxHeartbeats 800000 in
theorem plus_any (a b x : Nat) (w : World) (ha : a < 65536) (hb : b < 65536) (hx : a ^^^ b = x) :
    Calls Tryd.prog 57 #[.int .i64 a, .int .i64 b] w fun e w' => e = .returned (.int .i64 (x : Int)) ∧ w = w' := by
  have hxb : x < 65536 := hx ▸ Nat.xor_lt_two_pow (n := 16) ha hb
  have hfin : x % 2 ^ 16 = x := Nat.mod_eq_of_lt hxb
  have hb0 : ∀ k, x.testBit k = (a.testBit k ^^ b.testBit k) := fun k => by rw [← hx, Nat.testBit_xor]
  have Hf : Hid _ := hfin
  have Hb0 : Hid _ := hb0
  clear hfin hx hb0
  go_enter Tryd.func57, Tryd.ntmps57
  go_wp2_with fail
  go_loop [5, 6] (fun v i => ∃ k : Nat, k ≤ 16 ∧ i = .int .i64 k ∧ v = .int .i64 ((x % 2 ^ k : Nat) : Int)) (fun _ i => 16 - (intOf i).toNat)
  case atStart => exact ⟨0, by omega, rfl, by rw [Nat.pow_zero, Nat.mod_one]; rfl⟩
  case round =>
    obtain ⟨k, hk, rfl, rfl⟩ := hrel
    by_cases hlt : k < 16
    · have hm := mod_step x k
      rw [Hb0.out] at hm
      have hb2 : 2 ^ k ≤ 2 ^ 15 := Nat.pow_le_pow_right (by decide) (by omega)
      rw [show (2 : Nat) ^ 15 = 32768 from by decide] at hb2
      have hq : x % 2 ^ k ≤ 65535 := by have := Nat.mod_le x (2 ^ k); omega
      obtain ⟨q, hqq⟩ : ∃ q, x % 2 ^ k = q := ⟨_, rfl⟩
      obtain ⟨pw, hpp⟩ : ∃ pw, 2 ^ k = pw := ⟨_, rfl⟩
      rw [hqq] at hm hq ⊢
      rw [hpp] at hm hb2
      have Hp : Hid _ := hpp
      clear hqq hpp Hb0 Hf
      rcases ht : a.testBit k with _ | _ <;> rcases hu : b.testBit k with _ | _ <;> rw [ht, hu] at hm
      · have Hm : x % 2 ^ (k + 1) = q := by simpa using hm
        have Hm : Hid _ := Hm
        have Ht : Hid _ := ht
        have Hu : Hid _ := hu
        clear hm ht hu
        go_wp2_with fail
        refine (bit_any a k false _ (by omega) (by omega) Ht.out).mono ?_
        rintro e w' ⟨rfl, rfl⟩
        go_wp2_with fail
        refine (bit_any b k false _ (by omega) (by omega) Hu.out).mono ?_
        rintro e w' ⟨rfl, rfl⟩
        go_wp2_with fail
        go_round
        case rel => exact ⟨k + 1, by omega, by go_num, by rw [Hm.out]⟩
        case measure => simp [intOf]; omega
      · have Hm : x % 2 ^ (k + 1) = q + pw := by simpa using hm
        have Hm : Hid _ := Hm
        have Ht : Hid _ := ht
        have Hu : Hid _ := hu
        clear hm ht hu
        go_wp2_with fail
        refine (bit_any a k false _ (by omega) (by omega) Ht.out).mono ?_
        rintro e w' ⟨rfl, rfl⟩
        go_wp2_with fail
        refine (bit_any b k true _ (by omega) (by omega) Hu.out).mono ?_
        rintro e w' ⟨rfl, rfl⟩
        go_wp2_with fail
        refine (power_any k pw _ (by omega) Hp.out).mono ?_
        rintro e w' ⟨rfl, rfl⟩
        go_wp2_with fail
        go_round
        case rel => exact ⟨k + 1, by omega, by go_num, by rw [Hm.out]; go_num⟩
        case measure => simp [intOf]; omega
      · have Hm : x % 2 ^ (k + 1) = q + pw := by simpa using hm
        have Hm : Hid _ := Hm
        have Ht : Hid _ := ht
        have Hu : Hid _ := hu
        clear hm ht hu
        go_wp2_with fail
        refine (bit_any a k true _ (by omega) (by omega) Ht.out).mono ?_
        rintro e w' ⟨rfl, rfl⟩
        go_wp2_with fail
        refine (bit_any b k false _ (by omega) (by omega) Hu.out).mono ?_
        rintro e w' ⟨rfl, rfl⟩
        go_wp2_with fail
        refine (power_any k pw _ (by omega) Hp.out).mono ?_
        rintro e w' ⟨rfl, rfl⟩
        go_wp2_with fail
        go_round
        case rel => exact ⟨k + 1, by omega, by go_num, by rw [Hm.out]; go_num⟩
        case measure => simp [intOf]; omega
      · have Hm : x % 2 ^ (k + 1) = q := by simpa using hm
        have Hm : Hid _ := Hm
        have Ht : Hid _ := ht
        have Hu : Hid _ := hu
        clear hm ht hu
        go_wp2_with fail
        refine (bit_any a k true _ (by omega) (by omega) Ht.out).mono ?_
        rintro e w' ⟨rfl, rfl⟩
        go_wp2_with fail
        refine (bit_any b k true _ (by omega) (by omega) Hu.out).mono ?_
        rintro e w' ⟨rfl, rfl⟩
        go_wp2_with fail
        go_round
        case rel => exact ⟨k + 1, by omega, by go_num, by rw [Hm.out]⟩
        case measure => simp [intOf]; omega
    · obtain rfl : k = 16 := by omega
      rw [Hf.out]
      go_wp2_with fail
      go_ret
      exact ⟨rfl, rfl⟩

end Go.Proofs.YtgiffaeckhhmpaaDoor
