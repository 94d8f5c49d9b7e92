/- Contracts of the document's own functions of layer 1: products, inverses, powers, logarithms. -/
import Derived.Test.YtgiffaeckhhmpaaDoorGfRef
namespace Go.Proofs.YtgiffaeckhhmpaaDoor
set_option linter.unusedVariables false
set_option linter.unusedSimpArgs false
open Go.RowKit

theorem accK_lt (a b : Nat) (ha : a < 256) : ∀ k, k ≤ 8 → accK a b k < 32768
  | 0, _ => by show (0 : Nat) < 32768; decide
  | k + 1, hk => by
    have ih := accK_lt a b ha k (by omega)
    have hp : a * 2 ^ k < 32768 := by
      have h1 : 2 ^ k ≤ 2 ^ 7 := Nat.pow_le_pow_right (by decide) (by omega)
      have h2 : a * 2 ^ k ≤ 255 * 2 ^ 7 := Nat.mul_le_mul (by omega) h1
      have : (255 : Nat) * 2 ^ 7 = 32640 := by decide
      omega
    show (if b.testBit k then accK a b k ^^^ (a * 2 ^ k) else accK a b k) < 32768
    split
    · exact Nat.xor_lt_two_pow (n := 15) ih hp
    · exact ih
theorem redS_lt {i v : Nat} (hi : i ≤ 14) (hv : v < 32768) : redS i v < 32768 := by
  unfold redS
  split
  · have h1 : 2 ^ (i - 8) ≤ 2 ^ 6 := Nat.pow_le_pow_right (by decide) (by omega)
    have h2 : 283 * 2 ^ (i - 8) ≤ 283 * 2 ^ 6 := Nat.mul_le_mul (Nat.le_refl _) h1
    have : (283 : Nat) * 2 ^ 6 = 18112 := by decide
    exact Nat.xor_lt_two_pow (n := 15) hv (by show 283 * 2 ^ (i - 8) < 32768; omega)
  · exact hv
theorem redK_lt {v : Nat} (hv : v < 32768) : ∀ k, redK v k < 32768
  | 0 => hv
  | k + 1 => redS_lt (by omega) (redK_lt hv k)
theorem acc_hit {a b k v : Nat} (hv : accK a b k = v) (h : b.testBit k = true) : accK a b (k + 1) = v ^^^ (a * 2 ^ k) := by
  subst hv; show (if b.testBit k then accK a b k ^^^ (a * 2 ^ k) else accK a b k) = _; rw [if_pos h]
theorem acc_miss {a b k v : Nat} (hv : accK a b k = v) (h : b.testBit k = false) : accK a b (k + 1) = v := by
  subst hv; show (if b.testBit k then accK a b k ^^^ (a * 2 ^ k) else accK a b k) = _; rw [if_neg (by rw [h]; decide)]
theorem red_hit {V m v : Nat} (hm : m ≤ 14) (hv : redK V (14 - m) = v) (h : v.testBit m = true) : redK V (14 - m + 1) = v ^^^ (283 * 2 ^ (m - 8)) := by
  subst hv; show redS (14 - (14 - m)) (redK V (14 - m)) = _
  rw [show 14 - (14 - m) = m from by omega]; unfold redS; rw [if_pos h]
theorem red_miss {V m v : Nat} (hm : m ≤ 14) (hv : redK V (14 - m) = v) (h : v.testBit m = false) : redK V (14 - m + 1) = v := by
  subst hv; show redS (14 - (14 - m)) (redK V (14 - m)) = _
  rw [show 14 - (14 - m) = m from by omega]; unfold redS; rw [if_neg (by rw [h]; decide)]

set_option maxRecDepth 100000 in
set_option maxHeartbeats 1600000 in
theorem refmul_any (a b x : Nat) (w : World) (ha : a < 256) (hb : b < 256) (hx : refMul a b = x) (hx8 : x < 256) :
    Calls Tryd.prog 55 #[.int .u8 a, .int .u8 b] w fun e w' => e = .returned (.int .u8 (x : Int)) ∧ w = w' := by
  have Hx : Hid _ := hx
  clear hx
  go_enter Tryd.func55, Tryd.ntmps55
  go_wp2_with fail
  go_loop [5, 6] (fun v i => ∃ k : Nat, k ≤ 8 ∧ i = .int .i64 k ∧ v = .int .i64 ((accK a b k : Nat) : Int)) (fun _ i => 8 - (intOf i).toNat)
  case atStart => exact ⟨0, by omega, rfl, rfl⟩
  case round =>
    obtain ⟨k, hk, rfl, rfl⟩ := hrel
    by_cases hlt : k < 8
    · have hl := accK_lt a b ha k (by omega)
      have hb2 : 2 ^ k ≤ 2 ^ 7 := Nat.pow_le_pow_right (by decide) (by omega)
      rw [show (2 : Nat) ^ 7 = 128 from by decide] at hb2
      obtain ⟨v, hv⟩ : ∃ v, accK a b k = v := ⟨_, rfl⟩
      obtain ⟨pw, hpp⟩ : ∃ pw, 2 ^ k = pw := ⟨_, rfl⟩
      rcases ht : b.testBit k with _ | _
      · have hm := acc_miss hv ht
        rw [hv] at hl ⊢
        have Hm : Hid _ := hm
        have Ht : Hid _ := ht
        clear hm ht hv Hx hpp hb2
        go_wp2_with fail
        refine (bit_any b k false _ (by omega) (by omega) Ht.out).mono ?_
        rintro e w' ⟨rfl, rfl⟩
        go_wp2_with fail
        go_round
        case rel => exact ⟨k + 1, by omega, by go_num, by rw [Hm.out]⟩
        case measure => simp [intOf]; omega
      · have hm := acc_hit hv ht
        rw [hpp] at hm hb2
        have hml : a * pw ≤ 255 * 128 := Nat.mul_le_mul (by omega) hb2
        obtain ⟨y, hy⟩ : ∃ y, a * pw = y := ⟨_, rfl⟩
        have hyi : (a : Int) * (pw : Int) = (y : Int) := by rw [← hy]; exact (Int.natCast_mul _ _).symm
        rw [hy] at hm hml
        rw [hv] at hl ⊢
        have Hm : Hid _ := hm
        have Ht : Hid _ := ht
        have Hp : Hid _ := hpp
        clear hm ht hv Hx hpp hy
        go_wp2_with fail
        refine (bit_any b k true _ (by omega) (by omega) Ht.out).mono ?_
        rintro e w' ⟨rfl, rfl⟩
        go_wp2_with fail
        refine (power_any k pw _ (by omega) Hp.out).mono ?_
        rintro e w' ⟨rfl, rfl⟩
        go_wp2_with fail
        refine (plus_any v y (v ^^^ y) _ (by omega) (by omega) rfl).mono ?_
        rintro e w' ⟨rfl, rfl⟩
        go_wp2_with fail
        go_round
        case rel => exact ⟨k + 1, by omega, by go_num, by rw [Hm.out]⟩
        case measure => simp [intOf]; omega
    · obtain rfl : k = 8 := by omega
      have hl := accK_lt a b ha 8 (by omega)
      obtain ⟨V, hV⟩ : ∃ V, accK a b 8 = V := ⟨_, rfl⟩
      have hR : redK V 7 = x := by rw [← hV]; exact Hx.out
      have HR : Hid _ := hR
      rw [hV] at hl ⊢
      clear hV Hx hR
      go_wp2_with fail
      go_loop [5, 7] (fun v i => ∃ m : Nat, 7 ≤ m ∧ m ≤ 14 ∧ i = .int .i64 m ∧ v = .int .i64 ((redK V (14 - m) : Nat) : Int)) (fun _ i => (intOf i).toNat)
      case atStart => exact ⟨14, by omega, by omega, rfl, rfl⟩
      case round =>
        obtain ⟨m, hm7, hm14, rfl, rfl⟩ := hrel
        have hl2 := redK_lt hl (14 - m)
        by_cases hlt : 8 ≤ m
        · obtain ⟨v, hv⟩ : ∃ v, redK V (14 - m) = v := ⟨_, rfl⟩
          have hs : 14 - (m - 1) = 14 - m + 1 := by omega
          have hb2 : 2 ^ (m - 8) ≤ 2 ^ 6 := Nat.pow_le_pow_right (by decide) (by omega)
          rw [show (2 : Nat) ^ 6 = 64 from by decide] at hb2
          rcases ht : v.testBit m with _ | _
          · have hm := red_miss hm14 hv ht
            rw [← hs] at hm
            rw [hv] at hl2 ⊢
            have Hm : Hid _ := hm
            have Ht : Hid _ := ht
            clear hm ht hv HR hs hb2
            go_wp2_with fail
            refine (bit_any v m false _ (by omega) (by omega) Ht.out).mono ?_
            rintro e w' ⟨rfl, rfl⟩
            go_wp2_with fail
            go_round
            case rel => exact ⟨m - 1, by omega, by omega, by go_num, by rw [Hm.out]⟩
            case measure => simp [intOf]; omega
          · have hm := red_hit hm14 hv ht
            obtain ⟨pw, hpp⟩ : ∃ pw, 2 ^ (m - 8) = pw := ⟨_, rfl⟩
            obtain ⟨j, hj⟩ : ∃ j, m - 8 = j := ⟨_, rfl⟩
            have hmj : (m : Int) - 8 = (j : Int) := by omega
            rw [hpp] at hm hb2
            rw [hj] at hpp
            rw [← hs] at hm
            obtain ⟨y, hy⟩ : ∃ y, 283 * pw = y := ⟨_, rfl⟩
            have hyi : 283 * (pw : Int) = (y : Int) := by omega
            rw [hy] at hm
            rw [hv] at hl2 ⊢
            have Hm : Hid _ := hm
            have Ht : Hid _ := ht
            have Hp : Hid _ := hpp
            clear hm ht hv HR hs hpp
            have hyl : y ≤ 18112 := by omega
            have hjl : j < 62 := by omega
            clear hy hj
            go_wp2_with fail
            refine (bit_any v m true _ (by omega) (by omega) Ht.out).mono ?_
            rintro e w' ⟨rfl, rfl⟩
            go_wp2_with fail
            refine (power_any j pw _ hjl Hp.out).mono ?_
            rintro e w' ⟨rfl, rfl⟩
            go_wp2_with fail
            refine (plus_any v y (v ^^^ y) _ (by omega) (by omega) rfl).mono ?_
            rintro e w' ⟨rfl, rfl⟩
            go_wp2_with fail
            go_round
            case rel => exact ⟨m - 1, by omega, by omega, by go_num, by rw [Hm.out]⟩
            case measure => simp [intOf]; omega
        · obtain rfl : m = 7 := by omega
          rw [show 14 - 7 = 7 from rfl, HR.out]
          go_wp2_with fail
          go_ret
          exact ⟨rfl, rfl⟩

theorem refmul_is {a b x : Int} (w : World) (ha : B8 a) (hb : B8 b) (hx : mulI a b = x) :
    Calls Tryd.prog 55 #[.int .u8 a, .int .u8 b] w fun e w' => e = .returned (.int .u8 x) ∧ w = w' := by
  subst hx
  obtain ⟨n, hn, rfl⟩ := ha.nat
  obtain ⟨m, hm, rfl⟩ := hb.nat
  unfold mulI; rw [Int.toNat_natCast, Int.toNat_natCast]
  exact refmul_any n m (mulN n m) w hn hm (refMul_eq hn hm) (mulN_lt _ _)
theorem refplus_is {a b x : Int} (w : World) (ha : B8 a) (hb : B8 b) (hx : xorI a b = x) :
    Calls Tryd.prog 57 #[.int .i64 a, .int .i64 b] w fun e w' => e = .returned (.int .i64 x) ∧ w = w' := by
  subst hx
  obtain ⟨n, hn, rfl⟩ := ha.nat
  obtain ⟨m, hm, rfl⟩ := hb.nat
  unfold xorI; rw [Int.toNat_natCast, Int.toNat_natCast]
  exact plus_any n m (n ^^^ m) w (by omega) (by omega) rfl

theorem inv_unique {a v : Int} (ha : B8 a) (ha0 : a ≠ 0) (hv : B8 v) (h : mulI a v = 1) : v = divI 1 a := by
  have h1 : mulI (divI 1 a) (mulI a v) = v := by
    rw [mulI_assoc, div_mulI (by unfold B8; omega) ha ha0, mulI_comm, mulI_one hv]
  rw [h, mulI_one (B8_div 1 a)] at h1
  exact h1.symm
theorem mul_inv_one {a : Int} (ha : B8 a) (ha0 : a ≠ 0) : mulI a (divI 1 a) = 1 := by
  rw [mulI_comm]; exact div_mulI (by unfold B8; omega) ha ha0
theorem inv_pos {a : Int} (ha : B8 a) (ha0 : a ≠ 0) : 1 ≤ divI 1 a := by
  have h := mul_inv_one ha ha0
  have hb := B8_div 1 a
  unfold B8 at hb
  rcases Int.lt_or_le 0 (divI 1 a) with h1 | h1
  · omega
  · have : divI 1 a = 0 := by omega
    rw [this, mulI_zero_right] at h; cases h

set_option maxRecDepth 100000 in
set_option maxHeartbeats 1600000 in
theorem refinv_is {a x : Int} (w : World) (ha : B8 a) (ha0 : a ≠ 0) (hx : divI 1 a = x) :
    Calls Tryd.prog 56 #[.int .u8 a] w fun e w' => e = .returned (.int .u8 x) ∧ w = w' := by
  have hx1 : 1 ≤ x := hx ▸ inv_pos ha ha0
  have hxb : B8 x := hx ▸ B8_div 1 a
  have hx1' := hx ▸ mul_inv_one ha ha0
  have hun : ∀ v, B8 v → v ≠ x → (mulI a v == 1) = false := fun v hv hn => by
    rw [beq_eq_false_iff_ne]; intro h; exact hn (hx ▸ inv_unique ha ha0 hv h)
  have H1 : Hid _ := hx1'
  have Hu : Hid _ := hun
  clear hx hx1' hun ha0
  go_enter Tryd.func56, Tryd.ntmps56
  go_wp2_with fail
  go_loop [3] (fun v => ∃ k : Int, 1 ≤ k ∧ k ≤ x ∧ v = .int .i64 k) (fun v => 256 - (intOf v).toNat)
  case atStart => exact ⟨1, by omega, by omega, rfl⟩
  case round =>
    obtain ⟨k, hk1, hk2, rfl⟩ := hrel
    have hb := hxb
    unfold B8 at hb
    have hkb : B8 k := by unfold B8; omega
    by_cases hlt : k = x
    · subst hlt
      go_wp2_with fail
      refine (refmul_is (x := 1) _ ha hkb H1.out).mono ?_
      rintro e w' ⟨rfl, rfl⟩
      go_wp2_with fail
      go_ret
      exact ⟨rfl, rfl⟩
    · have hf := Hu.out k hkb hlt
      obtain ⟨p, hp⟩ : ∃ p, mulI a k = p := ⟨_, rfl⟩
      rw [hp] at hf
      have Hp : Hid _ := hp
      clear hp
      go_wp2_with fail
      refine (refmul_is _ ha hkb Hp.out).mono ?_
      rintro e w' ⟨rfl, rfl⟩
      go_wp2_with fail
      go_round
      case rel => exact ⟨k + 1, by omega, by omega, by go_num⟩
      case measure => simp [intOf]; omega

theorem powN_mod {a : Nat} (ha0 : a ≠ 0) (n : Nat) : powN a (n % 255) = powN a n := by
  unfold powN
  by_cases h1 : n = 0
  · subst h1; rfl
  · rw [if_neg h1, if_neg ha0, if_neg ha0, Nat.mod_mod]
    split
    · rename_i h2; rw [h2]; rfl
    · rfl
theorem powN_step {a : Nat} (ha : a < 256) (k : Nat) : mulN (powN a k) a = powN a (k + 1) := by
  rw [← powN_add ha k 1, powN_one ha]
theorem powI_zero (a : Int) : powI a 0 = 1 := rfl

theorem mulN_three {a : Nat} (ha : a < 256) : mulN a 3 = trip a := by
  have l3 : logN 3 = 1 := by decide +kernel
  rw [mulN_comm, mulN_tripI (by decide) ha, l3]; rfl

end Go.Proofs.YtgiffaeckhhmpaaDoor
