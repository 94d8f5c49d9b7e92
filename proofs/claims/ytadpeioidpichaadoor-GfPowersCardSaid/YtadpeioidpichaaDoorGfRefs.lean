/- Contracts of the document's own functions of layer 1: products, inverses, powers, logarithms. -/
import Derived.Test.YtadpeioidpichaaDoorGfRef
namespace Go.Proofs.YtadpeioidpichaaDoor
open Go.RowKit

theorem accK_lt (a b : Nat) (ha : a < 256) : ∀ k, k ≤ 8 → accK a b k < 32768
  | 0, _ => by show (0 : Nat) < 32768; decide
  | k + 1, hk => by
    have ih := accK_lt a b ha k (by omega)
    have hp : a * 2 ^ k < 32768 := by
      have h1 : 2 ^ k ≤ 2 ^ 7 := Nat.pow_le_pow_right (by decide) (by omega)
      have h2 : a * 2 ^ k ≤ 255 * 2 ^ 7 := Nat.mul_le_mul (by omega) h1
      have : (255 : Nat) * 2 ^ 7 = 32640 := by decide
      omega
    show (if b.testBit k then accK a b k ^^^ (a * 2 ^ k) else accK a b k) < 32768
    split
    · exact Nat.xor_lt_two_pow (n := 15) ih hp
    · exact ih
theorem redS_lt {i v : Nat} (hi : i ≤ 14) (hv : v < 32768) : redS i v < 32768 := by
  unfold redS
  split
  · have h1 : 2 ^ (i - 8) ≤ 2 ^ 6 := Nat.pow_le_pow_right (by decide) (by omega)
    have h2 : 283 * 2 ^ (i - 8) ≤ 283 * 2 ^ 6 := Nat.mul_le_mul (Nat.le_refl _) h1
    have : (283 : Nat) * 2 ^ 6 = 18112 := by decide
    exact Nat.xor_lt_two_pow (n := 15) hv (by show 283 * 2 ^ (i - 8) < 32768; omega)
  · exact hv
theorem redK_lt {v : Nat} (hv : v < 32768) : ∀ k, redK v k < 32768
  | 0 => hv
  | k + 1 => redS_lt (by omega) (redK_lt hv k)
theorem acc_hit {a b k v : Nat} (hv : accK a b k = v) (h : b.testBit k = true) : accK a b (k + 1) = v ^^^ (a * 2 ^ k) := by
  subst hv; show (if b.testBit k then accK a b k ^^^ (a * 2 ^ k) else accK a b k) = _; rw [if_pos h]
theorem acc_miss {a b k v : Nat} (hv : accK a b k = v) (h : b.testBit k = false) : accK a b (k + 1) = v := by
  subst hv; show (if b.testBit k then accK a b k ^^^ (a * 2 ^ k) else accK a b k) = _; rw [if_neg (by rw [h]; decide)]
theorem red_hit {V m v : Nat} (hm : m ≤ 14) (hv : redK V (14 - m) = v) (h : v.testBit m = true) : redK V (14 - m + 1) = v ^^^ (283 * 2 ^ (m - 8)) := by
  subst hv; show redS (14 - (14 - m)) (redK V (14 - m)) = _
  rw [show 14 - (14 - m) = m from by omega]; unfold redS; rw [if_pos h]
theorem red_miss {V m v : Nat} (hm : m ≤ 14) (hv : redK V (14 - m) = v) (h : v.testBit m = false) : redK V (14 - m + 1) = v := by
  subst hv; show redS (14 - (14 - m)) (redK V (14 - m)) = _
  rw [show 14 - (14 - m) = m from by omega]; unfold redS; rw [if_neg (by rw [h]; decide)]

set_option maxRecDepth 100000 in
set_option maxHeartbeats 1600000 in
theorem refmul_any (a b x : Nat) (w : World) (ha : a < 256) (hb : b < 256) (hx : refMul a b = x) (hx8 : x < 256) :
    Calls Tryd.prog 12 #[.int .u8 a, .int .u8 b] w fun e w' => e = .returned (.int .u8 (x : Int)) ∧ w = w' := by
  have Hx : Hid _ := hx
  clear hx
  go_enter Tryd.func12, Tryd.ntmps12
  go_wp2_with fail
  go_loop [5, 6] (fun v i => ∃ k : Nat, k ≤ 8 ∧ i = .int .i64 k ∧ v = .int .i64 ((accK a b k : Nat) : Int)) (fun _ i => 8 - (intOf i).toNat)
  case atStart => exact ⟨0, by omega, rfl, rfl⟩
  case round =>
    obtain ⟨k, hk, rfl, rfl⟩ := hrel
    by_cases hlt : k < 8
    · have hl := accK_lt a b ha k (by omega)
      have hb2 : 2 ^ k ≤ 2 ^ 7 := Nat.pow_le_pow_right (by decide) (by omega)
      rw [show (2 : Nat) ^ 7 = 128 from by decide] at hb2
      obtain ⟨v, hv⟩ : ∃ v, accK a b k = v := ⟨_, rfl⟩
      obtain ⟨pw, hpp⟩ : ∃ pw, 2 ^ k = pw := ⟨_, rfl⟩
      rcases ht : b.testBit k with _ | _
      · have hm := acc_miss hv ht
        rw [hv] at hl ⊢
        have Hm : Hid _ := hm
        have Ht : Hid _ := ht
        clear hm ht hv Hx hpp hb2
        go_wp2_with fail
        refine (bit_any b k false _ (by omega) (by omega) Ht.out).mono ?_
        rintro e w' ⟨rfl, rfl⟩
        go_wp2_with fail
        go_round
        case rel => exact ⟨k + 1, by omega, by go_num, by rw [Hm.out]⟩
        case measure => simp [intOf]; omega
      · have hm := acc_hit hv ht
        rw [hpp] at hm hb2
        have hml : a * pw ≤ 255 * 128 := Nat.mul_le_mul (by omega) hb2
        obtain ⟨y, hy⟩ : ∃ y, a * pw = y := ⟨_, rfl⟩
        have hyi : (a : Int) * (pw : Int) = (y : Int) := by rw [← hy]; exact (Int.natCast_mul _ _).symm
        rw [hy] at hm hml
        rw [hv] at hl ⊢
        have Hm : Hid _ := hm
        have Ht : Hid _ := ht
        have Hp : Hid _ := hpp
        clear hm ht hv Hx hpp hy
        go_wp2_with fail
        refine (bit_any b k true _ (by omega) (by omega) Ht.out).mono ?_
        rintro e w' ⟨rfl, rfl⟩
        go_wp2_with fail
        refine (power_any k pw _ (by omega) Hp.out).mono ?_
        rintro e w' ⟨rfl, rfl⟩
        go_wp2_with fail
        refine (plus_any v y (v ^^^ y) _ (by omega) (by omega) rfl).mono ?_
        rintro e w' ⟨rfl, rfl⟩
        go_wp2_with fail
        go_round
        case rel => exact ⟨k + 1, by omega, by go_num, by rw [Hm.out]⟩
        case measure => simp [intOf]; omega
    · obtain rfl : k = 8 := by omega
      have hl := accK_lt a b ha 8 (by omega)
      obtain ⟨V, hV⟩ : ∃ V, accK a b 8 = V := ⟨_, rfl⟩
      have hR : redK V 7 = x := by rw [← hV]; exact Hx.out
      have HR : Hid _ := hR
      rw [hV] at hl ⊢
      clear hV Hx hR
      go_wp2_with fail
      go_loop [5, 7] (fun v i => ∃ m : Nat, 7 ≤ m ∧ m ≤ 14 ∧ i = .int .i64 m ∧ v = .int .i64 ((redK V (14 - m) : Nat) : Int)) (fun _ i => (intOf i).toNat)
      case atStart => exact ⟨14, by omega, by omega, rfl, rfl⟩
      case round =>
        obtain ⟨m, hm7, hm14, rfl, rfl⟩ := hrel
        have hl2 := redK_lt hl (14 - m)
        by_cases hlt : 8 ≤ m
        · obtain ⟨v, hv⟩ : ∃ v, redK V (14 - m) = v := ⟨_, rfl⟩
          have hs : 14 - (m - 1) = 14 - m + 1 := by omega
          have hb2 : 2 ^ (m - 8) ≤ 2 ^ 6 := Nat.pow_le_pow_right (by decide) (by omega)
          rw [show (2 : Nat) ^ 6 = 64 from by decide] at hb2
          rcases ht : v.testBit m with _ | _
          · have hm := red_miss hm14 hv ht
            rw [← hs] at hm
            rw [hv] at hl2 ⊢
            have Hm : Hid _ := hm
            have Ht : Hid _ := ht
            clear hm ht hv HR hs hb2
            go_wp2_with fail
            refine (bit_any v m false _ (by omega) (by omega) Ht.out).mono ?_
            rintro e w' ⟨rfl, rfl⟩
            go_wp2_with fail
            go_round
            case rel => exact ⟨m - 1, by omega, by omega, by go_num, by rw [Hm.out]⟩
            case measure => simp [intOf]; omega
          · have hm := red_hit hm14 hv ht
            obtain ⟨pw, hpp⟩ : ∃ pw, 2 ^ (m - 8) = pw := ⟨_, rfl⟩
            obtain ⟨j, hj⟩ : ∃ j, m - 8 = j := ⟨_, rfl⟩
            have hmj : (m : Int) - 8 = (j : Int) := by omega
            rw [hpp] at hm hb2
            rw [hj] at hpp
            rw [← hs] at hm
            obtain ⟨y, hy⟩ : ∃ y, 283 * pw = y := ⟨_, rfl⟩
            have hyi : 283 * (pw : Int) = (y : Int) := by omega
            rw [hy] at hm
            rw [hv] at hl2 ⊢
            have Hm : Hid _ := hm
            have Ht : Hid _ := ht
            have Hp : Hid _ := hpp
            clear hm ht hv HR hs hpp
            have hyl : y ≤ 18112 := by omega
            have hjl : j < 62 := by omega
            clear hy hj
            go_wp2_with fail
            refine (bit_any v m true _ (by omega) (by omega) Ht.out).mono ?_
            rintro e w' ⟨rfl, rfl⟩
            go_wp2_with fail
            refine (power_any j pw _ hjl Hp.out).mono ?_
            rintro e w' ⟨rfl, rfl⟩
            go_wp2_with fail
            refine (plus_any v y (v ^^^ y) _ (by omega) (by omega) rfl).mono ?_
            rintro e w' ⟨rfl, rfl⟩
            go_wp2_with fail
            go_round
            case rel => exact ⟨m - 1, by omega, by omega, by go_num, by rw [Hm.out]⟩
            case measure => simp [intOf]; omega
        · obtain rfl : m = 7 := by omega
          rw [show 14 - 7 = 7 from rfl, HR.out]
          go_wp2_with fail
          go_ret
          exact ⟨rfl, rfl⟩

theorem refmul_is {a b x : Int} (w : World) (ha : B8 a) (hb : B8 b) (hx : mulI a b = x) :
    Calls Tryd.prog 12 #[.int .u8 a, .int .u8 b] w fun e w' => e = .returned (.int .u8 x) ∧ w = w' := by
  subst hx
  obtain ⟨n, hn, rfl⟩ := ha.nat
  obtain ⟨m, hm, rfl⟩ := hb.nat
  unfold mulI; rw [Int.toNat_natCast, Int.toNat_natCast]
  exact refmul_any n m (mulN n m) w hn hm (refMul_eq hn hm) (mulN_lt _ _)
theorem refplus_is {a b x : Int} (w : World) (ha : B8 a) (hb : B8 b) (hx : xorI a b = x) :
    Calls Tryd.prog 11 #[.int .i64 a, .int .i64 b] w fun e w' => e = .returned (.int .i64 x) ∧ w = w' := by
  subst hx
  obtain ⟨n, hn, rfl⟩ := ha.nat
  obtain ⟨m, hm, rfl⟩ := hb.nat
  unfold xorI; rw [Int.toNat_natCast, Int.toNat_natCast]
  exact plus_any n m (n ^^^ m) w (by omega) (by omega) rfl

theorem inv_unique {a v : Int} (ha : B8 a) (ha0 : a ≠ 0) (hv : B8 v) (h : mulI a v = 1) : v = divI 1 a := by
  have h1 : mulI (divI 1 a) (mulI a v) = v := by
    rw [mulI_assoc, div_mulI (by unfold B8; omega) ha ha0, mulI_comm, mulI_one hv]
  rw [h, mulI_one (B8_div 1 a)] at h1
  exact h1.symm
theorem mul_inv_one {a : Int} (ha : B8 a) (ha0 : a ≠ 0) : mulI a (divI 1 a) = 1 := by
  rw [mulI_comm]; exact div_mulI (by unfold B8; omega) ha ha0
theorem inv_pos {a : Int} (ha : B8 a) (ha0 : a ≠ 0) : 1 ≤ divI 1 a := by
  have h := mul_inv_one ha ha0
  have hb := B8_div 1 a
  unfold B8 at hb
  rcases Int.lt_or_le 0 (divI 1 a) with h1 | h1
  · omega
  · have : divI 1 a = 0 := by omega
    rw [this, mulI_zero_right] at h; cases h

set_option maxRecDepth 100000 in
set_option maxHeartbeats 1600000 in
theorem refinv_is {a x : Int} (w : World) (ha : B8 a) (ha0 : a ≠ 0) (hx : divI 1 a = x) :
    Calls Tryd.prog 14 #[.int .u8 a] w fun e w' => e = .returned (.int .u8 x) ∧ w = w' := by
  have hx1 : 1 ≤ x := hx ▸ inv_pos ha ha0
  have hxb : B8 x := hx ▸ B8_div 1 a
  have hx1' := hx ▸ mul_inv_one ha ha0
  have hun : ∀ v, B8 v → v ≠ x → (mulI a v == 1) = false := fun v hv hn => by
    rw [beq_eq_false_iff_ne]; intro h; exact hn (hx ▸ inv_unique ha ha0 hv h)
  have H1 : Hid _ := hx1'
  have Hu : Hid _ := hun
  clear hx hx1' hun ha0
  go_enter Tryd.func14, Tryd.ntmps14
  go_wp2_with fail
  go_loop [3] (fun v => ∃ k : Int, 1 ≤ k ∧ k ≤ x ∧ v = .int .i64 k) (fun v => 256 - (intOf v).toNat)
  case atStart => exact ⟨1, by omega, by omega, rfl⟩
  case round =>
    obtain ⟨k, hk1, hk2, rfl⟩ := hrel
    have hb := hxb
    unfold B8 at hb
    have hkb : B8 k := by unfold B8; omega
    by_cases hlt : k = x
    · subst hlt
      go_wp2_with fail
      refine (refmul_is (x := 1) _ ha hkb H1.out).mono ?_
      rintro e w' ⟨rfl, rfl⟩
      go_wp2_with fail
      go_ret
      exact ⟨rfl, rfl⟩
    · have hf := Hu.out k hkb hlt
      obtain ⟨p, hp⟩ : ∃ p, mulI a k = p := ⟨_, rfl⟩
      rw [hp] at hf
      have Hp : Hid _ := hp
      clear hp
      go_wp2_with fail
      refine (refmul_is _ ha hkb Hp.out).mono ?_
      rintro e w' ⟨rfl, rfl⟩
      go_wp2_with fail
      go_round
      case rel => exact ⟨k + 1, by omega, by omega, by go_num⟩
      case measure => simp [intOf]; omega

theorem powN_mod {a : Nat} (ha0 : a ≠ 0) (n : Nat) : powN a (n % 255) = powN a n := by
  unfold powN
  by_cases h1 : n = 0
  · subst h1; rfl
  · rw [if_neg h1, if_neg ha0, if_neg ha0, Nat.mod_mod]
    split
    · rename_i h2; rw [h2]; rfl
    · rfl
theorem powN_step {a : Nat} (ha : a < 256) (k : Nat) : mulN (powN a k) a = powN a (k + 1) := by
  rw [← powN_add ha k 1, powN_one ha]
theorem powI_zero (a : Int) : powI a 0 = 1 := rfl

set_option maxRecDepth 100000 in
set_option maxHeartbeats 1600000 in
theorem refpow_pos (a n : Nat) (w : World) (ha : a < 256) (hn : (n : Int) ≤ 9223372036854775807) (h0 : a ≠ 0) :
    Calls Tryd.prog 17 #[.int .u8 a, .int .i64 n] w fun e w' => e = .returned (.int .u8 (powN a n : Nat)) ∧ w = w' := by
  rw [← powN_mod h0 n]
  have hz : ((a : Int) == 0) = false := by rw [beq_eq_false_iff_ne]; omega
  clear h0
  have e1 : (n : Int).tmod 255 = ((n % 255 : Nat) : Int) := by rw [Int.tmod_eq_emod_of_nonneg (by omega)]; rfl
  have l1 := mod_lt n
  obtain ⟨r, hr⟩ : ∃ r, n % 255 = r := ⟨_, rfl⟩
  rw [hr] at e1 l1 ⊢
  clear hr
  go_enter Tryd.func17, Tryd.ntmps17
  go_wp2_with fail
  go_loop [5, 6] (fun v i => ∃ k : Nat, k ≤ r ∧ i = .int .i64 k ∧ v = .int .u8 ((powN a k : Nat) : Int)) (fun _ i => r - (intOf i).toNat)
  case atStart => exact ⟨0, by omega, rfl, rfl⟩
  case round =>
    obtain ⟨k, hk, rfl, rfl⟩ := hrel
    by_cases hlt : k < r
    · have hs : mulI (powN a k : Nat) a = (powN a (k + 1) : Nat) := by
        unfold mulI; rw [Int.toNat_natCast, Int.toNat_natCast, powN_step ha]
      have hv : B8 ((powN a k : Nat) : Int) := B8_nat (powN_lt a k)
      have Hs : Hid _ := hs
      have Hv : Hid _ := hv
      have hv2 := powN_lt a k
      clear hs hv
      obtain ⟨v, hvv⟩ : ∃ v, powN a k = v := ⟨_, rfl⟩
      rw [hvv] at hv2 Hs Hv ⊢
      clear hvv
      go_wp2_with fail
      refine (refmul_is _ Hv.out (B8_nat ha) Hs.out).mono ?_
      rintro e w' ⟨rfl, rfl⟩
      go_wp2_with fail
      go_round
      case rel => exact ⟨k + 1, by omega, by go_num, rfl⟩
      case measure => simp [intOf]; omega
    · obtain rfl : k = r := by omega
      go_wp2_with fail
      go_ret
      exact ⟨rfl, rfl⟩

set_option maxRecDepth 100000 in
set_option maxHeartbeats 1600000 in
theorem refpow_none (n : Nat) (w : World) (hn : (n : Int) ≤ 9223372036854775807) (hn0 : n ≠ 0) :
    Calls Tryd.prog 17 #[.int .u8 0, .int .i64 n] w fun e w' => e = .returned (.int .u8 0) ∧ w = w' := by
  go_enter Tryd.func17, Tryd.ntmps17
  go_wp2_with fail
  go_ret
  exact ⟨rfl, rfl⟩

set_option maxRecDepth 100000 in
set_option maxHeartbeats 1600000 in
theorem refpow_nought (w : World) :
    Calls Tryd.prog 17 #[.int .u8 0, .int .i64 0] w fun e w' => e = .returned (.int .u8 1) ∧ w = w' := by
  go_enter Tryd.func17, Tryd.ntmps17
  go_wp2_with fail
  go_loop [5, 6] (fun v i => v = .int .u8 1 ∧ i = .int .i64 0) (fun _ _ => 0)
  case atStart => exact ⟨rfl, rfl⟩
  case round =>
    obtain ⟨rfl, rfl⟩ := hrel
    go_wp2_with fail
    go_ret
    exact ⟨rfl, rfl⟩

theorem refpow_is {a n x : Int} (w : World) (ha : B8 a) (hn : 0 ≤ n ∧ n ≤ 9223372036854775807) (hx : powI a n = x) :
    Calls Tryd.prog 17 #[.int .u8 a, .int .i64 n] w fun e w' => e = .returned (.int .u8 x) ∧ w = w' := by
  subst hx
  obtain ⟨m, hm, rfl⟩ := ha.nat
  obtain ⟨k, rfl⟩ := Int.eq_ofNat_of_zero_le hn.1
  unfold powI; rw [Int.toNat_natCast, Int.toNat_natCast]
  by_cases h0 : m = 0
  · subst h0
    by_cases hk : k = 0
    · subst hk; exact refpow_nought w
    · rw [show powN 0 k = 0 from by unfold powN; rw [if_neg hk, if_pos rfl]]
      exact refpow_none k w hn.2 hk
  · exact refpow_pos m k w hm hn.2 h0

theorem mulN_three {a : Nat} (ha : a < 256) : mulN a 3 = trip a := by
  have l3 : logN 3 = 1 := by decide +kernel
  rw [mulN_comm, mulN_tripI (by decide) ha, l3]; rfl

set_option maxRecDepth 100000 in
set_option maxHeartbeats 1600000 in
theorem reflog_any (a : Nat) (w : World) (ha : a < 256) (ha0 : a ≠ 0) :
    Calls Tryd.prog 18 #[.int .u8 a] w fun e w' => e = .returned (.int .i64 (logN a : Nat)) ∧ w = w' := by
  have hl := log_lt ha
  have he := exp_log (by omega) ha
  obtain ⟨l, hll⟩ : ∃ l, logN a = l := ⟨_, rfl⟩
  rw [hll] at hl he ⊢
  clear ha0 hll
  have He : Hid _ := he
  clear he
  go_enter Tryd.func18, Tryd.ntmps18
  go_wp2_with fail
  go_loop [3, 4] (fun v i => ∃ k : Nat, k ≤ l ∧ i = .int .i64 k ∧ v = .int .u8 ((expN k : Nat) : Int)) (fun _ i => l - (intOf i).toNat)
  case atStart => exact ⟨0, by omega, rfl, rfl⟩
  case round =>
    obtain ⟨k, hk, rfl, rfl⟩ := hrel
    have hv := expN_lt k
    by_cases hlt : k < l
    · have hne : (((expN k : Nat) : Int) != (a : Int)) = true := by
        rw [bne_iff_ne]; intro h
        have h2 : expN k = expN l := by have := He.out; omega
        have := congrArg logN h2
        rw [log_exp (by omega), log_exp (by omega)] at this; omega
      have hs : mulI (expN k : Nat) 3 = (expN (k + 1) : Nat) := by
        unfold mulI; rw [Int.toNat_natCast, show (3 : Int).toNat = 3 from rfl, mulN_three hv]; rfl
      have Hs : Hid _ := hs
      clear hs
      obtain ⟨v, hvv⟩ : ∃ v, expN k = v := ⟨_, rfl⟩
      rw [hvv] at hv hne Hs ⊢
      clear hvv
      go_wp2_with fail
      refine (refmul_is _ (B8_nat hv) (by unfold B8; omega) Hs.out).mono ?_
      rintro e w' ⟨rfl, rfl⟩
      go_wp2_with fail
      go_round
      case rel => exact ⟨k + 1, by omega, by go_num, rfl⟩
      case measure => simp [intOf]; omega
    · obtain rfl : k = l := by omega
      rw [He.out]
      have hne : (((a : Nat) : Int) != (a : Int)) = false := by simp
      go_wp2_with fail
      go_ret
      exact ⟨rfl, rfl⟩

theorem reflog_is {a x : Int} (w : World) (ha : B8 a) (ha0 : a ≠ 0) (hx : logI a = x) :
    Calls Tryd.prog 18 #[.int .u8 a] w fun e w' => e = .returned (.int .i64 x) ∧ w = w' := by
  subst hx
  obtain ⟨m, hm, rfl⟩ := ha.nat
  unfold logI; rw [Int.toNat_natCast]
  exact reflog_any m w hm (by omega)

end Go.Proofs.YtadpeioidpichaaDoor
