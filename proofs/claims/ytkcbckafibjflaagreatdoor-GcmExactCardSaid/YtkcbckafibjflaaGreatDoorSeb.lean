/- Layer 8: the document side: affine, times. -/
import Derived.Test.YtkcbckafibjflaaGreatDoorGen
import Derived.Test.YtkcbckafibjflaaGreatDoorSbm
import Derived.Lib.Hide
import Derived.IntWalk
namespace Go.Proofs.YtkcbckafibjflaaGreatDoor
set_option linter.unusedVariables false
set_option linter.unusedSimpArgs false
open Go.RowKit

/-- Which bit counts in a sum; the sums; the byte that they make. -/
def atN (i k : Nat) : Nat := if k = 0 then i else (i + 3 + k) % 8
def accN (v i : Nat) : Nat → Nat
  | 0 => 99 / 2 ^ i
  | k + 1 => accN v i k + v / 2 ^ atN i k % 2
def affK (v : Nat) : Nat → Nat
  | 0 => 0
  | i + 1 => affK v i + (if accN v i 5 % 2 = 1 then 2 ^ i else 0)
theorem accN_le (v i : Nat) : ∀ k, accN v i k ≤ 99 + k
  | 0 => Nat.div_le_self _ _
  | k + 1 => by
    have := accN_le v i k
    show accN v i k + v / 2 ^ atN i k % 2 ≤ _
    omega
theorem affK_lt (v : Nat) : ∀ i, affK v i < 2 ^ i
  | 0 => Nat.one_pos
  | i + 1 => by
    have := affK_lt v i
    show affK v i + _ < 2 ^ (i + 1)
    rw [Nat.pow_succ]; split <;> omega
theorem aff_spread : ∀ v, v < 256 → affK v 8 = spreadN v := by decide +kernel
theorem acc_one {v i k d : Nat} (h : 2 ^ atN i k = d) : accN v i (k + 1) = accN v i k + v / d % 2 := by
  show accN v i k + v / 2 ^ atN i k % 2 = _; rw [h]
theorem aff_one {v i d : Nat} (h : accN v i 5 % 2 = 1) (hd : 2 ^ i = d) : affK v (i + 1) = affK v i + d := by
  show affK v i + (if accN v i 5 % 2 = 1 then 2 ^ i else 0) = _; rw [if_pos h, hd]
theorem aff_none {v i : Nat} (h : ¬ accN v i 5 % 2 = 1) : affK v (i + 1) = affK v i := by
  show affK v i + (if accN v i 5 % 2 = 1 then 2 ^ i else 0) = _; rw [if_neg h, Nat.add_zero]

set_option maxRecDepth 100000 in
set_option maxHeartbeats 8000000 in
theorem aff_any (v : Nat) (w : World) (hv : v < 256) :
    Calls Tryz.prog 50 #[.int .u8 (v : Int)] w fun e w' => e = .returned (.int .u8 (spreadN v : Nat)) ∧ w = w' := by
  have HS := Lib.hid (aff_spread v hv)
  have v0 : (0 : Int) ≤ (v : Int) := by omega
  have v1 : (v : Int) < 256 := by omega
  clear hv
  go_enter Tryz.func50, Tryz.ntmps50
  go_wp2_with fail
  go_loop [3, 4] (fun o i => ∃ q : Nat, q ≤ 8 ∧ i = .int .i64 (q : Int) ∧ o = .int .u8 (affK v q : Nat)) (fun _ i => 8 - (intOf i).toNat)
  case atStart => exact ⟨0, Nat.zero_le _, rfl, rfl⟩
  case round =>
    obtain ⟨q, hq, rfl, rfl⟩ := hrel
    by_cases hlt : q < 8
    · have HA := Lib.hid (affK_lt v q)
      have HA0 := Lib.hid (show accN v q 0 = 99 / 2 ^ q from rfl)
      have HA5 := Lib.hid (accN_le v q 5)
      have H1 := Lib.hid (fun d (h : accN v q 5 % 2 = 1) (hd : 2 ^ q = d) => aff_one (v := v) h hd)
      have H2 := Lib.hid (fun (h : ¬ accN v q 5 % 2 = 1) => aff_none (v := v) (i := q) h)
      obtain ⟨a, ha⟩ : ∃ a, affK v q = a := ⟨_, rfl⟩
      rw [ha] at HA H1 H2 ⊢
      obtain ⟨a2, ha2⟩ : ∃ a, affK v (q + 1) = a := ⟨_, rfl⟩
      rw [ha2] at H1 H2
      have HA2 := Lib.hid ha2
      have HP : Hid (2 ^ q < 256 ∧ a < 256) := Lib.hid (by
        have h1 : 2 ^ q ≤ 2 ^ 7 := Nat.pow_le_pow_right (by decide) (by omega)
        have := HA.out
        exact ⟨by omega, by omega⟩)
      clear ha ha2
      rcases (show q = 0 ∨ q = 1 ∨ q = 2 ∨ q = 3 ∨ q = 4 ∨ q = 5 ∨ q = 6 ∨ q = 7 by omega) with rfl | rfl | rfl | rfl | rfl | rfl | rfl | rfl
      · have a0 : (a : Int) < 1 := by have := HA.out; omega
        go_wp2_with fail
        go_loop [5, 6] (fun n k => ∃ j : Nat, j ≤ 5 ∧ k = .int .i64 (j : Int) ∧ n = .int .u8 (accN v 0 j : Nat)) (fun _ k => 5 - (intOf k).toNat)
        case atStart => exact ⟨0, by decide, rfl, rfl⟩
        case round =>
          obtain ⟨j, hj, rfl, rfl⟩ := hrel
          have hle := accN_le v 0 j
          by_cases hlj : j < 5
          · rcases (show j = 0 ∨ j = 1 ∨ j = 2 ∨ j = 3 ∨ j = 4 by omega) with rfl | rfl | rfl | rfl | rfl
            · have hs := Lib.hid (acc_one (v := v) (i := 0) (k := 0) (d := 1) (by decide))
              obtain ⟨n, hn⟩ : ∃ n, accN v 0 0 = n := ⟨_, rfl⟩
              rw [hn] at hle hs ⊢
              have n0 : (n : Int) ≤ 103 := by omega
              clear hn hle
              go_wp2_with fail
              go_round
              case rel => exact ⟨1, by decide, rfl, by rw [hs.out]; go_num⟩
              case measure => simp [intOf]
            · have hs := Lib.hid (acc_one (v := v) (i := 0) (k := 1) (d := 16) (by decide))
              obtain ⟨n, hn⟩ : ∃ n, accN v 0 1 = n := ⟨_, rfl⟩
              rw [hn] at hle hs ⊢
              have n0 : (n : Int) ≤ 103 := by omega
              clear hn hle
              go_wp2_with fail
              go_round
              case rel => exact ⟨2, by decide, rfl, by rw [hs.out]; go_num⟩
              case measure => simp [intOf]
            · have hs := Lib.hid (acc_one (v := v) (i := 0) (k := 2) (d := 32) (by decide))
              obtain ⟨n, hn⟩ : ∃ n, accN v 0 2 = n := ⟨_, rfl⟩
              rw [hn] at hle hs ⊢
              have n0 : (n : Int) ≤ 103 := by omega
              clear hn hle
              go_wp2_with fail
              go_round
              case rel => exact ⟨3, by decide, rfl, by rw [hs.out]; go_num⟩
              case measure => simp [intOf]
            · have hs := Lib.hid (acc_one (v := v) (i := 0) (k := 3) (d := 64) (by decide))
              obtain ⟨n, hn⟩ : ∃ n, accN v 0 3 = n := ⟨_, rfl⟩
              rw [hn] at hle hs ⊢
              have n0 : (n : Int) ≤ 103 := by omega
              clear hn hle
              go_wp2_with fail
              go_round
              case rel => exact ⟨4, by decide, rfl, by rw [hs.out]; go_num⟩
              case measure => simp [intOf]
            · have hs := Lib.hid (acc_one (v := v) (i := 0) (k := 4) (d := 128) (by decide))
              obtain ⟨n, hn⟩ : ∃ n, accN v 0 4 = n := ⟨_, rfl⟩
              rw [hn] at hle hs ⊢
              have n0 : (n : Int) ≤ 103 := by omega
              clear hn hle
              go_wp2_with fail
              go_round
              case rel => exact ⟨5, by decide, rfl, by rw [hs.out]; go_num⟩
              case measure => simp [intOf]
          · obtain rfl : j = 5 := by omega
            by_cases hodd : accN v 0 5 % 2 = 1
            · have hr := Lib.hid (H1.out 1 hodd (by decide))
              obtain ⟨n, hn⟩ : ∃ n, accN v 0 5 = n := ⟨_, rfl⟩
              rw [hn] at hodd hle ⊢
              have n0 : (n : Int) ≤ 104 := by omega
              have n1 : (n : Int) % 2 = 1 := by omega
              clear hn hle hodd hlj
              go_wp2_with fail
              go_round
              case rel => exact ⟨1, by decide, rfl, by rw [HA2.out, hr.out]; go_num⟩
              case measure => simp [intOf]
            · have hr := Lib.hid (H2.out hodd)
              obtain ⟨n, hn⟩ : ∃ n, accN v 0 5 = n := ⟨_, rfl⟩
              rw [hn] at hodd hle ⊢
              have n0 : (n : Int) ≤ 104 := by omega
              have n1 : (n : Int) % 2 = 0 := by omega
              clear hn hle hodd hlj
              go_wp2_with fail
              go_round
              case rel => exact ⟨1, by decide, rfl, by rw [HA2.out, hr.out]⟩
              case measure => simp [intOf]
      · have a0 : (a : Int) < 2 := by have := HA.out; omega
        go_wp2_with fail
        go_loop [5, 6] (fun n k => ∃ j : Nat, j ≤ 5 ∧ k = .int .i64 (j : Int) ∧ n = .int .u8 (accN v 1 j : Nat)) (fun _ k => 5 - (intOf k).toNat)
        case atStart => exact ⟨0, by decide, rfl, rfl⟩
        case round =>
          obtain ⟨j, hj, rfl, rfl⟩ := hrel
          have hle := accN_le v 1 j
          by_cases hlj : j < 5
          · rcases (show j = 0 ∨ j = 1 ∨ j = 2 ∨ j = 3 ∨ j = 4 by omega) with rfl | rfl | rfl | rfl | rfl
            · have hs := Lib.hid (acc_one (v := v) (i := 1) (k := 0) (d := 2) (by decide))
              obtain ⟨n, hn⟩ : ∃ n, accN v 1 0 = n := ⟨_, rfl⟩
              rw [hn] at hle hs ⊢
              have n0 : (n : Int) ≤ 103 := by omega
              clear hn hle
              go_wp2_with fail
              go_round
              case rel => exact ⟨1, by decide, rfl, by rw [hs.out]; go_num⟩
              case measure => simp [intOf]
            · have hs := Lib.hid (acc_one (v := v) (i := 1) (k := 1) (d := 32) (by decide))
              obtain ⟨n, hn⟩ : ∃ n, accN v 1 1 = n := ⟨_, rfl⟩
              rw [hn] at hle hs ⊢
              have n0 : (n : Int) ≤ 103 := by omega
              clear hn hle
              go_wp2_with fail
              go_round
              case rel => exact ⟨2, by decide, rfl, by rw [hs.out]; go_num⟩
              case measure => simp [intOf]
            · have hs := Lib.hid (acc_one (v := v) (i := 1) (k := 2) (d := 64) (by decide))
              obtain ⟨n, hn⟩ : ∃ n, accN v 1 2 = n := ⟨_, rfl⟩
              rw [hn] at hle hs ⊢
              have n0 : (n : Int) ≤ 103 := by omega
              clear hn hle
              go_wp2_with fail
              go_round
              case rel => exact ⟨3, by decide, rfl, by rw [hs.out]; go_num⟩
              case measure => simp [intOf]
            · have hs := Lib.hid (acc_one (v := v) (i := 1) (k := 3) (d := 128) (by decide))
              obtain ⟨n, hn⟩ : ∃ n, accN v 1 3 = n := ⟨_, rfl⟩
              rw [hn] at hle hs ⊢
              have n0 : (n : Int) ≤ 103 := by omega
              clear hn hle
              go_wp2_with fail
              go_round
              case rel => exact ⟨4, by decide, rfl, by rw [hs.out]; go_num⟩
              case measure => simp [intOf]
            · have hs := Lib.hid (acc_one (v := v) (i := 1) (k := 4) (d := 1) (by decide))
              obtain ⟨n, hn⟩ : ∃ n, accN v 1 4 = n := ⟨_, rfl⟩
              rw [hn] at hle hs ⊢
              have n0 : (n : Int) ≤ 103 := by omega
              clear hn hle
              go_wp2_with fail
              go_round
              case rel => exact ⟨5, by decide, rfl, by rw [hs.out]; go_num⟩
              case measure => simp [intOf]
          · obtain rfl : j = 5 := by omega
            by_cases hodd : accN v 1 5 % 2 = 1
            · have hr := Lib.hid (H1.out 2 hodd (by decide))
              obtain ⟨n, hn⟩ : ∃ n, accN v 1 5 = n := ⟨_, rfl⟩
              rw [hn] at hodd hle ⊢
              have n0 : (n : Int) ≤ 104 := by omega
              have n1 : (n : Int) % 2 = 1 := by omega
              clear hn hle hodd hlj
              go_wp2_with fail
              go_round
              case rel => exact ⟨2, by decide, rfl, by rw [HA2.out, hr.out]; go_num⟩
              case measure => simp [intOf]
            · have hr := Lib.hid (H2.out hodd)
              obtain ⟨n, hn⟩ : ∃ n, accN v 1 5 = n := ⟨_, rfl⟩
              rw [hn] at hodd hle ⊢
              have n0 : (n : Int) ≤ 104 := by omega
              have n1 : (n : Int) % 2 = 0 := by omega
              clear hn hle hodd hlj
              go_wp2_with fail
              go_round
              case rel => exact ⟨2, by decide, rfl, by rw [HA2.out, hr.out]⟩
              case measure => simp [intOf]
      · have a0 : (a : Int) < 4 := by have := HA.out; omega
        go_wp2_with fail
        go_loop [5, 6] (fun n k => ∃ j : Nat, j ≤ 5 ∧ k = .int .i64 (j : Int) ∧ n = .int .u8 (accN v 2 j : Nat)) (fun _ k => 5 - (intOf k).toNat)
        case atStart => exact ⟨0, by decide, rfl, rfl⟩
        case round =>
          obtain ⟨j, hj, rfl, rfl⟩ := hrel
          have hle := accN_le v 2 j
          by_cases hlj : j < 5
          · rcases (show j = 0 ∨ j = 1 ∨ j = 2 ∨ j = 3 ∨ j = 4 by omega) with rfl | rfl | rfl | rfl | rfl
            · have hs := Lib.hid (acc_one (v := v) (i := 2) (k := 0) (d := 4) (by decide))
              obtain ⟨n, hn⟩ : ∃ n, accN v 2 0 = n := ⟨_, rfl⟩
              rw [hn] at hle hs ⊢
              have n0 : (n : Int) ≤ 103 := by omega
              clear hn hle
              go_wp2_with fail
              go_round
              case rel => exact ⟨1, by decide, rfl, by rw [hs.out]; go_num⟩
              case measure => simp [intOf]
            · have hs := Lib.hid (acc_one (v := v) (i := 2) (k := 1) (d := 64) (by decide))
              obtain ⟨n, hn⟩ : ∃ n, accN v 2 1 = n := ⟨_, rfl⟩
              rw [hn] at hle hs ⊢
              have n0 : (n : Int) ≤ 103 := by omega
              clear hn hle
              go_wp2_with fail
              go_round
              case rel => exact ⟨2, by decide, rfl, by rw [hs.out]; go_num⟩
              case measure => simp [intOf]
            · have hs := Lib.hid (acc_one (v := v) (i := 2) (k := 2) (d := 128) (by decide))
              obtain ⟨n, hn⟩ : ∃ n, accN v 2 2 = n := ⟨_, rfl⟩
              rw [hn] at hle hs ⊢
              have n0 : (n : Int) ≤ 103 := by omega
              clear hn hle
              go_wp2_with fail
              go_round
              case rel => exact ⟨3, by decide, rfl, by rw [hs.out]; go_num⟩
              case measure => simp [intOf]
            · have hs := Lib.hid (acc_one (v := v) (i := 2) (k := 3) (d := 1) (by decide))
              obtain ⟨n, hn⟩ : ∃ n, accN v 2 3 = n := ⟨_, rfl⟩
              rw [hn] at hle hs ⊢
              have n0 : (n : Int) ≤ 103 := by omega
              clear hn hle
              go_wp2_with fail
              go_round
              case rel => exact ⟨4, by decide, rfl, by rw [hs.out]; go_num⟩
              case measure => simp [intOf]
            · have hs := Lib.hid (acc_one (v := v) (i := 2) (k := 4) (d := 2) (by decide))
              obtain ⟨n, hn⟩ : ∃ n, accN v 2 4 = n := ⟨_, rfl⟩
              rw [hn] at hle hs ⊢
              have n0 : (n : Int) ≤ 103 := by omega
              clear hn hle
              go_wp2_with fail
              go_round
              case rel => exact ⟨5, by decide, rfl, by rw [hs.out]; go_num⟩
              case measure => simp [intOf]
          · obtain rfl : j = 5 := by omega
            by_cases hodd : accN v 2 5 % 2 = 1
            · have hr := Lib.hid (H1.out 4 hodd (by decide))
              obtain ⟨n, hn⟩ : ∃ n, accN v 2 5 = n := ⟨_, rfl⟩
              rw [hn] at hodd hle ⊢
              have n0 : (n : Int) ≤ 104 := by omega
              have n1 : (n : Int) % 2 = 1 := by omega
              clear hn hle hodd hlj
              go_wp2_with fail
              go_round
              case rel => exact ⟨3, by decide, rfl, by rw [HA2.out, hr.out]; go_num⟩
              case measure => simp [intOf]
            · have hr := Lib.hid (H2.out hodd)
              obtain ⟨n, hn⟩ : ∃ n, accN v 2 5 = n := ⟨_, rfl⟩
              rw [hn] at hodd hle ⊢
              have n0 : (n : Int) ≤ 104 := by omega
              have n1 : (n : Int) % 2 = 0 := by omega
              clear hn hle hodd hlj
              go_wp2_with fail
              go_round
              case rel => exact ⟨3, by decide, rfl, by rw [HA2.out, hr.out]⟩
              case measure => simp [intOf]
      · have a0 : (a : Int) < 8 := by have := HA.out; omega
        go_wp2_with fail
        go_loop [5, 6] (fun n k => ∃ j : Nat, j ≤ 5 ∧ k = .int .i64 (j : Int) ∧ n = .int .u8 (accN v 3 j : Nat)) (fun _ k => 5 - (intOf k).toNat)
        case atStart => exact ⟨0, by decide, rfl, rfl⟩
        case round =>
          obtain ⟨j, hj, rfl, rfl⟩ := hrel
          have hle := accN_le v 3 j
          by_cases hlj : j < 5
          · rcases (show j = 0 ∨ j = 1 ∨ j = 2 ∨ j = 3 ∨ j = 4 by omega) with rfl | rfl | rfl | rfl | rfl
            · have hs := Lib.hid (acc_one (v := v) (i := 3) (k := 0) (d := 8) (by decide))
              obtain ⟨n, hn⟩ : ∃ n, accN v 3 0 = n := ⟨_, rfl⟩
              rw [hn] at hle hs ⊢
              have n0 : (n : Int) ≤ 103 := by omega
              clear hn hle
              go_wp2_with fail
              go_round
              case rel => exact ⟨1, by decide, rfl, by rw [hs.out]; go_num⟩
              case measure => simp [intOf]
            · have hs := Lib.hid (acc_one (v := v) (i := 3) (k := 1) (d := 128) (by decide))
              obtain ⟨n, hn⟩ : ∃ n, accN v 3 1 = n := ⟨_, rfl⟩
              rw [hn] at hle hs ⊢
              have n0 : (n : Int) ≤ 103 := by omega
              clear hn hle
              go_wp2_with fail
              go_round
              case rel => exact ⟨2, by decide, rfl, by rw [hs.out]; go_num⟩
              case measure => simp [intOf]
            · have hs := Lib.hid (acc_one (v := v) (i := 3) (k := 2) (d := 1) (by decide))
              obtain ⟨n, hn⟩ : ∃ n, accN v 3 2 = n := ⟨_, rfl⟩
              rw [hn] at hle hs ⊢
              have n0 : (n : Int) ≤ 103 := by omega
              clear hn hle
              go_wp2_with fail
              go_round
              case rel => exact ⟨3, by decide, rfl, by rw [hs.out]; go_num⟩
              case measure => simp [intOf]
            · have hs := Lib.hid (acc_one (v := v) (i := 3) (k := 3) (d := 2) (by decide))
              obtain ⟨n, hn⟩ : ∃ n, accN v 3 3 = n := ⟨_, rfl⟩
              rw [hn] at hle hs ⊢
              have n0 : (n : Int) ≤ 103 := by omega
              clear hn hle
              go_wp2_with fail
              go_round
              case rel => exact ⟨4, by decide, rfl, by rw [hs.out]; go_num⟩
              case measure => simp [intOf]
            · have hs := Lib.hid (acc_one (v := v) (i := 3) (k := 4) (d := 4) (by decide))
              obtain ⟨n, hn⟩ : ∃ n, accN v 3 4 = n := ⟨_, rfl⟩
              rw [hn] at hle hs ⊢
              have n0 : (n : Int) ≤ 103 := by omega
              clear hn hle
              go_wp2_with fail
              go_round
              case rel => exact ⟨5, by decide, rfl, by rw [hs.out]; go_num⟩
              case measure => simp [intOf]
          · obtain rfl : j = 5 := by omega
            by_cases hodd : accN v 3 5 % 2 = 1
            · have hr := Lib.hid (H1.out 8 hodd (by decide))
              obtain ⟨n, hn⟩ : ∃ n, accN v 3 5 = n := ⟨_, rfl⟩
              rw [hn] at hodd hle ⊢
              have n0 : (n : Int) ≤ 104 := by omega
              have n1 : (n : Int) % 2 = 1 := by omega
              clear hn hle hodd hlj
              go_wp2_with fail
              go_round
              case rel => exact ⟨4, by decide, rfl, by rw [HA2.out, hr.out]; go_num⟩
              case measure => simp [intOf]
            · have hr := Lib.hid (H2.out hodd)
              obtain ⟨n, hn⟩ : ∃ n, accN v 3 5 = n := ⟨_, rfl⟩
              rw [hn] at hodd hle ⊢
              have n0 : (n : Int) ≤ 104 := by omega
              have n1 : (n : Int) % 2 = 0 := by omega
              clear hn hle hodd hlj
              go_wp2_with fail
              go_round
              case rel => exact ⟨4, by decide, rfl, by rw [HA2.out, hr.out]⟩
              case measure => simp [intOf]
      · have a0 : (a : Int) < 16 := by have := HA.out; omega
        go_wp2_with fail
        go_loop [5, 6] (fun n k => ∃ j : Nat, j ≤ 5 ∧ k = .int .i64 (j : Int) ∧ n = .int .u8 (accN v 4 j : Nat)) (fun _ k => 5 - (intOf k).toNat)
        case atStart => exact ⟨0, by decide, rfl, rfl⟩
        case round =>
          obtain ⟨j, hj, rfl, rfl⟩ := hrel
          have hle := accN_le v 4 j
          by_cases hlj : j < 5
          · rcases (show j = 0 ∨ j = 1 ∨ j = 2 ∨ j = 3 ∨ j = 4 by omega) with rfl | rfl | rfl | rfl | rfl
            · have hs := Lib.hid (acc_one (v := v) (i := 4) (k := 0) (d := 16) (by decide))
              obtain ⟨n, hn⟩ : ∃ n, accN v 4 0 = n := ⟨_, rfl⟩
              rw [hn] at hle hs ⊢
              have n0 : (n : Int) ≤ 103 := by omega
              clear hn hle
              go_wp2_with fail
              go_round
              case rel => exact ⟨1, by decide, rfl, by rw [hs.out]; go_num⟩
              case measure => simp [intOf]
            · have hs := Lib.hid (acc_one (v := v) (i := 4) (k := 1) (d := 1) (by decide))
              obtain ⟨n, hn⟩ : ∃ n, accN v 4 1 = n := ⟨_, rfl⟩
              rw [hn] at hle hs ⊢
              have n0 : (n : Int) ≤ 103 := by omega
              clear hn hle
              go_wp2_with fail
              go_round
              case rel => exact ⟨2, by decide, rfl, by rw [hs.out]; go_num⟩
              case measure => simp [intOf]
            · have hs := Lib.hid (acc_one (v := v) (i := 4) (k := 2) (d := 2) (by decide))
              obtain ⟨n, hn⟩ : ∃ n, accN v 4 2 = n := ⟨_, rfl⟩
              rw [hn] at hle hs ⊢
              have n0 : (n : Int) ≤ 103 := by omega
              clear hn hle
              go_wp2_with fail
              go_round
              case rel => exact ⟨3, by decide, rfl, by rw [hs.out]; go_num⟩
              case measure => simp [intOf]
            · have hs := Lib.hid (acc_one (v := v) (i := 4) (k := 3) (d := 4) (by decide))
              obtain ⟨n, hn⟩ : ∃ n, accN v 4 3 = n := ⟨_, rfl⟩
              rw [hn] at hle hs ⊢
              have n0 : (n : Int) ≤ 103 := by omega
              clear hn hle
              go_wp2_with fail
              go_round
              case rel => exact ⟨4, by decide, rfl, by rw [hs.out]; go_num⟩
              case measure => simp [intOf]
            · have hs := Lib.hid (acc_one (v := v) (i := 4) (k := 4) (d := 8) (by decide))
              obtain ⟨n, hn⟩ : ∃ n, accN v 4 4 = n := ⟨_, rfl⟩
              rw [hn] at hle hs ⊢
              have n0 : (n : Int) ≤ 103 := by omega
              clear hn hle
              go_wp2_with fail
              go_round
              case rel => exact ⟨5, by decide, rfl, by rw [hs.out]; go_num⟩
              case measure => simp [intOf]
          · obtain rfl : j = 5 := by omega
            by_cases hodd : accN v 4 5 % 2 = 1
            · have hr := Lib.hid (H1.out 16 hodd (by decide))
              obtain ⟨n, hn⟩ : ∃ n, accN v 4 5 = n := ⟨_, rfl⟩
              rw [hn] at hodd hle ⊢
              have n0 : (n : Int) ≤ 104 := by omega
              have n1 : (n : Int) % 2 = 1 := by omega
              clear hn hle hodd hlj
              go_wp2_with fail
              go_round
              case rel => exact ⟨5, by decide, rfl, by rw [HA2.out, hr.out]; go_num⟩
              case measure => simp [intOf]
            · have hr := Lib.hid (H2.out hodd)
              obtain ⟨n, hn⟩ : ∃ n, accN v 4 5 = n := ⟨_, rfl⟩
              rw [hn] at hodd hle ⊢
              have n0 : (n : Int) ≤ 104 := by omega
              have n1 : (n : Int) % 2 = 0 := by omega
              clear hn hle hodd hlj
              go_wp2_with fail
              go_round
              case rel => exact ⟨5, by decide, rfl, by rw [HA2.out, hr.out]⟩
              case measure => simp [intOf]
      · have a0 : (a : Int) < 32 := by have := HA.out; omega
        go_wp2_with fail
        go_loop [5, 6] (fun n k => ∃ j : Nat, j ≤ 5 ∧ k = .int .i64 (j : Int) ∧ n = .int .u8 (accN v 5 j : Nat)) (fun _ k => 5 - (intOf k).toNat)
        case atStart => exact ⟨0, by decide, rfl, rfl⟩
        case round =>
          obtain ⟨j, hj, rfl, rfl⟩ := hrel
          have hle := accN_le v 5 j
          by_cases hlj : j < 5
          · rcases (show j = 0 ∨ j = 1 ∨ j = 2 ∨ j = 3 ∨ j = 4 by omega) with rfl | rfl | rfl | rfl | rfl
            · have hs := Lib.hid (acc_one (v := v) (i := 5) (k := 0) (d := 32) (by decide))
              obtain ⟨n, hn⟩ : ∃ n, accN v 5 0 = n := ⟨_, rfl⟩
              rw [hn] at hle hs ⊢
              have n0 : (n : Int) ≤ 103 := by omega
              clear hn hle
              go_wp2_with fail
              go_round
              case rel => exact ⟨1, by decide, rfl, by rw [hs.out]; go_num⟩
              case measure => simp [intOf]
            · have hs := Lib.hid (acc_one (v := v) (i := 5) (k := 1) (d := 2) (by decide))
              obtain ⟨n, hn⟩ : ∃ n, accN v 5 1 = n := ⟨_, rfl⟩
              rw [hn] at hle hs ⊢
              have n0 : (n : Int) ≤ 103 := by omega
              clear hn hle
              go_wp2_with fail
              go_round
              case rel => exact ⟨2, by decide, rfl, by rw [hs.out]; go_num⟩
              case measure => simp [intOf]
            · have hs := Lib.hid (acc_one (v := v) (i := 5) (k := 2) (d := 4) (by decide))
              obtain ⟨n, hn⟩ : ∃ n, accN v 5 2 = n := ⟨_, rfl⟩
              rw [hn] at hle hs ⊢
              have n0 : (n : Int) ≤ 103 := by omega
              clear hn hle
              go_wp2_with fail
              go_round
              case rel => exact ⟨3, by decide, rfl, by rw [hs.out]; go_num⟩
              case measure => simp [intOf]
            · have hs := Lib.hid (acc_one (v := v) (i := 5) (k := 3) (d := 8) (by decide))
              obtain ⟨n, hn⟩ : ∃ n, accN v 5 3 = n := ⟨_, rfl⟩
              rw [hn] at hle hs ⊢
              have n0 : (n : Int) ≤ 103 := by omega
              clear hn hle
              go_wp2_with fail
              go_round
              case rel => exact ⟨4, by decide, rfl, by rw [hs.out]; go_num⟩
              case measure => simp [intOf]
            · have hs := Lib.hid (acc_one (v := v) (i := 5) (k := 4) (d := 16) (by decide))
              obtain ⟨n, hn⟩ : ∃ n, accN v 5 4 = n := ⟨_, rfl⟩
              rw [hn] at hle hs ⊢
              have n0 : (n : Int) ≤ 103 := by omega
              clear hn hle
              go_wp2_with fail
              go_round
              case rel => exact ⟨5, by decide, rfl, by rw [hs.out]; go_num⟩
              case measure => simp [intOf]
          · obtain rfl : j = 5 := by omega
            by_cases hodd : accN v 5 5 % 2 = 1
            · have hr := Lib.hid (H1.out 32 hodd (by decide))
              obtain ⟨n, hn⟩ : ∃ n, accN v 5 5 = n := ⟨_, rfl⟩
              rw [hn] at hodd hle ⊢
              have n0 : (n : Int) ≤ 104 := by omega
              have n1 : (n : Int) % 2 = 1 := by omega
              clear hn hle hodd hlj
              go_wp2_with fail
              go_round
              case rel => exact ⟨6, by decide, rfl, by rw [HA2.out, hr.out]; go_num⟩
              case measure => simp [intOf]
            · have hr := Lib.hid (H2.out hodd)
              obtain ⟨n, hn⟩ : ∃ n, accN v 5 5 = n := ⟨_, rfl⟩
              rw [hn] at hodd hle ⊢
              have n0 : (n : Int) ≤ 104 := by omega
              have n1 : (n : Int) % 2 = 0 := by omega
              clear hn hle hodd hlj
              go_wp2_with fail
              go_round
              case rel => exact ⟨6, by decide, rfl, by rw [HA2.out, hr.out]⟩
              case measure => simp [intOf]
      · have a0 : (a : Int) < 64 := by have := HA.out; omega
        go_wp2_with fail
        go_loop [5, 6] (fun n k => ∃ j : Nat, j ≤ 5 ∧ k = .int .i64 (j : Int) ∧ n = .int .u8 (accN v 6 j : Nat)) (fun _ k => 5 - (intOf k).toNat)
        case atStart => exact ⟨0, by decide, rfl, rfl⟩
        case round =>
          obtain ⟨j, hj, rfl, rfl⟩ := hrel
          have hle := accN_le v 6 j
          by_cases hlj : j < 5
          · rcases (show j = 0 ∨ j = 1 ∨ j = 2 ∨ j = 3 ∨ j = 4 by omega) with rfl | rfl | rfl | rfl | rfl
            · have hs := Lib.hid (acc_one (v := v) (i := 6) (k := 0) (d := 64) (by decide))
              obtain ⟨n, hn⟩ : ∃ n, accN v 6 0 = n := ⟨_, rfl⟩
              rw [hn] at hle hs ⊢
              have n0 : (n : Int) ≤ 103 := by omega
              clear hn hle
              go_wp2_with fail
              go_round
              case rel => exact ⟨1, by decide, rfl, by rw [hs.out]; go_num⟩
              case measure => simp [intOf]
            · have hs := Lib.hid (acc_one (v := v) (i := 6) (k := 1) (d := 4) (by decide))
              obtain ⟨n, hn⟩ : ∃ n, accN v 6 1 = n := ⟨_, rfl⟩
              rw [hn] at hle hs ⊢
              have n0 : (n : Int) ≤ 103 := by omega
              clear hn hle
              go_wp2_with fail
              go_round
              case rel => exact ⟨2, by decide, rfl, by rw [hs.out]; go_num⟩
              case measure => simp [intOf]
            · have hs := Lib.hid (acc_one (v := v) (i := 6) (k := 2) (d := 8) (by decide))
              obtain ⟨n, hn⟩ : ∃ n, accN v 6 2 = n := ⟨_, rfl⟩
              rw [hn] at hle hs ⊢
              have n0 : (n : Int) ≤ 103 := by omega
              clear hn hle
              go_wp2_with fail
              go_round
              case rel => exact ⟨3, by decide, rfl, by rw [hs.out]; go_num⟩
              case measure => simp [intOf]
            · have hs := Lib.hid (acc_one (v := v) (i := 6) (k := 3) (d := 16) (by decide))
              obtain ⟨n, hn⟩ : ∃ n, accN v 6 3 = n := ⟨_, rfl⟩
              rw [hn] at hle hs ⊢
              have n0 : (n : Int) ≤ 103 := by omega
              clear hn hle
              go_wp2_with fail
              go_round
              case rel => exact ⟨4, by decide, rfl, by rw [hs.out]; go_num⟩
              case measure => simp [intOf]
            · have hs := Lib.hid (acc_one (v := v) (i := 6) (k := 4) (d := 32) (by decide))
              obtain ⟨n, hn⟩ : ∃ n, accN v 6 4 = n := ⟨_, rfl⟩
              rw [hn] at hle hs ⊢
              have n0 : (n : Int) ≤ 103 := by omega
              clear hn hle
              go_wp2_with fail
              go_round
              case rel => exact ⟨5, by decide, rfl, by rw [hs.out]; go_num⟩
              case measure => simp [intOf]
          · obtain rfl : j = 5 := by omega
            by_cases hodd : accN v 6 5 % 2 = 1
            · have hr := Lib.hid (H1.out 64 hodd (by decide))
              obtain ⟨n, hn⟩ : ∃ n, accN v 6 5 = n := ⟨_, rfl⟩
              rw [hn] at hodd hle ⊢
              have n0 : (n : Int) ≤ 104 := by omega
              have n1 : (n : Int) % 2 = 1 := by omega
              clear hn hle hodd hlj
              go_wp2_with fail
              go_round
              case rel => exact ⟨7, by decide, rfl, by rw [HA2.out, hr.out]; go_num⟩
              case measure => simp [intOf]
            · have hr := Lib.hid (H2.out hodd)
              obtain ⟨n, hn⟩ : ∃ n, accN v 6 5 = n := ⟨_, rfl⟩
              rw [hn] at hodd hle ⊢
              have n0 : (n : Int) ≤ 104 := by omega
              have n1 : (n : Int) % 2 = 0 := by omega
              clear hn hle hodd hlj
              go_wp2_with fail
              go_round
              case rel => exact ⟨7, by decide, rfl, by rw [HA2.out, hr.out]⟩
              case measure => simp [intOf]
      · have a0 : (a : Int) < 128 := by have := HA.out; omega
        go_wp2_with fail
        go_loop [5, 6] (fun n k => ∃ j : Nat, j ≤ 5 ∧ k = .int .i64 (j : Int) ∧ n = .int .u8 (accN v 7 j : Nat)) (fun _ k => 5 - (intOf k).toNat)
        case atStart => exact ⟨0, by decide, rfl, rfl⟩
        case round =>
          obtain ⟨j, hj, rfl, rfl⟩ := hrel
          have hle := accN_le v 7 j
          by_cases hlj : j < 5
          · rcases (show j = 0 ∨ j = 1 ∨ j = 2 ∨ j = 3 ∨ j = 4 by omega) with rfl | rfl | rfl | rfl | rfl
            · have hs := Lib.hid (acc_one (v := v) (i := 7) (k := 0) (d := 128) (by decide))
              obtain ⟨n, hn⟩ : ∃ n, accN v 7 0 = n := ⟨_, rfl⟩
              rw [hn] at hle hs ⊢
              have n0 : (n : Int) ≤ 103 := by omega
              clear hn hle
              go_wp2_with fail
              go_round
              case rel => exact ⟨1, by decide, rfl, by rw [hs.out]; go_num⟩
              case measure => simp [intOf]
            · have hs := Lib.hid (acc_one (v := v) (i := 7) (k := 1) (d := 8) (by decide))
              obtain ⟨n, hn⟩ : ∃ n, accN v 7 1 = n := ⟨_, rfl⟩
              rw [hn] at hle hs ⊢
              have n0 : (n : Int) ≤ 103 := by omega
              clear hn hle
              go_wp2_with fail
              go_round
              case rel => exact ⟨2, by decide, rfl, by rw [hs.out]; go_num⟩
              case measure => simp [intOf]
            · have hs := Lib.hid (acc_one (v := v) (i := 7) (k := 2) (d := 16) (by decide))
              obtain ⟨n, hn⟩ : ∃ n, accN v 7 2 = n := ⟨_, rfl⟩
              rw [hn] at hle hs ⊢
              have n0 : (n : Int) ≤ 103 := by omega
              clear hn hle
              go_wp2_with fail
              go_round
              case rel => exact ⟨3, by decide, rfl, by rw [hs.out]; go_num⟩
              case measure => simp [intOf]
            · have hs := Lib.hid (acc_one (v := v) (i := 7) (k := 3) (d := 32) (by decide))
              obtain ⟨n, hn⟩ : ∃ n, accN v 7 3 = n := ⟨_, rfl⟩
              rw [hn] at hle hs ⊢
              have n0 : (n : Int) ≤ 103 := by omega
              clear hn hle
              go_wp2_with fail
              go_round
              case rel => exact ⟨4, by decide, rfl, by rw [hs.out]; go_num⟩
              case measure => simp [intOf]
            · have hs := Lib.hid (acc_one (v := v) (i := 7) (k := 4) (d := 64) (by decide))
              obtain ⟨n, hn⟩ : ∃ n, accN v 7 4 = n := ⟨_, rfl⟩
              rw [hn] at hle hs ⊢
              have n0 : (n : Int) ≤ 103 := by omega
              clear hn hle
              go_wp2_with fail
              go_round
              case rel => exact ⟨5, by decide, rfl, by rw [hs.out]; go_num⟩
              case measure => simp [intOf]
          · obtain rfl : j = 5 := by omega
            by_cases hodd : accN v 7 5 % 2 = 1
            · have hr := Lib.hid (H1.out 128 hodd (by decide))
              obtain ⟨n, hn⟩ : ∃ n, accN v 7 5 = n := ⟨_, rfl⟩
              rw [hn] at hodd hle ⊢
              have n0 : (n : Int) ≤ 104 := by omega
              have n1 : (n : Int) % 2 = 1 := by omega
              clear hn hle hodd hlj
              go_wp2_with fail
              go_round
              case rel => exact ⟨8, by decide, rfl, by rw [HA2.out, hr.out]; go_num⟩
              case measure => simp [intOf]
            · have hr := Lib.hid (H2.out hodd)
              obtain ⟨n, hn⟩ : ∃ n, accN v 7 5 = n := ⟨_, rfl⟩
              rw [hn] at hodd hle ⊢
              have n0 : (n : Int) ≤ 104 := by omega
              have n1 : (n : Int) % 2 = 0 := by omega
              clear hn hle hodd hlj
              go_wp2_with fail
              go_round
              case rel => exact ⟨8, by decide, rfl, by rw [HA2.out, hr.out]⟩
              case measure => simp [intOf]
    · obtain rfl : q = 8 := by omega
      rw [HS.out]
      go_wp2_with fail
      go_ret
      exact ⟨rfl, rfl⟩
def timesN (a : Nat) : Nat := if a < 128 then 2 * a else (2 * a - 256) ^^^ 27
theorem trip_times (a : Nat) : trip a = timesN a ^^^ a := rfl
set_option maxRecDepth 100000 in
set_option maxHeartbeats 1000000 in
theorem times_any (a : Nat) (w : World) (h : a < 256) :
    Calls Tryz.prog 51 #[.int .u8 (a : Int)] w fun e w' => e = .returned (.int .u8 (timesN a : Nat)) ∧ w = w' := by
  by_cases h1 : a < 128
  · have e1 : timesN a = 2 * a := if_pos h1
    have h2 : (a : Int) < 128 := by omega
    have HE := Lib.hid e1
    clear e1 h h1
    go_enter Tryz.func51, Tryz.ntmps51
    go_wp2_with fail
    go_ret
    exact ⟨by rw [HE.out, show ((2 * a : Nat) : Int) = (a : Int) * 2 by omega]; rfl, rfl⟩
  · have e1 : timesN a = (2 * a - 256) ^^^ 27 := if_neg h1
    have h2 : (128 : Int) ≤ (a : Int) := by omega
    have e0 : IntKind.u8.wrap ((a : Int) * 2) = ((2 * a - 256 : Nat) : Int) := by rw [IntKind.wrap_u8]; omega
    have e3 : bits .xor .u8 ((2 * a - 256 : Nat) : Int) 27 = (((2 * a - 256) ^^^ 27 : Nat) : Int) := u8_xor_nat (2 * a - 256) 27 (by omega) (by decide)
    rw [e1]
    generalize 2 * a - 256 = q at *
    generalize q ^^^ 27 = r at *
    clear e1 h h1
    go_enter Tryz.func51, Tryz.ntmps51
    go_wp2_with fail
    go_ret
    exact ⟨rfl, rfl⟩
end Go.Proofs.YtkcbckafibjflaaGreatDoor
