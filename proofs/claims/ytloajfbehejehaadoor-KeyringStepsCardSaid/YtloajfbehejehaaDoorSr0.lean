/- Turned to the right one by one, as the document says it. -/
import Derived.Test.YtloajfbehejehaaDoorSh0
namespace Go.Proofs.YtloajfbehejehaaDoor
set_option linter.unusedVariables false
set_option linter.unusedSimpArgs false
open Go.RowKit

theorem pow32 {n : Nat} (hn : n ≤ 32) : 2 ^ n * 2 ^ (32 - n) = 4294967296 := by
  rw [← Nat.pow_add, show n + (32 - n) = 32 by omega]
theorem ror_sum {n x : Nat} (hn : n ≤ 32) (hx : x < 4294967296) : rorN n x = x / 2 ^ n + (x % 2 ^ n) * 2 ^ (32 - n) := by
  unfold rorN
  rw [← pow32 hn, Nat.mul_mod_mul_right, Nat.mul_comm (x % 2 ^ n), ← Nat.two_pow_add_eq_or_of_lt, Nat.add_comm]
  exact Nat.div_lt_of_lt_mul (by rw [pow32 hn]; exact hx)
/-- One place. -/
def rrS (v : Nat) : Nat := v / 2 + (v % 2) * 2147483648
def rrI (x i : Nat) : Nat := x / 2 ^ i + (x % 2 ^ i) * 2 ^ (32 - i)
theorem rrI_0 (x : Nat) : rrI x 0 = x := by unfold rrI; rw [Nat.pow_zero, Nat.div_one, Nat.mod_one, Nat.zero_mul]; rfl
theorem rrI_succ {x i : Nat} (hi : i < 32) : rrS (rrI x i) = rrI x (i + 1) := by
  unfold rrS rrI
  obtain ⟨K, hK⟩ : ∃ K, 2 ^ (31 - i) = K := ⟨_, rfl⟩
  obtain ⟨q, hq⟩ : ∃ q, x / 2 ^ i = q := ⟨_, rfl⟩
  obtain ⟨r, hr⟩ : ∃ r, x % 2 ^ i = r := ⟨_, rfl⟩
  have e1 : 2 ^ (32 - i) = 2 * K := by rw [← hK, show 32 - i = (31 - i) + 1 by omega, Nat.pow_succ, Nat.mul_comm]
  have e2 : x / 2 ^ (i + 1) = q / 2 := by rw [Nat.pow_succ, ← Nat.div_div_eq_div_mul, hq]
  have e3 : x % 2 ^ (i + 1) = r + 2 ^ i * (q % 2) := by rw [Nat.mod_pow_succ, hr, hq]
  have e4 : 2 ^ i * K = 2147483648 := by rw [← hK, ← Nat.pow_add, show i + (31 - i) = 31 by omega]
  have e5 : 2 ^ (32 - (i + 1)) = K := by rw [← hK, show 32 - (i + 1) = 31 - i by omega]
  rw [e1, e2, e3, e5, hq, hr, Nat.add_mul, Nat.mul_right_comm (2 ^ i), e4, show r * (2 * K) = 2 * (r * K) by rw [Nat.mul_left_comm]]
  generalize r * K = z
  omega
theorem rrI_lt {x i : Nat} (hi : i ≤ 32) (hx : x < 4294967296) : rrI x i < 4294967296 := by
  have := ror_sum hi hx
  unfold rrI; rw [← this]; exact rorN_lt hx
theorem rrI_eq {x i : Nat} (hi : i ≤ 32) (hx : x < 4294967296) : rrI x i = rorN i x := (ror_sum hi hx).symm
end Go.Proofs.YtloajfbehejehaaDoor
