/- Turned and moved to the right, as the document does it. -/
import Derived.Test.YtloajfbehejehaaDoorSr0
import Derived.Test.YtloajfbehejehaaDoorSh5
namespace Go.Proofs.YtloajfbehejehaaDoor
set_option linter.unusedVariables false
set_option linter.unusedSimpArgs false
open Go.RowKit

set_option maxRecDepth 100000 in
theorem rror_any (x n : Nat) (m : Int) (hm : m = (n : Int)) (w : World) (hx : x < 4294967296) (hn : n ≤ 32) :
    Calls Tryd.prog 53 #[.int .u32 (x : Nat), .int .i64 m] w fun e w' => e = .returned (.int .u32 (rorN n x : Nat)) ∧ w' = w := by
  subst hm
  obtain ⟨X, hX⟩ : ∃ X, rorN n x = X := ⟨_, rfl⟩
  have HX : Hid (rrI x n = X) := Lib.hid (by rw [rrI_eq hn hx, hX])
  have hx1 : (x : Int) < 4294967296 := by omega
  have hx2 : (x : Int) % 18446744073709551616 = (x : Int) := by omega
  have HB : Hid (x < 4294967296 ∧ n ≤ 32) := Lib.hid ⟨hx, hn⟩
  rw [hX]
  clear hX
  go_enter Tryd.func53, Tryd.ntmps53
  go_wp2_with fail
  go_loopw [5, 6] (fun v u wr => ∃ i : Nat, i ≤ n ∧ v = .int .u64 (rrI x i : Nat) ∧ u = .int .i64 (i : Int) ∧ wr = w) (fun _ u _ => n - (intOf u).toNat)
  case atStart => exact ⟨0, Nat.zero_le _, by rw [rrI_0], rfl, rfl⟩
  case round =>
    clear hx2 hx1
    obtain ⟨i, hi, rfl, rfl, rfl⟩ := hrel
    by_cases hli : i < n
    · have i1 : (i : Int) < (n : Int) := by omega
      have iw : (i : Int) + 1 ≤ 9223372036854775807 := by have := HB.out; omega
      obtain ⟨V, hV⟩ : ∃ V, rrI x i = V := ⟨_, rfl⟩
      obtain ⟨U, hU⟩ : ∃ V, rrI x (i + 1) = V := ⟨_, rfl⟩
      have hVU : V / 2 + (V % 2) * 2147483648 = U := by have := rrI_succ (x := x) (i := i) (by have := HB.out; omega); rw [hV, hU] at this; exact this
      have hVl : V < 4294967296 := by rw [← hV]; exact rrI_lt (by have := HB.out; omega) HB.out.1
      have f1 : (V : Int) / 2 + (V : Int) % 2 * 2147483648 = (U : Int) := by omega
      have f2 : (V : Int) / 2 % 18446744073709551616 = (V : Int) / 2 := by omega
      have f3 : (V : Int) % 2 * 2147483648 % 18446744073709551616 = (V : Int) % 2 * 2147483648 := by omega
      have f4 : (U : Int) % 18446744073709551616 = (U : Int) := by omega
      have hVl1 : (V : Int) < 4294967296 := by omega
      rw [hV]
      have HU := Lib.hid hU
      have HI : Hid (i + 1 ≤ n) := Lib.hid hli
      clear hVU hVl hU hV hi hli hx hn
      go_wp2_with fail
      go_roundw
      case rel => exact ⟨i + 1, HI.out, by rw [HU.out], by go_num, trivial⟩
      case measure => have := HI.out; simp [intOf] <;> omega
    · obtain rfl : i = n := by omega
      rw [HX.out]
      have hXl : (X : Int) < 4294967296 := by have := rrI_lt HB.out.2 HB.out.1 (i := i); rw [HX.out] at this; omega
      have hX2 : (X : Int) % 4294967296 = (X : Int) := by omega
      clear hx hn hi hli
      go_wp2_with fail
      go_ret
      exact ⟨rfl, rfl⟩
set_option maxRecDepth 100000 in
theorem rshr_any (x n : Nat) (m : Int) (hm : m = (n : Int)) (w : World) (hx : x < 4294967296) (hn : n ≤ 32) :
    Calls Tryd.prog 54 #[.int .u32 (x : Nat), .int .i64 m] w fun e w' => e = .returned (.int .u32 (x / 2 ^ n : Nat)) ∧ w' = w := by
  subst hm
  obtain ⟨X, hX⟩ : ∃ X, x / 2 ^ n = X := ⟨_, rfl⟩
  have HX := Lib.hid hX
  have HB : Hid (x < 4294967296 ∧ n ≤ 32) := Lib.hid ⟨hx, hn⟩
  rw [hX]
  clear hX
  go_enter Tryd.func54, Tryd.ntmps54
  go_wp2_with fail
  go_loopw [0, 5] (fun v u wr => ∃ i : Nat, i ≤ n ∧ v = .int .u32 (x / 2 ^ i : Nat) ∧ u = .int .i64 (i : Int) ∧ wr = w) (fun _ u _ => n - (intOf u).toNat)
  case atStart => exact ⟨0, Nat.zero_le _, by rw [Nat.pow_zero, Nat.div_one], rfl, rfl⟩
  case round =>
    obtain ⟨i, hi, rfl, rfl, rfl⟩ := hrel
    by_cases hli : i < n
    · have i1 : (i : Int) < (n : Int) := by omega
      have iw : (i : Int) + 1 ≤ 9223372036854775807 := by have := HB.out; omega
      obtain ⟨V, hV⟩ : ∃ V, x / 2 ^ i = V := ⟨_, rfl⟩
      obtain ⟨U, hU⟩ : ∃ V, x / 2 ^ (i + 1) = V := ⟨_, rfl⟩
      have hVU : V / 2 = U := by rw [← hV, ← hU, Nat.pow_succ, Nat.div_div_eq_div_mul]
      have hVl : V < 4294967296 := by rw [← hV]; exact Nat.lt_of_le_of_lt (Nat.div_le_self _ _) HB.out.1
      have f1 : (V : Int) / 2 = (U : Int) := by omega
      have f2 : (U : Int) % 4294967296 = (U : Int) := by omega
      have f3 : (V : Int).tdiv 2 = (U : Int) := by rw [Int.tdiv_eq_ediv_of_nonneg (by omega)]; exact f1
      rw [hV]
      have HU := Lib.hid hU
      have HI : Hid (i + 1 ≤ n) := Lib.hid hli
      clear hVU hVl hU hV hi hli hx hn
      go_wp2_with fail
      go_roundw
      case rel => exact ⟨i + 1, HI.out, by rw [HU.out], by go_num, trivial⟩
      case measure => have := HI.out; simp [intOf] <;> omega
    · obtain rfl : i = n := by omega
      rw [HX.out]
      clear hx hn hi hli
      go_wp2_with fail
      go_ret
      exact ⟨rfl, rfl⟩
end Go.Proofs.YtloajfbehejehaaDoor
