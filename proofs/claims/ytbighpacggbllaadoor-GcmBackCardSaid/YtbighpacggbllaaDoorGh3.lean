/- A number: its bits; moved by one place. -/
import Derived.Test.YtbighpacggbllaaDoorGh2
namespace Go.Proofs.YtbighpacggbllaaDoor
set_option linter.unusedVariables false
set_option linter.unusedSimpArgs false
open Go.RowKit

theorem has_eq (a k : Nat) (hk : k < 64) : Value.bool (IntKind.u64.wrap ((a : Int) * (2 : Int) ^ k) / 9223372036854775808 == 1) = Value.bool (a * 2 ^ k % 2 ^ 64 / 2 ^ 63 == 1) := by
  rw [IntKind.wrap_u64]
  have e : (a : Int) * (2 : Int) ^ k = ((a * 2 ^ k : Nat) : Int) := by push_cast; rfl
  rw [e]
  generalize a * 2 ^ k = n
  congr 1
  by_cases h : n % 2 ^ 64 / 2 ^ 63 = 1
  · have h' : (n : Int) % 18446744073709551616 / 9223372036854775808 = 1 := by omega
    rw [h, h']; rfl
  · have h' : ¬ (n : Int) % 18446744073709551616 / 9223372036854775808 = 1 := by omega
    simp only [beq_eq_false_iff_ne.mpr h, beq_eq_false_iff_ne.mpr h']

set_option maxRecDepth 100000 in
set_option maxHeartbeats 1000000 in
theorem has_any (a b k : Nat) (w : World) (hk : k < 128) :
    Calls Tryd.prog 41 #[.agg #[.int .u64 (a : Int), .int .u64 (b : Int)], .int .i64 (k : Int)] w fun e w' => e = .returned (.bool (hasN a b k)) ∧ Below w.heap.size w w' := by
  by_cases h : k < 64
  · have k0 : (0 : Int) ≤ (k : Int) := by omega
    have k1 : (k : Int) < 64 := by omega
    have he := Lib.hid (has_eq a k h)
    have hh : hasN a b k = (a * 2 ^ k % 2 ^ 64 / 2 ^ 63 == 1) := if_pos h
    have HB := Lib.hid ((Below.refl w.heap.size w).alloc (Nat.le_refl _) (.cells #[.int .u64 (a : Int), .int .u64 (b : Int)] 112))
    go_enter Tryd.func41, Tryd.ntmps41
    go_wp2_with fail
    go_ret
    refine ⟨?_, HB.out⟩
    rw [hh, ← he.out]; rfl
  · obtain ⟨j, rfl⟩ : ∃ j, k = 64 + j := ⟨k - 64, by omega⟩
    have k0 : (0 : Int) ≤ (j : Int) := by omega
    have k1 : ¬ ((64 + j : Nat) : Int) < 64 := by omega
    have k2 : (((64 + j : Nat) : Int) - 64) = (j : Int) := by omega
    have k3 : IntKind.i64.wrap (j : Int) = (j : Int) := IntWalk.i64_in _ (by omega)
    have he := Lib.hid (has_eq b j (by omega))
    have hh : hasN a b (64 + j) = (b * 2 ^ j % 2 ^ 64 / 2 ^ 63 == 1) := by
      unfold hasN; rw [if_neg h, show 64 + j - 64 = j by omega]
    have HB := Lib.hid ((Below.refl w.heap.size w).alloc (Nat.le_refl _) (.cells #[.int .u64 (a : Int), .int .u64 (b : Int)] 112))
    generalize hc : ((64 + j : Nat) : Int) = c at *
    have hw : IntKind.i64.wrap (c - 64) = (j : Int) := by rw [k2]; exact k3
    go_enter Tryd.func41, Tryd.ntmps41
    go_wp2_with fail
    go_ret
    refine ⟨?_, HB.out⟩
    exact congrArg Ending.returned he.out

end Go.Proofs.YtbighpacggbllaaDoor
