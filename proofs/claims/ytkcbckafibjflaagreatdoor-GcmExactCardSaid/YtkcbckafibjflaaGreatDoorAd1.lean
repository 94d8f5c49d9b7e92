/- AES, the document's side: a byte times 2 or 3. -/
import Derived.Test.YtkcbckafibjflaaGreatDoorAd0
namespace Go.Proofs.YtkcbckafibjflaaGreatDoor
set_option linter.unusedVariables false
set_option linter.unusedSimpArgs false
open Go.RowKit

theorem dbl_lo {a : Nat} (h : a < 128) : dbl a = a * 2 % 256 := by
  unfold dbl; rw [show a / 128 = 0 by omega, Nat.mul_zero, Nat.xor_zero]
theorem dbl_hi {a : Nat} (h : 128 ≤ a) (h2 : a < 256) : dbl a = (a * 2 % 256) ^^^ 27 := by
  unfold dbl; rw [show a / 128 = 1 by omega, Nat.mul_one]
set_option maxRecDepth 100000 in
set_option maxHeartbeats 1000000 in
theorem rt2_any (a : Nat) (w : World) (ha : a < 256) :
    Calls Tryz.prog 53 #[.int .u8 (a : Nat), .int .i64 2] w fun e w' => e = .returned (.int .u8 (dbl a : Nat)) ∧ Below w.heap.size w w' := by
  have e1 : IntKind.u8.wrap ((a : Int) * 2) = ((a * 2 % 256 : Nat) : Int) := by simp [IntKind.wrap, IntKind.bits, IntKind.signed]
  obtain ⟨v, hv⟩ : ∃ v, a * 2 % 256 = v := ⟨_, rfl⟩
  have hvl : v < 256 := by omega
  rw [hv] at e1
  by_cases h : a < 128
  · have h1 : ¬ (128 : Int) ≤ (a : Int) := by omega
    have e0 := dbl_lo h
    rw [hv] at e0
    rw [e0]; clear e0 hv h
    go_enter Tryz.func53, Tryz.ntmps53
    go_wp2_with fail
    go_ret
    exact ⟨rfl, Below.refl _ _⟩
  · have h1 : (128 : Int) ≤ (a : Int) := by omega
    have e0 := dbl_hi (by omega) ha
    rw [hv] at e0
    have e3 : bits .xor .u8 (v : Int) 27 = ((dbl a : Nat) : Int) := by rw [e0]; exact u8_xor_nat v 27 hvl (by decide)
    clear e0 hv h
    generalize dbl a = d at *
    go_enter Tryz.func53, Tryz.ntmps53
    go_wp2_with fail
    go_ret
    exact ⟨rfl, Below.refl _ _⟩
set_option maxRecDepth 100000 in
set_option maxHeartbeats 1000000 in
theorem rt3_any (a : Nat) (w : World) (ha : a < 256) :
    Calls Tryz.prog 53 #[.int .u8 (a : Nat), .int .i64 3] w fun e w' => e = .returned (.int .u8 (dbl a ^^^ a : Nat)) ∧ Below w.heap.size w w' := by
  have e1 : IntKind.u8.wrap ((a : Int) * 2) = ((a * 2 % 256 : Nat) : Int) := by simp [IntKind.wrap, IntKind.bits, IntKind.signed]
  have e4 : bits .xor .u8 (dbl a : Nat) (a : Nat) = ((dbl a ^^^ a : Nat) : Int) := u8_xor_nat _ _ (dbl_lt ha) ha
  obtain ⟨v, hv⟩ : ∃ v, a * 2 % 256 = v := ⟨_, rfl⟩
  have hvl : v < 256 := by omega
  rw [hv] at e1
  by_cases h : a < 128
  · have h1 : ¬ (128 : Int) ≤ (a : Int) := by omega
    have e0 := dbl_lo h
    rw [hv] at e0
    rw [e0] at e4 ⊢; clear e0 hv h
    generalize v ^^^ a = d at *
    go_enter Tryz.func53, Tryz.ntmps53
    go_wp2_with fail
    go_ret
    exact ⟨rfl, Below.refl _ _⟩
  · have h1 : (128 : Int) ≤ (a : Int) := by omega
    have e0 := dbl_hi (by omega) ha
    rw [hv] at e0
    have e3 : bits .xor .u8 (v : Int) 27 = ((dbl a : Nat) : Int) := by rw [e0]; exact u8_xor_nat v 27 hvl (by decide)
    clear e0 hv h
    generalize dbl a ^^^ a = x at *
    generalize dbl a = d at *
    go_enter Tryz.func53, Tryz.ntmps53
    go_wp2_with fail
    go_ret
    exact ⟨rfl, Below.refl _ _⟩
end Go.Proofs.YtkcbckafibjflaaGreatDoor
