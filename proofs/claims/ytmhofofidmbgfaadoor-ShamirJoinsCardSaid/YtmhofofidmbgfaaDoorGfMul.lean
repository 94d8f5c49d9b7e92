/- Contracts of the table's operations. -/
import Derived.Test.YtmhofofidmbgfaaDoorGfOps
import Derived.Lib.Hide
namespace Go.Proofs.YtmhofofidmbgfaaDoor
set_option linter.unusedVariables false
set_option linter.unusedSimpArgs false
open Go.RowKit

theorem Own.drewN {b : Nat} {w w1 : World} (h : Own b w w1) (n : Nat) : Own b w (w1.drewN n) := ⟨h.os, h.tape, h.output, h.size, h.block⟩

/-- What an operation leaves: a table that is there still, nothing else turned. -/
def Left (b : Nat) (w w' : World) : Prop := TabIn w' b ∧ Own b w w'

set_option maxHeartbeats 400000 in
theorem add_any (a c : Nat) (w : World) (ha : a < 256) (hc : c < 256) :
    Calls Tryd.prog 47 #[.int .u8 a, .int .u8 c] w fun e w' => e = .returned (.int .u8 (a ^^^ c : Nat)) ∧ w = w' := by
  have e1 : bits .xor .u8 (a : Int) (c : Int) = ((a ^^^ c : Nat) : Int) := u8_xor_nat a c ha hc
  go_enter Tryd.func47, Tryd.ntmps47
  go_wp2
  go_ret
  exact ⟨rfl, rfl⟩

set_option maxHeartbeats 400000 in
theorem mul_zero_left (b : Nat) (c : Nat) (w : World) :
    Calls Tryd.prog 53 #[.pointer (some ⟨b, 0, none⟩), .int .u8 0, .int .u8 c] w fun e w' => e = .returned (.int .u8 0) ∧ w = w' := by
  go_enter Tryd.func53, Tryd.ntmps53
  go_wp2_with fail
  go_ret
  exact ⟨rfl, rfl⟩

set_option maxHeartbeats 400000 in
theorem mul_zero_right (b : Nat) (a : Nat) (w : World) :
    Calls Tryd.prog 53 #[.pointer (some ⟨b, 0, none⟩), .int .u8 a, .int .u8 0] w fun e w' => e = .returned (.int .u8 0) ∧ w = w' := by
  by_cases h : a = 0
  · subst h; exact mul_zero_left b 0 w
  · have h1 : ((a : Int) == 0) = false := by rw [beq_eq_false_iff_ne]; omega
    clear h
    go_enter Tryd.func53, Tryd.ntmps53
    go_wp2_with fail
    go_ret
    exact ⟨rfl, rfl⟩

set_option maxRecDepth 100000 in
set_option maxHeartbeats 1600000 in
theorem mul_pos (b : Nat) (a c : Nat) (w : World) (h : TabIn w b) (ha : a < 256) (hc : c < 256) (ha0 : a ≠ 0) (hc0 : c ≠ 0) :
    Calls Tryd.prog 53 #[.pointer (some ⟨b, 0, none⟩), .int .u8 a, .int .u8 c] w fun e w' => e = .returned (.int .u8 (mulN a c)) ∧ Left b w w' := by
  have h1 : ((a : Int) == 0) = false := by rw [beq_eq_false_iff_ne]; omega
  have h2 : ((c : Int) == 0) = false := by rw [beq_eq_false_iff_ne]; omega
  rw [mulN_pos ha0 hc0]
  clear ha0 hc0
  go_enter Tryd.func53, Tryd.ntmps53
  go_wp2_with fail
  refine (ready_any b _ h).mono ?_
  rintro e w2 ⟨rfl, hT, hO⟩
  have l1 := log_lt ha
  have l2 := log_lt hc
  have c1 : w2.cell? ⟨b, 258 + a, none⟩ = some (.int .i64 (logN a)) := (hT.cell (258 + a)).trans (tab_l 1 0 hT.2.1 (L_at ha))
  have c2 : w2.cell? ⟨b, 258 + c, none⟩ = some (.int .i64 (logN c)) := (hT.cell (258 + c)).trans (tab_l 1 0 hT.2.1 (L_at hc))
  have c3 : w2.cell? ⟨b, 3 + (logN a + logN c) % 255, none⟩ = some (.int .u8 (expN ((logN a + logN c) % 255))) := (hT.cell _).trans (tab_p 1 0 _ (P_at (mod_lt _)))
  go_wp2_with fail
  go_quiet (fail)
  go_wp2_with fail
  go_ret
  exact ⟨rfl, .inr hT, hO.drewN _⟩

theorem mul_any (b : Nat) (a c : Nat) (w : World) (h : TabIn w b) (ha : a < 256) (hc : c < 256) :
    Calls Tryd.prog 53 #[.pointer (some ⟨b, 0, none⟩), .int .u8 a, .int .u8 c] w fun e w' => e = .returned (.int .u8 (mulN a c)) ∧ Left b w w' := by
  by_cases ha0 : a = 0
  · subst ha0; rw [mulN_zero_left]
    exact (mul_zero_left b c w).mono fun e w' ⟨he, hw⟩ => by subst hw; exact ⟨he, h, Own.refl _ _⟩
  · by_cases hc0 : c = 0
    · subst hc0; rw [mulN_zero_right]
      exact (mul_zero_right b a w).mono fun e w' ⟨he, hw⟩ => by subst hw; exact ⟨he, h, Own.refl _ _⟩
    · exact mul_pos b a c w h ha hc ha0 hc0

theorem mul_is {b a c x : Nat} (w : World) (h : TabIn w b) (ha : a < 256) (hc : c < 256) (hx : mulN a c = x) :
    Calls Tryd.prog 53 #[.pointer (some ⟨b, 0, none⟩), .int .u8 a, .int .u8 c] w fun e w' => e = .returned (.int .u8 x) ∧ Left b w w' := by
  subst hx; exact mul_any b a c w h ha hc

set_option maxHeartbeats 400000 in
theorem div_zero (b : Nat) (a : Nat) (w : World) :
    Calls Tryd.prog 46 #[.pointer (some ⟨b, 0, none⟩), .int .u8 a, .int .u8 0] w fun e w' => e = .returned (.tuple #[.int .u8 0, .iface 81 (.int .i64 1)]) ∧ w = w' := by
  go_enter Tryd.func46, Tryd.ntmps46
  go_wp2_with fail
  go_ret2
  exact ⟨rfl, rfl⟩

set_option maxHeartbeats 400000 in
theorem div_none (b : Nat) (c : Nat) (w : World) (hc0 : c ≠ 0) :
    Calls Tryd.prog 46 #[.pointer (some ⟨b, 0, none⟩), .int .u8 0, .int .u8 c] w fun e w' => e = .returned (.tuple #[.int .u8 0, .nilIface]) ∧ w = w' := by
  have h2 : ((c : Int) == 0) = false := by rw [beq_eq_false_iff_ne]; omega
  clear hc0
  go_enter Tryd.func46, Tryd.ntmps46
  go_wp2_with fail
  go_ret2
  exact ⟨rfl, rfl⟩

set_option maxRecDepth 100000 in
set_option maxHeartbeats 1600000 in
theorem div_pos (b : Nat) (a c : Nat) (w : World) (h : TabIn w b) (ha : a < 256) (hc : c < 256) (ha0 : a ≠ 0) (hc0 : c ≠ 0) :
    Calls Tryd.prog 46 #[.pointer (some ⟨b, 0, none⟩), .int .u8 a, .int .u8 c] w fun e w' => e = .returned (.tuple #[.int .u8 (divN a c), .nilIface]) ∧ Left b w w' := by
  have h1 : ((a : Int) == 0) = false := by rw [beq_eq_false_iff_ne]; omega
  have h2 : ((c : Int) == 0) = false := by rw [beq_eq_false_iff_ne]; omega
  rw [show divN a c = expN ((logN a + 255 - logN c) % 255) from if_neg ha0]
  clear ha0 hc0
  go_enter Tryd.func46, Tryd.ntmps46
  go_wp2_with fail
  refine (ready_any b _ h).mono ?_
  rintro e w2 ⟨rfl, hT, hO⟩
  have l1 := log_lt ha
  have l2 := log_lt hc
  have c1 : w2.cell? ⟨b, 258 + a, none⟩ = some (.int .i64 (logN a)) := (hT.cell (258 + a)).trans (tab_l 1 0 hT.2.1 (L_at ha))
  have c2 : w2.cell? ⟨b, 258 + c, none⟩ = some (.int .i64 (logN c)) := (hT.cell (258 + c)).trans (tab_l 1 0 hT.2.1 (L_at hc))
  have c3 : w2.cell? ⟨b, 3 + (logN a + 255 - logN c) % 255, none⟩ = some (.int .u8 (expN ((logN a + 255 - logN c) % 255))) := (hT.cell _).trans (tab_p 1 0 _ (P_at (mod_lt _)))
  go_wp2_with fail
  go_quiet (fail)
  go_wp2_with fail
  go_ret2
  exact ⟨rfl, .inr hT, hO.drewN _⟩

theorem div_any (b : Nat) (a c : Nat) (w : World) (h : TabIn w b) (ha : a < 256) (hc : c < 256) (hc0 : c ≠ 0) :
    Calls Tryd.prog 46 #[.pointer (some ⟨b, 0, none⟩), .int .u8 a, .int .u8 c] w fun e w' => e = .returned (.tuple #[.int .u8 (divN a c), .nilIface]) ∧ Left b w w' := by
  by_cases ha0 : a = 0
  · subst ha0; rw [show divN 0 c = 0 from if_pos rfl]
    exact (div_none b c w hc0).mono fun e w' ⟨he, hw⟩ => by subst hw; exact ⟨he, h, Own.refl _ _⟩
  · exact div_pos b a c w h ha hc ha0 hc0

end Go.Proofs.YtmhofofidmbgfaaDoor
