/- Contracts of the table's operations. -/
import Derived.Test.YtkcbckafibjflaaGreatDoorGfOps
import Derived.Lib.Hide
namespace Go.Proofs.YtkcbckafibjflaaGreatDoor
set_option linter.unusedVariables false
set_option linter.unusedSimpArgs false
open Go.RowKit

theorem Own.drewN {b : Nat} {w w1 : World} (h : Own b w w1) (n : Nat) : Own b w (w1.drewN n) := ⟨h.os, h.tape, h.output, h.size, h.block⟩

/-- What an operation leaves: a table that is there still, nothing else turned. -/
def Left (b : Nat) (w w' : World) : Prop := TabIn w' b ∧ Own b w w'

set_option maxHeartbeats 400000 in
theorem div_zero (b : Nat) (a : Nat) (w : World) :
    Calls Tryz.prog 72 #[.pointer (some ⟨b, 0, none⟩), .int .u8 a, .int .u8 0] w fun e w' => e = .returned (.tuple #[.int .u8 0, .iface 47 (.int .i64 1)]) ∧ w = w' := by
  go_enter Tryz.func72, Tryz.ntmps72
  go_wp2_with fail
  go_ret2
  exact ⟨rfl, rfl⟩

set_option maxHeartbeats 400000 in
theorem div_none (b : Nat) (c : Nat) (w : World) (hc0 : c ≠ 0) :
    Calls Tryz.prog 72 #[.pointer (some ⟨b, 0, none⟩), .int .u8 0, .int .u8 c] w fun e w' => e = .returned (.tuple #[.int .u8 0, .nilIface]) ∧ w = w' := by
  have h2 : ((c : Int) == 0) = false := by rw [beq_eq_false_iff_ne]; omega
  clear hc0
  go_enter Tryz.func72, Tryz.ntmps72
  go_wp2_with fail
  go_ret2
  exact ⟨rfl, rfl⟩

set_option maxRecDepth 100000 in
set_option maxHeartbeats 1600000 in
theorem div_pos (b : Nat) (a c : Nat) (w : World) (h : TabIn w b) (ha : a < 256) (hc : c < 256) (ha0 : a ≠ 0) (hc0 : c ≠ 0) :
    Calls Tryz.prog 72 #[.pointer (some ⟨b, 0, none⟩), .int .u8 a, .int .u8 c] w fun e w' => e = .returned (.tuple #[.int .u8 (divN a c), .nilIface]) ∧ Left b w w' := by
  have h1 : ((a : Int) == 0) = false := by rw [beq_eq_false_iff_ne]; omega
  have h2 : ((c : Int) == 0) = false := by rw [beq_eq_false_iff_ne]; omega
  rw [show divN a c = expN ((logN a + 255 - logN c) % 255) from if_neg ha0]
  clear ha0 hc0
  go_enter Tryz.func72, Tryz.ntmps72
  go_wp2_with fail
  refine (ready_any b _ h).mono ?_
  rintro e w2 ⟨rfl, hT, hO⟩
  have l1 := log_lt ha
  have l2 := log_lt hc
  have c1 : w2.cell? ⟨b, 258 + a, none⟩ = some (.int .i64 (logN a)) := (hT.cell (258 + a)).trans (tab_l 1 0 hT.2.1 (L_at ha))
  have c2 : w2.cell? ⟨b, 258 + c, none⟩ = some (.int .i64 (logN c)) := (hT.cell (258 + c)).trans (tab_l 1 0 hT.2.1 (L_at hc))
  have c3 : w2.cell? ⟨b, 3 + (logN a + 255 - logN c) % 255, none⟩ = some (.int .u8 (expN ((logN a + 255 - logN c) % 255))) := (hT.cell _).trans (tab_p 1 0 _ (P_at (mod_lt _)))
  go_wp2_with fail
  go_quiet (fail)
  go_wp2_with fail
  go_ret2
  exact ⟨rfl, .inr hT, hO.drewN _⟩

theorem div_any (b : Nat) (a c : Nat) (w : World) (h : TabIn w b) (ha : a < 256) (hc : c < 256) (hc0 : c ≠ 0) :
    Calls Tryz.prog 72 #[.pointer (some ⟨b, 0, none⟩), .int .u8 a, .int .u8 c] w fun e w' => e = .returned (.tuple #[.int .u8 (divN a c), .nilIface]) ∧ Left b w w' := by
  by_cases ha0 : a = 0
  · subst ha0; rw [show divN 0 c = 0 from if_pos rfl]
    exact (div_none b c w hc0).mono fun e w' ⟨he, hw⟩ => by subst hw; exact ⟨he, h, Own.refl _ _⟩
  · exact div_pos b a c w h ha hc ha0 hc0

set_option maxHeartbeats 400000 in
theorem inv_zero (b : Nat) (w : World) :
    Calls Tryz.prog 66 #[.pointer (some ⟨b, 0, none⟩), .int .u8 0] w fun e w' => e = .returned (.tuple #[.int .u8 0, .iface 47 (.int .i64 1)]) ∧ w = w' := by
  go_enter Tryz.func66, Tryz.ntmps66
  go_wp2_with fail
  refine (div_zero b 1 _).mono ?_
  rintro e w2 ⟨rfl, rfl⟩
  go_wp2_with fail
  go_ret2
  exact ⟨rfl, rfl⟩

set_option maxHeartbeats 400000 in
theorem inv_any (b : Nat) (a : Nat) (w : World) (h : TabIn w b) (ha : a < 256) (ha0 : a ≠ 0) :
    Calls Tryz.prog 66 #[.pointer (some ⟨b, 0, none⟩), .int .u8 a] w fun e w' => e = .returned (.tuple #[.int .u8 (divN 1 a), .nilIface]) ∧ Left b w w' := by
  have hd := Lib.hid (div_any b 1 a w h (by decide) ha ha0)
  clear ha0
  go_enter Tryz.func66, Tryz.ntmps66
  go_wp2_with fail
  refine hd.out.mono ?_
  rintro e w2 ⟨rfl, hL⟩
  go_wp2_with fail
  go_ret2
  exact ⟨rfl, hL⟩

end Go.Proofs.YtkcbckafibjflaaGreatDoor
