/- Bytes that are turned: math/bits.RotateLeft8, and the program's spread. -/
import Derived.Test.YtkcbckafibjflaaGreatDoorGfInt
namespace Go.Proofs.YtkcbckafibjflaaGreatDoor
set_option linter.unusedVariables false
set_option linter.unusedSimpArgs false
open Go.RowKit

/-- A byte, turned. -/
def rotN (k v : Nat) : Nat := (v * 2 ^ k % 256) ||| (v / 2 ^ (8 - k))
theorem rotN_lt (k : Nat) {v : Nat} (h : v < 256) : rotN k v < 256 := by
  have h1 : v / 2 ^ (8 - k) ≤ v := Nat.div_le_self _ _
  exact Nat.or_lt_two_pow (n := 8) (Nat.mod_lt _ (by decide)) (by show _ < 256; omega)

set_option maxHeartbeats 400000 in
theorem rot_1 (a : Nat) (w : World) (h : a < 256) :
    Calls Tryz.prog 73 #[.int .u8 a, .int .i64 1] w fun e w' => e = .returned (.int .u8 (rotN 1 a : Nat)) ∧ w = w' := by
  have hb : bits .and .u64 1 7 = 1 := by decide
  have e1 : bits .or .u8 ((a : Int) * 2 % 256) ((a : Int) / 128) = (rotN 1 a : Nat) := by
    rw [show (a : Int) * 2 % 256 = ((a * 2 % 256 : Nat) : Int) from by omega, show (a : Int) / 128 = ((a / 128 : Nat) : Int) from by omega]
    exact u8_or_nat _ _ (Nat.mod_lt _ (by decide)) (by have := Nat.div_le_self a 128; omega)
  have E1 : Hid _ := e1
  clear e1
  go_enter Tryz.func73, Tryz.ntmps73
  go_wp2
  go_ret
  exact ⟨by rw [E1.out]; rfl, rfl⟩

set_option maxHeartbeats 400000 in
theorem rot_2 (a : Nat) (w : World) (h : a < 256) :
    Calls Tryz.prog 73 #[.int .u8 a, .int .i64 2] w fun e w' => e = .returned (.int .u8 (rotN 2 a : Nat)) ∧ w = w' := by
  have hb : bits .and .u64 2 7 = 2 := by decide
  have e1 : bits .or .u8 ((a : Int) * 4 % 256) ((a : Int) / 64) = (rotN 2 a : Nat) := by
    rw [show (a : Int) * 4 % 256 = ((a * 4 % 256 : Nat) : Int) from by omega, show (a : Int) / 64 = ((a / 64 : Nat) : Int) from by omega]
    exact u8_or_nat _ _ (Nat.mod_lt _ (by decide)) (by have := Nat.div_le_self a 64; omega)
  have E1 : Hid _ := e1
  clear e1
  go_enter Tryz.func73, Tryz.ntmps73
  go_wp2
  go_ret
  exact ⟨by rw [E1.out]; rfl, rfl⟩

set_option maxHeartbeats 400000 in
theorem rot_3 (a : Nat) (w : World) (h : a < 256) :
    Calls Tryz.prog 73 #[.int .u8 a, .int .i64 3] w fun e w' => e = .returned (.int .u8 (rotN 3 a : Nat)) ∧ w = w' := by
  have hb : bits .and .u64 3 7 = 3 := by decide
  have e1 : bits .or .u8 ((a : Int) * 8 % 256) ((a : Int) / 32) = (rotN 3 a : Nat) := by
    rw [show (a : Int) * 8 % 256 = ((a * 8 % 256 : Nat) : Int) from by omega, show (a : Int) / 32 = ((a / 32 : Nat) : Int) from by omega]
    exact u8_or_nat _ _ (Nat.mod_lt _ (by decide)) (by have := Nat.div_le_self a 32; omega)
  have E1 : Hid _ := e1
  clear e1
  go_enter Tryz.func73, Tryz.ntmps73
  go_wp2
  go_ret
  exact ⟨by rw [E1.out]; rfl, rfl⟩

set_option maxHeartbeats 400000 in
theorem rot_4 (a : Nat) (w : World) (h : a < 256) :
    Calls Tryz.prog 73 #[.int .u8 a, .int .i64 4] w fun e w' => e = .returned (.int .u8 (rotN 4 a : Nat)) ∧ w = w' := by
  have hb : bits .and .u64 4 7 = 4 := by decide
  have e1 : bits .or .u8 ((a : Int) * 16 % 256) ((a : Int) / 16) = (rotN 4 a : Nat) := by
    rw [show (a : Int) * 16 % 256 = ((a * 16 % 256 : Nat) : Int) from by omega, show (a : Int) / 16 = ((a / 16 : Nat) : Int) from by omega]
    exact u8_or_nat _ _ (Nat.mod_lt _ (by decide)) (by have := Nat.div_le_self a 16; omega)
  have E1 : Hid _ := e1
  clear e1
  go_enter Tryz.func73, Tryz.ntmps73
  go_wp2
  go_ret
  exact ⟨by rw [E1.out]; rfl, rfl⟩

/-- The bits of an inverse, spread. -/
def spreadN (v : Nat) : Nat := ((((v ^^^ 99) ^^^ rotN 1 v) ^^^ rotN 2 v) ^^^ rotN 3 v) ^^^ rotN 4 v
theorem spreadN_lt {v : Nat} (h : v < 256) : spreadN v < 256 :=
  xor_lt (xor_lt (xor_lt (xor_lt (xor_lt h (by decide)) (rotN_lt 1 h)) (rotN_lt 2 h)) (rotN_lt 3 h)) (rotN_lt 4 h)

set_option maxHeartbeats 1600000 in
theorem spread_any (v : Nat) (w : World) (h : v < 256) :
    Calls Tryz.prog 67 #[.int .u8 v] w fun e w' => e = .returned (.int .u8 (spreadN v : Nat)) ∧ w = w' := by
  have r1 := rot_1 v
  have r2 := rot_2 v
  have r3 := rot_3 v
  have r4 := rot_4 v
  have l1 := rotN_lt 1 h
  have l2 := rotN_lt 2 h
  have l3 := rotN_lt 3 h
  have l4 := rotN_lt 4 h
  have l0 : v ^^^ 99 < 256 := xor_lt h (by decide)
  have e0 : bits .xor .u8 (v : Int) 99 = ((v ^^^ 99 : Nat) : Int) := u8_xor_nat v 99 h (by decide)
  unfold spreadN
  generalize rotN 1 v = q1 at *
  generalize rotN 2 v = q2 at *
  generalize rotN 3 v = q3 at *
  generalize rotN 4 v = q4 at *
  generalize v ^^^ 99 = q0 at *
  have e1 : bits .xor .u8 (q0 : Int) (q1 : Int) = ((q0 ^^^ q1 : Nat) : Int) := u8_xor_nat _ _ l0 l1
  have l5 : q0 ^^^ q1 < 256 := xor_lt l0 l1
  generalize q0 ^^^ q1 = p1 at *
  have e2 : bits .xor .u8 (p1 : Int) (q2 : Int) = ((p1 ^^^ q2 : Nat) : Int) := u8_xor_nat _ _ l5 l2
  have l6 : p1 ^^^ q2 < 256 := xor_lt l5 l2
  generalize p1 ^^^ q2 = p2 at *
  have e3 : bits .xor .u8 (p2 : Int) (q3 : Int) = ((p2 ^^^ q3 : Nat) : Int) := u8_xor_nat _ _ l6 l3
  have l7 : p2 ^^^ q3 < 256 := xor_lt l6 l3
  generalize p2 ^^^ q3 = p3 at *
  have e4 : bits .xor .u8 (p3 : Int) (q4 : Int) = ((p3 ^^^ q4 : Nat) : Int) := u8_xor_nat _ _ l7 l4
  generalize p3 ^^^ q4 = p4 at *
  have R1 : Hid _ := r1
  have R2 : Hid _ := r2
  have R3 : Hid _ := r3
  have R4 : Hid _ := r4
  clear r1 r2 r3 r4
  go_enter Tryz.func67, Tryz.ntmps67
  go_wp2_with fail
  refine wp_loop_rounds 5 ?_
  rw [rounds_succ]
  go_wp2_with fail
  refine (R1.out _ h).mono ?_
  rintro e w' ⟨rfl, rfl⟩
  go_wp2_with fail
  rw [rounds_succ]
  go_wp2_with fail
  refine (R2.out _ h).mono ?_
  rintro e w' ⟨rfl, rfl⟩
  go_wp2_with fail
  rw [rounds_succ]
  go_wp2_with fail
  refine (R3.out _ h).mono ?_
  rintro e w' ⟨rfl, rfl⟩
  go_wp2_with fail
  rw [rounds_succ]
  go_wp2_with fail
  refine (R4.out _ h).mono ?_
  rintro e w' ⟨rfl, rfl⟩
  go_wp2_with fail
  rw [rounds_succ]
  go_wp2_with fail
  go_ret
  exact ⟨rfl, rfl⟩

end Go.Proofs.YtkcbckafibjflaaGreatDoor
