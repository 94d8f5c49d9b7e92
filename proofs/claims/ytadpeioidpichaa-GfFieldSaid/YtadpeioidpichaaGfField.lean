/- The walk of GfField, case by case. -/
import Derived.Test.YtadpeioidpichaaGfLaws
namespace Go.Proofs.Ytadpeioidpichaa
open Go.RowKit

set_option maxRecDepth 100000 in
set_option maxHeartbeats 4000000 in
theorem field_00 (c : Int) (w : World) (hc : B8 c) :
    Calls Try.prog 3 #[.int .u8 0, .int .u8 0, .int .u8 c] w fun e w' => e = .returned (.bool true) ∧ Below w.heap.size w w' := by
  go_enter Try.func3, Try.ntmps3
  go_wp2_with fail
  refine (gfnew_any _).mono ?_
  rintro e w0 ⟨rfl, hT0, hB0⟩
  go_wp2_with fail
  refine (div_0 _ B8_0).mono ?_
  rintro e w' ⟨rfl, rfl⟩
  go_wp2_with fail
  refine (mul_i (x := 0) _ hT0 B8_0 B8_0 (mulI_zero_left 0)).mono ?_
  rintro e w1 ⟨rfl, hT1, hO1⟩
  go_wp2_with fail
  refine (mul_i (x := 0) _ hT1 B8_0 B8_0 ((mulI_comm _ _).trans (mulI_zero_left 0))).mono ?_
  rintro e w2 ⟨rfl, hT2, hO2⟩
  go_wp2_with fail
  refine (mul_i (x := 0) _ hT2 B8_0 hc (mulI_zero_left c)).mono ?_
  rintro e w3 ⟨rfl, hT3, hO3⟩
  go_wp2_with fail
  refine (mul_i (x := 0) _ hT3 B8_0 B8_0 (mulI_zero_left _)).mono ?_
  rintro e w4 ⟨rfl, hT4, hO4⟩
  go_wp2_with fail
  refine (mul_i (x := 0) _ hT4 B8_0 B8_0 (mulI_zero_left 0)).mono ?_
  rintro e w5 ⟨rfl, hT5, hO5⟩
  go_wp2_with fail
  refine (mul_i (x := 0) _ hT5 B8_0 hc (mulI_zero_left _)).mono ?_
  rintro e w6 ⟨rfl, hT6, hO6⟩
  go_wp2_with fail
  refine (add_i (x := c) _ B8_0 hc ((xorI_comm _ _).trans (xorI_zero hc))).mono ?_
  rintro e w' ⟨rfl, rfl⟩
  go_wp2_with fail
  refine (mul_i (x := 0) _ hT6 B8_0 hc (mulI_zero_left _)).mono ?_
  rintro e w7 ⟨rfl, hT7, hO7⟩
  go_wp2_with fail
  refine (mul_i (x := 0) _ hT7 B8_0 B8_0 (mulI_zero_left 0)).mono ?_
  rintro e w8 ⟨rfl, hT8, hO8⟩
  go_wp2_with fail
  refine (mul_i (x := 0) _ hT8 B8_0 hc (mulI_zero_left c)).mono ?_
  rintro e w9 ⟨rfl, hT9, hO9⟩
  go_wp2_with fail
  refine (add_i (x := 0) _ B8_0 B8_0 (xorI_self 0)).mono ?_
  rintro e w' ⟨rfl, rfl⟩
  go_wp2_with fail
  refine (mul_i (x := 0) _ hT9 B8_0 B8_1 (mulI_zero_left 1)).mono ?_
  rintro e w10 ⟨rfl, hT10, hO10⟩
  go_wp2_with fail
  refine (add_i (x := 0) _ B8_0 B8_0 (xorI_self _)).mono ?_
  rintro e w' ⟨rfl, rfl⟩
  go_wp2_with fail
  refine (add_i (x := 0) _ B8_0 B8_0 (xorI_zero B8_0)).mono ?_
  rintro e w' ⟨rfl, rfl⟩
  go_wp2_with fail
  refine (add_i (x := 0) _ B8_0 B8_0 (xorI_self 0)).mono ?_
  rintro e w' ⟨rfl, rfl⟩
  go_wp2_with fail
  refine (add_i (x := 0) _ B8_0 B8_0 (xorI_self 0)).mono ?_
  rintro e w' ⟨rfl, rfl⟩
  go_wp2_with fail
  refine (add_i (x := c) _ B8_0 hc ((xorI_comm _ _).trans (xorI_zero hc))).mono ?_
  rintro e w' ⟨rfl, rfl⟩
  go_wp2_with fail
  refine (add_i (x := c) _ B8_0 hc ((xorI_comm _ _).trans (xorI_zero hc))).mono ?_
  rintro e w' ⟨rfl, rfl⟩
  go_wp2_with fail
  refine (add_i (x := 0) _ B8_0 B8_0 (xorI_self 0)).mono ?_
  rintro e w' ⟨rfl, rfl⟩
  go_wp2_with fail
  refine (add_i (x := c) _ B8_0 hc ((xorI_comm _ _).trans (xorI_zero hc))).mono ?_
  rintro e w' ⟨rfl, rfl⟩
  go_wp2_with fail
  refine (mul_i (x := 0) _ hT10 B8_0 B8_0 (mulI_zero_left 0)).mono ?_
  rintro e w11 ⟨rfl, hT11, hO11⟩
  go_wp2_with fail
  have hbel := (hB0.trans ((hO1.trans (hO2.trans (hO3.trans (hO4.trans (hO5.trans (hO6.trans (hO7.trans (hO8.trans (hO9.trans (hO10.trans hO11)))))))))).below (Nat.le_refl _) hB0.size))
  refine (sure_any _).mono ?_
  rintro e wz ⟨rfl, hbz⟩
  go_wp2_with fail
  go_ret
  exact ⟨rfl, hbel.trans (hbz.mono hbel.size)⟩

set_option maxRecDepth 100000 in
set_option maxHeartbeats 4000000 in
theorem field_0b (b c : Int) (w : World) (hb : B8 b) (hb0 : b ≠ 0) (hc : B8 c) :
    Calls Try.prog 3 #[.int .u8 0, .int .u8 b, .int .u8 c] w fun e w' => e = .returned (.bool true) ∧ Below w.heap.size w w' := by
  have nb : (b == 0) = false := by rw [beq_eq_false_iff_ne]; exact hb0
  have nb2 : (b != 0) = true := by rw [bne_iff_ne]; exact hb0
  have HB : Hid _ := hb0
  clear hb0
  go_enter Try.func3, Try.ntmps3
  go_wp2_with fail
  refine (gfnew_any _).mono ?_
  rintro e w0 ⟨rfl, hT0, hB0⟩
  go_wp2_with fail
  refine (div_i (x := 0) _ hT0 B8_0 hb HB.out (divI_zero b)).mono ?_
  rintro e w1 ⟨rfl, hT1, hO1⟩
  go_wp2_with fail
  refine (mul_i (x := 0) _ hT1 B8_0 hb (mulI_zero_left b)).mono ?_
  rintro e w2 ⟨rfl, hT2, hO2⟩
  go_wp2_with fail
  refine (mul_i (x := 0) _ hT2 hb B8_0 ((mulI_comm _ _).trans (mulI_zero_left b))).mono ?_
  rintro e w3 ⟨rfl, hT3, hO3⟩
  go_wp2_with fail
  refine (mul_i (x := mulI b c) _ hT3 hb hc (rfl)).mono ?_
  rintro e w4 ⟨rfl, hT4, hO4⟩
  go_wp2_with fail
  refine (mul_i (x := 0) _ hT4 B8_0 (B8_mul b c) (mulI_zero_left _)).mono ?_
  rintro e w5 ⟨rfl, hT5, hO5⟩
  go_wp2_with fail
  refine (mul_i (x := 0) _ hT5 B8_0 hb (mulI_zero_left b)).mono ?_
  rintro e w6 ⟨rfl, hT6, hO6⟩
  go_wp2_with fail
  refine (mul_i (x := 0) _ hT6 B8_0 hc (mulI_zero_left _)).mono ?_
  rintro e w7 ⟨rfl, hT7, hO7⟩
  go_wp2_with fail
  refine (add_i (x := xorI b c) _ hb hc (rfl)).mono ?_
  rintro e w' ⟨rfl, rfl⟩
  go_wp2_with fail
  refine (mul_i (x := 0) _ hT7 B8_0 (B8_xor hb hc) (mulI_zero_left _)).mono ?_
  rintro e w8 ⟨rfl, hT8, hO8⟩
  go_wp2_with fail
  refine (mul_i (x := 0) _ hT8 B8_0 hb (mulI_zero_left b)).mono ?_
  rintro e w9 ⟨rfl, hT9, hO9⟩
  go_wp2_with fail
  refine (mul_i (x := 0) _ hT9 B8_0 hc (mulI_zero_left c)).mono ?_
  rintro e w10 ⟨rfl, hT10, hO10⟩
  go_wp2_with fail
  refine (add_i (x := 0) _ B8_0 B8_0 (xorI_self 0)).mono ?_
  rintro e w' ⟨rfl, rfl⟩
  go_wp2_with fail
  refine (mul_i (x := 0) _ hT10 B8_0 B8_1 (mulI_zero_left 1)).mono ?_
  rintro e w11 ⟨rfl, hT11, hO11⟩
  go_wp2_with fail
  refine (add_i (x := 0) _ B8_0 B8_0 (xorI_self _)).mono ?_
  rintro e w' ⟨rfl, rfl⟩
  go_wp2_with fail
  refine (add_i (x := 0) _ B8_0 B8_0 (xorI_zero B8_0)).mono ?_
  rintro e w' ⟨rfl, rfl⟩
  go_wp2_with fail
  refine (add_i (x := b) _ B8_0 hb ((xorI_comm _ _).trans (xorI_zero hb))).mono ?_
  rintro e w' ⟨rfl, rfl⟩
  go_wp2_with fail
  refine (add_i (x := b) _ hb B8_0 (xorI_zero hb)).mono ?_
  rintro e w' ⟨rfl, rfl⟩
  go_wp2_with fail
  refine (add_i (x := xorI b c) _ hb hc (rfl)).mono ?_
  rintro e w' ⟨rfl, rfl⟩
  go_wp2_with fail
  refine (add_i (x := xorI b c) _ B8_0 (B8_xor hb hc) ((xorI_comm _ _).trans (xorI_zero (B8_xor hb hc)))).mono ?_
  rintro e w' ⟨rfl, rfl⟩
  go_wp2_with fail
  refine (add_i (x := b) _ B8_0 hb ((xorI_comm _ _).trans (xorI_zero hb))).mono ?_
  rintro e w' ⟨rfl, rfl⟩
  go_wp2_with fail
  refine (add_i (x := xorI b c) _ hb hc (rfl)).mono ?_
  rintro e w' ⟨rfl, rfl⟩
  go_wp2_with fail
  refine (mul_i (x := 0) _ hT11 B8_0 hb (mulI_zero_left b)).mono ?_
  rintro e w12 ⟨rfl, hT12, hO12⟩
  go_wp2_with fail
  refine (mul_i (x := 0) _ hT12 B8_0 hb (mulI_zero_left b)).mono ?_
  rintro e w13 ⟨rfl, hT13, hO13⟩
  go_wp2_with fail
  have hbel := (hB0.trans ((hO1.trans (hO2.trans (hO3.trans (hO4.trans (hO5.trans (hO6.trans (hO7.trans (hO8.trans (hO9.trans (hO10.trans (hO11.trans (hO12.trans hO13)))))))))))).below (Nat.le_refl _) hB0.size))
  refine (sure_any _).mono ?_
  rintro e wz ⟨rfl, hbz⟩
  go_wp2_with fail
  go_ret
  exact ⟨rfl, hbel.trans (hbz.mono hbel.size)⟩

set_option maxRecDepth 100000 in
set_option maxHeartbeats 4000000 in
theorem field_a0 (a c : Int) (w : World) (ha : B8 a) (ha0 : a ≠ 0) (hc : B8 c) :
    Calls Try.prog 3 #[.int .u8 a, .int .u8 0, .int .u8 c] w fun e w' => e = .returned (.bool true) ∧ Below w.heap.size w w' := by
  have na : (a == 0) = false := by rw [beq_eq_false_iff_ne]; exact ha0
  have HA : Hid _ := ha0
  clear ha0
  go_enter Try.func3, Try.ntmps3
  go_wp2_with fail
  refine (gfnew_any _).mono ?_
  rintro e w0 ⟨rfl, hT0, hB0⟩
  go_wp2_with fail
  refine (div_0 _ ha).mono ?_
  rintro e w' ⟨rfl, rfl⟩
  go_wp2_with fail
  refine (mul_i (x := 0) _ hT0 ha B8_0 (mulI_zero_right a)).mono ?_
  rintro e w1 ⟨rfl, hT1, hO1⟩
  go_wp2_with fail
  refine (mul_i (x := 0) _ hT1 B8_0 ha ((mulI_comm _ _).trans (mulI_zero_right a))).mono ?_
  rintro e w2 ⟨rfl, hT2, hO2⟩
  go_wp2_with fail
  refine (mul_i (x := 0) _ hT2 B8_0 hc (mulI_zero_left c)).mono ?_
  rintro e w3 ⟨rfl, hT3, hO3⟩
  go_wp2_with fail
  refine (mul_i (x := 0) _ hT3 ha B8_0 (mulI_zero_right _)).mono ?_
  rintro e w4 ⟨rfl, hT4, hO4⟩
  go_wp2_with fail
  refine (mul_i (x := 0) _ hT4 ha B8_0 (mulI_zero_right a)).mono ?_
  rintro e w5 ⟨rfl, hT5, hO5⟩
  go_wp2_with fail
  refine (mul_i (x := 0) _ hT5 B8_0 hc (mulI_zero_left _)).mono ?_
  rintro e w6 ⟨rfl, hT6, hO6⟩
  go_wp2_with fail
  refine (add_i (x := c) _ B8_0 hc ((xorI_comm _ _).trans (xorI_zero hc))).mono ?_
  rintro e w' ⟨rfl, rfl⟩
  go_wp2_with fail
  refine (mul_i (x := mulI a c) _ hT6 ha hc (rfl)).mono ?_
  rintro e w7 ⟨rfl, hT7, hO7⟩
  go_wp2_with fail
  refine (mul_i (x := 0) _ hT7 ha B8_0 (mulI_zero_right a)).mono ?_
  rintro e w8 ⟨rfl, hT8, hO8⟩
  go_wp2_with fail
  refine (mul_i (x := mulI a c) _ hT8 ha hc (rfl)).mono ?_
  rintro e w9 ⟨rfl, hT9, hO9⟩
  go_wp2_with fail
  refine (add_i (x := mulI a c) _ B8_0 (B8_mul a c) ((xorI_comm _ _).trans (xorI_zero (B8_mul a c)))).mono ?_
  rintro e w' ⟨rfl, rfl⟩
  go_wp2_with fail
  refine (mul_i (x := a) _ hT9 ha B8_1 (mulI_one ha)).mono ?_
  rintro e w10 ⟨rfl, hT10, hO10⟩
  go_wp2_with fail
  refine (add_i (x := 0) _ ha ha (xorI_self _)).mono ?_
  rintro e w' ⟨rfl, rfl⟩
  go_wp2_with fail
  refine (add_i (x := a) _ ha B8_0 (xorI_zero ha)).mono ?_
  rintro e w' ⟨rfl, rfl⟩
  go_wp2_with fail
  refine (add_i (x := a) _ ha B8_0 (xorI_zero ha)).mono ?_
  rintro e w' ⟨rfl, rfl⟩
  go_wp2_with fail
  refine (add_i (x := a) _ B8_0 ha ((xorI_comm _ _).trans (xorI_zero ha))).mono ?_
  rintro e w' ⟨rfl, rfl⟩
  go_wp2_with fail
  refine (add_i (x := c) _ B8_0 hc ((xorI_comm _ _).trans (xorI_zero hc))).mono ?_
  rintro e w' ⟨rfl, rfl⟩
  go_wp2_with fail
  refine (add_i (x := xorI a c) _ ha hc (rfl)).mono ?_
  rintro e w' ⟨rfl, rfl⟩
  go_wp2_with fail
  refine (add_i (x := a) _ ha B8_0 (xorI_zero ha)).mono ?_
  rintro e w' ⟨rfl, rfl⟩
  go_wp2_with fail
  refine (add_i (x := xorI a c) _ ha hc (rfl)).mono ?_
  rintro e w' ⟨rfl, rfl⟩
  go_wp2_with fail
  refine (mul_i (x := 0) _ hT10 ha B8_0 (mulI_zero_right a)).mono ?_
  rintro e w11 ⟨rfl, hT11, hO11⟩
  go_wp2_with fail
  have hbel := (hB0.trans ((hO1.trans (hO2.trans (hO3.trans (hO4.trans (hO5.trans (hO6.trans (hO7.trans (hO8.trans (hO9.trans (hO10.trans hO11)))))))))).below (Nat.le_refl _) hB0.size))
  refine (sure_any _).mono ?_
  rintro e wz ⟨rfl, hbz⟩
  go_wp2_with fail
  go_ret
  exact ⟨rfl, hbel.trans (hbz.mono hbel.size)⟩

set_option maxRecDepth 100000 in
set_option maxHeartbeats 4000000 in
theorem field_ab (a b c : Int) (w : World) (ha : B8 a) (ha0 : a ≠ 0) (hb : B8 b) (hb0 : b ≠ 0) (hc : B8 c) :
    Calls Try.prog 3 #[.int .u8 a, .int .u8 b, .int .u8 c] w fun e w' => e = .returned (.bool true) ∧ Below w.heap.size w w' := by
  have na : (a == 0) = false := by rw [beq_eq_false_iff_ne]; exact ha0
  have nb : (b == 0) = false := by rw [beq_eq_false_iff_ne]; exact hb0
  have nb2 : (b != 0) = true := by rw [bne_iff_ne]; exact hb0
  have np : (mulI a b == 0) = false := by rw [beq_eq_false_iff_ne]; exact mulI_ne ha hb ha0 hb0
  have HA : Hid _ := ha0
  clear ha0
  have HB : Hid _ := hb0
  clear hb0
  go_enter Try.func3, Try.ntmps3
  go_wp2_with fail
  refine (gfnew_any _).mono ?_
  rintro e w0 ⟨rfl, hT0, hB0⟩
  go_wp2_with fail
  refine (div_i (x := divI a b) _ hT0 ha hb HB.out rfl).mono ?_
  rintro e w1 ⟨rfl, hT1, hO1⟩
  go_wp2_with fail
  refine (mul_i (x := mulI a b) _ hT1 ha hb (rfl)).mono ?_
  rintro e w2 ⟨rfl, hT2, hO2⟩
  go_wp2_with fail
  refine (mul_i (x := mulI a b) _ hT2 hb ha ((mulI_comm _ _).trans (rfl))).mono ?_
  rintro e w3 ⟨rfl, hT3, hO3⟩
  go_wp2_with fail
  refine (mul_i (x := mulI b c) _ hT3 hb hc (rfl)).mono ?_
  rintro e w4 ⟨rfl, hT4, hO4⟩
  go_wp2_with fail
  refine (mul_i (x := mulI a (mulI b c)) _ hT4 ha (B8_mul b c) (rfl)).mono ?_
  rintro e w5 ⟨rfl, hT5, hO5⟩
  go_wp2_with fail
  refine (mul_i (x := mulI a b) _ hT5 ha hb (rfl)).mono ?_
  rintro e w6 ⟨rfl, hT6, hO6⟩
  go_wp2_with fail
  refine (mul_i (x := mulI a (mulI b c)) _ hT6 (B8_mul a b) hc ((mulI_assoc a b c).symm)).mono ?_
  rintro e w7 ⟨rfl, hT7, hO7⟩
  go_wp2_with fail
  refine (add_i (x := xorI b c) _ hb hc (rfl)).mono ?_
  rintro e w' ⟨rfl, rfl⟩
  go_wp2_with fail
  refine (mul_i (x := xorI (mulI a b) (mulI a c)) _ hT7 ha (B8_xor hb hc) (mulI_xor a hb hc)).mono ?_
  rintro e w8 ⟨rfl, hT8, hO8⟩
  go_wp2_with fail
  refine (mul_i (x := mulI a b) _ hT8 ha hb (rfl)).mono ?_
  rintro e w9 ⟨rfl, hT9, hO9⟩
  go_wp2_with fail
  refine (mul_i (x := mulI a c) _ hT9 ha hc (rfl)).mono ?_
  rintro e w10 ⟨rfl, hT10, hO10⟩
  go_wp2_with fail
  refine (add_i (x := xorI (mulI a b) (mulI a c)) _ (B8_mul a b) (B8_mul a c) (rfl)).mono ?_
  rintro e w' ⟨rfl, rfl⟩
  go_wp2_with fail
  refine (mul_i (x := a) _ hT10 ha B8_1 (mulI_one ha)).mono ?_
  rintro e w11 ⟨rfl, hT11, hO11⟩
  go_wp2_with fail
  refine (add_i (x := 0) _ ha ha (xorI_self _)).mono ?_
  rintro e w' ⟨rfl, rfl⟩
  go_wp2_with fail
  refine (add_i (x := a) _ ha B8_0 (xorI_zero ha)).mono ?_
  rintro e w' ⟨rfl, rfl⟩
  go_wp2_with fail
  refine (add_i (x := xorI a b) _ ha hb (rfl)).mono ?_
  rintro e w' ⟨rfl, rfl⟩
  go_wp2_with fail
  refine (add_i (x := xorI a b) _ hb ha (xorI_comm _ _)).mono ?_
  rintro e w' ⟨rfl, rfl⟩
  go_wp2_with fail
  refine (add_i (x := xorI b c) _ hb hc (rfl)).mono ?_
  rintro e w' ⟨rfl, rfl⟩
  go_wp2_with fail
  refine (add_i (x := xorI a (xorI b c)) _ ha (B8_xor hb hc) (rfl)).mono ?_
  rintro e w' ⟨rfl, rfl⟩
  go_wp2_with fail
  refine (add_i (x := xorI a b) _ ha hb (rfl)).mono ?_
  rintro e w' ⟨rfl, rfl⟩
  go_wp2_with fail
  refine (add_i (x := xorI a (xorI b c)) _ (B8_xor ha hb) hc ((xorI_assoc a b c).symm)).mono ?_
  rintro e w' ⟨rfl, rfl⟩
  go_wp2_with fail
  refine (mul_i (x := mulI a b) _ hT11 ha hb (rfl)).mono ?_
  rintro e w12 ⟨rfl, hT12, hO12⟩
  go_wp2_with fail
  refine (mul_i (x := a) _ hT12 (B8_div a b) hb (div_mulI ha hb HB.out)).mono ?_
  rintro e w13 ⟨rfl, hT13, hO13⟩
  go_wp2_with fail
  have hbel := (hB0.trans ((hO1.trans (hO2.trans (hO3.trans (hO4.trans (hO5.trans (hO6.trans (hO7.trans (hO8.trans (hO9.trans (hO10.trans (hO11.trans (hO12.trans hO13)))))))))))).below (Nat.le_refl _) hB0.size))
  refine (sure_any _).mono ?_
  rintro e wz ⟨rfl, hbz⟩
  go_wp2_with fail
  go_ret
  exact ⟨rfl, hbel.trans (hbz.mono hbel.size)⟩

theorem field_any (a b c : Int) (w : World) (ha : B8 a) (hb : B8 b) (hc : B8 c) :
    Calls Try.prog 3 #[.int .u8 a, .int .u8 b, .int .u8 c] w fun e w' => e = .returned (.bool true) ∧ Below w.heap.size w w' := by
  by_cases ha0 : a = 0
  · subst ha0
    by_cases hb0 : b = 0
    · subst hb0; exact field_00 c w hc
    · exact field_0b b c w hb hb0 hc
  · by_cases hb0 : b = 0
    · subst hb0; exact field_a0 a c w ha ha0 hc
    · exact field_ab a b c w ha ha0 hb hb0 hc

end Go.Proofs.Ytadpeioidpichaa
