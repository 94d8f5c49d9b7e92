/- The walk of GfOrder. -/
import Derived.Test.YtadpeioidpichaaGfLaws
namespace Go.Proofs.Ytadpeioidpichaa
open Go.RowKit

theorem powI_255 {a : Int} (h : B8 a) (h0 : a ≠ 0) : powI a 255 = 1 := by
  unfold powI; rw [show (255 : Int).toNat = 255 from rfl, powN_255 (toNat_ne h h0)]; rfl
theorem powI_256 {a : Int} (h : B8 a) : powI a 256 = a := by
  unfold powI; rw [show (256 : Int).toNat = 256 from rfl, powN_256 h.lt]; unfold B8 at h; omega
theorem powI_two {a b : Int} (ha : B8 a) (hb : B8 b) : powI (xorI a b) 2 = xorI (mulI a a) (mulI b b) := by
  unfold powI xorI mulI; rw [Int.toNat_natCast, Int.toNat_natCast, Int.toNat_natCast, show (2 : Int).toNat = 2 from rfl, powN_two (xor_lt ha.lt hb.lt), xor_self_mul ha.lt hb.lt]
theorem divI_ne {a : Int} (h : B8 a) (h0 : a ≠ 0) : divI 1 a ≠ 0 := by
  intro e
  have := mul_div_one (toNat_ne h h0) h.lt
  unfold divI at e
  rw [show (1 : Int).toNat = 1 from rfl] at e
  rw [show divN 1 a.toNat = 0 from by omega, mulN_zero_right] at this
  cases this
theorem divI_div {a : Int} (h : B8 a) (h0 : a ≠ 0) : divI 1 (divI 1 a) = a := by
  unfold divI; rw [Int.toNat_natCast, show (1 : Int).toNat = 1 from rfl, div_one_div (toNat_ne h h0) h.lt]; unfold B8 at h; omega
theorem mul_divI {a : Int} (h : B8 a) (h0 : a ≠ 0) : mulI a (divI 1 a) = 1 := by
  unfold mulI divI; rw [Int.toNat_natCast, show (1 : Int).toNat = 1 from rfl, mul_div_one (toNat_ne h h0) h.lt]; rfl
theorem inv_0 {b : Nat} (w : World) :
    Calls Try.prog 13 #[.pointer (some ⟨b, 0, none⟩), .int .u8 0] w fun e w' => e = .returned (.tuple #[.int .u8 0, .iface 55 (.int .i64 1)]) ∧ w = w' := inv_zero b w

set_option maxRecDepth 100000 in
set_option maxHeartbeats 4000000 in
theorem order_0 (b : Int) (w : World) (hb : B8 b) :
    Calls Try.prog 5 #[.int .u8 0, .int .u8 b] w fun e w' => e = .returned (.bool true) ∧ Below w.heap.size w w' := by
  go_enter Try.func5, Try.ntmps5
  go_wp2_with fail
  refine (gfnew_any _).mono ?_
  rintro e w0 ⟨rfl, hT0, hB0⟩
  go_wp2_with fail
  refine (pow_i (x := 0) _ hT0 B8_0 (by decide) (by decide +kernel)).mono ?_
  rintro e w1 ⟨rfl, hT1, hO1⟩
  go_wp2_with fail
  refine (pow_i (x := 0) _ hT1 B8_0 (by decide) (powI_256 B8_0)).mono ?_
  rintro e w2 ⟨rfl, hT2, hO2⟩
  go_wp2_with fail
  refine (add_i (x := b) _ B8_0 hb ((xorI_comm _ _).trans (xorI_zero hb))).mono ?_
  rintro e w' ⟨rfl, rfl⟩
  go_wp2_with fail
  refine (pow_i (x := mulI b b) _ hT2 hb (by decide) (by have := powI_two B8_0 hb; rw [(xorI_comm 0 b).trans (xorI_zero hb), mulI_zero_left, xorI_comm, xorI_zero (B8_mul b b)] at this; exact this)).mono ?_
  rintro e w3 ⟨rfl, hT3, hO3⟩
  go_wp2_with fail
  refine (mul_i (x := 0) _ hT3 B8_0 B8_0 (mulI_zero_left 0)).mono ?_
  rintro e w4 ⟨rfl, hT4, hO4⟩
  go_wp2_with fail
  refine (mul_i (x := mulI b b) _ hT4 hb hb rfl).mono ?_
  rintro e w5 ⟨rfl, hT5, hO5⟩
  go_wp2_with fail
  refine (add_i (x := mulI b b) _ B8_0 (B8_mul b b) ((xorI_comm _ _).trans (xorI_zero (B8_mul b b)))).mono ?_
  rintro e w' ⟨rfl, rfl⟩
  go_wp2_with fail
  refine (inv_0 _).mono ?_
  rintro e w' ⟨rfl, rfl⟩
  go_wp2_with fail
  refine (inv_0 _).mono ?_
  rintro e w' ⟨rfl, rfl⟩
  go_wp2_with fail
  have hbel := (hB0.trans ((hO1.trans (hO2.trans (hO3.trans (hO4.trans hO5)))).below (Nat.le_refl _) hB0.size))
  refine (sure_any _).mono ?_
  rintro e wz ⟨rfl, hbz⟩
  go_wp2_with fail
  go_ret
  exact ⟨rfl, hbel.trans (hbz.mono hbel.size)⟩

set_option maxRecDepth 100000 in
set_option maxHeartbeats 4000000 in
theorem order_a (a b : Int) (w : World) (ha : B8 a) (ha0 : a ≠ 0) (hb : B8 b) :
    Calls Try.prog 5 #[.int .u8 a, .int .u8 b] w fun e w' => e = .returned (.bool true) ∧ Below w.heap.size w w' := by
  have na : (a == 0) = false := by rw [beq_eq_false_iff_ne]; exact ha0
  have HA : Hid _ := ha0
  clear ha0
  go_enter Try.func5, Try.ntmps5
  go_wp2_with fail
  refine (gfnew_any _).mono ?_
  rintro e w0 ⟨rfl, hT0, hB0⟩
  go_wp2_with fail
  refine (pow_i (x := 1) _ hT0 ha (by decide) (powI_255 ha HA.out)).mono ?_
  rintro e w1 ⟨rfl, hT1, hO1⟩
  go_wp2_with fail
  refine (pow_i (x := a) _ hT1 ha (by decide) (powI_256 ha)).mono ?_
  rintro e w2 ⟨rfl, hT2, hO2⟩
  go_wp2_with fail
  refine (add_i (x := xorI a b) _ ha hb (rfl)).mono ?_
  rintro e w' ⟨rfl, rfl⟩
  go_wp2_with fail
  refine (pow_i (x := xorI (mulI a a) (mulI b b)) _ hT2 (B8_xor ha hb) (by decide) (powI_two ha hb)).mono ?_
  rintro e w3 ⟨rfl, hT3, hO3⟩
  go_wp2_with fail
  refine (mul_i (x := mulI a a) _ hT3 ha ha (rfl)).mono ?_
  rintro e w4 ⟨rfl, hT4, hO4⟩
  go_wp2_with fail
  refine (mul_i (x := mulI b b) _ hT4 hb hb rfl).mono ?_
  rintro e w5 ⟨rfl, hT5, hO5⟩
  go_wp2_with fail
  refine (add_i (x := xorI (mulI a a) (mulI b b)) _ (B8_mul a a) (B8_mul b b) (rfl)).mono ?_
  rintro e w' ⟨rfl, rfl⟩
  go_wp2_with fail
  refine (inv_i (x := divI 1 a) _ hT5 ha HA.out rfl).mono ?_
  rintro e w6 ⟨rfl, hT6, hO6⟩
  go_wp2_with fail
  refine (inv_i (x := a) _ hT6 (B8_div 1 a) (divI_ne ha HA.out) (divI_div ha HA.out)).mono ?_
  rintro e w7 ⟨rfl, hT7, hO7⟩
  go_wp2_with fail
  refine (mul_i (x := 1) _ hT7 ha (B8_div 1 a) (mul_divI ha HA.out)).mono ?_
  rintro e w8 ⟨rfl, hT8, hO8⟩
  go_wp2_with fail
  have hbel := (hB0.trans ((hO1.trans (hO2.trans (hO3.trans (hO4.trans (hO5.trans (hO6.trans (hO7.trans hO8))))))).below (Nat.le_refl _) hB0.size))
  refine (sure_any _).mono ?_
  rintro e wz ⟨rfl, hbz⟩
  go_wp2_with fail
  go_ret
  exact ⟨rfl, hbel.trans (hbz.mono hbel.size)⟩

theorem order_any (a b : Int) (w : World) (ha : B8 a) (hb : B8 b) :
    Calls Try.prog 5 #[.int .u8 a, .int .u8 b] w fun e w' => e = .returned (.bool true) ∧ Below w.heap.size w w' := by
  by_cases ha0 : a = 0
  · subst ha0; exact order_0 b w hb
  · exact order_a a b w ha ha0 hb

end Go.Proofs.Ytadpeioidpichaa
