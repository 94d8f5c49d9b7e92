/- The walk of GfLogs. -/
import Derived.Test.YtadpeioidpichaaGfOrder
namespace Go.Proofs.Ytadpeioidpichaa
open Go.RowKit

theorem Below.drewNN {B : Nat} {a w : World} (h : Below B a w) (n : Nat) : Below B a (w.drewN n) := ⟨h.os, h.tape, h.output, h.size, h.block⟩
theorem powI_add {a m n : Int} (h : B8 a) (hm : 0 ≤ m) (hn : 0 ≤ n) : mulI (powI a m) (powI a n) = powI a (m + n) := by
  unfold mulI powI; rw [Int.toNat_natCast, Int.toNat_natCast, powN_add h.lt, Int.toNat_add hm hn]
theorem log_mulI {a b : Int} (ha : B8 a) (ha0 : a ≠ 0) (hb : B8 b) (hb0 : b ≠ 0) : logI (mulI a b) = (logI a + logI b) % 255 := by
  unfold logI mulI; rw [Int.toNat_natCast, log_mul (toNat_ne ha ha0) (toNat_ne hb hb0)]; omega
theorem pow_logI {a : Int} (ha : B8 a) (ha0 : a ≠ 0) : powI 3 (logI a) = a := by
  unfold powI logI; rw [Int.toNat_natCast, show (3 : Int).toNat = 3 from rfl, powN_three_log (toNat_ne ha ha0) ha.lt]; unfold B8 at ha; omega

set_option maxRecDepth 100000 in
set_option maxHeartbeats 4000000 in
theorem logs_00 (m n : Int) (w : World) (hm : 0 ≤ m ∧ m ≤ 65535) (hn : 0 ≤ n ∧ n ≤ 65535) :
    Calls Try.prog 4 #[.int .u8 0, .int .u8 0, .agg #[.int .u16 m, .int .u16 n]] w fun e w' => e = .returned (.bool true) ∧ Below w.heap.size w w' := by
  obtain ⟨m0, m1⟩ := id hm
  obtain ⟨n0, n1⟩ := id hn
  go_enter Try.func4, Try.ntmps4
  go_wp2_with fail
  go_quiet (fail)
  have hbelw : Below w.heap.size w ((w.alloc (.cells #[.int .u16 m, .int .u16 n] 32)).drewN nq) := Below.drewNN ((Below.refl _ _).alloc (Nat.le_refl _) _) _
  generalize (w.alloc (.cells #[.int .u16 m, .int .u16 n] 32)).drewN nq = wq at *
  go_wp2_with fail
  refine (gfnew_any _).mono ?_
  rintro e w0 ⟨rfl, hT0, hB0⟩
  go_wp2_with fail
  refine (pow_i (x := powI 0 m) _ hT0 B8_0 (by omega) rfl).mono ?_
  rintro e w1 ⟨rfl, hT1, hO1⟩
  go_wp2_with fail
  refine (pow_i (x := powI 0 n) _ hT1 B8_0 (by omega) rfl).mono ?_
  rintro e w2 ⟨rfl, hT2, hO2⟩
  go_wp2_with fail
  refine (pow_i (x := powI 0 (m + n)) _ hT2 B8_0 (by omega) rfl).mono ?_
  rintro e w3 ⟨rfl, hT3, hO3⟩
  go_wp2_with fail
  refine (mul_i (x := powI 0 (m + n)) _ hT3 (B8_pow _ _) (B8_pow _ _) (powI_add B8_0 hm.1 hn.1)).mono ?_
  rintro e w4 ⟨rfl, hT4, hO4⟩
  go_wp2_with fail
  have hbel := hbelw.trans (Below.mono (hB0.trans ((hO1.trans (hO2.trans (hO3.trans hO4))).below (Nat.le_refl _) hB0.size)) hbelw.size)
  refine (sure_any _).mono ?_
  rintro e wz ⟨rfl, hbz⟩
  go_wp2_with fail
  go_ret
  exact ⟨rfl, hbel.trans (hbz.mono hbel.size)⟩

set_option maxRecDepth 100000 in
set_option maxHeartbeats 4000000 in
theorem logs_0b (b m n : Int) (w : World) (hb : B8 b) (hb0 : b ≠ 0) (hm : 0 ≤ m ∧ m ≤ 65535) (hn : 0 ≤ n ∧ n ≤ 65535) :
    Calls Try.prog 4 #[.int .u8 0, .int .u8 b, .agg #[.int .u16 m, .int .u16 n]] w fun e w' => e = .returned (.bool true) ∧ Below w.heap.size w w' := by
  obtain ⟨m0, m1⟩ := id hm
  obtain ⟨n0, n1⟩ := id hn
  have nb : (b == 0) = false := by rw [beq_eq_false_iff_ne]; exact hb0
  have HB : Hid _ := hb0
  clear hb0
  go_enter Try.func4, Try.ntmps4
  go_wp2_with fail
  go_quiet (fail)
  have hbelw : Below w.heap.size w ((w.alloc (.cells #[.int .u16 m, .int .u16 n] 32)).drewN nq) := Below.drewNN ((Below.refl _ _).alloc (Nat.le_refl _) _) _
  generalize (w.alloc (.cells #[.int .u16 m, .int .u16 n] 32)).drewN nq = wq at *
  go_wp2_with fail
  refine (gfnew_any _).mono ?_
  rintro e w0 ⟨rfl, hT0, hB0⟩
  go_wp2_with fail
  refine (pow_i (x := powI 0 m) _ hT0 B8_0 (by omega) rfl).mono ?_
  rintro e w1 ⟨rfl, hT1, hO1⟩
  go_wp2_with fail
  refine (pow_i (x := powI 0 n) _ hT1 B8_0 (by omega) rfl).mono ?_
  rintro e w2 ⟨rfl, hT2, hO2⟩
  go_wp2_with fail
  refine (pow_i (x := powI 0 (m + n)) _ hT2 B8_0 (by omega) rfl).mono ?_
  rintro e w3 ⟨rfl, hT3, hO3⟩
  go_wp2_with fail
  refine (mul_i (x := powI 0 (m + n)) _ hT3 (B8_pow _ _) (B8_pow _ _) (powI_add B8_0 hm.1 hn.1)).mono ?_
  rintro e w4 ⟨rfl, hT4, hO4⟩
  go_wp2_with fail
  have hbel := hbelw.trans (Below.mono (hB0.trans ((hO1.trans (hO2.trans (hO3.trans hO4))).below (Nat.le_refl _) hB0.size)) hbelw.size)
  refine (sure_any _).mono ?_
  rintro e wz ⟨rfl, hbz⟩
  go_wp2_with fail
  go_ret
  exact ⟨rfl, hbel.trans (hbz.mono hbel.size)⟩

set_option maxRecDepth 100000 in
set_option maxHeartbeats 4000000 in
theorem logs_a0 (a m n : Int) (w : World) (ha : B8 a) (ha0 : a ≠ 0) (hm : 0 ≤ m ∧ m ≤ 65535) (hn : 0 ≤ n ∧ n ≤ 65535) :
    Calls Try.prog 4 #[.int .u8 a, .int .u8 0, .agg #[.int .u16 m, .int .u16 n]] w fun e w' => e = .returned (.bool true) ∧ Below w.heap.size w w' := by
  obtain ⟨m0, m1⟩ := id hm
  obtain ⟨n0, n1⟩ := id hn
  have na : (a == 0) = false := by rw [beq_eq_false_iff_ne]; exact ha0
  have HA : Hid _ := ha0
  clear ha0
  go_enter Try.func4, Try.ntmps4
  go_wp2_with fail
  go_quiet (fail)
  have hbelw : Below w.heap.size w ((w.alloc (.cells #[.int .u16 m, .int .u16 n] 32)).drewN nq) := Below.drewNN ((Below.refl _ _).alloc (Nat.le_refl _) _) _
  generalize (w.alloc (.cells #[.int .u16 m, .int .u16 n] 32)).drewN nq = wq at *
  go_wp2_with fail
  refine (gfnew_any _).mono ?_
  rintro e w0 ⟨rfl, hT0, hB0⟩
  go_wp2_with fail
  refine (pow_i (x := powI a m) _ hT0 ha (by omega) rfl).mono ?_
  rintro e w1 ⟨rfl, hT1, hO1⟩
  go_wp2_with fail
  refine (pow_i (x := powI a n) _ hT1 ha (by omega) rfl).mono ?_
  rintro e w2 ⟨rfl, hT2, hO2⟩
  go_wp2_with fail
  refine (pow_i (x := powI a (m + n)) _ hT2 ha (by omega) rfl).mono ?_
  rintro e w3 ⟨rfl, hT3, hO3⟩
  go_wp2_with fail
  refine (mul_i (x := powI a (m + n)) _ hT3 (B8_pow _ _) (B8_pow _ _) (powI_add ha hm.1 hn.1)).mono ?_
  rintro e w4 ⟨rfl, hT4, hO4⟩
  go_wp2_with fail
  have hbel := hbelw.trans (Below.mono (hB0.trans ((hO1.trans (hO2.trans (hO3.trans hO4))).below (Nat.le_refl _) hB0.size)) hbelw.size)
  refine (sure_any _).mono ?_
  rintro e wz ⟨rfl, hbz⟩
  go_wp2_with fail
  go_ret
  exact ⟨rfl, hbel.trans (hbz.mono hbel.size)⟩

set_option maxRecDepth 100000 in
set_option maxHeartbeats 4000000 in
theorem logs_ab (a b m n : Int) (w : World) (ha : B8 a) (ha0 : a ≠ 0) (hb : B8 b) (hb0 : b ≠ 0) (hm : 0 ≤ m ∧ m ≤ 65535) (hn : 0 ≤ n ∧ n ≤ 65535) :
    Calls Try.prog 4 #[.int .u8 a, .int .u8 b, .agg #[.int .u16 m, .int .u16 n]] w fun e w' => e = .returned (.bool true) ∧ Below w.heap.size w w' := by
  obtain ⟨m0, m1⟩ := id hm
  obtain ⟨n0, n1⟩ := id hn
  have na : (a == 0) = false := by rw [beq_eq_false_iff_ne]; exact ha0
  have HA : Hid _ := ha0
  clear ha0
  have nb : (b == 0) = false := by rw [beq_eq_false_iff_ne]; exact hb0
  have HB : Hid _ := hb0
  clear hb0
  obtain ⟨la0, la1⟩ := logI_bd ha
  obtain ⟨lb0, lb1⟩ := logI_bd hb
  go_enter Try.func4, Try.ntmps4
  go_wp2_with fail
  go_quiet (fail)
  have hbelw : Below w.heap.size w ((w.alloc (.cells #[.int .u16 m, .int .u16 n] 32)).drewN nq) := Below.drewNN ((Below.refl _ _).alloc (Nat.le_refl _) _) _
  generalize (w.alloc (.cells #[.int .u16 m, .int .u16 n] 32)).drewN nq = wq at *
  go_wp2_with fail
  refine (gfnew_any _).mono ?_
  rintro e w0 ⟨rfl, hT0, hB0⟩
  go_wp2_with fail
  refine (pow_i (x := powI a m) _ hT0 ha (by omega) rfl).mono ?_
  rintro e w1 ⟨rfl, hT1, hO1⟩
  go_wp2_with fail
  refine (pow_i (x := powI a n) _ hT1 ha (by omega) rfl).mono ?_
  rintro e w2 ⟨rfl, hT2, hO2⟩
  go_wp2_with fail
  refine (pow_i (x := powI a (m + n)) _ hT2 ha (by omega) rfl).mono ?_
  rintro e w3 ⟨rfl, hT3, hO3⟩
  go_wp2_with fail
  refine (mul_i (x := powI a (m + n)) _ hT3 (B8_pow _ _) (B8_pow _ _) (powI_add ha hm.1 hn.1)).mono ?_
  rintro e w4 ⟨rfl, hT4, hO4⟩
  go_wp2_with fail
  refine (log_i (x := logI a) _ hT4 ha HA.out rfl).mono ?_
  rintro e w5 ⟨rfl, hT5, hO5⟩
  go_wp2_with fail
  refine (log_i (x := logI b) _ hT5 hb HB.out rfl).mono ?_
  rintro e w6 ⟨rfl, hT6, hO6⟩
  go_wp2_with fail
  refine (mul_i (x := mulI a b) _ hT6 ha hb rfl).mono ?_
  rintro e w7 ⟨rfl, hT7, hO7⟩
  go_wp2_with fail
  refine (log_i (x := (logI a + logI b) % 255) _ hT7 (B8_mul a b) (mulI_ne ha hb HA.out HB.out) (log_mulI ha HA.out hb HB.out)).mono ?_
  rintro e w8 ⟨rfl, hT8, hO8⟩
  go_wp2_with fail
  refine (pow_i (x := a) _ hT8 (by unfold B8; omega) (by omega) (pow_logI ha HA.out)).mono ?_
  rintro e w9 ⟨rfl, hT9, hO9⟩
  go_wp2_with fail
  have hbel := hbelw.trans (Below.mono (hB0.trans ((hO1.trans (hO2.trans (hO3.trans (hO4.trans (hO5.trans (hO6.trans (hO7.trans (hO8.trans hO9)))))))).below (Nat.le_refl _) hB0.size)) hbelw.size)
  refine (sure_any _).mono ?_
  rintro e wz ⟨rfl, hbz⟩
  go_wp2_with fail
  go_ret
  exact ⟨rfl, hbel.trans (hbz.mono hbel.size)⟩

theorem logs_any (a b m n : Int) (w : World) (ha : B8 a) (hb : B8 b) (hm : 0 ≤ m ∧ m ≤ 65535) (hn : 0 ≤ n ∧ n ≤ 65535) :
    Calls Try.prog 4 #[.int .u8 a, .int .u8 b, .agg #[.int .u16 m, .int .u16 n]] w fun e w' => e = .returned (.bool true) ∧ Below w.heap.size w w' := by
  by_cases ha0 : a = 0
  · subst ha0
    by_cases hb0 : b = 0
    · subst hb0; exact logs_00 m n w hm hn
    · exact logs_0b b m n w hb hb0 hm hn
  · by_cases hb0 : b = 0
    · subst hb0; exact logs_a0 a m n w ha ha0 hm hn
    · exact logs_ab a b m n w ha ha0 hb hb0 hm hn

end Go.Proofs.Ytadpeioidpichaa
