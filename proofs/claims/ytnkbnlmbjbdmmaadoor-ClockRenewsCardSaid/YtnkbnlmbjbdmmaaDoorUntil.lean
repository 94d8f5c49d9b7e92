/- Contracts of Until and Renew, and of the document's own. -/
import Derived.Test.YtnkbnlmbjbdmmaaDoorClock
namespace Go.Proofs.YtnkbnlmbjbdmmaaDoor
open Go.RowKit

theorem tickI_bd {a b : Int} (ha : U64 a) (hb : U64 b) : U64 (tickI a b) := by
  unfold U64 at *; unfold tickI; split <;> omega

/-- The sooner one of two. -/
def minI (a b : Int) : Int := if b < a then b else a

set_option maxHeartbeats 400000 in
theorem until_z (a : Int) (w : World) :
    Calls Tryd.prog 6 #[.int .u64 a, .int .u64 0] w fun e w' => e = .returned (.tuple #[.int .u64 18446744073709551615, .nilIface]) ∧ w = w' := by
  go_enter Tryd.func6, Tryd.ntmps6
  go_wp2
  go_ret2
  exact ⟨rfl, rfl⟩

set_option maxHeartbeats 400000 in
theorem until_e (a b : Int) (w : World) (ha : U64 a) (hb : U64 b) (hz : (b == 0) = false) (ho : tickI a b = 18446744073709551615) :
    Calls Tryd.prog 6 #[.int .u64 a, .int .u64 b] w fun e w' => e = .returned (.tuple #[.int .u64 0, .iface 38 (.int .i64 19)]) ∧ w = w' := by
  have ho' : (tickI a b == 18446744073709551615) = true := by rw [beq_iff_eq]; exact ho
  clear ho
  go_enter Tryd.func6, Tryd.ntmps6
  go_wp2_with fail
  refine (tick_any _ _ _ ha hb).mono ?_
  rintro e w' ⟨rfl, rfl⟩
  go_wp2
  go_ret2
  exact ⟨rfl, rfl⟩

set_option maxHeartbeats 400000 in
theorem until_v (a b : Int) (w : World) (ha : U64 a) (hb : U64 b) (hz : (b == 0) = false) (ho : tickI a b ≠ 18446744073709551615) :
    Calls Tryd.prog 6 #[.int .u64 a, .int .u64 b] w fun e w' => e = .returned (.tuple #[.int .u64 (tickI a b), .nilIface]) ∧ w = w' := by
  have ho' : (tickI a b == 18446744073709551615) = false := by rw [beq_eq_false_iff_ne]; exact ho
  have hs : tickI a b = a + b := tickI_in (by intro h; exact ho (tickI_over h))
  obtain ⟨t0, t1⟩ := tickI_bd ha hb
  have h0 := ha
  have h1 := hb
  have ht0 : 0 ≤ a + b := by rw [← hs]; exact t0
  have ht1 : a + b ≤ 18446744073709551615 := by rw [← hs]; exact t1
  have Hs : Hid _ := hs
  clear hs ho t0 t1
  go_enter Tryd.func6, Tryd.ntmps6
  go_wp2_with fail
  refine (tick_any _ _ _ ha hb).mono ?_
  rintro e w' ⟨rfl, rfl⟩
  go_wp2
  go_ret2
  exact ⟨by first | rfl | (rw [Hs.out]; rfl), rfl⟩

set_option maxHeartbeats 400000 in
theorem runtil_z (a : Int) (w : World) :
    Calls Tryd.prog 7 #[.int .u64 a, .int .u64 0] w fun e w' => e = .returned (.tuple #[.int .u64 18446744073709551615, .int .i64 0]) ∧ w = w' := by
  go_enter Tryd.func7, Tryd.ntmps7
  go_wp2
  go_ret2
  exact ⟨rfl, rfl⟩

set_option maxHeartbeats 400000 in
theorem runtil_e (a b : Int) (w : World) (ha : U64 a) (hb : U64 b) (hz : (b == 0) = false) (ho : tickI a b = 18446744073709551615) :
    Calls Tryd.prog 7 #[.int .u64 a, .int .u64 b] w fun e w' => e = .returned (.tuple #[.int .u64 0, .int .i64 19]) ∧ w = w' := by
  have ho' : (tickI a b == 18446744073709551615) = true := by rw [beq_iff_eq]; exact ho
  clear ho
  go_enter Tryd.func7, Tryd.ntmps7
  go_wp2_with fail
  refine (rtick_any _ _ _ ha hb).mono ?_
  rintro e w' ⟨rfl, rfl⟩
  go_wp2
  go_ret2
  exact ⟨rfl, rfl⟩

set_option maxHeartbeats 400000 in
theorem runtil_v (a b : Int) (w : World) (ha : U64 a) (hb : U64 b) (hz : (b == 0) = false) (ho : tickI a b ≠ 18446744073709551615) :
    Calls Tryd.prog 7 #[.int .u64 a, .int .u64 b] w fun e w' => e = .returned (.tuple #[.int .u64 (tickI a b), .int .i64 0]) ∧ w = w' := by
  have ho' : (tickI a b == 18446744073709551615) = false := by rw [beq_eq_false_iff_ne]; exact ho
  have hs : tickI a b = a + b := tickI_in (by intro h; exact ho (tickI_over h))
  obtain ⟨t0, t1⟩ := tickI_bd ha hb
  have h0 := ha
  have h1 := hb
  have ht0 : 0 ≤ a + b := by rw [← hs]; exact t0
  have ht1 : a + b ≤ 18446744073709551615 := by rw [← hs]; exact t1
  have Hs : Hid _ := hs
  clear hs ho t0 t1
  go_enter Tryd.func7, Tryd.ntmps7
  go_wp2_with fail
  refine (rtick_any _ _ _ ha hb).mono ?_
  rintro e w' ⟨rfl, rfl⟩
  go_wp2
  go_ret2
  exact ⟨by first | rfl | (rw [Hs.out]; rfl), rfl⟩

set_option maxHeartbeats 400000 in
theorem renew_z (a c : Int) (w : World) :
    Calls Tryd.prog 8 #[.int .u64 a, .int .u64 0, .int .u64 c] w fun e w' => e = .returned (.tuple #[.int .u64 0, .iface 38 (.int .i64 1)]) ∧ w = w' := by
  go_enter Tryd.func8, Tryd.ntmps8
  go_wp2
  go_ret2
  exact ⟨rfl, rfl⟩

set_option maxHeartbeats 400000 in
theorem renew_e (a b c : Int) (w : World) (ha : U64 a) (hb : U64 b) (hz : (b == 0) = false) (ho : tickI a b = 18446744073709551615) :
    Calls Tryd.prog 8 #[.int .u64 a, .int .u64 b, .int .u64 c] w fun e w' => e = .returned (.tuple #[.int .u64 0, .iface 38 (.int .i64 19)]) ∧ w = w' := by
  have Ho : Hid _ := ho
  clear ho
  go_enter Tryd.func8, Tryd.ntmps8
  go_wp2_with fail
  refine (until_e _ _ _ ha hb hz Ho.out).mono ?_
  rintro e w' ⟨rfl, rfl⟩
  go_wp2
  go_ret2
  exact ⟨rfl, rfl⟩

set_option maxHeartbeats 400000 in
theorem renew_v (a b c : Int) (w : World) (ha : U64 a) (hb : U64 b) (hz : (b == 0) = false) (ho : tickI a b ≠ 18446744073709551615) :
    Calls Tryd.prog 8 #[.int .u64 a, .int .u64 b, .int .u64 c] w fun e w' => e = .returned (.tuple #[.int .u64 (minI (tickI a b) c), .nilIface]) ∧ w = w' := by
  have Ho : Hid _ := ho
  clear ho
  generalize hx : tickI a b = x
  by_cases hc : c < x
  · rw [show minI x c = c from if_pos hc]
    have Hx : Hid _ := hx
    clear hx
    go_enter Tryd.func8, Tryd.ntmps8
    go_wp2_with fail
    refine (until_v _ _ _ ha hb hz Ho.out).mono ?_
    rintro e w' ⟨rfl, rfl⟩
    rw [Hx.out]
    go_wp2
    go_ret2
    exact ⟨rfl, rfl⟩
  · rw [show minI x c = x from if_neg hc]
    have Hx : Hid _ := hx
    clear hx
    go_enter Tryd.func8, Tryd.ntmps8
    go_wp2_with fail
    refine (until_v _ _ _ ha hb hz Ho.out).mono ?_
    rintro e w' ⟨rfl, rfl⟩
    rw [Hx.out]
    go_wp2
    go_ret2
    exact ⟨rfl, rfl⟩

set_option maxHeartbeats 400000 in
theorem rrenew_z (a c : Int) (w : World) :
    Calls Tryd.prog 9 #[.int .u64 a, .int .u64 0, .int .u64 c] w fun e w' => e = .returned (.tuple #[.int .u64 0, .int .i64 1]) ∧ w = w' := by
  go_enter Tryd.func9, Tryd.ntmps9
  go_wp2
  go_ret2
  exact ⟨rfl, rfl⟩

set_option maxHeartbeats 400000 in
theorem rrenew_e (a b c : Int) (w : World) (ha : U64 a) (hb : U64 b) (hz : (b == 0) = false) (ho : tickI a b = 18446744073709551615) :
    Calls Tryd.prog 9 #[.int .u64 a, .int .u64 b, .int .u64 c] w fun e w' => e = .returned (.tuple #[.int .u64 0, .int .i64 19]) ∧ w = w' := by
  have Ho : Hid _ := ho
  clear ho
  go_enter Tryd.func9, Tryd.ntmps9
  go_wp2_with fail
  refine (runtil_e _ _ _ ha hb hz Ho.out).mono ?_
  rintro e w' ⟨rfl, rfl⟩
  go_wp2
  go_ret2
  exact ⟨rfl, rfl⟩

set_option maxHeartbeats 400000 in
theorem rrenew_v (a b c : Int) (w : World) (ha : U64 a) (hb : U64 b) (hz : (b == 0) = false) (ho : tickI a b ≠ 18446744073709551615) :
    Calls Tryd.prog 9 #[.int .u64 a, .int .u64 b, .int .u64 c] w fun e w' => e = .returned (.tuple #[.int .u64 (minI (tickI a b) c), .int .i64 0]) ∧ w = w' := by
  have Ho : Hid _ := ho
  clear ho
  generalize hx : tickI a b = x
  by_cases hc : c < x
  · rw [show minI x c = c from if_pos hc]
    have Hx : Hid _ := hx
    clear hx
    go_enter Tryd.func9, Tryd.ntmps9
    go_wp2_with fail
    refine (runtil_v _ _ _ ha hb hz Ho.out).mono ?_
    rintro e w' ⟨rfl, rfl⟩
    rw [Hx.out]
    go_wp2
    go_ret2
    exact ⟨rfl, rfl⟩
  · rw [show minI x c = x from if_neg hc]
    have Hx : Hid _ := hx
    clear hx
    go_enter Tryd.func9, Tryd.ntmps9
    go_wp2_with fail
    refine (runtil_v _ _ _ ha hb hz Ho.out).mono ?_
    rintro e w' ⟨rfl, rfl⟩
    rw [Hx.out]
    go_wp2
    go_ret2
    exact ⟨rfl, rfl⟩

end Go.Proofs.YtnkbnlmbjbdmmaaDoor
