/- The walk of GfPowers. -/
import Derived.Test.YtadpeioidpichaaDoorGfExact
namespace Go.Proofs.YtadpeioidpichaaDoor
open Go.RowKit

set_option maxRecDepth 100000 in
set_option maxHeartbeats 4000000 in
theorem powers_0n (n : Int) (w : World) (hg : Handle w) (hn : n < 0) :
    Calls Tryd.prog 4 #[.int .u8 0, .int .i64 n] w fun e w' => e = .returned (.bool true) ∧ Below w.heap.size w w' := by
  go_enter Tryd.func4, Tryd.ntmps4
  go_wp2_with fail
  refine (gfnew_any _).mono ?_
  rintro e w0 ⟨rfl, hT0, hB0⟩
  have hS0 := St.new hg hT0 hB0
  clear hT0 hB0
  go_wp2_with fail
  refine (pow_nil 1 1 _).mono ?_
  rintro e w' ⟨rfl, rfl⟩
  go_wp2_with fail
  refine (log_nil 1 _).mono ?_
  rintro e w' ⟨rfl, rfl⟩
  go_wp2_with fail
  refine (pow_neg 0 _ hn).mono ?_
  rintro e w' ⟨rfl, rfl⟩
  go_wp2_with fail
  refine (log_0 _).mono ?_
  rintro e w' ⟨rfl, rfl⟩
  go_wp2_with fail
  refine (num_err 1 _ hS0.2.1).mono ?_
  rintro e w1 ⟨rfl, hL1⟩
  have hS1 := hS0.later hL1
  clear hL1 hS0
  go_wp2_with fail
  refine (num_err 1 _ hS1.2.1).mono ?_
  rintro e w2 ⟨rfl, hL2⟩
  have hS2 := hS1.later hL2
  clear hL2 hS1
  go_wp2_with fail
  refine (num_err 1 _ hS2.2.1).mono ?_
  rintro e w3 ⟨rfl, hL3⟩
  have hS3 := hS2.later hL3
  clear hL3 hS2
  go_wp2_with fail
  refine (num_err 1 _ hS3.2.1).mono ?_
  rintro e w4 ⟨rfl, hL4⟩
  have hS4 := hS3.later hL4
  clear hL4 hS3
  go_wp2_with fail
  refine (sure_any _).mono ?_
  rintro e w5 ⟨rfl, hL5⟩
  have hS5 := hS4.later hL5
  clear hL5 hS4
  go_wp2_with fail
  go_ret
  exact ⟨rfl, hS5.2.2.1⟩

set_option maxRecDepth 100000 in
set_option maxHeartbeats 4000000 in
theorem powers_0p (n : Int) (w : World) (hg : Handle w) (hn : 0 ≤ n ∧ n ≤ 9223372036854775807) :
    Calls Tryd.prog 4 #[.int .u8 0, .int .i64 n] w fun e w' => e = .returned (.bool true) ∧ Below w.heap.size w w' := by
  obtain ⟨p, hp⟩ : ∃ p, powI 0 n = p := ⟨_, rfl⟩
  have Hp : Hid _ := hp
  clear hp
  go_enter Tryd.func4, Tryd.ntmps4
  go_wp2_with fail
  refine (gfnew_any _).mono ?_
  rintro e w0 ⟨rfl, hT0, hB0⟩
  have hS0 := St.new hg hT0 hB0
  clear hT0 hB0
  go_wp2_with fail
  refine (pow_nil 1 1 _).mono ?_
  rintro e w' ⟨rfl, rfl⟩
  go_wp2_with fail
  refine (log_nil 1 _).mono ?_
  rintro e w' ⟨rfl, rfl⟩
  go_wp2_with fail
  refine (pow_i (x := p) _ hS0.1 B8_0 hn Hp.out).mono ?_
  rintro e w1 ⟨rfl, hL1⟩
  have hS1 := hS0.left hL1
  clear hL1 hS0
  go_wp2_with fail
  refine (log_0 _).mono ?_
  rintro e w' ⟨rfl, rfl⟩
  go_wp2_with fail
  refine (num_err 1 _ hS1.2.1).mono ?_
  rintro e w2 ⟨rfl, hL2⟩
  have hS2 := hS1.later hL2
  clear hL2 hS1
  go_wp2_with fail
  refine (num_err 1 _ hS2.2.1).mono ?_
  rintro e w3 ⟨rfl, hL3⟩
  have hS3 := hS2.later hL3
  clear hL3 hS2
  go_wp2_with fail
  refine (refpow_is (x := p) _ B8_0 hn Hp.out).mono ?_
  rintro e w' ⟨rfl, rfl⟩
  go_wp2_with fail
  refine (num_err 1 _ hS3.2.1).mono ?_
  rintro e w4 ⟨rfl, hL4⟩
  have hS4 := hS3.later hL4
  clear hL4 hS3
  go_wp2_with fail
  refine (sure_any _).mono ?_
  rintro e w5 ⟨rfl, hL5⟩
  have hS5 := hS4.later hL5
  clear hL5 hS4
  go_wp2_with fail
  go_ret
  exact ⟨rfl, hS5.2.2.1⟩

set_option maxRecDepth 100000 in
set_option maxHeartbeats 4000000 in
theorem powers_an (a n : Int) (w : World) (hg : Handle w) (ha : B8 a) (ha0 : a ≠ 0) (hn : n < 0) :
    Calls Tryd.prog 4 #[.int .u8 a, .int .i64 n] w fun e w' => e = .returned (.bool true) ∧ Below w.heap.size w w' := by
  obtain ⟨l, hl⟩ : ∃ l, logI a = l := ⟨_, rfl⟩
  have Hl : Hid _ := hl
  clear hl
  have na : (a == 0) = false := by rw [beq_eq_false_iff_ne]; exact ha0
  have HA : Hid _ := ha0
  clear ha0
  go_enter Tryd.func4, Tryd.ntmps4
  go_wp2_with fail
  refine (gfnew_any _).mono ?_
  rintro e w0 ⟨rfl, hT0, hB0⟩
  have hS0 := St.new hg hT0 hB0
  clear hT0 hB0
  go_wp2_with fail
  refine (pow_nil 1 1 _).mono ?_
  rintro e w' ⟨rfl, rfl⟩
  go_wp2_with fail
  refine (log_nil 1 _).mono ?_
  rintro e w' ⟨rfl, rfl⟩
  go_wp2_with fail
  refine (pow_neg a _ hn).mono ?_
  rintro e w' ⟨rfl, rfl⟩
  go_wp2_with fail
  refine (log_i (x := l) _ hS0.1 ha HA.out Hl.out).mono ?_
  rintro e w1 ⟨rfl, hL1⟩
  have hS1 := hS0.left hL1
  clear hL1 hS0
  go_wp2_with fail
  refine (num_err 1 _ hS1.2.1).mono ?_
  rintro e w2 ⟨rfl, hL2⟩
  have hS2 := hS1.later hL2
  clear hL2 hS1
  go_wp2_with fail
  refine (num_err 1 _ hS2.2.1).mono ?_
  rintro e w3 ⟨rfl, hL3⟩
  have hS3 := hS2.later hL3
  clear hL3 hS2
  go_wp2_with fail
  refine (num_err 1 _ hS3.2.1).mono ?_
  rintro e w4 ⟨rfl, hL4⟩
  have hS4 := hS3.later hL4
  clear hL4 hS3
  go_wp2_with fail
  refine (reflog_is (x := l) _ ha HA.out Hl.out).mono ?_
  rintro e w' ⟨rfl, rfl⟩
  go_wp2_with fail
  refine (sure_any _).mono ?_
  rintro e w5 ⟨rfl, hL5⟩
  have hS5 := hS4.later hL5
  clear hL5 hS4
  go_wp2_with fail
  go_ret
  exact ⟨rfl, hS5.2.2.1⟩

set_option maxRecDepth 100000 in
set_option maxHeartbeats 4000000 in
theorem powers_ap (a n : Int) (w : World) (hg : Handle w) (ha : B8 a) (ha0 : a ≠ 0) (hn : 0 ≤ n ∧ n ≤ 9223372036854775807) :
    Calls Tryd.prog 4 #[.int .u8 a, .int .i64 n] w fun e w' => e = .returned (.bool true) ∧ Below w.heap.size w w' := by
  obtain ⟨p, hp⟩ : ∃ p, powI a n = p := ⟨_, rfl⟩
  have Hp : Hid _ := hp
  clear hp
  obtain ⟨l, hl⟩ : ∃ l, logI a = l := ⟨_, rfl⟩
  have Hl : Hid _ := hl
  clear hl
  have na : (a == 0) = false := by rw [beq_eq_false_iff_ne]; exact ha0
  have HA : Hid _ := ha0
  clear ha0
  go_enter Tryd.func4, Tryd.ntmps4
  go_wp2_with fail
  refine (gfnew_any _).mono ?_
  rintro e w0 ⟨rfl, hT0, hB0⟩
  have hS0 := St.new hg hT0 hB0
  clear hT0 hB0
  go_wp2_with fail
  refine (pow_nil 1 1 _).mono ?_
  rintro e w' ⟨rfl, rfl⟩
  go_wp2_with fail
  refine (log_nil 1 _).mono ?_
  rintro e w' ⟨rfl, rfl⟩
  go_wp2_with fail
  refine (pow_i (x := p) _ hS0.1 ha hn Hp.out).mono ?_
  rintro e w1 ⟨rfl, hL1⟩
  have hS1 := hS0.left hL1
  clear hL1 hS0
  go_wp2_with fail
  refine (log_i (x := l) _ hS1.1 ha HA.out Hl.out).mono ?_
  rintro e w2 ⟨rfl, hL2⟩
  have hS2 := hS1.left hL2
  clear hL2 hS1
  go_wp2_with fail
  refine (num_err 1 _ hS2.2.1).mono ?_
  rintro e w3 ⟨rfl, hL3⟩
  have hS3 := hS2.later hL3
  clear hL3 hS2
  go_wp2_with fail
  refine (num_err 1 _ hS3.2.1).mono ?_
  rintro e w4 ⟨rfl, hL4⟩
  have hS4 := hS3.later hL4
  clear hL4 hS3
  go_wp2_with fail
  refine (refpow_is (x := p) _ ha hn Hp.out).mono ?_
  rintro e w' ⟨rfl, rfl⟩
  go_wp2_with fail
  refine (reflog_is (x := l) _ ha HA.out Hl.out).mono ?_
  rintro e w' ⟨rfl, rfl⟩
  go_wp2_with fail
  refine (sure_any _).mono ?_
  rintro e w5 ⟨rfl, hL5⟩
  have hS5 := hS4.later hL5
  clear hL5 hS4
  go_wp2_with fail
  go_ret
  exact ⟨rfl, hS5.2.2.1⟩

theorem powers_any (a n : Int) (w : World) (hg : Handle w) (ha : B8 a) (hn : n ≤ 9223372036854775807) :
    Calls Tryd.prog 4 #[.int .u8 a, .int .i64 n] w fun e w' => e = .returned (.bool true) ∧ Below w.heap.size w w' := by
  by_cases ha0 : a = 0
  · subst ha0
    by_cases h : n < 0
    · exact powers_0n n w hg h
    · exact powers_0p n w hg ⟨by omega, hn⟩
  · by_cases h : n < 0
    · exact powers_an a n w hg ha ha0 h
    · exact powers_ap a n w hg ha ha0 ⟨by omega, hn⟩

end Go.Proofs.YtadpeioidpichaaDoor
