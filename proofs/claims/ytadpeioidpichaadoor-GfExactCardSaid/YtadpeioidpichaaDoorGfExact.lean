/- Contracts of a nil table; and the walks of GfExact and GfPowers. -/
import Derived.Test.YtadpeioidpichaaDoorGfRefs
import Derived.Test.YtadpeioidpichaaDoorGfLaws
import Derived.Test.YtadpeioidpichaaDoorNum
namespace Go.Proofs.YtadpeioidpichaaDoor
open Go.RowKit

set_option maxHeartbeats 400000 in
theorem div_nil (a c : Int) (w : World) :
    Calls Tryd.prog 7 #[.pointer none, .int .u8 a, .int .u8 c] w fun e w' => e = .returned (.tuple #[.int .u8 0, .iface 57 (.int .i64 1)]) ∧ w = w' := by
  go_enter Tryd.func7, Tryd.ntmps7
  go_wp2_with fail
  go_ret2
  exact ⟨rfl, rfl⟩
set_option maxHeartbeats 400000 in
theorem inv_nil (a : Int) (w : World) :
    Calls Tryd.prog 6 #[.pointer none, .int .u8 a] w fun e w' => e = .returned (.tuple #[.int .u8 0, .iface 57 (.int .i64 1)]) ∧ w = w' := by
  go_enter Tryd.func6, Tryd.ntmps6
  go_wp2_with fail
  refine (div_nil 1 a _).mono ?_
  rintro e w2 ⟨rfl, rfl⟩
  go_wp2_with fail
  go_ret2
  exact ⟨rfl, rfl⟩
set_option maxHeartbeats 400000 in
theorem mul_nil (a c : Int) (w : World) :
    Calls Tryd.prog 8 #[.pointer none, .int .u8 a, .int .u8 c] w fun e w' => e = .returned (.int .u8 0) ∧ w = w' := by
  go_enter Tryd.func8, Tryd.ntmps8
  go_wp2_with fail
  go_ret
  exact ⟨rfl, rfl⟩
set_option maxHeartbeats 400000 in
theorem pow_nil (a n : Int) (w : World) :
    Calls Tryd.prog 15 #[.pointer none, .int .u8 a, .int .i64 n] w fun e w' => e = .returned (.tuple #[.int .u8 0, .iface 57 (.int .i64 1)]) ∧ w = w' := by
  go_enter Tryd.func15, Tryd.ntmps15
  go_wp2_with fail
  go_ret2
  exact ⟨rfl, rfl⟩
set_option maxHeartbeats 400000 in
theorem log_nil (a : Int) (w : World) :
    Calls Tryd.prog 16 #[.pointer none, .int .u8 a] w fun e w' => e = .returned (.tuple #[.int .i64 0, .iface 57 (.int .i64 1)]) ∧ w = w' := by
  go_enter Tryd.func16, Tryd.ntmps16
  go_wp2_with fail
  go_ret2
  exact ⟨rfl, rfl⟩
set_option maxHeartbeats 400000 in
theorem pow_neg {b : Nat} {n : Int} (a : Int) (w : World) (hn : n < 0) :
    Calls Tryd.prog 15 #[.pointer (some ⟨b, 0, none⟩), .int .u8 a, .int .i64 n] w fun e w' => e = .returned (.tuple #[.int .u8 0, .iface 57 (.int .i64 1)]) ∧ w = w' := by
  go_enter Tryd.func15, Tryd.ntmps15
  go_wp2_with fail
  go_ret2
  exact ⟨rfl, rfl⟩
theorem log_0 {b : Nat} (w : World) :
    Calls Tryd.prog 16 #[.pointer (some ⟨b, 0, none⟩), .int .u8 0] w fun e w' => e = .returned (.tuple #[.int .i64 0, .iface 57 (.int .i64 1)]) ∧ w = w' := log_zero b w
theorem inv_0e {b : Nat} (w : World) :
    Calls Tryd.prog 6 #[.pointer (some ⟨b, 0, none⟩), .int .u8 0] w fun e w' => e = .returned (.tuple #[.int .u8 0, .iface 57 (.int .i64 1)]) ∧ w = w' := inv_zero b w

/-- Behind each step of a walk: the table is there, errors' variable holds what it held, and new memory alone was made. -/
def St (w0 w : World) : Prop := TabIn w w0.heap.size ∧ Handle w ∧ Below w0.heap.size w0 w ∧ 0 < w0.heap.size
theorem St.new {w0 w : World} (h : Handle w0) (hT : TabIn w w0.heap.size) (hB : Below w0.heap.size w0 w) : St w0 w := ⟨hT, h.later hB, hB, h.2⟩
theorem St.left {w0 w w' : World} (h : St w0 w) (hl : Left w0.heap.size w w') : St w0 w' :=
  have hb : Below w0.heap.size w w' := hl.2.below (Nat.le_refl _) h.2.2.1.size
  ⟨hl.1, h.2.1.below hb h.2.2.2, h.2.2.1.trans hb, h.2.2.2⟩
theorem St.later {w0 w w' : World} (h : St w0 w) (hb : Below w.heap.size w w') : St w0 w' :=
  ⟨h.1.below hb, h.2.1.later hb, h.2.2.1.trans (hb.mono h.2.2.1.size), h.2.2.2⟩

theorem div_is_mul {a b : Int} (ha : B8 a) (hb : B8 b) (hb0 : b ≠ 0) : mulI a (divI 1 b) = divI a b := by
  have h1 : mulI (divI a b) b = a := div_mulI ha hb hb0
  have h2 : mulI (mulI (divI a b) b) (divI 1 b) = divI a b := by rw [← mulI_assoc, mul_inv_one hb hb0, mulI_one (B8_div a b)]
  rw [h1] at h2; exact h2

set_option maxRecDepth 100000 in
set_option maxHeartbeats 4000000 in
theorem exact_0 (a : Int) (w : World) (hg : Handle w) (ha : B8 a) :
    Calls Tryd.prog 3 #[.int .u8 a, .int .u8 0] w fun e w' => e = .returned (.bool true) ∧ Below w.heap.size w w' := by
  obtain ⟨s, hs⟩ : ∃ s, xorI a 0 = s := ⟨_, rfl⟩
  obtain ⟨m, hm⟩ : ∃ m, mulI a 0 = m := ⟨_, rfl⟩
  have bs : 0 ≤ s ∧ s < 256 := by have := B8_xor ha B8_0; rw [hs] at this; exact this
  have ba : 0 ≤ a ∧ a < 256 := ha
  have Hs : Hid _ := hs
  have Hm : Hid _ := hm
  clear hs hm
  go_enter Tryd.func3, Tryd.ntmps3
  go_wp2_with fail
  refine (gfnew_any _).mono ?_
  rintro e w0 ⟨rfl, hT0, hB0⟩
  have hS0 := St.new hg hT0 hB0
  clear hT0 hB0
  go_wp2_with fail
  refine (inv_nil 3 _).mono ?_
  rintro e w' ⟨rfl, rfl⟩
  go_wp2_with fail
  refine (div_nil 3 5 _).mono ?_
  rintro e w' ⟨rfl, rfl⟩
  go_wp2_with fail
  refine (mul_nil 3 5 _).mono ?_
  rintro e w' ⟨rfl, rfl⟩
  go_wp2_with fail
  refine (num_err 1 _ hS0.2.1).mono ?_
  rintro e w1 ⟨rfl, hL1⟩
  have hS1 := hS0.later hL1
  clear hL1 hS0
  go_wp2_with fail
  refine (num_err 1 _ hS1.2.1).mono ?_
  rintro e w2 ⟨rfl, hL2⟩
  have hS2 := hS1.later hL2
  clear hL2 hS1
  go_wp2_with fail
  refine (div_0 _ ha).mono ?_
  rintro e w' ⟨rfl, rfl⟩
  go_wp2_with fail
  refine (inv_0e _).mono ?_
  rintro e w' ⟨rfl, rfl⟩
  go_wp2_with fail
  refine (add_i (x := s) _ ha B8_0 Hs.out).mono ?_
  rintro e w' ⟨rfl, rfl⟩
  go_wp2_with fail
  refine (refplus_is (x := s) _ ha B8_0 Hs.out).mono ?_
  rintro e w' ⟨rfl, rfl⟩
  go_wp2_with fail
  refine (mul_i (x := m) _ hS2.1 ha B8_0 Hm.out).mono ?_
  rintro e w3 ⟨rfl, hL3⟩
  have hS3 := hS2.left hL3
  clear hL3 hS2
  go_wp2_with fail
  refine (refmul_is (x := m) _ ha B8_0 Hm.out).mono ?_
  rintro e w' ⟨rfl, rfl⟩
  go_wp2_with fail
  refine (num_err 1 _ hS3.2.1).mono ?_
  rintro e w4 ⟨rfl, hL4⟩
  have hS4 := hS3.later hL4
  clear hL4 hS3
  go_wp2_with fail
  refine (num_err 1 _ hS4.2.1).mono ?_
  rintro e w5 ⟨rfl, hL5⟩
  have hS5 := hS4.later hL5
  clear hL5 hS4
  go_wp2_with fail
  refine (sure_any _).mono ?_
  rintro e w6 ⟨rfl, hL6⟩
  have hS6 := hS5.later hL6
  clear hL6 hS5
  go_wp2_with fail
  go_ret
  exact ⟨rfl, hS6.2.2.1⟩

set_option maxRecDepth 100000 in
set_option maxHeartbeats 4000000 in
theorem exact_b (a b : Int) (w : World) (hg : Handle w) (ha : B8 a) (hb : B8 b) (hb0 : b ≠ 0) :
    Calls Tryd.prog 3 #[.int .u8 a, .int .u8 b] w fun e w' => e = .returned (.bool true) ∧ Below w.heap.size w w' := by
  obtain ⟨s, hs⟩ : ∃ s, xorI a b = s := ⟨_, rfl⟩
  obtain ⟨m, hm⟩ : ∃ m, mulI a b = m := ⟨_, rfl⟩
  have bs : 0 ≤ s ∧ s < 256 := by have := B8_xor ha hb; rw [hs] at this; exact this
  have ba : 0 ≤ a ∧ a < 256 := ha
  have Hs : Hid _ := hs
  have Hm : Hid _ := hm
  clear hs hm
  obtain ⟨q, hq⟩ : ∃ q, divI a b = q := ⟨_, rfl⟩
  obtain ⟨v, hv⟩ : ∃ v, divI 1 b = v := ⟨_, rfl⟩
  have hqv : mulI a v = q := by rw [← hq, ← hv]; exact div_is_mul ha hb hb0
  have bv : B8 v := by have := B8_div 1 b; rw [hv] at this; exact this
  have bb : 0 ≤ b ∧ b < 256 := hb
  have nb : (b == 0) = false := by rw [beq_eq_false_iff_ne]; exact hb0
  have HB : Hid _ := hb0
  have Hq : Hid _ := hq
  have Hv : Hid _ := hv
  have Hqv : Hid _ := hqv
  have Bv : Hid _ := bv
  clear hb0 hq hv hqv bv
  go_enter Tryd.func3, Tryd.ntmps3
  go_wp2_with fail
  refine (gfnew_any _).mono ?_
  rintro e w0 ⟨rfl, hT0, hB0⟩
  have hS0 := St.new hg hT0 hB0
  clear hT0 hB0
  go_wp2_with fail
  refine (inv_nil 3 _).mono ?_
  rintro e w' ⟨rfl, rfl⟩
  go_wp2_with fail
  refine (div_nil 3 5 _).mono ?_
  rintro e w' ⟨rfl, rfl⟩
  go_wp2_with fail
  refine (mul_nil 3 5 _).mono ?_
  rintro e w' ⟨rfl, rfl⟩
  go_wp2_with fail
  refine (num_err 1 _ hS0.2.1).mono ?_
  rintro e w1 ⟨rfl, hL1⟩
  have hS1 := hS0.later hL1
  clear hL1 hS0
  go_wp2_with fail
  refine (num_err 1 _ hS1.2.1).mono ?_
  rintro e w2 ⟨rfl, hL2⟩
  have hS2 := hS1.later hL2
  clear hL2 hS1
  go_wp2_with fail
  refine (div_i (x := q) _ hS2.1 ha hb HB.out Hq.out).mono ?_
  rintro e w3 ⟨rfl, hL3⟩
  have hS3 := hS2.left hL3
  clear hL3 hS2
  go_wp2_with fail
  refine (inv_i (x := v) _ hS3.1 hb HB.out Hv.out).mono ?_
  rintro e w4 ⟨rfl, hL4⟩
  have hS4 := hS3.left hL4
  clear hL4 hS3
  go_wp2_with fail
  refine (add_i (x := s) _ ha hb Hs.out).mono ?_
  rintro e w' ⟨rfl, rfl⟩
  go_wp2_with fail
  refine (refplus_is (x := s) _ ha hb Hs.out).mono ?_
  rintro e w' ⟨rfl, rfl⟩
  go_wp2_with fail
  refine (mul_i (x := m) _ hS4.1 ha hb Hm.out).mono ?_
  rintro e w5 ⟨rfl, hL5⟩
  have hS5 := hS4.left hL5
  clear hL5 hS4
  go_wp2_with fail
  refine (refmul_is (x := m) _ ha hb Hm.out).mono ?_
  rintro e w' ⟨rfl, rfl⟩
  go_wp2_with fail
  refine (refinv_is (x := v) _ hb HB.out Hv.out).mono ?_
  rintro e w' ⟨rfl, rfl⟩
  go_wp2_with fail
  refine (refmul_is (x := q) _ ha Bv.out Hqv.out).mono ?_
  rintro e w' ⟨rfl, rfl⟩
  go_wp2_with fail
  refine (sure_any _).mono ?_
  rintro e w6 ⟨rfl, hL6⟩
  have hS6 := hS5.later hL6
  clear hL6 hS5
  go_wp2_with fail
  go_ret
  exact ⟨rfl, hS6.2.2.1⟩

theorem exact_any (a b : Int) (w : World) (hg : Handle w) (ha : B8 a) (hb : B8 b) :
    Calls Tryd.prog 3 #[.int .u8 a, .int .u8 b] w fun e w' => e = .returned (.bool true) ∧ Below w.heap.size w w' := by
  by_cases hb0 : b = 0
  · subst hb0; exact exact_0 a w hg ha
  · exact exact_b a b w hg ha hb hb0

end Go.Proofs.YtadpeioidpichaaDoor
