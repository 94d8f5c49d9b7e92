/- A disk: nothing of a nil one; what may not be. -/
import Derived.Test.YtcohllhmfghlfaaDoorDkH
namespace Go.Proofs.YtcohllhmfghlfaaDoor
set_option linter.unusedVariables false
set_option linter.unusedSimpArgs false
open Go.RowKit

set_option maxRecDepth 100000 in
set_option maxHeartbeats 1000000 in
theorem size_nil (w : World) : Calls Tryd.prog 18 #[.pointer none] w fun e w' => e = .returned (.int .i64 0) ∧ w = w' := by
  go_enter Tryd.func18, Tryd.ntmps18
  go_wp2_with fail
  go_ret
  exact ⟨rfl, rfl⟩
set_option maxRecDepth 100000 in
set_option maxHeartbeats 1000000 in
theorem waits_nil (w : World) : Calls Tryd.prog 15 #[.pointer none] w fun e w' => e = .returned (.int .i64 0) ∧ w = w' := by
  go_enter Tryd.func15, Tryd.ntmps15
  go_wp2_with fail
  go_ret
  exact ⟨rfl, rfl⟩
set_option maxRecDepth 100000 in
set_option maxHeartbeats 1000000 in
theorem down_nil (w : World) : Calls Tryd.prog 13 #[.pointer none] w fun e w' => e = .returned (.bool false) ∧ w = w' := by
  go_enter Tryd.func13, Tryd.ntmps13
  go_wp2_with fail
  go_ret
  exact ⟨rfl, rfl⟩
set_option maxRecDepth 100000 in
set_option maxHeartbeats 1000000 in
theorem safe_nil (w : World) : Calls Tryd.prog 19 #[.pointer none] w fun e w' => e = .returned (.slice none 0 0) ∧ w = w' := by
  go_enter Tryd.func19, Tryd.ntmps19
  go_wp2_with fail
  go_ret
  exact ⟨rfl, rfl⟩
set_option maxRecDepth 100000 in
set_option maxHeartbeats 1000000 in
theorem clone_nil (w : World) : Calls Tryd.prog 20 #[.pointer none] w fun e w' => e = .returned (.pointer none) ∧ w = w' := by
  go_enter Tryd.func20, Tryd.ntmps20
  go_wp2_with fail
  go_ret
  exact ⟨rfl, rfl⟩
set_option maxRecDepth 100000 in
set_option maxHeartbeats 1000000 in
theorem sync_nil (w : World) : Calls Tryd.prog 9 #[.pointer none] w fun e w' => e = .returned (.iface 60 (.int .i64 1)) ∧ w = w' := by
  go_enter Tryd.func9, Tryd.ntmps9
  go_wp2_with fail
  go_ret
  exact ⟨rfl, rfl⟩
set_option maxRecDepth 100000 in
set_option maxHeartbeats 1000000 in
theorem arm_nil (x : Int) (w : World) : Calls Tryd.prog 8 #[.pointer none, .int .i64 x] w fun e w' => e = .returned (.iface 60 (.int .i64 1)) ∧ w = w' := by
  go_enter Tryd.func8, Tryd.ntmps8
  go_wp2_with fail
  go_ret
  exact ⟨rfl, rfl⟩
set_option maxRecDepth 100000 in
set_option maxHeartbeats 1000000 in
theorem has_nil (x : Int) (w : World) : Calls Tryd.prog 31 #[.pointer none, .int .i64 x] w fun e w' => e = .returned (.bool false) ∧ w = w' := by
  by_cases hx : 0 ≤ x
  rotate_left
  · have h1 : decide (0 ≤ x) = false := decide_eq_false hx
    go_enter Tryd.func31, Tryd.ntmps31
    go_wp2_with fail
    go_ret
    exact ⟨rfl, rfl⟩
  have h1 : decide (0 ≤ x) = true := decide_eq_true hx
  have h2 : ¬ x < 0 := by omega
  have h3 : decide (x < 0) = false := decide_eq_false h2
  go_enter Tryd.func31, Tryd.ntmps31
  go_wp2_with fail
  refine (size_nil _).mono ?_
  rintro e w0 ⟨rfl, rfl⟩
  go_wp2_with fail
  go_ret
  exact ⟨rfl, rfl⟩
set_option maxRecDepth 100000 in
set_option maxHeartbeats 1000000 in
theorem write_nil (x : Int) (ob : Option Addr) (n c : Nat) (w : World) : Calls Tryd.prog 10 #[.pointer none, .int .i64 x, .slice ob n c] w fun e w' => e = .returned (.iface 60 (.int .i64 1)) ∧ w = w' := by
  go_enter Tryd.func10, Tryd.ntmps10
  go_wp2_with fail
  refine (has_nil x _).mono ?_
  rintro e w0 ⟨rfl, rfl⟩
  go_wp2_with fail
  go_ret
  exact ⟨rfl, rfl⟩
set_option maxRecDepth 100000 in
set_option maxHeartbeats 1000000 in
theorem tamper_nil (x : Int) (ob : Option Addr) (n c : Nat) (w : World) : Calls Tryd.prog 17 #[.pointer none, .int .i64 x, .slice ob n c] w fun e w' => e = .returned (.iface 60 (.int .i64 1)) ∧ Below w.heap.size w w' := by
  obtain ⟨w1, hw1⟩ : ∃ y, w.alloc (.cells #[.int .i64 x] 3) = y := ⟨_, rfl⟩
  have hb1 : Below w.heap.size w w1 := by rw [← hw1]; exact (Below.refl _ _).alloc (Nat.le_refl _) _
  have hx1 : Blk w1 w.heap.size #[.int .i64 x] 3 := by rw [← hw1]; exact Blk.new _ _ _
  have ci : w1.cell? ⟨w.heap.size, 0, none⟩ = some (.int .i64 x) := by rw [Blk.cell hx1]; rfl
  have HB1 := Lib.hid hb1
  clear hb1 hx1
  go_enter Tryd.func17, Tryd.ntmps17
  go_wp2_with fail
  refine (has_nil x _).mono ?_
  rintro e w0 ⟨rfl, rfl⟩
  go_wp2_with fail
  go_ret
  exact ⟨rfl, HB1.out⟩
set_option maxRecDepth 100000 in
set_option maxHeartbeats 1000000 in
theorem read_nil (x : Int) (w : World) : Calls Tryd.prog 16 #[.pointer none, .int .i64 x] w fun e w' => e = .returned (.tuple #[.slice none 0 0, .iface 60 (.int .i64 1)]) ∧ Below w.heap.size w w' := by
  obtain ⟨w1, hw1⟩ : ∃ y, w.alloc (.cells #[.int .i64 x] 3) = y := ⟨_, rfl⟩
  have hb1 : Below w.heap.size w w1 := by rw [← hw1]; exact (Below.refl _ _).alloc (Nat.le_refl _) _
  have hx1 : Blk w1 w.heap.size #[.int .i64 x] 3 := by rw [← hw1]; exact Blk.new _ _ _
  have ci : w1.cell? ⟨w.heap.size, 0, none⟩ = some (.int .i64 x) := by rw [Blk.cell hx1]; rfl
  have HB1 := Lib.hid hb1
  clear hb1 hx1
  refine calls_marks Tryd.func16 rfl ?_
  simp only [Tryd.ntmps16, List.size_toArray, List.length_cons, List.length_nil, Nat.reduceAdd, Nat.reduceSub, Array.replicate_succ, Array.replicate_zero, List.push_toArray, List.append_toArray, List.nil_append, List.cons_append]
  go_wp2_with fail
  refine (has_nil x _).mono ?_
  rintro e w' ⟨rfl, rfl⟩
  go_wp2_with fail
  refine ⟨_, results_tmp2 rfl _ _ _, ?_⟩
  exact ⟨rfl, HB1.out⟩
set_option maxRecDepth 100000 in
set_option maxHeartbeats 1000000 in
theorem read_bad {w : World} {B d sb : Nat} {v : Value} {s : DS} (h : DK w B d sb v s) (x : Int) (hx : x ≤ 9223372036854775807) (hb : ¬ (0 ≤ x ∧ x < (s.n : Int))) :
    Calls Tryd.prog 16 #[.pointer (some ⟨d, 0, none⟩), .int .i64 x] w fun e w' => e = .returned (.tuple #[.slice none 0 0, .iface 60 (.int .i64 1)]) ∧ Below w.heap.size w w' := by
  obtain ⟨w1, hw1⟩ : ∃ y, w.alloc (.cells #[.int .i64 x] 3) = y := ⟨_, rfl⟩
  have hb1 : Below w.heap.size w w1 := by rw [← hw1]; exact (Below.refl _ _).alloc (Nat.le_refl _) _
  have hx1 : Blk w1 w.heap.size #[.int .i64 x] 3 := by rw [← hw1]; exact Blk.new _ _ _
  have ci : w1.cell? ⟨w.heap.size, 0, none⟩ = some (.int .i64 x) := by rw [Blk.cell hx1]; rfl
  have HB1 := Lib.hid hb1
  clear hb1 hx1
  have hh := has_any (h.later HB1.out) x hx
  rw [decide_eq_false hb] at hh
  have HH := Lib.hid hh
  clear hh h hb hx
  refine calls_marks Tryd.func16 rfl ?_
  simp only [Tryd.ntmps16, List.size_toArray, List.length_cons, List.length_nil, Nat.reduceAdd, Nat.reduceSub, Array.replicate_succ, Array.replicate_zero, List.push_toArray, List.append_toArray, List.nil_append, List.cons_append]
  go_wp2_with fail
  refine HH.out.mono ?_
  rintro e w' ⟨rfl, rfl⟩
  go_wp2_with fail
  refine ⟨_, results_tmp2 rfl _ _ _, ?_⟩
  exact ⟨rfl, HB1.out⟩
set_option maxRecDepth 100000 in
set_option maxHeartbeats 1000000 in
theorem write_bad {w : World} {B d sb : Nat} {v : Value} {s : DS} (h : DK w B d sb v s) (x : Int) (hx : x ≤ 9223372036854775807) (ob : Option Addr) (n c : Nat) (hn : n ≤ maxLen) (hb : ¬ ((0 ≤ x ∧ x < (s.n : Int)) ∧ n = 64)) :
    Calls Tryd.prog 10 #[.pointer (some ⟨d, 0, none⟩), .int .i64 x, .slice ob n c] w fun e w' => e = .returned (.iface 60 (.int .i64 1)) ∧ Below w.heap.size w w' := by
  have HB1 := Lib.hid (Below.refl w.heap.size w)
  have hh := has_any (h.later HB1.out) x hx
  have n0 : (n : Int) ≤ 9223372036854775807 := by unfold maxLen at hn; omega
  by_cases hin : 0 ≤ x ∧ x < (s.n : Int)
  · rw [decide_eq_true hin] at hh
    have h64 : ¬ n = 64 := fun e => hb ⟨hin, e⟩
    have h65 : decide ((n : Int) = 64) = false := decide_eq_false (by omega)
    have h66 : ((n : Int) == 64) = false := beq_false_of_ne (by omega)
    have h67 : (n == 64) = false := beq_false_of_ne h64
    have h68 : ((n : Int) != 64) = true := by rw [bne, h66]; rfl
    have HH := Lib.hid hh
    clear hh h hb hx hn hin
    go_enter Tryd.func10, Tryd.ntmps10
    go_wp2_with fail
    refine HH.out.mono ?_
    rintro e w' ⟨rfl, rfl⟩
    go_wp2_with fail
    go_ret
    exact ⟨rfl, HB1.out⟩
  · rw [decide_eq_false hin] at hh
    have HH := Lib.hid hh
    clear hh h hb hx hn hin
    go_enter Tryd.func10, Tryd.ntmps10
    go_wp2_with fail
    refine HH.out.mono ?_
    rintro e w' ⟨rfl, rfl⟩
    go_wp2_with fail
    go_ret
    exact ⟨rfl, HB1.out⟩
set_option maxRecDepth 100000 in
set_option maxHeartbeats 1000000 in
theorem tamper_bad {w : World} {B d sb : Nat} {v : Value} {s : DS} (h : DK w B d sb v s) (x : Int) (hx : x ≤ 9223372036854775807) (ob : Option Addr) (n c : Nat) (hn : n ≤ maxLen) (hb : ¬ ((0 ≤ x ∧ x < (s.n : Int)) ∧ n = 64)) :
    Calls Tryd.prog 17 #[.pointer (some ⟨d, 0, none⟩), .int .i64 x, .slice ob n c] w fun e w' => e = .returned (.iface 60 (.int .i64 1)) ∧ Below w.heap.size w w' := by
  obtain ⟨w1, hw1⟩ : ∃ y, w.alloc (.cells #[.int .i64 x] 3) = y := ⟨_, rfl⟩
  have hb1 : Below w.heap.size w w1 := by rw [← hw1]; exact (Below.refl _ _).alloc (Nat.le_refl _) _
  have hx1 : Blk w1 w.heap.size #[.int .i64 x] 3 := by rw [← hw1]; exact Blk.new _ _ _
  have ci : w1.cell? ⟨w.heap.size, 0, none⟩ = some (.int .i64 x) := by rw [Blk.cell hx1]; rfl
  have HB1 := Lib.hid hb1
  clear hb1 hx1
  have hh := has_any (h.later HB1.out) x hx
  have n0 : (n : Int) ≤ 9223372036854775807 := by unfold maxLen at hn; omega
  by_cases hin : 0 ≤ x ∧ x < (s.n : Int)
  · rw [decide_eq_true hin] at hh
    have h64 : ¬ n = 64 := fun e => hb ⟨hin, e⟩
    have h65 : decide ((n : Int) = 64) = false := decide_eq_false (by omega)
    have h66 : ((n : Int) == 64) = false := beq_false_of_ne (by omega)
    have h67 : (n == 64) = false := beq_false_of_ne h64
    have h68 : ((n : Int) != 64) = true := by rw [bne, h66]; rfl
    have HH := Lib.hid hh
    clear hh h hb hx hn hin
    go_enter Tryd.func17, Tryd.ntmps17
    go_wp2_with fail
    refine HH.out.mono ?_
    rintro e w' ⟨rfl, rfl⟩
    go_wp2_with fail
    go_ret
    exact ⟨rfl, HB1.out⟩
  · rw [decide_eq_false hin] at hh
    have HH := Lib.hid hh
    clear hh h hb hx hn hin
    go_enter Tryd.func17, Tryd.ntmps17
    go_wp2_with fail
    refine HH.out.mono ?_
    rintro e w' ⟨rfl, rfl⟩
    go_wp2_with fail
    go_ret
    exact ⟨rfl, HB1.out⟩
set_option maxRecDepth 100000 in
set_option maxHeartbeats 1000000 in
theorem arm_bad {w : World} {B d sb : Nat} {v : Value} {s : DS} (h : DK w B d sb v s) (x : Int) (hx : x < 0) :
    Calls Tryd.prog 8 #[.pointer (some ⟨d, 0, none⟩), .int .i64 x] w fun e w' => e = .returned (.iface 60 (.int .i64 1)) ∧ w = w' := by
  have k1 : decide (x < 0) = true := decide_eq_true hx
  clear h
  go_enter Tryd.func8, Tryd.ntmps8
  go_wp2_with fail
  go_ret
  exact ⟨rfl, rfl⟩
set_option maxRecDepth 100000 in
set_option maxHeartbeats 1000000 in
theorem crash_none (w : World) : Calls Tryd.prog 14 #[.pointer none, .slice none 0 0] w fun e w' => (∃ x, e = .returned x) ∧ Below w.heap.size w w' := by
  obtain ⟨w1, hw1⟩ : ∃ y, w.alloc (.cells #[.slice none 0 0] 37) = y := ⟨_, rfl⟩
  have hb1 : Below w.heap.size w w1 := by rw [← hw1]; exact (Below.refl _ _).alloc (Nat.le_refl _) _
  have HB1 := Lib.hid hb1
  clear hb1
  go_enter Tryd.func14, Tryd.ntmps14
  go_wp2_with fail
  refine bodyPost_ret (results_none rfl _ _ _) rfl ?_
  exact ⟨⟨_, rfl⟩, HB1.out⟩
end Go.Proofs.YtcohllhmfghlfaaDoor
