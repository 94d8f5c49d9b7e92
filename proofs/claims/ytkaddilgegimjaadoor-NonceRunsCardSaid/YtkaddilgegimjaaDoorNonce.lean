/- Contracts of package nonce's counters. -/
import Derived.Test.YtkaddilgegimjaaDoorBlk
import Derived.Test.YtkaddilgegimjaaDoorNum
import Derived.WalkSpells
import Derived.WalkLawsBesides
import Derived.Outline
namespace Go.Proofs.YtkaddilgegimjaaDoor
set_option linter.unusedVariables false
set_option linter.unusedSimpArgs false
open Go.RowKit

set_option maxHeartbeats 400000 in
theorem load_any (b k : Nat) (x : Int) (w : World) (h0 : w.cell? ⟨b, k, none⟩ = some (.int .u64 x)) :
    Calls Tryd.prog 82 #[.pointer (some ⟨b, k, none⟩)] w fun e w' => e = .returned (.int .u64 x) ∧ w = w' := by
  have hl := run_call_load (P := Tryd.prog) Tryd.func115 (by kernel_rfl) (by kernel_rfl) (by kernel_rfl) .u64 (by kernel_rfl) h0
  go_enter Tryd.func82, Tryd.ntmps82
  go_wp2
  go_ret
  exact ⟨rfl, rfl⟩

set_option maxHeartbeats 400000 in
theorem store_any (b k : Nat) (x : Int) (u : Value) (w : World) (h0 : w.cell? ⟨b, k, none⟩ = some u) (hf : w.frozen? ⟨b, k, none⟩ = false) :
    Calls Tryd.prog 85 #[.pointer (some ⟨b, k, none⟩), .int .u64 x] w fun e w' => e = .returned (.tuple #[]) ∧ w' = w.setCell ⟨b, k, none⟩ (.int .u64 x) := by
  have hl := run_call_store (P := Tryd.prog) (k := .u64) (y := x) Tryd.func121 (by kernel_rfl) (by kernel_rfl) (by kernel_rfl) (by kernel_rfl) h0 hf
  go_enter Tryd.func85, Tryd.ntmps85
  go_wp2
  go_end0
  exact ⟨rfl, rfl⟩

set_option maxHeartbeats 400000 in
theorem cas_hit (b k : Nat) (x y : Int) (w : World) (h0 : w.cell? ⟨b, k, none⟩ = some (.int .u64 x)) (hf : w.frozen? ⟨b, k, none⟩ = false) :
    Calls Tryd.prog 83 #[.pointer (some ⟨b, k, none⟩), .int .u64 x, .int .u64 y] w fun e w' => e = .returned (.bool true) ∧ w' = w.setCell ⟨b, k, none⟩ (.int .u64 y) := by
  have hl := run_call_cas_hit (P := Tryd.prog) (y := y) Tryd.func116 (by kernel_rfl) (by kernel_rfl) (by kernel_rfl) .u64 (by kernel_rfl) h0 hf
  go_enter Tryd.func83, Tryd.ntmps83
  go_wp2
  go_ret
  exact ⟨rfl, rfl⟩

/-- A counter: the next number, the mark, the limit. -/
def Ctr (w : World) (b : Nat) (n m l : Int) : Prop := Blk w b #[.int .u64 n, .int .u64 m, .int .u64 l] 153

set_option maxHeartbeats 400000 in
theorem take_short (b : Nat) (m l : Int) (w : World) (h : Ctr w b m m l) :
    Calls Tryd.prog 15 #[.pointer (some ⟨b, 0, none⟩)] w fun e w' => e = .returned (.tuple #[.int .u64 0, .iface 146 (.int .i64 2)]) ∧ w = w' := by
  have c0 : w.cell? ⟨b, 0, none⟩ = some (.int .u64 m) := Blk.cell h 0
  have c1 : w.cell? ⟨b, 1, none⟩ = some (.int .u64 m) := Blk.cell h 1
  go_enter Tryd.func15, Tryd.ntmps15
  go_wp2_with fail
  refine wp_loop_rounds 1 ?_
  rw [rounds_succ]
  go_wp2_with fail
  refine (load_any _ _ _ _ c0).mono ?_
  rintro e w' ⟨rfl, rfl⟩
  go_wp2_with fail
  refine (load_any _ _ _ _ c1).mono ?_
  rintro e w' ⟨rfl, rfl⟩
  go_wp2_with fail
  go_ret2
  exact ⟨rfl, rfl⟩

set_option maxHeartbeats 400000 in
theorem take_next (b : Nat) (n m l : Int) (w : World) (h : Ctr w b n m l) (hne : (n == m) = false) (hn : 0 ≤ n ∧ n ≤ 281474976710656) :
    Calls Tryd.prog 15 #[.pointer (some ⟨b, 0, none⟩)] w fun e w' => e = .returned (.tuple #[.int .u64 n, .nilIface]) ∧ Ctr w' b (n + 1) m l ∧ Own b w w' := by
  have c0 : w.cell? ⟨b, 0, none⟩ = some (.int .u64 n) := Blk.cell h 0
  have c1 : w.cell? ⟨b, 1, none⟩ = some (.int .u64 m) := Blk.cell h 1
  have f0 : w.frozen? ⟨b, 0, none⟩ = false := Blk.free h 0
  obtain ⟨n0, n1⟩ := hn
  go_enter Tryd.func15, Tryd.ntmps15
  go_wp2_with fail
  refine wp_loop_rounds 1 ?_
  rw [rounds_succ]
  go_wp2_with fail
  refine (load_any _ _ _ _ c0).mono ?_
  rintro e w' ⟨rfl, rfl⟩
  go_wp2_with fail
  refine (load_any _ _ _ _ c1).mono ?_
  rintro e w' ⟨rfl, rfl⟩
  go_wp2_with fail
  refine (cas_hit _ _ _ _ _ c0 f0).mono ?_
  rintro e w' ⟨rfl, rfl⟩
  go_wp2_with fail
  go_ret2
  exact ⟨rfl, Blk.set h 0 _, (Own.refl _ _).set 0 _⟩

/-- The mark behind an extension. -/
def extI (m l : Int) : Int := if l < m + 16 then l else m + 16

set_option maxHeartbeats 400000 in
theorem ext_full (b : Nat) (n l : Int) (w : World) (h : Ctr w b n l l) :
    Calls Tryd.prog 16 #[.pointer (some ⟨b, 0, none⟩)] w fun e w' => e = .returned (.tuple #[.int .u64 0, .iface 146 (.int .i64 8)]) ∧ w = w' := by
  have c1 : w.cell? ⟨b, 1, none⟩ = some (.int .u64 l) := Blk.cell h 1
  have c2 : w.cell? ⟨b, 2, none⟩ = some (.int .u64 l) := Blk.cell h 2
  go_enter Tryd.func16, Tryd.ntmps16
  go_wp2_with fail
  refine wp_loop_rounds 1 ?_
  rw [rounds_succ]
  go_wp2_with fail
  refine (load_any _ _ _ _ c1).mono ?_
  rintro e w' ⟨rfl, rfl⟩
  go_wp2_with fail
  go_ret2
  exact ⟨rfl, rfl⟩

set_option maxHeartbeats 400000 in
theorem ext_more (b : Nat) (n m l : Int) (w : World) (h : Ctr w b n m l) (hne : (m == l) = false) (hm : 0 ≤ m ∧ m ≤ 281474976710656) :
    Calls Tryd.prog 16 #[.pointer (some ⟨b, 0, none⟩)] w fun e w' => e = .returned (.tuple #[.int .u64 (extI m l), .nilIface]) ∧ Ctr w' b n (extI m l) l ∧ Own b w w' := by
  have c1 : w.cell? ⟨b, 1, none⟩ = some (.int .u64 m) := Blk.cell h 1
  have c2 : w.cell? ⟨b, 2, none⟩ = some (.int .u64 l) := Blk.cell h 2
  have f1 : w.frozen? ⟨b, 1, none⟩ = false := Blk.free h 1
  obtain ⟨m0, m1⟩ := hm
  by_cases hl : l < m + 16
  · rw [show extI m l = l from if_pos hl]
    go_enter Tryd.func16, Tryd.ntmps16
    go_wp2_with fail
    refine wp_loop_rounds 1 ?_
    rw [rounds_succ]
    go_wp2_with fail
    refine (load_any _ _ _ _ c1).mono ?_
    rintro e w' ⟨rfl, rfl⟩
    go_wp2_with fail
    refine (cas_hit _ _ _ _ _ c1 f1).mono ?_
    rintro e w' ⟨rfl, rfl⟩
    go_wp2_with fail
    go_ret2
    exact ⟨rfl, Blk.set h 1 _, (Own.refl _ _).set 1 _⟩
  · rw [show extI m l = m + 16 from if_neg hl]
    go_enter Tryd.func16, Tryd.ntmps16
    go_wp2_with fail
    refine wp_loop_rounds 1 ?_
    rw [rounds_succ]
    go_wp2_with fail
    refine (load_any _ _ _ _ c1).mono ?_
    rintro e w' ⟨rfl, rfl⟩
    go_wp2_with fail
    refine (cas_hit _ _ _ _ _ c1 f1).mono ?_
    rintro e w' ⟨rfl, rfl⟩
    go_wp2_with fail
    go_ret2
    exact ⟨rfl, Blk.set h 1 _, (Own.refl _ _).set 1 _⟩

set_option maxHeartbeats 400000 in
theorem left_any (b : Nat) (n m l : Int) (w : World) (h : Ctr w b n m l) (hn : 0 ≤ n ∧ n ≤ m ∧ m ≤ 281474976710656) :
    Calls Tryd.prog 19 #[.pointer (some ⟨b, 0, none⟩)] w fun e w' => e = .returned (.int .u64 (m - n)) ∧ w = w' := by
  have c0 : w.cell? ⟨b, 0, none⟩ = some (.int .u64 n) := Blk.cell h 0
  have c1 : w.cell? ⟨b, 1, none⟩ = some (.int .u64 m) := Blk.cell h 1
  obtain ⟨n0, n1, n2⟩ := hn
  go_enter Tryd.func19, Tryd.ntmps19
  go_wp2_with fail
  refine (load_any _ _ _ _ c0).mono ?_
  rintro e w' ⟨rfl, rfl⟩
  go_wp2_with fail
  refine (load_any _ _ _ _ c1).mono ?_
  rintro e w' ⟨rfl, rfl⟩
  go_wp2_with fail
  go_ret
  exact ⟨rfl, rfl⟩

set_option maxHeartbeats 400000 in
theorem mark_any (b : Nat) (n m l : Int) (w : World) (h : Ctr w b n m l) :
    Calls Tryd.prog 18 #[.pointer (some ⟨b, 0, none⟩)] w fun e w' => e = .returned (.int .u64 m) ∧ w = w' := by
  have c1 : w.cell? ⟨b, 1, none⟩ = some (.int .u64 m) := Blk.cell h 1
  go_enter Tryd.func18, Tryd.ntmps18
  go_wp2_with fail
  refine (load_any _ _ _ _ c1).mono ?_
  rintro e w' ⟨rfl, rfl⟩
  go_wp2_with fail
  go_ret
  exact ⟨rfl, rfl⟩

set_option maxHeartbeats 400000 in
theorem new_any (m l : Int) (w : World) (h1 : m ≤ l) (h2 : l ≤ 281474976710656) :
    Calls Tryd.prog 23 #[.int .u64 m, .int .u64 l] w fun e w' => e = .returned (.tuple #[.pointer (some ⟨w.heap.size, 0, none⟩), .nilIface]) ∧ Ctr w' w.heap.size m m l ∧ Below w.heap.size w w' := by
  have hB : Blk (w.alloc (.cells #[.int .u64 0, .int .u64 0, .int .u64 l] 153)) w.heap.size #[.int .u64 0, .int .u64 0, .int .u64 l] 153 := Blk.new _ _ _
  go_enter Tryd.func23, Tryd.ntmps23
  go_wp2_with fail
  refine (store_any _ _ _ (.int .u64 0) _ (hB.cell 0) (hB.free 0)).mono ?_
  rintro e w' ⟨rfl, rfl⟩
  have hB1 : Blk (w.alloc (.cells #[.int .u64 m, .int .u64 0, .int .u64 l] 153)) w.heap.size #[.int .u64 m, .int .u64 0, .int .u64 l] 153 := Blk.new _ _ _
  go_wp2_with fail
  refine (store_any _ _ _ (.int .u64 0) _ (hB1.cell 1) (hB1.free 1)).mono ?_
  rintro e w' ⟨rfl, rfl⟩
  go_wp2_with fail
  go_ret2
  exact ⟨rfl, Blk.new _ _ _, (Below.refl _ _).alloc (Nat.le_refl _) _⟩

end Go.Proofs.YtkaddilgegimjaaDoor
