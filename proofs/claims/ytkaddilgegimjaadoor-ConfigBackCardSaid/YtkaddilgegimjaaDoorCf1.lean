/- Contracts of plans and configs, the program's and the document's. -/
import Derived.Test.YtkaddilgegimjaaDoorNum
import Derived.Test.YtkaddilgegimjaaDoorNum21
import Derived.Test.YtkaddilgegimjaaDoorWn
import Derived.Lib.Hide
import Derived.IntWalk
import Derived.Laws.BitsLemmas
namespace Go.Proofs.YtkaddilgegimjaaDoor
set_option linter.unusedVariables false
set_option linter.unusedSimpArgs false
open Go.RowKit

/-- May a plan be? -/
def OkP (k n : Int) : Prop := 2 ≤ k ∧ k ≤ n ∧ n ≤ 255
theorem OkP.cases {k n : Int} (h : ¬ OkP k n) : k < 2 ∨ (2 ≤ k ∧ n < k) ∨ (2 ≤ k ∧ k ≤ n ∧ 255 < n) := by unfold OkP at h; omega
set_option maxRecDepth 100000 in
set_option maxHeartbeats 400000 in
theorem check_ok (k n g : Int) (w : World) (h : OkP k n) :
    Calls Tryd.prog 86 #[.agg #[.int .i64 k, .int .i64 n, .int .u32 g]] w fun e w' => e = .returned  .nilIface ∧ Below w.heap.size w w' := by
  obtain ⟨h0, h1, h2⟩ := h
  have d0 : decide (k < 2) = false := decide_eq_false (by omega)
  have d1 : decide (n < k) = false := decide_eq_false (by omega)
  have d2 : decide (255 < n) = false := decide_eq_false (by omega)
  go_enter Tryd.func86, Tryd.ntmps86
  go_wp2_with fail
  go_ret
  exact ⟨rfl, (Below.refl _ _).alloc (Nat.le_refl _) _⟩
set_option maxRecDepth 100000 in
set_option maxHeartbeats 400000 in
theorem check_no (k n g : Int) (w : World) (h : ¬ OkP k n) :
    Calls Tryd.prog 86 #[.agg #[.int .i64 k, .int .i64 n, .int .u32 g]] w fun e w' => e = .returned (.iface 146 (.int .i64 1)) ∧ Below w.heap.size w w' := by
  rcases OkP.cases h with h0 | ⟨h0, h1⟩ | ⟨h0, h1, h2⟩
  · clear h
    go_enter Tryd.func86, Tryd.ntmps86
    go_wp2_with fail
    go_ret
    exact ⟨rfl, (Below.refl _ _).alloc (Nat.le_refl _) _⟩
  · have d0 : decide (k < 2) = false := decide_eq_false (by omega)
    clear h
    go_enter Tryd.func86, Tryd.ntmps86
    go_wp2_with fail
    go_ret
    exact ⟨rfl, (Below.refl _ _).alloc (Nat.le_refl _) _⟩
  · have d0 : decide (k < 2) = false := decide_eq_false (by omega)
    have d1 : decide (n < k) = false := decide_eq_false (by omega)
    clear h
    go_enter Tryd.func86, Tryd.ntmps86
    go_wp2_with fail
    go_ret
    exact ⟨rfl, (Below.refl _ _).alloc (Nat.le_refl _) _⟩
set_option maxRecDepth 100000 in
set_option maxHeartbeats 400000 in
theorem may_ok (k n g : Int) (w : World) (h : OkP k n) :
    Calls Tryd.prog 36 #[.agg #[.int .i64 k, .int .i64 n, .int .u32 g]] w fun e w' => e = .returned (.bool true) ∧ Below w.heap.size w w' := by
  obtain ⟨h0, h1, h2⟩ := h
  go_enter Tryd.func36, Tryd.ntmps36
  go_wp2_with fail
  go_ret
  exact ⟨rfl, (Below.refl _ _).alloc (Nat.le_refl _) _⟩
set_option maxRecDepth 100000 in
set_option maxHeartbeats 400000 in
theorem may_no (k n g : Int) (w : World) (h : ¬ OkP k n) :
    Calls Tryd.prog 36 #[.agg #[.int .i64 k, .int .i64 n, .int .u32 g]] w fun e w' => e = .returned (.bool false) ∧ Below w.heap.size w w' := by
  rcases OkP.cases h with h0 | ⟨h0, h1⟩ | ⟨h0, h1, h2⟩
  · have d0 : decide (2 ≤ k) = false := decide_eq_false (by omega)
    clear h
    go_enter Tryd.func36, Tryd.ntmps36
    go_wp2_with fail
    go_ret
    exact ⟨rfl, (Below.refl _ _).alloc (Nat.le_refl _) _⟩
  · have d1 : decide (k ≤ n) = false := decide_eq_false (by omega)
    clear h
    go_enter Tryd.func36, Tryd.ntmps36
    go_wp2_with fail
    go_ret
    exact ⟨rfl, (Below.refl _ _).alloc (Nat.le_refl _) _⟩
  · have d2 : decide (n ≤ 255) = false := decide_eq_false (by omega)
    clear h
    go_enter Tryd.func36, Tryd.ntmps36
    go_wp2_with fail
    go_ret
    exact ⟨rfl, (Below.refl _ _).alloc (Nat.le_refl _) _⟩
set_option maxRecDepth 100000 in
set_option maxHeartbeats 400000 in
theorem ccheck_ok (k n g : Int) (w : World) (h : OkP k n) (hg : g ≠ 0) :
    Calls Tryd.prog 38 #[.agg #[.int .i64 k, .int .i64 n, .int .u32 g]] w fun e w' => e = .returned .nilIface ∧ Below w.heap.size w w' := by
  have hg0 : (g == 0) = false := by rw [beq_eq_false_iff_ne]; exact hg
  clear hg
  go_enter Tryd.func38, Tryd.ntmps38
  go_wp2_with fail
  refine (check_ok k n g _ h).mono ?_
  rintro e w1 ⟨rfl, hb⟩
  go_wp2_with fail
  go_ret
  exact ⟨rfl, ((Below.refl _ _).alloc (Nat.le_refl _) _).trans (hb.mono (by simp))⟩
set_option maxRecDepth 100000 in
set_option maxHeartbeats 400000 in
theorem ccheck_no (k n g : Int) (w : World) (h : ¬ (OkP k n ∧ g ≠ 0)) :
    Calls Tryd.prog 38 #[.agg #[.int .i64 k, .int .i64 n, .int .u32 g]] w fun e w' => e = .returned (.iface 146 (.int .i64 1)) ∧ Below w.heap.size w w' := by
  by_cases hg : g = 0
  · subst hg
    clear h
    go_enter Tryd.func38, Tryd.ntmps38
    go_wp2_with fail
    go_ret
    exact ⟨rfl, (Below.refl _ _).alloc (Nat.le_refl _) _⟩
  · have hg0 : (g == 0) = false := by rw [beq_eq_false_iff_ne]; exact hg
    have hn : ¬ OkP k n := fun hk => h ⟨hk, hg⟩
    clear hg h
    go_enter Tryd.func38, Tryd.ntmps38
    go_wp2_with fail
    refine (check_no k n g _ hn).mono ?_
    rintro e w1 ⟨rfl, hb⟩
    go_wp2_with fail
    go_ret
    exact ⟨rfl, ((Below.refl _ _).alloc (Nat.le_refl _) _).trans (hb.mono (by simp))⟩
set_option maxRecDepth 100000 in
set_option maxHeartbeats 400000 in
theorem rmay_ok (k n g : Int) (w : World) (h : OkP k n) (hg : 0 < g) :
    Calls Tryd.prog 39 #[.agg #[.int .i64 k, .int .i64 n, .int .u32 g]] w fun e w' => e = .returned (.bool true) ∧ Below w.heap.size w w' := by
  go_enter Tryd.func39, Tryd.ntmps39
  go_wp2_with fail
  refine (may_ok k n g _ h).mono ?_
  rintro e w1 ⟨rfl, hb⟩
  have c2 : w1.cell? ⟨w.heap.size, 2, none⟩ = some (.int .u32 g) := cell_below hb (cell_new rfl)
  go_wp2_with fail
  go_ret
  exact ⟨rfl, ((Below.refl _ _).alloc (Nat.le_refl _) _).trans (hb.mono (by simp))⟩
set_option maxRecDepth 100000 in
set_option maxHeartbeats 400000 in
theorem rmay_no (k n g : Int) (w : World) (h : ¬ (OkP k n ∧ g ≠ 0)) (hg : 0 ≤ g) :
    Calls Tryd.prog 39 #[.agg #[.int .i64 k, .int .i64 n, .int .u32 g]] w fun e w' => e = .returned (.bool false) ∧ Below w.heap.size w w' := by
  by_cases hk : OkP k n
  · obtain rfl : g = 0 := by
      by_cases e : g = 0
      · exact e
      · exact absurd ⟨hk, e⟩ h
    clear h
    go_enter Tryd.func39, Tryd.ntmps39
    go_wp2_with fail
    refine (may_ok k n 0 _ hk).mono ?_
    rintro e w1 ⟨rfl, hb⟩
    have c2 : w1.cell? ⟨w.heap.size, 2, none⟩ = some (.int .u32 0) := cell_below hb (cell_new rfl)
    go_wp2_with fail
    go_ret
    exact ⟨rfl, ((Below.refl _ _).alloc (Nat.le_refl _) _).trans (hb.mono (by simp))⟩
  · clear h
    go_enter Tryd.func39, Tryd.ntmps39
    go_wp2_with fail
    refine (may_no k n g _ hk).mono ?_
    rintro e w1 ⟨rfl, hb⟩
    go_wp2_with fail
    go_ret
    exact ⟨rfl, ((Below.refl _ _).alloc (Nat.le_refl _) _).trans (hb.mono (by simp))⟩
set_option maxRecDepth 100000 in
set_option maxHeartbeats 1000000 in
theorem of_ok (k n g : Int) (w : World) (h : OkP k n) (hg : g ≠ 0) :
    Calls Tryd.prog 87 #[.int .i64 k, .int .i64 n, .int .u32 g] w fun e w' => e = .returned (.tuple #[.agg #[.int .i64 k, .int .i64 n, .int .u32 g], .nilIface]) ∧ Below w.heap.size w w' := by
  go_enter Tryd.func87, Tryd.ntmps87
  go_wp2_with fail
  refine (ccheck_ok k n g _ h hg).mono ?_
  rintro e w1 ⟨rfl, hb⟩
  have hX : Blk w1 w.heap.size #[.int .i64 0, .int .i64 0, .int .u32 0] 56 := Blk.below (blk2 _ _ _ _ _) hb (by simp; omega)
  have hY : Blk w1 (w.heap.size + 1) #[.int .i64 k, .int .i64 n, .int .u32 g] 56 := Blk.below (blk2' _ _ _ _ _) hb (by simp)
  have y0 : w1.cell? ⟨w.heap.size + 1, 0, none⟩ = some (.int .i64 k) := Blk.cell hY 0
  have y1 : w1.cell? ⟨w.heap.size + 1, 1, none⟩ = some (.int .i64 n) := Blk.cell hY 1
  have y2 : w1.cell? ⟨w.heap.size + 1, 2, none⟩ = some (.int .u32 g) := Blk.cell hY 2
  have s0 : w1.cell? ⟨w.heap.size, 0, none⟩ = some (.int .i64 0) := Blk.cell hX 0
  have z0 : w1.frozen? ⟨w.heap.size, 0, none⟩ = false := Blk.free hX 0
  have s1 : w1.cell? ⟨w.heap.size, 1, none⟩ = some (.int .i64 0) := Blk.cell hX 1
  have z1 : w1.frozen? ⟨w.heap.size, 1, none⟩ = false := Blk.free hX 1
  have s2 : w1.cell? ⟨w.heap.size, 2, none⟩ = some (.int .u32 0) := Blk.cell hX 2
  have z2 : w1.frozen? ⟨w.heap.size, 2, none⟩ = false := Blk.free hX 2
  have a0 : (w1.setCell ⟨w.heap.size, 0, none⟩ (.int .i64 k)).cell? ⟨w.heap.size, 0, none⟩ = some (.int .i64 k) := Blk.cell (Blk.set hX 0 _) 0
  have a1 : ((w1.setCell ⟨w.heap.size, 0, none⟩ (.int .i64 k)).setCell ⟨w.heap.size, 1, none⟩ (.int .i64 n)).cell? ⟨w.heap.size, 1, none⟩ = some (.int .i64 n) := Blk.cell (Blk.set (Blk.set hX 0 _) 1 _) 1
  have a2 : (((w1.setCell ⟨w.heap.size, 0, none⟩ (.int .i64 k)).setCell ⟨w.heap.size, 1, none⟩ (.int .i64 n)).setCell ⟨w.heap.size, 2, none⟩ (.int .u32 g)).cell? ⟨w.heap.size, 2, none⟩ = some (.int .u32 g) := Blk.cell (Blk.set (Blk.set (Blk.set hX 0 _) 1 _) 2 _) 2
  have A0 := Lib.hid a0
  have A1 := Lib.hid a1
  have A2 := Lib.hid a2
  clear a0 a1 a2
  have HB := Lib.hid hb
  clear hX hY hb
  go_wp2_with fail
  refine bodyPost_ret (v := .tuple #[.agg #[.int .i64 k, .int .i64 n, .int .u32 g], .nilIface]) ?_ rfl ⟨rfl, ?_⟩
  · simp [results, Tryd.results87, go_sem, A0.out, A1.out, A2.out]
  · exact ((((((Below.refl _ _).alloc (Nat.le_refl _) _).alloc (by simp) _).trans (HB.out.mono (by simp; omega))).setCell (by simp) _).setCell (by simp) _).setCell (by simp) _
set_option maxRecDepth 100000 in
set_option maxHeartbeats 1000000 in
theorem of_no (k n g : Int) (w : World) (h : ¬ (OkP k n ∧ g ≠ 0)) :
    Calls Tryd.prog 87 #[.int .i64 k, .int .i64 n, .int .u32 g] w fun e w' => e = .returned (.tuple #[.agg #[.int .i64 0, .int .i64 0, .int .u32 0], .iface 146 (.int .i64 1)]) ∧ Below w.heap.size w w' := by
  go_enter Tryd.func87, Tryd.ntmps87
  go_wp2_with fail
  refine (ccheck_no k n g _ h).mono ?_
  rintro e w1 ⟨rfl, hb⟩
  have hX : Blk w1 w.heap.size #[.int .i64 0, .int .i64 0, .int .u32 0] 56 := Blk.below (blk2 _ _ _ _ _) hb (by simp; omega)
  have s0 : w1.cell? ⟨w.heap.size, 0, none⟩ = some (.int .i64 0) := Blk.cell hX 0
  have z0 : w1.frozen? ⟨w.heap.size, 0, none⟩ = false := Blk.free hX 0
  have s1 : w1.cell? ⟨w.heap.size, 1, none⟩ = some (.int .i64 0) := Blk.cell hX 1
  have z1 : w1.frozen? ⟨w.heap.size, 1, none⟩ = false := Blk.free hX 1
  have s2 : w1.cell? ⟨w.heap.size, 2, none⟩ = some (.int .u32 0) := Blk.cell hX 2
  have z2 : w1.frozen? ⟨w.heap.size, 2, none⟩ = false := Blk.free hX 2
  have a0 : (w1.setCell ⟨w.heap.size, 0, none⟩ (.int .i64 0)).cell? ⟨w.heap.size, 0, none⟩ = some (.int .i64 0) := Blk.cell (Blk.set hX 0 _) 0
  have a1 : ((w1.setCell ⟨w.heap.size, 0, none⟩ (.int .i64 0)).setCell ⟨w.heap.size, 1, none⟩ (.int .i64 0)).cell? ⟨w.heap.size, 1, none⟩ = some (.int .i64 0) := Blk.cell (Blk.set (Blk.set hX 0 _) 1 _) 1
  have a2 : (((w1.setCell ⟨w.heap.size, 0, none⟩ (.int .i64 0)).setCell ⟨w.heap.size, 1, none⟩ (.int .i64 0)).setCell ⟨w.heap.size, 2, none⟩ (.int .u32 0)).cell? ⟨w.heap.size, 2, none⟩ = some (.int .u32 0) := Blk.cell (Blk.set (Blk.set (Blk.set hX 0 _) 1 _) 2 _) 2
  have A0 := Lib.hid a0
  have A1 := Lib.hid a1
  have A2 := Lib.hid a2
  clear a0 a1 a2
  have HB := Lib.hid hb
  clear hX hb
  go_wp2_with fail
  refine bodyPost_ret (v := .tuple #[.agg #[.int .i64 0, .int .i64 0, .int .u32 0], .iface 146 (.int .i64 1)]) ?_ rfl ⟨rfl, ?_⟩
  · simp [results, Tryd.results87, go_sem, A0.out, A1.out, A2.out]
  · exact ((((((Below.refl _ _).alloc (Nat.le_refl _) _).alloc (by simp) _).trans (HB.out.mono (by simp; omega))).setCell (by simp) _).setCell (by simp) _).setCell (by simp) _
set_option maxRecDepth 100000 in
set_option maxHeartbeats 1000000 in
theorem new_ok (k n : Int) (w : World) (h : OkP k n) :
    Calls Tryd.prog 35 #[.int .i64 k, .int .i64 n] w fun e w' => e = .returned (.tuple #[.agg #[.int .i64 k, .int .i64 n, .int .u32 1], .nilIface]) ∧ Below w.heap.size w w' := by
  go_enter Tryd.func35, Tryd.ntmps35
  go_wp2_with fail
  refine (of_ok k n 1 _ h (by decide)).mono ?_
  rintro e w1 ⟨rfl, hb⟩
  have hX : Blk w1 w.heap.size #[.int .i64 0, .int .i64 0, .int .u32 0] 56 := Blk.below (Blk.new _ _ _) hb (by simp)
  have s0 : w1.cell? ⟨w.heap.size, 0, none⟩ = some (.int .i64 0) := Blk.cell hX 0
  have z0 : w1.frozen? ⟨w.heap.size, 0, none⟩ = false := Blk.free hX 0
  have s1 : w1.cell? ⟨w.heap.size, 1, none⟩ = some (.int .i64 0) := Blk.cell hX 1
  have z1 : w1.frozen? ⟨w.heap.size, 1, none⟩ = false := Blk.free hX 1
  have s2 : w1.cell? ⟨w.heap.size, 2, none⟩ = some (.int .u32 0) := Blk.cell hX 2
  have z2 : w1.frozen? ⟨w.heap.size, 2, none⟩ = false := Blk.free hX 2
  have a0 : (w1.setCell ⟨w.heap.size, 0, none⟩ (.int .i64 k)).cell? ⟨w.heap.size, 0, none⟩ = some (.int .i64 k) := Blk.cell (Blk.set hX 0 _) 0
  have a1 : ((w1.setCell ⟨w.heap.size, 0, none⟩ (.int .i64 k)).setCell ⟨w.heap.size, 1, none⟩ (.int .i64 n)).cell? ⟨w.heap.size, 1, none⟩ = some (.int .i64 n) := Blk.cell (Blk.set (Blk.set hX 0 _) 1 _) 1
  have a2 : (((w1.setCell ⟨w.heap.size, 0, none⟩ (.int .i64 k)).setCell ⟨w.heap.size, 1, none⟩ (.int .i64 n)).setCell ⟨w.heap.size, 2, none⟩ (.int .u32 1)).cell? ⟨w.heap.size, 2, none⟩ = some (.int .u32 1) := Blk.cell (Blk.set (Blk.set (Blk.set hX 0 _) 1 _) 2 _) 2
  have A0 := Lib.hid a0
  have A1 := Lib.hid a1
  have A2 := Lib.hid a2
  clear a0 a1 a2
  have HB := Lib.hid hb
  clear hX hb
  go_wp2_with fail
  refine bodyPost_ret (v := .tuple #[.agg #[.int .i64 k, .int .i64 n, .int .u32 1], .nilIface]) ?_ rfl ⟨rfl, ?_⟩
  · simp [results, Tryd.results35, go_sem, A0.out, A1.out, A2.out]
  · exact (((((Below.refl _ _).alloc (Nat.le_refl _) _).trans (HB.out.mono (by simp))).setCell (by simp) _).setCell (by simp) _).setCell (by simp) _
set_option maxRecDepth 100000 in
set_option maxHeartbeats 1000000 in
theorem new_no (k n : Int) (w : World) (h : ¬ OkP k n) :
    Calls Tryd.prog 35 #[.int .i64 k, .int .i64 n] w fun e w' => e = .returned (.tuple #[.agg #[.int .i64 0, .int .i64 0, .int .u32 0], .iface 146 (.int .i64 1)]) ∧ Below w.heap.size w w' := by
  go_enter Tryd.func35, Tryd.ntmps35
  go_wp2_with fail
  refine (of_no k n 1 _ (fun hh => h hh.1)).mono ?_
  rintro e w1 ⟨rfl, hb⟩
  have hX : Blk w1 w.heap.size #[.int .i64 0, .int .i64 0, .int .u32 0] 56 := Blk.below (Blk.new _ _ _) hb (by simp)
  have s0 : w1.cell? ⟨w.heap.size, 0, none⟩ = some (.int .i64 0) := Blk.cell hX 0
  have z0 : w1.frozen? ⟨w.heap.size, 0, none⟩ = false := Blk.free hX 0
  have s1 : w1.cell? ⟨w.heap.size, 1, none⟩ = some (.int .i64 0) := Blk.cell hX 1
  have z1 : w1.frozen? ⟨w.heap.size, 1, none⟩ = false := Blk.free hX 1
  have s2 : w1.cell? ⟨w.heap.size, 2, none⟩ = some (.int .u32 0) := Blk.cell hX 2
  have z2 : w1.frozen? ⟨w.heap.size, 2, none⟩ = false := Blk.free hX 2
  have a0 : (w1.setCell ⟨w.heap.size, 0, none⟩ (.int .i64 0)).cell? ⟨w.heap.size, 0, none⟩ = some (.int .i64 0) := Blk.cell (Blk.set hX 0 _) 0
  have a1 : ((w1.setCell ⟨w.heap.size, 0, none⟩ (.int .i64 0)).setCell ⟨w.heap.size, 1, none⟩ (.int .i64 0)).cell? ⟨w.heap.size, 1, none⟩ = some (.int .i64 0) := Blk.cell (Blk.set (Blk.set hX 0 _) 1 _) 1
  have a2 : (((w1.setCell ⟨w.heap.size, 0, none⟩ (.int .i64 0)).setCell ⟨w.heap.size, 1, none⟩ (.int .i64 0)).setCell ⟨w.heap.size, 2, none⟩ (.int .u32 0)).cell? ⟨w.heap.size, 2, none⟩ = some (.int .u32 0) := Blk.cell (Blk.set (Blk.set (Blk.set hX 0 _) 1 _) 2 _) 2
  have A0 := Lib.hid a0
  have A1 := Lib.hid a1
  have A2 := Lib.hid a2
  clear a0 a1 a2
  have HB := Lib.hid hb
  clear hX hb
  go_wp2_with fail
  refine bodyPost_ret (v := .tuple #[.agg #[.int .i64 0, .int .i64 0, .int .u32 0], .iface 146 (.int .i64 1)]) ?_ rfl ⟨rfl, ?_⟩
  · simp [results, Tryd.results35, go_sem, A0.out, A1.out, A2.out]
  · exact (((((Below.refl _ _).alloc (Nat.le_refl _) _).trans (HB.out.mono (by simp))).setCell (by simp) _).setCell (by simp) _).setCell (by simp) _
set_option maxRecDepth 100000 in
set_option maxHeartbeats 2000000 in
theorem next_ok (k n g a b : Int) (w : World) (h : OkP k n) (hp : OkP a b) (h0 : 0 < g) (h1 : g < 4294967295) :
    Calls Tryd.prog 31 #[.agg #[.int .i64 k, .int .i64 n, .int .u32 g], .int .i64 a, .int .i64 b] w fun e w' => e = .returned (.tuple #[.agg #[.int .i64 a, .int .i64 b, .int .u32 (g + 1)], .nilIface]) ∧ Below w.heap.size w w' := by
  have HG := Lib.hid (show g ≠ 0 by omega)
  have HG1 := Lib.hid (show g + 1 ≠ 0 by omega)
  have hm : (g == 4294967295) = false := by rw [beq_eq_false_iff_ne]; omega
  go_enter Tryd.func31, Tryd.ntmps31
  go_wp2_with fail
  refine (ccheck_ok k n g _ h HG.out).mono ?_
  rintro e w1 ⟨rfl, hb0⟩
  have hX0 : Blk w1 (w.heap.size + 1) #[.int .i64 0, .int .i64 0, .int .u32 0] 56 := Blk.below (blk2' _ _ _ _ _) hb0 (by simp)
  have hY0 : Blk w1 w.heap.size #[.int .i64 k, .int .i64 n, .int .u32 g] 56 := Blk.below (blk2 _ _ _ _ _) hb0 (by simp; omega)
  have hB0 : Below w.heap.size w w1 := (((Below.refl _ _).alloc (Nat.le_refl _) _).alloc (by simp) _).trans (hb0.mono (by simp; omega))
  have HB0 := Lib.hid hB0
  have y0 : w1.cell? ⟨w.heap.size, 2, none⟩ = some (.int .u32 g) := Blk.cell hY0 2
  clear hB0 hb0
  go_wp2_with fail
  refine (check_ok a b 0 _ hp).mono ?_
  rintro e w2 ⟨rfl, hb1⟩
  have hX1 : Blk w2 (w.heap.size + 1) #[.int .i64 0, .int .i64 0, .int .u32 0] 56 := Blk.below hX0 hb1 (Blk.lt hX0)
  have hY1 : Blk w2 w.heap.size #[.int .i64 k, .int .i64 n, .int .u32 g] 56 := Blk.below hY0 hb1 (Blk.lt hY0)
  have hB1 : Below w.heap.size w w2 := (HB0.out).trans (hb1.mono (HB0.out).size)
  have HB1 := Lib.hid hB1
  have y1 : w2.cell? ⟨w.heap.size, 2, none⟩ = some (.int .u32 g) := Blk.cell hY1 2
  clear hB1 hb1 hX0 hY0 y0 HB0
  go_wp2_with fail
  refine (of_ok a b (g + 1) _ hp HG1.out).mono ?_
  rintro e w3 ⟨rfl, hb2⟩
  have hX2 : Blk w3 (w.heap.size + 1) #[.int .i64 0, .int .i64 0, .int .u32 0] 56 := Blk.below hX1 hb2 (Blk.lt hX1)
  have hY2 : Blk w3 w.heap.size #[.int .i64 k, .int .i64 n, .int .u32 g] 56 := Blk.below hY1 hb2 (Blk.lt hY1)
  have hB2 : Below w.heap.size w w3 := (HB1.out).trans (hb2.mono (HB1.out).size)
  have HB2 := Lib.hid hB2
  have y2 : w3.cell? ⟨w.heap.size, 2, none⟩ = some (.int .u32 g) := Blk.cell hY2 2
  clear hB2 hb2 hX1 hY1 y1 HB1
  have s0 : w3.cell? ⟨w.heap.size + 1, 0, none⟩ = some (.int .i64 0) := Blk.cell hX2 0
  have z0 : w3.frozen? ⟨w.heap.size + 1, 0, none⟩ = false := Blk.free hX2 0
  have s1 : w3.cell? ⟨w.heap.size + 1, 1, none⟩ = some (.int .i64 0) := Blk.cell hX2 1
  have z1 : w3.frozen? ⟨w.heap.size + 1, 1, none⟩ = false := Blk.free hX2 1
  have s2 : w3.cell? ⟨w.heap.size + 1, 2, none⟩ = some (.int .u32 0) := Blk.cell hX2 2
  have z2 : w3.frozen? ⟨w.heap.size + 1, 2, none⟩ = false := Blk.free hX2 2
  have a0 : (w3.setCell ⟨w.heap.size + 1, 0, none⟩ (.int .i64 a)).cell? ⟨w.heap.size + 1, 0, none⟩ = some (.int .i64 a) := Blk.cell (Blk.set hX2 0 _) 0
  have a1 : ((w3.setCell ⟨w.heap.size + 1, 0, none⟩ (.int .i64 a)).setCell ⟨w.heap.size + 1, 1, none⟩ (.int .i64 b)).cell? ⟨w.heap.size + 1, 1, none⟩ = some (.int .i64 b) := Blk.cell (Blk.set (Blk.set hX2 0 _) 1 _) 1
  have a2 : (((w3.setCell ⟨w.heap.size + 1, 0, none⟩ (.int .i64 a)).setCell ⟨w.heap.size + 1, 1, none⟩ (.int .i64 b)).setCell ⟨w.heap.size + 1, 2, none⟩ (.int .u32 (g + 1))).cell? ⟨w.heap.size + 1, 2, none⟩ = some (.int .u32 (g + 1)) := Blk.cell (Blk.set (Blk.set (Blk.set hX2 0 _) 1 _) 2 _) 2
  have A0 := Lib.hid a0
  have A1 := Lib.hid a1
  have A2 := Lib.hid a2
  clear a0 a1 a2
  clear hX2 hY2
  go_wp2_with fail
  refine bodyPost_ret (v := .tuple #[.agg #[.int .i64 a, .int .i64 b, .int .u32 (g + 1)], .nilIface]) ?_ rfl ⟨rfl, ?_⟩
  · simp [results, Tryd.results31, go_sem, A0.out, A1.out, A2.out]
  · exact (((HB2.out).setCell (by simp) _).setCell (by simp) _).setCell (by simp) _
set_option maxRecDepth 100000 in
set_option maxHeartbeats 2000000 in
theorem next_max (k n g a b : Int) (w : World) (h : OkP k n) (hp : OkP a b) (hgm : g = 4294967295) :
    Calls Tryd.prog 31 #[.agg #[.int .i64 k, .int .i64 n, .int .u32 g], .int .i64 a, .int .i64 b] w fun e w' => e = .returned (.tuple #[.agg #[.int .i64 0, .int .i64 0, .int .u32 0], .iface 146 (.int .i64 7)]) ∧ Below w.heap.size w w' := by
  have HG := Lib.hid (show g ≠ 0 by omega)
  have hm : (g == 4294967295) = true := by rw [beq_iff_eq]; exact hgm
  clear hgm
  go_enter Tryd.func31, Tryd.ntmps31
  go_wp2_with fail
  refine (ccheck_ok k n g _ h HG.out).mono ?_
  rintro e w1 ⟨rfl, hb0⟩
  have hX0 : Blk w1 (w.heap.size + 1) #[.int .i64 0, .int .i64 0, .int .u32 0] 56 := Blk.below (blk2' _ _ _ _ _) hb0 (by simp)
  have hY0 : Blk w1 w.heap.size #[.int .i64 k, .int .i64 n, .int .u32 g] 56 := Blk.below (blk2 _ _ _ _ _) hb0 (by simp; omega)
  have hB0 : Below w.heap.size w w1 := (((Below.refl _ _).alloc (Nat.le_refl _) _).alloc (by simp) _).trans (hb0.mono (by simp; omega))
  have HB0 := Lib.hid hB0
  have y0 : w1.cell? ⟨w.heap.size, 2, none⟩ = some (.int .u32 g) := Blk.cell hY0 2
  clear hB0 hb0
  go_wp2_with fail
  refine (check_ok a b 0 _ hp).mono ?_
  rintro e w2 ⟨rfl, hb1⟩
  have hX1 : Blk w2 (w.heap.size + 1) #[.int .i64 0, .int .i64 0, .int .u32 0] 56 := Blk.below hX0 hb1 (Blk.lt hX0)
  have hY1 : Blk w2 w.heap.size #[.int .i64 k, .int .i64 n, .int .u32 g] 56 := Blk.below hY0 hb1 (Blk.lt hY0)
  have hB1 : Below w.heap.size w w2 := (HB0.out).trans (hb1.mono (HB0.out).size)
  have HB1 := Lib.hid hB1
  have y1 : w2.cell? ⟨w.heap.size, 2, none⟩ = some (.int .u32 g) := Blk.cell hY1 2
  clear hB1 hb1 hX0 hY0 y0 HB0
  have s0 : w2.cell? ⟨w.heap.size + 1, 0, none⟩ = some (.int .i64 0) := Blk.cell hX1 0
  have z0 : w2.frozen? ⟨w.heap.size + 1, 0, none⟩ = false := Blk.free hX1 0
  have s1 : w2.cell? ⟨w.heap.size + 1, 1, none⟩ = some (.int .i64 0) := Blk.cell hX1 1
  have z1 : w2.frozen? ⟨w.heap.size + 1, 1, none⟩ = false := Blk.free hX1 1
  have s2 : w2.cell? ⟨w.heap.size + 1, 2, none⟩ = some (.int .u32 0) := Blk.cell hX1 2
  have z2 : w2.frozen? ⟨w.heap.size + 1, 2, none⟩ = false := Blk.free hX1 2
  have a0 : (w2.setCell ⟨w.heap.size + 1, 0, none⟩ (.int .i64 0)).cell? ⟨w.heap.size + 1, 0, none⟩ = some (.int .i64 0) := Blk.cell (Blk.set hX1 0 _) 0
  have a1 : ((w2.setCell ⟨w.heap.size + 1, 0, none⟩ (.int .i64 0)).setCell ⟨w.heap.size + 1, 1, none⟩ (.int .i64 0)).cell? ⟨w.heap.size + 1, 1, none⟩ = some (.int .i64 0) := Blk.cell (Blk.set (Blk.set hX1 0 _) 1 _) 1
  have a2 : (((w2.setCell ⟨w.heap.size + 1, 0, none⟩ (.int .i64 0)).setCell ⟨w.heap.size + 1, 1, none⟩ (.int .i64 0)).setCell ⟨w.heap.size + 1, 2, none⟩ (.int .u32 0)).cell? ⟨w.heap.size + 1, 2, none⟩ = some (.int .u32 0) := Blk.cell (Blk.set (Blk.set (Blk.set hX1 0 _) 1 _) 2 _) 2
  have A0 := Lib.hid a0
  have A1 := Lib.hid a1
  have A2 := Lib.hid a2
  clear a0 a1 a2
  clear hX1 hY1
  go_wp2_with fail
  refine bodyPost_ret (v := .tuple #[.agg #[.int .i64 0, .int .i64 0, .int .u32 0], .iface 146 (.int .i64 7)]) ?_ rfl ⟨rfl, ?_⟩
  · simp [results, Tryd.results31, go_sem, A0.out, A1.out, A2.out]
  · exact (((HB1.out).setCell (by simp) _).setCell (by simp) _).setCell (by simp) _
set_option maxRecDepth 100000 in
set_option maxHeartbeats 2000000 in
theorem next_noc (k n g a b : Int) (w : World) (h : ¬ (OkP k n ∧ g ≠ 0)) :
    Calls Tryd.prog 31 #[.agg #[.int .i64 k, .int .i64 n, .int .u32 g], .int .i64 a, .int .i64 b] w fun e w' => e = .returned (.tuple #[.agg #[.int .i64 0, .int .i64 0, .int .u32 0], .iface 146 (.int .i64 1)]) ∧ Below w.heap.size w w' := by
  go_enter Tryd.func31, Tryd.ntmps31
  go_wp2_with fail
  refine (ccheck_no k n g _ h).mono ?_
  rintro e w1 ⟨rfl, hb0⟩
  have hX0 : Blk w1 (w.heap.size + 1) #[.int .i64 0, .int .i64 0, .int .u32 0] 56 := Blk.below (blk2' _ _ _ _ _) hb0 (by simp)
  have hY0 : Blk w1 w.heap.size #[.int .i64 k, .int .i64 n, .int .u32 g] 56 := Blk.below (blk2 _ _ _ _ _) hb0 (by simp; omega)
  have hB0 : Below w.heap.size w w1 := (((Below.refl _ _).alloc (Nat.le_refl _) _).alloc (by simp) _).trans (hb0.mono (by simp; omega))
  have HB0 := Lib.hid hB0
  have y0 : w1.cell? ⟨w.heap.size, 2, none⟩ = some (.int .u32 g) := Blk.cell hY0 2
  clear hB0 hb0
  have s0 : w1.cell? ⟨w.heap.size + 1, 0, none⟩ = some (.int .i64 0) := Blk.cell hX0 0
  have z0 : w1.frozen? ⟨w.heap.size + 1, 0, none⟩ = false := Blk.free hX0 0
  have s1 : w1.cell? ⟨w.heap.size + 1, 1, none⟩ = some (.int .i64 0) := Blk.cell hX0 1
  have z1 : w1.frozen? ⟨w.heap.size + 1, 1, none⟩ = false := Blk.free hX0 1
  have s2 : w1.cell? ⟨w.heap.size + 1, 2, none⟩ = some (.int .u32 0) := Blk.cell hX0 2
  have z2 : w1.frozen? ⟨w.heap.size + 1, 2, none⟩ = false := Blk.free hX0 2
  have a0 : (w1.setCell ⟨w.heap.size + 1, 0, none⟩ (.int .i64 0)).cell? ⟨w.heap.size + 1, 0, none⟩ = some (.int .i64 0) := Blk.cell (Blk.set hX0 0 _) 0
  have a1 : ((w1.setCell ⟨w.heap.size + 1, 0, none⟩ (.int .i64 0)).setCell ⟨w.heap.size + 1, 1, none⟩ (.int .i64 0)).cell? ⟨w.heap.size + 1, 1, none⟩ = some (.int .i64 0) := Blk.cell (Blk.set (Blk.set hX0 0 _) 1 _) 1
  have a2 : (((w1.setCell ⟨w.heap.size + 1, 0, none⟩ (.int .i64 0)).setCell ⟨w.heap.size + 1, 1, none⟩ (.int .i64 0)).setCell ⟨w.heap.size + 1, 2, none⟩ (.int .u32 0)).cell? ⟨w.heap.size + 1, 2, none⟩ = some (.int .u32 0) := Blk.cell (Blk.set (Blk.set (Blk.set hX0 0 _) 1 _) 2 _) 2
  have A0 := Lib.hid a0
  have A1 := Lib.hid a1
  have A2 := Lib.hid a2
  clear a0 a1 a2
  clear hX0 hY0
  go_wp2_with fail
  refine bodyPost_ret (v := .tuple #[.agg #[.int .i64 0, .int .i64 0, .int .u32 0], .iface 146 (.int .i64 1)]) ?_ rfl ⟨rfl, ?_⟩
  · simp [results, Tryd.results31, go_sem, A0.out, A1.out, A2.out]
  · exact (((HB0.out).setCell (by simp) _).setCell (by simp) _).setCell (by simp) _
set_option maxRecDepth 100000 in
set_option maxHeartbeats 2000000 in
theorem next_nop (k n g a b : Int) (w : World) (h : OkP k n) (hg : g ≠ 0) (hp : ¬ OkP a b) :
    Calls Tryd.prog 31 #[.agg #[.int .i64 k, .int .i64 n, .int .u32 g], .int .i64 a, .int .i64 b] w fun e w' => e = .returned (.tuple #[.agg #[.int .i64 0, .int .i64 0, .int .u32 0], .iface 146 (.int .i64 1)]) ∧ Below w.heap.size w w' := by
  have HG := Lib.hid hg
  clear hg
  go_enter Tryd.func31, Tryd.ntmps31
  go_wp2_with fail
  refine (ccheck_ok k n g _ h HG.out).mono ?_
  rintro e w1 ⟨rfl, hb0⟩
  have hX0 : Blk w1 (w.heap.size + 1) #[.int .i64 0, .int .i64 0, .int .u32 0] 56 := Blk.below (blk2' _ _ _ _ _) hb0 (by simp)
  have hY0 : Blk w1 w.heap.size #[.int .i64 k, .int .i64 n, .int .u32 g] 56 := Blk.below (blk2 _ _ _ _ _) hb0 (by simp; omega)
  have hB0 : Below w.heap.size w w1 := (((Below.refl _ _).alloc (Nat.le_refl _) _).alloc (by simp) _).trans (hb0.mono (by simp; omega))
  have HB0 := Lib.hid hB0
  have y0 : w1.cell? ⟨w.heap.size, 2, none⟩ = some (.int .u32 g) := Blk.cell hY0 2
  clear hB0 hb0
  go_wp2_with fail
  refine (check_no a b 0 _ hp).mono ?_
  rintro e w2 ⟨rfl, hb1⟩
  have hX1 : Blk w2 (w.heap.size + 1) #[.int .i64 0, .int .i64 0, .int .u32 0] 56 := Blk.below hX0 hb1 (Blk.lt hX0)
  have hY1 : Blk w2 w.heap.size #[.int .i64 k, .int .i64 n, .int .u32 g] 56 := Blk.below hY0 hb1 (Blk.lt hY0)
  have hB1 : Below w.heap.size w w2 := (HB0.out).trans (hb1.mono (HB0.out).size)
  have HB1 := Lib.hid hB1
  have y1 : w2.cell? ⟨w.heap.size, 2, none⟩ = some (.int .u32 g) := Blk.cell hY1 2
  clear hB1 hb1 hX0 hY0 y0 HB0
  have s0 : w2.cell? ⟨w.heap.size + 1, 0, none⟩ = some (.int .i64 0) := Blk.cell hX1 0
  have z0 : w2.frozen? ⟨w.heap.size + 1, 0, none⟩ = false := Blk.free hX1 0
  have s1 : w2.cell? ⟨w.heap.size + 1, 1, none⟩ = some (.int .i64 0) := Blk.cell hX1 1
  have z1 : w2.frozen? ⟨w.heap.size + 1, 1, none⟩ = false := Blk.free hX1 1
  have s2 : w2.cell? ⟨w.heap.size + 1, 2, none⟩ = some (.int .u32 0) := Blk.cell hX1 2
  have z2 : w2.frozen? ⟨w.heap.size + 1, 2, none⟩ = false := Blk.free hX1 2
  have a0 : (w2.setCell ⟨w.heap.size + 1, 0, none⟩ (.int .i64 0)).cell? ⟨w.heap.size + 1, 0, none⟩ = some (.int .i64 0) := Blk.cell (Blk.set hX1 0 _) 0
  have a1 : ((w2.setCell ⟨w.heap.size + 1, 0, none⟩ (.int .i64 0)).setCell ⟨w.heap.size + 1, 1, none⟩ (.int .i64 0)).cell? ⟨w.heap.size + 1, 1, none⟩ = some (.int .i64 0) := Blk.cell (Blk.set (Blk.set hX1 0 _) 1 _) 1
  have a2 : (((w2.setCell ⟨w.heap.size + 1, 0, none⟩ (.int .i64 0)).setCell ⟨w.heap.size + 1, 1, none⟩ (.int .i64 0)).setCell ⟨w.heap.size + 1, 2, none⟩ (.int .u32 0)).cell? ⟨w.heap.size + 1, 2, none⟩ = some (.int .u32 0) := Blk.cell (Blk.set (Blk.set (Blk.set hX1 0 _) 1 _) 2 _) 2
  have A0 := Lib.hid a0
  have A1 := Lib.hid a1
  have A2 := Lib.hid a2
  clear a0 a1 a2
  clear hX1 hY1
  go_wp2_with fail
  refine bodyPost_ret (v := .tuple #[.agg #[.int .i64 0, .int .i64 0, .int .u32 0], .iface 146 (.int .i64 1)]) ?_ rfl ⟨rfl, ?_⟩
  · simp [results, Tryd.results31, go_sem, A0.out, A1.out, A2.out]
  · exact (((HB1.out).setCell (by simp) _).setCell (by simp) _).setCell (by simp) _
set_option maxRecDepth 100000 in
set_option maxHeartbeats 2000000 in
theorem rnext_ok (k n g a b : Int) (w : World) (h : OkP k n) (hp : OkP a b) (h0 : 0 < g) (h1 : g < 4294967295) :
    Calls Tryd.prog 32 #[.agg #[.int .i64 k, .int .i64 n, .int .u32 g], .int .i64 a, .int .i64 b] w fun e w' => e = .returned (.tuple #[.agg #[.int .i64 a, .int .i64 b, .int .u32 (g + 1)], .int .i64 0]) ∧ Below w.heap.size w w' := by
  have hm : (g == 4294967295) = false := by rw [beq_eq_false_iff_ne]; omega
  go_enter Tryd.func32, Tryd.ntmps32
  go_wp2_with fail
  refine (rmay_ok k n g _ h h0).mono ?_
  rintro e w1 ⟨rfl, hb0⟩
  have hX0 : Blk w1 (w.heap.size + 1) #[.int .i64 0, .int .i64 0, .int .u32 0] 52 := Blk.below (blk2' _ _ _ _ _) hb0 (by simp)
  have hY0 : Blk w1 w.heap.size #[.int .i64 k, .int .i64 n, .int .u32 g] 52 := Blk.below (blk2 _ _ _ _ _) hb0 (by simp; omega)
  have hB0 : Below w.heap.size w w1 := (((Below.refl _ _).alloc (Nat.le_refl _) _).alloc (by simp) _).trans (hb0.mono (by simp; omega))
  have HB0 := Lib.hid hB0
  have y0 : w1.cell? ⟨w.heap.size, 2, none⟩ = some (.int .u32 g) := Blk.cell hY0 2
  clear hB0 hb0
  go_wp2_with fail
  refine (may_ok a b 0 _ hp).mono ?_
  rintro e w2 ⟨rfl, hb1⟩
  have hX1 : Blk w2 (w.heap.size + 1) #[.int .i64 0, .int .i64 0, .int .u32 0] 52 := Blk.below hX0 hb1 (Blk.lt hX0)
  have hY1 : Blk w2 w.heap.size #[.int .i64 k, .int .i64 n, .int .u32 g] 52 := Blk.below hY0 hb1 (Blk.lt hY0)
  have hB1 : Below w.heap.size w w2 := (HB0.out).trans (hb1.mono (HB0.out).size)
  have HB1 := Lib.hid hB1
  have y1 : w2.cell? ⟨w.heap.size, 2, none⟩ = some (.int .u32 g) := Blk.cell hY1 2
  clear hB1 hb1 hX0 hY0 y0 HB0
  have s0 : w2.cell? ⟨w.heap.size + 1, 0, none⟩ = some (.int .i64 0) := Blk.cell hX1 0
  have z0 : w2.frozen? ⟨w.heap.size + 1, 0, none⟩ = false := Blk.free hX1 0
  have s1 : w2.cell? ⟨w.heap.size + 1, 1, none⟩ = some (.int .i64 0) := Blk.cell hX1 1
  have z1 : w2.frozen? ⟨w.heap.size + 1, 1, none⟩ = false := Blk.free hX1 1
  have s2 : w2.cell? ⟨w.heap.size + 1, 2, none⟩ = some (.int .u32 0) := Blk.cell hX1 2
  have z2 : w2.frozen? ⟨w.heap.size + 1, 2, none⟩ = false := Blk.free hX1 2
  have a0 : (w2.setCell ⟨w.heap.size + 1, 0, none⟩ (.int .i64 a)).cell? ⟨w.heap.size + 1, 0, none⟩ = some (.int .i64 a) := Blk.cell (Blk.set hX1 0 _) 0
  have a1 : ((w2.setCell ⟨w.heap.size + 1, 0, none⟩ (.int .i64 a)).setCell ⟨w.heap.size + 1, 1, none⟩ (.int .i64 b)).cell? ⟨w.heap.size + 1, 1, none⟩ = some (.int .i64 b) := Blk.cell (Blk.set (Blk.set hX1 0 _) 1 _) 1
  have a2 : (((w2.setCell ⟨w.heap.size + 1, 0, none⟩ (.int .i64 a)).setCell ⟨w.heap.size + 1, 1, none⟩ (.int .i64 b)).setCell ⟨w.heap.size + 1, 2, none⟩ (.int .u32 (g + 1))).cell? ⟨w.heap.size + 1, 2, none⟩ = some (.int .u32 (g + 1)) := Blk.cell (Blk.set (Blk.set (Blk.set hX1 0 _) 1 _) 2 _) 2
  have A0 := Lib.hid a0
  have A1 := Lib.hid a1
  have A2 := Lib.hid a2
  clear a0 a1 a2
  clear hX1 hY1
  go_wp2_with fail
  refine bodyPost_ret (v := .tuple #[.agg #[.int .i64 a, .int .i64 b, .int .u32 (g + 1)], .int .i64 0]) ?_ rfl ⟨rfl, ?_⟩
  · simp [results, Tryd.results32, go_sem, A0.out, A1.out, A2.out]
  · exact (((HB1.out).setCell (by simp) _).setCell (by simp) _).setCell (by simp) _
set_option maxRecDepth 100000 in
set_option maxHeartbeats 2000000 in
theorem rnext_max (k n g a b : Int) (w : World) (h : OkP k n) (hp : OkP a b) (hgm : g = 4294967295) :
    Calls Tryd.prog 32 #[.agg #[.int .i64 k, .int .i64 n, .int .u32 g], .int .i64 a, .int .i64 b] w fun e w' => e = .returned (.tuple #[.agg #[.int .i64 0, .int .i64 0, .int .u32 0], .int .i64 7]) ∧ Below w.heap.size w w' := by
  have HG := Lib.hid (show 0 < g by omega)
  have hm : (g == 4294967295) = true := by rw [beq_iff_eq]; exact hgm
  clear hgm
  go_enter Tryd.func32, Tryd.ntmps32
  go_wp2_with fail
  refine (rmay_ok k n g _ h HG.out).mono ?_
  rintro e w1 ⟨rfl, hb0⟩
  have hX0 : Blk w1 (w.heap.size + 1) #[.int .i64 0, .int .i64 0, .int .u32 0] 52 := Blk.below (blk2' _ _ _ _ _) hb0 (by simp)
  have hY0 : Blk w1 w.heap.size #[.int .i64 k, .int .i64 n, .int .u32 g] 52 := Blk.below (blk2 _ _ _ _ _) hb0 (by simp; omega)
  have hB0 : Below w.heap.size w w1 := (((Below.refl _ _).alloc (Nat.le_refl _) _).alloc (by simp) _).trans (hb0.mono (by simp; omega))
  have HB0 := Lib.hid hB0
  have y0 : w1.cell? ⟨w.heap.size, 2, none⟩ = some (.int .u32 g) := Blk.cell hY0 2
  clear hB0 hb0
  go_wp2_with fail
  refine (may_ok a b 0 _ hp).mono ?_
  rintro e w2 ⟨rfl, hb1⟩
  have hX1 : Blk w2 (w.heap.size + 1) #[.int .i64 0, .int .i64 0, .int .u32 0] 52 := Blk.below hX0 hb1 (Blk.lt hX0)
  have hY1 : Blk w2 w.heap.size #[.int .i64 k, .int .i64 n, .int .u32 g] 52 := Blk.below hY0 hb1 (Blk.lt hY0)
  have hB1 : Below w.heap.size w w2 := (HB0.out).trans (hb1.mono (HB0.out).size)
  have HB1 := Lib.hid hB1
  have y1 : w2.cell? ⟨w.heap.size, 2, none⟩ = some (.int .u32 g) := Blk.cell hY1 2
  clear hB1 hb1 hX0 hY0 y0 HB0
  have s0 : w2.cell? ⟨w.heap.size + 1, 0, none⟩ = some (.int .i64 0) := Blk.cell hX1 0
  have z0 : w2.frozen? ⟨w.heap.size + 1, 0, none⟩ = false := Blk.free hX1 0
  have s1 : w2.cell? ⟨w.heap.size + 1, 1, none⟩ = some (.int .i64 0) := Blk.cell hX1 1
  have z1 : w2.frozen? ⟨w.heap.size + 1, 1, none⟩ = false := Blk.free hX1 1
  have s2 : w2.cell? ⟨w.heap.size + 1, 2, none⟩ = some (.int .u32 0) := Blk.cell hX1 2
  have z2 : w2.frozen? ⟨w.heap.size + 1, 2, none⟩ = false := Blk.free hX1 2
  have a0 : (w2.setCell ⟨w.heap.size + 1, 0, none⟩ (.int .i64 0)).cell? ⟨w.heap.size + 1, 0, none⟩ = some (.int .i64 0) := Blk.cell (Blk.set hX1 0 _) 0
  have a1 : ((w2.setCell ⟨w.heap.size + 1, 0, none⟩ (.int .i64 0)).setCell ⟨w.heap.size + 1, 1, none⟩ (.int .i64 0)).cell? ⟨w.heap.size + 1, 1, none⟩ = some (.int .i64 0) := Blk.cell (Blk.set (Blk.set hX1 0 _) 1 _) 1
  have a2 : (((w2.setCell ⟨w.heap.size + 1, 0, none⟩ (.int .i64 0)).setCell ⟨w.heap.size + 1, 1, none⟩ (.int .i64 0)).setCell ⟨w.heap.size + 1, 2, none⟩ (.int .u32 0)).cell? ⟨w.heap.size + 1, 2, none⟩ = some (.int .u32 0) := Blk.cell (Blk.set (Blk.set (Blk.set hX1 0 _) 1 _) 2 _) 2
  have A0 := Lib.hid a0
  have A1 := Lib.hid a1
  have A2 := Lib.hid a2
  clear a0 a1 a2
  clear hX1 hY1
  go_wp2_with fail
  refine bodyPost_ret (v := .tuple #[.agg #[.int .i64 0, .int .i64 0, .int .u32 0], .int .i64 7]) ?_ rfl ⟨rfl, ?_⟩
  · simp [results, Tryd.results32, go_sem, A0.out, A1.out, A2.out]
  · exact (((HB1.out).setCell (by simp) _).setCell (by simp) _).setCell (by simp) _
set_option maxRecDepth 100000 in
set_option maxHeartbeats 2000000 in
theorem rnext_noc (k n g a b : Int) (w : World) (h : ¬ (OkP k n ∧ g ≠ 0)) (hg : 0 ≤ g) :
    Calls Tryd.prog 32 #[.agg #[.int .i64 k, .int .i64 n, .int .u32 g], .int .i64 a, .int .i64 b] w fun e w' => e = .returned (.tuple #[.agg #[.int .i64 0, .int .i64 0, .int .u32 0], .int .i64 1]) ∧ Below w.heap.size w w' := by
  go_enter Tryd.func32, Tryd.ntmps32
  go_wp2_with fail
  refine (rmay_no k n g _ h hg).mono ?_
  rintro e w1 ⟨rfl, hb0⟩
  have hX0 : Blk w1 (w.heap.size + 1) #[.int .i64 0, .int .i64 0, .int .u32 0] 52 := Blk.below (blk2' _ _ _ _ _) hb0 (by simp)
  have hY0 : Blk w1 w.heap.size #[.int .i64 k, .int .i64 n, .int .u32 g] 52 := Blk.below (blk2 _ _ _ _ _) hb0 (by simp; omega)
  have hB0 : Below w.heap.size w w1 := (((Below.refl _ _).alloc (Nat.le_refl _) _).alloc (by simp) _).trans (hb0.mono (by simp; omega))
  have HB0 := Lib.hid hB0
  have y0 : w1.cell? ⟨w.heap.size, 2, none⟩ = some (.int .u32 g) := Blk.cell hY0 2
  clear hB0 hb0
  have s0 : w1.cell? ⟨w.heap.size + 1, 0, none⟩ = some (.int .i64 0) := Blk.cell hX0 0
  have z0 : w1.frozen? ⟨w.heap.size + 1, 0, none⟩ = false := Blk.free hX0 0
  have s1 : w1.cell? ⟨w.heap.size + 1, 1, none⟩ = some (.int .i64 0) := Blk.cell hX0 1
  have z1 : w1.frozen? ⟨w.heap.size + 1, 1, none⟩ = false := Blk.free hX0 1
  have s2 : w1.cell? ⟨w.heap.size + 1, 2, none⟩ = some (.int .u32 0) := Blk.cell hX0 2
  have z2 : w1.frozen? ⟨w.heap.size + 1, 2, none⟩ = false := Blk.free hX0 2
  have a0 : (w1.setCell ⟨w.heap.size + 1, 0, none⟩ (.int .i64 0)).cell? ⟨w.heap.size + 1, 0, none⟩ = some (.int .i64 0) := Blk.cell (Blk.set hX0 0 _) 0
  have a1 : ((w1.setCell ⟨w.heap.size + 1, 0, none⟩ (.int .i64 0)).setCell ⟨w.heap.size + 1, 1, none⟩ (.int .i64 0)).cell? ⟨w.heap.size + 1, 1, none⟩ = some (.int .i64 0) := Blk.cell (Blk.set (Blk.set hX0 0 _) 1 _) 1
  have a2 : (((w1.setCell ⟨w.heap.size + 1, 0, none⟩ (.int .i64 0)).setCell ⟨w.heap.size + 1, 1, none⟩ (.int .i64 0)).setCell ⟨w.heap.size + 1, 2, none⟩ (.int .u32 0)).cell? ⟨w.heap.size + 1, 2, none⟩ = some (.int .u32 0) := Blk.cell (Blk.set (Blk.set (Blk.set hX0 0 _) 1 _) 2 _) 2
  have A0 := Lib.hid a0
  have A1 := Lib.hid a1
  have A2 := Lib.hid a2
  clear a0 a1 a2
  clear hX0 hY0
  go_wp2_with fail
  refine bodyPost_ret (v := .tuple #[.agg #[.int .i64 0, .int .i64 0, .int .u32 0], .int .i64 1]) ?_ rfl ⟨rfl, ?_⟩
  · simp [results, Tryd.results32, go_sem, A0.out, A1.out, A2.out]
  · exact (((HB0.out).setCell (by simp) _).setCell (by simp) _).setCell (by simp) _
set_option maxRecDepth 100000 in
set_option maxHeartbeats 2000000 in
theorem rnext_nop (k n g a b : Int) (w : World) (h : OkP k n) (h0 : 0 < g) (hp : ¬ OkP a b) :
    Calls Tryd.prog 32 #[.agg #[.int .i64 k, .int .i64 n, .int .u32 g], .int .i64 a, .int .i64 b] w fun e w' => e = .returned (.tuple #[.agg #[.int .i64 0, .int .i64 0, .int .u32 0], .int .i64 1]) ∧ Below w.heap.size w w' := by
  go_enter Tryd.func32, Tryd.ntmps32
  go_wp2_with fail
  refine (rmay_ok k n g _ h h0).mono ?_
  rintro e w1 ⟨rfl, hb0⟩
  have hX0 : Blk w1 (w.heap.size + 1) #[.int .i64 0, .int .i64 0, .int .u32 0] 52 := Blk.below (blk2' _ _ _ _ _) hb0 (by simp)
  have hY0 : Blk w1 w.heap.size #[.int .i64 k, .int .i64 n, .int .u32 g] 52 := Blk.below (blk2 _ _ _ _ _) hb0 (by simp; omega)
  have hB0 : Below w.heap.size w w1 := (((Below.refl _ _).alloc (Nat.le_refl _) _).alloc (by simp) _).trans (hb0.mono (by simp; omega))
  have HB0 := Lib.hid hB0
  have y0 : w1.cell? ⟨w.heap.size, 2, none⟩ = some (.int .u32 g) := Blk.cell hY0 2
  clear hB0 hb0
  go_wp2_with fail
  refine (may_no a b 0 _ hp).mono ?_
  rintro e w2 ⟨rfl, hb1⟩
  have hX1 : Blk w2 (w.heap.size + 1) #[.int .i64 0, .int .i64 0, .int .u32 0] 52 := Blk.below hX0 hb1 (Blk.lt hX0)
  have hY1 : Blk w2 w.heap.size #[.int .i64 k, .int .i64 n, .int .u32 g] 52 := Blk.below hY0 hb1 (Blk.lt hY0)
  have hB1 : Below w.heap.size w w2 := (HB0.out).trans (hb1.mono (HB0.out).size)
  have HB1 := Lib.hid hB1
  have y1 : w2.cell? ⟨w.heap.size, 2, none⟩ = some (.int .u32 g) := Blk.cell hY1 2
  clear hB1 hb1 hX0 hY0 y0 HB0
  have s0 : w2.cell? ⟨w.heap.size + 1, 0, none⟩ = some (.int .i64 0) := Blk.cell hX1 0
  have z0 : w2.frozen? ⟨w.heap.size + 1, 0, none⟩ = false := Blk.free hX1 0
  have s1 : w2.cell? ⟨w.heap.size + 1, 1, none⟩ = some (.int .i64 0) := Blk.cell hX1 1
  have z1 : w2.frozen? ⟨w.heap.size + 1, 1, none⟩ = false := Blk.free hX1 1
  have s2 : w2.cell? ⟨w.heap.size + 1, 2, none⟩ = some (.int .u32 0) := Blk.cell hX1 2
  have z2 : w2.frozen? ⟨w.heap.size + 1, 2, none⟩ = false := Blk.free hX1 2
  have a0 : (w2.setCell ⟨w.heap.size + 1, 0, none⟩ (.int .i64 0)).cell? ⟨w.heap.size + 1, 0, none⟩ = some (.int .i64 0) := Blk.cell (Blk.set hX1 0 _) 0
  have a1 : ((w2.setCell ⟨w.heap.size + 1, 0, none⟩ (.int .i64 0)).setCell ⟨w.heap.size + 1, 1, none⟩ (.int .i64 0)).cell? ⟨w.heap.size + 1, 1, none⟩ = some (.int .i64 0) := Blk.cell (Blk.set (Blk.set hX1 0 _) 1 _) 1
  have a2 : (((w2.setCell ⟨w.heap.size + 1, 0, none⟩ (.int .i64 0)).setCell ⟨w.heap.size + 1, 1, none⟩ (.int .i64 0)).setCell ⟨w.heap.size + 1, 2, none⟩ (.int .u32 0)).cell? ⟨w.heap.size + 1, 2, none⟩ = some (.int .u32 0) := Blk.cell (Blk.set (Blk.set (Blk.set hX1 0 _) 1 _) 2 _) 2
  have A0 := Lib.hid a0
  have A1 := Lib.hid a1
  have A2 := Lib.hid a2
  clear a0 a1 a2
  clear hX1 hY1
  go_wp2_with fail
  refine bodyPost_ret (v := .tuple #[.agg #[.int .i64 0, .int .i64 0, .int .u32 0], .int .i64 1]) ?_ rfl ⟨rfl, ?_⟩
  · simp [results, Tryd.results32, go_sem, A0.out, A1.out, A2.out]
  · exact (((HB1.out).setCell (by simp) _).setCell (by simp) _).setCell (by simp) _
end Go.Proofs.YtkaddilgegimjaaDoor
