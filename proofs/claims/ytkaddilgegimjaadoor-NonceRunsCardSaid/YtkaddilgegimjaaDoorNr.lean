/- Contracts of the document's own functions of layer 18, and of nil counters. -/
import Derived.Test.YtkaddilgegimjaaDoorNq
import Derived.RegionTactic
import Derived.Lib.Hide
import Derived.IntWalk
namespace Go.Proofs.YtkaddilgegimjaaDoor
set_option linter.unusedVariables false
set_option linter.unusedSimpArgs false
open Go.RowKit

set_option maxHeartbeats 400000 in
theorem take_nil (w : World) :
    Calls Tryd.prog 15 #[.pointer none] w fun e w' => e = .returned (.tuple #[.int .u64 0, .iface 146 (.int .i64 1)]) ∧ w = w' := by
  go_enter Tryd.func15, Tryd.ntmps15
  go_wp2_with fail
  go_ret2
  exact ⟨rfl, rfl⟩
set_option maxHeartbeats 400000 in
theorem ext_nil (w : World) :
    Calls Tryd.prog 16 #[.pointer none] w fun e w' => e = .returned (.tuple #[.int .u64 0, .iface 146 (.int .i64 1)]) ∧ w = w' := by
  go_enter Tryd.func16, Tryd.ntmps16
  go_wp2_with fail
  go_ret2
  exact ⟨rfl, rfl⟩
set_option maxHeartbeats 400000 in
theorem mark_nil (w : World) :
    Calls Tryd.prog 18 #[.pointer none] w fun e w' => e = .returned (.int .u64 0) ∧ w = w' := by
  go_enter Tryd.func18, Tryd.ntmps18
  go_wp2_with fail
  go_ret
  exact ⟨rfl, rfl⟩
set_option maxHeartbeats 400000 in
theorem left_nil (w : World) :
    Calls Tryd.prog 19 #[.pointer none] w fun e w' => e = .returned (.int .u64 0) ∧ w = w' := by
  go_enter Tryd.func19, Tryd.ntmps19
  go_wp2_with fail
  go_ret
  exact ⟨rfl, rfl⟩
set_option maxHeartbeats 400000 in
theorem new_bad (m l : Int) (w : World) (h : ¬ (m ≤ l ∧ l ≤ 281474976710656)) :
    Calls Tryd.prog 23 #[.int .u64 m, .int .u64 l] w fun e w' => e = .returned (.tuple #[.pointer none, .iface 146 (.int .i64 1)]) ∧ w = w' := by
  by_cases h1 : l < m
  · clear h
    go_enter Tryd.func23, Tryd.ntmps23
    go_wp2_with fail
    go_ret2
    exact ⟨rfl, rfl⟩
  · have h2 : 281474976710656 < l := by omega
    clear h
    go_enter Tryd.func23, Tryd.ntmps23
    go_wp2_with fail
    go_ret2
    exact ⟨rfl, rfl⟩
set_option maxHeartbeats 400000 in
theorem rmay_yes (m l : Int) (w : World) (h1 : m ≤ l) (h2 : l ≤ 281474976710656) :
    Calls Tryd.prog 24 #[.int .u64 m, .int .u64 l] w fun e w' => e = .returned (.bool true) ∧ w = w' := by
  go_enter Tryd.func24, Tryd.ntmps24
  go_wp2_with fail
  go_ret
  exact ⟨rfl, rfl⟩
set_option maxHeartbeats 400000 in
theorem rmay_no (m l : Int) (w : World) (h : ¬ (m ≤ l ∧ l ≤ 281474976710656)) :
    Calls Tryd.prog 24 #[.int .u64 m, .int .u64 l] w fun e w' => e = .returned (.bool false) ∧ w = w' := by
  by_cases h1 : m ≤ l
  · have h2 : decide (l ≤ 281474976710656) = false := decide_eq_false (by omega)
    clear h
    go_enter Tryd.func24, Tryd.ntmps24
    go_wp2_with fail
    go_ret
    exact ⟨rfl, rfl⟩
  · have h2 : decide (m ≤ l) = false := decide_eq_false h1
    clear h
    go_enter Tryd.func24, Tryd.ntmps24
    go_wp2_with fail
    go_ret
    exact ⟨rfl, rfl⟩

/-- A counter of the document's, as a value. -/
def cV (n m l : Int) : Array Value := #[.int .u64 n, .int .u64 m, .int .u64 l]

set_option maxHeartbeats 400000 in
theorem rtake_short (m l : Int) (w : World) :
    Calls Tryd.prog 27 #[.agg #[.int .u64 m, .int .u64 m, .int .u64 l]] w fun e w' => e = .returned (.tuple #[.agg #[.int .u64 m, .int .u64 m, .int .u64 l], .int .u64 0, .int .i64 2]) ∧ Below w.heap.size w w' := by
  go_enter Tryd.func27, Tryd.ntmps27
  go_wp2_with fail
  exact bodyPost_ret (v := .tuple #[.agg #[.int .u64 m, .int .u64 m, .int .u64 l], .int .u64 0, .int .i64 2]) (by simp [results, Tryd.results27, go_sem]) rfl ⟨rfl, ((Below.refl _ _).alloc (Nat.le_refl _) _).alloc (by simp) _⟩
set_option maxHeartbeats 1000000 in
theorem rtake_next (n m l : Int) (w : World) (hne : (n == m) = false) (hn : 0 ≤ n ∧ n ≤ 281474976710656) :
    Calls Tryd.prog 27 #[.agg #[.int .u64 n, .int .u64 m, .int .u64 l]] w fun e w' => e = .returned (.tuple #[.agg #[.int .u64 (n + 1), .int .u64 m, .int .u64 l], .int .u64 n, .int .i64 0]) ∧ Below w.heap.size w w' := by
  obtain ⟨n0, n1⟩ := hn
  go_enter Tryd.func27, Tryd.ntmps27
  go_wp2_with fail
  go_region
  all_goals
    go_wp2_with fail
    refine bodyPost_ret (v := .tuple #[.agg #[.int .u64 (n + 1), .int .u64 m, .int .u64 l], .int .u64 n, .int .i64 0]) ?_ rfl ⟨rfl, ?_⟩
    · simp [results, Tryd.results27, go_sem]
    · first
        | exact (((Below.refl _ _).alloc (Nat.le_refl _) _).alloc (by simp) _).drew
        | exact ((((Below.refl _ _).alloc (Nat.le_refl _) _).alloc (by simp) _).drew).setCell (by simp) _
        | exact (((((Below.refl _ _).alloc (Nat.le_refl _) _).alloc (by simp) _).drew).setCell (by simp) _).drew

set_option maxHeartbeats 400000 in
theorem rext_full (n l : Int) (w : World) :
    Calls Tryd.prog 26 #[.agg #[.int .u64 n, .int .u64 l, .int .u64 l]] w fun e w' => e = .returned (.tuple #[.agg #[.int .u64 n, .int .u64 l, .int .u64 l], .int .i64 8]) ∧ Below w.heap.size w w' := by
  go_enter Tryd.func26, Tryd.ntmps26
  go_wp2_with fail
  exact bodyPost_ret (v := .tuple #[.agg #[.int .u64 n, .int .u64 l, .int .u64 l], .int .i64 8]) (by simp [results, Tryd.results26, go_sem]) rfl ⟨rfl, ((Below.refl _ _).alloc (Nat.le_refl _) _).alloc (by simp) _⟩
theorem blk2 (w : World) (C D : Array Value) (t u : TypeId) : Blk ((w.alloc (.cells C t)).alloc (.cells D u)) w.heap.size C t := (Blk.new w C t).alloc _
theorem blk2' (w : World) (C D : Array Value) (t u : TypeId) : Blk ((w.alloc (.cells C t)).alloc (.cells D u)) (w.heap.size + 1) D u := by
  have := Blk.new (w.alloc (.cells C t)) D u
  simpa using this
theorem setCell_at {w : World} {b k : Nat} {C : Array Value} {t : TypeId} (h : Blk w b C t) (v : Value) : Blk (w.setCell ⟨b, k, none⟩ v) b (C.setIfInBounds k v) t := Blk.set h k v

set_option maxRecDepth 100000 in
set_option maxHeartbeats 1000000 in
theorem rext_more (n m l : Int) (w : World) (hne : (m == l) = false) (hm : 0 ≤ m ∧ m ≤ l) (hl : l ≤ 281474976710656) :
    Calls Tryd.prog 26 #[.agg #[.int .u64 n, .int .u64 m, .int .u64 l]] w fun e w' => e = .returned (.tuple #[.agg #[.int .u64 n, .int .u64 (extI m l), .int .u64 l], .int .i64 0]) ∧ Below w.heap.size w w' := by
  obtain ⟨m0, m1⟩ := hm
  go_enter Tryd.func26, Tryd.ntmps26
  go_wp2_with fail
  go_loopw [4] (fun i wr => ∃ k : Nat, k ≤ 16 ∧ m + k ≤ l ∧ i = .int .i64 k ∧ Blk wr w.heap.size #[.int .u64 n, .int .u64 (m + k), .int .u64 l] 41 ∧ Blk wr (w.heap.size + 1) #[.int .u64 0, .int .u64 0, .int .u64 0] 41 ∧ Below w.heap.size w wr) (fun i _ => 16 - (intOf i).toNat)
  case atStart => exact ⟨0, Nat.zero_le _, by simpa using m1, rfl, by simpa using blk2 _ _ _ _ _, blk2' _ _ _ _ _, ((Below.refl _ _).alloc (Nat.le_refl _) _).alloc (by simp) _⟩
  case round =>
    obtain ⟨k, hk, hkl, rfl, hX, hY, hO⟩ := hrel
    have c0 : wr.cell? ⟨w.heap.size, 0, none⟩ = some (.int .u64 n) := Blk.cell hX 0
    have c1 : wr.cell? ⟨w.heap.size, 1, none⟩ = some (.int .u64 (m + k)) := Blk.cell hX 1
    have c2 : wr.cell? ⟨w.heap.size, 2, none⟩ = some (.int .u64 l) := Blk.cell hX 2
    have f1 : wr.frozen? ⟨w.heap.size, 1, none⟩ = false := Blk.free hX 1
    by_cases hgo : k < 16 ∧ m + k < l
    · obtain ⟨h1, h2⟩ := hgo
      have hk1 : (k : Int) < 16 := by omega
      have hX2 : Blk (wr.setCell ⟨w.heap.size, 1, none⟩ (.int .u64 (m + k + 1))) w.heap.size #[.int .u64 n, .int .u64 (m + k + 1), .int .u64 l] 41 := Blk.set hX 1 _
      have hY2 : Blk (wr.setCell ⟨w.heap.size, 1, none⟩ (.int .u64 (m + k + 1))) (w.heap.size + 1) #[.int .u64 0, .int .u64 0, .int .u64 0] 41 := Blk.set_other hY (by simp) _
      have hO2 : Below w.heap.size w (wr.setCell ⟨w.heap.size, 1, none⟩ (.int .u64 (m + k + 1))) := hO.setCell (Nat.le_refl _) _
      have HX2 := Lib.hid hX2
      have HY2 := Lib.hid hY2
      have HO2 := Lib.hid hO2
      clear hX hY hO hX2 hY2 hO2
      go_wp2_with fail
      go_roundw
      case rel => exact ⟨k + 1, by omega, by omega, by go_num, by have := HX2.out; rwa [show m + (k : Int) + 1 = m + ((k + 1 : Nat) : Int) from by omega] at this ⊢, by have := HY2.out; rwa [show m + (k : Int) + 1 = m + ((k + 1 : Nat) : Int) from by omega] at this ⊢, by have := HO2.out; rwa [show m + (k : Int) + 1 = m + ((k + 1 : Nat) : Int) from by omega] at this ⊢⟩
      case measure => simp [intOf]; omega
    · have hext : extI m l = m + k := by
        unfold extI
        split <;> omega
      have g0 : wr.frozen? ⟨w.heap.size + 1, 0, none⟩ = false := Blk.free hY 0
      have g1 : wr.frozen? ⟨w.heap.size + 1, 1, none⟩ = false := Blk.free hY 1
      have g2 : wr.frozen? ⟨w.heap.size + 1, 2, none⟩ = false := Blk.free hY 2
      have d0 : wr.cell? ⟨w.heap.size + 1, 0, none⟩ = some (.int .u64 0) := Blk.cell hY 0
      have d1 : wr.cell? ⟨w.heap.size + 1, 1, none⟩ = some (.int .u64 0) := Blk.cell hY 1
      have d2 : wr.cell? ⟨w.heap.size + 1, 2, none⟩ = some (.int .u64 0) := Blk.cell hY 2
      have a0 : (wr.setCell ⟨w.heap.size + 1, 0, none⟩ (.int .u64 n)).cell? ⟨w.heap.size + 1, 0, none⟩ = some (.int .u64 n) := Blk.cell (Blk.set hY 0 _) 0
      have a1 : ((wr.setCell ⟨w.heap.size + 1, 0, none⟩ (.int .u64 n)).setCell ⟨w.heap.size + 1, 1, none⟩ (.int .u64 (m + k))).cell? ⟨w.heap.size + 1, 1, none⟩ = some (.int .u64 (m + k)) := Blk.cell (Blk.set (Blk.set hY 0 _) 1 _) 1
      have a2 : (((wr.setCell ⟨w.heap.size + 1, 0, none⟩ (.int .u64 n)).setCell ⟨w.heap.size + 1, 1, none⟩ (.int .u64 (m + k))).setCell ⟨w.heap.size + 1, 2, none⟩ (.int .u64 l)).cell? ⟨w.heap.size + 1, 2, none⟩ = some (.int .u64 l) := Blk.cell (Blk.set (Blk.set (Blk.set hY 0 _) 1 _) 2 _) 2
      have A0 := Lib.hid a0
      have A1 := Lib.hid a1
      have A2 := Lib.hid a2
      clear a0 a1 a2
      have HEXT : Hid _ := hext
      have HO := Lib.hid hO
      clear hX hY hO hext
      by_cases h1 : k < 16
      · have hk1 : (k : Int) < 16 := by omega
        have h2 : decide (m + (k : Int) < l) = false := decide_eq_false (by omega)
        clear hgo
        go_wp2_with fail
        refine bodyPost_ret (v := .tuple #[.agg #[.int .u64 n, .int .u64 (m + k), .int .u64 l], .int .i64 0]) ?_ rfl ⟨by rw [HEXT.out], ?_⟩
        · simp [results, Tryd.results26, go_sem, A0.out, A1.out, A2.out]
        · exact ((HO.out.setCell (by simp) _).setCell (by simp) _).setCell (by simp) _
      · have hk1 : decide ((k : Int) < 16) = false := decide_eq_false (by omega)
        clear hgo
        go_wp2_with fail
        refine bodyPost_ret (v := .tuple #[.agg #[.int .u64 n, .int .u64 (m + k), .int .u64 l], .int .i64 0]) ?_ rfl ⟨by rw [HEXT.out], ?_⟩
        · simp [results, Tryd.results26, go_sem, A0.out, A1.out, A2.out]
        · exact ((HO.out.setCell (by simp) _).setCell (by simp) _).setCell (by simp) _
end Go.Proofs.YtkaddilgegimjaaDoor
