/- The field's table: sync.Once, the powers and the logarithms; contracts of package gf's functions. -/
import Derived.Test.YtkcbckafibjflaaGreatDoorProg
import Derived.Test.YtkcbckafibjflaaGreatDoorBlk
import Derived.Test.YtkcbckafibjflaaGreatDoorGfMath
import Derived.WalkKit
import Derived.WalkSpells
import Derived.WalkLawsBesides
import Derived.Defers
import Derived.Laws.LoneSync
import Derived.RegionTactic
import Derived.RegionCalls
import Derived.ChangeAlike
import Derived.Deep.QuietTactic
import Derived.BigQuiet
import Derived.Outline
namespace Go.Proofs.YtkcbckafibjflaaGreatDoor
set_option linter.unusedVariables false
set_option linter.unusedSimpArgs false
open Go.RowKit

/-! ### The cells of a table -/
def tabCells (d s : Int) (P L : List Nat) : List Value := [.int .u32 d, .int .i32 s, .int .u32 0] ++ (P.map (fun x : Nat => Value.int .u8 (x : Int)) ++ L.map (fun x : Nat => Value.int .i64 (x : Int)))
theorem tab_0 (d s : Int) (P L : List Nat) : (tabCells d s P L)[0]? = some (.int .u32 d) := rfl
theorem tab_1 (d s : Int) (P L : List Nat) : (tabCells d s P L)[1]? = some (.int .i32 s) := rfl
theorem tab_2 (d s : Int) (P L : List Nat) : (tabCells d s P L)[2]? = some (.int .u32 0) := rfl
theorem tab_p (d s : Int) {P : List Nat} (L : List Nat) {i x : Nat} (hi : P[i]? = some x) : (tabCells d s P L)[3 + i]? = some (.int .u8 (x : Int)) := by
  have hl : i < P.length := by
    rcases Nat.lt_or_ge i P.length with h | h
    · exact h
    · rw [List.getElem?_eq_none h] at hi; cases hi
  unfold tabCells
  rw [List.getElem?_append_right (by simp), show 3 + i - [Value.int .u32 d, .int .i32 s, .int .u32 0].length = i from by simp,
    List.getElem?_append_left (by simpa using hl), List.getElem?_map, hi]
  rfl
theorem tab_l (d s : Int) {P L : List Nat} (hP : P.length = 255) {i x : Nat} (hi : L[i]? = some x) : (tabCells d s P L)[258 + i]? = some (.int .i64 (x : Int)) := by
  unfold tabCells
  rw [List.getElem?_append_right (by simp; omega), show 258 + i - [Value.int .u32 d, .int .i32 s, .int .u32 0].length = 255 + i from by simp; omega,
    List.getElem?_append_right (by simp [hP]), show 255 + i - (P.map (fun x : Nat => Value.int .u8 (x : Int))).length = i from by simp [hP], List.getElem?_map, hi]
  rfl
theorem tab_set_d (d d' s : Int) (P L : List Nat) : (tabCells d s P L).set 0 (.int .u32 d') = tabCells d' s P L := rfl
theorem tab_set_s (d s s' : Int) (P L : List Nat) : (tabCells d s P L).set 1 (.int .i32 s') = tabCells d s' P L := rfl
theorem tab_set_p (d s : Int) (P L : List Nat) (i x : Nat) (hi : i < P.length) : (tabCells d s P L).set (3 + i) (.int .u8 (x : Int)) = tabCells d s (P.set i x) L := by
  unfold tabCells
  rw [List.set_append_right _ _ (by simp), show 3 + i - [Value.int .u32 d, .int .i32 s, .int .u32 0].length = i from by simp, List.set_append_left _ _ (by simpa using hi), List.map_set]
theorem tab_set_l (d s : Int) (P L : List Nat) (hP : P.length = 255) (i x : Nat) : (tabCells d s P L).set (258 + i) (.int .i64 (x : Int)) = tabCells d s P (L.set i x) := by
  unfold tabCells
  rw [List.set_append_right _ _ (by simp; omega), show 258 + i - [Value.int .u32 d, .int .i32 s, .int .u32 0].length = 255 + i from by simp; omega, List.set_append_right _ _ (by simp [hP]),
    show 255 + i - (P.map (fun x : Nat => Value.int .u8 (x : Int))).length = i from by simp [hP], List.map_set]
theorem set_toArray (xs : List Value) (k : Nat) (v : Value) : xs.toArray.setIfInBounds k v = (xs.set k v).toArray := by simp

/-! ### The lock, and the Once's flag -/
theorem disable (w : World) : (callFunc 79 #[]).run Tryz.prog w = .ok (.value (.tuple #[])) w := run_call_mark0 Tryz.func79 (by kernel_rfl) (by kernel_rfl) (by kernel_rfl) .disable (by kernel_rfl) w
theorem enable (w : World) : (callFunc 81 #[]).run Tryz.prog w = .ok (.value (.tuple #[])) w := run_call_mark0 Tryz.func81 (by kernel_rfl) (by kernel_rfl) (by kernel_rfl) .enable (by kernel_rfl) w
theorem acquire (a : Addr) (w : World) : (callFunc 82 #[.pointer (some a)]).run Tryz.prog w = .ok (.value (.tuple #[])) w := run_call_marked Tryz.func82 (by kernel_rfl) (by kernel_rfl) (by kernel_rfl) .acquire (by kernel_rfl) a w
theorem releaseMerge (a : Addr) (w : World) : (callFunc 84 #[.pointer (some a)]).run Tryz.prog w = .ok (.value (.tuple #[])) w := run_call_marked Tryz.func84 (by kernel_rfl) (by kernel_rfl) (by kernel_rfl) .releaseMerge (by kernel_rfl) a w

set_option maxRecDepth 100000 in
theorem flag_deferred (a : Addr) (x : Value) (u : FrameMode) (w : World) (hc : w.cell? a = some x) (hz : w.frozen? a = false) :
    CallsD Tryz.prog 71 #[.pointer (some a), .bool true] u w fun e u' w' => u' = u ∧ (e = .returned (.tuple #[]) ∧ w' = w.drew.setCell a (.int .u32 1)) := by
  have hc' : w.drew.cell? a = some x := by go_simp
  have hz' : w.drew.frozen? a = false := by go_simp
  have hst := run_call_store (P := Tryz.prog) Tryz.func76 (by kernel_rfl) (by kernel_rfl) (by kernel_rfl) (by kernel_rfl) (k := .u32) (y := 1) hc' hz'
  go_enter_d Tryz.func71, Tryz.ntmps71
  go_wp2
  go_region_calls
  all_goals (go_end0; exact ⟨rfl, rfl⟩)

set_option maxRecDepth 100000 in
theorem unlock_deferred (a : Addr) (u : FrameMode) (w : World) (hc : w.cell? a = some (.int .i32 1)) (hz : w.frozen? a = false) :
    CallsD Tryz.prog 70 #[.pointer (some a)] u w fun e u' w' => u' = u ∧ (e = .returned (.tuple #[]) ∧ w' = w.setCell a (.int .i32 0)) := by
  have hd := disable
  have he := enable
  have hr := releaseMerge
  have hadd := run_call_add (P := Tryz.prog) Tryz.func85 (by kernel_rfl) (by kernel_rfl) (by kernel_rfl) .i32 (by kernel_rfl) (y := -1) (s := 0) hc hz (by simp [go_sem]; rfl)
  have hcv := run_convert_to_unsafe (P := Tryz.prog) (src := 155) (dst := 70) Tryz.underlying155 Tryz.underlying70 (by kernel_rfl) hc
  go_enter_d Tryz.func70, Tryz.ntmps70
  go_wp2
  go_end0
  go_wp2
  go_end0
  exact ⟨rfl, rfl⟩

set_option maxRecDepth 100000 in
theorem lock_free (a : Addr) (w : World) (hc : w.cell? a = some (.int .i32 0)) (hz : w.frozen? a = false) :
    Calls Tryz.prog 69 #[.pointer (some a)] w fun e w' => e = .returned (.tuple #[]) ∧ w' = w.setCell a (.int .i32 1) := by
  have hd := disable
  have he := enable
  have ha := acquire
  have hcas := run_call_cas_hit (P := Tryz.prog) Tryz.func80 (by kernel_rfl) (by kernel_rfl) (by kernel_rfl) .i32 (by kernel_rfl) (y := 1) hc hz
  have hc' : (w.setCell a (.int .i32 1)).cell? a = some (.int .i32 1) := World.cell?_setCell_same w a _ hc
  have hcv := run_convert_to_unsafe (P := Tryz.prog) (src := 155) (dst := 70) Tryz.underlying155 Tryz.underlying70 (by kernel_rfl) hc'
  go_enter Tryz.func69, Tryz.ntmps69
  go_wp2
  first | go_end0 | (simp only [Exit.inBlock, Exit.then]; refine bodyPost_ret (results_none rfl _ _ _) rfl ?_) | refine bodyPost_ret (results_none rfl _ _ _) rfl ?_
  go_wp2
  go_end0
  exact ⟨rfl, rfl⟩

set_option maxRecDepth 100000 in
theorem flag_load (a : Addr) (d : Int) (t : Bool) (w : World) (h0 : w.cell? a = some (.int .u32 d)) (ht : (d != 0) = t) :
    Calls Tryz.prog 63 #[.pointer (some a)] w fun e w' => e = .returned (.bool t) ∧ w = w' := by
  have hl := run_call_load (P := Tryz.prog) Tryz.func68 (by kernel_rfl) (by kernel_rfl) (by kernel_rfl) .u32 (by kernel_rfl) h0
  have Ht : Hid _ := ht
  clear ht
  go_enter Tryz.func63, Tryz.ntmps63
  go_wp2
  go_ret
  exact ⟨by rw [← Ht.out]; rfl, rfl⟩

/-! ### Triples, and the reckoning -/
theorem trip_hi {a : Nat} (h : 128 ≤ a) (h2 : a < 256) : trip a = ((2 * a - 256) ^^^ 27) ^^^ a := by unfold trip; rw [if_neg (by omega)]
theorem trip_lo {a : Nat} (h : a < 128) : trip a = (2 * a) ^^^ a := by unfold trip; rw [if_pos h]

end Go.Proofs.YtkcbckafibjflaaGreatDoor
