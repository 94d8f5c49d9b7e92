/- Rows of slices in a block of their own: made, written, read. -/
import Derived.Test.YtfbbnffinlebbaaDoorCv
namespace Go.Proofs.YtfbbnffinlebbaaDoor
set_option linter.unusedVariables false
set_option linter.unusedSimpArgs false
open Go.RowKit

/-- A row's cells, one a place, as a function tells them. -/
def vC (n : Nat) (S : Nat → Value) : List Value := (List.range n).map S
def updV (S : Nat → Value) (k : Nat) (v : Value) : Nat → Value := fun i => if i = k then v else S i
theorem vC_len (n : Nat) (S : Nat → Value) : (vC n S).length = n := by simp [vC]
theorem vC_get {n : Nat} (S : Nat → Value) {i : Nat} (h : i < n) : (vC n S)[i]? = some (S i) := by
  unfold vC; rw [List.getElem?_map, List.getElem?_range h]; rfl
theorem vC_congr {n : Nat} {S T : Nat → Value} (h : ∀ i, i < n → S i = T i) : vC n S = vC n T := by
  unfold vC; exact List.map_congr_left fun i hi => h i (List.mem_range.1 hi)
theorem vC_set (n : Nat) (S : Nat → Value) (k : Nat) (v : Value) : (vC n S).set k v = vC n (updV S k v) := by
  refine List.ext_getElem? fun i => ?_
  by_cases hi : i < n
  · rw [vC_get _ hi]
    by_cases e : i = k
    · subst e; rw [List.getElem?_set_self (by rw [vC_len]; exact hi)]; simp [updV]
    · rw [List.getElem?_set_ne (Ne.symm e), vC_get _ hi]; simp [updV, e]
  · rw [List.getElem?_eq_none (by rw [List.length_set, vC_len]; omega), List.getElem?_eq_none (by rw [vC_len]; omega)]
theorem vC_replicate (n : Nat) (v : Value) : List.replicate n v = vC n (fun _ => v) := by
  refine List.ext_getElem? fun i => ?_
  by_cases hi : i < n
  · rw [vC_get _ hi, List.getElem?_replicate, if_pos hi]
  · rw [List.getElem?_eq_none (by simp; omega), List.getElem?_eq_none (by rw [vC_len]; omega)]
theorem vC_succ (n : Nat) (S : Nat → Value) : vC (n + 1) S = vC n S ++ [S n] := by
  unfold vC; rw [List.range_succ, List.map_append]; rfl
theorem vC_one {n : Nat} {S : Nat → Value} (h : ∀ i, i < n → (S i).oneCell' = true) : ∀ v ∈ vC n S, v.oneCell' = true := by
  intro v hv; unfold vC at hv; obtain ⟨i, hi, rfl⟩ := List.mem_map.1 hv; exact h i (List.mem_range.1 hi)
/-- A row of slices in block g. -/
def VRow (w : World) (g n : Nat) (S : Nat → Value) : Prop := Blk w g (vC n S).toArray 23
theorem VRow.cell {w : World} {g n : Nat} {S : Nat → Value} (h : VRow w g n S) {i : Nat} (hi : i < n) : w.cell? ⟨g, i, none⟩ = some (S i) := by
  rw [Blk.cell h i]; simpa using vC_get S hi
theorem VRow.set {w : World} {g n : Nat} {S : Nat → Value} (h : VRow w g n S) (k : Nat) (v : Value) : VRow (w.setCell ⟨g, k, none⟩ v) g n (updV S k v) := by
  have := Blk.set h k v
  rw [List.setIfInBounds_toArray, vC_set] at this; exact this
theorem VRow.congr {w : World} {g n : Nat} {S T : Nat → Value} (h : VRow w g n S) (e : ∀ i, i < n → S i = T i) : VRow w g n T := by
  unfold VRow at h ⊢; rw [← vC_congr e]; exact h
theorem VRow.later {w w' : World} {g n : Nat} {S : Nat → Value} (h : VRow w g n S) (hb : Below w.heap.size w w') : VRow w' g n S := Blk.below h hb (Blk.lt h)
theorem info_sl : (Tryd.prog.info? 23).map (fun i => (i.zero, i.size, i.bytes)) = some (some (.slice none 0 0), 1, 24) := by kernel_rfl
theorem make_nones (n : Nat) (hn : n < 10000000000) (w : World) : (Instr.makeSlice 24 (.int .i64 (n : Int)) (.int .i64 (n : Int))).run Tryd.prog w = .ok (.slice (some ⟨w.heap.size, 0, none⟩) n n) (w.alloc (.cells (vC n (fun _ => .slice none 0 0)).toArray 23)) := by
  have h := run_make_row' (P := Tryd.prog) 24 23 (.slice none 0 0) 24 Tryd.underlying24 info_sl rfl .i64 .i64 n (by omega) (by omega) w
  have e : madeCells #[Value.slice none 0 0] n = (vC n (fun _ => .slice none 0 0)).toArray := by
    have := toList_madeCells_one (Value.slice none 0 0) n
    rw [vC_replicate] at this
    rw [← this]
  rw [e] at h; exact h
theorem wpList_mks {ops : Array Oper} {rest : List Oper} {o : Oper} {a : Act} {w : World} {Q : Exit → Act → World → Prop} (hgd : o.guard = none) (x y : Operand) (ho : o.op = .makeSlice 24 x y) (n : Nat) (hx : a.eval x = .int .i64 (n : Int)) (hy : a.eval y = .int .i64 (n : Int)) (hn : n < 10000000000)
    (h : wpList Tryd.prog ops Q rest (a.put o.dst (.slice (some ⟨w.heap.size, 0, none⟩) n n)) (w.alloc (.cells (vC n (fun _ => .slice none 0 0)).toArray 23))) : wpList Tryd.prog ops Q (o :: rest) a w := by
  refine wpList_plain hgd fun K hK => ?_
  have hrun := make_nones n hn w
  unfold Oper.wp
  simp [execOp, ho, hx, hy, hrun, Result.andThen]
  exact hK _ _ h
end Go.Proofs.YtfbbnffinlebbaaDoor
