/- []byte of a constant, wherever its row lies: the mark; where several orders meet. -/
import Derived.Test.YtcohllhmfghlfaaDoorGen
import Derived.Lib.UnsafeStr
import Derived.Lib.SlBytesConst
namespace Go.Proofs.YtcohllhmfghlfaaDoor
set_option linter.unusedVariables false
set_option linter.unusedSimpArgs false
open Go.RowKit

theorem join_lem {J G : Prop} (main : J → G) (pf : J) : G := main pf
/-- n bytes' room in block g. -/
def Shp (w : World) (g n : Nat) : Prop := w.shape? g = some (5, n)
theorem Shp.lt {w : World} {g n : Nat} (h : Shp w g n) : g < w.heap.size := by
  rcases Nat.lt_or_ge g w.heap.size with h' | h'
  · exact h'
  · unfold Shp World.shape? at h; rw [Array.getElem?_eq_none h'] at h; cases h
theorem Shp.later {w w' : World} {g n : Nat} (h : Shp w g n) (hb : Below w.heap.size w w') : Shp w' g n := by
  unfold Shp World.shape?; rw [hb.block g h.lt]; exact h
theorem Shp.own {w w' : World} {g n b : Nat} (h : Shp w g n) (hO : Own b w w') (hn : g ≠ b) : Shp w' g n := by
  unfold Shp World.shape?; rw [hO.block g h.lt hn]; exact h
theorem Shp.blk {w : World} {g : Nat} {C : Array Value} (h : Blk w g C 5) : Shp w g C.size := by
  unfold Shp World.shape?; rw [show w.heap[g]? = _ from h]
theorem heap_freeze (w : World) (p : Addr) (n k : Nat) : (w.freeze p n).heap[k]? = if n = 0 then w.heap[k]? else if p.block = k then (w.heap[k]?).map (fun | .cells c elem (lo, hi) => .cells c elem (if lo == hi then (p.off, p.off + n) else (min lo p.off, max hi (p.off + n))) | o => o) else w.heap[k]? := by
  unfold World.freeze
  by_cases h : n = 0
  · rw [if_pos h, if_pos h]
  · rw [if_neg h, if_neg h]
    show (w.heap.modify p.block _)[k]? = _
    rw [Array.getElem?_modify]
    by_cases e : p.block = k
    · rw [if_pos e, if_pos e]
      cases w.heap[k]? with
      | none => rfl
      | some o => cases o <;> rfl
    · rw [if_neg e, if_neg e]
theorem cell_freeze (w : World) (p : Addr) (n : Nat) (a : Addr) : (w.freeze p n).cell? a = w.cell? a := by
  unfold World.cell?
  rw [heap_freeze]
  by_cases h : n = 0
  · rw [if_pos h]
  · rw [if_neg h]
    by_cases h2 : p.block = a.block
    · rw [if_pos h2]
      cases w.heap[a.block]? with
      | none => rfl
      | some o => cases o <;> rfl
    · rw [if_neg h2]
theorem Bytes.frz {w : World} {oa : Option Addr} {n : Nat} {f : Nat → Nat} (h : Bytes w oa n f) (p : Addr) (k : Nat) : Bytes (w.freeze p k) oa n f := fun i hi => by
  obtain ⟨h1, b, off, h2, h3⟩ := h i hi
  exact ⟨h1, b, off, h2, by rw [cell_freeze]; exact h3⟩
theorem Shp.frz {w : World} {g n : Nat} (h : Shp w g n) (p : Addr) (k : Nat) : Shp (w.freeze p k) g n := by
  unfold Shp World.shape? at *
  rw [heap_freeze]
  by_cases h0 : k = 0
  · rw [if_pos h0]; exact h
  · rw [if_neg h0]
    by_cases h2 : p.block = g
    · rw [if_pos h2]
      cases e : w.heap[g]? with
      | none => rw [e] at h; cases h
      | some o => rw [e] at h; cases o <;> first | exact h | cases h
    · rw [if_neg h2]; exact h
theorem Own.frz (w : World) (g k n : Nat) : Own g w (w.freeze ⟨g, k, none⟩ n) := by
  refine ⟨?_, ?_, ?_, ?_, fun j hj hn => ?_⟩
  · unfold World.freeze; split <;> rfl
  · unfold World.freeze; split <;> rfl
  · unfold World.freeze; split <;> rfl
  · unfold World.freeze; split <;> simp
  · rw [heap_freeze]
    by_cases h0 : n = 0
    · rw [if_pos h0]
    · rw [if_neg h0, if_neg (fun e => hn e.symm)]
theorem conv_shp (w : World) (g n c m : Nat) (h : Shp w g m) : (convert 22 22 (.slice (some ⟨g, 0, none⟩) n c)).run Tryd.prog w = .ok (.slice (some ⟨g, 0, none⟩) n c) (w.freeze ⟨g, m, none⟩ 1) := by
  have hsh : w.shape? g = some (5, m) := h
  simp [convert, run_underlying Tryd.underlying22, run_underlying Tryd.underlying5, markStringish, hsh]
theorem step_convB {ops : Array Oper} {o : Oper} {a : Act} {w : World} {K : Act → World → Prop} {Q : Exit → Act → World → Prop} {E : Prop} (hw : Region.wanted o (yielded ops a.tmps) = true) (x : Operand) (ho : o.op = .convert 22 22 x) (g n c m : Nat) (hx : a.eval x = .slice (some ⟨g, 0, none⟩) n c) (h : Shp w g m)
    (hk : K (a.put o.dst (.slice (some ⟨g, 0, none⟩) n c)) (w.freeze ⟨g, m, none⟩ 1)) : if Region.wanted o (yielded ops a.tmps) = true then Oper.wp Tryd.prog o a w K Q else E := by
  rw [if_pos hw]
  unfold Oper.wp execOp
  simp only [ho, hx, conv_shp w g n c m h, Sem.run_bind, Result.andThen_ok]
  exact hk
theorem wpList_convB {ops : Array Oper} {rest : List Oper} {o : Oper} {a : Act} {w : World} {Q : Exit → Act → World → Prop} (hgd : o.guard = none) (x : Operand) (ho : o.op = .convert 22 22 x) (g n c m : Nat) (hx : a.eval x = .slice (some ⟨g, 0, none⟩) n c) (h : Shp w g m)
    (hk : wpList Tryd.prog ops Q rest (a.put o.dst (.slice (some ⟨g, 0, none⟩) n c)) (w.freeze ⟨g, m, none⟩ 1)) : wpList Tryd.prog ops Q (o :: rest) a w := by
  refine wpList_plain hgd fun K hK => ?_
  unfold Oper.wp execOp
  simp only [ho, hx, conv_shp w g n c m h, Sem.run_bind, Result.andThen_ok]
  exact hK _ _ hk
end Go.Proofs.YtcohllhmfghlfaaDoor
