/- A row of bytes of the call's own that grows by append. -/
import Derived.Test.YtgfjlgaleddoaaaGreatDoorRow
import Derived.Deep.AppendLies
namespace Go.Proofs.YtgfjlgaleddoaaaGreatDoor
set_option linter.unusedVariables false
set_option linter.unusedSimpArgs false
open Go.RowKit

/-- n bytes of the call's own, in a block from base on, as append made them so far. -/
def Grow (w : World) (base : Nat) (v : Value) (n : Nat) (f : Nat → Nat) : Prop := w.ownsRow base 5 1 v n (rowC n f)
theorem Grow.nil (w : World) (base : Nat) (f : Nat → Nat) : Grow w base (.slice none 0 0) 0 f := World.ownsRow_nil w base _ 1
theorem Grow.congr {w : World} {base n : Nat} {v : Value} {f g : Nat → Nat} (h : Grow w base v n f) (he : ∀ i, i < n → f i = g i) : Grow w base v n g := by
  unfold Grow at h ⊢; rw [← rowC_congr he]; exact h
theorem Grow.of_blocks {w w' : World} {base n : Nat} {v : Value} {f : Nat → Nat} (h : Grow w base v n f) (hk : ∀ k, base ≤ k → k < w.heap.size → w'.heap[k]? = w.heap[k]?) : Grow w' base v n f := by
  refine ⟨h.1, ?_⟩
  rcases h.2 with h2 | ⟨g, cap, cur, hv, hb, hh, r⟩
  · exact .inl h2
  · refine .inr ⟨g, cap, cur, hv, hb, ?_, r⟩
    have hlt : g < w.heap.size := by
      rcases Nat.lt_or_ge g w.heap.size with h' | h'
      · exact h'
      · rw [Array.getElem?_eq_none h'] at hh; cases hh
    rw [hk g hb hlt]; exact hh
theorem Grow.own {w w' : World} {base n tb : Nat} {v : Value} {f : Nat → Nat} (h : Grow w base v n f) (hO : Own tb w w') (hb : tb < base) : Grow w' base v n f :=
  h.of_blocks fun k h1 h2 => hO.block k h2 (by omega)
theorem Grow.later {w w' : World} {base n : Nat} {v : Value} {f : Nat → Nat} (h : Grow w base v n f) (hb : Below w.heap.size w w') : Grow w' base v n f :=
  h.of_blocks fun k _ h2 => hb.block k h2
theorem Grow.drew {w : World} {base n : Nat} {v : Value} {f : Nat → Nat} (h : Grow w base v n f) : Grow w.drew base v n f := h
theorem Grow.bytes {w : World} {base n : Nat} {v : Value} {f : Nat → Nat} (h : Grow w base v n f) (hf : ∀ i, i < n → f i < 256) :
    ∃ oa cap, v = .slice oa n cap ∧ Bytes w oa n f ∧ (∀ a, oa = some a → base ≤ a.block) := owned_bytes h hf
theorem Grow.block {w : World} {base n : Nat} {v : Value} {f : Nat → Nat} (h : Grow w base v n f) : ∀ k, v.ownBlock = some k → base ≤ k := fun k hk => (World.ownsRow.lt h k hk).1
theorem Own.then_below {b base : Nat} {w0 w w' : World} (h : Own b w0 w) (hb : Below base w w') (hs : w0.heap.size ≤ base) : Own b w0 w' :=
  ⟨hb.os.trans h.os, hb.tape.trans h.tape, hb.output.trans h.output, Nat.le_trans h.size hb.size, fun k hk hn => (hb.block k (by omega)).trans (h.block k hk hn)⟩

/-- append of one byte, at the operation. -/
theorem wpList_app8 {ops : Array Oper} {rest : List Oper} {o : Oper} {a : Act} {Q : Exit → Act → World → Prop} (hgd : o.guard = none) (s x : Operand)
    (ho : o.op = .call { callee := .builtin .append, args := #[s, x], argTypes := #[25, 25] })
    (base : Nat) (v : Value) (n : Nat) (f : Nat → Nat) (y : Nat) (W : World) (hs : a.eval s = v) (hown : Grow W base v n f) (hx : a.eval x = .slice (some ⟨W.heap.size, 0, none⟩) 1 1)
    (hn : n < 100000000000000) (hbase : base ≤ W.heap.size)
    (h : ∀ v' w', Grow w' base v' (n + 1) (upd f n y) → Below base W w' → W.heap.size < w'.heap.size → wpList Tryz.prog ops Q rest (a.put o.dst v') w') :
    wpList Tryz.prog ops Q (o :: rest) a (W.alloc (.cells #[.int .u8 (y : Nat)] 5)) := by
  obtain ⟨i0, hi, hz0, hz1, hz2⟩ := info_parts info_u8
  refine wpList_append_own_at _ hgd s x 25 ho base 5 i0 (.int .u8 0) 1 1 Tryz.underlying25 hi hz0 hz1 hz2 rfl (by decide) v n (rowC n f) hs (World.ownsRow.alloc hown _) ⟨W.heap.size, 0, none⟩ 1 1 [.int .u8 (y : Nat)] hx rfl
    (cell_one_new _ _ _) (fun u h => by simp at h; subst h; rfl) (by unfold maxLen; omega) (by omega) (by simp; omega) ?_
  intro v' w' hown' hg _ _
  have hB : Below base W w' := ((Below.refl base W).alloc hbase _).grown hg (by simp; omega) (Grow.block hown)
  refine h v' w' ?_ hB ?_
  · unfold Grow
    have e : rowC (n + 1) (upd f n y) = rowC n f ++ [.int .u8 (y : Nat)] := by
      have e1 : rowC n (upd f n y) = rowC n f := rowC_congr fun i hi => by unfold upd; rw [if_neg (by omega)]
      have e2 : upd f n y n = y := if_pos rfl
      rw [rowC_succ, e1, e2]
    rw [e]; exact hown'
  · have := hg.size; simp at this; omega
end Go.Proofs.YtgfjlgaleddoaaaGreatDoor
