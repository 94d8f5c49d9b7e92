/- append of a row of bytes onto a row of the call's own. -/
import Derived.Test.YtgfjlgaleddoaaaGreatDoorApq
namespace Go.Proofs.YtgfjlgaleddoaaaGreatDoor
set_option linter.unusedVariables false
set_option linter.unusedSimpArgs false
open Go.RowKit

/-- A row's bytes, and another one's behind them. -/
def catF (n : Nat) (f g : Nat → Nat) : Nat → Nat := fun i => if i < n then f i else g (i - n)
theorem rowC_cat (n m : Nat) (f g : Nat → Nat) : rowC (n + m) (catF n f g) = rowC n f ++ rowC m g := by
  refine List.ext_getElem? fun i => ?_
  by_cases h : i < n
  · rw [rowC_get _ (by omega), List.getElem?_append_left (by rw [rowC_len]; exact h), rowC_get _ h]; simp [catF, h]
  · rw [List.getElem?_append_right (by rw [rowC_len]; omega), rowC_len]
    by_cases h2 : i < n + m
    · rw [rowC_get _ h2, rowC_get _ (by omega)]; simp [catF, h]
    · rw [List.getElem?_eq_none (by rw [rowC_len]; omega), List.getElem?_eq_none (by rw [rowC_len]; omega)]
theorem Bytes.news {w : World} {b off m : Nat} {g : Nat → Nat} (h : Bytes w (some ⟨b, off, none⟩) m g) : ∀ j u, (rowC m g)[j]? = some u → w.cell? ((⟨b, off, none⟩ : Addr).add j) = some u := fun j u hu => by
  have hj : j < m := by
    rcases Nat.lt_or_ge j m with h' | h'
    · exact h'
    · rw [List.getElem?_eq_none (by rw [rowC_len]; exact h')] at hu; cases hu
  rw [rowC_get _ hj] at hu
  cases hu
  obtain ⟨_, b', off', e, hc⟩ := h j hj
  cases e
  have ha : (Addr.mk b off none).add j = ⟨b, off + j, none⟩ := by
    unfold Addr.add; split
    · rename_i hk0; subst hk0; rfl
    · rfl
  rw [ha]; exact hc
/-- append of a row, at the operation. -/
theorem wpList_appB {ops : Array Oper} {rest : List Oper} {o : Oper} {a : Act} {Q : Exit → Act → World → Prop} (hgd : o.guard = none) (s x : Operand)
    (ho : o.op = .call { callee := .builtin .append, args := #[s, x], argTypes := #[25, 25] })
    (base : Nat) (v : Value) (n m cp b off : Nat) (f g : Nat → Nat) (W : World) (hs : a.eval s = v) (hown : Grow W base v n f) (hx : a.eval x = .slice (some ⟨b, off, none⟩) m cp)
    (hB : Bytes W (some ⟨b, off, none⟩) m g) (hn : n + m < 100000000000000) (hbase : base ≤ W.heap.size)
    (h : ∀ v' w', Grow w' base v' (n + m) (catF n f g) → Below base W w' → wpList Tryz.prog ops Q rest (a.put o.dst v') w') :
    wpList Tryz.prog ops Q (o :: rest) a W := by
  obtain ⟨i0, hi, hz0, hz1, hz2⟩ := info_parts info_u8
  refine wpList_append_own_at _ hgd s x 25 ho base 5 i0 (.int .u8 0) 1 1 Tryz.underlying25 hi hz0 hz1 hz2 rfl (by decide) v n (rowC n f) hs hown ⟨b, off, none⟩ m cp (rowC m g) hx (by rw [rowC_len, Nat.mul_one])
    hB.news (rowC_one m g) (by unfold maxLen; omega) (by omega) hbase ?_
  intro v' w' hown' hg _ _
  refine h v' w' ?_ ((Below.refl base W).grown hg hbase (Grow.block hown))
  unfold Grow
  rw [rowC_cat]; exact hown'
/-- A slice without a byte, of a block of its own. -/
theorem Grow.empty {w : World} {base g : Nat} (h : Blk w g #[] 5) (hb : base ≤ g) (f : Nat → Nat) : Grow w base (.slice (some ⟨g, 0, none⟩) 0 0) 0 f :=
  ⟨rfl, .inr ⟨g, 0, #[], rfl, hb, h, Nat.le_refl _, by unfold maxLen; omega, rfl, rfl⟩⟩
end Go.Proofs.YtgfjlgaleddoaaaGreatDoor
