/- bytes.Clone. -/
import Derived.Test.YtgfjlgaleddoaaaGreatDoorApr
import Derived.Maps.AppendAt
import Derived.WalkSpells
import Derived.Lib.LazyBuf
import Derived.Lib.Hide
namespace Go.Proofs.YtgfjlgaleddoaaaGreatDoor
set_option linter.unusedVariables false
set_option linter.unusedSimpArgs false
open Go.RowKit

theorem Bytes.newsA {w : World} {ad : Addr} {m : Nat} {g : Nat → Nat} (h : Bytes w (some ad) m g) : ∀ j u, (rowC m g)[j]? = some u → w.cell? (ad.add j) = some u := fun j u hu => by
  have hj : j < m := by
    rcases Nat.lt_or_ge j m with h' | h'
    · exact h'
    · rw [List.getElem?_eq_none (by rw [rowC_len]; exact h')] at hu; cases hu
  obtain ⟨_, b', off', e, hc⟩ := h j hj
  cases e
  exact Bytes.news h j u hu
/-- append of a row, at the operation, wherever the row lies. -/
theorem wpList_appA {ops : Array Oper} {rest : List Oper} {o : Oper} {a : Act} {Q : Exit → Act → World → Prop} (hgd : o.guard = none) (s x : Operand)
    (ho : o.op = .call { callee := .builtin .append, args := #[s, x], argTypes := #[25, 25] })
    (base : Nat) (v : Value) (n m cp : Nat) (ad : Addr) (f g : Nat → Nat) (W : World) (hs : a.eval s = v) (hown : Grow W base v n f) (hx : a.eval x = .slice (some ad) m cp)
    (hB : Bytes W (some ad) m g) (hn : n + m < 100000000000000) (hbase : base ≤ W.heap.size)
    (h : ∀ v' w', Grow w' base v' (n + m) (catF n f g) → Below base W w' → wpList Tryz.prog ops Q rest (a.put o.dst v') w') :
    wpList Tryz.prog ops Q (o :: rest) a W := by
  obtain ⟨i0, hi, hz0, hz1, hz2⟩ := info_parts info_u8
  refine wpList_append_own_at _ hgd s x 25 ho base 5 i0 (.int .u8 0) 1 1 Tryz.underlying25 hi hz0 hz1 hz2 rfl (by decide) v n (rowC n f) hs hown ad m cp (rowC m g) hx (by rw [rowC_len, Nat.mul_one])
    hB.newsA (rowC_one m g) (by unfold maxLen; omega) (by omega) hbase ?_
  intro v' w' hown' hg _ _
  refine h v' w' ?_ ((Below.refl base W).grown hg hbase (Grow.block hown))
  unfold Grow
  rw [rowC_cat]; exact hown'
/-- Bytes that came back, in new memory or nil. -/
def Cloned (w : World) (od : Option Addr) (len : Nat) (f : Nat → Nat) (e : Ending) (w' : World) : Prop := ∃ od' cap', e = .returned (.slice od' len cap') ∧ Bytes w' od' len f ∧ (od' = none → len = 0) ∧ len ≤ cap' ∧ cap' ≤ maxLen ∧ (∀ a, od' = some a → w.heap.size ≤ a.block) ∧ Below w.heap.size w w'
end Go.Proofs.YtgfjlgaleddoaaaGreatDoor
