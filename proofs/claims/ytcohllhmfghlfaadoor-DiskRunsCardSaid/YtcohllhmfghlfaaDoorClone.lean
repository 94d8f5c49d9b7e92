/- bytes.Clone. -/
import Derived.Test.YtcohllhmfghlfaaDoorApr
import Derived.Maps.AppendAt
import Derived.WalkSpells
import Derived.Lib.LazyBuf
import Derived.Lib.Hide
namespace Go.Proofs.YtcohllhmfghlfaaDoor
set_option linter.unusedVariables false
set_option linter.unusedSimpArgs false
open Go.RowKit

theorem Bytes.newsA {w : World} {ad : Addr} {m : Nat} {g : Nat → Nat} (h : Bytes w (some ad) m g) : ∀ j u, (rowC m g)[j]? = some u → w.cell? (ad.add j) = some u := fun j u hu => by
  have hj : j < m := by
    rcases Nat.lt_or_ge j m with h' | h'
    · exact h'
    · rw [List.getElem?_eq_none (by rw [rowC_len]; exact h')] at hu; cases hu
  obtain ⟨_, b', off', e, hc⟩ := h j hj
  cases e
  exact Bytes.news h j u hu
/-- append of a row, at the operation, wherever the row lies. -/
theorem wpList_appA {ops : Array Oper} {rest : List Oper} {o : Oper} {a : Act} {Q : Exit → Act → World → Prop} (hgd : o.guard = none) (s x : Operand)
    (ho : o.op = .call { callee := .builtin .append, args := #[s, x], argTypes := #[22, 22] })
    (base : Nat) (v : Value) (n m cp : Nat) (ad : Addr) (f g : Nat → Nat) (W : World) (hs : a.eval s = v) (hown : Grow W base v n f) (hx : a.eval x = .slice (some ad) m cp)
    (hB : Bytes W (some ad) m g) (hn : n + m < 100000000000000) (hbase : base ≤ W.heap.size)
    (h : ∀ v' w', Grow w' base v' (n + m) (catF n f g) → Below base W w' → wpList Tryd.prog ops Q rest (a.put o.dst v') w') :
    wpList Tryd.prog ops Q (o :: rest) a W := by
  obtain ⟨i0, hi, hz0, hz1, hz2⟩ := info_parts info_u8
  refine wpList_append_own_at _ hgd s x 22 ho base 5 i0 (.int .u8 0) 1 1 Tryd.underlying22 hi hz0 hz1 hz2 rfl (by decide) v n (rowC n f) hs hown ad m cp (rowC m g) hx (by rw [rowC_len, Nat.mul_one])
    hB.newsA (rowC_one m g) (by unfold maxLen; omega) (by omega) hbase ?_
  intro v' w' hown' hg _ _
  refine h v' w' ?_ ((Below.refl base W).grown hg hbase (Grow.block hown))
  unfold Grow
  rw [rowC_cat]; exact hown'
/-- Bytes that came back, in new memory or nil. -/
def Cloned (w : World) (od : Option Addr) (len : Nat) (f : Nat → Nat) (e : Ending) (w' : World) : Prop := ∃ od' cap', e = .returned (.slice od' len cap') ∧ Bytes w' od' len f ∧ (od' = none → len = 0) ∧ len ≤ cap' ∧ cap' ≤ maxLen ∧ (∀ a, od' = some a → w.heap.size ≤ a.block) ∧ Below w.heap.size w w'
set_option maxRecDepth 100000 in
set_option maxHeartbeats 1000000 in
theorem clone_any (od : Option Addr) (len cap : Nat) (f : Nat → Nat) (w : World) (hB : Bytes w od len f) (hl : len < 100000000000000) (hno : od = none → len = 0) :
    Calls Tryd.prog 35 #[.slice od len cap] w (Cloned w od len f) := by
  have heq := Lib.run_eql_slice_nil (P := Tryd.prog) w 22 5 od len cap 0 0 Tryd.underlying22
  cases od with
  | none =>
    obtain rfl := hno rfl
    go_enter Tryd.func35, Tryd.ntmps35
    go_wp2_with fail
    go_ret
    exact ⟨none, 0, rfl, fun k hk => absurd hk (Nat.not_lt_zero _), fun _ => rfl, Nat.le_refl _, by unfold maxLen; omega, (fun a h => by cases h), Below.refl _ _⟩
  | some a =>
    have hE : Blk (w.alloc (.cells #[] 5)) w.heap.size #[] 5 := Blk.new _ _ _
    have HG := Lib.hid (Grow.empty hE (Nat.le_refl _) (fun _ => 0))
    have HB := Lib.hid (hB.alloc (.cells #[] 5))
    have HF := Lib.hid fun i (hi : i < len) => (hB i hi).1
    clear hE hB
    go_enter Tryd.func35, Tryd.ntmps35
    go_wp2_with (at_builtin; refine wpList_appA rfl (.tmp 5) (.tmp 6) rfl w.heap.size _ 0 len cap a (fun _ => 0) f _ rfl HG.out rfl HB.out (by omega) ?c1 ?_)
    case c1 => simp
    intro v' w' hG hb
    have hG2 := hG.congr (g := f) fun i hi => by unfold catF; rw [if_neg (Nat.not_lt_zero _), Nat.sub_zero]
    have hB' : Below w.heap.size w w' := ((Below.refl _ _).alloc (Nat.le_refl _) (.cells #[] 5)).trans hb
    have HG2 := Lib.hid hG2
    clear hG hG2 hb HG HB
    go_wp2_with fail
    go_ret
    rcases HG2.out.2 with ⟨rfl, h0⟩ | ⟨g, cp, cur, rfl, hg, hh, hnc, hm, hsz, hcur⟩
    · subst h0
      exact ⟨none, 0, rfl, fun k hk => absurd hk (Nat.not_lt_zero _), fun _ => rfl, Nat.le_refl _, by unfold maxLen; omega, (fun a h => by cases h), hB'⟩
    · obtain ⟨oa, c2, he, hBy, hge⟩ := HG2.out.bytes HF.out
      cases he
      exact ⟨_, cp, rfl, hBy, (fun h => by cases h), hnc, hm, hge, hB'⟩
end Go.Proofs.YtcohllhmfghlfaaDoor
