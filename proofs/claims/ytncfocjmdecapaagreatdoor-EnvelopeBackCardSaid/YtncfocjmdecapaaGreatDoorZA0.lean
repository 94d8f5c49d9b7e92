/- A row of bytes of the call's own that grows by append. Rows of the call's own, told as strings; quiet calls. append of a row of bytes onto a row of the call's own. bytes.Clone. append of whatever row, onto a row of the call's own; make. -/
import Derived.Deep.AppendLies
import Derived.Deep.QuietTactic
import Derived.BigQuiet
import Derived.Maps.AppendAt
import Derived.WalkSpells
import Derived.Lib.LazyBuf
import Derived.Lib.Hide
import Derived.Deep.RegionHeld3
import Derived.Deep.OwnRows
import Derived.Deep.RegionLaw
import Derived.Test.YtncfocjmdecapaaGreatDoorZB0
namespace Go.Proofs.YtncfocjmdecapaaGreatDoor
set_option linter.unusedVariables false
set_option linter.unusedSimpArgs false
open Go.RowKit
/-- n bytes of the call's own, in a block from base on, as append made them so far. -/
def Grow (w : World) (base : Nat) (v : Value) (n : Nat) (f : Nat → Nat) : Prop := w.ownsRow base 5 1 v n (rowC n f)
theorem Grow.nil (w : World) (base : Nat) (f : Nat → Nat) : Grow w base (.slice none 0 0) 0 f := World.ownsRow_nil w base _ 1
theorem Grow.congr {w : World} {base n : Nat} {v : Value} {f g : Nat → Nat} (h : Grow w base v n f) (he : ∀ i, i < n → f i = g i) : Grow w base v n g := by
  unfold Grow at h ⊢; rw [← rowC_congr he]; exact h
theorem Grow.of_blocks {w w' : World} {base n : Nat} {v : Value} {f : Nat → Nat} (h : Grow w base v n f) (hk : ∀ k, base ≤ k → k < w.heap.size → w'.heap[k]? = w.heap[k]?) : Grow w' base v n f := by
  refine ⟨h.1, ?_⟩
  rcases h.2 with h2 | ⟨g, cap, cur, hv, hb, hh, r⟩
  · exact .inl h2
  · refine .inr ⟨g, cap, cur, hv, hb, ?_, r⟩
    have hlt : g < w.heap.size := by
      rcases Nat.lt_or_ge g w.heap.size with h' | h'
      · exact h'
      · rw [Array.getElem?_eq_none h'] at hh; cases hh
    rw [hk g hb hlt]; exact hh
theorem Grow.own {w w' : World} {base n tb : Nat} {v : Value} {f : Nat → Nat} (h : Grow w base v n f) (hO : Own tb w w') (hb : tb < base) : Grow w' base v n f :=
  h.of_blocks fun k h1 h2 => hO.block k h2 (by omega)
theorem Grow.later {w w' : World} {base n : Nat} {v : Value} {f : Nat → Nat} (h : Grow w base v n f) (hb : Below w.heap.size w w') : Grow w' base v n f :=
  h.of_blocks fun k _ h2 => hb.block k h2
theorem Grow.drew {w : World} {base n : Nat} {v : Value} {f : Nat → Nat} (h : Grow w base v n f) : Grow w.drew base v n f := h
theorem Grow.bytes {w : World} {base n : Nat} {v : Value} {f : Nat → Nat} (h : Grow w base v n f) (hf : ∀ i, i < n → f i < 256) :
    ∃ oa cap, v = .slice oa n cap ∧ Bytes w oa n f ∧ (∀ a, oa = some a → base ≤ a.block) := owned_bytes h hf
theorem Grow.block {w : World} {base n : Nat} {v : Value} {f : Nat → Nat} (h : Grow w base v n f) : ∀ k, v.ownBlock = some k → base ≤ k := fun k hk => (World.ownsRow.lt h k hk).1
theorem Own.then_below {b base : Nat} {w0 w w' : World} (h : Own b w0 w) (hb : Below base w w') (hs : w0.heap.size ≤ base) : Own b w0 w' :=
  ⟨hb.os.trans h.os, hb.tape.trans h.tape, hb.output.trans h.output, Nat.le_trans h.size hb.size, fun k hk hn => (hb.block k (by omega)).trans (h.block k hk hn)⟩

end Go.Proofs.YtncfocjmdecapaaGreatDoor
namespace Go.Proofs.YtncfocjmdecapaaGreatDoor
set_option linter.unusedVariables false
set_option linter.unusedSimpArgs false
open Go.RowKit
theorem Grow.conv {w : World} {base n : Nat} {v : Value} {f : Nat → Nat} (h : Grow w base v n f) : (convert 24 9 v).run Tryz.prog w = .ok (.string (strF n f)) w := by
  rcases h.2 with ⟨rfl, h0⟩ | ⟨g, cap, cur, rfl, hb, hh, hnc, hm, hsz, hcur⟩
  · subst h0; kernel_rfl
  · refine run_convert_bytes_arg w 24 5 Tryz.underlying24 Tryz.underlying5 g 0 n cap _ (by simp) (fun i hi => ?_) 9 Tryz.underlying9
    have h1 : w.cell? ⟨g, 0 + i, none⟩ = cur[i]? := by simp [World.cell?, hh]
    rw [h1, ← Array.getElem?_toList, ← List.getElem?_take_of_lt (show i < n * 1 by omega), hcur, rowC_get f hi, List.getD_eq_getElem?_getD, List.getElem?_map, List.getElem?_range hi]
    rfl
theorem Bytes.conv {w : World} {b off n cap : Nat} {f : Nat → Nat} (h : Bytes w (some ⟨b, off, none⟩) n f) : (convert 24 9 (.slice (some ⟨b, off, none⟩) n cap)).run Tryz.prog w = .ok (.string (strF n f)) w := by
  refine run_convert_bytes_arg w 24 5 Tryz.underlying24 Tryz.underlying5 b off n cap _ (by simp) (fun i hi => ?_) 9 Tryz.underlying9
  obtain ⟨_, b', off', e, hc⟩ := h i hi
  cases e
  rw [hc, List.getD_eq_getElem?_getD, List.getElem?_map, List.getElem?_range hi]; rfl
theorem Below.drewN {B : Nat} {a w : World} (h : Below B a w) (n : Nat) : Below B a (w.drewN n) := h.trans ⟨rfl, rfl, rfl, Nat.le_refl _, fun _ _ => rfl⟩
theorem Grow.drewN {w : World} {base n : Nat} {v : Value} {f : Nat → Nat} (h : Grow w base v n f) (q : Nat) : Grow (w.drewN q) base v n f := h
end Go.Proofs.YtncfocjmdecapaaGreatDoor
namespace Go.Proofs.YtncfocjmdecapaaGreatDoor
set_option linter.unusedVariables false
set_option linter.unusedSimpArgs false
open Go.RowKit
/-- A row's bytes, and another one's behind them. -/
def catF (n : Nat) (f g : Nat → Nat) : Nat → Nat := fun i => if i < n then f i else g (i - n)
theorem rowC_cat (n m : Nat) (f g : Nat → Nat) : rowC (n + m) (catF n f g) = rowC n f ++ rowC m g := by
  refine List.ext_getElem? fun i => ?_
  by_cases h : i < n
  · rw [rowC_get _ (by omega), List.getElem?_append_left (by rw [rowC_len]; exact h), rowC_get _ h]; simp [catF, h]
  · rw [List.getElem?_append_right (by rw [rowC_len]; omega), rowC_len]
    by_cases h2 : i < n + m
    · rw [rowC_get _ h2, rowC_get _ (by omega)]; simp [catF, h]
    · rw [List.getElem?_eq_none (by rw [rowC_len]; omega), List.getElem?_eq_none (by rw [rowC_len]; omega)]
theorem Bytes.news {w : World} {b off m : Nat} {g : Nat → Nat} (h : Bytes w (some ⟨b, off, none⟩) m g) : ∀ j u, (rowC m g)[j]? = some u → w.cell? ((⟨b, off, none⟩ : Addr).add j) = some u := fun j u hu => by
  have hj : j < m := by
    rcases Nat.lt_or_ge j m with h' | h'
    · exact h'
    · rw [List.getElem?_eq_none (by rw [rowC_len]; exact h')] at hu; cases hu
  rw [rowC_get _ hj] at hu
  cases hu
  obtain ⟨_, b', off', e, hc⟩ := h j hj
  cases e
  have ha : (Addr.mk b off none).add j = ⟨b, off + j, none⟩ := by
    unfold Addr.add; split
    · rename_i hk0; subst hk0; rfl
    · rfl
  rw [ha]; exact hc
end Go.Proofs.YtncfocjmdecapaaGreatDoor
namespace Go.Proofs.YtncfocjmdecapaaGreatDoor
set_option linter.unusedVariables false
set_option linter.unusedSimpArgs false
open Go.RowKit
theorem Bytes.newsA {w : World} {ad : Addr} {m : Nat} {g : Nat → Nat} (h : Bytes w (some ad) m g) : ∀ j u, (rowC m g)[j]? = some u → w.cell? (ad.add j) = some u := fun j u hu => by
  have hj : j < m := by
    rcases Nat.lt_or_ge j m with h' | h'
    · exact h'
    · rw [List.getElem?_eq_none (by rw [rowC_len]; exact h')] at hu; cases hu
  obtain ⟨_, b', off', e, hc⟩ := h j hj
  cases e
  exact Bytes.news h j u hu
end Go.Proofs.YtncfocjmdecapaaGreatDoor
namespace Go.Proofs.YtncfocjmdecapaaGreatDoor
set_option linter.unusedVariables false
set_option linter.unusedSimpArgs false
open Go.RowKit
/-- append of nothing. -/
theorem run_append_none_c {w : World} {base n c : Nat} {v : Value} {f : Nat → Nat} (ty : TypeId) (hown : Grow w base v n f) :
    (Builtin.append_ #[24, 24] ty #[v, .slice none 0 c]).run Tryz.prog w = .ok v w := by
  obtain ⟨i0, hi, _, _, _⟩ := info_parts info_u8
  rcases hown.2 with ⟨rfl, rfl⟩ | ⟨g, cap, cur, rfl, _, _, hnc, _⟩
  · simp [Builtin.append_, run_underlying Tryz.underlying24, sizeOf, typeInfo, hi, Builtin.lenOf, Builtin.firstCells]
  · simp [Builtin.append_, run_underlying Tryz.underlying24, sizeOf, typeInfo, hi, Builtin.lenOf, Builtin.firstCells, hnc, storeCells]
/-- append of a row, wherever it lies, nil too; what else is there stays. -/
theorem wpList_appO {ops : Array Oper} {rest : List Oper} {o : Oper} {a : Act} {Q : Exit → Act → World → Prop} (hgd : o.guard = none) (s x : Operand)
    (ho : o.op = .call { callee := .builtin .append, args := #[s, x], argTypes := #[24, 24] })
    (base : Nat) (v : Value) (n m cp : Nat) (od : Option Addr) (f g : Nat → Nat) (W : World) (hs : a.eval s = v) (hown : Grow W base v n f) (hx : a.eval x = .slice od m cp) (hno : od = none → m = 0)
    (hB : Bytes W od m g) (hn : n + m < 100000000000000) (hbase : base ≤ W.heap.size)
    (h : ∀ v' w', Grow w' base v' (n + m) (catF n f g) → W.grownBy w' v.ownBlock → (v'.ownBlock = v.ownBlock ∨ v'.ownBlock = some W.heap.size) → wpList Tryz.prog ops Q rest (a.put o.dst v') w') :
    wpList Tryz.prog ops Q (o :: rest) a W := by
  obtain ⟨i0, hi, hz0, hz1, hz2⟩ := info_parts info_u8
  cases od with
  | none =>
    obtain rfl := hno rfl
    refine wpList_plain hgd fun K hK => ?_
    have hr := run_append_none_c (c := cp) o.type hown
    unfold Oper.wp execOp
    simp only [ho, resolve, invoke, builtin, Sem.run_bind, Sem.run_pure, Result.andThen_ok, List.map_toArray, List.map_cons, List.map_nil, hs, hx, hr]
    exact hK _ _ (h _ _ (hown.congr fun i hi => by unfold catF; rw [if_pos (by omega)]) ⟨rfl, rfl, rfl, Nat.le_refl _, fun _ _ _ => rfl⟩ (.inl rfl))
  | some ad =>
    refine wpList_append_own_at _ hgd s x 24 ho base 5 i0 (.int .u8 0) 1 1 Tryz.underlying24 hi hz0 hz1 hz2 rfl (by decide) v n (rowC n f) hs hown ad m cp (rowC m g) hx (by rw [rowC_len, Nat.mul_one])
      hB.newsA (rowC_one m g) (by unfold maxLen; omega) (by omega) hbase ?_
    intro v' w' hown' hg _ hat
    refine h v' w' ?_ hg hat
    unfold Grow
    rw [rowC_cat]; exact hown'
theorem step_appO {ops : Array Oper} {o : Oper} {a : Act} {K : Act → World → Prop} {Q : Exit → Act → World → Prop} {E : Prop} (hgd : o.guard = none) (s x : Operand)
    (ho : o.op = .call { callee := .builtin .append, args := #[s, x], argTypes := #[24, 24] })
    (base : Nat) (v : Value) (n m cp : Nat) (od : Option Addr) (f g : Nat → Nat) (W : World) (hs : a.eval s = v) (hown : Grow W base v n f) (hx : a.eval x = .slice od m cp) (hno : od = none → m = 0)
    (hB : Bytes W od m g) (hn : n + m < 100000000000000) (hbase : base ≤ W.heap.size)
    (h : ∀ v' w', Grow w' base v' (n + m) (catF n f g) → W.grownBy w' v.ownBlock → (v'.ownBlock = v.ownBlock ∨ v'.ownBlock = some W.heap.size) → K (a.put o.dst v') w') :
    if Region.wanted o (yielded ops a.tmps) = true then Oper.wp Tryz.prog o a W K Q else E := by
  obtain ⟨i0, hi, hz0, hz1, hz2⟩ := info_parts info_u8
  have hw : Region.wanted o (yielded ops a.tmps) = true := by simp [Region.wanted, hgd]
  rw [if_pos hw]
  cases od with
  | none =>
    obtain rfl := hno rfl
    have hr := run_append_none_c (c := cp) o.type hown
    unfold Oper.wp execOp
    simp only [ho, resolve, invoke, builtin, Sem.run_bind, Sem.run_pure, Result.andThen_ok, List.map_toArray, List.map_cons, List.map_nil, hs, hx, hr]
    exact h _ _ (hown.congr fun i hi => by unfold catF; rw [if_pos (by omega)]) ⟨rfl, rfl, rfl, Nat.le_refl _, fun _ _ _ => rfl⟩ (.inl rfl)
  | some ad =>
    obtain ⟨v', w', hr, h2, h3, h4, h5⟩ := run_append_own_at (P := Tryz.prog) W base 24 o.type 5 i0 (.int .u8 0) 1 1 Tryz.underlying24 hi hz0 hz1 hz2 rfl (by decide) v n (rowC n f) hown ad m cp (rowC m g) (by rw [rowC_len, Nat.mul_one]) hB.newsA (rowC_one m g) (by unfold maxLen; omega) (by omega) hbase
    unfold Oper.wp execOp
    simp only [ho, resolve, invoke, builtin, Sem.run_bind, Sem.run_pure, Result.andThen_ok, List.map_toArray, List.map_cons, List.map_nil, hs, hx, hr]
    exact h _ _ (by unfold Grow; rw [rowC_cat]; exact h2) h3 h5
theorem catF_self {G g : Nat → Nat} {n m : Nat} (h : ∀ i, i < m → g i = G (n + i)) : ∀ i, i < n + m → catF n G g i = G i := fun i hi => by
  unfold catF
  by_cases e : i < n
  · rw [if_pos e]
  · rw [if_neg e, h (i - n) (by omega)]; congr 1; omega
def two (x y : Nat) : Nat → Nat := fun i => if i = 0 then x else y
/-- What lies in a row that was made. -/
theorem make_zeros (n : Nat) (hn : n < 1000000000000) (w : World) : (Instr.makeSlice 24 (.int .i64 (n : Int)) (.int .i64 (n : Int))).run Tryz.prog w = .ok (.slice (some ⟨w.heap.size, 0, none⟩) n n) (w.alloc (.cells (rowC n (fun _ => 0)).toArray 5)) := by
  have h := run_make_row' (P := Tryz.prog) 24 5 (.int .u8 0) 1 Tryz.underlying24 info_u8 rfl .i64 .i64 n (by omega) (by omega) w
  have e : madeCells #[Value.int .u8 0] n = (rowC n (fun _ => 0)).toArray := by
    have := toList_madeCells_one (Value.int .u8 0) n
    rw [rowC_zero] at this
    rw [← this]
  rw [e] at h; exact h
end Go.Proofs.YtncfocjmdecapaaGreatDoor
