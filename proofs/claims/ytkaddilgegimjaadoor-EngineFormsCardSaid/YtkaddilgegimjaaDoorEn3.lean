/- Rows of versions of the call's own; append of one; engine.copied, and the law's giveSecret. -/
import Derived.Test.YtkaddilgegimjaaDoorEn2
import Derived.Test.YtkaddilgegimjaaDoorRws
import Derived.Test.YtkaddilgegimjaaDoorClone
namespace Go.Proofs.YtkaddilgegimjaaDoor
set_option linter.unusedVariables false
set_option linter.unusedSimpArgs false
open Go.RowKit

/-- No slice among some cells leads into a row's own block. -/
def Away (v : Value) (c : List Value) : Prop := ∀ a l cp, Value.slice (some a) l cp ∈ c → 0 < l → v.ownBlock ≠ some a.block
/-- n versions of the call's own, from a block on. -/
def GV (w : World) (base : Nat) (v : Value) (n : Nat) (V : Nat → Ver) : Prop := ∃ C, w.ownsRow base 86 4 v n (rws n C) ∧ ∀ i, i < n → IsVer w (C i) (V i) ∧ Away v (C i)
theorem IsVer.len {w : World} {C : List Value} {v : Ver} (h : IsVer w C v) : C.length = 4 := by obtain ⟨_, _, rfl, _⟩ := h; rfl
theorem IsVer.one {w : World} {C : List Value} {v : Ver} (h : IsVer w C v) : ∀ u ∈ C, u.oneCell' = true := by
  obtain ⟨_, _, rfl, _⟩ := h
  intro u hu
  simp at hu
  rcases hu with rfl | rfl | rfl | rfl <;> rfl
theorem GV.nil (w : World) (base : Nat) (V : Nat → Ver) : GV w base (.slice none 0 0) 0 V := ⟨fun _ => [], World.ownsRow_nil w base _ 4, fun i hi => absurd hi (Nat.not_lt_zero _)⟩
theorem GV.later {w w' : World} {base n : Nat} {v : Value} {V : Nat → Ver} (h : GV w base v n V) (hb : Below w.heap.size w w') : GV w' base v n V := by
  obtain ⟨C, h1, h2⟩ := h
  exact ⟨C, owns_later h1 hb, fun i hi => ⟨(h2 i hi).1.later hb, (h2 i hi).2⟩⟩
theorem Bytes.set_apart {w : World} {od : Option Addr} {len : Nat} {f : Nat → Nat} {b k : Nat} {C : Array Value} {t : TypeId} {x : Value} (h : Bytes w od len f) (hB : Blk w b C t) (hn : ∀ (j : Nat) (z : Int), C[j]? ≠ some (Value.int .u8 z)) : Bytes (w.setCell ⟨b, k, none⟩ x) od len f := fun i hi => by
  obtain ⟨h1, d, off, e, hc⟩ := h i hi
  refine ⟨h1, d, off, e, ?_⟩
  by_cases hd : d = b
  · subst hd
    rw [Blk.cell hB] at hc
    exact absurd hc (hn _ _)
  · have : (w.setCell ⟨b, k, none⟩ x).heap[d]? = w.heap[d]? := Below.heap_setCell _ _ _ _ hd
    rw [← hc]; simp only [World.cell?, this]
theorem IsVer.set_apart {w : World} {c : List Value} {v : Ver} {b k : Nat} {C : Array Value} {t : TypeId} {x : Value} (h : IsVer w c v) (hB : Blk w b C t) (hn : ∀ (j : Nat) (z : Int), C[j]? ≠ some (Value.int .u8 z)) : IsVer (w.setCell ⟨b, k, none⟩ x) c v := by
  obtain ⟨oa, cap, hC, hBy, hr⟩ := h
  exact ⟨oa, cap, hC, hBy.set_apart hB hn, hr⟩
theorem GV.set_apart {w : World} {base n : Nat} {v : Value} {V : Nat → Ver} {b k : Nat} {C : Array Value} {t : TypeId} {x : Value} (h : GV w base v n V) (hB : Blk w b C t) (hn : ∀ (j : Nat) (z : Int), C[j]? ≠ some (Value.int .u8 z)) (hb : b < base) : GV (w.setCell ⟨b, k, none⟩ x) base v n V := by
  obtain ⟨D, h1, h2⟩ := h
  exact ⟨D, owns_own h1 ((Own.refl b w).set k x) hb, fun i hi => ⟨(h2 i hi).1.set_apart hB hn, (h2 i hi).2⟩⟩
theorem Bytes.grown {w w' : World} {od : Option Addr} {len : Nat} {f : Nat → Nat} {row : Option Nat} (h : Bytes w od len f) (hg : w.grownBy w' row) (ha : ∀ a, od = some a → 0 < len → row ≠ some a.block) : Bytes w' od len f := fun i hi => by
  obtain ⟨h1, d, off, rfl, hc⟩ := h i hi
  refine ⟨h1, d, off, rfl, ?_⟩
  have hlt : d < w.heap.size := by
    rcases Nat.lt_or_ge d w.heap.size with h' | h'
    · exact h'
    · simp [World.cell?, Array.getElem?_eq_none h'] at hc
  rw [← hc]; exact World.cell?_of_block (hg.block d hlt (Ne.symm (ha _ rfl (by omega))))
theorem Blk.grown {w w' : World} {b : Nat} {C : Array Value} {t : TypeId} {row : Option Nat} (h : Blk w b C t) (hg : w.grownBy w' row) (hn : row ≠ some b) : Blk w' b C t := by
  have hlt := h.lt
  unfold Blk at h ⊢; rw [hg.block b hlt (Ne.symm hn)]; exact h
theorem IsVer.grown {w w' : World} {C : List Value} {v : Ver} {row : Option Nat} (h : IsVer w C v) (hg : w.grownBy w' row) (ha : ∀ a l cp, Value.slice (some a) l cp ∈ C → 0 < l → row ≠ some a.block) : IsVer w' C v := by
  obtain ⟨oa, cap, rfl, hB, hr⟩ := h
  exact ⟨oa, cap, rfl, hB.grown hg (fun a e hl => ha a v.len cap (by subst e; simp) hl), hr⟩
theorem info_ver : (Tryd.prog.info? 86).map (fun i => (i.zero, i.size, i.bytes)) = some (some (.agg #[.int .u32 0, .slice none 0 0, .int .u64 0, .int .i64 0]), 4, 48) := by kernel_rfl
theorem addr_of_bytes {w : World} {a : Addr} {len : Nat} {f : Nat → Nat} (h : Bytes w (some a) len f) (hl : 0 < len) : a.block < w.heap.size := by
  obtain ⟨_, b, off, e, hc⟩ := h 0 hl
  cases e
  rcases Nat.lt_or_ge b w.heap.size with h' | h'
  · exact h'
  · simp [World.cell?, Array.getElem?_eq_none h'] at hc

theorem IsVer.old {w : World} {C : List Value} {v : Ver} (h : IsVer w C v) : ∀ a l cp, Value.slice (some a) l cp ∈ C → 0 < l → a.block < w.heap.size := fun a l cp hm hl => by
  obtain ⟨oa, cap, rfl, hB, _⟩ := h
  simp at hm
  obtain ⟨rfl, rfl, rfl⟩ := hm
  exact addr_of_bytes hB hl
/-- append of one version, at the operation. -/
theorem wpList_appV {ops : Array Oper} {rest : List Oper} {o : Oper} {a : Act} {Q : Exit → Act → World → Prop} (hgd : o.guard = none) (s x : Operand)
    (ho : o.op = .call { callee := .builtin .append, args := #[s, x], argTypes := #[77, 77] })
    (base : Nat) (v : Value) (n : Nat) (V : Nat → Ver) (c : List Value) (W : World) (hs : a.eval s = v) (hG : GV W base v n V) (hc : IsVer W c (V n)) (haw : Away v c)
    (H : Nat) (hH : W.heap.size = H) (hx : a.eval x = .slice (some ⟨H, 0, none⟩) 1 1)
    (hn : (n + 1) * 48 ≤ 140737488355328) (hbase : base ≤ W.heap.size)
    (h : ∀ v' w', GV w' base v' (n + 1) V → W.grownBy w' v.ownBlock → Below base W w' → W.heap.size < w'.heap.size → wpList Tryd.prog ops Q rest (a.put o.dst v') w') :
    wpList Tryd.prog ops Q (o :: rest) a (W.alloc (.cells c.toArray 86)) := by
  subst hH
  obtain ⟨i0, hi, hz0, hz1, hz2⟩ := info_parts info_ver
  obtain ⟨C, hown, hC⟩ := hG
  have hbA : Below W.heap.size W (W.alloc (.cells c.toArray 86)) := (Below.refl _ _).alloc (Nat.le_refl _) _
  refine wpList_append_own_at _ hgd s x 77 ho base 86 i0 _ 4 48 Tryd.underlying77 hi hz0 hz1 hz2 rfl (by decide) v n (rws n C) hs (owns_later hown hbA) ⟨W.heap.size, 0, none⟩ 1 1 c hx (by rw [hc.len])
    news_lit hc.one (by unfold maxLen; omega) hn (by simp; omega) ?_
  intro v' w' hown' hg _ hat
  have hne : ∀ q, v.ownBlock = some q → q < W.heap.size := fun q hq => by
    rcases hown.2 with ⟨rfl, _⟩ | ⟨g, cap, cur, rfl, _, hh, _⟩
    · simp [Value.ownBlock] at hq
    · simp [Value.ownBlock] at hq; subst hq; exact lt_of_block hh
  have hg2 : W.grownBy w' v.ownBlock := ⟨hg.os, hg.tape, hg.output, Nat.le_trans (by simp) hg.size, fun k hk hkn => by rw [hg.block k (by simp; omega) hkn]; exact hbA.block k hk⟩
  have haw' : ∀ d : List Value, Away v d → (∀ a l cp, Value.slice (some a) l cp ∈ d → 0 < l → a.block < W.heap.size) → Away v' d := fun d h1 h2 a l cp hm hl => by
    rcases hat with e | e
    · rw [e]; exact h1 a l cp hm hl
    · rw [e]; have := h2 a l cp hm hl; simp; omega
  refine h v' w' ⟨addC C n c, by rw [rws_add]; exact hown', fun i hi => ?_⟩ hg2 (hbA.mono hbase |>.grown hg (by simp; omega) (owns_block hown)) (by have := hg.size; simp at this; omega)
  by_cases e : i = n
  · subst e
    unfold addC; rw [if_pos rfl]
    exact ⟨hc.grown hg2 haw, haw' c haw hc.old⟩
  · unfold addC; rw [if_neg e]
    have h1 := hC i (by omega)
    exact ⟨h1.1.grown hg2 h1.2, haw' _ h1.2 h1.1.old⟩
end Go.Proofs.YtkaddilgegimjaaDoor
