/- Rows of parts that grow by append, whichever package's the parts are. -/
import Derived.Test.YtmhofofidmbgfaaDoorSs1
namespace Go.Proofs.YtmhofofidmbgfaaDoor
set_option linter.unusedVariables false
set_option linter.unusedSimpArgs false
open Go.RowKit

/-- No slice among some cells leads into a row's own block. -/
def Away (v : Value) (c : List Value) : Prop := ∀ a l cp, Value.slice (some a) l cp ∈ c → 0 < l → v.ownBlock ≠ some a.block
/-- n parts of the call's own, from a block on. -/
def GS (T tb : Nat) (w : World) (base : Nat) (v : Value) (n : Nat) (S : Nat → Sh) : Prop := ∃ C, w.ownsRow base T 3 v n (rws n C) ∧ ∀ i, i < n → IsSh tb w (C i) (S i) ∧ Away v (C i)
theorem IsSh.len {tb : Nat} {w : World} {C : List Value} {s : Sh} (h : IsSh tb w C s) : C.length = 3 := by obtain ⟨_, _, rfl, _⟩ := h; rfl
theorem IsSh.one {tb : Nat} {w : World} {C : List Value} {s : Sh} (h : IsSh tb w C s) : ∀ u ∈ C, u.oneCell' = true := by
  obtain ⟨_, _, rfl, _⟩ := h
  intro u hu
  simp at hu
  rcases hu with rfl | rfl | rfl <;> rfl
theorem GS.nil (T tb : Nat) (w : World) (base : Nat) (S : Nat → Sh) : GS T tb w base (.slice none 0 0) 0 S := ⟨fun _ => [], World.ownsRow_nil w base _ 3, fun i hi => absurd hi (Nat.not_lt_zero _)⟩
theorem GS.later {T tb : Nat} {w w' : World} {base n : Nat} {v : Value} {S : Nat → Sh} (h : GS T tb w base v n S) (hb : Below w.heap.size w w') : GS T tb w' base v n S := by
  obtain ⟨C, h1, h2⟩ := h
  exact ⟨C, owns_later h1 hb, fun i hi => ⟨(h2 i hi).1.later hb, (h2 i hi).2⟩⟩
theorem GS.congr {T tb : Nat} {w : World} {base n : Nat} {v : Value} {S S' : Nat → Sh} (h : GS T tb w base v n S) (he : ∀ i, i < n → S i = S' i) : GS T tb w base v n S' := by
  obtain ⟨C, h1, h2⟩ := h
  exact ⟨C, h1, fun i hi => by rw [← he i hi]; exact h2 i hi⟩
theorem Bytes.grown {w w' : World} {od : Option Addr} {len : Nat} {f : Nat → Nat} {row : Option Nat} (h : Bytes w od len f) (hg : w.grownBy w' row) (ha : ∀ a, od = some a → 0 < len → row ≠ some a.block) : Bytes w' od len f := fun i hi => by
  obtain ⟨h1, d, off, rfl, hc⟩ := h i hi
  refine ⟨h1, d, off, rfl, ?_⟩
  have hlt : d < w.heap.size := World.block_lt_of_cell? w _ hc
  rw [← hc]; exact World.cell?_of_block (hg.block d hlt (Ne.symm (ha _ rfl (by omega))))
theorem IsSh.grown {tb : Nat} {w w' : World} {C : List Value} {s : Sh} {row : Option Nat} (h : IsSh tb w C s) (hg : w.grownBy w' row) (ha : ∀ a l cp, Value.slice (some a) l cp ∈ C → 0 < l → row ≠ some a.block) : IsSh tb w' C s := by
  obtain ⟨oa, cap, rfl, hB, hr⟩ := h
  exact ⟨oa, cap, rfl, hB.grown hg (fun a e hl => ha a s.len cap (by subst e; simp) hl), hr⟩
theorem IsSh.old {tb : Nat} {w : World} {C : List Value} {s : Sh} (h : IsSh tb w C s) : ∀ a l cp, Value.slice (some a) l cp ∈ C → 0 < l → a.block < w.heap.size := fun a l cp hm hl => by
  obtain ⟨oa, cap, rfl, hB, _⟩ := h
  simp at hm
  obtain ⟨rfl, rfl, rfl⟩ := hm
  obtain ⟨_, b, off, e, hc⟩ := hB 0 hl
  cases e; exact World.block_lt_of_cell? w _ hc
/-- They are parts. -/
theorem GS.shs {T tb : Nat} {w : World} {base n : Nat} {v : Value} {S : Nat → Sh} (h : GS T tb w base v n S) (hb : tb < base ∨ w.heap.size ≤ tb) : ∃ oa cap, v = .slice oa n cap ∧ n ≤ cap ∧ cap ≤ maxLen ∧ Shs tb w oa n S := by
  obtain ⟨C, h1, h2⟩ := h
  obtain ⟨oa, cap, hv, hnc, hm, hbl, hc⟩ := rws_cells h1 fun i hi => (h2 i hi).1.len
  refine ⟨oa, cap, hv, hnc, hm, fun i hi => ?_⟩
  obtain ⟨b, off, e, h0, _⟩ := hc i 0 hi (by decide)
  obtain ⟨g, e2, hg1, hg2⟩ := hbl _ e
  cases e2
  refine ⟨b, 0, C i, by rw [e, h0], by omega, (h2 i hi).1, fun j hj => ?_⟩
  obtain ⟨b', off', e3, h0', h5⟩ := hc i j hi hj
  rw [e] at e3; cases e3
  rw [h0'] at h5; exact h5
/-- append of one part, at the operation. -/
theorem wpList_appGS {T TS : Nat} {z : Value} (hU : Tryd.prog.underlying TS = some (.slice T)) (hI : (Tryd.prog.info? T).map (fun i => (i.zero, i.size, i.bytes)) = some (some z, 3, 32)) (hz3 : z.cells.size = 3)
    {ops : Array Oper} {rest : List Oper} {o : Oper} {a : Act} {Q : Exit → Act → World → Prop} (hgd : o.guard = none) (s x : Operand)
    (ho : o.op = .call { callee := .builtin .append, args := #[s, x], argTypes := #[TS, TS] })
    (tb base : Nat) (v : Value) (n : Nat) (S : Nat → Sh) (c : List Value) (W : World) (hs : a.eval s = v) (hG : GS T tb W base v n S) (hc : IsSh tb W c (S n)) (haw : Away v c)
    (H : Nat) (hH : W.heap.size = H) (hx : a.eval x = .slice (some ⟨H, 0, none⟩) 1 1)
    (hn : n < 1000000) (hbase : base ≤ W.heap.size)
    (h : ∀ v' w', GS T tb w' base v' (n + 1) S → W.grownBy w' v.ownBlock → Below base W w' → W.heap.size < w'.heap.size → wpList Tryd.prog ops Q rest (a.put o.dst v') w') :
    wpList Tryd.prog ops Q (o :: rest) a (W.alloc (.cells c.toArray T)) := by
  subst hH
  obtain ⟨i0, hi, hz0, hz1, hz2⟩ := info_parts hI
  obtain ⟨C, hown, hC⟩ := hG
  have hbA : Below W.heap.size W (W.alloc (.cells c.toArray T)) := (Below.refl _ _).alloc (Nat.le_refl _) _
  refine wpList_append_own_at _ hgd s x TS ho base T i0 _ 3 32 hU hi hz0 hz1 hz2 hz3 (by decide) v n (rws n C) hs (owns_later hown hbA) ⟨W.heap.size, 0, none⟩ 1 1 c hx (by rw [hc.len])
    news_lit hc.one (by unfold maxLen; omega) (by omega) (by simp; omega) ?_
  intro v' w' hown' hg _ hat
  have hne : ∀ q, v.ownBlock = some q → q < W.heap.size := fun q hq => by
    rcases hown.2 with ⟨rfl, _⟩ | ⟨g, cap, cur, rfl, _, hh, _⟩
    · simp [Value.ownBlock] at hq
    · simp [Value.ownBlock] at hq; subst hq; exact lt_of_block hh
  have hg2 : W.grownBy w' v.ownBlock := ⟨hg.os, hg.tape, hg.output, Nat.le_trans (by simp) hg.size, fun k hk hkn => by rw [hg.block k (by simp; omega) hkn]; exact hbA.block k hk⟩
  have haw' : ∀ d : List Value, Away v d → (∀ a l cp, Value.slice (some a) l cp ∈ d → 0 < l → a.block < W.heap.size) → Away v' d := fun d h1 h2 a l cp hm hl => by
    rcases hat with e | e
    · rw [e]; exact h1 a l cp hm hl
    · rw [e]; have := h2 a l cp hm hl; simp; omega
  refine h v' w' ⟨addC C n c, by rw [rws_add]; exact hown', fun i hi => ?_⟩ hg2 (hbA.mono hbase |>.grown hg (by simp; omega) (owns_block hown)) (by have := hg.size; simp at this; omega)
  by_cases e : i = n
  · subst e
    unfold addC; rw [if_pos rfl]
    exact ⟨hc.grown hg2 haw, haw' c haw hc.old⟩
  · unfold addC; rw [if_neg e]
    have h1 := hC i (by omega)
    exact ⟨h1.1.grown hg2 h1.2, haw' _ h1.2 h1.1.old⟩
theorem info_rshare : (Tryd.prog.info? 46).map (fun i => (i.zero, i.size, i.bytes)) = some (some (.agg #[.int .u8 0, .int .u32 0, .slice none 0 0]), 3, 32) := by kernel_rfl
theorem info_rshare3 : (Tryd.prog.info? 46).map (·.size) = some 3 := by kernel_rfl
theorem GS.block {T tb : Nat} {w : World} {base n : Nat} {v : Value} {S : Nat → Sh} (h : GS T tb w base v n S) : ∀ q, v.ownBlock = some q → base ≤ q ∧ q < w.heap.size := by
  obtain ⟨C, h1, _⟩ := h
  intro q hq
  rcases h1.2 with ⟨rfl, _⟩ | ⟨g, cap, cur, rfl, hb, hh, _⟩
  · simp [Value.ownBlock] at hq
  · simp [Value.ownBlock] at hq; subst hq; exact ⟨hb, lt_of_block hh⟩
end Go.Proofs.YtmhofofidmbgfaaDoor
