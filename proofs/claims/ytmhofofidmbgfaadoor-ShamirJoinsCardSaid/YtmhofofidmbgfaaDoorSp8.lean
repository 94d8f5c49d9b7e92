/- A row of parts of the law's own: some parts, in whatever order. -/
import Derived.Test.YtmhofofidmbgfaaDoorSp7
namespace Go.Proofs.YtmhofofidmbgfaaDoor
set_option linter.unusedVariables false
set_option linter.unusedSimpArgs false
open Go.RowKit

theorem Own.then_new {tb g : Nat} {w0 w w' : World} (h : Own tb w0 w) (hO : Own g w w') (hg : w0.heap.size ≤ g) : Own tb w0 w' :=
  ⟨hO.os.trans h.os, hO.tape.trans h.tape, hO.output.trans h.output, Nat.le_trans h.size hO.size, fun k hk hn => (hO.block k (by have := h.size; omega) (by omega)).trans (h.block k hk hn)⟩
theorem Own.then_fresh {tb : Nat} {w0 w w' : World} (h : Own tb w0 w) (hb : Below w.heap.size w w') : Own tb w0 w' := h.trans (Own.of_below hb)
theorem SR.belowB {tb B : Nat} {wA w w' : World} {N L gen : Nat} {F : Nat → Nat → Nat} (h : SR tb wA N L gen F w) (hb : Below B w w') (hB : wA.heap.size + 1 + N ≤ B) : SR tb wA N L gen F w' :=
  ⟨Blk.below h.blk hb (by omega), fun x hx => Blk.below (h.rows x hx) hb (by omega), by have := h.big; have := hb.size; omega,
    h.tab.elim (fun t => .inl ⟨Blk.below t.1 hb (by have := h.low; omega), t.2⟩) (fun t => .inr ⟨Blk.below t.1 hb (by have := h.low; omega), t.2⟩),
    ⟨hb.os.trans h.own.os, hb.tape.trans h.own.tape, hb.output.trans h.own.output, Nat.le_trans h.own.size hb.size, fun k hk hn => (hb.block k (by omega)).trans (h.own.block k hk hn)⟩, h.low⟩
/-- A row of n parts' cells at the head of a block. -/
def MRow (w : World) (g n : Nat) (C : Nat → List Value) : Prop := ∃ D : Array Value, Blk w g D 52 ∧ n * 3 ≤ D.size ∧ D.toList.take (n * 3) = rws n C
theorem MRow.lt {w : World} {g n : Nat} {C : Nat → List Value} (h : MRow w g n C) : g < w.heap.size := by obtain ⟨D, h, _⟩ := h; exact h.lt
theorem MRow.below {w w' : World} {g n B : Nat} {C : Nat → List Value} (h : MRow w g n C) (hb : Below B w w') (hB : g < B) : MRow w' g n C := by obtain ⟨D, h, r⟩ := h; exact ⟨D, h.below hb hB, r⟩
theorem MRow.later {w w' : World} {g n : Nat} {C : Nat → List Value} (h : MRow w g n C) (hb : Below w.heap.size w w') : MRow w' g n C := h.below hb h.lt
theorem MRow.own {w w' : World} {g n b : Nat} {C : Nat → List Value} (h : MRow w g n C) (hO : Own b w w') (hn : g ≠ b) : MRow w' g n C := by obtain ⟨D, h, r⟩ := h; exact ⟨D, hO.blk h hn, r⟩
theorem MRow.drew {w : World} {g n : Nat} {C : Nat → List Value} (h : MRow w g n C) : MRow w.drew g n C := h
theorem MRow.congr {w : World} {g n : Nat} {C C' : Nat → List Value} (h : MRow w g n C) (he : ∀ i, i < n → C i = C' i) : MRow w g n C' := by
  obtain ⟨D, h1, h2, h3⟩ := h; exact ⟨D, h1, h2, by rw [h3]; exact rws_congr he⟩
theorem MRow.cell {w : World} {g n : Nat} {C : Nat → List Value} (h : MRow w g n C) (hC : ∀ i, i < n → (C i).length = 3) {i j : Nat} (hi : i < n) (hj : j < 3) : w.cell? ⟨g, i * 3 + j, none⟩ = (C i)[j]? := by
  obtain ⟨D, h1, h2, h3⟩ := h
  have hlt : i * 3 + j < n * 3 := by omega
  rw [Blk.cell h1, ← Array.getElem?_toList, ← List.getElem?_take_of_lt hlt, h3]
  exact rws_get hC hi hj
theorem MRow.range {w : World} {g n : Nat} {C : Nat → List Value} (h : MRow w g n C) (hC : ∀ i, i < n → (C i).length = 3) {i : Nat} (hi : i < n) : w.rangeAt g (i * 3) (C i) := fun j v hv => by
  have hj : j < 3 := by have := (List.getElem?_eq_some_iff.1 hv).1; rw [hC i hi] at this; exact this
  rw [h.cell hC hi hj]; exact hv
theorem MRow.there {w : World} {g n : Nat} {C : Nat → List Value} (h : MRow w g n C) {i : Nat} (hi : i < n) : w.there g (i * 3) 3 := by
  obtain ⟨D, h1, h2, _⟩ := h; exact Blk.thereM h1 (by omega)
theorem MRow.set3 {w : World} {g n i : Nat} {C : Nat → List Value} (h : MRow w g n C) (hC : ∀ i, i < n → (C i).length = 3) (hi : i < n) (x y z : Value) : MRow (w.setCells g (i * 3) [x, y, z]) g n (fun q => if q = i then [x, y, z] else C q) := by
  obtain ⟨D, h1, h2, h3⟩ := h
  have e := ((h1.set (i * 3) x).set (i * 3 + 1) y).set (i * 3 + 1 + 1) z
  refine ⟨_, e, by simp only [Array.size_setIfInBounds]; exact h2, ?_⟩
  rw [← rws_set3 hC hi x y z, ← h3]
  simp only [Array.toList_setIfInBounds, List.take_set]
/-- They are parts. -/
theorem MRow.shs {tb g n : Nat} {w : World} {C : Nat → List Value} {S : Nat → Sh} (h : MRow w g n C) (hg : g ≠ tb) (hS : ∀ i, i < n → IsSh tb w (C i) (S i)) : Shs tb w (some ⟨g, 0, none⟩) n S := fun i hi => by
  have hC : ∀ i, i < n → (C i).length = 3 := fun i hi => by obtain ⟨_, _, e, _⟩ := hS i hi; rw [e]; rfl
  exact ⟨g, 0, C i, rfl, hg, hS i hi, fun j hj => by rw [Nat.zero_add]; exact h.cell hC hi hj⟩
theorem MRow.of_owns {w : World} {base n : Nat} {v : Value} {C : Nat → List Value} (h : w.ownsRow base 52 3 v n (rws n C)) (hn : 0 < n) : ∃ g cap, v = .slice (some ⟨g, 0, none⟩) n cap ∧ base ≤ g ∧ n ≤ cap ∧ cap ≤ maxLen ∧ MRow w g n C := by
  rcases h.2 with ⟨_, h0⟩ | ⟨g, cap, cur, hv, hb, hh, hnc, hm, hsz, hcur⟩
  · omega
  · exact ⟨g, cap, hv, hb, hnc, hm, cur, hh, by rw [hsz]; exact Nat.mul_le_mul_right 3 hnc, hcur⟩
/-- append of parts that lie in one row, onto an empty one: at the operation. -/
theorem wpList_appSh {ops : Array Oper} {rest : List Oper} {o : Oper} {a : Act} {Q : Exit → Act → World → Prop} (hgd : o.guard = none) (s x : Operand)
    (ho : o.op = .call { callee := .builtin .append, args := #[s, x], argTypes := #[29, 29] })
    (g h n c : Nat) (C : Nat → List Value) (W : World) (hs : a.eval s = .slice (some ⟨g, 0, none⟩) 0 0) (hg : Blk W g #[] 52) (hx : a.eval x = .slice (some ⟨h, 0, none⟩) n c) (hR : Blk W h (rws n C).toArray 52) (hC : ∀ i, i < n → (C i).length = 3) (hC1 : ∀ i, i < n → ∀ u ∈ C i, u.oneCell' = true) (hn : 0 < n) (hn2 : n ≤ 1000)
    (hk : ∀ g' cap w', g ≤ g' → n ≤ cap → cap ≤ maxLen → MRow w' g' n C → Below g W w' → wpList Tryd.prog ops Q rest (a.put o.dst (.slice (some ⟨g', 0, none⟩) n cap)) w') :
    wpList Tryd.prog ops Q (o :: rest) a W := by
  obtain ⟨i0, hi, hz0, hz1, hz2⟩ := info_parts info_share
  have hlen : (rws n C).length = n * 3 := rws_len hC
  refine wpList_append_own_at _ hgd s x 29 ho g 52 i0 _ 3 32 Tryd.underlying29 hi hz0 hz1 hz2 rfl (by decide) (.slice (some ⟨g, 0, none⟩) 0 0) 0 [] hs ⟨rfl, .inr ⟨g, 0, #[], rfl, Nat.le_refl _, hg, Nat.le_refl _, by unfold maxLen; omega, rfl, rfl⟩⟩ ⟨h, 0, none⟩ n c (rws n C) hx hlen
    (fun j u hu => ?_) (fun u hu => ?_) (by unfold maxLen; omega) (by omega) (Nat.le_of_lt hg.lt) ?_
  · have ha : (Addr.mk h 0 none).add j = ⟨h, j, none⟩ := by
      unfold Addr.add; split
      · rename_i hk0; subst hk0; rfl
      · simp
    rw [ha, Blk.cell hR]; simpa using hu
  · unfold rws at hu
    obtain ⟨i, hi1, hi2⟩ := List.mem_flatMap.1 hu
    exact hC1 i (List.mem_range.1 hi1) u hi2
  · intro v' w' hown' hgr _ _
    rw [Nat.zero_add, List.nil_append] at hown'
    obtain ⟨g', cap, rfl, hb, hnc, hm, hM⟩ := MRow.of_owns hown' hn
    exact hk g' cap w' hb hnc hm hM ((Below.refl _ _).grown hgr (Nat.le_of_lt hg.lt) (fun k hk => by simp [Value.ownBlock] at hk; omega))
theorem step_valueG {ops : Array Oper} {o : Oper} {a : Act} {w : World} {K : Act → World → Prop} {Q : Exit → Act → World → Prop} {E : Prop} {v : Value} (hw : Region.wanted o (yielded ops a.tmps) = true) (he : (execOp a.eval o).run Tryd.prog w = .ok (.value v) w)
    (h : K (a.put o.dst v) w) : if Region.wanted o (yielded ops a.tmps) = true then Oper.wp Tryd.prog o a w K Q else E := by
  rw [if_pos hw]
  unfold Oper.wp
  rw [he]
  exact h
theorem shC_one (gen H L x : Nat) : ∀ u ∈ shC gen H L x, u.oneCell' = true := fun u hu => by
  simp only [shC, List.mem_cons, List.not_mem_nil, or_false] at hu
  rcases hu with rfl | rfl | rfl <;> rfl
/-- Two places change. -/
def swp (p : Nat → Nat) (a b : Nat) : Nat → Nat := fun q => if q = b then p a else if q = a then p b else p q
theorem swp_lt {p : Nat → Nat} {a b N : Nat} (h : ∀ i, i < N → p i < N) (ha : a < N) (hb : b < N) : ∀ i, i < N → swp p a b i < N := fun i hi => by
  unfold swp; split
  · exact h a ha
  · split
    · exact h b hb
    · exact h i hi
theorem swp_inj {p : Nat → Nat} {a b N : Nat} (h : ∀ i j, i < N → j < N → p i = p j → i = j) (ha : a < N) (hb : b < N) : ∀ i j, i < N → j < N → swp p a b i = swp p a b j → i = j := fun i j hi hj he => by
  unfold swp at he
  by_cases i1 : i = b <;> by_cases j1 : j = b
  · omega
  · rw [if_pos i1, if_neg j1] at he
    by_cases j2 : j = a
    · rw [if_pos j2] at he; have := h a b ha hb he; omega
    · rw [if_neg j2] at he; have := h a j ha hj he; omega
  · rw [if_neg i1, if_pos j1] at he
    by_cases i2 : i = a
    · rw [if_pos i2] at he; have := h b a hb ha he; omega
    · rw [if_neg i2] at he; have := h i a hi ha he; omega
  · rw [if_neg i1, if_neg j1] at he
    by_cases i2 : i = a <;> by_cases j2 : j = a
    · omega
    · rw [if_pos i2, if_neg j2] at he; have := h b j hb hj he; omega
    · rw [if_neg i2, if_pos j2] at he; have := h i b hi hb he; omega
    · rw [if_neg i2, if_neg j2] at he; exact h i j hi hj he
/-- Parts of a secret, in whatever order. -/
def pS (p : Nat → Nat) (L : Nat) (F : Nat → Nat → Nat) : Nat → Sh := fun i => ⟨p i + 1, 5, L, F (p i)⟩
theorem pS_need {p : Nat → Nat} {L n K : Nat} {F : Nat → Nat → Nat} (h : ∀ i j, i < K → j < K → p i = p j → i = j) (hn : K ≤ n) (h1 : 1 ≤ L) (h2 : L ≤ 64) : needE (pS p L F) n K 5 = 0 :=
  needE_ok (by omega) (fun _ _ => rfl) fun i hi => badB_of (Nat.succ_ne_zero _) (by
    rcases hs : seenB (fun q => (pS p L F q).ix) i (pS p L F i).ix with _ | _
    · rfl
    · obtain ⟨q, hq, e⟩ := seenB_iff.1 hs
      have e2 : p q + 1 = p i + 1 := e
      have := h q i (by omega) hi (by omega)
      omega) rfl ⟨h1, h2⟩
theorem pS_join {p s d : Nat → Nat} {L k j N : Nat} (hs : ∀ j, j < L → s j < 256) (hd : ∀ i, i < L * k → d i < 256) (hj : j < L) (hp : ∀ i, i < k + 1 → p i < N) (hN : N ≤ 255) (h : ∀ i j, i < k + 1 → j < k + 1 → p i = p j → i = j) {x : Nat} (hx : x < 256) :
    jnF (pS p L (fun x => shF s d k (x + 1))) x (k + 1) j = shF s d k x j := by
  rw [← shares_join (p := fun i => p i + 1) hs hd hj (fun i hi => by have := hp i hi; omega) (fun i q hiq hq e => by have := h i q (by omega) hq (by omega); omega) hx]
  exact xsum_congr (k + 1) fun i _ => mulN_comm _ _
end Go.Proofs.YtmhofofidmbgfaaDoor
