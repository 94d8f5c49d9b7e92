/- Own rows of the document's versions (layer 30). -/
import Derived.Test.YtkaddilgegimjaaDoorEs3
import Derived.Test.YtkaddilgegimjaaDoorEn5
namespace Go.Proofs.YtkaddilgegimjaaDoor
set_option linter.unusedVariables false
set_option linter.unusedSimpArgs false
open Go.RowKit

/-- n versions of the call's own, from a block on. -/
def RGV (w : World) (base : Nat) (v : Value) (n : Nat) (V : Nat → Ver) : Prop := ∃ C, w.ownsRow base 89 4 v n (rws n C) ∧ ∀ i, i < n → IsVer w (C i) (V i) ∧ Away v (C i)
theorem RGV.nil (w : World) (base : Nat) (V : Nat → Ver) : RGV w base (.slice none 0 0) 0 V := ⟨fun _ => [], World.ownsRow_nil w base _ 4, fun i hi => absurd hi (Nat.not_lt_zero _)⟩
theorem RGV.later {w w' : World} {base n : Nat} {v : Value} {V : Nat → Ver} (h : RGV w base v n V) (hb : Below w.heap.size w w') : RGV w' base v n V := by
  obtain ⟨C, h1, h2⟩ := h
  exact ⟨C, owns_later h1 hb, fun i hi => ⟨(h2 i hi).1.later hb, (h2 i hi).2⟩⟩
theorem RGV.set_apart {w : World} {base n : Nat} {v : Value} {V : Nat → Ver} {b k : Nat} {C : Array Value} {t : TypeId} {x : Value} (h : RGV w base v n V) (hB : Blk w b C t) (hn : ∀ (j : Nat) (z : Int), C[j]? ≠ some (Value.int .u8 z)) (hb : b < base) : RGV (w.setCell ⟨b, k, none⟩ x) base v n V := by
  obtain ⟨D, h1, h2⟩ := h
  exact ⟨D, owns_own h1 ((Own.refl b w).set k x) hb, fun i hi => ⟨(h2 i hi).1.set_apart hB hn, (h2 i hi).2⟩⟩
theorem info_verR : (Tryd.prog.info? 89).map (fun i => (i.zero, i.size, i.bytes)) = some (some (.agg #[.int .u32 0, .slice none 0 0, .int .u64 0, .int .i64 0]), 4, 48) := by kernel_rfl
/-- append of one version, at the operation. -/
theorem wpList_appVR {ops : Array Oper} {rest : List Oper} {o : Oper} {a : Act} {Q : Exit → Act → World → Prop} (hgd : o.guard = none) (s x : Operand)
    (ho : o.op = .call { callee := .builtin .append, args := #[s, x], argTypes := #[71, 71] })
    (base : Nat) (v : Value) (n : Nat) (V : Nat → Ver) (c : List Value) (W : World) (hs : a.eval s = v) (hG : RGV W base v n V) (hc : IsVer W c (V n)) (haw : Away v c)
    (H : Nat) (hH : W.heap.size = H) (hx : a.eval x = .slice (some ⟨H, 0, none⟩) 1 1)
    (hn : (n + 1) * 48 ≤ 140737488355328) (hbase : base ≤ W.heap.size)
    (h : ∀ v' w', RGV w' base v' (n + 1) V → W.grownBy w' v.ownBlock → Below base W w' → W.heap.size < w'.heap.size → wpList Tryd.prog ops Q rest (a.put o.dst v') w') :
    wpList Tryd.prog ops Q (o :: rest) a (W.alloc (.cells c.toArray 89)) := by
  subst hH
  obtain ⟨i0, hi, hz0, hz1, hz2⟩ := info_parts info_verR
  obtain ⟨C, hown, hC⟩ := hG
  have hbA : Below W.heap.size W (W.alloc (.cells c.toArray 89)) := (Below.refl _ _).alloc (Nat.le_refl _) _
  refine wpList_append_own_at _ hgd s x 71 ho base 89 i0 _ 4 48 Tryd.underlying71 hi hz0 hz1 hz2 rfl (by decide) v n (rws n C) hs (owns_later hown hbA) ⟨W.heap.size, 0, none⟩ 1 1 c hx (by rw [hc.len])
    news_lit hc.one (by unfold maxLen; omega) hn (by simp; omega) ?_
  intro v' w' hown' hg _ hat
  have hne : ∀ q, v.ownBlock = some q → q < W.heap.size := fun q hq => by
    rcases hown.2 with ⟨rfl, _⟩ | ⟨g, cap, cur, rfl, _, hh, _⟩
    · simp [Value.ownBlock] at hq
    · simp [Value.ownBlock] at hq; subst hq; exact lt_of_block hh
  have hg2 : W.grownBy w' v.ownBlock := ⟨hg.os, hg.tape, hg.output, Nat.le_trans (by simp) hg.size, fun k hk hkn => by rw [hg.block k (by simp; omega) hkn]; exact hbA.block k hk⟩
  have haw' : ∀ d : List Value, Away v d → (∀ a l cp, Value.slice (some a) l cp ∈ d → 0 < l → a.block < W.heap.size) → Away v' d := fun d h1 h2 a l cp hm hl => by
    rcases hat with e | e
    · rw [e]; exact h1 a l cp hm hl
    · rw [e]; have := h2 a l cp hm hl; simp; omega
  refine h v' w' ⟨addC C n c, by rw [rws_add]; exact hown', fun i hi => ?_⟩ hg2 (hbA.mono hbase |>.grown hg (by simp; omega) (owns_block hown)) (by have := hg.size; simp at this; omega)
  by_cases e : i = n
  · subst e
    unfold addC; rw [if_pos rfl]
    exact ⟨hc.grown hg2 haw, haw' c haw hc.old⟩
  · unfold addC; rw [if_neg e]
    have h1 := hC i (by omega)
    exact ⟨h1.1.grown hg2 h1.2, haw' _ h1.2 h1.1.old⟩
theorem RGV.slice {w : World} {base n : Nat} {v : Value} {V : Nat → Ver} (h : RGV w base v n V) : ∃ oa cap, v = .slice oa n cap ∧ n ≤ cap ∧ cap ≤ maxLen := by
  obtain ⟨C, h1, h2⟩ := h
  obtain ⟨oa, cap, hv, hc, hm, _⟩ := rws_cells h1 fun i hi => (h2 i hi).1.len
  exact ⟨oa, cap, hv, hc, hm⟩
theorem RGV.vers {w : World} {base n : Nat} {v : Value} {V : Nat → Ver} (h : RGV w base v n V) : ∃ oa cap, v = .slice oa n cap ∧ n ≤ cap ∧ cap ≤ maxLen ∧ Vers w oa n V := by
  obtain ⟨C, h1, h2⟩ := h
  obtain ⟨oa, cap, hv, hc, hm, _, hcell⟩ := rws_cells h1 fun i hi => (h2 i hi).1.len
  refine ⟨oa, cap, hv, hc, hm, fun i hi => ?_⟩
  obtain ⟨b, off, rfl, _, _⟩ := hcell i 0 hi (by omega)
  refine ⟨b, off, C i, rfl, (h2 i hi).1, fun j hj => ?_⟩
  obtain ⟨b', off', e, _, hc'⟩ := hcell i j hi hj
  cases e
  exact hc'
theorem RGV.mono {w : World} {base base' n : Nat} {v : Value} {V : Nat → Ver} (h : RGV w base v n V) (hb : base' ≤ base) : RGV w base' v n V := by
  obtain ⟨C, ⟨h1, h2⟩, h3⟩ := h
  refine ⟨C, ⟨h1, ?_⟩, h3⟩
  rcases h2 with h2 | ⟨g, cap, cur, hv, hg, r⟩
  · exact .inl h2
  · exact .inr ⟨g, cap, cur, hv, Nat.le_trans hb hg, r⟩
theorem RGV.congr {w : World} {base n : Nat} {v : Value} {V U : Nat → Ver} (h : RGV w base v n V) (he : ∀ i, i < n → V i = U i) : RGV w base v n U := by
  obtain ⟨C, h1, h2⟩ := h
  exact ⟨C, h1, fun i hi => ⟨he i hi ▸ (h2 i hi).1, (h2 i hi).2⟩⟩
theorem RGV.ownb {w : World} {base n : Nat} {v : Value} {V : Nat → Ver} (h : RGV w base v n V) : ∀ q, v.ownBlock = some q → base ≤ q ∧ q < w.heap.size := fun q hq => by
  obtain ⟨C, h1, _⟩ := h
  rcases h1.2 with ⟨rfl, _⟩ | ⟨g, cap, cur, rfl, hg, hh, _⟩
  · simp [Value.ownBlock] at hq
  · simp [Value.ownBlock] at hq; subst hq; exact ⟨hg, lt_of_block hh⟩
/-- append of one version, at a step of a region that draws its order. -/
theorem step_appVR {ops : Array Oper} {o : Oper} {a : Act} {K : Act → World → Prop} {Q : Exit → Act → World → Prop} {E : Prop} (hgd : o.guard = none) (s x : Operand)
    (ho : o.op = .call { callee := .builtin .append, args := #[s, x], argTypes := #[71, 71] })
    (base : Nat) (v : Value) (n : Nat) (V : Nat → Ver) (c : List Value) (W U : World) (hs : a.eval s = v) (hG : RGV W base v n V) (hc : IsVer W c (V n)) (haw : Away v c)
    (hU : U.heap = (W.alloc (.cells c.toArray 89)).heap ∧ U.os = W.os ∧ U.tape = W.tape ∧ U.output = W.output)
    (hx : a.eval x = .slice (some ⟨W.heap.size, 0, none⟩) 1 1)
    (hn : (n + 1) * 48 ≤ 140737488355328) (hbase : base ≤ W.heap.size)
    (h : ∀ g cap w', RGV w' base (.slice (some ⟨g, 0, none⟩) (n + 1) cap) (n + 1) V → W.grownBy w' v.ownBlock → Below base W w' → W.heap.size < w'.heap.size → (v.ownBlock = some g ∨ W.heap.size ≤ g) → K (a.put o.dst (.slice (some ⟨g, 0, none⟩) (n + 1) cap)) w') :
    if Region.wanted o (yielded ops a.tmps) = true then Oper.wp Tryd.prog o a U K Q else E := by
  obtain ⟨i0, hi, hz0, hz1, hz2⟩ := info_parts info_verR
  obtain ⟨C, hown, hC⟩ := hG
  obtain ⟨u1, u2, u3, u4⟩ := hU
  have hsz : U.heap.size = W.heap.size + 1 := by rw [u1]; simp
  have hbA : Below W.heap.size W U := by
    have h0 : Below W.heap.size W (W.alloc (.cells c.toArray 89)) := (Below.refl _ _).alloc (Nat.le_refl _) _
    exact ⟨u2, u3, u4, by rw [hsz]; omega, fun k hk => by rw [u1]; exact h0.block k hk⟩
  have hnews : ∀ j u, c[j]? = some u → U.cell? ((⟨W.heap.size, 0, none⟩ : Addr).add j) = some u := fun j u hju => by
    have := news_lit (w := W) (t := 89) j u hju
    rw [← this]; exact World.cell?_of_block (by rw [u1])
  refine step_append_lies _ hgd s x 71 ho base 89 i0 _ 4 48 Tryd.underlying71 hi hz0 hz1 hz2 rfl (by decide) v n (rws n C) hs (owns_later hown hbA) ⟨W.heap.size, 0, none⟩ 1 1 c hx (by rw [hc.len])
    hnews hc.one (by omega) (by unfold maxLen; omega) hn (by rw [hsz]; omega) (W.heap.size + 1) hsz ?_
  intro g cap w' hown' hg hat _
  have hne : ∀ q, v.ownBlock = some q → q < W.heap.size := fun q hq => by
    rcases hown.2 with ⟨rfl, _⟩ | ⟨g, cap, cur, rfl, _, hh, _⟩
    · simp [Value.ownBlock] at hq
    · simp [Value.ownBlock] at hq; subst hq; exact lt_of_block hh
  have hg2 : W.grownBy w' v.ownBlock := ⟨hg.os.trans hbA.os, hg.tape.trans hbA.tape, hg.output.trans hbA.output, Nat.le_trans hbA.size hg.size, fun k hk hkn => by rw [hg.block k (by rw [hsz]; omega) hkn]; exact hbA.block k hk⟩
  have haw' : ∀ d : List Value, Away v d → (∀ a l cp, Value.slice (some a) l cp ∈ d → 0 < l → a.block < W.heap.size) → Away (.slice (some ⟨g, 0, none⟩) (n + 1) cap) d := fun d h1 h2 a l cp hm hl => by
    rcases hat with e | e
    · show some g ≠ _; rw [← e]; exact h1 a l cp hm hl
    · show some g ≠ _; have := h2 a l cp hm hl; subst e; simp; omega
  refine h g cap w' ⟨addC C n c, by rw [rws_add]; exact hown', fun i hi => ?_⟩ hg2 ((hbA.mono hbase).grown hg (by rw [hsz]; omega) (owns_block hown)) (by have := hg.size; rw [hsz] at this; omega) (by rcases hat with e | e; exact .inl e; exact .inr (by omega))
  by_cases e : i = n
  · subst e
    unfold addC; rw [if_pos rfl]
    exact ⟨hc.grown hg2 haw, haw' c haw hc.old⟩
  · unfold addC; rw [if_neg e]
    have h1 := hC i (by omega)
    exact ⟨h1.1.grown hg2 h1.2, haw' _ h1.2 h1.1.old⟩


theorem Vers.row {w : World} {b off n : Nat} {V : Nat → Ver} (h : Vers w (some ⟨b, off, none⟩) n V) : ∃ C : Nat → List Value, ∀ i, i < n → IsVer w (C i) (V i) ∧ ∀ j, j < 4 → w.cell? ⟨b, off + i * 4 + j, none⟩ = (C i)[j]? := by
  have h1 : ∀ i, ∃ c : List Value, i < n → IsVer w c (V i) ∧ ∀ j, j < 4 → w.cell? ⟨b, off + i * 4 + j, none⟩ = c[j]? := fun i => by
    by_cases hi : i < n
    · obtain ⟨b', off', c, e, hc, hj⟩ := h i hi
      cases e
      exact ⟨c, fun _ => ⟨hc, hj⟩⟩
    · exact ⟨[], fun h => absurd h hi⟩
  exact ⟨fun i => (h1 i).choose, fun i hi => (h1 i).choose_spec hi⟩
theorem rws_one {n : Nat} {C : Nat → List Value} (h : ∀ i, i < n → ∀ u ∈ C i, u.oneCell' = true) : ∀ u ∈ rws n C, u.oneCell' = true := by
  intro u hu
  unfold rws at hu
  rw [List.mem_flatMap] at hu
  obtain ⟨i, hi, hu⟩ := hu
  exact h i (by simpa using hi) u hu
theorem rws_news {w : World} {b off n : Nat} {C : Nat → List Value} (hl : ∀ i, i < n → (C i).length = 4) (h : ∀ i, i < n → ∀ j, j < 4 → w.cell? ⟨b, off + i * 4 + j, none⟩ = (C i)[j]?) : ∀ (j : Nat) (u : Value), (rws n C)[j]? = some u → w.cell? ((⟨b, off, none⟩ : Addr).add j) = some u := fun j u hj => by
  have hlt : j < n * 4 := by
    rcases Nat.lt_or_ge j (n * 4) with h' | h'
    · exact h'
    · rw [List.getElem?_eq_none (by rw [rws_len hl]; exact h')] at hj; cases hj
  have h1 : (rws n C)[j / 4 * 4 + j % 4]? = (C (j / 4))[j % 4]? := rws_get hl (by omega) (by omega)
  have h2 := h (j / 4) (by omega) (j % 4) (by omega)
  rw [show j / 4 * 4 + j % 4 = j by omega] at h1
  rw [show off + j / 4 * 4 + j % 4 = off + j by omega] at h2
  have ha : (Addr.mk b off none).add j = ⟨b, off + j, none⟩ := by
    unfold Addr.add; split
    · rename_i hk0; subst hk0; rfl
    · simp
  rw [ha, h2, ← h1, hj]
/-- append of a row of versions, at least one, onto nil, at a step of a region that draws its order. -/
theorem step_rows {ops : Array Oper} {o : Oper} {a : Act} {K : Act → World → Prop} {Q : Exit → Act → World → Prop} {E : Prop} (hgd : o.guard = none) (s x : Operand)
    (ho : o.op = .call { callee := .builtin .append, args := #[s, x], argTypes := #[71, 71] })
    (base b off m c : Nat) (V : Nat → Ver) (W : World) (hs : a.eval s = .slice none 0 0) (hx : a.eval x = .slice (some ⟨b, off, none⟩) m c) (hV : Vers W (some ⟨b, off, none⟩) m V) (hm : 0 < m)
    (hn : m * 48 ≤ 140737488355328) (hbase : base ≤ W.heap.size) (H : Nat) (hH : W.heap.size = H)
    (h : ∀ cap w', RGV w' base (.slice (some ⟨H, 0, none⟩) m cap) m V → Below H W w' → H < w'.heap.size → K (a.put o.dst (.slice (some ⟨H, 0, none⟩) m cap)) w') :
    if Region.wanted o (yielded ops a.tmps) = true then Oper.wp Tryd.prog o a W K Q else E := by
  subst hH
  obtain ⟨i0, hi, hz0, hz1, hz2⟩ := info_parts info_verR
  obtain ⟨C, hC⟩ := hV.row
  have hl : ∀ i, i < m → (C i).length = 4 := fun i hi => (hC i hi).1.len
  refine step_append_lies _ hgd s x 71 ho base 89 i0 _ 4 48 Tryd.underlying71 hi hz0 hz1 hz2 rfl (by decide) (.slice none 0 0) 0 [] hs (World.ownsRow_nil W base _ 4) ⟨b, off, none⟩ m c (rws m C) hx (rws_len hl)
    (rws_news hl fun i hi => (hC i hi).2) (rws_one fun i hi => (hC i hi).1.one) hm (by unfold maxLen; omega) (by omega) hbase W.heap.size rfl ?_
  intro g cap w' hown hg hat hlt
  rcases hat with e | e
  · simp [Value.ownBlock] at e
  subst e
  have hb : Below W.heap.size W w' := ⟨hg.os, hg.tape, hg.output, hg.size, fun k hk => hg.block k hk (by simp [Value.ownBlock])⟩
  rw [Nat.zero_add] at hown ⊢
  refine h cap w' ⟨C, by simpa using hown, fun i hi => ⟨(hC i hi).1.later hb, fun ad l cp hmem hl0 hq => ?_⟩⟩ hb hlt
  have := (hC i hi).1.old ad l cp hmem hl0
  simp [Value.ownBlock] at hq
  omega
end Go.Proofs.YtkaddilgegimjaaDoor
