/- Rows of rows: one more of our own, one put in another's place; truth values that came in. -/
import Derived.Test.YtcohllhmfghlfaaDoorRrs
import Derived.Deep.Grids
namespace Go.Proofs.YtcohllhmfghlfaaDoor
set_option linter.unusedVariables false
set_option linter.unusedSimpArgs false
open Go.ChangeShapes Go.WideShapes Go.ChangeAt Go.RowKit Go.Deep

/-- Byte rows whose bytes do not lie in an owned row's own block. -/
def LBy (W : World) (v : Value) (oa : Option Addr) (n : Nat) (L : Nat → Nat) (G : Nat → Nat → Nat) : Prop :=
  ∀ i, i < n → ∃ b off od cp, oa = some ⟨b, off, none⟩ ∧ W.cell? ⟨b, off + i, none⟩ = some (.slice od (L i) cp) ∧ L i ≤ cp ∧ Bytes W od (L i) (G i) ∧ (od = none → L i = 0) ∧ cp ≤ maxLen ∧ (∀ a, od = some a → 0 < L i → v.ownBlock ≠ some a.block)
theorem wpList_appRy {ops : Array Oper} {rest : List Oper} {o : Oper} {a : Act} {Q : Exit → Act → World → Prop} (hgd : o.guard = none) (s x : Operand)
    (ho : o.op = .call { callee := .builtin .append, args := #[s, x], argTypes := #[44, 44] })
    (base : Nat) (v : Value) (k q cq : Nat) (L L2 : Nat → Nat) (G G2 : Nat → Nat → Nat) (oa : Option Addr) (W : World) (hs : a.eval s = v) (h : RL W base v k L G) (hx : a.eval x = .slice oa q cq)
    (hA : LBy W v oa q L2 G2) (hno : oa = none → q = 0) (hn : k + q < 1000000000000) (hbase : base ≤ W.heap.size)
    (hk : ∀ v' w', RL w' base v' (k + q) (catL k L L2) (catG k G G2) → Below base W w' → wpList Tryd.prog ops Q rest (a.put o.dst v') w') :
    wpList Tryd.prog ops Q (o :: rest) a W := by
  obtain ⟨i0, hi, hz0, hz1, hz2⟩ := info_parts info_sl
  obtain ⟨xs, hown, hxs⟩ := h.x
  have hlen : xs.length = k := by have := hown.1; omega
  cases oa with
  | none =>
    obtain rfl := hno rfl
    refine wpList_plain hgd fun K hK => ?_
    have hr := append_nil_rows (c := cq) o.type hown
    unfold Oper.wp execOp
    simp only [ho, resolve, invoke, builtin, Sem.run_bind, Sem.run_pure, Result.andThen_ok, List.map_toArray, List.map_cons, List.map_nil, hs, hx, hr]
    refine hK _ _ (hk _ _ ⟨xs, hown, fun i hi' => ?_⟩ (Below.refl _ _))
    obtain ⟨od, cp, h1, h2, h3, h4, h5, h6⟩ := hxs i hi'
    have e1 : catL k L L2 i = L i := if_pos hi'
    have e2 : catG k G G2 i = G i := if_pos hi'
    rw [e1, e2]
    exact ⟨od, cp, h1, h2, h3, h4, h5, h6⟩
  | some ad =>
    obtain ⟨ys, hys⟩ : ∃ ys, (List.range q).map (fun j => (W.cell? (ad.add j)).getD undef) = ys := ⟨_, rfl⟩
    have hyl : ys.length = q := by rw [← hys]; simp
    have hyg : ∀ j, j < q → ∃ od cp, W.cell? (ad.add j) = some (.slice od (L2 j) cp) ∧ ys[j]? = some (.slice od (L2 j) cp) ∧ L2 j ≤ cp ∧ cp ≤ maxLen ∧ Bytes W od (L2 j) (G2 j) ∧ (od = none → L2 j = 0) ∧ (∀ a, od = some a → 0 < L2 j → v.ownBlock ≠ some a.block) := fun j hj => by
      obtain ⟨b, off, od, cp, h1, h2, h3, h4, h5, h6, h7⟩ := hA j hj
      cases h1
      have hc : W.cell? ((⟨b, off, none⟩ : Addr).add j) = some (.slice od (L2 j) cp) := by rw [Addr.add_mid]; exact h2
      refine ⟨od, cp, hc, ?_, h3, h6, h4, h5, h7⟩
      rw [← hys, List.getElem?_map, List.getElem?_range hj, Option.map_some, hc]; rfl
    refine wpList_append_own_at _ hgd s x 44 ho base 22 i0 (.slice none 0 0) 1 24 Tryd.underlying44 hi hz0 hz1 hz2 rfl (by decide) v k xs hs hown ad q cq ys hx (by rw [hyl, Nat.mul_one])
      (fun j u hu => ?_) (fun u hu => ?_) (by unfold maxLen; omega) (by omega) hbase ?_
    · have hj : j < q := by
        rcases Nat.lt_or_ge j q with h' | h'
        · exact h'
        · rw [List.getElem?_eq_none (by omega)] at hu; cases hu
      obtain ⟨od, cp, h1, h2, _⟩ := hyg j hj
      rw [h2] at hu; cases hu; exact h1
    · obtain ⟨j, hj, hju⟩ := List.getElem_of_mem hu
      obtain ⟨od, cp, h1, h2, _⟩ := hyg j (by omega)
      rw [List.getElem?_eq_getElem hj] at h2
      have := Option.some.inj h2
      rw [← hju, this]; rfl
    · intro v' w' hown' hg _ hob
      have hO := own_of_grown hg
      have hb : Below base W w' := below_gr (fun j hj => (World.ownsRow.lt hown j hj).1) hbase hg
      have keep : ∀ (od : Option Addr) (l : Nat) (g : Nat → Nat), Bytes W od l g → (∀ ad, od = some ad → 0 < l → v.ownBlock ≠ some ad.block) → Bytes w' od l g ∧ ∀ ad, od = some ad → 0 < l → v'.ownBlock ≠ some ad.block := fun od l g hB hne => by
        refine ⟨hB.own hO fun ad ha hl => ne_own (hB.lt ad ha hl) (hne ad ha hl), fun ad ha hl => ?_⟩
        rcases hob with e | e
        · rw [e]; exact hne ad ha hl
        · rw [e]; intro e2
          have h9 := hB.lt ad ha hl
          have e3 := Option.some.inj e2
          omega
      refine hk v' w' ⟨xs ++ ys, hown', fun i hi' => ?_⟩ hb
      by_cases e : i < k
      · obtain ⟨od', cp', h1, h2, h3, h4, h5, h6⟩ := hxs i e
        obtain ⟨h7, h8⟩ := keep od' (L i) (G i) h4 h6
        have e1 : catL k L L2 i = L i := if_pos e
        have e2 : catG k G G2 i = G i := if_pos e
        rw [e1, e2]
        exact ⟨od', cp', by rw [List.getElem?_append_left (by omega)]; exact h1, h2, h3, h7, h5, h8⟩
      · obtain ⟨od, cp, h1, h2, h3, h4, h5, h6, h7⟩ := hyg (i - k) (by omega)
        have hne : ∀ ad, od = some ad → 0 < L2 (i - k) → v.ownBlock ≠ some ad.block := h7
        obtain ⟨h8, h9⟩ := keep od _ _ h5 hne
        have e1 : catL k L L2 i = L2 (i - k) := if_neg e
        have e2 : catG k G G2 i = G2 (i - k) := if_neg e
        rw [e1, e2]
        exact ⟨od, cp, by rw [List.getElem?_append_right (by omega), hlen]; exact h2, h3, h4, h8, h6, h9⟩
theorem RL.congr {w : World} {base k : Nat} {v : Value} {L L' : Nat → Nat} {G G' : Nat → Nat → Nat} (h : RL w base v k L G) (hl : ∀ i, i < k → L i = L' i) (hg : ∀ i, i < k → G i = G' i) : RL w base v k L' G' := by
  obtain ⟨xs, ho, hx⟩ := h.x
  refine ⟨xs, ho, fun i hi => ?_⟩
  rw [← hl i hi, ← hg i hi]; exact hx i hi
theorem RL.set {w : World} {base g cap k i l cp : Nat} {od : Option Addr} {F : Nat → Nat} {L : Nat → Nat} {G : Nat → Nat → Nat} (h : RL w base (.slice (some ⟨g, 0, none⟩) k cap) k L G) (hi : i < k) (h1 : l ≤ cp) (h2 : cp ≤ maxLen) (hB : Bytes w od l F)
    (hno : od = none → l = 0) (hne : ∀ a, od = some a → 0 < l → a.block ≠ g) : RL (w.setCell ⟨g, i, none⟩ (.slice od l cp)) base (.slice (some ⟨g, 0, none⟩) k cap) k (fun j => if j = i then l else L j) (fun j => if j = i then F else G j) := by
  obtain ⟨xs, ho, hx⟩ := h.x
  have hO : Own g w (w.setCell ⟨g, i, none⟩ (.slice od l cp)) := (Own.refl _ _).set _ _
  have hl : xs.length = k := by have := ho.1; omega
  refine ⟨xs.set i (.slice od l cp), ⟨by rw [List.length_set]; exact ho.1, .inr ?_⟩, fun j hj => ?_⟩
  · rcases ho.2 with ⟨e, _⟩ | ⟨g', cap', cur, e, hb, hh, hnc, hm, hsz, hcur⟩
    · cases e
    · cases e
      refine ⟨g, cap, cur.setIfInBounds i (.slice od l cp), rfl, hb, Blk.set (C := cur) hh i _, hnc, hm, by rw [Array.size_setIfInBounds]; exact hsz, ?_⟩
      rw [Array.toList_setIfInBounds, List.take_set, hcur]
  · by_cases e : j = i
    · subst e
      rw [List.getElem?_set_self (by omega), if_pos rfl, if_pos rfl]
      refine ⟨od, cp, rfl, h1, h2, hB.own hO hne, hno, fun a ha hl e2 => hne a ha hl (Option.some.inj e2).symm⟩
    · rw [List.getElem?_set_ne (Ne.symm e), if_neg e, if_neg e]
      obtain ⟨od', cp', z1, z2, z3, z4, z5, z6⟩ := hx j hj
      exact ⟨od', cp', z1, z2, z3, z4.own hO fun a ha hl e2 => z6 a ha hl (by rw [e2]; rfl), z5, z6⟩
theorem RL.cell {w : World} {base g cap k i : Nat} {L : Nat → Nat} {G : Nat → Nat → Nat} (h : RL w base (.slice (some ⟨g, 0, none⟩) k cap) k L G) (hi : i < k) : (∃ v, w.cell? ⟨g, i, none⟩ = some v) ∧ w.frozen? ⟨g, i, none⟩ = false := by
  obtain ⟨xs, ho, hx⟩ := h.x
  rcases ho.2 with ⟨e, _⟩ | ⟨g', cap', cur, e, hb, hh, hnc, hm, hsz, hcur⟩
  · cases e
  · cases e
    refine ⟨⟨cur[i]'(by omega), ?_⟩, Blk.free (C := cur) hh i⟩
    rw [Blk.cell (C := cur) hh i, Array.getElem?_eq_getElem]
theorem RL.some {w : World} {base k : Nat} {v : Value} {L : Nat → Nat} {G : Nat → Nat → Nat} (h : RL w base v k L G) (h0 : 0 < k) : ∃ g cap, v = .slice (some ⟨g, 0, none⟩) k cap ∧ base ≤ g ∧ k ≤ cap ∧ cap ≤ maxLen := by
  obtain ⟨xs, ho, hx⟩ := h.x
  rcases ho.2 with ⟨_, e⟩ | ⟨g, cap, cur, e, hb, hh, hnc, hm, _⟩
  · omega
  · exact ⟨g, cap, e, hb, hnc, hm⟩
end Go.Proofs.YtcohllhmfghlfaaDoor
