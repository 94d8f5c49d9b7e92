/- Rows of rows, put together. -/
import Derived.Test.YtcohllhmfghlfaaDoorWi0
import Derived.Test.YtcohllhmfghlfaaDoorCv
namespace Go.Proofs.YtcohllhmfghlfaaDoor
set_option linter.unusedVariables false
set_option linter.unusedSimpArgs false
open Go.RowKit

/-- Byte rows whose bytes lie below a block. -/
def LBx (W : World) (B : Nat) (oa : Option Addr) (n : Nat) (L : Nat → Nat) (G : Nat → Nat → Nat) : Prop :=
  ∀ i, i < n → ∃ b off od cp, oa = some ⟨b, off, none⟩ ∧ W.cell? ⟨b, off + i, none⟩ = some (.slice od (L i) cp) ∧ L i ≤ cp ∧ Bytes W od (L i) (G i) ∧ (od = none → L i = 0) ∧ cp ≤ maxLen ∧ (∀ a, od = some a → 0 < L i → a.block < B)
theorem LBs.x {W : World} {oa : Option Addr} {n : Nat} {L : Nat → Nat} {G : Nat → Nat → Nat} (h : LBs W oa n L G) : LBx W W.heap.size oa n L G := fun i hi => by
  obtain ⟨b, off, od, cp, h1, h2, h3, h4, h5, h6⟩ := h i hi
  exact ⟨b, off, od, cp, h1, h2, h3, h4, h5, h6, fun a ha hl => h4.lt a ha hl⟩
theorem LBx.later {W w' : World} {B : Nat} {oa : Option Addr} {n : Nat} {L : Nat → Nat} {G : Nat → Nat → Nat} (h : LBx W B oa n L G) (hb : Below W.heap.size W w') : LBx w' B oa n L G := fun i hi => by
  obtain ⟨b, off, od, cp, h1, h2, h3, h4, h5, h6, h7⟩ := h i hi
  exact ⟨b, off, od, cp, h1, cell_below hb h2, h3, h4.later hb, h5, h6, h7⟩
theorem LBx.mono {W : World} {B B' : Nat} {oa : Option Addr} {n : Nat} {L : Nat → Nat} {G : Nat → Nat → Nat} (h : LBx W B oa n L G) (hb : B ≤ B') : LBx W B' oa n L G := fun i hi => by
  obtain ⟨b, off, od, cp, h1, h2, h3, h4, h5, h6, h7⟩ := h i hi
  exact ⟨b, off, od, cp, h1, h2, h3, h4, h5, h6, fun a ha hl => Nat.lt_of_lt_of_le (h7 a ha hl) hb⟩
def catL (k : Nat) (L L2 : Nat → Nat) : Nat → Nat := fun i => if i < k then L i else L2 (i - k)
def catG (k : Nat) (G G2 : Nat → Nat → Nat) : Nat → Nat → Nat := fun i => if i < k then G i else G2 (i - k)
/-- A list of rows that was just made. -/
theorem RL.made {w : World} {base n : Nat} {L : Nat → Nat} {G : Nat → Nat → Nat} (xs : List Value) (hn : xs.length = n) (hm : n ≤ maxLen) (hb : base ≤ w.heap.size)
    (h : ∀ i, i < n → ∃ od cp, xs[i]? = some (.slice od (L i) cp) ∧ L i ≤ cp ∧ cp ≤ maxLen ∧ Bytes w od (L i) (G i) ∧ (od = none → L i = 0)) :
    RL (w.alloc (.cells xs.toArray 22)) base (.slice (some ⟨w.heap.size, 0, none⟩) n n) n L G := by
  subst hn
  refine ⟨xs, ⟨(Nat.mul_one _).symm, .inr ⟨w.heap.size, xs.length, xs.toArray, rfl, hb, Blk.new w _ _, Nat.le_refl _, hm, by simp, by simp⟩⟩, fun i hi => ?_⟩
  obtain ⟨od, cp, h1, h2, h3, h4, h5⟩ := h i hi
  refine ⟨od, cp, h1, h2, h3, h4.later ((Below.refl _ _).alloc (Nat.le_refl _) _), h5, fun a ha hl e => ?_⟩
  have := h4.lt a ha hl
  have e2 : w.heap.size = a.block := Option.some.inj e
  omega
theorem append_nil_rows {w : World} {base n c : Nat} {v : Value} {xs : List Value} (ty : TypeId) (hown : w.ownsRow base 22 1 v n xs) :
    (Builtin.append_ #[44, 44] ty #[v, .slice none 0 c]).run Tryd.prog w = .ok v w := by
  obtain ⟨i0, hi, _, _, _⟩ := info_parts info_sl
  rcases hown.2 with ⟨rfl, rfl⟩ | ⟨g, cap, cur, rfl, _, _, hnc, _⟩
  · simp [Builtin.append_, run_underlying Tryd.underlying44, sizeOf, typeInfo, hi, Builtin.lenOf, Builtin.firstCells]
  · simp [Builtin.append_, run_underlying Tryd.underlying44, sizeOf, typeInfo, hi, Builtin.lenOf, Builtin.firstCells, hnc, storeCells]
/-- Rows that came in, appended to a list of our own. -/
theorem wpList_appRs {ops : Array Oper} {rest : List Oper} {o : Oper} {a : Act} {Q : Exit → Act → World → Prop} (hgd : o.guard = none) (s x : Operand)
    (ho : o.op = .call { callee := .builtin .append, args := #[s, x], argTypes := #[44, 44] })
    (base : Nat) (v : Value) (k q cq : Nat) (L L2 : Nat → Nat) (G G2 : Nat → Nat → Nat) (oa : Option Addr) (W : World) (hs : a.eval s = v) (h : RL W base v k L G) (hx : a.eval x = .slice oa q cq)
    (hA : LBx W base oa q L2 G2) (hno : oa = none → q = 0) (hn : k + q < 1000000000000) (hbase : base ≤ W.heap.size)
    (hk : ∀ v' w', RL w' base v' (k + q) (catL k L L2) (catG k G G2) → Below base W w' → wpList Tryd.prog ops Q rest (a.put o.dst v') w') :
    wpList Tryd.prog ops Q (o :: rest) a W := by
  obtain ⟨i0, hi, hz0, hz1, hz2⟩ := info_parts info_sl
  obtain ⟨xs, hown, hxs⟩ := h.x
  have hlen : xs.length = k := by have := hown.1; omega
  cases oa with
  | none =>
    obtain rfl := hno rfl
    refine wpList_plain hgd fun K hK => ?_
    have hr := append_nil_rows (c := cq) o.type hown
    unfold Oper.wp execOp
    simp only [ho, resolve, invoke, builtin, Sem.run_bind, Sem.run_pure, Result.andThen_ok, List.map_toArray, List.map_cons, List.map_nil, hs, hx, hr]
    refine hK _ _ (hk _ _ ⟨xs, hown, fun i hi' => ?_⟩ (Below.refl _ _))
    obtain ⟨od, cp, h1, h2, h3, h4, h5, h6⟩ := hxs i hi'
    have e1 : catL k L L2 i = L i := if_pos hi'
    have e2 : catG k G G2 i = G i := if_pos hi'
    rw [e1, e2]
    exact ⟨od, cp, h1, h2, h3, h4, h5, h6⟩
  | some ad =>
    obtain ⟨ys, hys⟩ : ∃ ys, (List.range q).map (fun j => (W.cell? (ad.add j)).getD undef) = ys := ⟨_, rfl⟩
    have hyl : ys.length = q := by rw [← hys]; simp
    have hyg : ∀ j, j < q → ∃ od cp, W.cell? (ad.add j) = some (.slice od (L2 j) cp) ∧ ys[j]? = some (.slice od (L2 j) cp) ∧ L2 j ≤ cp ∧ cp ≤ maxLen ∧ Bytes W od (L2 j) (G2 j) ∧ (od = none → L2 j = 0) ∧ (∀ a, od = some a → 0 < L2 j → a.block < base) := fun j hj => by
      obtain ⟨b, off, od, cp, h1, h2, h3, h4, h5, h6, h7⟩ := hA j hj
      cases h1
      have hc : W.cell? ((⟨b, off, none⟩ : Addr).add j) = some (.slice od (L2 j) cp) := by rw [Addr.add_mid]; exact h2
      refine ⟨od, cp, hc, ?_, h3, h6, h4, h5, h7⟩
      rw [← hys, List.getElem?_map, List.getElem?_range hj, Option.map_some, hc]; rfl
    refine wpList_append_own_at _ hgd s x 44 ho base 22 i0 (.slice none 0 0) 1 24 Tryd.underlying44 hi hz0 hz1 hz2 rfl (by decide) v k xs hs hown ad q cq ys hx (by rw [hyl, Nat.mul_one])
      (fun j u hu => ?_) (fun u hu => ?_) (by unfold maxLen; omega) (by omega) hbase ?_
    · have hj : j < q := by
        rcases Nat.lt_or_ge j q with h' | h'
        · exact h'
        · rw [List.getElem?_eq_none (by omega)] at hu; cases hu
      obtain ⟨od, cp, h1, h2, _⟩ := hyg j hj
      rw [h2] at hu; cases hu; exact h1
    · obtain ⟨j, hj, hju⟩ := List.getElem_of_mem hu
      obtain ⟨od, cp, h1, h2, _⟩ := hyg j (by omega)
      rw [List.getElem?_eq_getElem hj] at h2
      have := Option.some.inj h2
      rw [← hju, this]; rfl
    · intro v' w' hown' hg _ hob
      have hO := own_of_grown hg
      have hb : Below base W w' := below_gr (fun j hj => (World.ownsRow.lt hown j hj).1) hbase hg
      have keep : ∀ (od : Option Addr) (l : Nat) (g : Nat → Nat), Bytes W od l g → (∀ ad, od = some ad → 0 < l → v.ownBlock ≠ some ad.block) → Bytes w' od l g ∧ ∀ ad, od = some ad → 0 < l → v'.ownBlock ≠ some ad.block := fun od l g hB hne => by
        refine ⟨hB.own hO fun ad ha hl => ne_own (hB.lt ad ha hl) (hne ad ha hl), fun ad ha hl => ?_⟩
        rcases hob with e | e
        · rw [e]; exact hne ad ha hl
        · rw [e]; intro e2
          have h9 := hB.lt ad ha hl
          have e3 := Option.some.inj e2
          omega
      refine hk v' w' ⟨xs ++ ys, hown', fun i hi' => ?_⟩ hb
      by_cases e : i < k
      · obtain ⟨od', cp', h1, h2, h3, h4, h5, h6⟩ := hxs i e
        obtain ⟨h7, h8⟩ := keep od' (L i) (G i) h4 h6
        have e1 : catL k L L2 i = L i := if_pos e
        have e2 : catG k G G2 i = G i := if_pos e
        rw [e1, e2]
        exact ⟨od', cp', by rw [List.getElem?_append_left (by omega)]; exact h1, h2, h3, h7, h5, h8⟩
      · obtain ⟨od, cp, h1, h2, h3, h4, h5, h6, h7⟩ := hyg (i - k) (by omega)
        have hne : ∀ ad, od = some ad → 0 < L2 (i - k) → v.ownBlock ≠ some ad.block := fun a ha hl e9 => by
          have := (World.ownsRow.lt hown _ e9).1
          have := h7 a ha hl
          omega
        obtain ⟨h8, h9⟩ := keep od _ _ h5 hne
        have e1 : catL k L L2 i = L2 (i - k) := if_neg e
        have e2 : catG k G G2 i = G2 (i - k) := if_neg e
        rw [e1, e2]
        exact ⟨od, cp, by rw [List.getElem?_append_right (by omega), hlen]; exact h2, h3, h4, h8, h6, h9⟩
/-- An empty list of rows that was just made. -/
theorem RL.empty (w : World) (L : Nat → Nat) (G : Nat → Nat → Nat) : RL (w.alloc (.cells #[] 22)) w.heap.size (.slice (some ⟨w.heap.size, 0, none⟩) 0 0) 0 L G :=
  RL.made [] rfl (by unfold maxLen; omega) (Nat.le_refl _) (fun i hi => absurd hi (Nat.not_lt_zero _))
end Go.Proofs.YtcohllhmfghlfaaDoor
