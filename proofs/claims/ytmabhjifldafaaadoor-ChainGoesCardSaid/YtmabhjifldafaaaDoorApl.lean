/- append of rows under a guard; one row. -/
import Derived.Test.YtmabhjifldafaaaDoorRq4
namespace Go.Proofs.YtmabhjifldafaaaDoor
set_option linter.unusedVariables false
set_option linter.unusedSimpArgs false
open Go.RowKit

theorem LBx.own {W W' : World} {B b : Nat} {oa : Option Addr} {n : Nat} {L : Nat → Nat} {G : Nat → Nat → Nat} (h : LBx W B oa n L G) (hO : Own b W W') (hb : B ≤ b) (hn : ∀ a, oa = some a → a.block ≠ b) : LBx W' B oa n L G := fun i hi => by
  obtain ⟨c, off, od, cp, h1, h2, h3, h4, h5, h6, h7⟩ := h i hi
  exact ⟨c, off, od, cp, h1, hO.cell h2 (show c ≠ b from hn ⟨c, off, none⟩ h1), h3, h4.own hO (fun a ha hl => by have := h7 a ha hl; omega), h5, h6, h7⟩
theorem row_one {W w' : World} {B m cp : Nat} {od : Option Addr} {M : Nat → Nat} (hw : W.alloc (.cells #[.slice od m cp] 33) = w') (hB : Bytes W od m M) (hc : m ≤ cp) (hm : cp ≤ maxLen) (hno : od = none → m = 0) (hlt : ∀ a, od = some a → 0 < m → a.block < B) :
    LBx w' B (some ⟨W.heap.size, 0, none⟩) 1 (fun _ => m) (fun _ => M) := fun i hi => by
  obtain rfl : i = 0 := by omega
  subst hw
  exact ⟨W.heap.size, 0, od, cp, rfl, World.cell?_alloc_mark W #[.slice od m cp] 33 (0, 0) 0, hc, hB.later ((Below.refl _ _).alloc (Nat.le_refl _) _), hno, hm, hlt⟩
theorem LBs.xB {W : World} {oa : Option Addr} {n : Nat} {L : Nat → Nat} {G : Nat → Nat → Nat} {w : World} (h : LBs w oa n L G) (hb : Below w.heap.size w W) : LBx W w.heap.size oa n L G := (LBs.x h).later hb
theorem LBs.mono {W : World} {oa : Option Addr} {n m : Nat} {L : Nat → Nat} {G : Nat → Nat → Nat} (h : LBs W oa n L G) (hm : m ≤ n) : LBs W oa m L G := fun i hi => h i (by omega)
theorem step_appRsG {ops : Array Oper} {o : Oper} {a : Act} {K : Act → World → Prop} {Q : Exit → Act → World → Prop} {E : Prop} (hw : Region.wanted o (yielded ops a.tmps) = true) (s x : Operand)
    (ho : o.op = .call { callee := .builtin .append, args := #[s, x], argTypes := #[34, 34] })
    (base : Nat) (v : Value) (k q cq : Nat) (L L2 : Nat → Nat) (G G2 : Nat → Nat → Nat) (oa : Option Addr) (W : World) (hs : a.eval s = v) (h : RL W base v k L G) (hx : a.eval x = .slice oa q cq)
    (hA : LBx W base oa q L2 G2) (hno : oa = none → q = 0) (hn : k + q < 1000000000000) (hbase : base ≤ W.heap.size)
    (hk : ∀ v' w', RL w' base v' (k + q) (catL k L L2) (catG k G G2) → Below base W w' → W.grownBy w' v.ownBlock → K (a.put o.dst v') w') :
    if Region.wanted o (yielded ops a.tmps) = true then Oper.wp Tryd.prog o a W K Q else E := by
  rw [if_pos hw]
  obtain ⟨i0, hi, hz0, hz1, hz2⟩ := info_parts info_sl
  obtain ⟨xs, hown, hxs⟩ := h.x
  have hlen : xs.length = k := by have := hown.1; omega
  cases oa with
  | none =>
    obtain rfl := hno rfl
    have hr := append_nil_rows (c := cq) o.type hown
    unfold Oper.wp execOp
    simp only [ho, resolve, invoke, builtin, Sem.run_bind, Sem.run_pure, Result.andThen_ok, List.map_toArray, List.map_cons, List.map_nil, hs, hx, hr]
    refine hk _ _ ⟨xs, hown, fun i hi' => ?_⟩ (Below.refl _ _) ⟨rfl, rfl, rfl, Nat.le_refl _, fun _ _ _ => rfl⟩
    obtain ⟨od, cp, h1, h2, h3, h4, h5, h6⟩ := hxs i hi'
    have e1 : catL k L L2 i = L i := if_pos hi'
    have e2 : catG k G G2 i = G i := if_pos hi'
    rw [e1, e2]
    exact ⟨od, cp, h1, h2, h3, h4, h5, h6⟩
  | some ad =>
    obtain ⟨ys, hys⟩ : ∃ ys, (List.range q).map (fun j => (W.cell? (ad.add j)).getD undef) = ys := ⟨_, rfl⟩
    have hyl : ys.length = q := by rw [← hys]; simp
    have hyg : ∀ j, j < q → ∃ od cp, W.cell? (ad.add j) = some (.slice od (L2 j) cp) ∧ ys[j]? = some (.slice od (L2 j) cp) ∧ L2 j ≤ cp ∧ cp ≤ maxLen ∧ Bytes W od (L2 j) (G2 j) ∧ (od = none → L2 j = 0) ∧ (∀ a, od = some a → 0 < L2 j → a.block < base) := fun j hj => by
      obtain ⟨b, off, od, cp, h1, h2, h3, h4, h5, h6, h7⟩ := hA j hj
      cases h1
      have hc : W.cell? ((⟨b, off, none⟩ : Addr).add j) = some (.slice od (L2 j) cp) := by rw [Addr.add_mid]; exact h2
      refine ⟨od, cp, hc, ?_, h3, h6, h4, h5, h7⟩
      rw [← hys, List.getElem?_map, List.getElem?_range hj, Option.map_some, hc]; rfl
    have hnews : ∀ j u, ys[j]? = some u → W.cell? (ad.add j) = some u := fun j u hu => by
      have hj : j < q := by
        rcases Nat.lt_or_ge j q with h' | h'
        · exact h'
        · rw [List.getElem?_eq_none (by omega)] at hu; cases hu
      obtain ⟨od, cp, h1, h2, _⟩ := hyg j hj
      rw [h2] at hu; cases hu; exact h1
    have hone : ∀ u ∈ ys, u.oneCell' = true := fun u hu => by
      obtain ⟨j, hj, hju⟩ := List.getElem_of_mem hu
      obtain ⟨od, cp, h1, h2, _⟩ := hyg j (by omega)
      rw [List.getElem?_eq_getElem hj] at h2
      have := Option.some.inj h2
      rw [← hju, this]; rfl
    obtain ⟨v', w', hr, hown', hg, _, hob⟩ := run_append_own_at (P := Tryd.prog) W base 34 o.type 33 i0 (.slice none 0 0) 1 24 Tryd.underlying34 hi hz0 hz1 hz2 rfl (by decide) v k xs hown ad q cq ys (by rw [hyl, Nat.mul_one]) hnews hone (by unfold maxLen; omega) (by omega) hbase
    unfold Oper.wp execOp
    simp only [ho, resolve, invoke, builtin, Sem.run_bind, Sem.run_pure, Result.andThen_ok, List.map_toArray, List.map_cons, List.map_nil, hs, hx, hr]
    have hO := own_of_grown hg
    have hb : Below base W w' := below_gr (fun j hj => (World.ownsRow.lt hown j hj).1) hbase hg
    have keep : ∀ (od : Option Addr) (l : Nat) (g : Nat → Nat), Bytes W od l g → (∀ ad, od = some ad → 0 < l → v.ownBlock ≠ some ad.block) → Bytes w' od l g ∧ ∀ ad, od = some ad → 0 < l → v'.ownBlock ≠ some ad.block := fun od l g hB hne => by
      refine ⟨hB.own hO fun ad ha hl => ne_own (hB.lt ad ha hl) (hne ad ha hl), fun ad ha hl => ?_⟩
      rcases hob with e | e
      · rw [e]; exact hne ad ha hl
      · rw [e]; intro e2
        have h9 := hB.lt ad ha hl
        have e3 := Option.some.inj e2
        omega
    refine hk v' w' ⟨xs ++ ys, hown', fun i hi' => ?_⟩ hb hg
    by_cases e : i < k
    · obtain ⟨od', cp', h1, h2, h3, h4, h5, h6⟩ := hxs i e
      obtain ⟨h7, h8⟩ := keep od' (L i) (G i) h4 h6
      have e1 : catL k L L2 i = L i := if_pos e
      have e2 : catG k G G2 i = G i := if_pos e
      rw [e1, e2]
      exact ⟨od', cp', by rw [List.getElem?_append_left (by omega)]; exact h1, h2, h3, h7, h5, h8⟩
    · obtain ⟨od, cp, h1, h2, h3, h4, h5, h6, h7⟩ := hyg (i - k) (by omega)
      have hne : ∀ ad, od = some ad → 0 < L2 (i - k) → v.ownBlock ≠ some ad.block := fun a ha hl e9 => by
        have := (World.ownsRow.lt hown _ e9).1
        have := h7 a ha hl
        omega
      obtain ⟨h8, h9⟩ := keep od _ _ h5 hne
      have e1 : catL k L L2 i = L2 (i - k) := if_neg e
      have e2 : catG k G G2 i = G2 (i - k) := if_neg e
      rw [e1, e2]
      exact ⟨od, cp, by rw [List.getElem?_append_right (by omega), hlen]; exact h2, h3, h4, h8, h6, h9⟩
end Go.Proofs.YtmabhjifldafaaaDoor
