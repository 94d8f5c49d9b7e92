/- Rows of parts of our own, whose bytes lie in blocks that may be (a predicate P). -/
import Derived.Test.YtgiffaeckhhmpaaDoorSpA
namespace Go.Proofs.YtgiffaeckhhmpaaDoor
set_option linter.unusedVariables false
set_option linter.unusedSimpArgs false
open Go.RowKit

def IsP (P : Nat → Prop) (w : World) (C : List Value) (s : Sh) : Prop := ∃ oa cap, C = [.int .u8 (s.ix : Int), .int .u32 (s.gen : Int), .slice oa s.len cap] ∧ Bytes w oa s.len s.f ∧ (oa = none → s.len = 0) ∧ s.len ≤ cap ∧ cap ≤ maxLen ∧ ∀ a, oa = some a → 0 < s.len → P a.block
theorem IsP.later {P : Nat → Prop} {w w' : World} {C : List Value} {s : Sh} (h : IsP P w C s) (hb : Below w.heap.size w w') : IsP P w' C s := by
  obtain ⟨oa, cap, hC, hB, h1, h2⟩ := h
  exact ⟨oa, cap, hC, hB.later hb, h1, h2⟩
theorem IsP.own {P : Nat → Prop} {b : Nat} {w w' : World} {C : List Value} {s : Sh} (h : IsP P w C s) (hO : Own b w w') (hP : ∀ q, P q → q ≠ b) : IsP P w' C s := by
  obtain ⟨oa, cap, hC, hB, h1, h2, h3, h4⟩ := h
  exact ⟨oa, cap, hC, hB.own hO (fun hl a ha => hP _ (h4 a ha hl)), h1, h2, h3, h4⟩
theorem IsP.weak {P Q : Nat → Prop} {w : World} {C : List Value} {s : Sh} (h : IsP P w C s) (hPQ : ∀ q, q < w.heap.size → P q → Q q) : IsP Q w C s := by
  obtain ⟨oa, cap, hC, hB, h1, h2, h3, h4⟩ := h
  exact ⟨oa, cap, hC, hB, h1, h2, h3, fun a ha hl => hPQ _ (by obtain ⟨_, b, off, e, hc⟩ := hB 0 hl; rw [ha] at e; cases e; exact World.block_lt_of_cell? w _ hc) (h4 a ha hl)⟩
theorem IsSh.isP {P : Nat → Prop} {tb : Nat} {w : World} {C : List Value} {s : Sh} (h : IsSh tb w C s) (hP : ∀ q, q < w.heap.size → q ≠ tb → P q) : IsP P w C s := by
  obtain ⟨oa, cap, hC, hB, h1, h2, h3, h4⟩ := h
  exact ⟨oa, cap, hC, hB, h1, h2, h3, fun a ha hl => hP _ (by obtain ⟨_, b, off, e, hc⟩ := hB 0 hl; rw [ha] at e; cases e; exact World.block_lt_of_cell? w _ hc) (h4 hl a ha)⟩
theorem IsP.isSh {P : Nat → Prop} {tb : Nat} {w : World} {C : List Value} {s : Sh} (h : IsP P w C s) (hP : ∀ q, P q → q ≠ tb) : IsSh tb w C s := by
  obtain ⟨oa, cap, hC, hB, h1, h2, h3, h4⟩ := h
  exact ⟨oa, cap, hC, hB, h1, h2, h3, fun hl a ha => hP _ (h4 a ha hl)⟩
theorem IsP.len {P : Nat → Prop} {w : World} {C : List Value} {s : Sh} (h : IsP P w C s) : C.length = 3 := by obtain ⟨_, _, rfl, _⟩ := h; rfl
theorem IsP.one {P : Nat → Prop} {w : World} {C : List Value} {s : Sh} (h : IsP P w C s) : ∀ u ∈ C, u.oneCell' = true := by
  obtain ⟨_, _, rfl, _⟩ := h
  intro u hu
  simp at hu
  rcases hu with rfl | rfl | rfl <;> rfl
theorem IsP.grown {P : Nat → Prop} {w w' : World} {C : List Value} {s : Sh} {row : Option Nat} (h : IsP P w C s) (hg : w.grownBy w' row) (ha : ∀ a l cp, Value.slice (some a) l cp ∈ C → 0 < l → row ≠ some a.block) : IsP P w' C s := by
  obtain ⟨oa, cap, rfl, hB, hr⟩ := h
  exact ⟨oa, cap, rfl, hB.grown hg (fun a e hl => ha a s.len cap (by subst e; simp) hl), hr⟩
theorem IsP.old {P : Nat → Prop} {w : World} {C : List Value} {s : Sh} (h : IsP P w C s) : ∀ a l cp, Value.slice (some a) l cp ∈ C → 0 < l → a.block < w.heap.size := fun a l cp hm hl => by
  obtain ⟨oa, cap, rfl, hB, _⟩ := h
  simp at hm
  obtain ⟨rfl, rfl, rfl⟩ := hm
  obtain ⟨_, b, off, e, hc⟩ := hB 0 hl
  cases e; exact World.block_lt_of_cell? w _ hc
/-- Nothing leads into a row of new blocks. -/
theorem IsP.away {P : Nat → Prop} {w : World} {C : List Value} {s : Sh} {v : Value} (h : IsP P w C s) (hv : ∀ q, v.ownBlock = some q → w.heap.size ≤ q) : Away v C := fun a l cp hm hl e => by
  have h1 := h.old a l cp hm hl
  have h2 := hv _ e
  omega
/-- n parts of our own, from a block on. -/
def GP (T : TypeId) (P : Nat → Prop) (w : World) (base : Nat) (v : Value) (n : Nat) (S : Nat → Sh) : Prop := ∃ C, w.ownsRow base T 3 v n (rws n C) ∧ ∀ i, i < n → IsP P w (C i) (S i) ∧ Away v (C i)
theorem GP.nil (T : TypeId) (P : Nat → Prop) (w : World) (base : Nat) (S : Nat → Sh) : GP T P w base (.slice none 0 0) 0 S := ⟨fun _ => [], World.ownsRow_nil w base _ 3, fun i hi => absurd hi (Nat.not_lt_zero _)⟩
theorem GP.empty {T : TypeId} {P : Nat → Prop} {w : World} {base g : Nat} (h : Blk w g #[] T) (hb : base ≤ g) (S : Nat → Sh) : GP T P w base (.slice (some ⟨g, 0, none⟩) 0 0) 0 S :=
  ⟨fun _ => [], ⟨rfl, .inr ⟨g, 0, #[], rfl, hb, h, Nat.le_refl _, by unfold maxLen; omega, rfl, rfl⟩⟩, fun i hi => absurd hi (Nat.not_lt_zero _)⟩
theorem GP.later {T : TypeId} {P : Nat → Prop} {w w' : World} {base n : Nat} {v : Value} {S : Nat → Sh} (h : GP T P w base v n S) (hb : Below w.heap.size w w') : GP T P w' base v n S := by
  obtain ⟨C, h1, h2⟩ := h
  exact ⟨C, owns_later h1 hb, fun i hi => ⟨(h2 i hi).1.later hb, (h2 i hi).2⟩⟩
theorem GP.congr {T : TypeId} {P : Nat → Prop} {w : World} {base n : Nat} {v : Value} {S S' : Nat → Sh} (h : GP T P w base v n S) (he : ∀ i, i < n → S i = S' i) : GP T P w base v n S' := by
  obtain ⟨C, h1, h2⟩ := h
  exact ⟨C, h1, fun i hi => by rw [← he i hi]; exact h2 i hi⟩
theorem GP.block {T : TypeId} {P : Nat → Prop} {w : World} {base n : Nat} {v : Value} {S : Nat → Sh} (h : GP T P w base v n S) : ∀ q, v.ownBlock = some q → base ≤ q ∧ q < w.heap.size := by
  obtain ⟨C, h1, _⟩ := h
  intro q hq
  rcases h1.2 with ⟨rfl, _⟩ | ⟨g, cap, cur, rfl, hb, hh, _⟩
  · simp [Value.ownBlock] at hq
  · simp [Value.ownBlock] at hq; subst hq; exact ⟨hb, lt_of_block hh⟩
theorem GP.own {T : TypeId} {P : Nat → Prop} {w w' : World} {base n b : Nat} {v : Value} {S : Nat → Sh} (h : GP T P w base v n S) (hO : Own b w w') (hP : ∀ q, P q → q ≠ b) (hb : b < base) : GP T P w' base v n S := by
  have hbl := h.block
  obtain ⟨C, h1, h2⟩ := h
  refine ⟨C, ⟨h1.1, ?_⟩, fun i hi => ⟨(h2 i hi).1.own hO hP, (h2 i hi).2⟩⟩
  rcases h1.2 with h3 | ⟨g, cap, cur, hv, hb', hh, r⟩
  · exact .inl h3
  · exact .inr ⟨g, cap, cur, hv, hb', hO.blk hh (by omega), r⟩
theorem GP.shs {T : TypeId} {P : Nat → Prop} {tb : Nat} {w : World} {base n : Nat} {v : Value} {S : Nat → Sh} (h : GP T P w base v n S) (hP : ∀ q, P q → q ≠ tb) (hb : tb < base ∨ w.heap.size ≤ tb) : ∃ oa cap, v = .slice oa n cap ∧ n ≤ cap ∧ cap ≤ maxLen ∧ (oa = none → n = 0) ∧ (∀ a, oa = some a → base ≤ a.block) ∧ Shs tb w oa n S := by
  have hbk := h.block
  obtain ⟨C, h1, h2⟩ := h
  obtain ⟨oa, cap, hv, hnc, hm, hbl, hc⟩ := rws_cells h1 fun i hi => (h2 i hi).1.len
  refine ⟨oa, cap, hv, hnc, hm, fun e => ?_, fun a ha => (hbk a.block (by rw [hv, ha]; rfl)).1, fun i hi => ?_⟩
  · rcases h1.2 with ⟨_, h0⟩ | ⟨g, cp, cur, e1, _⟩
    · exact h0
    · rw [hv, e] at e1; cases e1
  obtain ⟨b, off, e, h0, _⟩ := hc i 0 hi (by decide)
  obtain ⟨g, e2, hg1, hg2⟩ := hbl _ e
  cases e2
  refine ⟨b, 0, C i, by rw [e, h0], by omega, (h2 i hi).1.isSh hP, fun j hj => ?_⟩
  obtain ⟨b', off', e3, h0', h5⟩ := hc i j hi hj
  rw [e] at e3; cases e3
  rw [h0'] at h5; exact h5
def catL (n : Nat) (C D : Nat → List Value) : Nat → List Value := fun i => if i < n then C i else D (i - n)
def catSh (n : Nat) (C D : Nat → Sh) : Nat → Sh := fun i => if i < n then C i else D (i - n)
theorem rws_catL (n m : Nat) (C D : Nat → List Value) : rws (n + m) (catL n C D) = rws n C ++ rws m D := by
  induction m with
  | zero => rw [rws_zero, List.append_nil, Nat.add_zero]; exact rws_congr fun i hi => by unfold catL; rw [if_pos hi]
  | succ m ih => rw [← Nat.add_assoc, rws_succ, rws_succ, ih, ← List.append_assoc]; congr 1; unfold catL; rw [if_neg (by omega), Nat.add_sub_cancel_left]
theorem rws_allOne {C : Nat → List Value} : ∀ {n : Nat}, (∀ i, i < n → ∀ v ∈ C i, v.oneCell' = true) → ∀ v ∈ rws n C, v.oneCell' = true
  | 0, _, v, hv => by rw [rws_zero] at hv; cases hv
  | n + 1, h, v, hv => by
    rw [rws_succ] at hv
    rcases List.mem_append.1 hv with h1 | h1
    · exact rws_allOne (fun i hi => h i (by omega)) v h1
    · exact h n (by omega) v h1
/-- Parts that lie behind an address, and lead into no row v of our own. -/
def ShP (P : Nat → Prop) (v : Value) (w : World) (oa : Option Addr) (n : Nat) (S : Nat → Sh) : Prop := ∀ i, i < n → ∃ b off C, oa = some ⟨b, off, none⟩ ∧ IsP P w C (S i) ∧ Away v C ∧ ∀ j, j < 3 → w.cell? ⟨b, off + i * 3 + j, none⟩ = C[j]?
theorem Shs.shP {P : Nat → Prop} {tb : Nat} {v : Value} {w0 w : World} {oa : Option Addr} {n : Nat} {S : Nat → Sh} (h : Shs tb w0 oa n S) (hb : Below w0.heap.size w0 w) (hv : ∀ q, v.ownBlock = some q → w0.heap.size ≤ q) (hP : ∀ q, q < w0.heap.size → q ≠ tb → P q) : ShP P v w oa n S := fun i hi => by
  obtain ⟨b, off, C, h1, hne, h2, h3⟩ := h i hi
  have h9 := h2.isP hP
  refine ⟨b, off, C, h1, h9.later hb, h9.away hv, fun j hj => ?_⟩
  obtain ⟨oa', cap, rfl, _⟩ := h2
  match j, hj with
  | 0, _ => exact cell_below hb (h3 0 (by omega))
  | 1, _ => exact cell_below hb (h3 1 (by omega))
  | 2, _ => exact cell_below hb (h3 2 (by omega))
theorem ShP.one {P : Nat → Prop} {v : Value} {w : World} {H : Nat} {c : List Value} {s : Sh} {T : TypeId} (h : IsP P w c s) (ha : Away v c) (hB : Blk w H c.toArray T) : ShP P v w (some ⟨H, 0, none⟩) 1 (fun _ => s) := fun i hi => ⟨H, 0, c, rfl, h, ha, fun j hj => by
  obtain rfl : i = 0 := by omega
  simp only [Nat.zero_mul, Nat.zero_add]
  rw [Blk.cell hB, List.getElem?_toArray]⟩
theorem appNil_G {T TS : TypeId} {z : Value} (hU : Tryd.prog.underlying TS = some (.slice T)) (hI : (Tryd.prog.info? T).map (fun i => (i.zero, i.size, i.bytes)) = some (some z, 3, 32)) {w : World} {base n c : Nat} {v : Value} {xs : List Value} (ty : TypeId) (hown : w.ownsRow base T 3 v n xs) :
    (Builtin.append_ #[TS, TS] ty #[v, .slice none 0 c]).run Tryd.prog w = .ok v w := by
  obtain ⟨i0, hi, _, _, _⟩ := info_parts hI
  rcases hown.2 with ⟨rfl, rfl⟩ | ⟨g, cap, cur, rfl, _, _, hnc, _⟩
  · simp [Builtin.append_, run_underlying hU, sizeOf, typeInfo, hi, Builtin.lenOf, Builtin.firstCells]
  · simp [Builtin.append_, run_underlying hU, sizeOf, typeInfo, hi, Builtin.lenOf, Builtin.firstCells, hnc, storeCells]
theorem shp_news {w : World} {b off n : Nat} {C : Nat → List Value} (hk : ∀ i, i < n → (C i).length = 3) (h : ∀ i j, i < n → j < 3 → w.cell? ⟨b, off + i * 3 + j, none⟩ = (C i)[j]?) : ∀ j u, (rws n C)[j]? = some u → w.cell? ((⟨b, off, none⟩ : Addr).add j) = some u := fun j u hu => by
  have hl : (rws n C).length = n * 3 := rws_len hk
  have hj : j < n * 3 := by
    rcases Nat.lt_or_ge j (n * 3) with h' | h'
    · exact h'
    · rw [List.getElem?_eq_none (by omega)] at hu; cases hu
  have hi : j / 3 < n := Nat.div_lt_of_lt_mul (by omega)
  have hr : j % 3 < 3 := Nat.mod_lt _ (by decide)
  have he : j / 3 * 3 + j % 3 = j := by omega
  have h5 := rws_get hk hi hr
  rw [he, hu] at h5
  have h6 := h (j / 3) (j % 3) hi hr
  rw [Addr.add_mid]
  rw [Nat.add_assoc, he] at h6
  rw [h6, ← h5]
/-- append of parts that lie anywhere, onto a row of our own. -/
theorem run_app_GP {T TS : TypeId} {z : Value} (hU : Tryd.prog.underlying TS = some (.slice T)) (hI : (Tryd.prog.info? T).map (fun i => (i.zero, i.size, i.bytes)) = some (some z, 3, 32)) (hz3 : z.cells.size = 3)
    (ty : TypeId) (P : Nat → Prop) (base : Nat) (v : Value) (n q cq : Nat) (S S2 : Nat → Sh) (oa : Option Addr) (W : World) (hG : GP T P W base v n S) (hA : ShP P v W oa q S2) (hno : oa = none → q = 0)
    (hn : n + q < 1000000) (hbase : base ≤ W.heap.size) :
    ∃ v' w', (Builtin.append_ #[TS, TS] ty #[v, .slice oa q cq]).run Tryd.prog W = .ok v' w' ∧ GP T P w' base v' (n + q) (catSh n S S2) ∧ Below base W w' ∧ W.grownBy w' v.ownBlock := by
  obtain ⟨i0, hi, hz0, hz1, hz2⟩ := info_parts hI
  have hbk := hG.block
  obtain ⟨C, hown, hC⟩ := hG
  have hrefl : W.grownBy W v.ownBlock := ⟨rfl, rfl, rfl, Nat.le_refl _, fun _ _ _ => rfl⟩
  have fin : ∀ (D : Nat → List Value) v' w', (∀ i, i < q → IsP P W (D i) (S2 i) ∧ Away v (D i)) → w'.ownsRow base T 3 v' (n + q) (rws n C ++ rws q D) → W.grownBy w' v.ownBlock → (v'.ownBlock = v.ownBlock ∨ v'.ownBlock = some W.heap.size) → GP T P w' base v' (n + q) (catSh n S S2) := fun D v' w' hD hown' hg hat => by
    have haw' : ∀ d : List Value, Away v d → (∀ a l cp, Value.slice (some a) l cp ∈ d → 0 < l → a.block < W.heap.size) → Away v' d := fun d h1 h2 a l cp hm hl => by
      rcases hat with e | e
      · rw [e]; exact h1 a l cp hm hl
      · rw [e]; have := h2 a l cp hm hl; simp; omega
    refine ⟨catL n C D, by rw [rws_catL]; exact hown', fun i hi => ?_⟩
    unfold catL catSh
    by_cases e : i < n
    · rw [if_pos e, if_pos e]
      have h1 := hC i e
      exact ⟨h1.1.grown hg h1.2, haw' _ h1.2 h1.1.old⟩
    · rw [if_neg e, if_neg e]
      have h1 := hD (i - n) (by omega)
      exact ⟨h1.1.grown hg h1.2, haw' _ h1.2 h1.1.old⟩
  cases oa with
  | none =>
    obtain rfl := hno rfl
    exact ⟨v, W, appNil_G hU hI (c := cq) ty hown, fin (fun _ => []) v W (fun i hi => absurd hi (Nat.not_lt_zero _)) (by rw [rws_zero, List.append_nil]; exact hown) hrefl (.inl rfl), Below.refl _ _, hrefl⟩
  | some ad =>
    by_cases h0 : q = 0
    · subst h0
      obtain ⟨v', w', hr, hown', hg, _, hob⟩ := run_append_own_at (P := Tryd.prog) W base TS ty T i0 z 3 32 hU hi hz0 hz1 hz2 hz3 (by decide) v n (rws n C) hown ad 0 cq [] rfl
        (fun j u hu => by simp at hu) (fun u hu => by cases hu) (by unfold maxLen; omega) (by omega) hbase
      exact ⟨v', w', hr, fin (fun _ => []) v' w' (fun i hi => absurd hi (Nat.not_lt_zero _)) (by rw [rws_zero]; exact hown') hg hob, (Below.refl base W).grown hg hbase (fun k hk => (hbk k hk).1), hg⟩
    · obtain ⟨b, off, _, e1, _⟩ := hA 0 (by omega)
      have hch : ∀ i, ∃ D, i < q → (IsP P W D (S2 i) ∧ Away v D ∧ ∀ j, j < 3 → W.cell? ⟨b, off + i * 3 + j, none⟩ = D[j]?) := fun i => by
        by_cases hi : i < q
        · obtain ⟨b', off', D, e2, h1, h2, h3⟩ := hA i hi
          rw [e1] at e2; cases e2
          exact ⟨D, fun _ => ⟨h1, h2, h3⟩⟩
        · exact ⟨[], fun h => absurd h hi⟩
      obtain ⟨D, hD⟩ := Classical.axiomOfChoice hch
      cases e1
      obtain ⟨v', w', hr, hown', hg, _, hob⟩ := run_append_own_at (P := Tryd.prog) W base TS ty T i0 z 3 32 hU hi hz0 hz1 hz2 hz3 (by decide) v n (rws n C) hown ⟨b, off, none⟩ q cq (rws q D) (rws_len fun i hi => (hD i hi).1.len)
        (shp_news (fun i hi => (hD i hi).1.len) fun i j hi hj => (hD i hi).2.2 j hj) (rws_allOne fun i hi => (hD i hi).1.one) (by unfold maxLen; omega) (by omega) hbase
      exact ⟨v', w', hr, fin D v' w' (fun i hi => ⟨(hD i hi).1, (hD i hi).2.1⟩) hown' hg hob, (Below.refl base W).grown hg hbase (fun k hk => (hbk k hk).1), hg⟩
theorem app_GP {T TS : TypeId} {z : Value} (hU : Tryd.prog.underlying TS = some (.slice T)) (hI : (Tryd.prog.info? T).map (fun i => (i.zero, i.size, i.bytes)) = some (some z, 3, 32)) (hz3 : z.cells.size = 3)
    {ops : Array Oper} {rest : List Oper} {o : Oper} {a : Act} {Q : Exit → Act → World → Prop} (hgd : o.guard = none) (s x : Operand)
    (ho : o.op = .call { callee := .builtin .append, args := #[s, x], argTypes := #[TS, TS] })
    (P : Nat → Prop) (base : Nat) (v : Value) (n q cq : Nat) (S S2 : Nat → Sh) (oa : Option Addr) (W : World) (hs : a.eval s = v) (hG : GP T P W base v n S) (hx : a.eval x = .slice oa q cq) (hA : ShP P v W oa q S2) (hno : oa = none → q = 0)
    (hn : n + q < 1000000) (hbase : base ≤ W.heap.size)
    (h : ∀ v' w', GP T P w' base v' (n + q) (catSh n S S2) → Below base W w' → W.grownBy w' v.ownBlock → wpList Tryd.prog ops Q rest (a.put o.dst v') w') :
    wpList Tryd.prog ops Q (o :: rest) a W := by
  obtain ⟨v', w', hr, h1, h2, h3⟩ := run_app_GP hU hI hz3 o.type P base v n q cq S S2 oa W hG hA hno hn hbase
  refine wpList_plain hgd fun K hK => ?_
  unfold Oper.wp execOp
  simp only [ho, resolve, invoke, builtin, Sem.run_bind, Sem.run_pure, Result.andThen_ok, List.map_toArray, List.map_cons, List.map_nil, hs, hx, hr]
  exact hK _ _ (h v' w' h1 h2 h3)
theorem step_GP {T TS : TypeId} {z : Value} (hU : Tryd.prog.underlying TS = some (.slice T)) (hI : (Tryd.prog.info? T).map (fun i => (i.zero, i.size, i.bytes)) = some (some z, 3, 32)) (hz3 : z.cells.size = 3)
    {ops : Array Oper} {o : Oper} {a : Act} {K : Act → World → Prop} {Q : Exit → Act → World → Prop} {E : Prop} (hgd : o.guard = none) (s x : Operand)
    (ho : o.op = .call { callee := .builtin .append, args := #[s, x], argTypes := #[TS, TS] })
    (P : Nat → Prop) (base : Nat) (v : Value) (n q cq : Nat) (S S2 : Nat → Sh) (oa : Option Addr) (W : World) (hs : a.eval s = v) (hG : GP T P W base v n S) (hx : a.eval x = .slice oa q cq) (hA : ShP P v W oa q S2) (hno : oa = none → q = 0)
    (hn : n + q < 1000000) (hbase : base ≤ W.heap.size)
    (h : ∀ v' w', GP T P w' base v' (n + q) (catSh n S S2) → Below base W w' → W.grownBy w' v.ownBlock → K (a.put o.dst v') w') :
    if Region.wanted o (yielded ops a.tmps) = true then Oper.wp Tryd.prog o a W K Q else E := by
  have hw : Region.wanted o (yielded ops a.tmps) = true := by simp [Region.wanted, hgd]
  obtain ⟨v', w', hr, h1, h2, h3⟩ := run_app_GP hU hI hz3 o.type P base v n q cq S S2 oa W hG hA hno hn hbase
  rw [if_pos hw]
  unfold Oper.wp execOp
  simp only [ho, resolve, invoke, builtin, Sem.run_bind, Sem.run_pure, Result.andThen_ok, List.map_toArray, List.map_cons, List.map_nil, hs, hx, hr]
  exact h v' w' h1 h2 h3
end Go.Proofs.YtgiffaeckhhmpaaDoor
