/- What EngineKeeps has in memory: rows of strings of the call's own, the states, the secret; plain laws. -/
import Derived.Test.YtkaddilgegimjaaDoorEsI
import Derived.Test.YtkaddilgegimjaaDoorEn3
namespace Go.Proofs.YtkaddilgegimjaaDoor
set_option linter.unusedVariables false
set_option linter.unusedSimpArgs false
open Go.RowKit

theorem info_str : (Tryd.prog.info? 9).map (fun i => (i.zero, i.size, i.bytes)) = some (some (.string ⟨#[]⟩), 1, 16) := by kernel_rfl

/-- d strings of the call's own; whatever lies in their block is a string. -/
def DS (w : World) (base : Nat) (dv : Value) (d : Nat) (D : Nat → ByteArray) : Prop := (dv = .slice none 0 0 ∧ d = 0) ∨
  ∃ g cap cur, dv = .slice (some ⟨g, 0, none⟩) d cap ∧ base ≤ g ∧ w.heap[g]? = some (.cells cur 9 (0, 0)) ∧ d ≤ cap ∧ cap ≤ maxLen ∧ cur.size = cap ∧ (∀ j, j < d → cur[j]? = some (.string (D j))) ∧ ∀ (j : Nat) (u : Value), cur[j]? = some u → ∃ s, u = Value.string s
theorem DS.slice {w : World} {base d : Nat} {dv : Value} {D : Nat → ByteArray} (h : DS w base dv d D) : ∃ o cap, dv = .slice o d cap := by
  rcases h with ⟨rfl, rfl⟩ | ⟨g, cap, cur, rfl, _⟩
  · exact ⟨none, 0, rfl⟩
  · exact ⟨_, cap, rfl⟩
theorem DS.kept {w w' : World} {base d : Nat} {dv : Value} {D : Nat → ByteArray} (h : DS w base dv d D) (hb : ∀ g, dv.ownBlock = some g → g < w.heap.size → w'.heap[g]? = w.heap[g]?) : DS w' base dv d D := by
  rcases h with h | ⟨g, cap, cur, hv, hg, hh, r⟩
  · exact .inl h
  · exact .inr ⟨g, cap, cur, hv, hg, by rw [hb g (by rw [hv]; rfl) (lt_of_block hh)]; exact hh, r⟩
theorem DS.later {w w' : World} {base d : Nat} {dv : Value} {D : Nat → ByteArray} (h : DS w base dv d D) (hb : Below w.heap.size w w') : DS w' base dv d D := h.kept fun g _ hg => hb.block g hg
theorem DS.own {w w' : World} {base d b : Nat} {dv : Value} {D : Nat → ByteArray} (h : DS w base dv d D) (hO : Own b w w') (hb : dv.ownBlock ≠ some b) : DS w' base dv d D := h.kept fun g hg hl => hO.block g hl (fun e => hb (e ▸ hg))
theorem DS.ownb {w : World} {base d : Nat} {dv : Value} {D : Nat → ByteArray} (h : DS w base dv d D) : ∀ q, dv.ownBlock = some q → base ≤ q ∧ q < w.heap.size := fun q hq => by
  rcases h with ⟨rfl, _⟩ | ⟨g, cap, cur, rfl, hg, hh, _⟩
  · cases hq
  · cases hq; exact ⟨hg, lt_of_block hh⟩
theorem DS.get {w : World} {base d : Nat} {dv : Value} {D : Nat → ByteArray} (h : DS w base dv d D) (j : Nat) (hj : j < d) : ∃ g cap, dv = .slice (some ⟨g, 0, none⟩) d cap ∧ w.cell? ⟨g, j, none⟩ = some (.string (D j)) := by
  rcases h with ⟨_, rfl⟩ | ⟨g, cap, cur, rfl, _, hh, _, _, _, hc, _⟩
  · omega
  · exact ⟨g, cap, rfl, by simp [World.cell?, hh, hc j hj]⟩
/-- No bytes lie in the strings' block. -/
theorem DS.away {w : World} {base d len : Nat} {dv : Value} {D : Nat → ByteArray} {a : Addr} {f : Nat → Nat} (h : DS w base dv d D) (hB : Bytes w (some a) len f) (hl : 0 < len) : dv.ownBlock ≠ some a.block := fun e => by
  rcases h with ⟨rfl, _⟩ | ⟨g, cap, cur, rfl, _, hh, _, _, _, _, hs⟩
  · cases e
  · obtain ⟨_, b, off, ha, hc⟩ := hB 0 hl
    cases ha
    have hg : g = b := by simpa [Value.ownBlock] using e
    subst hg
    have hc' : cur[off + 0]? = some (.int .u8 (f 0 : Nat)) := by simpa [World.cell?, hh] using hc
    obtain ⟨s, hs'⟩ := hs _ _ hc'
    cases hs'

/-- Strings, one more behind them. -/
def addD (D : Nat → ByteArray) (d : Nat) (x : ByteArray) : Nat → ByteArray := fun j => if j = d then x else D j

theorem run_appS {w : World} {base d : Nat} {dv : Value} {D : Nat → ByteArray} (hD : DS w base dv d D) (ty : TypeId) (x : ByteArray) (a : Addr) (c : Nat) (ha : ∀ j u, [Value.string x][j]? = some u → w.cell? (a.add j) = some u) (hd : d ≤ 1000) (hbase : base ≤ w.heap.size) :
    ∃ dv' w', (Builtin.append_ #[105, 105] ty #[dv, .slice (some a) 1 c]).run Tryd.prog w = .ok dv' w' ∧ DS w' base dv' (d + 1) (addD D d x) ∧ w.grownBy w' dv.ownBlock ∧ (dv'.ownBlock = dv.ownBlock ∨ dv'.ownBlock = some w.heap.size) := by
  obtain ⟨i0, hi, hz0, hz1, hz2⟩ := info_parts info_str
  have hu := Tryd.underlying105
  have hz : ∀ (n j : Nat) (u : Value), (Builtin.zeroCells (Value.string ⟨#[]⟩).cells n)[j]? = some u → ∃ s, u = Value.string s := fun n j u h => by
    have hm : u ∈ (Builtin.zeroCells (Value.string ⟨#[]⟩).cells n) := Array.mem_of_getElem? h
    simp [Builtin.zeroCells, Value.cells] at hm
    obtain ⟨q, _, hq⟩ := hm
    rw [Nat.mod_one] at hq
    exact ⟨_, hq.symm⟩
  rcases hD with ⟨rfl, rfl⟩ | ⟨g, cap, cur, rfl, hbg, hg, hnc, hcm, hcs, hat, hall⟩
  · have hr := run_append_nil (P := Tryd.prog) w 105 ty 9 i0 _ hu hi hz0 a 1 c [.string x] (by rw [hz1]; rfl) ha (by omega) (by omega) (by rw [hz2]; omega)
    have hge := grownCap_ge w 1 0 9
    refine ⟨_, _, hr, .inr ⟨w.heap.size, _, _, rfl, hbase, heap_alloc_new w.drew _, hge, grownCap_le_maxLen w 1 0 9 (by unfold maxLen; omega), ?_, ?_, ?_⟩, ⟨rfl, rfl, rfl, by simp, fun k hk _ => Below.heap_alloc w.drew _ k hk⟩, .inr rfl⟩
    · simp only [Array.size_append, List.size_toArray, size_zeroCells]
      simp [Value.cells]; omega
    · intro j hj
      obtain rfl : j = 0 := by omega
      rw [Array.getElem?_append_left (by simp)]
      simp [addD]
    · intro j u h
      match j, h with
      | 0, h =>
        rw [Array.getElem?_append_left (by simp)] at h
        simp at h; exact ⟨x, h.symm⟩
      | j + 1, h =>
        rw [Array.getElem?_append_right (by simp)] at h
        exact hz _ _ _ h
  · by_cases hroom : d + 1 ≤ cap
    · have hr := run_append_room (P := Tryd.prog) w 105 ty 9 i0 hu hi g d cap cur hg a 1 c [.string x] (by rw [hz1]; rfl) ha (by simp [Value.oneCell']) hroom (by rw [hz1]; simp; omega)
      rw [hz1, Nat.mul_one] at hr
      have hl : d < cur.size := by omega
      have hrow : (cur.toList.take d ++ [Value.string x] ++ cur.toList.drop (d + [Value.string x].length)).toArray = cur.setIfInBounds d (.string x) := by
        apply Array.ext'
        simp only [Array.toList_setIfInBounds, List.length_cons, List.length_nil]
        rw [List.set_eq_take_append_cons_drop, if_pos (by simpa using hl)]
        simp
      rw [hrow] at hr
      refine ⟨_, _, hr, .inr ⟨g, cap, _, rfl, hbg, setRow_heap w g cur _ _ _ hg, hroom, hcm, by simpa using hcs, ?_, ?_⟩, ⟨rfl, rfl, rfl, by simp, fun k _ hk => setRow_other w g k _ (fun e => hk (by simp [Value.ownBlock, e]))⟩, .inl rfl⟩
      · intro j hj
        unfold addD
        by_cases e : j = d
        · subst e; simp [hl]
        · rw [if_neg e, Array.getElem?_setIfInBounds_ne (Ne.symm e)]; exact hat j (by omega)
      · intro j u h
        by_cases e : j = d
        · subst e; simp [hl] at h; exact ⟨x, h.symm⟩
        · rw [Array.getElem?_setIfInBounds_ne (Ne.symm e)] at h; exact hall j u h
    · have holds : ∀ j u, ((List.range d).map fun j => Value.string (D j))[j]? = some u → w.cell? ((⟨g, 0, none⟩ : Addr).add j) = some u := fun j u h => by
        have hj : j < d := by
          have := (List.getElem?_eq_some_iff.1 h).1
          simpa using this
        have ha' : (Addr.mk g 0 none).add j = ⟨g, j, none⟩ := by
          unfold Addr.add; split
          · rename_i hk0; subst hk0; rfl
          · simp
        rw [ha']
        simp [hj] at h
        subst h
        simp [World.cell?, hg, hat j hj]
      have hr := run_append_grow (P := Tryd.prog) w 105 ty 9 i0 _ hu hi hz0 ⟨g, 0, none⟩ d cap ((List.range d).map fun j => Value.string (D j)) (by rw [hz1]; simp) holds a 1 c [.string x] (by rw [hz1]; rfl) ha (by omega) (by omega) (growslice_fits (by omega) (by rw [hz2]; omega))
      have hge := grownCap_ge w (d + 1) cap 9
      refine ⟨_, _, hr, .inr ⟨w.heap.size, _, _, rfl, hbase, heap_alloc_new w.drew _, hge, grownCap_le_maxLen w (d + 1) cap 9 (by unfold maxLen; omega), ?_, ?_, ?_⟩, ⟨rfl, rfl, rfl, by simp, fun k hk _ => Below.heap_alloc w.drew _ k hk⟩, .inr rfl⟩
      · simp only [Array.size_append, List.size_toArray, size_zeroCells]
        simp [Value.cells]; omega
      · intro j hj
        unfold addD
        rw [Array.getElem?_append_left (by simp; omega)]
        by_cases e : j = d
        · subst e; simp
        · rw [if_neg e, Array.getElem?_append_left (by simp; omega)]
          simp [show j < d by omega]
      · intro j u h
        by_cases hj : j < d + 1
        · rw [Array.getElem?_append_left (by simp; omega)] at h
          by_cases e : j = d
          · subst e; simp at h; exact ⟨x, h.symm⟩
          · rw [Array.getElem?_append_left (by simp; omega)] at h
            simp [show j < d by omega] at h
            exact ⟨_, h.symm⟩
        · rw [Array.getElem?_append_right (by simp; omega)] at h
          exact hz _ _ _ h
theorem wpList_appS {ops : Array Oper} {rest : List Oper} {o : Oper} {a : Act} {Q : Exit → Act → World → Prop} {w : World} (hgd : o.guard = none) (s x : Operand)
    (ho : o.op = .call { callee := .builtin .append, args := #[s, x], argTypes := #[105, 105] })
    (base : Nat) (dv : Value) (d : Nat) (D : Nat → ByteArray) (y : ByteArray) (hs : a.eval s = dv) (hD : DS w base dv d D)
    (ad : Addr) (c : Nat) (hx : a.eval x = .slice (some ad) 1 c) (hnews : ∀ j u, [Value.string y][j]? = some u → w.cell? (ad.add j) = some u)
    (hd : d ≤ 1000) (hbase : base ≤ w.heap.size)
    (h : ∀ dv' w', DS w' base dv' (d + 1) (addD D d y) → w.grownBy w' dv.ownBlock → (dv'.ownBlock = dv.ownBlock ∨ dv'.ownBlock = some w.heap.size) → wpList Tryd.prog ops Q rest (a.put o.dst dv') w') :
    wpList Tryd.prog ops Q (o :: rest) a w := by
  refine wpList_plain hgd fun K hK => ?_
  obtain ⟨v', w', hr, h2, h3, h4⟩ := run_appS hD o.type y ad c hnews hd hbase
  unfold Oper.wp execOp
  simp only [ho, resolve, invoke, builtin, Sem.run_bind, Sem.run_pure, Result.andThen_ok, List.map_toArray, List.map_cons, List.map_nil, hs, hx, hr]
  exact hK _ _ (h v' w' h2 h3 h4)

/-- The versions' states, by their numbers less one. -/
def StA (w : World) (ba : Nat) (st : Nat → Int) : Prop := ∃ C t, Blk w ba C t ∧ C.size = 64 ∧ ∀ k, k < 64 → C[k]? = some (.int .i64 (st k))
theorem StA.later {w w' : World} {ba : Nat} {st : Nat → Int} (h : StA w ba st) (hb : Below w.heap.size w w') : StA w' ba st := by
  obtain ⟨C, t, h1, h2⟩ := h
  exact ⟨C, t, h1.below hb h1.lt, h2⟩
theorem StA.own {w w' : World} {ba b : Nat} {st : Nat → Int} (h : StA w ba st) (hO : Own b w w') (hb : ba ≠ b) : StA w' ba st := by
  obtain ⟨C, t, h1, h2⟩ := h
  exact ⟨C, t, hO.blk h1 hb, h2⟩
theorem StA.lt {w : World} {ba : Nat} {st : Nat → Int} (h : StA w ba st) : ba < w.heap.size := by obtain ⟨C, t, h1, _⟩ := h; exact h1.lt
theorem StA.cell {w : World} {ba : Nat} {st : Nat → Int} (h : StA w ba st) {k : Nat} (hk : k < 64) : w.cell? ⟨ba, k, none⟩ = some (.int .i64 (st k)) := by
  obtain ⟨C, t, h1, _, h2⟩ := h
  rw [h1.cell]; exact h2 k hk
theorem StA.free {w : World} {ba : Nat} {st : Nat → Int} (h : StA w ba st) (k : Nat) : w.frozen? ⟨ba, k, none⟩ = false := by
  obtain ⟨C, t, h1, _⟩ := h
  exact h1.free k
def setS (st : Nat → Int) (k : Nat) (x : Int) : Nat → Int := fun j => if j = k then x else st j
theorem StA.set {w : World} {ba : Nat} {st : Nat → Int} (h : StA w ba st) {k : Nat} (hk : k < 64) (x : Int) : StA (w.setCell ⟨ba, k, none⟩ (.int .i64 x)) ba (setS st k x) := by
  obtain ⟨C, t, h1, hs, h2⟩ := h
  refine ⟨_, t, h1.set k _, by simpa using hs, fun j hj => ?_⟩
  unfold setS
  by_cases e : j = k
  · subst e; simp [hs, hk]
  · rw [if_neg e, Array.getElem?_setIfInBounds_ne (Ne.symm e)]; exact h2 j hj
/-- No byte lies among the states. -/
theorem StA.nob {w : World} {ba : Nat} {st : Nat → Int} (h : StA w ba st) : ∃ C t, Blk w ba C t ∧ ∀ (j : Nat) (z : Int), C[j]? ≠ some (Value.int .u8 z) := by
  obtain ⟨C, t, h1, hs, h2⟩ := h
  refine ⟨C, t, h1, fun j z e => ?_⟩
  by_cases hj : j < 64
  · rw [h2 j hj] at e; cases e
  · rw [Array.getElem?_eq_none (by omega)] at e; cases e

theorem GV.grown {w w' : World} {base n d b' : Nat} {v dv : Value} {V : Nat → Ver} {D : Nat → ByteArray} (h : GV w base v n V) (hD : DS w b' dv d D) (hg : w.grownBy w' dv.ownBlock) (hn : ∀ q, v.ownBlock = some q → dv.ownBlock ≠ some q) : GV w' base v n V := by
  obtain ⟨C, h1, h2⟩ := h
  refine ⟨C, ⟨h1.1, ?_⟩, fun i hi => ⟨(h2 i hi).1.grown hg ?_, (h2 i hi).2⟩⟩
  · rcases h1.2 with h3 | ⟨g, cap, cur, hv, hgb, hh, r⟩
    · exact .inl h3
    · exact .inr ⟨g, cap, cur, hv, hgb, by rw [hg.block g (lt_of_block hh) (Ne.symm (hn g (by rw [hv]; rfl)))]; exact hh, r⟩
  · intro a l cp hm hl
    obtain ⟨oa, cap, hC, hB, _⟩ := (h2 i hi).1
    rw [hC] at hm
    simp at hm
    obtain ⟨rfl, rfl, rfl⟩ := hm
    exact hD.away hB hl

/-- The versions, their states and what they were put as. -/
def KM (n d : Nat) (V : Nat → Ver) (D : Nat → ByteArray) (st : Nat → Int) : Prop := (∀ j, j < n → st ((V j).n - 1) = (V j).st ∧ ((V j).st ≠ 2 → strF (V j).len (V j).f = D ((V j).n - 1))) ∧ ∀ k, d ≤ k → st k = 0

/-- The secret in a block, the states, the strings. -/
def KS (w0 : World) (bb ba M d : Nat) (dv : Value) (D : Nat → ByteArray) (st : Nat → Int) (n : Nat) (sv : Value) (V : Nat → Ver) (w : World) : Prop :=
  Wn w0 w ∧ w0.heap.size ≤ ba ∧ w0.heap.size ≤ bb ∧ bb ≠ ba ∧ Blk w bb #[sv, .int .u32 (d : Int), .int .i64 (M : Int)] 79 ∧ StA w ba st ∧ (∃ base, bb < base ∧ ba < base ∧ base ≤ w.heap.size ∧ GV w base sv n V) ∧ (∃ base, w0.heap.size ≤ base ∧ ba < base ∧ base ≤ w.heap.size ∧ dv.ownBlock ≠ some bb ∧ DS w base dv d D) ∧
  SecOk n d M V ∧ (n = min d M) ∧ KM n d V D st
theorem KS.later {w0 w w' : World} {bb ba M d n : Nat} {dv sv : Value} {D : Nat → ByteArray} {st : Nat → Int} {V : Nat → Ver} (h : KS w0 bb ba M d dv D st n sv V w) (hb : Below w.heap.size w w') : KS w0 bb ba M d dv D st n sv V w' := by
  obtain ⟨h1, h2, h2', h3, h4, h5, ⟨b1, h6, h7, h7', h8⟩, ⟨b2, h9, h10, h11, h11', h12⟩, r⟩ := h
  exact ⟨h1.step hb, h2, h2', h3, h4.below hb h4.lt, h5.later hb, ⟨b1, h6, h7, Nat.le_trans h7' hb.size, h8.later hb⟩, ⟨b2, h9, h10, Nat.le_trans h11 hb.size, h11', h12.later hb⟩, r⟩
theorem KS.wn {w0 w : World} {bb ba M d n : Nat} {dv sv : Value} {D : Nat → ByteArray} {st : Nat → Int} {V : Nat → Ver} (h : KS w0 bb ba M d dv D st n sv V w) : Wn w0 w := h.1
theorem KS.blk {w0 w : World} {bb ba M d n : Nat} {dv sv : Value} {D : Nat → ByteArray} {st : Nat → Int} {V : Nat → Ver} (h : KS w0 bb ba M d dv D st n sv V w) : Blk w bb #[sv, .int .u32 (d : Int), .int .i64 (M : Int)] 79 := h.2.2.2.2.1
theorem KS.sta {w0 w : World} {bb ba M d n : Nat} {dv sv : Value} {D : Nat → ByteArray} {st : Nat → Int} {V : Nat → Ver} (h : KS w0 bb ba M d dv D st n sv V w) : StA w ba st := h.2.2.2.2.2.1
theorem KS.vers {w0 w : World} {bb ba M d n : Nat} {dv sv : Value} {D : Nat → ByteArray} {st : Nat → Int} {V : Nat → Ver} (h : KS w0 bb ba M d dv D st n sv V w) : ∃ o cap, sv = .slice o n cap ∧ n ≤ cap ∧ Vers w o n V := by
  obtain ⟨_, _, _, _, _, _, ⟨b1, _, _, _, h8⟩, _⟩ := h
  obtain ⟨o, cap, e, h1, _, h2⟩ := h8.vers
  exact ⟨o, cap, e, h1, h2⟩
theorem KS.ds {w0 w : World} {bb ba M d n : Nat} {dv sv : Value} {D : Nat → ByteArray} {st : Nat → Int} {V : Nat → Ver} (h : KS w0 bb ba M d dv D st n sv V w) : ∃ base, DS w base dv d D := by
  obtain ⟨_, _, _, _, _, _, _, ⟨b2, _, _, _, _, h12⟩, _⟩ := h
  exact ⟨b2, h12⟩
theorem KS.sec {w0 w : World} {bb ba M d n : Nat} {dv sv : Value} {D : Nat → ByteArray} {st : Nat → Int} {V : Nat → Ver} (h : KS w0 bb ba M d dv D st n sv V w) : SecOk n d M V := h.2.2.2.2.2.2.2.2.1
theorem KS.mn {w0 w : World} {bb ba M d n : Nat} {dv sv : Value} {D : Nat → ByteArray} {st : Nat → Int} {V : Nat → Ver} (h : KS w0 bb ba M d dv D st n sv V w) : n = min d M := h.2.2.2.2.2.2.2.2.2.1
theorem KS.km {w0 w : World} {bb ba M d n : Nat} {dv sv : Value} {D : Nat → ByteArray} {st : Nat → Int} {V : Nat → Ver} (h : KS w0 bb ba M d dv D st n sv V w) : KM n d V D st := h.2.2.2.2.2.2.2.2.2.2

/-- What is stored into a block that is neither the secret's, nor the states', nor one of the rows', makes no difference. -/
theorem KS.own {w0 w : World} {bb ba M d n b k : Nat} {dv sv : Value} {D : Nat → ByteArray} {st : Nat → Int} {V : Nat → Ver} {C : Array Value} {t : TypeId} {x : Value} (h : KS w0 bb ba M d dv D st n sv V w) (hB : Blk w b C t) (hn : ∀ (j : Nat) (z : Int), C[j]? ≠ some (Value.int .u8 z)) (hw : w0.heap.size ≤ b) (h1 : bb ≠ b) (h2 : ba ≠ b) (h3 : sv.ownBlock ≠ some b) (h4 : dv.ownBlock ≠ some b) : KS w0 bb ba M d dv D st n sv V (w.setCell ⟨b, k, none⟩ x) := by
  obtain ⟨g1, g2, g2', g3, g4, g5, ⟨b1, g6, g7, g7', g8⟩, ⟨b2, g9, g10, g11, g11', g12⟩, r⟩ := h
  have hO : Own b w (w.setCell ⟨b, k, none⟩ x) := (Own.refl b w).set k x
  exact ⟨g1.set hw k x, g2, g2', g3, hO.blk g4 h1, g5.own hO h2, ⟨b1, g6, g7, by simpa [World.setCell] using g7', g8.set_ne hB hn h3⟩, ⟨b2, g9, g10, by simpa [World.setCell] using g11, g11', g12.own hO h4⟩, r⟩
end Go.Proofs.YtkaddilgegimjaaDoor
