/- Rows of keys of 32 bytes. -/
import Derived.Test.YtloajfbehejehaaDoorKrY
namespace Go.Proofs.YtloajfbehejehaaDoor
set_option linter.unusedVariables false
set_option linter.unusedSimpArgs false
open Go.RowKit
/-- Keys of 32 bytes behind an address. -/
def KL (w : World) (oa : Option Addr) (n : Nat) (Q : Nat → Nat → Nat) : Prop := ∀ i, i < n → ∃ b off, oa = some ⟨b, off, none⟩ ∧ w.rangeAt b (off + i * 32) (rowC 32 (Q i))
theorem KL.later {w w' : World} {oa : Option Addr} {n : Nat} {Q : Nat → Nat → Nat} (h : KL w oa n Q) (hb : Below w.heap.size w w') : KL w' oa n Q := fun i hi => by
  obtain ⟨b, off, e, hr⟩ := h i hi
  exact ⟨b, off, e, fun j v hv => cell_below hb (hr j v hv)⟩
def keC (S : Nat → Nat → Nat) : Nat → List Value := fun i => rowC 32 (S i)
theorem keC_len (S : Nat → Nat → Nat) : ∀ i, (keC S i).length = 32 := fun _ => rowC_len _ _
theorem info_fA : (Tryd.prog.info? 22).map (fun i => (i.zero, i.size, i.bytes)) = some (some (.agg zeroA), 32, 32) := by kernel_rfl
theorem und_aa : Tryd.prog.underlying 23 = some (.slice 22) := by kernel_rfl
def AO (w : World) (base : Nat) (v : Value) (n : Nat) (S : Nat → Nat → Nat) : Prop := w.ownsRow base 22 32 v n (rws n (keC S))
theorem AO.later {w w' : World} {base n : Nat} {v : Value} {S : Nat → Nat → Nat} (h : AO w base v n S) (hb : Below w.heap.size w w') : AO w' base v n S := owns_later h hb
theorem AO.own {b base n : Nat} {v : Value} {S : Nat → Nat → Nat} {w w' : World} (h : AO w base v n S) (hO : Own b w w') (hb : b < base) : AO w' base v n S := owns_own h hO hb
theorem AO.one {w : World} {base g : Nat} {S : Nat → Nat} (h : Blk w g (rowC 32 S).toArray 22) (hb : base ≤ g) : AO w base (.slice (some ⟨g, 0, none⟩) 1 1) 1 (fun _ => S) := by
  have e : rws 1 (keC (fun _ => S)) = rowC 32 S := by rw [rws_succ, rws_zero, List.nil_append]; rfl
  unfold AO
  rw [e]
  exact ⟨by rw [rowC_len], .inr ⟨g, 1, (rowC 32 S).toArray, rfl, hb, h, Nat.le_refl _, by unfold maxLen; omega, by rw [List.size_toArray, rowC_len], by rw [List.take_of_length_le (by simp [rowC_len])]⟩⟩
theorem AO.congr {w : World} {base n : Nat} {v : Value} {S U : Nat → Nat → Nat} (h : AO w base v n S) (he : ∀ i, i < n → S i = U i) : AO w base v n U := by
  unfold AO at h ⊢
  rw [rws_congr (D := keC U) fun i hi => by unfold keC; rw [he i hi]] at h
  exact h
theorem AO.out {w : World} {base n : Nat} {v : Value} {S : Nat → Nat → Nat} (h : AO w base v n S) : ∃ oa c, v = .slice oa n c ∧ n ≤ c ∧ c ≤ maxLen ∧ (oa = none → n = 0) ∧ (∀ a, oa = some a → base ≤ a.block ∧ a.block < w.heap.size) ∧ KL w oa n S := by
  obtain ⟨oa, c, hv, hnc, hm, hbl, hc⟩ := rws_cells h fun i _ => keC_len S i
  refine ⟨oa, c, hv, hnc, hm, fun e => ?_, fun a ha => ?_, fun i hi => ?_⟩
  · rcases Nat.eq_zero_or_pos n with h0 | h0
    · exact h0
    · obtain ⟨b, off, e1, _⟩ := hc 0 0 h0 (by decide)
      rw [e] at e1; cases e1
  · obtain ⟨g, rfl, h1, h2⟩ := hbl a ha
    exact ⟨h1, h2⟩
  · obtain ⟨b, off, e1, e2, _⟩ := hc i 0 hi (by decide)
    refine ⟨b, off, e1, fun j u hu => ?_⟩
    have hj : j < 32 := by have := (List.getElem?_eq_some_iff.1 hu).1; rw [rowC_len] at this; exact this
    obtain ⟨b', off', e3, _, e4⟩ := hc i j hi hj
    rw [e1] at e3; cases e3
    rw [e4]; exact hu
theorem AO.block {w : World} {base n : Nat} {v : Value} {S : Nat → Nat → Nat} (h : AO w base v n S) : ∀ q, v.ownBlock = some q → base ≤ q := owns_block h
theorem rws_ke (n : Nat) (S U : Nat → Nat → Nat) : rws (n + 1) (keC (catT n S U)) = rws n (keC S) ++ rowC 32 (U 0) := by
  rw [rws_succ, rws_congr (D := keC S) fun i hi => by unfold keC catT; rw [if_pos hi]]
  congr 1
  unfold keC catT
  rw [if_neg (by omega), Nat.sub_self]
theorem run_app_AO (ty : TypeId) (base : Nat) (v : Value) (n g cq : Nat) (S : Nat → Nat → Nat) (U : Nat → Nat) (W : World) (hG : AO W base v n S) (hA : Blk W g (rowC 32 U).toArray 22) (hn : n + 1 < 1000000) (hbase : base ≤ W.heap.size) :
    ∃ v' w', (Builtin.append_ #[23, 23] ty #[v, .slice (some ⟨g, 0, none⟩) 1 cq]).run Tryd.prog W = .ok v' w' ∧ AO w' base v' (n + 1) (catT n S (fun _ => U)) ∧ Below base W w' ∧ W.grownBy w' v.ownBlock ∧ (v'.ownBlock = v.ownBlock ∨ v'.ownBlock = some W.heap.size) := by
  obtain ⟨i0, hi, hz0, hz1, hz2⟩ := parts3 info_fA
  obtain ⟨v', w', hr, hown', hg, _, hob⟩ := run_append_own_at (P := Tryd.prog) W base 23 ty 22 i0 (.agg zeroA) 32 32 und_aa hi hz0 hz1 hz2 zeroA_size (by decide) v n (rws n (keC S)) hG ⟨g, 0, none⟩ 1 cq (rowC 32 U) (by rw [rowC_len])
    (fun j u hu => by
      have := Blk.rangeA hA j u (by simpa using hu)
      rw [Addr.add_mid]; exact this) (rowC_one _ _) (by unfold maxLen; omega) (by omega) hbase
  exact ⟨v', w', hr, by unfold AO; rw [rws_ke]; exact hown', (Below.refl base W).grown hg hbase hG.block, hg, hob⟩
theorem app_AO {ops : Array Oper} {rest : List Oper} {o : Oper} {a : Act} {Q : Exit → Act → World → Prop} (hgd : o.guard = none) (s x : Operand)
    (ho : o.op = .call { callee := .builtin .append, args := #[s, x], argTypes := #[23, 23] })
    (base : Nat) (v : Value) (n g cq : Nat) (S : Nat → Nat → Nat) (U : Nat → Nat) (W : World) (hs : a.eval s = v) (hG : AO W base v n S) (hx : a.eval x = .slice (some ⟨g, 0, none⟩) 1 cq) (hA : Blk W g (rowC 32 U).toArray 22)
    (hn : n + 1 < 1000000) (hbase : base ≤ W.heap.size)
    (h : ∀ v' w', AO w' base v' (n + 1) (catT n S (fun _ => U)) → Below base W w' → W.grownBy w' v.ownBlock → (v'.ownBlock = v.ownBlock ∨ v'.ownBlock = some W.heap.size) → wpList Tryd.prog ops Q rest (a.put o.dst v') w') :
    wpList Tryd.prog ops Q (o :: rest) a W := by
  obtain ⟨v', w', hr, h1, h2, h3, h4⟩ := run_app_AO o.type base v n g cq S U W hG hA hn hbase
  refine wpList_plain hgd fun K hK => ?_
  unfold Oper.wp execOp
  simp only [ho, resolve, invoke, builtin, Sem.run_bind, Sem.run_pure, Result.andThen_ok, List.map_toArray, List.map_cons, List.map_nil, hs, hx, hr]
  exact hK _ _ (h v' w' h1 h2 h3 h4)
theorem TL.grown {w w' : World} {o : Option Addr} {n : Nat} {N : Nat → Nat} {S : Nat → Nat → Nat} {q : Option Nat} (h : TL w o n N S) (hg : w.grownBy w' q) (ha : ∀ a, o = some a → q ≠ some a.block) : TL w' o n N S := fun i hi => by
  obtain ⟨b, off, e, hr⟩ := h i hi
  refine ⟨b, off, e, fun j v hv => ?_⟩
  have hc := hr j v hv
  have hlt : b < w.heap.size := World.block_lt_of_cell? w _ hc
  have hb := hg.block b hlt (fun e' => ha _ e e'.symm)
  unfold World.cell? at hc ⊢
  rw [hb]; exact hc
theorem TL.lt {w : World} {o : Option Addr} {n : Nat} {N : Nat → Nat} {S : Nat → Nat → Nat} (h : TL w o n N S) (hn : 1 ≤ n) : ∀ a, o = some a → a.block < w.heap.size := fun a ha => by
  obtain ⟨b, off, e, hc⟩ := h.cell0 (i := 0) (by omega)
  rw [ha] at e; cases e
  exact World.block_lt_of_cell? w _ hc
theorem bs_a1 (S : Nat → Nat) (w : World) : (Instr.buildSlice 23 1 #[(0, .agg (rowC 32 S).toArray)]).run Tryd.prog w = .ok (.slice (some ⟨w.heap.size, 0, none⟩) 1 1) (w.alloc (.cells (rowC 32 S).toArray 22)) := by kernel_rfl
theorem wpList_bsA {ops : Array Oper} {rest : List Oper} {o : Oper} {a : Act} {w : World} {Q : Exit → Act → World → Prop} (hgd : o.guard = none) (x : Operand) (ho : o.op = .buildSlice 23 1 #[(0, x)]) (C : Array Value) (hx : a.eval x = .agg C)
    (h : ∀ w, (Instr.buildSlice 23 1 #[(0, .agg C)]).run Tryd.prog w = .ok (.slice (some ⟨w.heap.size, 0, none⟩) 1 1) (w.alloc (.cells C 22)))
    (hk : wpList Tryd.prog ops Q rest (a.put o.dst (.slice (some ⟨w.heap.size, 0, none⟩) 1 1)) (w.alloc (.cells C 22))) : wpList Tryd.prog ops Q (o :: rest) a w := by
  refine wpList_plain hgd fun K hK => ?_
  have e : (#[((0 : Nat), x)].map fun (i, x) => (i, a.eval x)) = #[(0, .agg C)] := by simp [hx]
  unfold Oper.wp execOp
  simp only [ho, e, h, Sem.run_bind, Result.andThen_ok]
  exact hK _ _ hk
end Go.Proofs.YtloajfbehejehaaDoor
