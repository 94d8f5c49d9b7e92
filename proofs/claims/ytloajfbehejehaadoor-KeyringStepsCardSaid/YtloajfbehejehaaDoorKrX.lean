/- Terms: rows of structs of 33 cells, plain; laws at the operations. May a ring be? Terms cloned; a ring of one key; a ring with a term more. A ring with a term more. A range over a function whose variables are laid in the world (closures could take them): the assignment may turn the world. A ring's keys, one by one. -/
import Derived.Test.YtloajfbehejehaaDoorEx2
import Derived.Test.YtloajfbehejehaaDoorRws
import Derived.Deep.MidRow
import Derived.Deep.DeepCutAuto
import Derived.Deep.RegionHeld3
import Derived.Test.YtloajfbehejehaaDoorRf
import Derived.LoopNIn
import Derived.LoopIn
namespace Go.Proofs.YtloajfbehejehaaDoor
set_option linter.unusedVariables false
set_option linter.unusedSimpArgs false
open Go.RowKit
theorem exec_buildM {o : Oper} {a : Act} {w : World} {ty : TypeId} {C : Array Value} {parts : Array (Nat × Operand)} {ps : Array (Nat × Value)} (ho : o.op = .build ty parts) (hp : (parts.map fun (i, x) => (i, a.eval x)) = ps) (h : ∀ w, (Instr.build ty ps).run Tryd.prog w = .ok (.agg C) w) : (execOp a.eval o).run Tryd.prog w = .ok (.value (.agg C)) w := by
  unfold execOp
  simp only [ho, hp, Sem.run_bind, h, Result.andThen_ok]
  rfl
theorem exec_loadM {o : Oper} {a : Act} {w : World} {ty : TypeId} {x : Operand} {b f : Nat} {cs : List Value} {d : TypeDesc} (ho : o.op = .load ty x) (hx : a.eval x = .pointer (some ⟨b, f, none⟩)) (hc : w.rangeAt b f cs)
    (hu : Tryd.prog.underlying ty = some d) (hd : d.isRow = true) (hi : (Tryd.prog.info? ty).map (·.size) = some cs.length) : (execOp a.eval o).run Tryd.prog w = .ok (.value (.agg cs.toArray)) w := by
  unfold execOp
  simp only [ho, hx, Instr.loadAt, Instr.sureAddr, Sem.run_bind, Sem.run_pure, Result.andThen_ok, run_loadVar_mid w b f ty cs d hc hu hd hi]
theorem exec_loadA {o : Oper} {a : Act} {w : World} {ty : TypeId} {x : Operand} {b f : Nat} {C : Array Value} {d : TypeDesc} (ho : o.op = .load ty x) (hx : a.eval x = .pointer (some ⟨b, f, none⟩)) (hc : w.rangeAt b f C.toList)
    (hu : Tryd.prog.underlying ty = some d) (hd : d.isRow = true) (hi : (Tryd.prog.info? ty).map (·.size) = some C.size) : (execOp a.eval o).run Tryd.prog w = .ok (.value (.agg C)) w :=
  exec_loadM (cs := C.toList) ho hx hc hu hd (by rw [hi]; simp)
theorem Blk.rangeA {w : World} {b : Nat} {C : Array Value} {t : TypeId} (h : Blk w b C t) : w.rangeAt b 0 C.toList := fun j v hv => by
  rw [Nat.zero_add, Blk.cell h j]; simpa using hv
theorem wpList_zero {ops : Array Oper} {rest : List Oper} {o : Oper} {a : Act} {w : World} {Q : Exit → Act → World → Prop} {ty : TypeId} {Z : Array Value} (hgd : o.guard = none) (ho : o.op = .alloc ty) (hz : ∀ w, (zeroValue ty).run Tryd.prog w = .ok (.agg Z) w)
    (h : wpList Tryd.prog ops Q rest (a.put o.dst (.pointer (some ⟨w.heap.size, 0, none⟩))) (w.alloc (.cells Z ty))) : wpList Tryd.prog ops Q (o :: rest) a w := by
  refine wpList_plain hgd fun K hK => ?_
  have hr : (execOp a.eval o).run Tryd.prog w = .ok (.value (.pointer (some ⟨w.heap.size, 0, none⟩))) (w.alloc (.cells Z ty)) := by
    unfold execOp
    simp only [ho, Instr.alloc, Sem.run_bind, hz, Result.andThen_ok]
    rfl
  unfold Oper.wp
  rw [hr]
  exact hK _ _ h
theorem step_zero {ops : Array Oper} {o : Oper} {a : Act} {w : World} {K : Act → World → Prop} {Q : Exit → Act → World → Prop} {E : Prop} {ty : TypeId} {Z : Array Value} (hgd : o.guard = none) (ho : o.op = .alloc ty) (hz : ∀ w, (zeroValue ty).run Tryd.prog w = .ok (.agg Z) w)
    (h : K (a.put o.dst (.pointer (some ⟨w.heap.size, 0, none⟩))) (w.alloc (.cells Z ty))) : if Region.wanted o (yielded ops a.tmps) = true then Oper.wp Tryd.prog o a w K Q else E := by
  have hw : Region.wanted o (yielded ops a.tmps) = true := by simp [Region.wanted, hgd]
  rw [if_pos hw]
  have hr : (execOp a.eval o).run Tryd.prog w = .ok (.value (.pointer (some ⟨w.heap.size, 0, none⟩))) (w.alloc (.cells Z ty)) := by
    unfold execOp
    simp only [ho, Instr.alloc, Sem.run_bind, hz, Result.andThen_ok]
    rfl
  unfold Oper.wp
  rw [hr]
  exact h
/-- A term's cells. -/
def tmL (n : Nat) (S : Nat → Nat) : List Value := .int .u32 (n : Int) :: rowC 32 S
theorem tmL_len (n : Nat) (S : Nat → Nat) : (tmL n S).length = 33 := by unfold tmL; rw [List.length_cons, rowC_len]
theorem tm_size (n : Nat) (S : Nat → Nat) : (tmL n S).toArray.size = 33 := by rw [List.size_toArray, tmL_len]
theorem tmL_at (n : Nat) (S : Nat → Nat) {i : Nat} (hi : i < 32) : (tmL n S)[1 + i]? = some (.int .u8 (S i : Nat)) := by rw [Nat.add_comm]; exact rowC_get S hi
theorem tmL_one (n : Nat) (S : Nat → Nat) : ∀ v ∈ tmL n S, v.oneCell' = true := fun v hv => by
  unfold tmL at hv
  rcases List.mem_cons.1 hv with rfl | h
  · rfl
  · exact rowC_one _ _ v h
theorem tm_one (n : Nat) (S : Nat → Nat) : (tmL n S).toArray.all (·.oneCell') = true := all_oneCell_toArray (tmL_one _ _)
theorem tmL_congr {n : Nat} {S U : Nat → Nat} (h : ∀ i, i < 32 → S i = U i) : tmL n S = tmL n U := by unfold tmL; rw [rowC_congr h]
def zeroT : Array Value := (tmL 0 (fun _ => 0)).toArray
theorem zeroT_size : zeroT.size = 33 := tm_size _ _
def zeroA : Array Value := (rowC 32 (fun _ => 0)).toArray
theorem zeroA_size : zeroA.size = 32 := by unfold zeroA; rw [List.size_toArray, rowC_len]
theorem info_t1 : (Tryd.prog.info? 55).map (·.size) = some 33 := by kernel_rfl
theorem info_t2 : (Tryd.prog.info? 60).map (·.size) = some 33 := by kernel_rfl
theorem info_a32 : (Tryd.prog.info? 22).map (·.size) = some 32 := by kernel_rfl
theorem info_f1 : (Tryd.prog.info? 55).map (fun i => (i.zero, i.size, i.bytes)) = some (some (.agg zeroT), 33, 36) := by kernel_rfl
theorem info_f2 : (Tryd.prog.info? 60).map (fun i => (i.zero, i.size, i.bytes)) = some (some (.agg zeroT), 33, 36) := by kernel_rfl
theorem zero_t1 (w : World) : (zeroValue 55).run Tryd.prog w = .ok (.agg zeroT) w := by kernel_rfl
theorem zero_t2 (w : World) : (zeroValue 60).run Tryd.prog w = .ok (.agg zeroT) w := by kernel_rfl
theorem zero_a32 (w : World) : (zeroValue 22).run Tryd.prog w = .ok (.agg zeroA) w := by kernel_rfl
theorem build_t1 (n : Nat) (S : Nat → Nat) (w : World) : (Instr.build 55 #[(0, .int .u32 (n : Int)), (1, .agg (rowC 32 S).toArray)]).run Tryd.prog w = .ok (.agg (tmL n S).toArray) w := run_build w 55 _ _ (by kernel_rfl)
theorem build_t2 (n : Nat) (S : Nat → Nat) (w : World) : (Instr.build 60 #[(0, .int .u32 (n : Int)), (1, .agg (rowC 32 S).toArray)]).run Tryd.prog w = .ok (.agg (tmL n S).toArray) w := run_build w 60 _ _ (by kernel_rfl)
theorem build_z1 (w : World) : (Instr.build 55 #[]).run Tryd.prog w = .ok (.agg zeroT) w := run_build w 55 _ _ (by kernel_rfl)
theorem build_n2 (n : Nat) (w : World) : (Instr.build 60 #[(0, .int .u32 (n : Int))]).run Tryd.prog w = .ok (.agg (tmL n (fun _ => 0)).toArray) w := run_build w 60 _ _ (by kernel_rfl)
theorem build_z32 (w : World) : (Instr.build 22 #[]).run Tryd.prog w = .ok (.agg zeroA) w := run_build w 22 _ _ (by kernel_rfl)
theorem tm_cell0 {w : World} {b n : Nat} {S : Nat → Nat} {T : TypeId} (h : Blk w b (tmL n S).toArray T) : w.cell? ⟨b, 0, none⟩ = some (.int .u32 (n : Int)) := by rw [Blk.cell h]; rfl
theorem tm_bytes {w : World} {b n : Nat} {S : Nat → Nat} {T : TypeId} (h : Blk w b (tmL n S).toArray T) (hS : ∀ i, i < 32 → S i < 256) : Bytes w (some ⟨b, 1, none⟩) 32 S := fun k hk => ⟨hS k hk, b, 1, rfl, by
  rw [Blk.cell h]
  have := tmL_at n S hk
  simpa using this⟩
theorem tm_key {w : World} {b n : Nat} {S : Nat → Nat} {T : TypeId} (h : Blk w b (tmL n S).toArray T) : w.rangeAt b 1 (rowC 32 S) := fun j v hv => by
  rw [Blk.cell h, List.getElem?_toArray, Nat.add_comm]; exact hv
/-- n terms lie behind an address. -/
def tmC (N : Nat → Nat) (S : Nat → Nat → Nat) : Nat → List Value := fun i => tmL (N i) (S i)
theorem tmC_len (N : Nat → Nat) (S : Nat → Nat → Nat) : ∀ i, (tmC N S i).length = 33 := fun _ => tmL_len _ _
def TL (w : World) (oa : Option Addr) (n : Nat) (N : Nat → Nat) (S : Nat → Nat → Nat) : Prop := ∀ i, i < n → ∃ b off, oa = some ⟨b, off, none⟩ ∧ w.rangeAt b (off + i * 33) (tmL (N i) (S i))
theorem TL.later {w w' : World} {oa : Option Addr} {n : Nat} {N : Nat → Nat} {S : Nat → Nat → Nat} (h : TL w oa n N S) (hb : Below w.heap.size w w') : TL w' oa n N S := fun i hi => by
  obtain ⟨b, off, e, hr⟩ := h i hi
  exact ⟨b, off, e, fun j v hv => cell_below hb (hr j v hv)⟩
theorem TL.nil (w : World) (oa : Option Addr) (N : Nat → Nat) (S : Nat → Nat → Nat) : TL w oa 0 N S := fun i hi => absurd hi (Nat.not_lt_zero _)
theorem TL.mono {w : World} {oa : Option Addr} {n m : Nat} {N : Nat → Nat} {S : Nat → Nat → Nat} (h : TL w oa n N S) (hm : m ≤ n) : TL w oa m N S := fun i hi => h i (by omega)
theorem TL.congr {w : World} {oa : Option Addr} {n : Nat} {N M : Nat → Nat} {S U : Nat → Nat → Nat} (h : TL w oa n N S) (he : ∀ i, i < n → N i = M i ∧ S i = U i) : TL w oa n M U := fun i hi => by
  obtain ⟨b, off, e, hr⟩ := h i hi
  rw [(he i hi).1, (he i hi).2] at hr
  exact ⟨b, off, e, hr⟩
theorem TL.cell0 {w : World} {oa : Option Addr} {n : Nat} {N : Nat → Nat} {S : Nat → Nat → Nat} (h : TL w oa n N S) {i : Nat} (hi : i < n) : ∃ b off, oa = some ⟨b, off, none⟩ ∧ w.cell? ⟨b, off + i * 33, none⟩ = some (.int .u32 (N i : Int)) := by
  obtain ⟨b, off, e, hr⟩ := h i hi
  exact ⟨b, off, e, hr 0 _ rfl⟩
theorem TL.news {w : World} {b off n : Nat} {N : Nat → Nat} {S : Nat → Nat → Nat} (h : TL w (some ⟨b, off, none⟩) n N S) : ∀ j u, (rws n (tmC N S))[j]? = some u → w.cell? ((⟨b, off, none⟩ : Addr).add j) = some u := fun j u hu => by
  have hl : (rws n (tmC N S)).length = n * 33 := rws_len (k := 33) fun _ _ => tmL_len _ _
  have hj : j < n * 33 := by
    rcases Nat.lt_or_ge j (n * 33) with h' | h'
    · exact h'
    · rw [List.getElem?_eq_none (by omega)] at hu; cases hu
  have hi : j / 33 < n := Nat.div_lt_of_lt_mul (by omega)
  have hr : j % 33 < 33 := Nat.mod_lt _ (by decide)
  have he : j / 33 * 33 + j % 33 = j := by omega
  have h5 := rws_get (k := 33) (C := tmC N S) (n := n) (fun _ _ => tmL_len _ _) hi hr
  rw [he, hu] at h5
  obtain ⟨b', off', e, h6⟩ := h (j / 33) hi
  cases e
  have h7 := h6 (j % 33) u h5.symm
  rw [Addr.add_mid, ← h7]
  congr 2
  omega
/-- Terms in a row of our own. -/
def TO (T : TypeId) (w : World) (base : Nat) (v : Value) (n : Nat) (N : Nat → Nat) (S : Nat → Nat → Nat) : Prop := w.ownsRow base T 33 v n (rws n (tmC N S))
theorem TO.later {T : TypeId} {w w' : World} {base n : Nat} {v : Value} {N : Nat → Nat} {S : Nat → Nat → Nat} (h : TO T w base v n N S) (hb : Below w.heap.size w w') : TO T w' base v n N S := owns_later h hb
theorem TO.nil (T : TypeId) (w : World) (base : Nat) (N : Nat → Nat) (S : Nat → Nat → Nat) : TO T w base (.slice none 0 0) 0 N S := World.ownsRow_nil w base _ 33
theorem TO.empty {T : TypeId} {w : World} {base g : Nat} (h : Blk w g #[] T) (hb : base ≤ g) (N : Nat → Nat) (S : Nat → Nat → Nat) : TO T w base (.slice (some ⟨g, 0, none⟩) 0 0) 0 N S :=
  ⟨rfl, .inr ⟨g, 0, #[], rfl, hb, h, Nat.le_refl _, by unfold maxLen; omega, rfl, rfl⟩⟩
theorem TO.congr {T : TypeId} {w : World} {base n : Nat} {v : Value} {N M : Nat → Nat} {S U : Nat → Nat → Nat} (h : TO T w base v n N S) (he : ∀ i, i < n → N i = M i ∧ S i = U i) : TO T w base v n M U := by
  unfold TO at h ⊢
  rw [rws_congr (D := tmC M U) fun i hi => by unfold tmC; rw [(he i hi).1, (he i hi).2]] at h
  exact h
theorem TO.out {T : TypeId} {w : World} {base n : Nat} {v : Value} {N : Nat → Nat} {S : Nat → Nat → Nat} (h : TO T w base v n N S) : ∃ oa c, v = .slice oa n c ∧ n ≤ c ∧ c ≤ maxLen ∧ (oa = none → n = 0) ∧ (∀ a, oa = some a → base ≤ a.block ∧ a.block < w.heap.size) ∧ TL w oa n N S := by
  obtain ⟨oa, c, hv, hnc, hm, hbl, hc⟩ := rws_cells h fun i _ => tmC_len N S i
  refine ⟨oa, c, hv, hnc, hm, fun e => ?_, fun a ha => ?_, fun i hi => ?_⟩
  · rcases Nat.eq_zero_or_pos n with h0 | h0
    · exact h0
    · obtain ⟨b, off, e1, _⟩ := hc 0 0 h0 (by decide)
      rw [e] at e1; cases e1
  · obtain ⟨g, rfl, h1, h2⟩ := hbl a ha
    exact ⟨h1, h2⟩
  · obtain ⟨b, off, e1, e2, _⟩ := hc i 0 hi (by decide)
    refine ⟨b, off, e1, fun j u hu => ?_⟩
    have hj : j < 33 := by have := (List.getElem?_eq_some_iff.1 hu).1; rw [tmL_len] at this; exact this
    obtain ⟨b', off', e3, _, e4⟩ := hc i j hi hj
    rw [e1] at e3; cases e3
    rw [e4]; exact hu
theorem TO.block {T : TypeId} {w : World} {base n : Nat} {v : Value} {N : Nat → Nat} {S : Nat → Nat → Nat} (h : TO T w base v n N S) : ∀ q, v.ownBlock = some q → base ≤ q := owns_block h
def catN (n : Nat) (A B : Nat → Nat) : Nat → Nat := fun i => if i < n then A i else B (i - n)
def catT (n : Nat) (A B : Nat → Nat → Nat) : Nat → Nat → Nat := fun i => if i < n then A i else B (i - n)
theorem rws_tm (n q : Nat) (N M : Nat → Nat) (S U : Nat → Nat → Nat) : rws (n + q) (tmC (catN n N M) (catT n S U)) = rws n (tmC N S) ++ rws q (tmC M U) := by
  induction q with
  | zero => rw [rws_zero, List.append_nil, Nat.add_zero]; exact rws_congr fun i hi => by unfold tmC catN catT; rw [if_pos hi, if_pos hi]
  | succ q ih => rw [← Nat.add_assoc, rws_succ, rws_succ, ih, ← List.append_assoc]; congr 1; unfold tmC catN catT; rw [if_neg (by omega), if_neg (by omega), Nat.add_sub_cancel_left]
theorem rws_tm_one (n : Nat) (N : Nat → Nat) (S : Nat → Nat → Nat) : ∀ v ∈ rws n (tmC N S), v.oneCell' = true := by
  induction n with
  | zero => intro v hv; rw [rws_zero] at hv; cases hv
  | succ n ih =>
    intro v hv
    rw [rws_succ] at hv
    rcases List.mem_append.1 hv with h1 | h1
    · exact ih v h1
    · exact tmL_one _ _ v h1
theorem parts3 {T : TypeId} {z : Value} {s y : Nat} (h : (Tryd.prog.info? T).map (fun i => (i.zero, i.size, i.bytes)) = some (some z, s, y)) : ∃ i, Tryd.prog.info? T = some i ∧ i.zero = some z ∧ i.size = s ∧ i.bytes = y := by
  cases e : Tryd.prog.info? T with
  | none => rw [e] at h; cases h
  | some i => rw [e] at h; simp at h; exact ⟨i, rfl, h.1, h.2.1, h.2.2⟩
/-- append of terms that lie anywhere, onto a row of our own. -/
theorem run_app_TO {T TS : TypeId} (hU : Tryd.prog.underlying TS = some (.slice T)) (hI : (Tryd.prog.info? T).map (fun i => (i.zero, i.size, i.bytes)) = some (some (.agg zeroT), 33, 36))
    (ty : TypeId) (base : Nat) (v : Value) (n q cq : Nat) (N M : Nat → Nat) (S U : Nat → Nat → Nat) (oa : Option Addr) (W : World) (hG : TO T W base v n N S) (hA : TL W oa q M U) (hno : oa = none → q = 0)
    (hn : n + q < 1000000) (hbase : base ≤ W.heap.size) :
    ∃ v' w', (Builtin.append_ #[TS, TS] ty #[v, .slice oa q cq]).run Tryd.prog W = .ok v' w' ∧ TO T w' base v' (n + q) (catN n N M) (catT n S U) ∧ Below base W w' ∧ W.grownBy w' v.ownBlock ∧ (v'.ownBlock = v.ownBlock ∨ v'.ownBlock = some W.heap.size) := by
  obtain ⟨i0, hi, hz0, hz1, hz2⟩ := parts3 hI
  have hbk := hG.block
  have hrefl : W.grownBy W v.ownBlock := ⟨rfl, rfl, rfl, Nat.le_refl _, fun _ _ _ => rfl⟩
  cases oa with
  | none =>
    obtain rfl := hno rfl
    refine ⟨v, W, ?_, by unfold TO; rw [rws_tm, rws_zero, List.append_nil]; exact hG, Below.refl _ _, hrefl, .inl rfl⟩
    rcases hG.2 with ⟨rfl, rfl⟩ | ⟨g, cap, cur, rfl, _, _, hnc, _⟩
    · simp [Builtin.append_, run_underlying hU, sizeOf, typeInfo, hi, Builtin.lenOf, Builtin.firstCells]
    · simp [Builtin.append_, run_underlying hU, sizeOf, typeInfo, hi, Builtin.lenOf, Builtin.firstCells, hnc, storeCells]
  | some ad =>
    by_cases h0 : q = 0
    · subst h0
      obtain ⟨v', w', hr, hown', hg, _, hob⟩ := run_append_own_at (P := Tryd.prog) W base TS ty T i0 (.agg zeroT) 33 36 hU hi hz0 hz1 hz2 zeroT_size (by decide) v n (rws n (tmC N S)) hG ad 0 cq [] rfl
        (fun j u hu => by simp at hu) (fun u hu => by cases hu) (by unfold maxLen; omega) (by omega) hbase
      exact ⟨v', w', hr, by unfold TO; rw [rws_tm, rws_zero]; exact hown', (Below.refl base W).grown hg hbase hbk, hg, hob⟩
    · obtain ⟨b, off, e1, _⟩ := hA 0 (by omega)
      cases e1
      obtain ⟨v', w', hr, hown', hg, _, hob⟩ := run_append_own_at (P := Tryd.prog) W base TS ty T i0 (.agg zeroT) 33 36 hU hi hz0 hz1 hz2 zeroT_size (by decide) v n (rws n (tmC N S)) hG ⟨b, off, none⟩ q cq (rws q (tmC M U)) (rws_len fun _ _ => tmL_len _ _)
        hA.news (rws_tm_one _ _ _) (by unfold maxLen; omega) (by omega) hbase
      exact ⟨v', w', hr, by unfold TO; rw [rws_tm]; exact hown', (Below.refl base W).grown hg hbase hbk, hg, hob⟩
theorem app_TO {T TS : TypeId} (hU : Tryd.prog.underlying TS = some (.slice T)) (hI : (Tryd.prog.info? T).map (fun i => (i.zero, i.size, i.bytes)) = some (some (.agg zeroT), 33, 36))
    {ops : Array Oper} {rest : List Oper} {o : Oper} {a : Act} {Q : Exit → Act → World → Prop} (hgd : o.guard = none) (s x : Operand)
    (ho : o.op = .call { callee := .builtin .append, args := #[s, x], argTypes := #[TS, TS] })
    (base : Nat) (v : Value) (n q cq : Nat) (N M : Nat → Nat) (S U : Nat → Nat → Nat) (oa : Option Addr) (W : World) (hs : a.eval s = v) (hG : TO T W base v n N S) (hx : a.eval x = .slice oa q cq) (hA : TL W oa q M U) (hno : oa = none → q = 0)
    (hn : n + q < 1000000) (hbase : base ≤ W.heap.size)
    (h : ∀ v' w', TO T w' base v' (n + q) (catN n N M) (catT n S U) → Below base W w' → W.grownBy w' v.ownBlock → wpList Tryd.prog ops Q rest (a.put o.dst v') w') :
    wpList Tryd.prog ops Q (o :: rest) a W := by
  obtain ⟨v', w', hr, h1, h2, h3, _⟩ := run_app_TO hU hI o.type base v n q cq N M S U oa W hG hA hno hn hbase
  refine wpList_plain hgd fun K hK => ?_
  unfold Oper.wp execOp
  simp only [ho, resolve, invoke, builtin, Sem.run_bind, Sem.run_pure, Result.andThen_ok, List.map_toArray, List.map_cons, List.map_nil, hs, hx, hr]
  exact hK _ _ (h v' w' h1 h2 h3)
theorem step_TO {T TS : TypeId} (hU : Tryd.prog.underlying TS = some (.slice T)) (hI : (Tryd.prog.info? T).map (fun i => (i.zero, i.size, i.bytes)) = some (some (.agg zeroT), 33, 36))
    {ops : Array Oper} {o : Oper} {a : Act} {K : Act → World → Prop} {Q : Exit → Act → World → Prop} {E : Prop} (hgd : o.guard = none) (s x : Operand)
    (ho : o.op = .call { callee := .builtin .append, args := #[s, x], argTypes := #[TS, TS] })
    (base : Nat) (v : Value) (n q cq : Nat) (N M : Nat → Nat) (S U : Nat → Nat → Nat) (oa : Option Addr) (W : World) (hs : a.eval s = v) (hG : TO T W base v n N S) (hx : a.eval x = .slice oa q cq) (hA : TL W oa q M U) (hno : oa = none → q = 0)
    (hn : n + q < 1000000) (hbase : base ≤ W.heap.size)
    (h : ∀ v' w', TO T w' base v' (n + q) (catN n N M) (catT n S U) → Below base W w' → W.grownBy w' v.ownBlock → K (a.put o.dst v') w') :
    if Region.wanted o (yielded ops a.tmps) = true then Oper.wp Tryd.prog o a W K Q else E := by
  obtain ⟨v', w', hr, h1, h2, h3, _⟩ := run_app_TO hU hI o.type base v n q cq N M S U oa W hG hA hno hn hbase
  have hw : Region.wanted o (yielded ops a.tmps) = true := by simp [Region.wanted, hgd]
  rw [if_pos hw]
  unfold Oper.wp execOp
  simp only [ho, resolve, invoke, builtin, Sem.run_bind, Sem.run_pure, Result.andThen_ok, List.map_toArray, List.map_cons, List.map_nil, hs, hx, hr]
  exact h v' w' h1 h2 h3
end Go.Proofs.YtloajfbehejehaaDoor
namespace Go.Proofs.YtloajfbehejehaaDoor
set_option linter.unusedVariables false
set_option linter.unusedSimpArgs false
open Go.RowKit
def OkT (n : Nat) (N : Nat → Nat) : Prop := 1 ≤ n ∧ n ≤ 16 ∧ ∀ i, i < n → N i = i + 1
/-- What Check answers. -/
def ChkR (n : Nat) (N : Nat → Nat) (w : World) (e : Ending) (w' : World) : Prop := ((e = .returned .nilIface ∧ OkT n N) ∨ (e = .returned (.iface 64 (.int .i64 1)) ∧ ¬ OkT n N)) ∧ Below w.heap.size w w'
theorem ChkR.ok {n : Nat} {N : Nat → Nat} {w w' : World} (h : OkT n N) (hb : Below w.heap.size w w') : ChkR n N w (.returned .nilIface) w' := ⟨.inl ⟨rfl, h⟩, hb⟩
theorem ChkR.no {n : Nat} {N : Nat → Nat} {w w' : World} (h : ¬ OkT n N) (hb : Below w.heap.size w w') : ChkR n N w (.returned (.iface 64 (.int .i64 1))) w' := ⟨.inr ⟨rfl, h⟩, hb⟩
set_option maxRecDepth 100000 in
set_option maxHeartbeats 4000000 in
theorem check_any (n cs : Nat) (oa : Option Addr) (N : Nat → Nat) (S : Nat → Nat → Nat) (w : World) (hT : TL w oa n N S) (hN : ∀ i, i < n → N i < 4294967296) (hn : n < 1000000) :
    Calls Tryd.prog 22 #[.agg #[.slice oa n cs]] w (ChkR n N w) := by
  obtain ⟨w1, hw1⟩ : ∃ y, w.alloc (.cells #[.slice oa n cs] 26) = y := ⟨_, rfl⟩
  have hb1 : Below w.heap.size w w1 := by rw [← hw1]; exact (Below.refl _ _).alloc (Nat.le_refl _) _
  have hB1 : Blk w1 w.heap.size #[.slice oa n cs] 26 := by rw [← hw1]; exact Blk.new _ _ _
  have c0 : w1.cell? ⟨w.heap.size, 0, none⟩ = some (.slice oa n cs) := by rw [Blk.cell hB1]; rfl
  have HT := Lib.hid (hT.later hb1)
  have HNL := Lib.hid hN
  have HN := Lib.hid hn
  have HB1 := Lib.hid hb1
  clear hT hN hb1 hB1
  by_cases g1 : n < 1
  · skip
    have a1 : (n : Int) < (1 : Int) := by omega
    have a2 : decide ((n : Int) < (1 : Int)) = true := decide_eq_true a1
    have a7 : n < 1 := by omega
    have a8 : decide (n < 1) = true := decide_eq_true a7
    have hno : ¬ OkT n N := fun h => by have := h.1; omega
    go_enter Tryd.func22, Tryd.ntmps22
    go_wp2_with fail
    go_ret
    exact ChkR.no hno (HB1.out)
  · skip
    have a1 : ¬ (n : Int) < (1 : Int) := by omega
    have a2 : decide ((n : Int) < (1 : Int)) = false := decide_eq_false a1
    have a7 : ¬ n < 1 := by omega
    have a8 : decide (n < 1) = false := decide_eq_false a7
    by_cases g2 : 16 < n
    · skip
      have b1 : (16 : Int) < (n : Int) := by omega
      have b2 : decide ((16 : Int) < (n : Int)) = true := decide_eq_true b1
      have b7 : 16 < n := by omega
      have b8 : decide (16 < n) = true := decide_eq_true b7
      have hno : ¬ OkT n N := fun h => by have := h.2.1; omega
      go_enter Tryd.func22, Tryd.ntmps22
      go_wp2_with fail
      go_ret
      exact ChkR.no hno (HB1.out)
    · skip
      have b1 : ¬ (16 : Int) < (n : Int) := by omega
      have b2 : decide ((16 : Int) < (n : Int)) = false := decide_eq_false b1
      have b7 : ¬ 16 < n := by omega
      have b8 : decide (16 < n) = false := decide_eq_false b7
      have HG := Lib.hid (show 1 ≤ n ∧ n ≤ 16 by omega)
      go_enter Tryd.func22, Tryd.ntmps22
      go_wp2_with fail
      clear a1 a2 a7 a8 b1 b2 b7 b8 g1 g2 c0
      go_loopw [19] (fun x wr => ∃ i : Nat, i ≤ n ∧ x = .int .i64 (i : Int) ∧ (∀ j, j < i → N j = j + 1) ∧ Below w1.heap.size w1 wr) (fun x _ => n - (intOf x).toNat)
      case atStart => exact ⟨0, Nat.zero_le _, rfl, fun j hj => absurd hj (Nat.not_lt_zero _), Below.refl _ _⟩
      case round =>
        obtain ⟨i, hi, rfl, hok, hbw⟩ := hrel
        have HOK := Lib.hid hok
        have HBW := Lib.hid hbw
        clear hok hbw
        by_cases hlt : i < n
        · have i1 : (i : Int) < (n : Int) := by omega
          have i0 : (0 : Int) ≤ (i : Int) := by omega
          have k4 : IntKind.i64.wrap ((i : Int) + 1) = ((i + 1 : Nat) : Int) := by have := HG.out; rw [IntWalk.i64_in _ (by omega)]; omega
          obtain ⟨b, off, e, hrg⟩ := (HT.out.later HBW.out) i hlt
          subst e
          obtain ⟨ni, hni⟩ : ∃ q, N i = q := ⟨_, rfl⟩
          rw [hni] at hrg
          obtain ⟨C, hC⟩ : ∃ q, (tmL ni (S i)).toArray = q := ⟨_, rfl⟩
          have HSZ : Hid (C.size = 33) := Lib.hid (by rw [← hC]; exact tm_size _ _)
          have HON : Hid (C.all (·.oneCell') = true) := Lib.hid (by rw [← hC]; exact tm_one _ _)
          have HIS : Hid ((Tryd.prog.info? 55).map (·.size) = some C.size) := Lib.hid (by rw [HSZ.out]; exact info_t1)
          have HRG : Hid (wr.rangeAt b (off + i * 33) C.toList) := Lib.hid (by rw [← hC]; exact hrg)
          obtain ⟨b4, hqb4⟩ : ∃ y, wr.heap.size = y := ⟨_, rfl⟩
          obtain ⟨wz4, hwz4⟩ : ∃ y, wr.alloc (.cells zeroT 55) = y := ⟨_, rfl⟩
          have hbz : Below wr.heap.size wr wz4 := by rw [← hwz4]; exact (Below.refl _ _).alloc (Nat.le_refl _) _
          have hXz : Blk wz4 b4 zeroT 55 := by rw [← hwz4, ← hqb4]; exact Blk.new _ _ _
          have HTZb4 : Hid (wz4.there b4 0 C.size) := Lib.hid (hXz.there (by rw [zeroT_size, HSZ.out]; exact Nat.le_refl _))
          obtain ⟨w5, hw5⟩ : ∃ y, wz4.setCells b4 0 C.toList = y := ⟨_, rfl⟩
          have hOz : Own b4 wz4 w5 := by rw [← hw5]; exact Own.setCells _ _ _
          have HBw5 : Hid (Below wr.heap.size wr w5) := Lib.hid (hbz.trans (hOz.below (by omega) hbz.size))
          have HNw5 : Hid (Blk w5 b4 C 55) := Lib.hid (by rw [← hw5]; exact Blk.setCells hXz C.toList (by rw [zeroT_size, Array.length_toList]; exact HSZ.out))
          have HWw5 := Lib.hid hw5
          clear hbz hXz hOz hw5
          have c4 : w5.cell? ⟨b4, 0, none⟩ = some (.int .u32 (ni : Int)) := by have h9 := HNw5.out; rw [← hC] at h9; exact tm_cell0 h9
          obtain ⟨i2, hi2⟩ : ∃ q, i + 1 = q := ⟨_, rfl⟩
          have k5 : (i : Int) + 1 = (i2 : Int) := by omega
          have k6 : IntKind.i64.wrap (i2 : Int) = (i2 : Int) := IntWalk.i64_in _ (by have := HG.out; omega)
          have k7 : IntKind.u32.wrap (i2 : Int) = (i2 : Int) := IntWalk.u32_in _ (by have := HG.out; omega)
          have HI := Lib.hid (show i < n ∧ i + 1 = i2 ∧ i2 ≤ n ∧ N i = ni from ⟨hlt, hi2, by omega, hni⟩)
          have HB5 := Lib.hid (HBW.out.trans (HBw5.out.mono HBW.out.size))
          clear hC hrg hlt hi hi2 hni k4
          by_cases hq : ni = i2
          · skip
            have e1 : (ni : Int) = (i2 : Int) := by omega
            have e2 : decide ((ni : Int) = (i2 : Int)) = true := decide_eq_true e1
            have e3 : ((ni : Int) == (i2 : Int)) = true := by simp only [beq_iff_eq]; exact e1
            have e4 : decide (ni = i2) = true := decide_eq_true (by omega)
            have e5 : (ni == i2) = true := by simp only [beq_iff_eq]; omega
            go_wp2_with (first | (refine wpList_value rfl (exec_loadA (x := .tmp 22) (C := C) rfl rfl HRG.out Tryd.underlying55 rfl HIS.out) ?_) | (refine wpList_zero rfl rfl zero_t1 ?_; rw [hwz4, hqb4]; (try simp only [Act.put, List.setIfInBounds_toArray, List.set_cons_zero, List.set_cons_succ])) | (refine wpList_store_mid rfl 55 (.tmp 4) (.tmp 23) rfl b4 0 C rfl rfl HTZb4.out HIS.out HON.out ?_; rw [HWw5.out]))
            go_roundw
            case rel => exact ⟨i2, HI.out.2.2.1, by first | rfl | go_num, fun j hj => by
              by_cases e : j < i
              · exact HOK.out j e
              · rw [show j = i by have := HI.out; omega, HI.out.2.2.2, hq]; exact HI.out.2.1.symm, HB5.out⟩
            case measure => have := HI.out; simp [intOf]; omega
          · skip
            have e1 : ¬ (ni : Int) = (i2 : Int) := by omega
            have e2 : decide ((ni : Int) = (i2 : Int)) = false := decide_eq_false e1
            have e3 : ((ni : Int) == (i2 : Int)) = false := by simp only [beq_eq_false_iff_ne]; exact e1
            have e4 : decide (ni = i2) = false := decide_eq_false (by omega)
            have e5 : (ni == i2) = false := by simp only [beq_eq_false_iff_ne]; omega
            have e6 : ¬ ni = i2 := by omega
            have hno : ¬ OkT n N := fun h => hq (by rw [← HI.out.2.2.2, h.2.2 i HI.out.1]; exact HI.out.2.1)
            go_wp2_with (first | (refine wpList_value rfl (exec_loadA (x := .tmp 22) (C := C) rfl rfl HRG.out Tryd.underlying55 rfl HIS.out) ?_) | (refine wpList_zero rfl rfl zero_t1 ?_; rw [hwz4, hqb4]; (try simp only [Act.put, List.setIfInBounds_toArray, List.set_cons_zero, List.set_cons_succ])) | (refine wpList_store_mid rfl 55 (.tmp 4) (.tmp 23) rfl b4 0 C rfl rfl HTZb4.out HIS.out HON.out ?_; rw [HWw5.out]))
            go_ret
            exact ChkR.no hno (HB1.out.trans (HB5.out.mono HB1.out.size))
        · obtain rfl : n = i := by omega
          have i1 : ¬ (n : Int) < (n : Int) := by omega
          have hok : OkT n N := ⟨HG.out.1, HG.out.2, HOK.out⟩
          clear hlt hi
          go_wp2_with fail
          go_ret
          exact ChkR.ok hok (HB1.out.trans (HBW.out.mono HB1.out.size))
end Go.Proofs.YtloajfbehejehaaDoor
namespace Go.Proofs.YtloajfbehejehaaDoor
set_option linter.unusedVariables false
set_option linter.unusedSimpArgs false
open Go.RowKit
theorem und_ts : Tryd.prog.underlying 24 = some (.slice 55) := by kernel_rfl
theorem results_cell_tmp1 {P : Program} {fn : Func} {p q : Tmp} {ty : TypeId} (h : fn.results = #[.cell p ty, .tmp q]) (tmps : Array Value) (w : World) (g : Nat) (t : TypeId) (cs : Array Value) (fr : Nat × Nat) (d : TypeDesc)
    (hp : tmps.getD p undef = .pointer (some ⟨g, 0, none⟩)) (hg : w.heap[g]? = some (.cells cs t fr))
    (hu : P.underlying ty = some d) (hd : (match d with | .struct _ | .array _ _ => true | _ => false) = true) (hi : (P.info? ty).map (·.size) = some cs.size) :
    (results fn tmps).run P w = .ok (.tuple #[.agg cs, tmps.getD q undef]) w := by
  have hp' : tmps[p]?.getD undef = .pointer (some ⟨g, 0, none⟩) := by simpa using hp
  simp [results, h, hp', asAddr, run_loadVar_row w g t ty cs fr d hg hu hd hi]
theorem info_rg (v : Value) : (Tryd.prog.info? 26).map (·.size) = some (#[v] : Array Value).size := by kernel_rfl
theorem wpList_bs1 {ops : Array Oper} {rest : List Oper} {o : Oper} {a : Act} {w : World} {Q : Exit → Act → World → Prop} (hgd : o.guard = none) (x : Operand) (ho : o.op = .buildSlice 24 1 #[(0, x)]) (C : Array Value) (hx : a.eval x = .agg C)
    (h : ∀ w, (Instr.buildSlice 24 1 #[(0, .agg C)]).run Tryd.prog w = .ok (.slice (some ⟨w.heap.size, 0, none⟩) 1 1) (w.alloc (.cells C 55)))
    (hk : wpList Tryd.prog ops Q rest (a.put o.dst (.slice (some ⟨w.heap.size, 0, none⟩) 1 1)) (w.alloc (.cells C 55))) : wpList Tryd.prog ops Q (o :: rest) a w := by
  refine wpList_plain hgd fun K hK => ?_
  have e : (#[((0 : Nat), x)].map fun (i, x) => (i, a.eval x)) = #[(0, .agg C)] := by simp [hx]
  unfold Oper.wp execOp
  simp only [ho, e, h, Sem.run_bind, Result.andThen_ok]
  exact hK _ _ hk
theorem step_bs1 {ops : Array Oper} {o : Oper} {a : Act} {w : World} {K : Act → World → Prop} {Q : Exit → Act → World → Prop} {E : Prop} (hgd : o.guard = none) (x : Operand) (ho : o.op = .buildSlice 24 1 #[(0, x)]) (C : Array Value) (hx : a.eval x = .agg C)
    (h : ∀ w, (Instr.buildSlice 24 1 #[(0, .agg C)]).run Tryd.prog w = .ok (.slice (some ⟨w.heap.size, 0, none⟩) 1 1) (w.alloc (.cells C 55)))
    (hk : K (a.put o.dst (.slice (some ⟨w.heap.size, 0, none⟩) 1 1)) (w.alloc (.cells C 55))) : if Region.wanted o (yielded ops a.tmps) = true then Oper.wp Tryd.prog o a w K Q else E := by
  have hw : Region.wanted o (yielded ops a.tmps) = true := by simp [Region.wanted, hgd]
  rw [if_pos hw]
  have e : (#[((0 : Nat), x)].map fun (i, x) => (i, a.eval x)) = #[(0, .agg C)] := by simp [hx]
  unfold Oper.wp execOp
  simp only [ho, e, h, Sem.run_bind, Result.andThen_ok]
  exact hk
theorem bs_t1 (n : Nat) (S : Nat → Nat) (w : World) : (Instr.buildSlice 24 1 #[(0, .agg (tmL n S).toArray)]).run Tryd.prog w = .ok (.slice (some ⟨w.heap.size, 0, none⟩) 1 1) (w.alloc (.cells (tmL n S).toArray 55)) := by kernel_rfl
theorem TL.one {w : World} {g n : Nat} {S : Nat → Nat} {T : TypeId} (h : Blk w g (tmL n S).toArray T) : TL w (some ⟨g, 0, none⟩) 1 (fun _ => n) (fun _ => S) := fun i hi => ⟨g, 0, rfl, fun j v hv => by
  obtain rfl : i = 0 := by omega
  rw [Blk.cell h, List.getElem?_toArray, Nat.zero_mul, Nat.add_zero, Nat.zero_add]; exact hv⟩
set_option maxRecDepth 100000 in
set_option maxHeartbeats 4000000 in
theorem tclone_any (n cs b off : Nat) (N : Nat → Nat) (S : Nat → Nat → Nat) (w : World) (hT : TL w (some ⟨b, off, none⟩) n N S) (hn : n < 100000) :
    Calls Tryd.prog 23 #[.slice (some ⟨b, off, none⟩) n cs] w fun e w' => ∃ v, e = .returned v ∧ TO 55 w' w.heap.size v n N S ∧ Below w.heap.size w w' := by
  have heq := Lib.run_eql_slice_nil (P := Tryd.prog) w 24 55 (some ⟨b, off, none⟩) n cs 0 0 und_ts
  have hE : Blk (w.alloc (.cells #[] 55)) w.heap.size #[] 55 := Blk.new _ _ _
  have HG := Lib.hid (TO.empty hE (Nat.le_refl _) (fun _ => 0) (fun _ _ => 0))
  have HA := Lib.hid (hT.later ((Below.refl w.heap.size w).alloc (Nat.le_refl _) (.cells #[] 55)))
  have HN := Lib.hid (show 0 + n < 1000000 by omega)
  clear hE hT hn
  go_enter Tryd.func23, Tryd.ntmps23
  go_wp2_with (at_builtin; refine app_TO und_ts info_f1 rfl (.tmp 5) (.tmp 6) rfl w.heap.size (.slice (some ⟨w.heap.size, 0, none⟩) 0 0) 0 n cs (fun _ => 0) N (fun _ _ => 0) S (some ⟨b, off, none⟩) _ rfl HG.out rfl HA.out (fun e => by cases e) HN.out ?c1 ?_)
  case c1 => simp
  intro v' w' hG hb _
  have hG2 := hG.congr (M := N) (U := S) fun i hi => by unfold catN catT; rw [if_neg (Nat.not_lt_zero _), if_neg (Nat.not_lt_zero _), Nat.sub_zero]; exact ⟨rfl, rfl⟩
  have hB' : Below w.heap.size w w' := ((Below.refl _ _).alloc (Nat.le_refl _) (.cells #[] 55)).trans hb
  have HG2 := Lib.hid hG2
  have HB := Lib.hid hB'
  clear hG hG2 hb HG HA hB'
  go_wp2_with fail
  go_ret
  exact ⟨v', rfl, HG2.out, HB.out⟩
set_option maxRecDepth 100000 in
set_option maxHeartbeats 4000000 in
theorem first_any (S : Nat → Nat) (w : World) :
    Calls Tryd.prog 6 #[.agg (rowC 32 S).toArray] w fun e w' => ∃ g, e = .returned (.agg #[.slice (some ⟨g, 0, none⟩) 1 1]) ∧ TL w' (some ⟨g, 0, none⟩) 1 (fun _ => 1) (fun _ => S) ∧ Below w.heap.size w w' := by
  obtain ⟨F, hF⟩ : ∃ q, (rowC 32 S).toArray = q := ⟨_, rfl⟩
  obtain ⟨C, hC⟩ : ∃ q, (tmL 1 S).toArray = q := ⟨_, rfl⟩
  rw [hF]
  obtain ⟨b2, hb2⟩ : ∃ q, w.heap.size + 1 = q := ⟨_, rfl⟩
  obtain ⟨w1, hw1⟩ : ∃ q, (w.alloc (.cells F 22)).alloc (.cells #[.slice none 0 0] 26) = q := ⟨_, rfl⟩
  have hb1 : Below w.heap.size w w1 := by rw [← hw1]; exact ((Below.refl _ _).alloc (Nat.le_refl _) _).alloc (by simp) _
  have hP : Blk w1 w.heap.size F 22 := by rw [← hw1]; exact (Blk.new _ _ _).alloc _
  have hR : Blk w1 b2 #[.slice none 0 0] 26 := by rw [← hw1, ← hb2]; simpa using Blk.new (w.alloc (.cells F 22)) #[.slice none 0 0] 26
  obtain ⟨w2, hw2⟩ : ∃ q, w1.alloc (.cells C 55) = q := ⟨_, rfl⟩
  have hb12 : Below w1.heap.size w1 w2 := by rw [← hw2]; exact (Below.refl _ _).alloc (Nat.le_refl _) _
  obtain ⟨g, hg⟩ : ∃ q, w1.heap.size = q := ⟨_, rfl⟩
  have hT : Blk w2 g C 55 := by rw [← hw2, ← hg]; exact Blk.new _ _ _
  have hR2 := Blk.below hR hb12 (Blk.lt hR)
  have f2 : w2.frozen? ⟨b2, 0, none⟩ = false := Blk.free hR2 0
  have c2 : w2.cell? ⟨b2, 0, none⟩ = some (.slice none 0 0) := by rw [Blk.cell hR2]; rfl
  obtain ⟨w3, hw3⟩ : ∃ q, w2.setCell ⟨b2, 0, none⟩ (.slice (some ⟨g, 0, none⟩) 1 1) = q := ⟨_, rfl⟩
  have hO : Own b2 w2 w3 := by rw [← hw3]; exact (Own.refl _ _).set 0 _
  have HX : Hid (Blk w3 b2 #[.slice (some ⟨g, 0, none⟩) 1 1] 26) := Lib.hid (by rw [← hw3]; exact hR2.set 0 _)
  have HT3 : Hid (TL w3 (some ⟨g, 0, none⟩) 1 (fun _ => 1) (fun _ => S)) := Lib.hid (by
    have h9 := hO.blk hT (by have := Blk.lt hR; omega)
    rw [← hC] at h9; exact TL.one h9)
  have HB : Hid (Below w.heap.size w w3) := Lib.hid (by
    have h9 := hb1.trans (hb12.mono hb1.size)
    exact h9.trans (hO.below (by omega) h9.size))
  have HFZ : Hid (F.size = 32) := Lib.hid (by rw [← hF, List.size_toArray, rowC_len])
  have HIF : Hid ((Tryd.prog.info? 22).map (·.size) = some F.size) := Lib.hid (by rw [HFZ.out]; exact info_a32)
  have HRF := Lib.hid hP.rangeA
  have HBT : Hid (∀ w, (Instr.build 55 #[(0, .int .u32 1), (1, .agg F)]).run Tryd.prog w = .ok (.agg C) w) := Lib.hid (by rw [← hF, ← hC]; exact build_t1 1 S)
  have HBS : Hid (∀ w, (Instr.buildSlice 24 1 #[(0, .agg C)]).run Tryd.prog w = .ok (.slice (some ⟨w.heap.size, 0, none⟩) 1 1) (w.alloc (.cells C 55))) := Lib.hid (by rw [← hC]; exact bs_t1 1 S)
  have HW2 := Lib.hid hw2
  clear hP hR hb1 hb12 hT hR2 hO hw2 hF hC
  go_enter Tryd.func6, Tryd.ntmps6
  go_wp2_with (first | (refine wpList_value rfl (exec_loadA (x := .tmp 1) (C := F) rfl rfl HRF.out Tryd.underlying22 rfl HIF.out) ?_) | (refine wpList_value rfl (exec_buildM (parts := #[(0, .const (.int .u32 1)), (1, .tmp 3)]) (ps := #[(0, .int .u32 1), (1, .agg F)]) rfl (by first | rfl | (simp [Act.eval]; done) | (go_simp; done)) HBT.out) ?_) | (refine wpList_bs1 rfl (.tmp 4) rfl C rfl HBS.out ?_; rw [HW2.out, hg]; (try simp only [Act.put, List.setIfInBounds_toArray, List.set_cons_zero, List.set_cons_succ])))
  refine bodyPost_ret (v := .agg #[.slice (some ⟨g, 0, none⟩) 1 1]) ?_ rfl ⟨g, rfl, HT3.out, HB.out⟩
  exact results_cell_row Tryd.results6 _ _ b2 26 #[.slice (some ⟨g, 0, none⟩) 1 1] (0, 0) _ rfl HX.out Tryd.underlying26 rfl (info_rg _)
end Go.Proofs.YtloajfbehejehaaDoor
namespace Go.Proofs.YtloajfbehejehaaDoor
set_option linter.unusedVariables false
set_option linter.unusedSimpArgs false
open Go.RowKit
/-- What Rotate answers. -/
def RotR (n : Nat) (N : Nat → Nat) (S : Nat → Nat → Nat) (Ky : Nat → Nat) (w : World) (e : Ending) (w' : World) : Prop := Below w.heap.size w w' ∧
  ((e = .returned (.tuple #[.agg #[.slice none 0 0], .iface 64 (.int .i64 1)]) ∧ ¬ OkT n N) ∨ (e = .returned (.tuple #[.agg #[.slice none 0 0], .iface 64 (.int .i64 7)]) ∧ OkT n N ∧ n = 16) ∨
  (OkT n N ∧ n < 16 ∧ ∃ o c, e = .returned (.tuple #[.agg #[.slice o (n + 1) c], .nilIface]) ∧ TL w' o (n + 1) (fun i => i + 1) (catT n S (fun _ => Ky)) ∧ ∀ a, o = some a → w.heap.size ≤ a.block))
theorem RotR.ok {n : Nat} {N : Nat → Nat} {S : Nat → Nat → Nat} {Ky : Nat → Nat} {w w' : World} {o : Option Addr} {c : Nat} (h : OkT n N) (hn : n < 16) (hT : TL w' o (n + 1) (fun i => i + 1) (catT n S (fun _ => Ky))) (hf : ∀ a, o = some a → w.heap.size ≤ a.block) (hb : Below w.heap.size w w') : RotR n N S Ky w (.returned (.tuple #[.agg #[.slice o (n + 1) c], .nilIface])) w' := ⟨hb, .inr (.inr ⟨h, hn, o, c, rfl, hT, hf⟩)⟩
theorem RotR.no {n : Nat} {N : Nat → Nat} {S : Nat → Nat → Nat} {Ky : Nat → Nat} {w w' : World} (h : ¬ OkT n N) (hb : Below w.heap.size w w') : RotR n N S Ky w (.returned (.tuple #[.agg #[.slice none 0 0], .iface 64 (.int .i64 1)])) w' := ⟨hb, .inl ⟨rfl, h⟩⟩
theorem RotR.full {n : Nat} {N : Nat → Nat} {S : Nat → Nat → Nat} {Ky : Nat → Nat} {w w' : World} (h : OkT n N) (hn : n = 16) (hb : Below w.heap.size w w') : RotR n N S Ky w (.returned (.tuple #[.agg #[.slice none 0 0], .iface 64 (.int .i64 7)])) w' := ⟨hb, .inr (.inl ⟨rfl, h, hn⟩)⟩
theorem one_sl (o : Option Addr) (n c : Nat) : (#[Value.slice o n c] : Array Value).all (·.oneCell') = true := by simp [Value.oneCell']
theorem TL.away {w w' : World} {oa : Option Addr} {n b : Nat} {N : Nat → Nat} {S : Nat → Nat → Nat} (h : TL w oa n N S) (hO : Own b w w') (ha : ∀ a, oa = some a → a.block ≠ b) : TL w' oa n N S := fun i hi => by
  obtain ⟨b', off, e, hr⟩ := h i hi
  exact ⟨b', off, e, fun j v hv => hO.cell (hr j v hv) (show b' ≠ b from ha _ e)⟩
/-- Terms lie in no block of one cell that is a slice. -/
theorem TL.not {w : World} {oa : Option Addr} {n b : Nat} {N : Nat → Nat} {S : Nat → Nat → Nat} {v : Value} {T : TypeId} (h : TL w oa n N S) (hn : 1 ≤ n) (hB : Blk w b #[v] T) (hv : ∀ k m, v ≠ .int k m) : ∀ a, oa = some a → a.block ≠ b := fun a ha e => by
  obtain ⟨b', off, e1, e2⟩ := h.cell0 (i := 0) (by omega)
  rw [ha] at e1; cases e1
  have e3 : b' = b := e
  rw [e3, Blk.cell hB] at e2
  match off, e2 with
  | 0, e2 => exact hv _ _ (by simpa using e2)
  | off + 1, e2 => simp at e2
set_option maxRecDepth 100000 in
set_option maxHeartbeats 8000000 in
theorem rotate_any (n cs : Nat) (oa : Option Addr) (N : Nat → Nat) (S : Nat → Nat → Nat) (Ky : Nat → Nat) (w : World) (hT : TL w oa n N S) (hN : ∀ i, i < n → N i < 4294967296) (hn : n < 10000) :
    Calls Tryd.prog 7 #[.agg #[.slice oa n cs], .agg (rowC 32 Ky).toArray] w (RotR n N S Ky w) := by
  obtain ⟨F, hF⟩ : ∃ q, (rowC 32 Ky).toArray = q := ⟨_, rfl⟩
  rw [hF]
  obtain ⟨b3, hb3⟩ : ∃ q, w.heap.size + 1 = q := ⟨_, rfl⟩
  obtain ⟨b4, hb4⟩ : ∃ q, b3 + 1 = q := ⟨_, rfl⟩
  obtain ⟨w0, hw0⟩ : ∃ q, ((w.alloc (.cells #[.slice oa n cs] 26)).alloc (.cells F 22)).alloc (.cells #[.slice none 0 0] 26) = q := ⟨_, rfl⟩
  have hb0 : Below w.heap.size w w0 := by rw [← hw0]; exact (((Below.refl _ _).alloc (Nat.le_refl _) _).alloc (by simp) _).alloc (by simp; omega) _
  have hR : Blk w0 w.heap.size #[.slice oa n cs] 26 := by rw [← hw0]; exact ((Blk.new _ _ _).alloc _).alloc _
  have hK : Blk w0 b3 F 22 := by rw [← hw0, ← hb3]; have h9 := (Blk.new (w.alloc (.cells #[.slice oa n cs] 26)) F 22).alloc (.cells #[.slice none 0 0] 26); simpa using h9
  have hZ : Blk w0 b4 #[.slice none 0 0] 26 := by rw [← hw0, ← hb4, ← hb3]; have h9 := Blk.new ((w.alloc (.cells #[.slice oa n cs] 26)).alloc (.cells F 22)) #[.slice none 0 0] 26; simpa using h9
  have HCK := Lib.hid (check_any n cs oa N S w0 (hT.later hb0) hN (by omega))
  have HB0 := Lib.hid hb0
  have HR0 := Lib.hid hR
  have HK0 := Lib.hid hK
  have HZ0 := Lib.hid hZ
  have HT := Lib.hid hT
  have HNN := Lib.hid hn
  have HF := Lib.hid hF
  have HGE := Lib.hid (show w.heap.size ≤ b4 by omega)
  have HNB := Lib.hid (show w.heap.size ≠ b4 ∧ b3 ≠ b4 by omega)
  have c2 : w0.cell? ⟨w.heap.size, 0, none⟩ = some (.slice oa n cs) := by rw [Blk.cell hR]; rfl
  clear hb0 hR hK hZ hT hN hn hF
  go_enter Tryd.func7, Tryd.ntmps7
  go_wp2_with fail
  refine HCK.out.mono ?_
  rintro e w1 ⟨(⟨rfl, hok⟩ | ⟨rfl, hno⟩), hb1⟩
  · have HOK := Lib.hid hok
    have HR1 := Lib.hid (Blk.below HR0.out hb1 (Blk.lt HR0.out))
    have HK1 := Lib.hid (Blk.below HK0.out hb1 (Blk.lt HK0.out))
    have HZ1 := Lib.hid (Blk.below HZ0.out hb1 (Blk.lt HZ0.out))
    have HB1 := Lib.hid (HB0.out.trans (hb1.mono HB0.out.size))
    have c2 : w1.cell? ⟨w.heap.size, 0, none⟩ = some (.slice oa n cs) := by rw [Blk.cell HR1.out]; rfl
    have c4 : w1.cell? ⟨b4, 0, none⟩ = some (.slice none 0 0) := by rw [Blk.cell HZ1.out]; rfl
    have f4 : w1.frozen? ⟨b4, 0, none⟩ = false := Blk.free HZ1.out 0
    clear hb1 hok hb3 hb4 hw0 HR0 HK0 HZ0
    by_cases h16 : n = 16
    · have HX : Hid (Blk (w1.setCell ⟨b4, 0, none⟩ (.slice none 0 0)) b4 #[.slice none 0 0] 26) := Lib.hid (HZ1.out.set 0 _)
      have HBX : Hid (Below w.heap.size w (w1.setCell ⟨b4, 0, none⟩ (.slice none 0 0))) := Lib.hid (HB1.out.trans (((Own.refl b4 w1).set 0 _).below HGE.out HB1.out.size))
      have a1 : (n : Int) = 16 := by omega
      have a2 : decide ((n : Int) = 16) = true := decide_eq_true a1
      have a3 : ((n : Int) == 16) = true := by simp only [beq_iff_eq]; exact a1
      have a4 : decide (n = 16) = true := decide_eq_true (by omega)
      have a5 : (n == 16) = true := by simp only [beq_iff_eq]; omega
      go_wp2_with fail
      refine bodyPost_ret (v := .tuple #[.agg #[.slice none 0 0], .iface 64 (.int .i64 7)]) ?_ rfl (RotR.full HOK.out h16 HBX.out)
      exact results_cell_tmp1 (q := 5) Tryd.results7 _ _ b4 26 #[.slice none 0 0] (0, 0) _ rfl HX.out Tryd.underlying26 rfl (info_rg _)
    · have HLT := Lib.hid (show n < 16 by have := HOK.out.2.1; omega)
      obtain ⟨bb, off, ho, -⟩ := (HT.out.later HB1.out) 0 (by have := HOK.out.1; omega)
      subst ho
      obtain ⟨n1, hn1⟩ : ∃ q, n + 1 = q := ⟨_, rfl⟩
      obtain ⟨C, hC⟩ : ∃ q, (tmL n1 Ky).toArray = q := ⟨_, rfl⟩
      have HCC := Lib.hid hC
      have k5 : (n : Int) + 1 = (n1 : Int) := by omega
      have k6 : IntKind.i64.wrap (n1 : Int) = (n1 : Int) := IntWalk.i64_in _ (by have := HLT.out; omega)
      have k7 : IntKind.u32.wrap (n1 : Int) = (n1 : Int) := IntWalk.u32_in _ (by have := HLT.out; omega)
      have HIF : Hid ((Tryd.prog.info? 22).map (·.size) = some F.size) := Lib.hid (by rw [← HF.out, List.size_toArray, rowC_len]; exact info_a32)
      have HBT : Hid (∀ w, (Instr.build 55 #[(0, .int .u32 (n1 : Int)), (1, .agg F)]).run Tryd.prog w = .ok (.agg C) w) := Lib.hid (by rw [← HF.out, ← hC]; exact build_t1 n1 Ky)
      have HBS : Hid (∀ w, (Instr.buildSlice 24 1 #[(0, .agg C)]).run Tryd.prog w = .ok (.slice (some ⟨w.heap.size, 0, none⟩) 1 1) (w.alloc (.cells C 55))) := Lib.hid (by rw [← hC]; exact bs_t1 n1 Ky)
      have hd := (Below.refl w1.heap.size w1).drew
      have HC2D : Hid (∀ A, Own b4 w1.drew A → A.cell? ⟨w.heap.size, 0, none⟩ = some (.slice (some ⟨bb, off, none⟩) n cs)) := Lib.hid fun A hA => by rw [Blk.cell (hA.blk (Blk.below HR1.out hd (Blk.lt HR1.out)) HNB.out.1)]; rfl
      have HKD : Hid (∀ A, Own b4 w1.drew A → A.rangeAt b3 0 F.toList) := Lib.hid fun A hA => (hA.blk (Blk.below HK1.out hd (Blk.lt HK1.out)) HNB.out.2).rangeA
      have HB4D := Lib.hid (Blk.below HZ1.out hd (Blk.lt HZ1.out))
      have HBD := Lib.hid (HB1.out.trans (hd.mono HB1.out.size))
      have HTD := Lib.hid ((HT.out.later HB1.out).later hd)
      have HNS := Lib.hid (show n < 100000 by have := HNN.out; omega)
      have HNS1 := Lib.hid (show n + 1 < 1000000 by have := HNN.out; omega)
      have HTLF : Hid (∀ (A : World) (oq : Option Addr) (cq : Nat), TL A oq (n + 1) (catN n N (fun _ => n1)) (catT n S (fun _ => Ky)) → ∀ {B : World}, Own b4 A B → (∀ a, oq = some a → a.block ≠ b4) → TL B oq (n + 1) (fun i => i + 1) (catT n S (fun _ => Ky))) := Lib.hid fun A oq cq h B hO hne => (h.congr (M := fun i => i + 1) (U := catT n S (fun _ => Ky)) fun i hi => ⟨by
        unfold catN
        by_cases e : i < n
        · rw [if_pos e]; exact HOK.out.2.2 i e
        · rw [if_neg e]; show n1 = i + 1; omega, rfl⟩).away hO hne
      have a1 : ¬ (n : Int) = 16 := by omega
      have a2 : decide ((n : Int) = 16) = false := decide_eq_false a1
      have a3 : ((n : Int) == 16) = false := by simp only [beq_eq_false_iff_ne]; exact a1
      have a4 : decide (n = 16) = false := decide_eq_false (by omega)
      have a5 : (n == 16) = false := by simp only [beq_eq_false_iff_ne]; omega
      have a6 : ¬ n = 16 := by omega
      clear h16 a1 hn1 hC hd c4 f4 HCK HT
      go_upto_region 6 with fail
      have hvWR := Below.refl w1.drew.heap.size w1.drew
      refine wp_region_held_drew (S := (Own b4 w1.drew)) (by kernel_rfl) ?_ (fun hHeld => ?_)
      · (try dsimp only)
        (first | exact Own.refl _ _ | assumption | exact Own.of_below (by assumption))
      generalize w1.drew = WR at *
      refine wpAnyH_take (i := 0) (oi := { dst := some 19, op := Go.Op.fieldAddr 26 (Go.Operand.tmp 2) 0, type := 0, pos := "keyring.go:48", after := #[], guard := none }) (v := ?_) rfl (by kernel_rfl) (by kernel_rfl) (by kernel_rfl) (fun _ _ _ h => h) (Or.inl ⟨by rfl, ?_⟩) (by assumption) ?_
      rotate_left
      · intro wS hSw
        (try dsimp only at hSw)
        go_simp
        (try with_reducible rfl)
      (try simp only [Act.put, List.setIfInBounds_toArray, List.set_cons_zero, List.set_cons_succ])
      refine wpAnyH_take (i := 1) (oi := { dst := some 20, op := Go.Op.load 24 (Go.Operand.tmp 19), type := 24, pos := "keyring.go:48", after := #[{ on := 0, ground := Go.Ground.data }], guard := none }) (v := ?_) rfl (by kernel_rfl) (by kernel_rfl) (by kernel_rfl) (fun _ _ _ h => h) (Or.inl ⟨by rfl, ?_⟩) (by assumption) ?_
      rotate_left
      · intro wS hSw
        (have c := HC2D.out _ hSw; go_simp; (try with_reducible rfl))
      (try simp only [Act.put, List.setIfInBounds_toArray, List.set_cons_zero, List.set_cons_succ])
      refine wpAnyH_take (i := 3) (oi := { dst := some 22, op := Go.Op.fieldAddr 26 (Go.Operand.tmp 2) 0, type := 0, pos := "keyring.go:48", after := #[], guard := none }) (v := ?_) rfl (by kernel_rfl) (by kernel_rfl) (by kernel_rfl) (fun _ _ _ h => h) (Or.inl ⟨by rfl, ?_⟩) (by assumption) ?_
      rotate_left
      · intro wS hSw
        (try dsimp only at hSw)
        go_simp
        (try with_reducible rfl)
      (try simp only [Act.put, List.setIfInBounds_toArray, List.set_cons_zero, List.set_cons_succ])
      refine wpAnyH_take (i := 4) (oi := { dst := some 23, op := Go.Op.load 24 (Go.Operand.tmp 22), type := 24, pos := "keyring.go:48", after := #[{ on := 3, ground := Go.Ground.data }], guard := none }) (v := ?_) rfl (by kernel_rfl) (by kernel_rfl) (by kernel_rfl) (fun _ _ _ h => h) (Or.inl ⟨by rfl, ?_⟩) (by assumption) ?_
      rotate_left
      · intro wS hSw
        (have c := HC2D.out _ hSw; go_simp; (try with_reducible rfl))
      (try simp only [Act.put, List.setIfInBounds_toArray, List.set_cons_zero, List.set_cons_succ])
      refine wpAnyH_take (i := 5) (oi := { dst := some 24, op := Go.Op.call { callee := Go.Callee.builtin Go.Builtin.len, args := #[Go.Operand.tmp 23], argTypes := #[24] }, type := 3, pos := "keyring.go:48", after := #[{ on := 4, ground := Go.Ground.data }], guard := none }) (v := ?_) rfl (by kernel_rfl) (by kernel_rfl) (by kernel_rfl) (fun _ _ _ h => h) (Or.inl ⟨by rfl, ?_⟩) (by assumption) ?_
      rotate_left
      · intro wS hSw
        (try dsimp only at hSw)
        go_simp
        (try with_reducible rfl)
      (try simp only [Act.put, List.setIfInBounds_toArray, List.set_cons_zero, List.set_cons_succ])
      refine wpAnyH_take (i := 6) (oi := { dst := some 25, op := Go.Op.binOp Go.BinOp.add 3 (Go.Operand.tmp 24) (Go.Operand.const (Go.Value.int Go.IntKind.i64 1)) 3, type := 3, pos := "keyring.go:48", after := #[{ on := 5, ground := Go.Ground.data }], guard := none }) (v := ?_) rfl (by kernel_rfl) (by kernel_rfl) (by kernel_rfl) (fun _ _ _ h => h) (Or.inl ⟨by rfl, ?_⟩) (by assumption) ?_
      rotate_left
      · intro wS hSw
        (try dsimp only at hSw)
        go_simp
        (try with_reducible rfl)
      (try simp only [Act.put, List.setIfInBounds_toArray, List.set_cons_zero, List.set_cons_succ])
      refine wpAnyH_take (i := 7) (oi := { dst := some 26, op := Go.Op.convert 3 39 (Go.Operand.tmp 25), type := 39, pos := "keyring.go:48", after := #[{ on := 6, ground := Go.Ground.data }], guard := none }) (v := ?_) rfl (by kernel_rfl) (by kernel_rfl) (by kernel_rfl) (fun _ _ _ h => h) (Or.inl ⟨by rfl, ?_⟩) (by assumption) ?_
      rotate_left
      · intro wS hSw
        (try dsimp only at hSw)
        go_simp
        (try with_reducible rfl)
      (try simp only [Act.put, List.setIfInBounds_toArray, List.set_cons_zero, List.set_cons_succ])
      refine wpAnyH_take (i := 8) (oi := { dst := some 27, op := Go.Op.load 22 (Go.Operand.tmp 3), type := 22, pos := "keyring.go:48", after := #[], guard := none }) (v := ?_) rfl (by kernel_rfl) (by kernel_rfl) (by kernel_rfl) (fun _ _ _ h => h) (Or.inl ⟨by rfl, ?_⟩) (by assumption) ?_
      rotate_left
      · intro wS hSw
        (refine exec_loadA (x := .tmp 3) (C := F) ?_ ?_ (HKD.out _ hSw) Tryd.underlying22 rfl HIF.out <;> rfl)
      (try simp only [Act.put, List.setIfInBounds_toArray, List.set_cons_zero, List.set_cons_succ])
      refine wpAnyH_take (i := 9) (oi := { dst := some 28, op := Go.Op.build 55 #[(0, Go.Operand.tmp 26), (1, Go.Operand.tmp 27)], type := 55, pos := "keyring.go:48", after := #[{ on := 7, ground := Go.Ground.data }, { on := 8, ground := Go.Ground.data }], guard := none }) (v := ?_) rfl (by kernel_rfl) (by kernel_rfl) (by kernel_rfl) (fun _ _ _ h => h) (Or.inl ⟨by rfl, ?_⟩) (by assumption) ?_
      rotate_left
      · intro wS hSw
        (refine exec_buildM (parts := #[(0, .tmp 26), (1, .tmp 27)]) (ps := #[(0, .int .u32 (n1 : Int)), (1, .agg F)]) ?_ ?_ HBT.out <;> (first | rfl | (simp [Act.eval]; done) | (go_simp; done)))
      (try simp only [Act.put, List.setIfInBounds_toArray, List.set_cons_zero, List.set_cons_succ])
      refine wpAnyH_ready (rs := [2, 10]) (by kernel_rfl) (by simp) ?_
      refine AllReadyH.cons (o := { dst := some 21, op := Go.Op.call { callee := Go.Callee.value (Go.Operand.func 23), args := #[Go.Operand.tmp 20], argTypes := #[24] }, type := 24, pos := "keyring.go:48", after := #[{ on := 1, ground := Go.Ground.data }], guard := none }) rfl (fun K hK => ?_) ?_
      · skip
        go_simp
        (refine (tclone_any n cs bb off N S WR (HTD.out.later hvWR) HNS.out).mono ?_; rintro e VCx2 ⟨vc, rfl, hto, hv⟩; have HTO := Lib.hid hto; have HBC : Hid (WR.heap.size ≤ WR.heap.size) := Lib.hid hvWR.size; have HCS := Lib.hid hv.size; have hvVCx2 := Below.trans hvWR (hv.mono hvWR.size); clear hto hv; skip)
        (try go_wp2_with fail)
        refine hK.out _ _ ?_ (fun hHeld => ?_)
        · (try dsimp only)
          (first | exact Own.refl _ _ | assumption | exact Own.of_below (by assumption))
        clear hK K
        (try simp only [Act.put, List.setIfInBounds_toArray, List.set_cons_zero, List.set_cons_succ])
        refine wpAnyH_ready (rs := [10]) (by kernel_rfl) (by simp) ?_
        refine AllReadyH.cons (o := { dst := some 29, op := Go.Op.buildSlice 24 1 #[(0, Go.Operand.tmp 28)], type := 24, pos := "keyring.go:48", after := #[{ on := 9, ground := Go.Ground.data }], guard := none }) rfl (fun K hK => ?_) AllReadyH.nil
        (refine step_bs1 rfl (.tmp 28) rfl C rfl HBS.out ?_; obtain ⟨VBx2, hw⟩ : ∃ q, VCx2.alloc (.cells C 55) = q := ⟨_, rfl⟩; rw [hw]; have hv : Below VCx2.heap.size VCx2 VBx2 := (by rw [← hw]; exact (Below.refl _ _).alloc (Nat.le_refl _) _); have HTO := Lib.hid (HTO.out.later hv); have HCS := Lib.hid (Nat.le_trans HCS.out hv.size); have HTN : Hid (TL VBx2 (some ⟨VCx2.heap.size, 0, none⟩) 1 (fun _ => n1) (fun _ => Ky)) := Lib.hid (by have h9 : Blk VBx2 VCx2.heap.size C 55 := (by rw [← hw]; exact Blk.new _ _ _); rw [← HCC.out] at h9; exact TL.one h9); have hvVBx2 := Below.trans hvVCx2 (hv.mono hvVCx2.size); clear hv hw; skip)
        refine hK.out _ _ ?_ (fun hHeld => ?_)
        · (try dsimp only)
          (first | exact Own.refl _ _ | assumption | exact Own.of_below (by assumption))
        clear hK K
        (try simp only [Act.put, List.setIfInBounds_toArray, List.set_cons_zero, List.set_cons_succ])
        refine wpAnyH_ready (rs := [11]) (by kernel_rfl) (by simp) ?_
        refine AllReadyH.cons (o := { dst := some 30, op := Go.Op.call { callee := Go.Callee.builtin Go.Builtin.append, args := #[Go.Operand.tmp 21, Go.Operand.tmp 29], argTypes := #[24, 24] }, type := 24, pos := "keyring.go:48", after := #[{ on := 2, ground := Go.Ground.data }, { on := 10, ground := Go.Ground.data }, { on := 2, ground := Go.Ground.chain }], guard := none }) rfl (fun K hK => ?_) AllReadyH.nil
        (refine step_TO und_ts info_f1 rfl (.tmp 21) (.tmp 29) rfl WR.heap.size vc n 1 1 N (fun _ => n1) S (fun _ => Ky) (some ⟨VCx2.heap.size, 0, none⟩) VBx2 rfl HTO.out rfl HTN.out (fun e => by cases e) HNS1.out HCS.out ?_; intro v' VA hto hb hg; obtain ⟨oq, cq, rfl, hq1, hq2, _, hqf, htl⟩ := hto.out; have HTL := Lib.hid htl; have HFR : Hid (∀ a, oq = some a → w.heap.size ≤ a.block) := Lib.hid (fun a ha => Nat.le_trans (Nat.le_trans HBD.out.size HBC.out) (hqf a ha).1); have HBA := Lib.hid (hvVBx2.trans (hb.mono HBC.out)); have hvVA := HBA.out; have HB4A := Lib.hid (Blk.below HB4D.out HBA.out (Blk.lt HB4D.out)); clear hto hb hg hq1 hq2 hqf htl; skip)
        refine hK.out _ _ ?_ (fun hHeld => ?_)
        · (try dsimp only)
          (first | exact Own.refl _ _ | assumption | exact Own.of_below (by assumption))
        clear hK K
        (try simp only [Act.put, List.setIfInBounds_toArray, List.set_cons_zero, List.set_cons_succ])
        refine wpAnyH_take (i := 12) (oi := { dst := some 31, op := Go.Op.build 26 #[(0, Go.Operand.tmp 30)], type := 26, pos := "keyring.go:48", after := #[{ on := 11, ground := Go.Ground.data }], guard := none }) (v := ?_) rfl (by kernel_rfl) (by kernel_rfl) (by kernel_rfl) (fun _ _ _ h => h) (Or.inl ⟨by rfl, ?_⟩) (by assumption) ?_
        rotate_left
        · intro wS hSw
          (try dsimp only at hSw)
          go_simp
          (try with_reducible rfl)
        (try simp only [Act.put, List.setIfInBounds_toArray, List.set_cons_zero, List.set_cons_succ])
        refine wpAnyH_ready (rs := [13]) (by kernel_rfl) (by simp) ?_
        refine AllReadyH.cons (o := { dst := none, op := Go.Op.store 26 (Go.Operand.tmp 4) (Go.Operand.tmp 31), type := 0, pos := "keyring.go:48", after := #[{ on := 12, ground := Go.Ground.data }, { on := 11, ground := Go.Ground.chain }, { on := 0, ground := Go.Ground.phase }, { on := 1, ground := Go.Ground.phase }, { on := 2, ground := Go.Ground.phase }, { on := 3, ground := Go.Ground.phase }, { on := 4, ground := Go.Ground.phase }, { on := 5, ground := Go.Ground.phase }, { on := 6, ground := Go.Ground.phase }, { on := 7, ground := Go.Ground.phase }, { on := 8, ground := Go.Ground.phase }, { on := 9, ground := Go.Ground.phase }, { on := 10, ground := Go.Ground.phase }, { on := 11, ground := Go.Ground.phase }, { on := 12, ground := Go.Ground.phase }], guard := none }) rfl (fun K hK => ?_) AllReadyH.nil
        (refine step_storeM rfl 26 (.tmp 4) (.tmp 31) rfl b4 0 #[.slice oq (n + 1) cq] rfl rfl (HB4A.out.there (Nat.le_refl 1)) (info_rg _) (one_sl _ _ _) ?_; have HO9 : Hid (Own b4 VA _) := Lib.hid (Own.setCells (#[Value.slice oq (n + 1) cq] : Array Value).toList 0 VA); have hO9 := (Own.of_below hvVA).trans HO9.out; have HB9 : Hid (Blk (VA.setCells b4 0 [.slice oq (n + 1) cq]) b4 #[.slice oq (n + 1) cq] 26) := Lib.hid (Blk.setCells HB4A.out [_] rfl); skip)
        refine hK.out _ _ ?_ (fun hHeld => ?_)
        · (try dsimp only)
          (first | exact Own.refl _ _ | assumption | exact Own.of_below (by assumption))
        clear hK K
        (try simp only [Act.put, List.setIfInBounds_toArray, List.set_cons_zero, List.set_cons_succ])
        refine wpAnyH_take (i := 14) (oi := { dst := some 5, op := Go.Op.assign (Go.Operand.const Go.Value.nilIface), type := 29, pos := "keyring.go:48", after := #[{ on := 13, ground := Go.Ground.chain }, { on := 0, ground := Go.Ground.phase }, { on := 1, ground := Go.Ground.phase }, { on := 2, ground := Go.Ground.phase }, { on := 3, ground := Go.Ground.phase }, { on := 4, ground := Go.Ground.phase }, { on := 5, ground := Go.Ground.phase }, { on := 6, ground := Go.Ground.phase }, { on := 7, ground := Go.Ground.phase }, { on := 8, ground := Go.Ground.phase }, { on := 9, ground := Go.Ground.phase }, { on := 10, ground := Go.Ground.phase }, { on := 11, ground := Go.Ground.phase }, { on := 12, ground := Go.Ground.phase }, { on := 13, ground := Go.Ground.phase }], guard := none }) (v := ?_) rfl (by kernel_rfl) (by kernel_rfl) (by kernel_rfl) (fun _ _ _ h => h) (Or.inl ⟨by rfl, ?_⟩) (by assumption) ?_
        rotate_left
        · intro wS hSw
          (try dsimp only at hSw)
          go_simp
          (try with_reducible rfl)
        (try simp only [Act.put, List.setIfInBounds_toArray, List.set_cons_zero, List.set_cons_succ])
        refine wpAnyH_done (by kernel_rfl) ?_ _
        go_wp2_with fail
        have HTLX : Hid (TL (VA.setCells b4 0 [.slice oq (n + 1) cq]) oq (n + 1) (fun i => i + 1) (catT n S (fun _ => Ky))) := Lib.hid (HTLF.out VA oq cq HTL.out HO9.out (HTL.out.not (Nat.succ_le_succ (Nat.zero_le _)) HB4A.out (fun _ _ e => by cases e)))
        have HBX : Hid (Below w.heap.size w (VA.setCells b4 0 [.slice oq (n + 1) cq])) := Lib.hid ((HBD.out.trans (HBA.out.mono HBD.out.size)).trans (HO9.out.below HGE.out (Nat.le_trans HBD.out.size HBA.out.size)))
        refine bodyPost_ret (v := .tuple #[.agg #[.slice oq (n + 1) cq], .nilIface]) ?_ rfl (RotR.ok HOK.out HLT.out HTLX.out HFR.out HBX.out)
        exact results_cell_tmp1 (q := 5) Tryd.results7 _ _ b4 26 #[.slice oq (n + 1) cq] (0, 0) _ rfl HB9.out Tryd.underlying26 rfl (info_rg _)
      refine AllReadyH.cons (o := { dst := some 29, op := Go.Op.buildSlice 24 1 #[(0, Go.Operand.tmp 28)], type := 24, pos := "keyring.go:48", after := #[{ on := 9, ground := Go.Ground.data }], guard := none }) rfl (fun K hK => ?_) AllReadyH.nil
      (refine step_bs1 rfl (.tmp 28) rfl C rfl HBS.out ?_; obtain ⟨VBx10, hw⟩ : ∃ q, WR.alloc (.cells C 55) = q := ⟨_, rfl⟩; rw [hw]; have hv : Below WR.heap.size WR VBx10 := (by rw [← hw]; exact (Below.refl _ _).alloc (Nat.le_refl _) _); have HTN : Hid (TL VBx10 (some ⟨WR.heap.size, 0, none⟩) 1 (fun _ => n1) (fun _ => Ky)) := Lib.hid (by have h9 : Blk VBx10 WR.heap.size C 55 := (by rw [← hw]; exact Blk.new _ _ _); rw [← HCC.out] at h9; exact TL.one h9); have hvVBx10 := Below.trans hvWR (hv.mono hvWR.size); clear hv hw; skip)
      refine hK.out _ _ ?_ (fun hHeld => ?_)
      · (try dsimp only)
        (first | exact Own.refl _ _ | assumption | exact Own.of_below (by assumption))
      clear hK K
      (try simp only [Act.put, List.setIfInBounds_toArray, List.set_cons_zero, List.set_cons_succ])
      refine wpAnyH_ready (rs := [2]) (by kernel_rfl) (by simp) ?_
      refine AllReadyH.cons (o := { dst := some 21, op := Go.Op.call { callee := Go.Callee.value (Go.Operand.func 23), args := #[Go.Operand.tmp 20], argTypes := #[24] }, type := 24, pos := "keyring.go:48", after := #[{ on := 1, ground := Go.Ground.data }], guard := none }) rfl (fun K hK => ?_) AllReadyH.nil
      go_simp
      (refine (tclone_any n cs bb off N S VBx10 (HTD.out.later hvVBx10) HNS.out).mono ?_; rintro e VCx10 ⟨vc, rfl, hto, hv⟩; have HTO := Lib.hid hto; have HTN := Lib.hid (HTN.out.later hv); have HBC : Hid (WR.heap.size ≤ VBx10.heap.size) := Lib.hid hvVBx10.size; have HCS := Lib.hid hv.size; have hvVCx10 := Below.trans hvVBx10 (hv.mono hvVBx10.size); clear hto hv; skip)
      (try go_wp2_with fail)
      refine hK.out _ _ ?_ (fun hHeld => ?_)
      · (try dsimp only)
        (first | exact Own.refl _ _ | assumption | exact Own.of_below (by assumption))
      clear hK K
      (try simp only [Act.put, List.setIfInBounds_toArray, List.set_cons_zero, List.set_cons_succ])
      refine wpAnyH_ready (rs := [11]) (by kernel_rfl) (by simp) ?_
      refine AllReadyH.cons (o := { dst := some 30, op := Go.Op.call { callee := Go.Callee.builtin Go.Builtin.append, args := #[Go.Operand.tmp 21, Go.Operand.tmp 29], argTypes := #[24, 24] }, type := 24, pos := "keyring.go:48", after := #[{ on := 2, ground := Go.Ground.data }, { on := 10, ground := Go.Ground.data }, { on := 2, ground := Go.Ground.chain }], guard := none }) rfl (fun K hK => ?_) AllReadyH.nil
      (refine step_TO und_ts info_f1 rfl (.tmp 21) (.tmp 29) rfl VBx10.heap.size vc n 1 1 N (fun _ => n1) S (fun _ => Ky) (some ⟨WR.heap.size, 0, none⟩) VCx10 rfl HTO.out rfl HTN.out (fun e => by cases e) HNS1.out HCS.out ?_; intro v' VA hto hb hg; obtain ⟨oq, cq, rfl, hq1, hq2, _, hqf, htl⟩ := hto.out; have HTL := Lib.hid htl; have HFR : Hid (∀ a, oq = some a → w.heap.size ≤ a.block) := Lib.hid (fun a ha => Nat.le_trans (Nat.le_trans HBD.out.size HBC.out) (hqf a ha).1); have HBA := Lib.hid (hvVCx10.trans (hb.mono HBC.out)); have hvVA := HBA.out; have HB4A := Lib.hid (Blk.below HB4D.out HBA.out (Blk.lt HB4D.out)); clear hto hb hg hq1 hq2 hqf htl; skip)
      refine hK.out _ _ ?_ (fun hHeld => ?_)
      · (try dsimp only)
        (first | exact Own.refl _ _ | assumption | exact Own.of_below (by assumption))
      clear hK K
      (try simp only [Act.put, List.setIfInBounds_toArray, List.set_cons_zero, List.set_cons_succ])
      refine wpAnyH_take (i := 12) (oi := { dst := some 31, op := Go.Op.build 26 #[(0, Go.Operand.tmp 30)], type := 26, pos := "keyring.go:48", after := #[{ on := 11, ground := Go.Ground.data }], guard := none }) (v := ?_) rfl (by kernel_rfl) (by kernel_rfl) (by kernel_rfl) (fun _ _ _ h => h) (Or.inl ⟨by rfl, ?_⟩) (by assumption) ?_
      rotate_left
      · intro wS hSw
        (try dsimp only at hSw)
        go_simp
        (try with_reducible rfl)
      (try simp only [Act.put, List.setIfInBounds_toArray, List.set_cons_zero, List.set_cons_succ])
      refine wpAnyH_ready (rs := [13]) (by kernel_rfl) (by simp) ?_
      refine AllReadyH.cons (o := { dst := none, op := Go.Op.store 26 (Go.Operand.tmp 4) (Go.Operand.tmp 31), type := 0, pos := "keyring.go:48", after := #[{ on := 12, ground := Go.Ground.data }, { on := 11, ground := Go.Ground.chain }, { on := 0, ground := Go.Ground.phase }, { on := 1, ground := Go.Ground.phase }, { on := 2, ground := Go.Ground.phase }, { on := 3, ground := Go.Ground.phase }, { on := 4, ground := Go.Ground.phase }, { on := 5, ground := Go.Ground.phase }, { on := 6, ground := Go.Ground.phase }, { on := 7, ground := Go.Ground.phase }, { on := 8, ground := Go.Ground.phase }, { on := 9, ground := Go.Ground.phase }, { on := 10, ground := Go.Ground.phase }, { on := 11, ground := Go.Ground.phase }, { on := 12, ground := Go.Ground.phase }], guard := none }) rfl (fun K hK => ?_) AllReadyH.nil
      (refine step_storeM rfl 26 (.tmp 4) (.tmp 31) rfl b4 0 #[.slice oq (n + 1) cq] rfl rfl (HB4A.out.there (Nat.le_refl 1)) (info_rg _) (one_sl _ _ _) ?_; have HO9 : Hid (Own b4 VA _) := Lib.hid (Own.setCells (#[Value.slice oq (n + 1) cq] : Array Value).toList 0 VA); have hO9 := (Own.of_below hvVA).trans HO9.out; have HB9 : Hid (Blk (VA.setCells b4 0 [.slice oq (n + 1) cq]) b4 #[.slice oq (n + 1) cq] 26) := Lib.hid (Blk.setCells HB4A.out [_] rfl); skip)
      refine hK.out _ _ ?_ (fun hHeld => ?_)
      · (try dsimp only)
        (first | exact Own.refl _ _ | assumption | exact Own.of_below (by assumption))
      clear hK K
      (try simp only [Act.put, List.setIfInBounds_toArray, List.set_cons_zero, List.set_cons_succ])
      refine wpAnyH_take (i := 14) (oi := { dst := some 5, op := Go.Op.assign (Go.Operand.const Go.Value.nilIface), type := 29, pos := "keyring.go:48", after := #[{ on := 13, ground := Go.Ground.chain }, { on := 0, ground := Go.Ground.phase }, { on := 1, ground := Go.Ground.phase }, { on := 2, ground := Go.Ground.phase }, { on := 3, ground := Go.Ground.phase }, { on := 4, ground := Go.Ground.phase }, { on := 5, ground := Go.Ground.phase }, { on := 6, ground := Go.Ground.phase }, { on := 7, ground := Go.Ground.phase }, { on := 8, ground := Go.Ground.phase }, { on := 9, ground := Go.Ground.phase }, { on := 10, ground := Go.Ground.phase }, { on := 11, ground := Go.Ground.phase }, { on := 12, ground := Go.Ground.phase }, { on := 13, ground := Go.Ground.phase }], guard := none }) (v := ?_) rfl (by kernel_rfl) (by kernel_rfl) (by kernel_rfl) (fun _ _ _ h => h) (Or.inl ⟨by rfl, ?_⟩) (by assumption) ?_
      rotate_left
      · intro wS hSw
        (try dsimp only at hSw)
        go_simp
        (try with_reducible rfl)
      (try simp only [Act.put, List.setIfInBounds_toArray, List.set_cons_zero, List.set_cons_succ])
      refine wpAnyH_done (by kernel_rfl) ?_ _
      go_wp2_with fail
      have HTLX : Hid (TL (VA.setCells b4 0 [.slice oq (n + 1) cq]) oq (n + 1) (fun i => i + 1) (catT n S (fun _ => Ky))) := Lib.hid (HTLF.out VA oq cq HTL.out HO9.out (HTL.out.not (Nat.succ_le_succ (Nat.zero_le _)) HB4A.out (fun _ _ e => by cases e)))
      have HBX : Hid (Below w.heap.size w (VA.setCells b4 0 [.slice oq (n + 1) cq])) := Lib.hid ((HBD.out.trans (HBA.out.mono HBD.out.size)).trans (HO9.out.below HGE.out (Nat.le_trans HBD.out.size HBA.out.size)))
      refine bodyPost_ret (v := .tuple #[.agg #[.slice oq (n + 1) cq], .nilIface]) ?_ rfl (RotR.ok HOK.out HLT.out HTLX.out HFR.out HBX.out)
      exact results_cell_tmp1 (q := 5) Tryd.results7 _ _ b4 26 #[.slice oq (n + 1) cq] (0, 0) _ rfl HB9.out Tryd.underlying26 rfl (info_rg _)
  · have HZ1 := Lib.hid (Blk.below HZ0.out hb1 (Blk.lt HZ0.out))
    have HB1 := Lib.hid (HB0.out.trans (hb1.mono HB0.out.size))
    have HNO := Lib.hid hno
    have c4 : w1.cell? ⟨b4, 0, none⟩ = some (.slice none 0 0) := by rw [Blk.cell HZ1.out]; rfl
    have f4 : w1.frozen? ⟨b4, 0, none⟩ = false := Blk.free HZ1.out 0
    have HX : Hid (Blk (w1.setCell ⟨b4, 0, none⟩ (.slice none 0 0)) b4 #[.slice none 0 0] 26) := Lib.hid (HZ1.out.set 0 _)
    have HBX : Hid (Below w.heap.size w (w1.setCell ⟨b4, 0, none⟩ (.slice none 0 0))) := Lib.hid (HB1.out.trans (((Own.refl b4 w1).set 0 _).below HGE.out HB1.out.size))
    clear hb1 hno hb3 hb4 hw0 HR0 HK0 HZ0
    go_wp2_with fail
    refine bodyPost_ret (v := .tuple #[.agg #[.slice none 0 0], .iface 64 (.int .i64 1)]) ?_ rfl (RotR.no HNO.out HBX.out)
    exact results_cell_tmp1 (q := 5) Tryd.results7 _ _ b4 26 #[.slice none 0 0] (0, 0) _ rfl HX.out Tryd.underlying26 rfl (info_rg _)
end Go.Proofs.YtloajfbehejehaaDoor
namespace Go.Proofs.YtloajfbehejehaaDoor
set_option linter.unusedVariables false
set_option linter.unusedSimpArgs false
open Go.RowKit

theorem wp_rangeS {P : Program} {g : Operand} {ps : Array Tmp} {assign body : Code} {Q : Exit → Act → World → Prop} {a : Act} {w : World}
    {gf : Nat} {lb : Array Value} {E : Nat → Array Value} {N : Nat} {R : Nat → World → World → Prop} {G : Nat → World → Prop}
    (hg : a.eval g = .func (.func gf) #[] lb) (eg : ∀ args w, (callFunc gf args).run P w = .ok (.enter gf args) w)
    (hseq : Seq P gf lb E N R G) (hps : ∀ i, (E i).size = ps.size)
    (I I' : Nat → World → Prop) (Ix : Code → World → Prop)
    (hG : ∀ i A, I i A → G i A) (hId : ∀ i A, I i A → I i A.drew) (hIxd : ∀ c A, Ix c A → Ix c A.drew)
    (hR : ∀ i A B, i < N → I i A → R i A B → I' i B) (hRk : ∀ i A B, I i A → R i A B → Keeps w.heap.size A B)
    (hIt : ∀ i A B, Turned w.heap.size A B → I i A → I i B) (hIt' : ∀ i A B, Turned w.heap.size A B → I' i A → I' i B) (hIxt : ∀ c A B, Turned w.heap.size A B → Ix c A → Ix c B)
    (h0 : ∀ A, Below w.heap.size w A → A.heap.size = w.heap.size + 2 → I 0 A)
    (I2 : Nat → Act → World → Prop) (hIt2 : ∀ i a A B, Turned w.heap.size A B → I2 i a A → I2 i a B)
    (hassign : ∀ (l i : Nat) (W : World) (K : Act → World → Prop), w.heap.size < l → i < N → I' i W → (∀ a' W', Keeps w.heap.size W W' → I2 i a' W' → K a' W') →
      assign.wpIn (Wd (some l)) 0 P (Exit.then K (fun _ _ _ => False)) { tmps := (ps.zip (E i)).foldl (fun t (p, v) => t.setIfInBounds p v) a.tmps, defers := [] } W)
    (hbody : ∀ (l i : Nat) (a' : Act) (W : World), w.heap.size < l → i < N → I2 i a' W → body.wpIn (Wd (some l)) 0 P (roundPostR w.heap.size (I (i + 1)) Ix W) a' W)
    (hdone : ∀ (D : Nat) (W : World), w.heap.size ≤ D → I N W → W.heap[D]? = some (.deferred (some [])) → Q .normal { a with defers := { target := .collected D, args := #[] } :: a.defers } W)
    (hstop : ∀ (D : Nat) (c : Code) (W : World), w.heap.size ≤ D → Ix c W → W.heap[D]? = some (.deferred (some [])) → c.wp P Q { a with defers := { target := .collected D, args := #[] } :: a.defers } W) :
    (Code.rangeFunc g ps assign body).wp P Q a w := by
  refine (wpIn_wide (n := 0)).1 (wpIn_rangeFunc ?_)
  intro fn _
  rw [show Fence.wide.round = none from rfl]
  obtain ⟨rec, hrec⟩ : ∃ rec : LoopState → Option Code → Loop, rec = fun st pe => { state := st, pending := pe, fn, tmps := a.tmps, params := ps, assign, body, defers := w.heap.size } := ⟨_, rfl⟩
  obtain ⟨W1, hW1⟩ : ∃ W1, (w.alloc (.deferred (some []))).alloc (.loop (rec .ready none)) = W1 := ⟨_, rfl⟩
  have hL1 : W1.heap[w.heap.size + 1]? = some (.loop (rec .ready none)) := by
    rw [← hW1]; have := World.alloc_heap_new (w.alloc (.deferred (some []))) (.loop (rec .ready none)); rwa [World.size_alloc] at this
  have hK1 : W1.heap[w.heap.size]? = some (.deferred (some [])) := by
    rw [← hW1]; exact (Below.heap_alloc _ _ _ (by simp)).trans (World.alloc_heap_new w _)
  have hI1 : I 0 W1 := h0 W1 (by rw [← hW1]; exact ((Below.refl _ w).alloc (Nat.le_refl _) _).alloc (by simp) _) (by rw [← hW1]; simp)
  have turn : ∀ {A : World} {o : Obj} (o' : Obj), A.heap[w.heap.size + 1]? = some o → o.isCells = false → o'.isCells = false → Turned w.heap.size A (A.putObj (w.heap.size + 1) o') :=
    fun o' h1 h2 h3 => ⟨_, _, o', Nat.le_succ _, h1, h2, h3, rfl⟩
  refine ⟨w.heap.size + 1, [{ target := .collected w.heap.size, args := #[] }], W1, { target := .fn (.func gf) lb, args := #[.func (.yield (w.heap.size + 1)) #[] #[]] }, W1, gf,
    #[.func (.yield (w.heap.size + 1)) #[] #[]] ++ lb, W1, ?_, ?_, fun _ _ => trivial, ?_, fun e => (nomatch e), ?_⟩
  · rw [← hW1, hrec]; exact run_enterLoop_outer _ _ _ _ _
  · simp only [resolve, hg]
    simp [go_sem]
  · simp [invoke, go_sem, eg]
  refine calls_wd (r := none) (n := 0 - 1) ((hseq (w.heap.size + 1)
    (fun i W => I i W ∧ W.heap[w.heap.size + 1]? = some (.loop (rec .ready none)) ∧ W.heap[w.heap.size]? = some (.deferred (some [])))
    (fun i W => I' i W ∧ W.heap[w.heap.size + 1]? = some (.loop (rec .ready none)) ∧ W.heap[w.heap.size]? = some (.deferred (some [])))
    (fun W => ∃ c, Ix c W ∧ W.heap[w.heap.size + 1]? = some (.loop (rec .done (some c))) ∧ W.heap[w.heap.size]? = some (.deferred (some [])))
    W1 (fun i A h => hG i A h.1) (fun i A h => ⟨hId i A h.1, h.2⟩) (fun A ⟨c, h1, h2⟩ => ⟨c, hIxd c A h1, h2⟩)
    (fun i A B hi h hr => ⟨hR i A B hi h.1 hr, (hRk i A B h.1 hr).same _ _ (Nat.le_succ _) h.2.1 rfl, (hRk i A B h.1 hr).same _ _ (Nat.le_refl _) h.2.2 rfl⟩)
    ?_ ⟨hI1, hL1, hK1⟩).mono ?_)
  · rintro i W hi ⟨hin, hl, hk⟩
    have hlt : w.heap.size + 1 < W.heap.size := (Array.getElem?_eq_some_iff.1 hl).1
    have hy := run_yield (P := P) (args := E i) hl (by rw [hrec]; exact hps i)
    rw [hrec] at hy
    refine ⟨fn, _, assign, body, hy, roundIn_of_wpIn (F := Wd none) trivial (hassign _ i W _ (Nat.lt_succ_self _) hi hin (fun a' W' hkeep hin2 => ?_))⟩
    clear hy
    replace hl := hkeep.same _ _ (Nat.le_succ _) hl rfl
    replace hk := hkeep.same _ _ (Nat.le_refl _) hk rfl
    have hlt : w.heap.size + 1 < W'.heap.size := (Array.getElem?_eq_some_iff.1 hl).1
    refine ⟨_, run_beginRound hl (by rw [hrec]), ?_⟩
    have hl2 : (W'.putObj (w.heap.size + 1) (.loop { rec .ready none with state := .busy })).heap[w.heap.size + 1]? = some (.loop { rec .ready none with state := .busy }) := World.putObj_heap_same hlt
    have hk2 : (W'.putObj (w.heap.size + 1) (.loop { rec .ready none with state := .busy })).heap[w.heap.size]? = some (.deferred (some [])) := (World.putObj_heap_other (by omega)).trans hk
    refine wpIn_mono (hbody _ i a' _ (Nat.lt_succ_self _) hi (hIt2 i a' _ _ (turn _ hl rfl rfl) hin2)) ?_
    have fin : ∀ (jump : Option Code) (W3 : World), Keeps w.heap.size (W'.putObj (w.heap.size + 1) (.loop { rec .ready none with state := .busy })) W3 →
        (Instr.endRound (w.heap.size + 1) jump).run P W3 = .ok (.bool jump.isNone) (W3.putObj (w.heap.size + 1) (.loop (rec (if jump.isNone then .ready else .done) jump))) ∧
        Turned w.heap.size W3 (W3.putObj (w.heap.size + 1) (.loop (rec (if jump.isNone then .ready else .done) jump))) ∧
        (W3.putObj (w.heap.size + 1) (.loop (rec (if jump.isNone then .ready else .done) jump))).heap[w.heap.size + 1]? = some (.loop (rec (if jump.isNone then .ready else .done) jump)) ∧
        (W3.putObj (w.heap.size + 1) (.loop (rec (if jump.isNone then .ready else .done) jump))).heap[w.heap.size]? = some (.deferred (some [])) := fun jump W3 hk3 => by
      have hl3 := hk3.same _ _ (Nat.le_succ _) hl2 rfl
      have := run_endRound (P := P) jump hl3
      rw [hrec] at this ⊢
      exact ⟨this, turn _ hl3 rfl rfl, World.putObj_heap_same (Array.getElem?_eq_some_iff.1 hl3).1, (World.putObj_heap_other (by omega)).trans (hk3.same _ _ (Nat.le_refl _) hk2 rfl)⟩
    rintro e a3 W3 hp
    cases e with
    | normal =>
      obtain ⟨hr, ht, hl4, hk4⟩ := fin none W3 hp.1
      exact ⟨_, _, hr, .inl ⟨rfl, hIt _ _ _ ht hp.2, hl4, hk4⟩⟩
    | ret =>
      obtain ⟨hr, ht, hl4, hk4⟩ := fin (some .ret) W3 hp.1
      exact ⟨_, _, hr, .inr ⟨rfl, .ret, hIxt _ _ _ ht hp.2, hl4, hk4⟩⟩
    | exit id =>
      obtain ⟨hr, ht, hl4, hk4⟩ := fin (some (.exit id)) W3 hp.1
      exact ⟨_, _, hr, .inr ⟨rfl, .exit id, hIxt _ _ _ ht hp.2, hl4, hk4⟩⟩
    | goto t =>
      obtain ⟨hr, ht, hl4, hk4⟩ := fin (some (.goto t)) W3 hp.1
      exact ⟨_, _, hr, .inr ⟨rfl, .goto t, hIxt _ _ _ ht hp.2, hl4, hk4⟩⟩
    | panic ch => exact hp.elim
    | outgrown => exact hp.elim
  · rintro e W2 ⟨⟨v, rfl⟩, (⟨hi, hl, hk⟩ | ⟨c, hi, hl, hk⟩)⟩
    · refine ⟨none, _, by have := run_endLoop (P := P) hl (by rw [hrec]; simp); rw [hrec] at this; exact this, ?_⟩
      exact hdone _ _ (Nat.le_refl _) (hIt _ _ _ (turn _ hl rfl rfl) hi) ((World.putObj_heap_other (by omega)).trans hk)
    · refine ⟨some c, _, by have := run_endLoop (P := P) hl (by rw [hrec]; simp); rw [hrec] at this; exact this, ?_⟩
      exact wpIn_wide.2 (hstop _ c _ (Nat.le_refl _) (hIxt _ _ _ (turn _ hl rfl rfl) hi) ((World.putObj_heap_other (by omega)).trans hk))

end Go.Proofs.YtloajfbehejehaaDoor
namespace Go.Proofs.YtloajfbehejehaaDoor
set_option linter.unusedVariables false
set_option linter.unusedSimpArgs false
open Go.RowKit
theorem listIn_val {P : Program} {r : Option Nat} {n : Nat} {ops : Array Oper} {Q : Exit → Act → World → Prop} {o : Oper} {rest : List Oper} {a : Act} {w : World} {v : Value} (hgd : o.guard = none) (hd : ∀ c, o.op ≠ .defer c) (he : (execOp a.eval o).run P w = .ok (.value v) w)
    (hk : wpListIn (Wd r) n P ops Q rest (a.put o.dst v) w) : wpListIn (Wd r) n P ops Q (o :: rest) a w := by
  unfold wpListIn
  rw [if_pos (by simp [Region.wanted, hgd])]
  refine opIn_wd hd ?_
  unfold Oper.wp
  rw [he]
  exact hk
def GKr (Bn : Nat) (oa : Option Addr) (n cs : Nat) (N : Nat → Nat) (S : Nat → Nat → Nat) (A : World) : Prop := Blk A Bn #[.slice oa n cs] 26 ∧ TL A oa n N S
def RKr (A B : World) : Prop := Below A.heap.size A B
def EKr (N : Nat → Nat) (S : Nat → Nat → Nat) (i : Nat) : Array Value := #[.int .u32 (N i : Int), .agg (rowC 32 (S i)).toArray]
set_option maxHeartbeats 4000000 in
set_option maxRecDepth 100000 in
theorem keys_seq (Bn : Nat) (oa : Option Addr) (n cs : Nat) (N : Nat → Nat) (S : Nat → Nat → Nat) (hn : n < 1000000) :
    Seq Tryd.prog 32 #[.pointer (some ⟨Bn, 0, none⟩)] (EKr N S) n (fun _ => RKr) (fun _ => GKr Bn oa n cs N S) := by
  intro l J J' Jx W hG hJd hJxd hR hY h0
  have HG : Hid (∀ i A, J i A → GKr Bn oa n cs N S A) := Lib.hid hG
  have HR : Hid (∀ i A B, i < n → J i A → RKr A B → J' i B) := Lib.hid hR
  have HY := Lib.hid hY
  have HN := Lib.hid hn
  have c0 : W.cell? ⟨Bn, 0, none⟩ = some (.slice oa n cs) := by rw [Blk.cell (hG 0 W h0).1]; rfl
  clear hG hJd hJxd hR hY hn
  go_enter Tryd.func32, Tryd.ntmps32
  go_wp2_with fail
  clear c0
  go_loopw [8] (fun y wr => ∃ i : Nat, i ≤ n ∧ y = .int .i64 (i : Int) ∧ J i wr) (fun y _ => n - (intOf y).toNat)
  case atStart => exact ⟨0, Nat.zero_le _, rfl, h0⟩
  case round =>
    obtain ⟨i, hi, rfl, hJ⟩ := hrel
    obtain ⟨-, hTL⟩ := HG.out i wr hJ
    by_cases hlt : i < n
    · have i1 : (i : Int) < (n : Int) := by omega
      have i0 : (0 : Int) ≤ (i : Int) := by omega
      have k4 : IntKind.i64.wrap ((i : Int) + 1) = ((i + 1 : Nat) : Int) := by have := HN.out; rw [IntWalk.i64_in _ (by omega)]; omega
      obtain ⟨b, off, e, hrg⟩ := hTL i hlt
      subst e
      obtain ⟨ni, hni⟩ : ∃ q, N i = q := ⟨_, rfl⟩
      obtain ⟨F, hF⟩ : ∃ q, (rowC 32 (S i)).toArray = q := ⟨_, rfl⟩
      have HE : Hid (EKr N S i = #[.int .u32 (ni : Int), .agg F]) := Lib.hid (by unfold EKr; rw [hni, hF])
      rw [hni] at hrg
      obtain ⟨C, hC⟩ : ∃ q, (tmL ni (S i)).toArray = q := ⟨_, rfl⟩
      have HSZ : Hid (C.size = 33) := Lib.hid (by rw [← hC]; exact tm_size _ _)
      have HON : Hid (C.all (·.oneCell') = true) := Lib.hid (by rw [← hC]; exact tm_one _ _)
      have HIS : Hid ((Tryd.prog.info? 55).map (·.size) = some C.size) := Lib.hid (by rw [HSZ.out]; exact info_t1)
      have HIF : Hid ((Tryd.prog.info? 22).map (·.size) = some F.size) := Lib.hid (by rw [← hF, List.size_toArray, rowC_len]; exact info_a32)
      have HRG : Hid (wr.rangeAt b (off + i * 33) C.toList) := Lib.hid (by rw [← hC]; exact hrg)
      obtain ⟨b4, hqb4⟩ : ∃ y, wr.heap.size = y := ⟨_, rfl⟩
      obtain ⟨wz4, hwz4⟩ : ∃ y, wr.alloc (.cells zeroT 55) = y := ⟨_, rfl⟩
      have hbz : Below wr.heap.size wr wz4 := by rw [← hwz4]; exact (Below.refl _ _).alloc (Nat.le_refl _) _
      have hXz : Blk wz4 b4 zeroT 55 := by rw [← hwz4, ← hqb4]; exact Blk.new _ _ _
      have HTZb4 : Hid (wz4.there b4 0 C.size) := Lib.hid (hXz.there (by rw [zeroT_size, HSZ.out]; exact Nat.le_refl _))
      obtain ⟨w5, hw5⟩ : ∃ y, wz4.setCells b4 0 C.toList = y := ⟨_, rfl⟩
      have hOz : Own b4 wz4 w5 := by rw [← hw5]; exact Own.setCells _ _ _
      have HBw5 : Hid (Below wr.heap.size wr w5) := Lib.hid (hbz.trans (hOz.below (by omega) hbz.size))
      have HNw5 : Hid (Blk w5 b4 C 55) := Lib.hid (by rw [← hw5]; exact Blk.setCells hXz C.toList (by rw [zeroT_size, Array.length_toList]; exact HSZ.out))
      have HWw5 := Lib.hid hw5
      clear hbz hXz hOz hw5
      have c4 : w5.cell? ⟨b4, 0, none⟩ = some (.int .u32 (ni : Int)) := by have h9 := HNw5.out; rw [← hC] at h9; exact tm_cell0 h9
      have HRF : Hid (w5.rangeAt b4 1 F.toList) := Lib.hid (by have h9 := HNw5.out; rw [← hC] at h9; rw [← hF]; exact tm_key h9)
      have HJ1 := Lib.hid (HR.out i wr w5 hlt hJ HBw5.out)
      have HL := Lib.hid hlt
      clear hC hrg hF hni hTL hJ h0 hlt hi
      go_upto_region 3 with (first | (refine wpList_value rfl (exec_loadA (x := .tmp 10) (C := C) rfl rfl HRG.out Tryd.underlying55 rfl HIS.out) ?_) | (refine wpList_zero rfl rfl zero_t1 ?_; rw [hwz4, hqb4]; (try simp only [Act.put, List.setIfInBounds_toArray, List.set_cons_zero, List.set_cons_succ])) | (refine wpList_store_mid rfl 55 (.tmp 4) (.tmp 11) rfl b4 0 C rfl rfl HTZb4.out HIS.out HON.out ?_; rw [HWw5.out]))
      obtain ⟨fn, tmps, assign, body, hy, hRd⟩ := HY.out i w5 HL.out HJ1.out
      have HRD := Lib.hid hRd
      clear hRd
      rw [HE.out] at hy
      refine (wpIn_wide (n := 0)).1 ?_
      gi_wp2_with (refine listIn_val (r := none) rfl (fun c e => by cases e) (exec_loadA (x := .tmp 15) (C := F) rfl rfl HRF.out Tryd.underlying22 rfl HIF.out) ?_)
      refine ⟨rfl, ?_⟩
      refine HRD.out.mono ?_
      rintro e W' (⟨rfl, hJ2⟩ | ⟨rfl, hJx⟩)
      · gi_wp2
        clear hy
        go_wp2_with fail
        go_roundw
        case rel => exact ⟨i + 1, HL.out, by first | rfl | go_num, hJ2⟩
        case measure => have := HL.out; simp [intOf]; omega
      · gi_wp2
        clear hy
        go_wp2_with fail
        refine bodyPost_ret (results_none rfl _ _ _) rfl ?_
        exact ⟨⟨_, rfl⟩, .inr hJx⟩
    · obtain rfl : n = i := by omega
      have i1 : ¬ (n : Int) < (n : Int) := by omega
      have HJ := Lib.hid hJ
      clear hJ h0 hTL
      go_wp2_with fail
      go_end0
      exact ⟨⟨_, rfl⟩, .inl HJ.out⟩
end Go.Proofs.YtloajfbehejehaaDoor
