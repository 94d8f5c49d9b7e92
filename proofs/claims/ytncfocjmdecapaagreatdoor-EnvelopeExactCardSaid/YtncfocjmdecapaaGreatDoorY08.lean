/- Part of the proof: what stands here serves the walks of the functions that the statement calls. -/
import Derived.RangeFuncNested
import Derived.OrdersIn
import Derived.OrdersHeld
import Derived.LoopNIn
import Derived.LoopIn
import Derived.Test.YtncfocjmdecapaaGreatDoorY07
namespace Go.Proofs.YtncfocjmdecapaaGreatDoor
set_option linter.unusedVariables false
set_option linter.unusedSimpArgs false
open Go.RowKit
def rws (n : Nat) (C : Nat → List Value) : List Value := (List.range n).flatMap C
theorem rws_zero (C : Nat → List Value) : rws 0 C = [] := rfl
theorem rws_succ (n : Nat) (C : Nat → List Value) : rws (n + 1) C = rws n C ++ C n := by unfold rws; rw [List.range_succ, List.flatMap_append]; simp
theorem rws_len {k : Nat} {C : Nat → List Value} : ∀ {n : Nat}, (∀ i, i < n → (C i).length = k) → (rws n C).length = n * k
 | 0, _ => by simp [rws_zero]
 | n + 1, h => by rw [rws_succ, List.length_append, rws_len fun i hi => h i (by omega), h n (by omega), Nat.succ_mul]
theorem rws_get {k : Nat} {C : Nat → List Value} : ∀ {n : Nat}, (∀ i, i < n → (C i).length = k) → ∀ {i j : Nat}, i < n → j < k → (rws n C)[i * k + j]? = (C i)[j]?
 | 0, _, i, _, hi, _ => absurd hi (Nat.not_lt_zero _)
 | n + 1, h, i, j, hi, hj => by
  have hl : (rws n C).length = n * k := rws_len fun i hi => h i (by omega)
  rw [rws_succ]
  rcases Nat.lt_or_ge i n with h1 | h1
  ·have hlt : i * k + j < n * k := Nat.lt_of_lt_of_le (by omega) (show i * k + k ≤ n * k by rw [← Nat.succ_mul]; exact Nat.mul_le_mul_right k h1)
   rw [List.getElem?_append_left (by rw [hl]; exact hlt)]
   exact rws_get (fun i hi => h i (by omega)) h1 hj
  ·obtain rfl : i = n := by omega
   rw [List.getElem?_append_right (by rw [hl]; omega), hl]
   congr 1; omega
theorem rws_congr {n : Nat} {C D : Nat → List Value} (h : ∀ i, i < n → C i = D i) : rws n C = rws n D := by
 induction n with
 | zero => rfl
 | succ n ih => rw [rws_succ, rws_succ, ih fun i hi => h i (by omega), h n (by omega)]
theorem rws_cells {w : World} {base : Nat} {e : TypeId} {k : Nat} {v : Value} {n : Nat} {C : Nat → List Value} (h : w.ownsRow base e k v n (rws n C)) (hk : ∀ i, i < n → (C i).length = k) :
  ∃ oa cap, v = .slice oa n cap ∧ n ≤ cap ∧ cap ≤ maxLen ∧ (∀ a, oa = some a → ∃ g, a = ⟨g, 0, none⟩ ∧ base ≤ g ∧ g < w.heap.size) ∧ ∀ i j, i < n → j < k → ∃ b off, oa = some ⟨b, off, none⟩ ∧ off = 0 ∧ w.cell? ⟨b, off + i * k + j, none⟩ = (C i)[j]? := by
 rcases h.2 with ⟨rfl, h0⟩ | ⟨g, cap, cur, rfl, hb, hh, hnc, hm, hsz, hcur⟩
 ·subst h0
  exact ⟨none, 0, rfl, Nat.le_refl _, by unfold maxLen; omega, (fun a h => by cases h), fun i j hi => absurd hi (Nat.not_lt_zero _)⟩
 ·refine ⟨_, cap, rfl, hnc, hm, (fun a h => by cases h; exact ⟨g, rfl, hb, lt_of_block hh⟩), fun i j hi hj => ⟨g, 0, rfl, rfl, ?_⟩⟩
  have h1 : w.cell? ⟨g, 0 + i * k + j, none⟩ = cur[0 + i * k + j]? := by simp [World.cell?, hh]
  have hlt : i * k + j < n * k := Nat.lt_of_lt_of_le (by omega) (show i * k + k ≤ n * k by rw [← Nat.succ_mul]; exact Nat.mul_le_mul_right k hi)
  rw [h1, Nat.zero_add, ← Array.getElem?_toList, ← List.getElem?_take_of_lt hlt, hcur]
  exact rws_get hk hi hj
theorem owns_later {w w' : World} {base : Nat} {e : TypeId} {k : Nat} {v : Value} {n : Nat} {xs : List Value} (h : w.ownsRow base e k v n xs) (hb : Below w.heap.size w w') : w'.ownsRow base e k v n xs := by
 refine ⟨h.1, ?_⟩
 rcases h.2 with h2 | ⟨g, cap, cur, hv, hg, hh, r⟩
 ·exact .inl h2
 ·exact .inr ⟨g, cap, cur, hv, hg, by rw [hb.block g (lt_of_block hh)]; exact hh, r⟩
theorem owns_own {w w' : World} {base b : Nat} {e : TypeId} {k : Nat} {v : Value} {n : Nat} {xs : List Value} (h : w.ownsRow base e k v n xs) (hO : Own b w w') (hb : b < base) : w'.ownsRow base e k v n xs := by
 refine ⟨h.1, ?_⟩
 rcases h.2 with h2 | ⟨g, cap, cur, hv, hg, hh, r⟩
 ·exact .inl h2
 ·exact .inr ⟨g, cap, cur, hv, hg, by rw [hO.block g (lt_of_block hh) (by omega)]; exact hh, r⟩
theorem owns_block {w : World} {base : Nat} {e : TypeId} {k : Nat} {v : Value} {n : Nat} {xs : List Value} (h : w.ownsRow base e k v n xs) : ∀ q, v.ownBlock = some q → base ≤ q := by
 intro q hq
 rcases h.2 with ⟨rfl, _⟩ | ⟨g, cap, cur, rfl, hb, _⟩
 ·simp [Value.ownBlock] at hq
 ·simp [Value.ownBlock] at hq; omega
theorem exec_buildM {o : Oper} {a : Act} {w : World} {ty : TypeId} {C : Array Value} {parts : Array (Nat × Operand)} {ps : Array (Nat × Value)} (ho : o.op = .build ty parts) (hp : (parts.map fun (i, x) => (i, a.eval x)) = ps) (h : ∀ w, (Instr.build ty ps).run Tryz.prog w = .ok (.agg C) w) : (execOp a.eval o).run Tryz.prog w = .ok (.value (.agg C)) w := by
 unfold execOp
 simp only [ho, hp, Sem.run_bind, h, Result.andThen_ok]
 rfl
theorem exec_loadM {o : Oper} {a : Act} {w : World} {ty : TypeId} {x : Operand} {b f : Nat} {cs : List Value} {d : TypeDesc} (ho : o.op = .load ty x) (hx : a.eval x = .pointer (some ⟨b, f, none⟩)) (hc : w.rangeAt b f cs)
  (hu : Tryz.prog.underlying ty = some d) (hd : d.isRow = true) (hi : (Tryz.prog.info? ty).map (·.size) = some cs.length) : (execOp a.eval o).run Tryz.prog w = .ok (.value (.agg cs.toArray)) w := by
 unfold execOp
 simp only [ho, hx, Instr.loadAt, Instr.sureAddr, Sem.run_bind, Sem.run_pure, Result.andThen_ok, run_loadVar_mid w b f ty cs d hc hu hd hi]
theorem exec_loadA {o : Oper} {a : Act} {w : World} {ty : TypeId} {x : Operand} {b f : Nat} {C : Array Value} {d : TypeDesc} (ho : o.op = .load ty x) (hx : a.eval x = .pointer (some ⟨b, f, none⟩)) (hc : w.rangeAt b f C.toList)
  (hu : Tryz.prog.underlying ty = some d) (hd : d.isRow = true) (hi : (Tryz.prog.info? ty).map (·.size) = some C.size) : (execOp a.eval o).run Tryz.prog w = .ok (.value (.agg C)) w :=
 exec_loadM (cs := C.toList) ho hx hc hu hd (by rw [hi]; simp)
theorem Blk.rangeA {w : World} {b : Nat} {C : Array Value} {t : TypeId} (h : Blk w b C t) : w.rangeAt b 0 C.toList := fun j v hv => by
 rw [Nat.zero_add, Blk.cell h j]; simpa using hv
theorem wpList_zero {ops : Array Oper} {rest : List Oper} {o : Oper} {a : Act} {w : World} {Q : Exit → Act → World → Prop} {ty : TypeId} {Z : Array Value} (hgd : o.guard = none) (ho : o.op = .alloc ty) (hz : ∀ w, (zeroValue ty).run Tryz.prog w = .ok (.agg Z) w)
  (h : wpList Tryz.prog ops Q rest (a.put o.dst (.pointer (some ⟨w.heap.size, 0, none⟩))) (w.alloc (.cells Z ty))) : wpList Tryz.prog ops Q (o :: rest) a w := by
 refine wpList_plain hgd fun K hK => ?_
 have hr : (execOp a.eval o).run Tryz.prog w = .ok (.value (.pointer (some ⟨w.heap.size, 0, none⟩))) (w.alloc (.cells Z ty)) := by
  unfold execOp
  simp only [ho, Instr.alloc, Sem.run_bind, hz, Result.andThen_ok]
  rfl
 unfold Oper.wp
 rw [hr]
 exact hK _ _ h
def tmL (n : Nat) (S : Nat → Nat) : List Value := .int .u32 (n : Int) :: rowC 32 S
theorem tmL_len (n : Nat) (S : Nat → Nat) : (tmL n S).length = 33 := by unfold tmL; rw [List.length_cons, rowC_len]
theorem tm_size (n : Nat) (S : Nat → Nat) : (tmL n S).toArray.size = 33 := by rw [List.size_toArray, tmL_len]
theorem tmL_at (n : Nat) (S : Nat → Nat) {i : Nat} (hi : i < 32) : (tmL n S)[1 + i]? = some (.int .u8 (S i : Nat)) := by rw [Nat.add_comm]; exact rowC_get S hi
theorem tmL_one (n : Nat) (S : Nat → Nat) : ∀ v ∈ tmL n S, v.oneCell' = true := fun v hv => by
 unfold tmL at hv
 rcases List.mem_cons.1 hv with rfl | h
 ·rfl
 ·exact rowC_one _ _ v h
theorem tm_one (n : Nat) (S : Nat → Nat) : (tmL n S).toArray.all (·.oneCell') = true := all_oneCell_toArray (tmL_one _ _)
theorem tmL_congr {n : Nat} {S U : Nat → Nat} (h : ∀ i, i < 32 → S i = U i) : tmL n S = tmL n U := by unfold tmL; rw [rowC_congr h]
def zeroT : Array Value := (tmL 0 (fun _ => 0)).toArray
theorem zeroT_size : zeroT.size = 33 := tm_size _ _
def zeroA : Array Value := (rowC 32 (fun _ => 0)).toArray
theorem zeroA_size : zeroA.size = 32 := by unfold zeroA; rw [List.size_toArray, rowC_len]
theorem info_t1 : (Tryz.prog.info? 37).map (·.size) = some 33 := by kernel_rfl
theorem info_t2 : (Tryz.prog.info? 76).map (·.size) = some 33 := by kernel_rfl
theorem info_a32 : (Tryz.prog.info? 22).map (·.size) = some 32 := by kernel_rfl
theorem info_f1 : (Tryz.prog.info? 37).map (fun i => (i.zero, i.size, i.bytes)) = some (some (.agg zeroT), 33, 36) := by kernel_rfl
theorem info_f2 : (Tryz.prog.info? 76).map (fun i => (i.zero, i.size, i.bytes)) = some (some (.agg zeroT), 33, 36) := by kernel_rfl
theorem zero_t1 (w : World) : (zeroValue 37).run Tryz.prog w = .ok (.agg zeroT) w := by kernel_rfl
theorem zero_t2 (w : World) : (zeroValue 76).run Tryz.prog w = .ok (.agg zeroT) w := by kernel_rfl
theorem zero_a32 (w : World) : (zeroValue 22).run Tryz.prog w = .ok (.agg zeroA) w := by kernel_rfl
theorem build_t1 (n : Nat) (S : Nat → Nat) (w : World) : (Instr.build 37 #[(0, .int .u32 (n : Int)), (1, .agg (rowC 32 S).toArray)]).run Tryz.prog w = .ok (.agg (tmL n S).toArray) w := run_build w 37 _ _ (by kernel_rfl)
theorem build_n2 (n : Nat) (w : World) : (Instr.build 76 #[(0, .int .u32 (n : Int))]).run Tryz.prog w = .ok (.agg (tmL n (fun _ => 0)).toArray) w := run_build w 76 _ _ (by kernel_rfl)
theorem tm_cell0 {w : World} {b n : Nat} {S : Nat → Nat} {T : TypeId} (h : Blk w b (tmL n S).toArray T) : w.cell? ⟨b, 0, none⟩ = some (.int .u32 (n : Int)) := by rw [Blk.cell h]; rfl
theorem tm_key {w : World} {b n : Nat} {S : Nat → Nat} {T : TypeId} (h : Blk w b (tmL n S).toArray T) : w.rangeAt b 1 (rowC 32 S) := fun j v hv => by
 rw [Blk.cell h, List.getElem?_toArray, Nat.add_comm]; exact hv
def tmC (N : Nat → Nat) (S : Nat → Nat → Nat) : Nat → List Value := fun i => tmL (N i) (S i)
theorem tmC_len (N : Nat → Nat) (S : Nat → Nat → Nat) : ∀ i, (tmC N S i).length = 33 := fun _ => tmL_len _ _
def TL (w : World) (oa : Option Addr) (n : Nat) (N : Nat → Nat) (S : Nat → Nat → Nat) : Prop := ∀ i, i < n → ∃ b off, oa = some ⟨b, off, none⟩ ∧ w.rangeAt b (off + i * 33) (tmL (N i) (S i))
theorem TL.later {w w' : World} {oa : Option Addr} {n : Nat} {N : Nat → Nat} {S : Nat → Nat → Nat} (h : TL w oa n N S) (hb : Below w.heap.size w w') : TL w' oa n N S := fun i hi => by
 obtain ⟨b, off, e, hr⟩ := h i hi
 exact ⟨b, off, e, fun j v hv => cell_below hb (hr j v hv)⟩
theorem TL.nil (w : World) (oa : Option Addr) (N : Nat → Nat) (S : Nat → Nat → Nat) : TL w oa 0 N S := fun i hi => absurd hi (Nat.not_lt_zero _)
theorem TL.mono {w : World} {oa : Option Addr} {n m : Nat} {N : Nat → Nat} {S : Nat → Nat → Nat} (h : TL w oa n N S) (hm : m ≤ n) : TL w oa m N S := fun i hi => h i (by omega)
theorem TL.congr {w : World} {oa : Option Addr} {n : Nat} {N M : Nat → Nat} {S U : Nat → Nat → Nat} (h : TL w oa n N S) (he : ∀ i, i < n → N i = M i ∧ S i = U i) : TL w oa n M U := fun i hi => by
 obtain ⟨b, off, e, hr⟩ := h i hi
 rw [(he i hi).1, (he i hi).2] at hr
 exact ⟨b, off, e, hr⟩
theorem TL.cell0 {w : World} {oa : Option Addr} {n : Nat} {N : Nat → Nat} {S : Nat → Nat → Nat} (h : TL w oa n N S) {i : Nat} (hi : i < n) : ∃ b off, oa = some ⟨b, off, none⟩ ∧ w.cell? ⟨b, off + i * 33, none⟩ = some (.int .u32 (N i : Int)) := by
 obtain ⟨b, off, e, hr⟩ := h i hi
 exact ⟨b, off, e, hr 0 _ rfl⟩
theorem TL.news {w : World} {b off n : Nat} {N : Nat → Nat} {S : Nat → Nat → Nat} (h : TL w (some ⟨b, off, none⟩) n N S) : ∀ j u, (rws n (tmC N S))[j]? = some u → w.cell? ((⟨b, off, none⟩ : Addr).add j) = some u := fun j u hu => by
 have hl : (rws n (tmC N S)).length = n * 33 := rws_len (k := 33) fun _ _ => tmL_len _ _
 have hj : j < n * 33 := by
  rcases Nat.lt_or_ge j (n * 33) with h' | h'
  ·exact h'
  ·rw [List.getElem?_eq_none (by omega)] at hu; cases hu
 have hi : j / 33 < n := Nat.div_lt_of_lt_mul (by omega)
 have hr : j % 33 < 33 := Nat.mod_lt _ (by decide)
 have he : j / 33 * 33 + j % 33 = j := by omega
 have h5 := rws_get (k := 33) (C := tmC N S) (n := n) (fun _ _ => tmL_len _ _) hi hr
 rw [he, hu] at h5
 obtain ⟨b', off', e, h6⟩ := h (j / 33) hi
 cases e
 have h7 := h6 (j % 33) u h5.symm
 rw [Addr.add_mid, ← h7]
 congr 2
 omega
def TO (T : TypeId) (w : World) (base : Nat) (v : Value) (n : Nat) (N : Nat → Nat) (S : Nat → Nat → Nat) : Prop := w.ownsRow base T 33 v n (rws n (tmC N S))
theorem TO.later {T : TypeId} {w w' : World} {base n : Nat} {v : Value} {N : Nat → Nat} {S : Nat → Nat → Nat} (h : TO T w base v n N S) (hb : Below w.heap.size w w') : TO T w' base v n N S := owns_later h hb
theorem TO.nil (T : TypeId) (w : World) (base : Nat) (N : Nat → Nat) (S : Nat → Nat → Nat) : TO T w base (.slice none 0 0) 0 N S := World.ownsRow_nil w base _ 33
theorem TO.congr {T : TypeId} {w : World} {base n : Nat} {v : Value} {N M : Nat → Nat} {S U : Nat → Nat → Nat} (h : TO T w base v n N S) (he : ∀ i, i < n → N i = M i ∧ S i = U i) : TO T w base v n M U := by
 unfold TO at h ⊢
 rw [rws_congr (D := tmC M U) fun i hi => by unfold tmC; rw [(he i hi).1, (he i hi).2]] at h
 exact h
theorem TO.out {T : TypeId} {w : World} {base n : Nat} {v : Value} {N : Nat → Nat} {S : Nat → Nat → Nat} (h : TO T w base v n N S) : ∃ oa c, v = .slice oa n c ∧ n ≤ c ∧ c ≤ maxLen ∧ (oa = none → n = 0) ∧ (∀ a, oa = some a → base ≤ a.block ∧ a.block < w.heap.size) ∧ TL w oa n N S := by
 obtain ⟨oa, c, hv, hnc, hm, hbl, hc⟩ := rws_cells h fun i _ => tmC_len N S i
 refine ⟨oa, c, hv, hnc, hm, fun e => ?_, fun a ha => ?_, fun i hi => ?_⟩
 ·rcases Nat.eq_zero_or_pos n with h0 | h0
  ·exact h0
  ·obtain ⟨b, off, e1, _⟩ := hc 0 0 h0 (by decide)
   rw [e] at e1; cases e1
 ·obtain ⟨g, rfl, h1, h2⟩ := hbl a ha
  exact ⟨h1, h2⟩
 ·obtain ⟨b, off, e1, e2, _⟩ := hc i 0 hi (by decide)
  refine ⟨b, off, e1, fun j u hu => ?_⟩
  have hj : j < 33 := by have := (List.getElem?_eq_some_iff.1 hu).1; rw [tmL_len] at this; exact this
  obtain ⟨b', off', e3, _, e4⟩ := hc i j hi hj
  rw [e1] at e3; cases e3
  rw [e4]; exact hu
theorem TO.block {T : TypeId} {w : World} {base n : Nat} {v : Value} {N : Nat → Nat} {S : Nat → Nat → Nat} (h : TO T w base v n N S) : ∀ q, v.ownBlock = some q → base ≤ q := owns_block h
def catN (n : Nat) (A B : Nat → Nat) : Nat → Nat := fun i => if i < n then A i else B (i - n)
def catT (n : Nat) (A B : Nat → Nat → Nat) : Nat → Nat → Nat := fun i => if i < n then A i else B (i - n)
theorem rws_tm (n q : Nat) (N M : Nat → Nat) (S U : Nat → Nat → Nat) : rws (n + q) (tmC (catN n N M) (catT n S U)) = rws n (tmC N S) ++ rws q (tmC M U) := by
 induction q with
 | zero => rw [rws_zero, List.append_nil, Nat.add_zero]; exact rws_congr fun i hi => by unfold tmC catN catT; rw [if_pos hi, if_pos hi]
 | succ q ih => rw [← Nat.add_assoc, rws_succ, rws_succ, ih, ← List.append_assoc]; congr 1; unfold tmC catN catT; rw [if_neg (by omega), if_neg (by omega), Nat.add_sub_cancel_left]
theorem rws_tm_one (n : Nat) (N : Nat → Nat) (S : Nat → Nat → Nat) : ∀ v ∈ rws n (tmC N S), v.oneCell' = true := by
 induction n with
 | zero => intro v hv; rw [rws_zero] at hv; cases hv
 | succ n ih =>
  intro v hv
  rw [rws_succ] at hv
  rcases List.mem_append.1 hv with h1 | h1
  ·exact ih v h1
  ·exact tmL_one _ _ v h1
theorem parts3 {T : TypeId} {z : Value} {s y : Nat} (h : (Tryz.prog.info? T).map (fun i => (i.zero, i.size, i.bytes)) = some (some z, s, y)) : ∃ i, Tryz.prog.info? T = some i ∧ i.zero = some z ∧ i.size = s ∧ i.bytes = y := by
 cases e : Tryz.prog.info? T with
 | none => rw [e] at h; cases h
 | some i => rw [e] at h; simp at h; exact ⟨i, rfl, h.1, h.2.1, h.2.2⟩
theorem run_app_TO {T TS : TypeId} (hU : Tryz.prog.underlying TS = some (.slice T)) (hI : (Tryz.prog.info? T).map (fun i => (i.zero, i.size, i.bytes)) = some (some (.agg zeroT), 33, 36))
  (ty : TypeId) (base : Nat) (v : Value) (n q cq : Nat) (N M : Nat → Nat) (S U : Nat → Nat → Nat) (oa : Option Addr) (W : World) (hG : TO T W base v n N S) (hA : TL W oa q M U) (hno : oa = none → q = 0)
  (hn : n + q < 1000000) (hbase : base ≤ W.heap.size) :
  ∃ v' w', (Builtin.append_ #[TS, TS] ty #[v, .slice oa q cq]).run Tryz.prog W = .ok v' w' ∧ TO T w' base v' (n + q) (catN n N M) (catT n S U) ∧ Below base W w' ∧ W.grownBy w' v.ownBlock ∧ (v'.ownBlock = v.ownBlock ∨ v'.ownBlock = some W.heap.size) := by
 obtain ⟨i0, hi, hz0, hz1, hz2⟩ := parts3 hI
 have hbk := hG.block
 have hrefl : W.grownBy W v.ownBlock := ⟨rfl, rfl, rfl, Nat.le_refl _, fun _ _ _ => rfl⟩
 cases oa with
 | none =>
  obtain rfl := hno rfl
  refine ⟨v, W, ?_, by unfold TO; rw [rws_tm, rws_zero, List.append_nil]; exact hG, Below.refl _ _, hrefl, .inl rfl⟩
  rcases hG.2 with ⟨rfl, rfl⟩ | ⟨g, cap, cur, rfl, _, _, hnc, _⟩
  ·simp [Builtin.append_, run_underlying hU, sizeOf, typeInfo, hi, Builtin.lenOf, Builtin.firstCells]
  ·simp [Builtin.append_, run_underlying hU, sizeOf, typeInfo, hi, Builtin.lenOf, Builtin.firstCells, hnc, storeCells]
 | some ad =>
  by_cases h0 : q = 0
  ·subst h0
   obtain ⟨v', w', hr, hown', hg, _, hob⟩ := run_append_own_at (P := Tryz.prog) W base TS ty T i0 (.agg zeroT) 33 36 hU hi hz0 hz1 hz2 zeroT_size (by decide) v n (rws n (tmC N S)) hG ad 0 cq [] rfl
    (fun j u hu => by simp at hu) (fun u hu => by cases hu) (by unfold maxLen; omega) (by omega) hbase
   exact ⟨v', w', hr, by unfold TO; rw [rws_tm, rws_zero]; exact hown', (Below.refl base W).grown hg hbase hbk, hg, hob⟩
  ·obtain ⟨b, off, e1, _⟩ := hA 0 (by omega)
   cases e1
   obtain ⟨v', w', hr, hown', hg, _, hob⟩ := run_append_own_at (P := Tryz.prog) W base TS ty T i0 (.agg zeroT) 33 36 hU hi hz0 hz1 hz2 zeroT_size (by decide) v n (rws n (tmC N S)) hG ⟨b, off, none⟩ q cq (rws q (tmC M U)) (rws_len fun _ _ => tmL_len _ _)
    hA.news (rws_tm_one _ _ _) (by unfold maxLen; omega) (by omega) hbase
   exact ⟨v', w', hr, by unfold TO; rw [rws_tm]; exact hown', (Below.refl base W).grown hg hbase hbk, hg, hob⟩
theorem app_TO {T TS : TypeId} (hU : Tryz.prog.underlying TS = some (.slice T)) (hI : (Tryz.prog.info? T).map (fun i => (i.zero, i.size, i.bytes)) = some (some (.agg zeroT), 33, 36))
  {ops : Array Oper} {rest : List Oper} {o : Oper} {a : Act} {Q : Exit → Act → World → Prop} (hgd : o.guard = none) (s x : Operand)
  (ho : o.op = .call { callee := .builtin .append, args := #[s, x], argTypes := #[TS, TS] })
  (base : Nat) (v : Value) (n q cq : Nat) (N M : Nat → Nat) (S U : Nat → Nat → Nat) (oa : Option Addr) (W : World) (hs : a.eval s = v) (hG : TO T W base v n N S) (hx : a.eval x = .slice oa q cq) (hA : TL W oa q M U) (hno : oa = none → q = 0)
  (hn : n + q < 1000000) (hbase : base ≤ W.heap.size)
  (h : ∀ v' w', TO T w' base v' (n + q) (catN n N M) (catT n S U) → Below base W w' → W.grownBy w' v.ownBlock → wpList Tryz.prog ops Q rest (a.put o.dst v') w') :
  wpList Tryz.prog ops Q (o :: rest) a W := by
 obtain ⟨v', w', hr, h1, h2, h3, _⟩ := run_app_TO hU hI o.type base v n q cq N M S U oa W hG hA hno hn hbase
 refine wpList_plain hgd fun K hK => ?_
 unfold Oper.wp execOp
 simp only [ho, resolve, invoke, builtin, Sem.run_bind, Sem.run_pure, Result.andThen_ok, List.map_toArray, List.map_cons, List.map_nil, hs, hx, hr]
 exact hK _ _ (h v' w' h1 h2 h3)
theorem step_TO {T TS : TypeId} (hU : Tryz.prog.underlying TS = some (.slice T)) (hI : (Tryz.prog.info? T).map (fun i => (i.zero, i.size, i.bytes)) = some (some (.agg zeroT), 33, 36))
  {ops : Array Oper} {o : Oper} {a : Act} {K : Act → World → Prop} {Q : Exit → Act → World → Prop} {E : Prop} (hgd : o.guard = none) (s x : Operand)
  (ho : o.op = .call { callee := .builtin .append, args := #[s, x], argTypes := #[TS, TS] })
  (base : Nat) (v : Value) (n q cq : Nat) (N M : Nat → Nat) (S U : Nat → Nat → Nat) (oa : Option Addr) (W : World) (hs : a.eval s = v) (hG : TO T W base v n N S) (hx : a.eval x = .slice oa q cq) (hA : TL W oa q M U) (hno : oa = none → q = 0)
  (hn : n + q < 1000000) (hbase : base ≤ W.heap.size)
  (h : ∀ v' w', TO T w' base v' (n + q) (catN n N M) (catT n S U) → Below base W w' → W.grownBy w' v.ownBlock → K (a.put o.dst v') w') :
  if Region.wanted o (yielded ops a.tmps) = true then Oper.wp Tryz.prog o a W K Q else E := by
 obtain ⟨v', w', hr, h1, h2, h3, _⟩ := run_app_TO hU hI o.type base v n q cq N M S U oa W hG hA hno hn hbase
 have hw : Region.wanted o (yielded ops a.tmps) = true := by simp [Region.wanted, hgd]
 rw [if_pos hw]
 unfold Oper.wp execOp
 simp only [ho, resolve, invoke, builtin, Sem.run_bind, Sem.run_pure, Result.andThen_ok, List.map_toArray, List.map_cons, List.map_nil, hs, hx, hr]
 exact h v' w' h1 h2 h3
set_option maxRecDepth 100000
set_option maxHeartbeats 4000000
def OkT (n : Nat) (N : Nat → Nat) : Prop := 1 ≤ n ∧ n ≤ 16 ∧ ∀ i, i < n → N i = i + 1
def ChkR (n : Nat) (N : Nat → Nat) (w : World) (e : Ending) (w' : World) : Prop := ((e = .returned .nilIface ∧ OkT n N) ∨ (e = .returned (.iface 53 (.int .i64 1)) ∧ ¬ OkT n N)) ∧ Below w.heap.size w w'
theorem ChkR.ok {n : Nat} {N : Nat → Nat} {w w' : World} (h : OkT n N) (hb : Below w.heap.size w w') : ChkR n N w (.returned .nilIface) w' := ⟨.inl ⟨rfl, h⟩, hb⟩
theorem ChkR.no {n : Nat} {N : Nat → Nat} {w w' : World} (h : ¬ OkT n N) (hb : Below w.heap.size w w') : ChkR n N w (.returned (.iface 53 (.int .i64 1))) w' := ⟨.inr ⟨rfl, h⟩, hb⟩
theorem check_any (n cs : Nat) (oa : Option Addr) (N : Nat → Nat) (S : Nat → Nat → Nat) (w : World) (hT : TL w oa n N S) (hN : ∀ i, i < n → N i < 4294967296) (hn : n < 1000000) :
  Calls Tryz.prog 38 #[.agg #[.slice oa n cs]] w (ChkR n N w) := by
 obtain ⟨w1, hw1⟩ := zX (w.alloc (.cells #[.slice oa n cs] 32))
 have hb1 : Below w.heap.size w w1 := by rw [← hw1]; exact zA
 have hB1 : Blk w1 w.heap.size #[.slice oa n cs] 32 := by rw [← hw1]; exact Blk.new _ _ _
 have c0 : w1.cell? ⟨w.heap.size, 0, none⟩ = some (.slice oa n cs) := by rw [Blk.cell hB1]; rfl
 have HT := zh (hT.later hb1)
 have HNL := zh hN
 have HN := zh hn
 have HB1 := zh hb1
 clear hT hN hb1 hB1
 by_cases g1 : n < 1
 ·skip
  have a1 : (n : Int) < (1 : Int) := by omega
  have a2 : decide ((n : Int) < (1 : Int)) = true := decide_eq_true a1
  have a7 : n < 1 := by omega
  have a8 : decide (n < 1) = true := decide_eq_true a7
  have hno : ¬ OkT n N := fun h => by have := h.1; omega
  go_enter Tryz.func38, Tryz.ntmps38
  go_wp2_with fail
  go_ret
  exact ChkR.no hno (HB1.out)
 ·skip
  have a1 : ¬ (n : Int) < (1 : Int) := by omega
  have a2 : decide ((n : Int) < (1 : Int)) = false := decide_eq_false a1
  have a7 : ¬ n < 1 := by omega
  have a8 : decide (n < 1) = false := decide_eq_false a7
  by_cases g2 : 16 < n
  ·skip
   have b1 : (16 : Int) < (n : Int) := by omega
   have b2 : decide ((16 : Int) < (n : Int)) = true := decide_eq_true b1
   have b7 : 16 < n := by omega
   have b8 : decide (16 < n) = true := decide_eq_true b7
   have hno : ¬ OkT n N := fun h => by have := h.2.1; omega
   go_enter Tryz.func38, Tryz.ntmps38
   go_wp2_with fail
   go_ret
   exact ChkR.no hno (HB1.out)
  ·skip
   have b1 : ¬ (16 : Int) < (n : Int) := by omega
   have b2 : decide ((16 : Int) < (n : Int)) = false := decide_eq_false b1
   have b7 : ¬ 16 < n := by omega
   have b8 : decide (16 < n) = false := decide_eq_false b7
   have HG := zh (show 1 ≤ n ∧ n ≤ 16 by omega)
   go_enter Tryz.func38, Tryz.ntmps38
   go_wp2_with fail
   clear a1 a2 a7 a8 b1 b2 b7 b8 g1 g2 c0
   go_loopw [19] (fun x wr => ∃ i : Nat, i ≤ n ∧ x = .int .i64 (i : Int) ∧ (∀ j, j < i → N j = j + 1) ∧ Below w1.heap.size w1 wr) (fun x _ => n - (intOf x).toNat)
   case atStart => exact ⟨0, Nat.zero_le _, rfl, fun j hj => absurd hj (Nat.not_lt_zero _), Below.refl _ _⟩
   case round =>
    obtain ⟨i, hi, rfl, hok, hbw⟩ := hrel
    have HOK := zh hok
    have HBW := zh hbw
    clear hok hbw
    by_cases hlt : i < n
    ·have i1 : (i : Int) < (n : Int) := by omega
     have i0 : (0 : Int) ≤ (i : Int) := by omega
     have k4 : IntKind.i64.wrap ((i : Int) + 1) = ((i + 1 : Nat) : Int) := by have := HG.out; rw [IntWalk.i64_in _ (by omega)]; omega
     obtain ⟨b, off, e, hrg⟩ := (HT.out.later HBW.out) i hlt
     subst e
     obtain ⟨ni, hni⟩ := zX (N i)
     rw [hni] at hrg
     obtain ⟨C, hC⟩ := zX ((tmL ni (S i)).toArray)
     have HSZ : Hid (C.size = 33) := zh (by rw [← hC]; exact tm_size _ _)
     have HON : Hid (C.all (·.oneCell') = true) := zh (by rw [← hC]; exact tm_one _ _)
     have HIS : Hid ((Tryz.prog.info? 37).map (·.size) = some C.size) := zh (by rw [HSZ.out]; exact info_t1)
     have HRG : Hid (wr.rangeAt b (off + i * 33) C.toList) := zh (by rw [← hC]; exact hrg)
     obtain ⟨b4, hqb4⟩ := zX wr.heap.size
     obtain ⟨wz4, hwz4⟩ := zX (wr.alloc (.cells zeroT 37))
     have hbz : Below wr.heap.size wr wz4 := by rw [← hwz4]; exact zA
     have hXz : Blk wz4 b4 zeroT 37 := by rw [← hwz4, ← hqb4]; exact Blk.new _ _ _
     have HTZb4 : Hid (wz4.there b4 0 C.size) := zh (hXz.there (by rw [zeroT_size, HSZ.out]; exact Nat.le_refl _))
     obtain ⟨w5, hw5⟩ := zX (wz4.setCells b4 0 C.toList)
     have hOz : Own b4 wz4 w5 := by rw [← hw5]; exact Own.setCells _ _ _
     have HBw5 : Hid (Below wr.heap.size wr w5) := zh (hbz.trans (hOz.below (by omega) hbz.size))
     have HNw5 : Hid (Blk w5 b4 C 37) := zh (by rw [← hw5]; exact Blk.setCells hXz C.toList (by rw [zeroT_size, Array.length_toList]; exact HSZ.out))
     have HWw5 := zh hw5
     clear hbz hXz hOz hw5
     have c4 : w5.cell? ⟨b4, 0, none⟩ = some (.int .u32 (ni : Int)) := by have h9 := HNw5.out; rw [← hC] at h9; exact tm_cell0 h9
     obtain ⟨i2, hi2⟩ := zX (i + 1)
     have k5 : (i : Int) + 1 = (i2 : Int) := by omega
     have k6 : IntKind.i64.wrap (i2 : Int) = (i2 : Int) := IntWalk.i64_in _ (by have := HG.out; omega)
     have k7 : IntKind.u32.wrap (i2 : Int) = (i2 : Int) := IntWalk.u32_in _ (by have := HG.out; omega)
     have HI := zh (show i < n ∧ i + 1 = i2 ∧ i2 ≤ n ∧ N i = ni from ⟨hlt, hi2, by omega, hni⟩)
     have HB5 := zh (HBW.out.trans (HBw5.out.mono HBW.out.size))
     clear hC hrg hlt hi hi2 hni k4
     by_cases hq : ni = i2
     ·skip
      have e1 : (ni : Int) = (i2 : Int) := by omega
      have e2 : decide ((ni : Int) = (i2 : Int)) = true := decide_eq_true e1
      have e3 : ((ni : Int) == (i2 : Int)) = true := by simp only [beq_iff_eq]; exact e1
      have e4 : decide (ni = i2) = true := decide_eq_true (by omega)
      have e5 : (ni == i2) = true := by simp only [beq_iff_eq]; omega
      go_wp2_with (first | (refine wpList_value rfl (exec_loadA (x := .tmp 22) (C := C) rfl rfl HRG.out Tryz.underlying37 rfl HIS.out) ?_) | (refine wpList_zero rfl rfl zero_t1 ?_; rw [hwz4, hqb4]; (try simp only [Act.put, zS])) | (refine wpList_store_mid rfl 37 (.tmp 4) (.tmp 23) rfl b4 0 C rfl rfl HTZb4.out HIS.out HON.out ?_; rw [HWw5.out]))
      go_roundw
      case rel => exact ⟨i2, HI.out.2.2.1, by first | rfl | go_num, fun j hj => by
       by_cases e : j < i
       ·exact HOK.out j e
       ·rw [show j = i by have := HI.out; omega, HI.out.2.2.2, hq]; exact HI.out.2.1.symm, HB5.out⟩
      case measure => have := HI.out; simp [intOf]; omega
     ·skip
      have e1 : ¬ (ni : Int) = (i2 : Int) := by omega
      have e2 : decide ((ni : Int) = (i2 : Int)) = false := decide_eq_false e1
      have e3 : ((ni : Int) == (i2 : Int)) = false := by simp only [beq_eq_false_iff_ne]; exact e1
      have e4 : decide (ni = i2) = false := decide_eq_false (by omega)
      have e5 : (ni == i2) = false := by simp only [beq_eq_false_iff_ne]; omega
      have e6 : ¬ ni = i2 := by omega
      have hno : ¬ OkT n N := fun h => hq (by rw [← HI.out.2.2.2, h.2.2 i HI.out.1]; exact HI.out.2.1)
      go_wp2_with (first | (refine wpList_value rfl (exec_loadA (x := .tmp 22) (C := C) rfl rfl HRG.out Tryz.underlying37 rfl HIS.out) ?_) | (refine wpList_zero rfl rfl zero_t1 ?_; rw [hwz4, hqb4]; (try simp only [Act.put, zS])) | (refine wpList_store_mid rfl 37 (.tmp 4) (.tmp 23) rfl b4 0 C rfl rfl HTZb4.out HIS.out HON.out ?_; rw [HWw5.out]))
      go_ret
      exact ChkR.no hno (HB1.out.trans (HB5.out.mono HB1.out.size))
    ·obtain rfl : n = i := by omega
     have i1 : ¬ (n : Int) < (n : Int) := by omega
     have hok : OkT n N := ⟨HG.out.1, HG.out.2, HOK.out⟩
     clear hlt hi
     go_wp2_with fail
     go_ret
     exact ChkR.ok hok (HB1.out.trans (HBW.out.mono HB1.out.size))
set_option maxRecDepth 512
set_option maxHeartbeats 200000
def RotR (n : Nat) (N : Nat → Nat) (S : Nat → Nat → Nat) (Ky : Nat → Nat) (w : World) (e : Ending) (w' : World) : Prop := Below w.heap.size w w' ∧
 ((e = .returned (.tuple #[.agg #[.slice none 0 0], .iface 53 (.int .i64 1)]) ∧ ¬ OkT n N) ∨ (e = .returned (.tuple #[.agg #[.slice none 0 0], .iface 53 (.int .i64 7)]) ∧ OkT n N ∧ n = 16) ∨
 (OkT n N ∧ n < 16 ∧ ∃ o c, e = .returned (.tuple #[.agg #[.slice o (n + 1) c], .nilIface]) ∧ TL w' o (n + 1) (fun i => i + 1) (catT n S (fun _ => Ky)) ∧ ∀ a, o = some a → w.heap.size ≤ a.block))
theorem RotR.ok {n : Nat} {N : Nat → Nat} {S : Nat → Nat → Nat} {Ky : Nat → Nat} {w w' : World} {o : Option Addr} {c : Nat} (h : OkT n N) (hn : n < 16) (hT : TL w' o (n + 1) (fun i => i + 1) (catT n S (fun _ => Ky))) (hf : ∀ a, o = some a → w.heap.size ≤ a.block) (hb : Below w.heap.size w w') : RotR n N S Ky w (.returned (.tuple #[.agg #[.slice o (n + 1) c], .nilIface])) w' := ⟨hb, .inr (.inr ⟨h, hn, o, c, rfl, hT, hf⟩)⟩
theorem RotR.no {n : Nat} {N : Nat → Nat} {S : Nat → Nat → Nat} {Ky : Nat → Nat} {w w' : World} (h : ¬ OkT n N) (hb : Below w.heap.size w w') : RotR n N S Ky w (.returned (.tuple #[.agg #[.slice none 0 0], .iface 53 (.int .i64 1)])) w' := ⟨hb, .inl ⟨rfl, h⟩⟩
theorem TL.away {w w' : World} {oa : Option Addr} {n b : Nat} {N : Nat → Nat} {S : Nat → Nat → Nat} (h : TL w oa n N S) (hO : Own b w w') (ha : ∀ a, oa = some a → a.block ≠ b) : TL w' oa n N S := fun i hi => by
 obtain ⟨b', off, e, hr⟩ := h i hi
 exact ⟨b', off, e, fun j v hv => hO.cell (hr j v hv) (show b' ≠ b from ha _ e)⟩
theorem TL.not {w : World} {oa : Option Addr} {n b : Nat} {N : Nat → Nat} {S : Nat → Nat → Nat} {v : Value} {T : TypeId} (h : TL w oa n N S) (hn : 1 ≤ n) (hB : Blk w b #[v] T) (hv : ∀ k m, v ≠ .int k m) : ∀ a, oa = some a → a.block ≠ b := fun a ha e => by
 obtain ⟨b', off, e1, e2⟩ := h.cell0 (i := 0) (by omega)
 rw [ha] at e1; cases e1
 have e3 : b' = b := e
 rw [e3, Blk.cell hB] at e2
 match off, e2 with
 | 0, e2 => exact hv _ _ (by simpa using e2)
 | off + 1, e2 => simp at e2
section
variable {P : Program} {r : Option Nat} {n : Nat} {ops : Array Oper} {Q : Exit → Act → World → Prop}
abbrev Wd (r : Option Nat) : Fence := { Fence.wide with round := r }
theorem calls_wd {f : FuncId} {args : Array Value} {w : World} {R : Ending → World → Prop} (h : Calls P f args w R) : CallsIn (Wd r) n P f args w R :=
 (callsIn_wide (n := n)).2 h
theorem semAt_wd {o : Oper} {ρ : Operand → Value} (hd : ∀ c, o.op ≠ .defer c) : o.semAt (Wd r).round ρ = execOp ρ o := by
 cases r with
 | none => rfl
 | some l => exact Oper.semAt_some l ρ o hd
theorem opIn_wd {o : Oper} {a : Act} {w : World} {next : Act → World → Prop} (hd : ∀ c, o.op ≠ .defer c) (h : o.wp P a w next Q) : o.wpIn (Wd r) n P a w next Q := by
 refine ⟨fun _ _ => trivial, ?_⟩
 rw [semAt_wd hd]
 unfold Oper.wp at h
 revert h
 generalize (execOp a.eval o).run P w = x
 intro h
 cases x with
 | ok y w' =>
  cases y <;> first
   | exact h
   | exact h.elim
   | exact ⟨fun e => (nomatch e), (calls_wd h).mono fun e w q => by cases e <;> exact q⟩
   | exact ⟨fun e => (nomatch e), fun c cs _ => let ⟨v, w', q, s⟩ := h c cs; ⟨v, w', q, stepsIn_wide.2 s⟩⟩
 | halt s w' => cases s <;> first | exact h | exact h.elim
theorem listIn_wd (hQ : ¬ LetsOut Q) : ∀ (L : List Oper) (a : Act) (w : World), (∀ o ∈ L, ∀ c, o.op ≠ .defer c) → wpList P ops Q L a w → wpListIn (Wd r) n P ops Q L a w
 | [], _, _, _, h => h
 | o :: L, a, w, hd, h => by
  unfold wpList at h
  unfold wpListIn
  split at h
  ·rename_i hw
   rw [if_pos hw]
   refine opIn_wd (hd o (by simp)) ?_
   rcases h with h | h
   ·exact Oper.wp_mono (fun a' w' h' => listIn_wd hQ L a' w' (fun o' ho' => hd o' (by simp [ho'])) h') h
   ·exact absurd h.2 hQ
  ·rename_i hw
   rw [if_neg hw]
   exact ⟨fun _ _ => trivial, listIn_wd hQ L _ w (fun o' ho' => hd o' (by simp [ho'])) h⟩
def noDefer (L : List Oper) : Bool := L.all fun o => match o.op with | .defer _ => false | _ => true
theorem noDefer_of {L : List Oper} (h : noDefer L = true) : ∀ o ∈ L, ∀ c, o.op ≠ .defer c := fun o ho c e => by
 have := (List.all_eq_true.1 h) o ho
 rw [e] at this; cases this
theorem region_wd {id : Nat} {l : List Oper} {a : Act} {w : World} (hQ : ¬ LetsOut Q) (hd : noDefer l = true) (h : wpList P l.toArray Q l a w) : (Code.region id l.toArray false).wpIn (Wd r) n P Q a w :=
 wpIn_region_lit (listIn_wd hQ l a w (noDefer_of hd) h)
theorem opOf_wd (hQ : ¬ LetsOut Q) {i : Nat} {K K' : Act → World → Prop} {a : Act} {w : World} (hd : ∀ o ∈ ops, ∀ c, o.op ≠ .defer c) (hk : ∀ a w, K a w → K' a w) (h : wpOp P ops Q i K a w) : wpOpIn (Wd r) n P ops Q i K' a w := by
 unfold wpOp at h
 unfold wpOpIn
 cases ho : ops[i]? with
 | none => rw [ho] at h; exact hk _ _ h
 | some o =>
  rw [ho] at h
  simp only at h ⊢
  split at h
  ·rename_i hw
   rw [if_pos hw]
   refine opIn_wd (hd o (Array.mem_of_getElem? ho)) ?_
   rcases h with h | h
   ·exact Oper.wp_mono hk h
   ·exact absurd h.2 hQ
  ·rename_i hw
   rw [if_neg hw]
   exact ⟨fun _ _ => trivial, hk _ _ h⟩
theorem anyIn_wd (hQ : ¬ LetsOut Q) (hd : ∀ o ∈ ops, ∀ c, o.op ≠ .defer c) {md : Region.Mode} {S : World → Prop} : ∀ (fuel : Nat) (listed : Array Bool) (a : Act) (w : World), wpAnyH P md ops Q S fuel listed a w → wpAnyIn (Wd r) n P md ops Q fuel listed a w
 | 0, _, _, _, h => h
 | fuel + 1, _, _, _, h => ⟨h.1, fun i hi => opOf_wd hQ hd (fun a' w' h' => anyIn_wd hQ hd fuel _ a' w' h'.2) (h.2 i hi)⟩
theorem regionD_wd {id : Nat} {l : List Oper} {a : Act} {w : World} {S : World → Prop} (hQ : ¬ LetsOut Q) (hd : noDefer l = true) (hm : P.follows .mixedOrders = true) (hS : S w.drew)
  (h : S w.drew → wpAnyH P .any l.toArray Q S l.toArray.size (Array.replicate l.toArray.size false) a w.drew) : (Code.region id l.toArray true).wpIn (Wd r) n P Q a w :=
 wpIn_region_any hm (anyIn_wd hQ (fun o ho => noDefer_of hd o (by simpa using ho)) _ _ _ _ (h hS))
end
structure Keeps (B : Nat) (W W' : World) : Prop where
 size : W.heap.size ≤ W'.heap.size
 same : ∀ (k : Nat) (o : Obj), B ≤ k → W.heap[k]? = some o → o.isCells = false → W'.heap[k]? = some o
theorem Keeps.refl (B : Nat) (W : World) : Keeps B W W := ⟨Nat.le_refl _, fun _ _ _ h _ => h⟩
theorem Keeps.trans {B : Nat} {X Y Z : World} (h : Keeps B X Y) (k : Keeps B Y Z) : Keeps B X Z := ⟨Nat.le_trans h.size k.size, fun i o hB hi ho => k.same i o hB (h.same i o hB hi ho) ho⟩
theorem Keeps.of_below {B : Nat} {W W' : World} (h : Below W.heap.size W W') : Keeps B W W' := ⟨h.size, fun k o _ hk _ => (h.block k (lt_of_block hk)).trans hk⟩
theorem Keeps.of_own {B b : Nat} {W W' : World} {C : Array Value} {t : TypeId} {f : Nat × Nat} (h : Own b W W') (hb : W.heap[b]? = some (.cells C t f)) : Keeps B W W' :=
 ⟨h.size, fun k o _ hk ho => (h.block k (lt_of_block hk) (fun e => by subst e; rw [hb] at hk; cases hk; cases ho)).trans hk⟩
def Turned (B : Nat) (A A' : World) : Prop := ∃ (l : Nat) (o o' : Obj), B ≤ l ∧ A.heap[l]? = some o ∧ o.isCells = false ∧ o'.isCells = false ∧ A' = A.putObj l o'
theorem Turned.size {B : Nat} {A A' : World} (h : Turned B A A') : A'.heap.size = A.heap.size := by obtain ⟨l, o, o', _, _, _, _, rfl⟩ := h; simp
theorem Turned.block {B : Nat} {A A' : World} (h : Turned B A A') {k : Nat} {C : Array Value} {t : TypeId} {f : Nat × Nat} (hk : A.heap[k]? = some (.cells C t f)) : A'.heap[k]? = some (.cells C t f) := by
 obtain ⟨l, o, o', _, ho, hc, _, rfl⟩ := h
 by_cases e : k = l
 ·subst e; rw [hk] at ho; cases ho; cases hc
 ·rw [World.putObj_heap_other e]; exact hk
theorem Turned.blk {B : Nat} {A A' : World} (h : Turned B A A') {k : Nat} {C : Array Value} {t : TypeId} (hk : Blk A k C t) : Blk A' k C t := h.block hk
theorem Turned.below {B : Nat} {A A' : World} (h : Turned B A A') : Below B A A' := by
 obtain ⟨l, o, o', hl, _, _, _, rfl⟩ := h
 exact ⟨rfl, rfl, rfl, by simp, fun k hk => World.putObj_heap_other (by omega)⟩
def Seq (P : Program) (gf : Nat) (lb : Array Value) (E : Nat → Array Value) (N : Nat) (R : Nat → World → World → Prop) (G : Nat → World → Prop) : Prop :=
 ∀ (l : Nat) (J J' : Nat → World → Prop) (Jx : World → Prop) (W : World),
  (∀ i A, J i A → G i A) → (∀ i A, J i A → J i A.drew) → (∀ A, Jx A → Jx A.drew) →
  (∀ i A B, i < N → J i A → R i A B → J' i B) →
  (∀ i A, i < N → J' i A → YieldAt (Wd none) 0 P l (E i) A fun e B => (e = .returned (.bool true) ∧ J (i + 1) B) ∨ (e = .returned (.bool false) ∧ Jx B)) →
  J 0 W →
  Calls P gf (#[.func (.yield l) #[] #[]] ++ lb) W fun e B => (∃ v, e = .returned v) ∧ (J N B ∨ Jx B)
def roundPostR (B : Nat) (I : World → Prop) (Ix : Code → World → Prop) (W : World) : Exit → Act → World → Prop
 | .normal, _, W' => Keeps B W W' ∧ I W'
 | .ret, _, W' => Keeps B W W' ∧ Ix .ret W'
 | .exit id, _, W' => Keeps B W W' ∧ Ix (.exit id) W'
 | .goto t, _, W' => Keeps B W W' ∧ Ix (.goto t) W'
 | .panic _, _, _ => False
 | .outgrown, _, _ => False
theorem wp_rangeR {P : Program} {g : Operand} {ps : Array Tmp} {assign body : Code} {Q : Exit → Act → World → Prop} {a : Act} {w : World}
  {gf : Nat} {lb : Array Value} {E : Nat → Array Value} {N : Nat} {R : Nat → World → World → Prop} {G : Nat → World → Prop}
  (hg : a.eval g = .func (.func gf) #[] lb) (eg : ∀ args w, (callFunc gf args).run P w = .ok (.enter gf args) w)
  (hseq : Seq P gf lb E N R G) (hps : ∀ i, (E i).size = ps.size)
  (I I' : Nat → World → Prop) (Ix : Code → World → Prop)
  (hG : ∀ i A, I i A → G i A) (hId : ∀ i A, I i A → I i A.drew) (hIxd : ∀ c A, Ix c A → Ix c A.drew)
  (hR : ∀ i A B, i < N → I i A → R i A B → I' i B) (hRk : ∀ i A B, I i A → R i A B → Keeps w.heap.size A B)
  (hIt : ∀ i A B, Turned w.heap.size A B → I i A → I i B) (hIt' : ∀ i A B, Turned w.heap.size A B → I' i A → I' i B) (hIxt : ∀ c A B, Turned w.heap.size A B → Ix c A → Ix c B)
  (h0 : ∀ A, Below w.heap.size w A → A.heap.size = w.heap.size + 2 → I 0 A)
  (a₁ : Nat → Act)
  (hassign : ∀ (l i : Nat) (W : World) (K : Act → World → Prop), i < N → K (a₁ i) W →
   assign.wpIn (Wd (some l)) 0 P (Exit.then K (fun _ _ _ => False)) { tmps := (ps.zip (E i)).foldl (fun t (p, v) => t.setIfInBounds p v) a.tmps, defers := [] } W)
  (hbody : ∀ (l i : Nat) (W : World), w.heap.size < l → i < N → I' i W → body.wpIn (Wd (some l)) 0 P (roundPostR w.heap.size (I (i + 1)) Ix W) (a₁ i) W)
  (hdone : ∀ (D : Nat) (W : World), w.heap.size ≤ D → I N W → W.heap[D]? = some (.deferred (some [])) → Q .normal { a with defers := { target := .collected D, args := #[] } :: a.defers } W)
  (hstop : ∀ (D : Nat) (c : Code) (W : World), w.heap.size ≤ D → Ix c W → W.heap[D]? = some (.deferred (some [])) → c.wp P Q { a with defers := { target := .collected D, args := #[] } :: a.defers } W) :
  (Code.rangeFunc g ps assign body).wp P Q a w := by
 refine (wpIn_wide (n := 0)).1 (wpIn_rangeFunc ?_)
 intro fn _
 rw [show Fence.wide.round = none from rfl]
 obtain ⟨rec, hrec⟩ : ∃ rec : LoopState → Option Code → Loop, rec = fun st pe => { state := st, pending := pe, fn, tmps := a.tmps, params := ps, assign, body, defers := w.heap.size } := ⟨_, rfl⟩
 obtain ⟨W1, hW1⟩ := zX ((w.alloc (.deferred (some []))).alloc (.loop (rec .ready none)))
 have hL1 : W1.heap[w.heap.size + 1]? = some (.loop (rec .ready none)) := by
  rw [← hW1]; have := World.alloc_heap_new (w.alloc (.deferred (some []))) (.loop (rec .ready none)); rwa [World.size_alloc] at this
 have hK1 : W1.heap[w.heap.size]? = some (.deferred (some [])) := by
  rw [← hW1]; exact (Below.heap_alloc _ _ _ (by simp)).trans (World.alloc_heap_new w _)
 have hI1 : I 0 W1 := h0 W1 (by rw [← hW1]; exact ((Below.refl _ w).alloc (Nat.le_refl _) _).alloc (by simp) _) (by rw [← hW1]; simp)
 have turn : ∀ {A : World} {o : Obj} (o' : Obj), A.heap[w.heap.size + 1]? = some o → o.isCells = false → o'.isCells = false → Turned w.heap.size A (A.putObj (w.heap.size + 1) o') :=
  fun o' h1 h2 h3 => ⟨_, _, o', Nat.le_succ _, h1, h2, h3, rfl⟩
 refine ⟨w.heap.size + 1, [{ target := .collected w.heap.size, args := #[] }], W1, { target := .fn (.func gf) lb, args := #[.func (.yield (w.heap.size + 1)) #[] #[]] }, W1, gf,
  #[.func (.yield (w.heap.size + 1)) #[] #[]] ++ lb, W1, ?_, ?_, fun _ _ => trivial, ?_, fun e => (nomatch e), ?_⟩
 ·rw [← hW1, hrec]; exact run_enterLoop_outer _ _ _ _ _
 ·simp only [resolve, hg]
  simp [go_sem]
 ·simp [invoke, go_sem, eg]
 refine calls_wd (r := none) (n := 0 - 1) ((hseq (w.heap.size + 1)
  (fun i W => I i W ∧ W.heap[w.heap.size + 1]? = some (.loop (rec .ready none)) ∧ W.heap[w.heap.size]? = some (.deferred (some [])))
  (fun i W => I' i W ∧ W.heap[w.heap.size + 1]? = some (.loop (rec .ready none)) ∧ W.heap[w.heap.size]? = some (.deferred (some [])))
  (fun W => ∃ c, Ix c W ∧ W.heap[w.heap.size + 1]? = some (.loop (rec .done (some c))) ∧ W.heap[w.heap.size]? = some (.deferred (some [])))
  W1 (fun i A h => hG i A h.1) (fun i A h => ⟨hId i A h.1, h.2⟩) (fun A ⟨c, h1, h2⟩ => ⟨c, hIxd c A h1, h2⟩)
  (fun i A B hi h hr => ⟨hR i A B hi h.1 hr, (hRk i A B h.1 hr).same _ _ (Nat.le_succ _) h.2.1 rfl, (hRk i A B h.1 hr).same _ _ (Nat.le_refl _) h.2.2 rfl⟩)
  ?_ ⟨hI1, hL1, hK1⟩).mono ?_)
 ·rintro i W hi ⟨hin, hl, hk⟩
  have hlt : w.heap.size + 1 < W.heap.size := (Array.getElem?_eq_some_iff.1 hl).1
  have hy := run_yield (P := P) (args := E i) hl (by rw [hrec]; exact hps i)
  rw [hrec] at hy
  refine ⟨fn, _, assign, body, hy, roundIn_of_wpIn (F := Wd none) trivial (hassign _ i W _ hi ?_)⟩
  clear hy
  refine ⟨_, run_beginRound hl (by rw [hrec]), ?_⟩
  have hl2 : (W.putObj (w.heap.size + 1) (.loop { rec .ready none with state := .busy })).heap[w.heap.size + 1]? = some (.loop { rec .ready none with state := .busy }) := World.putObj_heap_same hlt
  have hk2 : (W.putObj (w.heap.size + 1) (.loop { rec .ready none with state := .busy })).heap[w.heap.size]? = some (.deferred (some [])) := (World.putObj_heap_other (by omega)).trans hk
  refine wpIn_mono (hbody _ i _ (Nat.lt_succ_self _) hi (hIt' i _ _ (turn _ hl rfl rfl) hin)) ?_
  have fin : ∀ (jump : Option Code) (W3 : World), Keeps w.heap.size (W.putObj (w.heap.size + 1) (.loop { rec .ready none with state := .busy })) W3 →
    (Instr.endRound (w.heap.size + 1) jump).run P W3 = .ok (.bool jump.isNone) (W3.putObj (w.heap.size + 1) (.loop (rec (if jump.isNone then .ready else .done) jump))) ∧
    Turned w.heap.size W3 (W3.putObj (w.heap.size + 1) (.loop (rec (if jump.isNone then .ready else .done) jump))) ∧
    (W3.putObj (w.heap.size + 1) (.loop (rec (if jump.isNone then .ready else .done) jump))).heap[w.heap.size + 1]? = some (.loop (rec (if jump.isNone then .ready else .done) jump)) ∧
    (W3.putObj (w.heap.size + 1) (.loop (rec (if jump.isNone then .ready else .done) jump))).heap[w.heap.size]? = some (.deferred (some [])) := fun jump W3 hk3 => by
   have hl3 := hk3.same _ _ (Nat.le_succ _) hl2 rfl
   have := run_endRound (P := P) jump hl3
   rw [hrec] at this ⊢
   exact ⟨this, turn _ hl3 rfl rfl, World.putObj_heap_same (Array.getElem?_eq_some_iff.1 hl3).1, (World.putObj_heap_other (by omega)).trans (hk3.same _ _ (Nat.le_refl _) hk2 rfl)⟩
  rintro e a3 W3 hp
  cases e with
  | normal =>
   obtain ⟨hr, ht, hl4, hk4⟩ := fin none W3 hp.1
   exact ⟨_, _, hr, .inl ⟨rfl, hIt _ _ _ ht hp.2, hl4, hk4⟩⟩
  | ret =>
   obtain ⟨hr, ht, hl4, hk4⟩ := fin (some .ret) W3 hp.1
   exact ⟨_, _, hr, .inr ⟨rfl, .ret, hIxt _ _ _ ht hp.2, hl4, hk4⟩⟩
  | exit id =>
   obtain ⟨hr, ht, hl4, hk4⟩ := fin (some (.exit id)) W3 hp.1
   exact ⟨_, _, hr, .inr ⟨rfl, .exit id, hIxt _ _ _ ht hp.2, hl4, hk4⟩⟩
  | goto t =>
   obtain ⟨hr, ht, hl4, hk4⟩ := fin (some (.goto t)) W3 hp.1
   exact ⟨_, _, hr, .inr ⟨rfl, .goto t, hIxt _ _ _ ht hp.2, hl4, hk4⟩⟩
  | panic ch => exact hp.elim
  | outgrown => exact hp.elim
 ·rintro e W2 ⟨⟨v, rfl⟩, (⟨hi, hl, hk⟩ | ⟨c, hi, hl, hk⟩)⟩
  ·refine ⟨none, _, by have := run_endLoop (P := P) hl (by rw [hrec]; simp); rw [hrec] at this; exact this, ?_⟩
   exact hdone _ _ (Nat.le_refl _) (hIt _ _ _ (turn _ hl rfl rfl) hi) ((World.putObj_heap_other (by omega)).trans hk)
  ·refine ⟨some c, _, by have := run_endLoop (P := P) hl (by rw [hrec]; simp); rw [hrec] at this; exact this, ?_⟩
   exact wpIn_wide.2 (hstop _ c _ (Nat.le_refl _) (hIxt _ _ _ (turn _ hl rfl rfl) hi) ((World.putObj_heap_other (by omega)).trans hk))
set_option maxRecDepth 100000
set_option maxHeartbeats 4000000
theorem listIn_val {P : Program} {r : Option Nat} {n : Nat} {ops : Array Oper} {Q : Exit → Act → World → Prop} {o : Oper} {rest : List Oper} {a : Act} {w : World} {v : Value} (hgd : o.guard = none) (hd : ∀ c, o.op ≠ .defer c) (he : (execOp a.eval o).run P w = .ok (.value v) w)
  (hk : wpListIn (Wd r) n P ops Q rest (a.put o.dst v) w) : wpListIn (Wd r) n P ops Q (o :: rest) a w := by
 unfold wpListIn
 rw [if_pos (by simp [Region.wanted, hgd])]
 refine opIn_wd hd ?_
 unfold Oper.wp
 rw [he]
 exact hk
def GKr (Bn : Nat) (oa : Option Addr) (n cs : Nat) (N : Nat → Nat) (S : Nat → Nat → Nat) (A : World) : Prop := Blk A Bn #[.slice oa n cs] 32 ∧ TL A oa n N S
def RKr (A B : World) : Prop := Below A.heap.size A B
def EKr (N : Nat → Nat) (S : Nat → Nat → Nat) (i : Nat) : Array Value := #[.int .u32 (N i : Int), .agg (rowC 32 (S i)).toArray]
theorem keys_seq (Bn : Nat) (oa : Option Addr) (n cs : Nat) (N : Nat → Nat) (S : Nat → Nat → Nat) (hn : n < 1000000) :
  Seq Tryz.prog 60 #[.pointer (some ⟨Bn, 0, none⟩)] (EKr N S) n (fun _ => RKr) (fun _ => GKr Bn oa n cs N S) := by
 intro l J J' Jx W hG hJd hJxd hR hY h0
 have HG : Hid (∀ i A, J i A → GKr Bn oa n cs N S A) := zh hG
 have HR : Hid (∀ i A B, i < n → J i A → RKr A B → J' i B) := zh hR
 have HY := zh hY
 have HN := zh hn
 have c0 : W.cell? ⟨Bn, 0, none⟩ = some (.slice oa n cs) := by rw [Blk.cell (hG 0 W h0).1]; rfl
 clear hG hJd hJxd hR hY hn
 go_enter Tryz.func60, Tryz.ntmps60
 go_wp2_with fail
 clear c0
 go_loopw [8] (fun y wr => ∃ i : Nat, i ≤ n ∧ y = .int .i64 (i : Int) ∧ J i wr) (fun y _ => n - (intOf y).toNat)
 case atStart => exact ⟨0, Nat.zero_le _, rfl, h0⟩
 case round =>
  obtain ⟨i, hi, rfl, hJ⟩ := hrel
  obtain ⟨-, hTL⟩ := HG.out i wr hJ
  by_cases hlt : i < n
  ·have i1 : (i : Int) < (n : Int) := by omega
   have i0 : (0 : Int) ≤ (i : Int) := by omega
   have k4 : IntKind.i64.wrap ((i : Int) + 1) = ((i + 1 : Nat) : Int) := by have := HN.out; rw [IntWalk.i64_in _ (by omega)]; omega
   obtain ⟨b, off, e, hrg⟩ := hTL i hlt
   subst e
   obtain ⟨ni, hni⟩ := zX (N i)
   obtain ⟨F, hF⟩ := zX ((rowC 32 (S i)).toArray)
   have HE : Hid (EKr N S i = #[.int .u32 (ni : Int), .agg F]) := zh (by unfold EKr; rw [hni, hF])
   rw [hni] at hrg
   obtain ⟨C, hC⟩ := zX ((tmL ni (S i)).toArray)
   have HSZ : Hid (C.size = 33) := zh (by rw [← hC]; exact tm_size _ _)
   have HON : Hid (C.all (·.oneCell') = true) := zh (by rw [← hC]; exact tm_one _ _)
   have HIS : Hid ((Tryz.prog.info? 37).map (·.size) = some C.size) := zh (by rw [HSZ.out]; exact info_t1)
   have HIF : Hid ((Tryz.prog.info? 22).map (·.size) = some F.size) := zh (by rw [← hF, List.size_toArray, rowC_len]; exact info_a32)
   have HRG : Hid (wr.rangeAt b (off + i * 33) C.toList) := zh (by rw [← hC]; exact hrg)
   obtain ⟨b4, hqb4⟩ := zX wr.heap.size
   obtain ⟨wz4, hwz4⟩ := zX (wr.alloc (.cells zeroT 37))
   have hbz : Below wr.heap.size wr wz4 := by rw [← hwz4]; exact zA
   have hXz : Blk wz4 b4 zeroT 37 := by rw [← hwz4, ← hqb4]; exact Blk.new _ _ _
   have HTZb4 : Hid (wz4.there b4 0 C.size) := zh (hXz.there (by rw [zeroT_size, HSZ.out]; exact Nat.le_refl _))
   obtain ⟨w5, hw5⟩ := zX (wz4.setCells b4 0 C.toList)
   have hOz : Own b4 wz4 w5 := by rw [← hw5]; exact Own.setCells _ _ _
   have HBw5 : Hid (Below wr.heap.size wr w5) := zh (hbz.trans (hOz.below (by omega) hbz.size))
   have HNw5 : Hid (Blk w5 b4 C 37) := zh (by rw [← hw5]; exact Blk.setCells hXz C.toList (by rw [zeroT_size, Array.length_toList]; exact HSZ.out))
   have HWw5 := zh hw5
   clear hbz hXz hOz hw5
   have c4 : w5.cell? ⟨b4, 0, none⟩ = some (.int .u32 (ni : Int)) := by have h9 := HNw5.out; rw [← hC] at h9; exact tm_cell0 h9
   have HRF : Hid (w5.rangeAt b4 1 F.toList) := zh (by have h9 := HNw5.out; rw [← hC] at h9; rw [← hF]; exact tm_key h9)
   have HJ1 := zh (HR.out i wr w5 hlt hJ HBw5.out)
   have HL := zh hlt
   clear hC hrg hF hni hTL hJ h0 hlt hi
   go_upto_region 3 with (first | (refine wpList_value rfl (exec_loadA (x := .tmp 10) (C := C) rfl rfl HRG.out Tryz.underlying37 rfl HIS.out) ?_) | (refine wpList_zero rfl rfl zero_t1 ?_; rw [hwz4, hqb4]; (try simp only [Act.put, zS])) | (refine wpList_store_mid rfl 37 (.tmp 4) (.tmp 11) rfl b4 0 C rfl rfl HTZb4.out HIS.out HON.out ?_; rw [HWw5.out]))
   obtain ⟨fn, tmps, assign, body, hy, hRd⟩ := HY.out i w5 HL.out HJ1.out
   have HRD := zh hRd
   clear hRd
   rw [HE.out] at hy
   refine (wpIn_wide (n := 0)).1 ?_
   gi_wp2_with (refine listIn_val (r := none) rfl (fun c e => by cases e) (exec_loadA (x := .tmp 15) (C := F) rfl rfl HRF.out Tryz.underlying22 rfl HIF.out) ?_)
   refine ⟨rfl, ?_⟩
   refine HRD.out.mono ?_
   rintro e W' (⟨rfl, hJ2⟩ | ⟨rfl, hJx⟩)
   ·gi_wp2
    clear hy
    go_wp2_with fail
    go_roundw
    case rel => exact ⟨i + 1, HL.out, by first | rfl | go_num, hJ2⟩
    case measure => have := HL.out; simp [intOf]; omega
   ·gi_wp2
    clear hy
    go_wp2_with fail
    refine bodyPost_ret (results_none rfl _ _ _) rfl ?_
    exact ⟨⟨_, rfl⟩, .inr hJx⟩
  ·obtain rfl : n = i := by omega
   have i1 : ¬ (n : Int) < (n : Int) := by omega
   have HJ := zh hJ
   clear hJ h0 hTL
   go_wp2_with fail
   go_end0
   exact ⟨⟨_, rfl⟩, .inl HJ.out⟩
end Go.Proofs.YtncfocjmdecapaaGreatDoor
