/- Rows of structs of the call's own, some cells each. Terms: rows of structs of 33 cells, plain; laws at the operations. -/
import Derived.WalkKit
import Derived.Laws.OwnMore
import Derived.OwnWalk
import Derived.Maps.AppendAt
import Derived.Deep.MidRow
import Derived.Test.YtncfocjmdecapaaGreatDoorZB0
import Derived.Test.YtncfocjmdecapaaGreatDoorZS1
import Derived.Test.YtncfocjmdecapaaGreatDoorZSh4
import Derived.Test.YtncfocjmdecapaaGreatDoorZA0
import Derived.Test.YtncfocjmdecapaaGreatDoorZS5
import Derived.Test.YtncfocjmdecapaaGreatDoorZSh7
import Derived.Test.YtncfocjmdecapaaGreatDoorZS8
import Derived.Test.YtncfocjmdecapaaGreatDoorZHm1
import Derived.Test.YtncfocjmdecapaaGreatDoorZHm2
import Derived.Test.YtncfocjmdecapaaGreatDoorZHm3
import Derived.Test.YtncfocjmdecapaaGreatDoorZR0
namespace Go.Proofs.YtncfocjmdecapaaGreatDoor
set_option linter.unusedVariables false
set_option linter.unusedSimpArgs false
open Go.RowKit
/-- The cells of n structs, one behind the other. -/
def rws (n : Nat) (C : Nat → List Value) : List Value := (List.range n).flatMap C
theorem rws_zero (C : Nat → List Value) : rws 0 C = [] := rfl
theorem rws_succ (n : Nat) (C : Nat → List Value) : rws (n + 1) C = rws n C ++ C n := by unfold rws; rw [List.range_succ, List.flatMap_append]; simp
theorem rws_len {k : Nat} {C : Nat → List Value} : ∀ {n : Nat}, (∀ i, i < n → (C i).length = k) → (rws n C).length = n * k
  | 0, _ => by simp [rws_zero]
  | n + 1, h => by rw [rws_succ, List.length_append, rws_len fun i hi => h i (by omega), h n (by omega), Nat.succ_mul]
theorem rws_get {k : Nat} {C : Nat → List Value} : ∀ {n : Nat}, (∀ i, i < n → (C i).length = k) → ∀ {i j : Nat}, i < n → j < k → (rws n C)[i * k + j]? = (C i)[j]?
  | 0, _, i, _, hi, _ => absurd hi (Nat.not_lt_zero _)
  | n + 1, h, i, j, hi, hj => by
    have hl : (rws n C).length = n * k := rws_len fun i hi => h i (by omega)
    rw [rws_succ]
    rcases Nat.lt_or_ge i n with h1 | h1
    · have hlt : i * k + j < n * k := Nat.lt_of_lt_of_le (by omega) (show i * k + k ≤ n * k by rw [← Nat.succ_mul]; exact Nat.mul_le_mul_right k h1)
      rw [List.getElem?_append_left (by rw [hl]; exact hlt)]
      exact rws_get (fun i hi => h i (by omega)) h1 hj
    · obtain rfl : i = n := by omega
      rw [List.getElem?_append_right (by rw [hl]; omega), hl]
      congr 1; omega
theorem rws_congr {n : Nat} {C D : Nat → List Value} (h : ∀ i, i < n → C i = D i) : rws n C = rws n D := by
  induction n with
  | zero => rfl
  | succ n ih => rw [rws_succ, rws_succ, ih fun i hi => h i (by omega), h n (by omega)]
/-- The structs of an owned row, cell by cell. -/
theorem rws_cells {w : World} {base : Nat} {e : TypeId} {k : Nat} {v : Value} {n : Nat} {C : Nat → List Value} (h : w.ownsRow base e k v n (rws n C)) (hk : ∀ i, i < n → (C i).length = k) :
    ∃ oa cap, v = .slice oa n cap ∧ n ≤ cap ∧ cap ≤ maxLen ∧ (∀ a, oa = some a → ∃ g, a = ⟨g, 0, none⟩ ∧ base ≤ g ∧ g < w.heap.size) ∧ ∀ i j, i < n → j < k → ∃ b off, oa = some ⟨b, off, none⟩ ∧ off = 0 ∧ w.cell? ⟨b, off + i * k + j, none⟩ = (C i)[j]? := by
  rcases h.2 with ⟨rfl, h0⟩ | ⟨g, cap, cur, rfl, hb, hh, hnc, hm, hsz, hcur⟩
  · subst h0
    exact ⟨none, 0, rfl, Nat.le_refl _, by unfold maxLen; omega, (fun a h => by cases h), fun i j hi => absurd hi (Nat.not_lt_zero _)⟩
  · refine ⟨_, cap, rfl, hnc, hm, (fun a h => by cases h; exact ⟨g, rfl, hb, lt_of_block hh⟩), fun i j hi hj => ⟨g, 0, rfl, rfl, ?_⟩⟩
    have h1 : w.cell? ⟨g, 0 + i * k + j, none⟩ = cur[0 + i * k + j]? := by simp [World.cell?, hh]
    have hlt : i * k + j < n * k := Nat.lt_of_lt_of_le (by omega) (show i * k + k ≤ n * k by rw [← Nat.succ_mul]; exact Nat.mul_le_mul_right k hi)
    rw [h1, Nat.zero_add, ← Array.getElem?_toList, ← List.getElem?_take_of_lt hlt, hcur]
    exact rws_get hk hi hj
theorem owns_later {w w' : World} {base : Nat} {e : TypeId} {k : Nat} {v : Value} {n : Nat} {xs : List Value} (h : w.ownsRow base e k v n xs) (hb : Below w.heap.size w w') : w'.ownsRow base e k v n xs := by
  refine ⟨h.1, ?_⟩
  rcases h.2 with h2 | ⟨g, cap, cur, hv, hg, hh, r⟩
  · exact .inl h2
  · exact .inr ⟨g, cap, cur, hv, hg, by rw [hb.block g (lt_of_block hh)]; exact hh, r⟩
theorem owns_own {w w' : World} {base b : Nat} {e : TypeId} {k : Nat} {v : Value} {n : Nat} {xs : List Value} (h : w.ownsRow base e k v n xs) (hO : Own b w w') (hb : b < base) : w'.ownsRow base e k v n xs := by
  refine ⟨h.1, ?_⟩
  rcases h.2 with h2 | ⟨g, cap, cur, hv, hg, hh, r⟩
  · exact .inl h2
  · exact .inr ⟨g, cap, cur, hv, hg, by rw [hO.block g (lt_of_block hh) (by omega)]; exact hh, r⟩
theorem owns_block {w : World} {base : Nat} {e : TypeId} {k : Nat} {v : Value} {n : Nat} {xs : List Value} (h : w.ownsRow base e k v n xs) : ∀ q, v.ownBlock = some q → base ≤ q := by
  intro q hq
  rcases h.2 with ⟨rfl, _⟩ | ⟨g, cap, cur, rfl, hb, _⟩
  · simp [Value.ownBlock] at hq
  · simp [Value.ownBlock] at hq; omega
end Go.Proofs.YtncfocjmdecapaaGreatDoor
namespace Go.Proofs.YtncfocjmdecapaaGreatDoor
set_option linter.unusedVariables false
set_option linter.unusedSimpArgs false
open Go.RowKit
theorem exec_buildM {o : Oper} {a : Act} {w : World} {ty : TypeId} {C : Array Value} {parts : Array (Nat × Operand)} {ps : Array (Nat × Value)} (ho : o.op = .build ty parts) (hp : (parts.map fun (i, x) => (i, a.eval x)) = ps) (h : ∀ w, (Instr.build ty ps).run Tryz.prog w = .ok (.agg C) w) : (execOp a.eval o).run Tryz.prog w = .ok (.value (.agg C)) w := by
  unfold execOp
  simp only [ho, hp, Sem.run_bind, h, Result.andThen_ok]
  rfl
theorem exec_loadM {o : Oper} {a : Act} {w : World} {ty : TypeId} {x : Operand} {b f : Nat} {cs : List Value} {d : TypeDesc} (ho : o.op = .load ty x) (hx : a.eval x = .pointer (some ⟨b, f, none⟩)) (hc : w.rangeAt b f cs)
    (hu : Tryz.prog.underlying ty = some d) (hd : d.isRow = true) (hi : (Tryz.prog.info? ty).map (·.size) = some cs.length) : (execOp a.eval o).run Tryz.prog w = .ok (.value (.agg cs.toArray)) w := by
  unfold execOp
  simp only [ho, hx, Instr.loadAt, Instr.sureAddr, Sem.run_bind, Sem.run_pure, Result.andThen_ok, run_loadVar_mid w b f ty cs d hc hu hd hi]
theorem exec_loadA {o : Oper} {a : Act} {w : World} {ty : TypeId} {x : Operand} {b f : Nat} {C : Array Value} {d : TypeDesc} (ho : o.op = .load ty x) (hx : a.eval x = .pointer (some ⟨b, f, none⟩)) (hc : w.rangeAt b f C.toList)
    (hu : Tryz.prog.underlying ty = some d) (hd : d.isRow = true) (hi : (Tryz.prog.info? ty).map (·.size) = some C.size) : (execOp a.eval o).run Tryz.prog w = .ok (.value (.agg C)) w :=
  exec_loadM (cs := C.toList) ho hx hc hu hd (by rw [hi]; simp)
theorem Blk.rangeA {w : World} {b : Nat} {C : Array Value} {t : TypeId} (h : Blk w b C t) : w.rangeAt b 0 C.toList := fun j v hv => by
  rw [Nat.zero_add, Blk.cell h j]; simpa using hv
theorem wpList_zero {ops : Array Oper} {rest : List Oper} {o : Oper} {a : Act} {w : World} {Q : Exit → Act → World → Prop} {ty : TypeId} {Z : Array Value} (hgd : o.guard = none) (ho : o.op = .alloc ty) (hz : ∀ w, (zeroValue ty).run Tryz.prog w = .ok (.agg Z) w)
    (h : wpList Tryz.prog ops Q rest (a.put o.dst (.pointer (some ⟨w.heap.size, 0, none⟩))) (w.alloc (.cells Z ty))) : wpList Tryz.prog ops Q (o :: rest) a w := by
  refine wpList_plain hgd fun K hK => ?_
  have hr : (execOp a.eval o).run Tryz.prog w = .ok (.value (.pointer (some ⟨w.heap.size, 0, none⟩))) (w.alloc (.cells Z ty)) := by
    unfold execOp
    simp only [ho, Instr.alloc, Sem.run_bind, hz, Result.andThen_ok]
    rfl
  unfold Oper.wp
  rw [hr]
  exact hK _ _ h
/-- A term's cells. -/
def tmL (n : Nat) (S : Nat → Nat) : List Value := .int .u32 (n : Int) :: rowC 32 S
theorem tmL_len (n : Nat) (S : Nat → Nat) : (tmL n S).length = 33 := by unfold tmL; rw [List.length_cons, rowC_len]
theorem tm_size (n : Nat) (S : Nat → Nat) : (tmL n S).toArray.size = 33 := by rw [List.size_toArray, tmL_len]
theorem tmL_one (n : Nat) (S : Nat → Nat) : ∀ v ∈ tmL n S, v.oneCell' = true := fun v hv => by
  unfold tmL at hv
  rcases List.mem_cons.1 hv with rfl | h
  · rfl
  · exact rowC_one _ _ v h
theorem tm_one (n : Nat) (S : Nat → Nat) : (tmL n S).toArray.all (·.oneCell') = true := all_oneCell_toArray (tmL_one _ _)
theorem tmL_congr {n : Nat} {S U : Nat → Nat} (h : ∀ i, i < 32 → S i = U i) : tmL n S = tmL n U := by unfold tmL; rw [rowC_congr h]
def zeroT : Array Value := (tmL 0 (fun _ => 0)).toArray
theorem zeroT_size : zeroT.size = 33 := tm_size _ _
def zeroA : Array Value := (rowC 32 (fun _ => 0)).toArray
theorem zeroA_size : zeroA.size = 32 := by unfold zeroA; rw [List.size_toArray, rowC_len]
theorem info_t1 : (Tryz.prog.info? 37).map (·.size) = some 33 := by kernel_rfl
theorem info_a32 : (Tryz.prog.info? 22).map (·.size) = some 32 := by kernel_rfl
theorem info_f1 : (Tryz.prog.info? 37).map (fun i => (i.zero, i.size, i.bytes)) = some (some (.agg zeroT), 33, 36) := by kernel_rfl
theorem zero_t1 (w : World) : (zeroValue 37).run Tryz.prog w = .ok (.agg zeroT) w := by kernel_rfl
theorem zero_a32 (w : World) : (zeroValue 22).run Tryz.prog w = .ok (.agg zeroA) w := by kernel_rfl
theorem build_t1 (n : Nat) (S : Nat → Nat) (w : World) : (Instr.build 37 #[(0, .int .u32 (n : Int)), (1, .agg (rowC 32 S).toArray)]).run Tryz.prog w = .ok (.agg (tmL n S).toArray) w := run_build w 37 _ _ (by kernel_rfl)
theorem tm_cell0 {w : World} {b n : Nat} {S : Nat → Nat} {T : TypeId} (h : Blk w b (tmL n S).toArray T) : w.cell? ⟨b, 0, none⟩ = some (.int .u32 (n : Int)) := by rw [Blk.cell h]; rfl
theorem tm_key {w : World} {b n : Nat} {S : Nat → Nat} {T : TypeId} (h : Blk w b (tmL n S).toArray T) : w.rangeAt b 1 (rowC 32 S) := fun j v hv => by
  rw [Blk.cell h, List.getElem?_toArray, Nat.add_comm]; exact hv
/-- n terms lie behind an address. -/
def tmC (N : Nat → Nat) (S : Nat → Nat → Nat) : Nat → List Value := fun i => tmL (N i) (S i)
theorem tmC_len (N : Nat → Nat) (S : Nat → Nat → Nat) : ∀ i, (tmC N S i).length = 33 := fun _ => tmL_len _ _
def TL (w : World) (oa : Option Addr) (n : Nat) (N : Nat → Nat) (S : Nat → Nat → Nat) : Prop := ∀ i, i < n → ∃ b off, oa = some ⟨b, off, none⟩ ∧ w.rangeAt b (off + i * 33) (tmL (N i) (S i))
theorem TL.later {w w' : World} {oa : Option Addr} {n : Nat} {N : Nat → Nat} {S : Nat → Nat → Nat} (h : TL w oa n N S) (hb : Below w.heap.size w w') : TL w' oa n N S := fun i hi => by
  obtain ⟨b, off, e, hr⟩ := h i hi
  exact ⟨b, off, e, fun j v hv => cell_below hb (hr j v hv)⟩
theorem TL.nil (w : World) (oa : Option Addr) (N : Nat → Nat) (S : Nat → Nat → Nat) : TL w oa 0 N S := fun i hi => absurd hi (Nat.not_lt_zero _)
theorem TL.mono {w : World} {oa : Option Addr} {n m : Nat} {N : Nat → Nat} {S : Nat → Nat → Nat} (h : TL w oa n N S) (hm : m ≤ n) : TL w oa m N S := fun i hi => h i (by omega)
theorem TL.congr {w : World} {oa : Option Addr} {n : Nat} {N M : Nat → Nat} {S U : Nat → Nat → Nat} (h : TL w oa n N S) (he : ∀ i, i < n → N i = M i ∧ S i = U i) : TL w oa n M U := fun i hi => by
  obtain ⟨b, off, e, hr⟩ := h i hi
  rw [(he i hi).1, (he i hi).2] at hr
  exact ⟨b, off, e, hr⟩
theorem TL.cell0 {w : World} {oa : Option Addr} {n : Nat} {N : Nat → Nat} {S : Nat → Nat → Nat} (h : TL w oa n N S) {i : Nat} (hi : i < n) : ∃ b off, oa = some ⟨b, off, none⟩ ∧ w.cell? ⟨b, off + i * 33, none⟩ = some (.int .u32 (N i : Int)) := by
  obtain ⟨b, off, e, hr⟩ := h i hi
  exact ⟨b, off, e, hr 0 _ rfl⟩
theorem TL.news {w : World} {b off n : Nat} {N : Nat → Nat} {S : Nat → Nat → Nat} (h : TL w (some ⟨b, off, none⟩) n N S) : ∀ j u, (rws n (tmC N S))[j]? = some u → w.cell? ((⟨b, off, none⟩ : Addr).add j) = some u := fun j u hu => by
  have hl : (rws n (tmC N S)).length = n * 33 := rws_len (k := 33) fun _ _ => tmL_len _ _
  have hj : j < n * 33 := by
    rcases Nat.lt_or_ge j (n * 33) with h' | h'
    · exact h'
    · rw [List.getElem?_eq_none (by omega)] at hu; cases hu
  have hi : j / 33 < n := Nat.div_lt_of_lt_mul (by omega)
  have hr : j % 33 < 33 := Nat.mod_lt _ (by decide)
  have he : j / 33 * 33 + j % 33 = j := by omega
  have h5 := rws_get (k := 33) (C := tmC N S) (n := n) (fun _ _ => tmL_len _ _) hi hr
  rw [he, hu] at h5
  obtain ⟨b', off', e, h6⟩ := h (j / 33) hi
  cases e
  have h7 := h6 (j % 33) u h5.symm
  rw [Addr.add_mid, ← h7]
  congr 2
  omega
/-- Terms in a row of our own. -/
def TO (T : TypeId) (w : World) (base : Nat) (v : Value) (n : Nat) (N : Nat → Nat) (S : Nat → Nat → Nat) : Prop := w.ownsRow base T 33 v n (rws n (tmC N S))
theorem TO.later {T : TypeId} {w w' : World} {base n : Nat} {v : Value} {N : Nat → Nat} {S : Nat → Nat → Nat} (h : TO T w base v n N S) (hb : Below w.heap.size w w') : TO T w' base v n N S := owns_later h hb
theorem TO.nil (T : TypeId) (w : World) (base : Nat) (N : Nat → Nat) (S : Nat → Nat → Nat) : TO T w base (.slice none 0 0) 0 N S := World.ownsRow_nil w base _ 33
theorem TO.congr {T : TypeId} {w : World} {base n : Nat} {v : Value} {N M : Nat → Nat} {S U : Nat → Nat → Nat} (h : TO T w base v n N S) (he : ∀ i, i < n → N i = M i ∧ S i = U i) : TO T w base v n M U := by
  unfold TO at h ⊢
  rw [rws_congr (D := tmC M U) fun i hi => by unfold tmC; rw [(he i hi).1, (he i hi).2]] at h
  exact h
theorem TO.out {T : TypeId} {w : World} {base n : Nat} {v : Value} {N : Nat → Nat} {S : Nat → Nat → Nat} (h : TO T w base v n N S) : ∃ oa c, v = .slice oa n c ∧ n ≤ c ∧ c ≤ maxLen ∧ (oa = none → n = 0) ∧ (∀ a, oa = some a → base ≤ a.block ∧ a.block < w.heap.size) ∧ TL w oa n N S := by
  obtain ⟨oa, c, hv, hnc, hm, hbl, hc⟩ := rws_cells h fun i _ => tmC_len N S i
  refine ⟨oa, c, hv, hnc, hm, fun e => ?_, fun a ha => ?_, fun i hi => ?_⟩
  · rcases Nat.eq_zero_or_pos n with h0 | h0
    · exact h0
    · obtain ⟨b, off, e1, _⟩ := hc 0 0 h0 (by decide)
      rw [e] at e1; cases e1
  · obtain ⟨g, rfl, h1, h2⟩ := hbl a ha
    exact ⟨h1, h2⟩
  · obtain ⟨b, off, e1, e2, _⟩ := hc i 0 hi (by decide)
    refine ⟨b, off, e1, fun j u hu => ?_⟩
    have hj : j < 33 := by have := (List.getElem?_eq_some_iff.1 hu).1; rw [tmL_len] at this; exact this
    obtain ⟨b', off', e3, _, e4⟩ := hc i j hi hj
    rw [e1] at e3; cases e3
    rw [e4]; exact hu
theorem TO.block {T : TypeId} {w : World} {base n : Nat} {v : Value} {N : Nat → Nat} {S : Nat → Nat → Nat} (h : TO T w base v n N S) : ∀ q, v.ownBlock = some q → base ≤ q := owns_block h
def catN (n : Nat) (A B : Nat → Nat) : Nat → Nat := fun i => if i < n then A i else B (i - n)
def catT (n : Nat) (A B : Nat → Nat → Nat) : Nat → Nat → Nat := fun i => if i < n then A i else B (i - n)
theorem rws_tm (n q : Nat) (N M : Nat → Nat) (S U : Nat → Nat → Nat) : rws (n + q) (tmC (catN n N M) (catT n S U)) = rws n (tmC N S) ++ rws q (tmC M U) := by
  induction q with
  | zero => rw [rws_zero, List.append_nil, Nat.add_zero]; exact rws_congr fun i hi => by unfold tmC catN catT; rw [if_pos hi, if_pos hi]
  | succ q ih => rw [← Nat.add_assoc, rws_succ, rws_succ, ih, ← List.append_assoc]; congr 1; unfold tmC catN catT; rw [if_neg (by omega), if_neg (by omega), Nat.add_sub_cancel_left]
theorem rws_tm_one (n : Nat) (N : Nat → Nat) (S : Nat → Nat → Nat) : ∀ v ∈ rws n (tmC N S), v.oneCell' = true := by
  induction n with
  | zero => intro v hv; rw [rws_zero] at hv; cases hv
  | succ n ih =>
    intro v hv
    rw [rws_succ] at hv
    rcases List.mem_append.1 hv with h1 | h1
    · exact ih v h1
    · exact tmL_one _ _ v h1
theorem parts3 {T : TypeId} {z : Value} {s y : Nat} (h : (Tryz.prog.info? T).map (fun i => (i.zero, i.size, i.bytes)) = some (some z, s, y)) : ∃ i, Tryz.prog.info? T = some i ∧ i.zero = some z ∧ i.size = s ∧ i.bytes = y := by
  cases e : Tryz.prog.info? T with
  | none => rw [e] at h; cases h
  | some i => rw [e] at h; simp at h; exact ⟨i, rfl, h.1, h.2.1, h.2.2⟩
/-- append of terms that lie anywhere, onto a row of our own. -/
theorem run_app_TO {T TS : TypeId} (hU : Tryz.prog.underlying TS = some (.slice T)) (hI : (Tryz.prog.info? T).map (fun i => (i.zero, i.size, i.bytes)) = some (some (.agg zeroT), 33, 36))
    (ty : TypeId) (base : Nat) (v : Value) (n q cq : Nat) (N M : Nat → Nat) (S U : Nat → Nat → Nat) (oa : Option Addr) (W : World) (hG : TO T W base v n N S) (hA : TL W oa q M U) (hno : oa = none → q = 0)
    (hn : n + q < 1000000) (hbase : base ≤ W.heap.size) :
    ∃ v' w', (Builtin.append_ #[TS, TS] ty #[v, .slice oa q cq]).run Tryz.prog W = .ok v' w' ∧ TO T w' base v' (n + q) (catN n N M) (catT n S U) ∧ Below base W w' ∧ W.grownBy w' v.ownBlock ∧ (v'.ownBlock = v.ownBlock ∨ v'.ownBlock = some W.heap.size) := by
  obtain ⟨i0, hi, hz0, hz1, hz2⟩ := parts3 hI
  have hbk := hG.block
  have hrefl : W.grownBy W v.ownBlock := ⟨rfl, rfl, rfl, Nat.le_refl _, fun _ _ _ => rfl⟩
  cases oa with
  | none =>
    obtain rfl := hno rfl
    refine ⟨v, W, ?_, by unfold TO; rw [rws_tm, rws_zero, List.append_nil]; exact hG, Below.refl _ _, hrefl, .inl rfl⟩
    rcases hG.2 with ⟨rfl, rfl⟩ | ⟨g, cap, cur, rfl, _, _, hnc, _⟩
    · simp [Builtin.append_, run_underlying hU, sizeOf, typeInfo, hi, Builtin.lenOf, Builtin.firstCells]
    · simp [Builtin.append_, run_underlying hU, sizeOf, typeInfo, hi, Builtin.lenOf, Builtin.firstCells, hnc, storeCells]
  | some ad =>
    by_cases h0 : q = 0
    · subst h0
      obtain ⟨v', w', hr, hown', hg, _, hob⟩ := run_append_own_at (P := Tryz.prog) W base TS ty T i0 (.agg zeroT) 33 36 hU hi hz0 hz1 hz2 zeroT_size (by decide) v n (rws n (tmC N S)) hG ad 0 cq [] rfl
        (fun j u hu => by simp at hu) (fun u hu => by cases hu) (by unfold maxLen; omega) (by omega) hbase
      exact ⟨v', w', hr, by unfold TO; rw [rws_tm, rws_zero]; exact hown', (Below.refl base W).grown hg hbase hbk, hg, hob⟩
    · obtain ⟨b, off, e1, _⟩ := hA 0 (by omega)
      cases e1
      obtain ⟨v', w', hr, hown', hg, _, hob⟩ := run_append_own_at (P := Tryz.prog) W base TS ty T i0 (.agg zeroT) 33 36 hU hi hz0 hz1 hz2 zeroT_size (by decide) v n (rws n (tmC N S)) hG ⟨b, off, none⟩ q cq (rws q (tmC M U)) (rws_len fun _ _ => tmL_len _ _)
        hA.news (rws_tm_one _ _ _) (by unfold maxLen; omega) (by omega) hbase
      exact ⟨v', w', hr, by unfold TO; rw [rws_tm]; exact hown', (Below.refl base W).grown hg hbase hbk, hg, hob⟩
theorem step_TO {T TS : TypeId} (hU : Tryz.prog.underlying TS = some (.slice T)) (hI : (Tryz.prog.info? T).map (fun i => (i.zero, i.size, i.bytes)) = some (some (.agg zeroT), 33, 36))
    {ops : Array Oper} {o : Oper} {a : Act} {K : Act → World → Prop} {Q : Exit → Act → World → Prop} {E : Prop} (hgd : o.guard = none) (s x : Operand)
    (ho : o.op = .call { callee := .builtin .append, args := #[s, x], argTypes := #[TS, TS] })
    (base : Nat) (v : Value) (n q cq : Nat) (N M : Nat → Nat) (S U : Nat → Nat → Nat) (oa : Option Addr) (W : World) (hs : a.eval s = v) (hG : TO T W base v n N S) (hx : a.eval x = .slice oa q cq) (hA : TL W oa q M U) (hno : oa = none → q = 0)
    (hn : n + q < 1000000) (hbase : base ≤ W.heap.size)
    (h : ∀ v' w', TO T w' base v' (n + q) (catN n N M) (catT n S U) → Below base W w' → W.grownBy w' v.ownBlock → K (a.put o.dst v') w') :
    if Region.wanted o (yielded ops a.tmps) = true then Oper.wp Tryz.prog o a W K Q else E := by
  obtain ⟨v', w', hr, h1, h2, h3, _⟩ := run_app_TO hU hI o.type base v n q cq N M S U oa W hG hA hno hn hbase
  have hw : Region.wanted o (yielded ops a.tmps) = true := by simp [Region.wanted, hgd]
  rw [if_pos hw]
  unfold Oper.wp execOp
  simp only [ho, resolve, invoke, builtin, Sem.run_bind, Sem.run_pure, Result.andThen_ok, List.map_toArray, List.map_cons, List.map_nil, hs, hx, hr]
  exact h v' w' h1 h2 h3
end Go.Proofs.YtncfocjmdecapaaGreatDoor
