/- Parts handed in in whatever order: plain mathematics, and what Submit gives. -/
import Derived.Test.YtgiffaeckhhmpaaDoorPj0
namespace Go.Proofs.YtgiffaeckhhmpaaDoor
set_option linter.unusedVariables false
set_option linter.unusedSimpArgs false
open Go.RowKit
/-- Parts do not lie in a block that holds no byte. -/
theorem Shs.no8 {t b : Nat} {w : World} {oa : Option Addr} {n : Nat} {S : Nat → Sh} {C : Array Value} {T : TypeId} (h : Shs t w oa n S) (hB : Blk w b C T) (hC : ∀ (j : Nat) (m : Int), C[j]? ≠ some (Value.int .u8 m)) : Shs b w oa n S := fun i hi => by
  obtain ⟨c, off, D, h1, hne, ⟨od, cap, rfl, hBy, h2, h3, h4, h5⟩, h6⟩ := h i hi
  refine ⟨c, off, _, h1, ?_, ⟨od, cap, rfl, hBy, h2, h3, h4, fun h0 a ha => ?_⟩, h6⟩
  · intro e
    have h7 := h6 0 (by decide)
    rw [e, Blk.cell hB] at h7
    exact hC _ _ h7
  · obtain ⟨_, d, o2, e, h8⟩ := hBy 0 h0
    rw [e] at ha; cases ha
    intro e2
    have e3 : d = b := e2
    rw [e3, Blk.cell hB] at h8
    exact hC _ _ h8
theorem Shs.keep {t b : Nat} {w w' : World} {oa : Option Addr} {n : Nat} {S : Nat → Sh} (h : Shs t w oa n S) (h2 : Shs b w oa n S) (hO : Own b w w') : Shs t w' oa n S := fun i hi => by
  obtain ⟨c, off, D, h1, hne, ⟨od, cap, rfl, hBy, a2, a3, a4, a5⟩, h6⟩ := h i hi
  obtain ⟨c', off', D', h1', hne', ⟨od', cap', rfl, hBy', a2', a3', a4', a5'⟩, h6'⟩ := h2 i hi
  rw [h1] at h1'; cases h1'
  have e : some (Value.slice od (S i).len cap) = some (Value.slice od' (S i).len cap') := (h6 2 (by decide)).symm.trans (h6' 2 (by decide))
  simp only [Option.some.injEq, Value.slice.injEq, true_and] at e
  obtain ⟨rfl, rfl⟩ := e
  refine ⟨c, off, _, h1, hne, ⟨od, cap, rfl, hBy.own hO a5', a2, a3, a4, a5⟩, fun j hj => ?_⟩
  match j, hj with
  | 0, _ => exact hO.cell (h6 0 (by omega)) hne'
  | 1, _ => exact hO.cell (h6 1 (by omega)) hne'
  | 2, _ => exact hO.cell (h6 2 (by omega)) hne'
theorem Shs.cong {t : Nat} {w : World} {oa : Option Addr} {n : Nat} {S S' : Nat → Sh} (h : Shs t w oa n S) (he : ∀ i, i < n → S i = S' i) : Shs t w oa n S' := fun i hi => by
  obtain ⟨c, off, D, h1, hne, h2, h3⟩ := h i hi
  exact ⟨c, off, D, h1, hne, by rw [← he i hi]; exact h2, h3⟩
theorem pg_no8 (K N : Int) (gen : Int) (mk : ByteArray) (o : Option Addr) (n c : Nat) : ∀ (j : Nat) (m : Int), (#[Value.int .i64 K, .int .i64 N, .int .u32 gen, .string mk, .slice o n c] : Array Value)[j]? ≠ some (Value.int .u8 m) := fun j m e => by
  match j, e with
  | 0, e => cases e
  | 1, e => cases e
  | 2, e => cases e
  | 3, e => cases e
  | 4, e => cases e
  | j + 5, e => simp at e
theorem PW.left {w : World} {tb b7 k Kp Np : Nat} {f d : Nat → Nat} {wA A A' : World} (h : PW w tb b7 k Kp Np f d wA A) (hL : Left tb A A') (h1 : w.heap.size ≤ tb) (h2 : b7 ≠ tb) : PW w tb b7 k Kp Np f d wA A' :=
  ⟨h.b.trans (hL.2.below h1 h.b.size), hL.2.blk h.p h2, h.s.left hL⟩
/-- The parts at the places p. -/
def pQ (p : Nat → Nat) (k : Nat) (f d : Nat → Nat) : Nat → Sh := fun i => ⟨p i + 1, 3, 32, shF f d k (p i + 1)⟩
def addp (p : Nat → Nat) (m at_ : Nat) : Nat → Nat := fun i => if i < m then p i else at_
theorem addp_lt {p : Nat → Nat} {m a i : Nat} (h : i < m) : addp p m a i = p i := if_pos h
theorem addp_at (p : Nat → Nat) (m a : Nat) : addp p m a m = a := if_neg (Nat.lt_irrefl _)
theorem cat_pQ (p : Nat → Nat) (m a k : Nat) (f d : Nat → Nat) : catSh m (pQ p k f d) (fun _ => ⟨a + 1, 3, 32, shF f d k (a + 1)⟩) = pQ (addp p m a) k f d := by
  funext i
  unfold catSh pQ addp
  by_cases h : i < m
  · rw [if_pos h, if_pos h]
  · rw [if_neg h, if_neg h]
theorem seen_pQ {p : Nat → Nat} {m a k : Nat} {f d : Nat → Nat} : seenB (fun q => (pQ p k f d q).ix) m (a + 1) = true ↔ ∃ j, j < m ∧ p j = a := by
  rw [seenB_iff]
  exact ⟨fun ⟨q, hq, e⟩ => ⟨q, hq, by have e2 : p q + 1 = a + 1 := e; omega⟩, fun ⟨q, hq, e⟩ => ⟨q, hq, by show p q + 1 = a + 1; omega⟩⟩
theorem MayG_p {Kp Np k m : Nat} {p f d : Nat → Nat} (h1 : 2 ≤ Kp) (h2 : Kp ≤ Np) (h3 : Np ≤ 255) (hm : m ≤ Kp) (hp : ∀ i, i < m → p i < Np) (hi : ∀ i j, i < m → j < m → p i = p j → i = j) : MayG (Kp : Int) (Np : Int) 3 (pQ p k f d) m 1 := ⟨⟨by omega, by omega, by omega⟩, by decide, by omega, fun i him => by
  refine wrongN_ok rfl ?_ (Nat.succ_ne_zero _) (by show p i + 1 ≤ (Np : Int).toNat; have := hp i him; omega) rfl
  rcases hs : seenB (fun q => (pQ p k f d q).ix) i (pQ p k f d i).ix with _ | _
  · rfl
  · obtain ⟨q, hq, e⟩ := seen_pQ.1 hs
    have := hi q i (by omega) him e
    omega⟩
theorem jn_pQ {p f d : Nat → Nat} {k j N : Nat} (hf : ∀ i, i < 32 → f i < 256) (hd : ∀ i, i < 32 * k → d i < 256) (hj : j < 32) (hp : ∀ i, i < k + 1 → p i < N) (hN : N ≤ 255) (h : ∀ i j, i < k + 1 → j < k + 1 → p i = p j → i = j) : jnF (pQ p k f d) 0 (k + 1) j = f j :=
  (show jnF (pS p 32 (fun x => shF f d k (x + 1))) 0 (k + 1) j = f j from by
    rw [pS_join hf hd hj hp hN h (by decide)]; exact shF_secret (hf j hj))
/-- What Submit answers to the part at the place a. -/
def AnsR (Kp Np k m a : Nat) (p f d : Nat → Nat) (t : Nat) (Ko No : Int) (geno : Nat) (mko : ByteArray) (oq : Option Addr) (nq cq : Nat) (dq : Bool) (ev : Value) (w : World) : Prop :=
  ((∃ j, j < m ∧ p j = a) ∧ ev = .iface 83 (.int .i64 12)) ∨
  ((¬ ∃ j, j < m ∧ p j = a) ∧ Ko = (Kp : Int) ∧ No = (Np : Int) ∧ geno = 3 ∧ mko = ⟨#[109]⟩ ∧ nq = m + 1 ∧ dq = decide ((m : Int) + 1 = (Kp : Int)) ∧ ev = .nilIface ∧ m + 1 ≤ cq ∧ cq ≤ maxLen ∧ Shs t w oq (m + 1) (pQ (addp p m a) k f d))
theorem AnsR.later {Kp Np k m a : Nat} {p f d : Nat → Nat} {t : Nat} {Ko No : Int} {geno : Nat} {mko : ByteArray} {oq : Option Addr} {nq cq : Nat} {dq : Bool} {ev : Value} {w w' : World} (h : AnsR Kp Np k m a p f d t Ko No geno mko oq nq cq dq ev w) (hb : Below w.heap.size w w') : AnsR Kp Np k m a p f d t Ko No geno mko oq nq cq dq ev w' := by
  rcases h with h | ⟨h1, h2, h3, h4, h5, h6, h7, h8, h9, h10, h11⟩
  · exact .inl h
  · exact .inr ⟨h1, h2, h3, h4, h5, h6, h7, h8, h9, h10, h11.later hb⟩
theorem AnsR.put {Kp Np k m a : Nat} {p f d : Nat → Nat} {t b : Nat} {Ko No : Int} {geno : Nat} {mko : ByteArray} {oq : Option Addr} {nq cq : Nat} {dq : Bool} {ev : Value} {w w' : World} {C : Array Value} {T : TypeId} (h : AnsR Kp Np k m a p f d t Ko No geno mko oq nq cq dq ev w) (hB : Blk w b C T) (hC : ∀ (j : Nat) (m : Int), C[j]? ≠ some (Value.int .u8 m)) (hO : Own b w w') : AnsR Kp Np k m a p f d t Ko No geno mko oq nq cq dq ev w' := by
  rcases h with h | ⟨h1, h2, h3, h4, h5, h6, h7, h8, h9, h10, h11⟩
  · exact .inl h
  · exact .inr ⟨h1, h2, h3, h4, h5, h6, h7, h8, h9, h10, h11.keep (h11.no8 hB hC) hO⟩
theorem submit_at {w : World} {tb b7 k Kp Np : Nat} {f d : Nat → Nat} {wA A : World} (h : PW w tb b7 k Kp Np f d wA A) (h1 : 2 ≤ Kp) (h2 : Kp ≤ Np) (h3 : Np ≤ 200) (p : Nat → Nat) (m a c t : Nat) (o : Option Addr) (hm : m < Kp) (ha : a < Np) (hp : ∀ i, i < m → p i < Np) (hi : ∀ i j, i < m → j < m → p i = p j → i = j)
    (ht : t < A.heap.size) (htn : t ≠ wA.heap.size + 1 + a) (hS : Shs t A o m (pQ p k f d)) (hc1 : m ≤ c) (hc2 : c ≤ maxLen) :
    Calls Tryd.prog 9 #[.agg #[.int .i64 (Kp : Int), .int .i64 (Np : Int), .int .u32 3, .string ⟨#[109]⟩, .slice o m c], .string ⟨#[109]⟩, .agg #[.int .u8 ((a + 1 : Nat) : Int), .int .u32 3, .slice (some ⟨wA.heap.size + 1 + a, 0, none⟩) 32 32]] A fun e w' => ∃ (Ko No : Int) (geno : Nat) (mko : ByteArray) (oq : Option Addr) (nq cq : Nat) (dq : Bool) (ev : Value), e = .returned (.tuple #[.agg #[.int .i64 Ko, .int .i64 No, .int .u32 (geno : Int), .string mko, .slice oq nq cq], .bool dq, ev]) ∧ AnsR Kp Np k m a p f d t Ko No geno mko oq nq cq dq ev w' ∧ Below A.heap.size A w' := by
  have hix : ∀ i, i < m → (pQ p k f d i).ix < 256 := fun i him => by have := hp i him; show p i + 1 < 256; omega
  have hM := MayG_p (k := k) (f := f) (d := d) h1 h2 (by omega : Np ≤ 255) (Nat.le_of_lt hm) hp hi
  have hsh := h.sh ha t (a + 1) 3 htn
  by_cases hs : ∃ j, j < m ∧ p j = a
  · refine (submit_any t (Kp : Int) (Np : Int) 3 m c (a + 1) 3 32 32 12 ⟨#[109]⟩ ⟨#[109]⟩ o _ (pQ p k f d) (shF f d k (a + 1)) A ht hS hix (by omega) hc1 hc2 (by decide) hsh (by omega) (by decide) (.inr (.inr ⟨(wrongN_bad rfl (.inl (seen_pQ.2 hs))).symm, hM, rfl, by omega⟩))).mono ?_
    rintro e w' ⟨hb, (⟨_, he⟩ | ⟨h0, _⟩)⟩
    · exact ⟨_, _, 0, _, _, _, _, _, _, he, .inl ⟨hs, rfl⟩, hb⟩
    · cases h0
  · refine (submit_any t (Kp : Int) (Np : Int) 3 m c (a + 1) 3 32 32 0 ⟨#[109]⟩ ⟨#[109]⟩ o _ (pQ p k f d) (shF f d k (a + 1)) A ht hS hix (by omega) hc1 hc2 (by decide) hsh (by omega) (by decide) (.inr (.inr ⟨(wrongN_ok rfl (by
      rcases h9 : seenB (fun q => (pQ p k f d q).ix) m (a + 1) with _ | _
      · rfl
      · exact absurd (seen_pQ.1 h9) hs) (Nat.succ_ne_zero _) (by show a + 1 ≤ (Np : Int).toNat; omega) rfl).symm, hM, rfl, by omega⟩))).mono ?_
    rintro e w' ⟨hb, (⟨h0, _⟩ | ⟨_, oq, cq, he, hq1, hq2, _, hq4⟩)⟩
    · exact absurd rfl h0
    · rw [cat_pQ] at hq4
      exact ⟨_, _, 3, _, oq, m + 1, cq, _, _, he, .inr ⟨hs, rfl, rfl, rfl, rfl, rfl, rfl, rfl, hq1, hq2, hq4⟩, hb⟩
/-- A row of flags. -/
def flagC (n : Nat) (C : Nat → Bool) : List Value := (List.range n).map fun i => Value.bool (C i)
def updB (C : Nat → Bool) (k : Nat) (b : Bool) : Nat → Bool := fun i => if i = k then b else C i
theorem flagC_len (n : Nat) (C : Nat → Bool) : (flagC n C).length = n := by simp [flagC]
theorem flagC_get {n : Nat} (C : Nat → Bool) {i : Nat} (h : i < n) : (flagC n C)[i]? = some (.bool (C i)) := by
  unfold flagC; rw [List.getElem?_map, List.getElem?_range h]; rfl
theorem flagC_set (n : Nat) (C : Nat → Bool) (k : Nat) (b : Bool) : (flagC n C).set k (.bool b) = flagC n (updB C k b) := by
  refine List.ext_getElem? fun i => ?_
  by_cases hi : i < n
  · rw [flagC_get _ hi]
    by_cases e : i = k
    · subst e; rw [List.getElem?_set_self (by rw [flagC_len]; exact hi)]; simp [updB]
    · rw [List.getElem?_set_ne (Ne.symm e), flagC_get _ hi]; simp [updB, e]
  · rw [List.getElem?_eq_none (by rw [List.length_set, flagC_len]; omega), List.getElem?_eq_none (by rw [flagC_len]; omega)]
theorem flagC_no8 (n : Nat) (C : Nat → Bool) : ∀ (j : Nat) (m : Int), (flagC n C).toArray[j]? ≠ some (Value.int .u8 m) := fun j m e => by
  rw [List.getElem?_toArray] at e
  rcases Nat.lt_or_ge j n with h | h
  · rw [flagC_get _ h] at e; cases e
  · rw [List.getElem?_eq_none (by rw [flagC_len]; omega)] at e; cases e
theorem info_flagB : (Tryd.prog.info? 4).map (fun i => (i.zero, i.size, i.bytes)) = some (some (.bool false), 1, 1) := by kernel_rfl
theorem make_flags (n : Nat) (hn : n < 1000000000000) (w : World) : (Instr.makeSlice 47 (.int .i64 (n : Int)) (.int .i64 (n : Int))).run Tryd.prog w = .ok (.slice (some ⟨w.heap.size, 0, none⟩) n n) (w.alloc (.cells (flagC n (fun _ => false)).toArray 4)) := by
  have h := run_make_row' (P := Tryd.prog) 47 4 (.bool false) 1 Tryd.underlying47 info_flagB rfl .i64 .i64 n (by omega) (by omega) w
  have e : madeCells #[Value.bool false] n = (flagC n (fun _ => false)).toArray := by
    have h2 := toList_madeCells_one (Value.bool false) n
    rw [show List.replicate n (Value.bool false) = flagC n (fun _ => false) from by
      refine List.ext_getElem? fun i => ?_
      by_cases hi : i < n
      · rw [flagC_get _ hi, List.getElem?_replicate, if_pos hi]
      · rw [List.getElem?_eq_none (by simp; omega), List.getElem?_eq_none (by rw [flagC_len]; omega)]] at h2
    rw [← h2]
  rw [e] at h; exact h
theorem wpList_mkB {ops : Array Oper} {rest : List Oper} {o : Oper} {a : Act} {w : World} {Q : Exit → Act → World → Prop} (hgd : o.guard = none) (x y : Operand) (ho : o.op = .makeSlice 47 x y) (n : Nat) (hx : a.eval x = .int .i64 (n : Int)) (hy : a.eval y = .int .i64 (n : Int)) (hn : n < 1000000000000)
    (h : wpList Tryd.prog ops Q rest (a.put o.dst (.slice (some ⟨w.heap.size, 0, none⟩) n n)) (w.alloc (.cells (flagC n (fun _ => false)).toArray 4))) : wpList Tryd.prog ops Q (o :: rest) a w := by
  refine wpList_plain hgd fun K hK => ?_
  have hrun := make_flags n hn w
  unfold Oper.wp
  simp [execOp, ho, hx, hy, hrun, Result.andThen]
  exact hK _ _ h
/-- The loop's state: the progress's block, the flags' block. -/
structure OW (w : World) (tb b9 k Kp Np : Nat) (f d : Nat → Nat) (wA : World) (b15 b17 m : Nat) (p : Nat → Nat) (o : Option Addr) (c : Nat) (C : Nat → Bool) (A : World) : Prop where
  pw : PW w tb b9 k Kp Np f d wA A
  x : Blk A b15 #[.int .i64 (Kp : Int), .int .i64 (Np : Int), .int .u32 3, .string ⟨#[109]⟩, .slice o m c] 36
  cm : Blk A b17 (flagC 256 C).toArray 4
  sh : Shs tb A o m (pQ p k f d)
  c1 : m ≤ c
  c2 : c ≤ maxLen
  le : m ≤ Kp
  pl : ∀ i, i < m → p i < Np
  pi : ∀ i j, i < m → j < m → p i = p j → i = j
  cs : ∀ q, q < 256 → (C q = true ↔ ∃ j, j < m ∧ p j = q)
theorem OW.later {w : World} {tb b9 k Kp Np : Nat} {f d : Nat → Nat} {wA : World} {b15 b17 m : Nat} {p : Nat → Nat} {o : Option Addr} {c : Nat} {C : Nat → Bool} {A B : World} (h : OW w tb b9 k Kp Np f d wA b15 b17 m p o c C A) (hb : Below A.heap.size A B) : OW w tb b9 k Kp Np f d wA b15 b17 m p o c C B :=
  ⟨h.pw.later hb, Blk.below h.x hb (Blk.lt h.x), Blk.below h.cm hb (Blk.lt h.cm), h.sh.later hb, h.c1, h.c2, h.le, h.pl, h.pi, h.cs⟩
/-- A new part: the flag is set, the progress's block is stored over. -/
theorem OW.add {w : World} {tb b9 k Kp Np : Nat} {f d : Nat → Nat} {wA : World} {b15 b17 m : Nat} {p : Nat → Nat} {o : Option Addr} {c : Nat} {C : Nat → Bool} {A : World} (h : OW w tb b9 k Kp Np f d wA b15 b17 m p o c C A) (a cq : Nat) (oq : Option Addr) (ha : a < Np) (hm : m < Kp) (hs : ¬ ∃ j, j < m ∧ p j = a) (hN : Np ≤ 200) (hq1 : m + 1 ≤ cq) (hq2 : cq ≤ maxLen)
    (hS : Shs tb A oq (m + 1) (pQ (addp p m a) k f d)) (h1 : w.heap.size ≤ b15) (h2 : b9 < b15) (h3 : wA.heap.size + 1 + Np ≤ b15) (h4 : b15 < b17) :
    OW w tb b9 k Kp Np f d wA b15 b17 (m + 1) (addp p m a) oq cq (updB C a true) ((A.setCell ⟨b17, a, none⟩ (.bool true)).setCells b15 0 [.int .i64 (Kp : Int), .int .i64 (Np : Int), .int .u32 3, .string ⟨#[109]⟩, .slice oq (m + 1) cq]) := by
  have hO1 : Own b17 A (A.setCell ⟨b17, a, none⟩ (.bool true)) := (Own.refl _ _).set a _
  have hlt := Blk.lt h.cm
  have hB1 : Below b17 A (A.setCell ⟨b17, a, none⟩ (.bool true)) := hO1.below (Nat.le_refl _) (Nat.le_of_lt hlt)
  have hc := h.cm.set a (.bool true)
  rw [List.setIfInBounds_toArray, flagC_set] at hc
  have hx := hO1.blk h.x (by omega)
  have hS1 := hS.keep (hS.no8 h.cm (flagC_no8 _ _)) hO1
  have hpw := h.pw.belowB hB1 (by omega) (by omega) (by omega)
  generalize A.setCell ⟨b17, a, none⟩ (.bool true) = A1 at *
  have hO2 : Own b15 A1 (A1.setCells b15 0 [.int .i64 (Kp : Int), .int .i64 (Np : Int), .int .u32 3, .string ⟨#[109]⟩, .slice oq (m + 1) cq]) := Own.setCells _ _ _
  have hB2 := hO2.below (Nat.le_refl _) (Nat.le_of_lt (Blk.lt hx))
  refine ⟨hpw.belowB hB2 (by omega) (by omega) (by omega), hx.whole5 rfl _ _ _ _ _, hO2.blk hc (by omega), hS1.keep (hS1.no8 hx (pg_no8 _ _ _ _ _ _ _)) hO2, hq1, hq2, hm, fun i hi => ?_, fun i j hi hj e => ?_, fun q hq => ?_⟩
  · by_cases e : i < m
    · rw [addp_lt e]; exact h.pl i e
    · rw [show i = m by omega, addp_at]; exact ha
  · by_cases e1 : i < m <;> by_cases e2 : j < m
    · rw [addp_lt e1, addp_lt e2] at e; exact h.pi i j e1 e2 e
    · rw [addp_lt e1, show j = m by omega, addp_at] at e; exact absurd ⟨i, e1, e⟩ hs
    · rw [addp_lt e2, show i = m by omega, addp_at] at e; exact absurd ⟨j, e2, e.symm⟩ hs
    · omega
  · unfold updB
    by_cases e : q = a
    · rw [if_pos e]
      exact ⟨fun _ => ⟨m, Nat.lt_succ_self _, by rw [addp_at]; exact e.symm⟩, fun _ => rfl⟩
    · rw [if_neg e, h.cs q hq]
      constructor
      · rintro ⟨j, hj, e2⟩; exact ⟨j, by omega, by rw [addp_lt hj]; exact e2⟩
      · rintro ⟨j, hj, e2⟩
        by_cases e3 : j < m
        · rw [addp_lt e3] at e2; exact ⟨j, e3, e2⟩
        · rw [show j = m by omega, addp_at] at e2; exact absurd e2.symm e
theorem OW.left {w : World} {tb b9 k Kp Np : Nat} {f d : Nat → Nat} {wA : World} {b15 b17 m : Nat} {p : Nat → Nat} {o : Option Addr} {c : Nat} {C : Nat → Bool} {A B : World} (h : OW w tb b9 k Kp Np f d wA b15 b17 m p o c C A) (hL : Left tb A B) (h1 : w.heap.size ≤ tb) (h2 : b9 ≠ tb) (h3 : tb < b15) (h4 : b15 < b17) : OW w tb b9 k Kp Np f d wA b15 b17 m p o c C B :=
  ⟨h.pw.left hL h1 h2, hL.2.blk h.x (by omega), hL.2.blk h.cm (by omega), h.sh.own hL.2, h.c1, h.c2, h.le, h.pl, h.pi, h.cs⟩
theorem pQ_ix {p : Nat → Nat} {k m Np : Nat} {f d : Nat → Nat} (hp : ∀ i, i < m → p i < Np) (hN : Np ≤ 200) : ∀ i, i < m → (pQ p k f d i).ix < 256 := fun i hi => by have := hp i hi; show p i + 1 < 256; omega
/-- Secret with too few parts. -/
theorem secret_few {w : World} {tb b9 k Kp Np : Nat} {f d : Nat → Nat} {wA : World} {b15 b17 m : Nat} {p : Nat → Nat} {o : Option Addr} {c : Nat} {C : Nat → Bool} {A : World} (h : OW w tb b9 k Kp Np f d wA b15 b17 m p o c C A) (h1 : 2 ≤ Kp) (h2 : Kp ≤ Np) (h3 : Np ≤ 200) (hm : m < Kp) :
    Calls Tryd.prog 13 #[.pointer (some ⟨tb, 0, none⟩), .agg #[.int .i64 (Kp : Int), .int .i64 (Np : Int), .int .u32 3, .string ⟨#[109]⟩, .slice o m c]] A fun e w' => e = .returned (.tuple #[.slice none 0 0, .iface 83 (.int .i64 2)]) ∧ Left tb A w' := by
  refine (secret_any tb (Kp : Int) (Np : Int) 3 m c 2 ⟨#[109]⟩ o (pQ p k f d) A h.pw.s.tab h.sh (pQ_ix h.pl h3) (by omega) h.c1 h.c2 (by decide) (.inr (.inl ⟨rfl, MayG_p h1 h2 (by omega) h.le h.pl h.pi, by omega⟩))).mono ?_
  rintro e w' (⟨h0, _⟩ | ⟨_, he, hL⟩)
  · cases h0
  · exact ⟨he, hL⟩
/-- Secret with all parts. -/
theorem secret_all {w : World} {tb b9 k Kp Np : Nat} {f d : Nat → Nat} {wA : World} {b15 b17 : Nat} {p : Nat → Nat} {o : Option Addr} {c : Nat} {C : Nat → Bool} {A : World} (h : OW w tb b9 k Kp Np f d wA b15 b17 Kp p o c C A) (h1 : 2 ≤ Kp) (h2 : Kp ≤ Np) (h3 : Np ≤ 200) (hk : Kp = k + 1) (hf : ∀ i, i < 32 → f i < 256) (hd : ∀ i, i < 32 * k → d i < 256) :
    Calls Tryd.prog 13 #[.pointer (some ⟨tb, 0, none⟩), .agg #[.int .i64 (Kp : Int), .int .i64 (Np : Int), .int .u32 3, .string ⟨#[109]⟩, .slice o Kp c]] A fun e w' => ∃ g, e = .returned (.tuple #[.slice (some ⟨g, 0, none⟩) 32 32, .nilIface]) ∧ A.heap.size ≤ g ∧ Row w' g 32 f ∧ Left tb A w' := by
  refine (secret_any tb (Kp : Int) (Np : Int) 3 Kp c 0 ⟨#[109]⟩ o (pQ p k f d) A h.pw.s.tab h.sh (pQ_ix h.pl h3) (by omega) h.c1 h.c2 (by decide) (.inr (.inr ⟨rfl, MayG_p h1 h2 (by omega) h.le h.pl h.pi, rfl⟩))).mono ?_
  rintro e w' (⟨_, g, he, hg, hR, hL⟩ | ⟨h0, _⟩)
  · refine ⟨g, he, hg, ?_, hL⟩
    unfold Row at hR ⊢
    rw [rowC_congr (g := f) fun j hj => ?_] at hR
    · exact hR
    · rw [hk]
      exact jn_pQ hf hd hj (fun i hi => h.pl i (by omega)) (by omega) fun i j hi hj => h.pi i j (by omega) (by omega)
  · exact absurd rfl h0
/-- A part handed in to a progress that has all. -/
theorem submit_full {w : World} {tb b9 k Kp Np : Nat} {f d : Nat → Nat} {wA : World} {b15 b17 : Nat} {p : Nat → Nat} {o : Option Addr} {c : Nat} {C : Nat → Bool} {A : World} (h : OW w tb b9 k Kp Np f d wA b15 b17 Kp p o c C A) (h1 : 2 ≤ Kp) (h2 : Kp ≤ Np) (h3 : Np ≤ 200) :
    Calls Tryd.prog 9 #[.agg #[.int .i64 (Kp : Int), .int .i64 (Np : Int), .int .u32 3, .string ⟨#[109]⟩, .slice o Kp c], .string ⟨#[109]⟩, .agg #[.int .u8 1, .int .u32 3, .slice (some ⟨wA.heap.size + 1, 0, none⟩) 32 32]] A fun e w' => e = .returned (.tuple #[.agg #[.int .i64 0, .int .i64 0, .int .u32 0, .string ⟨#[]⟩, .slice none 0 0], .bool false, .iface 83 (.int .i64 15)]) ∧ True ∧ Below A.heap.size A w' := by
  have hlow := h.pw.s.low
  refine (submit_any tb (Kp : Int) (Np : Int) 3 Kp c 1 3 32 32 15 ⟨#[109]⟩ ⟨#[109]⟩ o _ (pQ p k f d) (shF f d k 1) A h.pw.s.tab.lt h.sh (pQ_ix h.pl h3) (by omega) h.c1 h.c2 (by decide) (h.pw.sh (i := 0) (by omega) tb 1 3 (by omega)) (by decide) (by decide) (.inr (.inl ⟨rfl, MayG_p h1 h2 (by omega) h.le h.pl h.pi, .inr rfl⟩))).mono ?_
  rintro e w' ⟨hb, (⟨_, he⟩ | ⟨h0, _⟩)⟩
  · exact ⟨he, trivial, hb⟩
  · cases h0
end Go.Proofs.YtgiffaeckhhmpaaDoor
