/- Rows of plain cells, k an element: wherever they lie, and of our own; append. -/
import Derived.Test.YtgfjlgaleddoaaaGreatDoorRws
import Derived.Test.YtgfjlgaleddoaaaGreatDoorRow
import Derived.Deep.MidRow
import Derived.Lib.Hide
namespace Go.Proofs.YtgfjlgaleddoaaaGreatDoor
set_option linter.unusedVariables false
set_option linter.unusedSimpArgs false
open Go.RowKit

def CK (k : Nat) (w : World) (oa : Option Addr) (n : Nat) (C : Nat → List Value) : Prop := ∀ i, i < n → ∃ b off, oa = some ⟨b, off, none⟩ ∧ w.rangeAt b (off + i * k) (C i)
theorem CK.later {k : Nat} {w w' : World} {oa : Option Addr} {n : Nat} {C : Nat → List Value} (h : CK k w oa n C) (hb : Below w.heap.size w w') : CK k w' oa n C := fun i hi => by
  obtain ⟨b, off, e, hr⟩ := h i hi
  exact ⟨b, off, e, fun j v hv => cell_below hb (hr j v hv)⟩
theorem CK.nil (k : Nat) (w : World) (oa : Option Addr) (C : Nat → List Value) : CK k w oa 0 C := fun i hi => absurd hi (Nat.not_lt_zero _)
theorem CK.mono {k : Nat} {w : World} {oa : Option Addr} {n m : Nat} {C : Nat → List Value} (h : CK k w oa n C) (hm : m ≤ n) : CK k w oa m C := fun i hi => h i (by omega)
theorem CK.congr {k : Nat} {w : World} {oa : Option Addr} {n : Nat} {C D : Nat → List Value} (h : CK k w oa n C) (he : ∀ i, i < n → C i = D i) : CK k w oa n D := fun i hi => by
  obtain ⟨b, off, e, hr⟩ := h i hi
  rw [he i hi] at hr
  exact ⟨b, off, e, hr⟩
theorem CK.news {k : Nat} {w : World} {b off n : Nat} {C : Nat → List Value} (h : CK k w (some ⟨b, off, none⟩) n C) (hk : ∀ i, (C i).length = k) (h0 : 0 < k) : ∀ j u, (rws n C)[j]? = some u → w.cell? ((⟨b, off, none⟩ : Addr).add j) = some u := fun j u hu => by
  have hl : (rws n C).length = n * k := rws_len (k := k) fun i _ => hk i
  have hj : j < n * k := by
    rcases Nat.lt_or_ge j (n * k) with h' | h'
    · exact h'
    · rw [List.getElem?_eq_none (by omega)] at hu; cases hu
  have hi : j / k < n := Nat.div_lt_of_lt_mul (by rw [Nat.mul_comm]; exact hj)
  have hr : j % k < k := Nat.mod_lt _ h0
  have he : j / k * k + j % k = j := Nat.div_add_mod' j k
  have h5 := rws_get (k := k) (C := C) (n := n) (fun i _ => hk i) hi hr
  rw [he, hu] at h5
  obtain ⟨b', off', e, h6⟩ := h (j / k) hi
  cases e
  have h7 := h6 (j % k) u h5.symm
  rw [Addr.add_mid, ← h7]
  congr 2
  omega
/-- Cells in a row of our own. -/
def KO (k : Nat) (T : TypeId) (w : World) (base : Nat) (v : Value) (n : Nat) (C : Nat → List Value) : Prop := w.ownsRow base T k v n (rws n C)
theorem KO.later {k : Nat} {T : TypeId} {w w' : World} {base n : Nat} {v : Value} {C : Nat → List Value} (h : KO k T w base v n C) (hb : Below w.heap.size w w') : KO k T w' base v n C := owns_later h hb
theorem KO.nil (k : Nat) (T : TypeId) (w : World) (base : Nat) (C : Nat → List Value) : KO k T w base (.slice none 0 0) 0 C := World.ownsRow_nil w base _ k
theorem KO.congr {k : Nat} {T : TypeId} {w : World} {base n : Nat} {v : Value} {C D : Nat → List Value} (h : KO k T w base v n C) (he : ∀ i, i < n → C i = D i) : KO k T w base v n D := by
  unfold KO at h ⊢
  rw [rws_congr he] at h
  exact h
theorem KO.out {k : Nat} {T : TypeId} {w : World} {base n : Nat} {v : Value} {C : Nat → List Value} (h : KO k T w base v n C) (hk : ∀ i, (C i).length = k) (h0 : 0 < k) : ∃ oa c, v = .slice oa n c ∧ n ≤ c ∧ c ≤ maxLen ∧ (oa = none → n = 0) ∧ (∀ a, oa = some a → base ≤ a.block ∧ a.block < w.heap.size) ∧ CK k w oa n C := by
  obtain ⟨oa, c, hv, hnc, hm, hbl, hc⟩ := rws_cells h fun i _ => hk i
  refine ⟨oa, c, hv, hnc, hm, fun e => ?_, fun a ha => ?_, fun i hi => ?_⟩
  · rcases Nat.eq_zero_or_pos n with h1 | h1
    · exact h1
    · obtain ⟨b, off, e1, _⟩ := hc 0 0 h1 h0
      rw [e] at e1; cases e1
  · obtain ⟨g, rfl, h1, h2⟩ := hbl a ha
    exact ⟨h1, h2⟩
  · obtain ⟨b, off, e1, e2, _⟩ := hc i 0 hi h0
    refine ⟨b, off, e1, fun j u hu => ?_⟩
    have hj : j < k := by have := (List.getElem?_eq_some_iff.1 hu).1; rw [hk] at this; exact this
    obtain ⟨b', off', e3, _, e4⟩ := hc i j hi hj
    rw [e1] at e3; cases e3
    rw [e4]; exact hu
theorem KO.block {k : Nat} {T : TypeId} {w : World} {base n : Nat} {v : Value} {C : Nat → List Value} (h : KO k T w base v n C) : ∀ q, v.ownBlock = some q → base ≤ q := owns_block h
def catC (n : Nat) (C D : Nat → List Value) : Nat → List Value := fun i => if i < n then C i else D (i - n)
theorem rws_cat (n m : Nat) (C D : Nat → List Value) : rws (n + m) (catC n C D) = rws n C ++ rws m D := by
  induction m with
  | zero => rw [rws_zero, List.append_nil, Nat.add_zero]; exact rws_congr fun i hi => by unfold catC; rw [if_pos hi]
  | succ q ih => rw [← Nat.add_assoc, rws_succ, rws_succ, ih, ← List.append_assoc]; congr 1; unfold catC; rw [if_neg (by omega), Nat.add_sub_cancel_left]
theorem rws_ones {C : Nat → List Value} (h : ∀ i, ∀ v ∈ C i, v.oneCell' = true) : ∀ n, ∀ v ∈ rws n C, v.oneCell' = true := by
  intro n
  induction n with
  | zero => intro v hv; rw [rws_zero] at hv; cases hv
  | succ n ih =>
    intro v hv
    rw [rws_succ] at hv
    rcases List.mem_append.1 hv with h1 | h1
    · exact ih v h1
    · exact h n v h1
/-- What a type's elements are: k cells, no reference among them. -/
structure KT (k y : Nat) (T TS : TypeId) (z : Value) : Prop where
  U : Tryz.prog.underlying TS = some (.slice T)
  I : (Tryz.prog.info? T).map (fun i => (i.zero, i.size, i.bytes)) = some (some z, k, y)
  Z : z.cells.size = k
  K : 0 < k
theorem parts3 {T : TypeId} {z : Value} {s y : Nat} (h : (Tryz.prog.info? T).map (fun i => (i.zero, i.size, i.bytes)) = some (some z, s, y)) : ∃ i, Tryz.prog.info? T = some i ∧ i.zero = some z ∧ i.size = s ∧ i.bytes = y := by
  cases e : Tryz.prog.info? T with
  | none => rw [e] at h; cases h
  | some i => rw [e] at h; simp at h; exact ⟨i, rfl, h.1, h.2.1, h.2.2⟩
def PC (k : Nat) (C : Nat → List Value) : Prop := (∀ i, (C i).length = k) ∧ ∀ i, ∀ v ∈ C i, v.oneCell' = true
theorem PC.cat {k n : Nat} {C D : Nat → List Value} (h : PC k C) (h' : PC k D) : PC k (catC n C D) :=
  ⟨fun i => by unfold catC; split <;> first | exact h.1 i | exact h'.1 _, fun i => by unfold catC; split <;> first | exact h.2 i | exact h'.2 _⟩
theorem run_app_KO {k y : Nat} {T TS : TypeId} {z : Value} (HT : KT k y T TS z) (ty : TypeId) (base : Nat) (v : Value) (n q cq : Nat) (C D : Nat → List Value) (oa : Option Addr) (W : World) (hG : KO k T W base v n C) (hA : CK k W oa q D) (hD : PC k D) (hno : oa = none → q = 0)
    (hn : n + q ≤ maxLen) (hy : (n + q) * y ≤ 140737488355328) (hbase : base ≤ W.heap.size) :
    ∃ v' w', (Builtin.append_ #[TS, TS] ty #[v, .slice oa q cq]).run Tryz.prog W = .ok v' w' ∧ KO k T w' base v' (n + q) (catC n C D) ∧ Below base W w' ∧ W.grownBy w' v.ownBlock ∧ (v'.ownBlock = v.ownBlock ∨ v'.ownBlock = some W.heap.size) := by
  obtain ⟨i0, hi, hz0, hz1, hz2⟩ := parts3 HT.I
  have hU := HT.U
  have hbk := hG.block
  have hrefl : W.grownBy W v.ownBlock := ⟨rfl, rfl, rfl, Nat.le_refl _, fun _ _ _ => rfl⟩
  cases oa with
  | none =>
    obtain rfl := hno rfl
    refine ⟨v, W, ?_, by unfold KO; rw [rws_cat, rws_zero, List.append_nil]; exact hG, Below.refl _ _, hrefl, .inl rfl⟩
    rcases hG.2 with ⟨rfl, rfl⟩ | ⟨g, cap, cur, rfl, _, _, hnc, _⟩
    · simp [Builtin.append_, run_underlying hU, sizeOf, typeInfo, hi, Builtin.lenOf, Builtin.firstCells]
    · simp [Builtin.append_, run_underlying hU, sizeOf, typeInfo, hi, Builtin.lenOf, Builtin.firstCells, hnc, storeCells]
  | some ad =>
    by_cases h0 : q = 0
    · subst h0
      obtain ⟨v', w', hr, hown', hg, _, hob⟩ := run_append_own_at (P := Tryz.prog) W base TS ty T i0 z k y hU hi hz0 hz1 hz2 HT.Z HT.K v n (rws n C) hG ad 0 cq [] (by simp)
        (fun j u hu => by simp at hu) (fun u hu => by cases hu) hn hy hbase
      exact ⟨v', w', hr, by unfold KO; rw [rws_cat, rws_zero]; exact hown', (Below.refl base W).grown hg hbase hbk, hg, hob⟩
    · obtain ⟨b, off, e1, _⟩ := hA 0 (by omega)
      cases e1
      obtain ⟨v', w', hr, hown', hg, _, hob⟩ := run_append_own_at (P := Tryz.prog) W base TS ty T i0 z k y hU hi hz0 hz1 hz2 HT.Z HT.K v n (rws n C) hG ⟨b, off, none⟩ q cq (rws q D) (rws_len fun i _ => hD.1 i)
        (hA.news hD.1 HT.K) (rws_ones hD.2 _) hn hy hbase
      exact ⟨v', w', hr, by unfold KO; rw [rws_cat]; exact hown', (Below.refl base W).grown hg hbase hbk, hg, hob⟩
theorem app_KO {k y : Nat} {T TS : TypeId} {z : Value} (HT : KT k y T TS z)
    {ops : Array Oper} {rest : List Oper} {o : Oper} {a : Act} {Q : Exit → Act → World → Prop} (hgd : o.guard = none) (s x : Operand)
    (ho : o.op = .call { callee := .builtin .append, args := #[s, x], argTypes := #[TS, TS] })
    (base : Nat) (v : Value) (n q cq : Nat) (C D : Nat → List Value) (oa : Option Addr) (W : World) (hs : a.eval s = v) (hG : KO k T W base v n C) (hx : a.eval x = .slice oa q cq) (hA : CK k W oa q D) (hD : PC k D) (hno : oa = none → q = 0)
    (hn : n + q ≤ maxLen) (hy : (n + q) * y ≤ 140737488355328) (hbase : base ≤ W.heap.size)
    (h : ∀ v' w', KO k T w' base v' (n + q) (catC n C D) → Below base W w' → W.grownBy w' v.ownBlock → wpList Tryz.prog ops Q rest (a.put o.dst v') w') :
    wpList Tryz.prog ops Q (o :: rest) a W := by
  obtain ⟨v', w', hr, h1, h2, h3, _⟩ := run_app_KO HT o.type base v n q cq C D oa W hG hA hD hno hn hy hbase
  refine wpList_plain hgd fun K hK => ?_
  unfold Oper.wp execOp
  simp only [ho, resolve, invoke, builtin, Sem.run_bind, Sem.run_pure, Result.andThen_ok, List.map_toArray, List.map_cons, List.map_nil, hs, hx, hr]
  exact hK _ _ (h v' w' h1 h2 h3)
/-- Leases, strings. -/
structure LE where
  id : ByteArray
  tok : ByteArray
  pth : ByteArray
  u : Nat
  m : Nat
def leL (x : LE) : List Value := [.string x.id, .string x.tok, .string x.pth, .int .u64 (x.u : Int), .int .u64 (x.m : Int)]
def leC (X : Nat → LE) : Nat → List Value := fun i => leL (X i)
def stC (S : Nat → ByteArray) : Nat → List Value := fun i => [.string (S i)]
theorem leL_one (x : LE) : ∀ v ∈ leL x, v.oneCell' = true := fun v hv => by
  unfold leL at hv
  simp only [List.mem_cons, List.not_mem_nil, or_false] at hv
  rcases hv with rfl | rfl | rfl | rfl | rfl <;> rfl
theorem leC_pc (X : Nat → LE) : PC 5 (leC X) := ⟨fun _ => rfl, fun _ => leL_one _⟩
theorem stC_pc (S : Nat → ByteArray) : PC 1 (stC S) := ⟨fun _ => rfl, fun _ v hv => by simp only [stC, List.mem_cons, List.not_mem_nil, or_false] at hv; rw [hv]; rfl⟩
def zeroLE : Value := .agg #[.string ⟨#[]⟩, .string ⟨#[]⟩, .string ⟨#[]⟩, .int .u64 0, .int .u64 0]
theorem KTp : KT 5 64 33 43 zeroLE := ⟨Tryz.underlying43, by kernel_rfl, rfl, by decide⟩
theorem KTr : KT 5 64 24 27 zeroLE := ⟨Tryz.underlying27, by kernel_rfl, rfl, by decide⟩
theorem KTs : KT 1 16 9 42 (.string ⟨#[]⟩) := ⟨Tryz.underlying42, by kernel_rfl, rfl, by decide⟩
def catL (n : Nat) (X Y : Nat → LE) : Nat → LE := fun i => if i < n then X i else Y (i - n)
theorem catC_le (n : Nat) (X Y : Nat → LE) : catC n (leC X) (leC Y) = leC (catL n X Y) := funext fun i => by unfold catC leC catL; split <;> rfl
def catS (n : Nat) (X Y : Nat → ByteArray) : Nat → ByteArray := fun i => if i < n then X i else Y (i - n)
theorem catC_st (n : Nat) (X Y : Nat → ByteArray) : catC n (stC X) (stC Y) = stC (catS n X Y) := funext fun i => by unfold catC stC catS; split <;> rfl
end Go.Proofs.YtgfjlgaleddoaaaGreatDoor
