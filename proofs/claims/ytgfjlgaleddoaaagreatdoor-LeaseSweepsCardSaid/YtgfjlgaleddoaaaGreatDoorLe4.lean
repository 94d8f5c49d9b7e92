/- Leases without some: two rows that grow side by side. -/
import Derived.Test.YtgfjlgaleddoaaaGreatDoorLe3
namespace Go.Proofs.YtgfjlgaleddoaaaGreatDoor
set_option linter.unusedVariables false
set_option linter.unusedSimpArgs false
open Go.RowKit
theorem wpList_bsK {ops : Array Oper} {rest : List Oper} {o : Oper} {a : Act} {w : World} {Q : Exit → Act → World → Prop} (hgd : o.guard = none) (TS T : TypeId) (x : Operand) (ho : o.op = .buildSlice TS 1 #[(0, x)]) (v : Value) (C : Array Value) (hx : a.eval x = v)
    (hr : ∀ w, (Instr.buildSlice TS 1 #[(0, v)]).run Tryz.prog w = .ok (.slice (some ⟨w.heap.size, 0, none⟩) 1 1) (w.alloc (.cells C T)))
    (h : wpList Tryz.prog ops Q rest (a.put o.dst (.slice (some ⟨w.heap.size, 0, none⟩) 1 1)) (w.alloc (.cells C T))) : wpList Tryz.prog ops Q (o :: rest) a w := by
  refine wpList_plain hgd fun K hK => ?_
  have e : (#[(((0 : Nat), x) : Nat × Operand)].map fun (i, x) => (i, a.eval x)) = #[(0, v)] := by simp [hx]
  unfold Oper.wp execOp
  simp only [ho, e, hr, Sem.run_bind, Result.andThen_ok]
  exact hK _ _ h
theorem bs_le (x : LE) (w : World) : (Instr.buildSlice 43 1 #[(0, .agg (leL x).toArray)]).run Tryz.prog w = .ok (.slice (some ⟨w.heap.size, 0, none⟩) 1 1) (w.alloc (.cells (leL x).toArray 33)) := by kernel_rfl
theorem bs_st (s : ByteArray) (w : World) : (Instr.buildSlice 42 1 #[(0, .string s)]).run Tryz.prog w = .ok (.slice (some ⟨w.heap.size, 0, none⟩) 1 1) (w.alloc (.cells #[.string s] 9)) := by kernel_rfl
theorem info_re : (Tryz.prog.info? 24).map (·.size) = some 5 := by kernel_rfl
theorem CK.one {k g : Nat} {w : World} {C : List Value} {T : TypeId} (h : Blk w g C.toArray T) : CK k w (some ⟨g, 0, none⟩) 1 (fun _ => C) := fun i hi => ⟨g, 0, rfl, fun j v hv => by
  obtain rfl : i = 0 := by omega
  rw [Blk.cell h, List.getElem?_toArray, Nat.zero_mul, Nat.add_zero, Nat.zero_add]; exact hv⟩
theorem owns_far {w w' : World} {base : Nat} {e : TypeId} {k n : Nat} {v : Value} {row : Option Nat} {xs : List Value} (h : w.ownsRow base e k v n xs) (hg : w.grownBy w' row) (hne : ∀ q, v.ownBlock = some q → row ≠ some q) : w'.ownsRow base e k v n xs := by
  refine ⟨h.1, ?_⟩
  rcases h.2 with ⟨h1, h2⟩ | ⟨g, cap, cur, h1, h2, h3, h4⟩
  · exact .inl ⟨h1, h2⟩
  · exact .inr ⟨g, cap, cur, h1, h2, by rw [hg.block g (lt_of_block h3) (fun e => hne g (by rw [h1]; rfl) e.symm)]; exact h3, h4⟩
theorem own_lt {k : Nat} {T : TypeId} {w : World} {base n q : Nat} {v : Value} {C : Nat → List Value} (h : KO k T w base v n C) (hq : v.ownBlock = some q) : q < w.heap.size := by
  rcases h.2 with ⟨rfl, _⟩ | ⟨g, cap, cur, rfl, _, h3, _⟩
  · cases hq
  · cases hq; exact lt_of_block h3
/-- What is listed by places. -/
def ixL (X : Nat → LE) (l : List Nat) : Nat → LE := fun i => X (l.getD i 0)
def ixS (X : Nat → LE) (l : List Nat) : Nat → ByteArray := fun i => (X (l.getD i 0)).id
theorem getD_app {l : List Nat} {j i : Nat} : i < l.length + 1 → (l ++ [j]).getD i 0 = if i < l.length then l.getD i 0 else j := fun h => by
  rw [List.getD_eq_getElem?_getD, List.getD_eq_getElem?_getD]
  split
  · rw [List.getElem?_append_left (by assumption)]
  · obtain rfl : i = l.length := by omega
    simp
theorem ixL_app (X : Nat → LE) (l : List Nat) (j i : Nat) (h : i < l.length + 1) : leC (catL l.length (ixL X l) (fun _ => X j)) i = leC (ixL X (l ++ [j])) i := by
  unfold leC catL ixL; rw [getD_app h]; split <;> rfl
theorem ixS_app (X : Nat → LE) (l : List Nat) (j i : Nat) (h : i < l.length + 1) : stC (catS l.length (ixS X l) (fun _ => (X j).id)) i = stC (ixS X (l ++ [j])) i := by
  unfold stC catS ixS; rw [getD_app h]; split <;> rfl
/-- Two rows of our own side by side. -/
structure TR (X : Nat → LE) (w0 : World) (a b : List Nat) (va vb : Value) (wr : World) : Prop where
  l : KO 5 33 wr w0.heap.size va a.length (leC (ixL X a))
  g : KO 1 9 wr w0.heap.size vb b.length (stC (ixS X b))
  n : ∀ q, va.ownBlock = some q → vb.ownBlock ≠ some q
  o : Below w0.heap.size w0 wr
theorem TR.later {X : Nat → LE} {w0 wr w' : World} {a b : List Nat} {va vb : Value} (h : TR X w0 a b va vb wr) (hb : Below wr.heap.size wr w') : TR X w0 a b va vb w' :=
  ⟨h.l.later hb, h.g.later hb, h.n, h.o.trans (hb.mono h.o.size)⟩
theorem TR.growL {X : Nat → LE} {w0 wr w' : World} {a b : List Nat} {va vb va' : Value} {j : Nat} (h : TR X w0 a b va vb wr) (hk : KO 5 33 w' w0.heap.size va' (a.length + 1) (catC a.length (leC (ixL X a)) (leC fun _ => X j))) (hb : Below w0.heap.size wr w') (hg : wr.grownBy w' va.ownBlock) (hob : va'.ownBlock = va.ownBlock ∨ va'.ownBlock = some wr.heap.size) : TR X w0 (a ++ [j]) b va' vb w' := by
  refine ⟨?_, owns_far h.g hg (fun q hq e => h.n q e hq), fun q hq e => ?_, h.o.trans hb⟩
  · rw [catC_le] at hk
    rw [show (a ++ [j]).length = a.length + 1 by simp]
    exact hk.congr fun i hi => ixL_app X a j i hi
  · rcases hob with e1 | e1
    · exact h.n q (by rw [← e1]; exact hq) e
    · have := own_lt h.g e; rw [e1] at hq; cases hq; omega
theorem TR.growG {X : Nat → LE} {w0 wr w' : World} {a b : List Nat} {va vb vb' : Value} {j : Nat} (h : TR X w0 a b va vb wr) (hk : KO 1 9 w' w0.heap.size vb' (b.length + 1) (catC b.length (stC (ixS X b)) (stC fun _ => (X j).id))) (hb : Below w0.heap.size wr w') (hg : wr.grownBy w' vb.ownBlock) (hob : vb'.ownBlock = vb.ownBlock ∨ vb'.ownBlock = some wr.heap.size) : TR X w0 a (b ++ [j]) va vb' w' := by
  refine ⟨owns_far h.l hg (fun q hq e => h.n q hq e), ?_, fun q hq e => ?_, h.o.trans hb⟩
  · rw [catC_st] at hk
    rw [show (b ++ [j]).length = b.length + 1 by simp]
    exact hk.congr fun i hi => ixS_app X b j i hi
  · rcases hob with e1 | e1
    · exact h.n q hq (by rw [← e1]; exact e)
    · have := own_lt h.l hq; rw [e1] at e; cases e; omega
theorem app_KB {k y : Nat} {T TS : TypeId} {z : Value} (HT : KT k y T TS z)
    {ops : Array Oper} {rest : List Oper} {o : Oper} {a : Act} {Q : Exit → Act → World → Prop} (hgd : o.guard = none) (s x : Operand)
    (ho : o.op = .call { callee := .builtin .append, args := #[s, x], argTypes := #[TS, TS] })
    (base : Nat) (v : Value) (n q cq : Nat) (C D : Nat → List Value) (oa : Option Addr) (W : World) (hs : a.eval s = v) (hG : KO k T W base v n C) (hx : a.eval x = .slice oa q cq) (hA : CK k W oa q D) (hD : PC k D) (hno : oa = none → q = 0)
    (hn : n + q ≤ maxLen) (hy : (n + q) * y ≤ 140737488355328) (hbase : base ≤ W.heap.size)
    (h : ∀ v' w', KO k T w' base v' (n + q) (catC n C D) → Below base W w' → W.grownBy w' v.ownBlock → (v'.ownBlock = v.ownBlock ∨ v'.ownBlock = some W.heap.size) → wpList Tryz.prog ops Q rest (a.put o.dst v') w') :
    wpList Tryz.prog ops Q (o :: rest) a W := by
  obtain ⟨v', w', hr, h1, h2, h3, h4⟩ := run_app_KO HT o.type base v n q cq C D oa W hG hA hD hno hn hy hbase
  refine wpList_plain hgd fun K hK => ?_
  unfold Oper.wp execOp
  simp only [ho, resolve, invoke, builtin, Sem.run_bind, Sem.run_pure, Result.andThen_ok, List.map_toArray, List.map_cons, List.map_nil, hs, hx, hr]
  exact hK _ _ (h v' w' h1 h2 h3 h4)
theorem own_below {k : Nat} {T : TypeId} {w : World} {base n : Nat} {v : Value} {C : Nat → List Value} (h : KO k T w base v n C) {oa : Option Addr} {c : Nat} (hv : v = .slice oa n c) : CK k w oa n C ↔ CK k w oa n C := Iff.rfl
set_option maxRecDepth 100000 in
set_option maxHeartbeats 2000000 in
theorem give_any (oa : Option Addr) (n c : Nat) (X : Nat → LE) (w : World) (hX : CK 5 w oa n (leC X)) (hn : n * 64 ≤ 140737488355328) :
    Calls Tryz.prog 14 #[.slice oa n c] w fun e w' => ∃ v, e = .returned v ∧ KO 5 33 w' w.heap.size v n (leC X) ∧ Below w.heap.size w w' := by
  have HX := Lib.hid hX
  have HN := Lib.hid hn
  have hn0 : (n : Int) ≤ 9223372036854775807 := by omega
  clear hX hn
  go_enter Tryz.func14, Tryz.ntmps14
  go_wp2_with fail
  go_loopw [3, 4] (fun s y wr => ∃ (i : Nat) (v : Value), i ≤ n ∧ y = .int .i64 (i : Int) ∧ v = s ∧ KO 5 33 wr w.heap.size v i (leC X) ∧ Below w.heap.size w wr) (fun _ y _ => n - (intOf y).toNat)
  case atStart => exact ⟨0, _, Nat.zero_le _, rfl, rfl, KO.nil _ _ _ _ _, Below.refl _ _⟩
  case round =>
    obtain ⟨i, v, hi, rfl, hv, hK, hbw⟩ := hrel
    have HK := Lib.hid hK
    have HBW := Lib.hid hbw
    rw [← hv]
    clear hv hK hbw
    by_cases hli : i < n
    · have i1 : (i : Int) < (n : Int) := by omega
      have i0 : (0 : Int) ≤ (i : Int) := by omega
      obtain ⟨j2, hj2⟩ : ∃ z, i + 1 = z := ⟨_, rfl⟩
      have k3 : (i : Int) + 1 = (j2 : Int) := by omega
      have k4 : IntKind.i64.wrap (j2 : Int) = (j2 : Int) := IntWalk.i64_in _ (by omega)
      have HI := Lib.hid (And.intro hli hj2)
      obtain ⟨b, off, e, hrg⟩ := (HX.out.later HBW.out) i hli
      subst e
      obtain ⟨C, hC⟩ : ∃ q, (leL (X i)).toArray = q := ⟨_, rfl⟩
      have HCE := Lib.hid hC
      have HIS : Hid ((Tryz.prog.info? 24).map (·.size) = some C.size) := Lib.hid (by rw [← hC]; exact info_re)
      have HRG : Hid (wr.rangeAt b (off + i * 5) C.toList) := Lib.hid (by rw [← hC]; exact hrg)
      have HBS : Hid (∀ w, (Instr.buildSlice 43 1 #[(0, .agg C)]).run Tryz.prog w = .ok (.slice (some ⟨w.heap.size, 0, none⟩) 1 1) (w.alloc (.cells C 33))) := Lib.hid (by rw [← hC]; exact bs_le (X i))
      obtain ⟨wz, hwz⟩ : ∃ y, wr.alloc (.cells C 33) = y := ⟨_, rfl⟩
      obtain ⟨g, hg⟩ : ∃ y, wr.heap.size = y := ⟨_, rfl⟩
      have hbz : Below wr.heap.size wr wz := by rw [← hwz]; exact (Below.refl _ _).alloc (Nat.le_refl _) _
      have hA : CK 5 wz (some ⟨g, 0, none⟩) 1 (fun _ => leL (X i)) := by
        refine CK.one (T := 33) ?_
        rw [hC, ← hwz, ← hg]; exact Blk.new _ _ _
      have HA := Lib.hid hA
      have HKZ := Lib.hid (HK.out.later hbz)
      have HBZ := Lib.hid (HBW.out.trans (hbz.mono HBW.out.size))
      clear hi hli hj2 hrg hC hbz hA
      go_wp2_with (first | (refine wpList_value rfl (exec_loadA (x := .tmp 14) (C := C) rfl rfl HRG.out Tryz.underlying24 rfl HIS.out) ?_) | (refine wpList_bsK rfl 43 33 (.tmp 15) rfl (.agg C) C rfl HBS.out ?_; rw [hwz, hg]; (try simp only [Act.put, zS])) | (refine app_KB KTp rfl (.tmp 11) (.tmp 16) rfl w.heap.size v i 1 1 (leC X) (fun _ => leL (X i)) (some ⟨g, 0, none⟩) wz rfl HKZ.out rfl HA.out ⟨fun _ => rfl, fun _ => leL_one _⟩ (fun e => by cases e) (by have := HI.out; have := HN.out; unfold maxLen; omega) (by have := HI.out; have := HN.out; omega) HBZ.out.size ?_; intro v2 w2 hk2 hb2 hg2 ho2; (try simp only [Act.put, zS])))
      go_roundw
      case rel => exact ⟨j2, _, by have := HI.out; omega, by first | rfl | go_num, rfl, by
        rw [← HI.out.2]
        exact hk2.congr fun q hq => by
          unfold catC
          by_cases e : q < i
          · rw [if_pos e]
          · rw [if_neg e]; obtain rfl : q = i := by omega
            rfl, HBZ.out.trans hb2⟩
      case measure => have := HI.out; simp [intOf] <;> omega
    · obtain rfl : i = n := by omega
      have i1 : ¬ (i : Int) < (i : Int) := by omega
      clear hi hli
      go_wp2_with fail
      go_ret
      exact ⟨_, rfl, HK.out, HBW.out⟩
end Go.Proofs.YtgfjlgaleddoaaaGreatDoor
