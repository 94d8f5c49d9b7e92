/- Leases sorted, held against each other; whether one is among some. -/
import Derived.Test.YtgfjlgaleddoaaaGreatDoorLe8
import Derived.Test.YtgfjlgaleddoaaaGreatDoorShg
namespace Go.Proofs.YtgfjlgaleddoaaaGreatDoor
set_option linter.unusedVariables false
set_option linter.unusedSimpArgs false
open Go.RowKit Go.Sort
instance : Inhabited LE := ⟨⟨⟨#[]⟩, ⟨#[]⟩, ⟨#[]⟩, 0, 0⟩⟩
theorem own_sort (w : World) (b m : Nat) (d : Array LE) (os : Array Obj) : Own b w (sortWorldK leL 5 w b 0 m d os) := by
  refine ⟨rfl, rfl, rfl, ?_, fun k hk hne => ?_⟩
  · show w.heap.size ≤ ((w.heap.modify b _) ++ os).size
    simp
  · show ((w.heap.modify b _) ++ os)[k]? = _
    rw [Array.getElem?_append_left (by simpa using hk), Array.getElem?_modify, if_neg (by omega)]
theorem ins2 (x y : LE) : insertionSort (ltOf cfL) #[x, y] 0 2 = if cfL y x < 0 then #[y, x] else #[x, y] := by
  unfold insertionSort
  rw [insOuter, if_pos (by decide), insOuter, if_neg (by decide)]
  by_cases h : cfL y x < 0
  · simp [insInner, ltOf, h, swp]
  · simp [insInner, ltOf, h]
set_option maxRecDepth 100000 in
set_option maxHeartbeats 1000000 in
theorem sort_any (g c : Nat) (x y : LE) (w : World) (hH : HoldsK leL 5 w g 0 #[x, y]) (hb : g < w.heap.size) (hc : cfL y x < 0) :
    Calls Tryz.prog 58 #[.slice (some ⟨g, 0, none⟩) 2 c, .func (.func 59) #[] #[]] w fun e w' => e = .returned (.tuple #[]) ∧ HoldsK leL 5 w' g 0 #[y, x] ∧ Own g w w' := by
  have eg : ∀ args w, (callFunc 59 args).run Tryz.prog w = .ok (.enter 59 args) w := enters_of Tryz.func59 (by kernel_rfl) rfl
  refine (AnyQ.slices_SortFunc_small Tryz.sortL 5 Tryz.isAgg33 Tryz.sizeOf33 leL (fun _ => rfl) leL_one cfL 59 #[] g 0 c #[x, y] w eg (fun m os dk _ x y => s1_any x y _) hH hb (by simp) fun n W hn => (Any.bits_Len Tryz.bitsLen n W (by omega) (by omega)).mono fun _ _ ⟨he, hw⟩ => ⟨⟨_, he⟩, hw⟩).mono ?_
  rintro e w' ⟨rfl, n, os, rfl⟩
  rw [show insertionSort (ltOf cfL) #[x, y] 0 (#[x, y] : Array LE).size = #[y, x] from (ins2 x y).trans (if_pos hc)]
  exact ⟨rfl, holdsK_sortWorldK_c leL 5 w g 0 _ _ n os hH hb (by simp), own_sort w g n _ os⟩
def overB (now u : Nat) : Bool := decide (u ≤ now) && decide (u ≠ 18446744073709551615)
set_option maxRecDepth 100000 in
set_option maxHeartbeats 1000000 in
theorem over_any (now u : Nat) (w : World) : Calls Tryz.prog 52 #[.int .u64 (now : Int), .int .u64 (u : Int)] w fun e w' => e = .returned (.bool (overB now u)) ∧ w' = w := by
  rcases (show (u ≤ now ∧ u ≠ 18446744073709551615) ∨ (u ≤ now ∧ u = 18446744073709551615) ∨ now < u by omega) with h | h | h
  · have h1 : (u : Int) ≤ (now : Int) := by omega
    have h2 : ((u : Int) == 18446744073709551615) = false := beq_eq_false_iff_ne.2 (by omega)
    have h3 : ¬ (u : Int) = 18446744073709551615 := by omega
    have HH := Lib.hid h
    clear h
    go_enter Tryz.func52, Tryz.ntmps52
    go_wp2_with fail
    go_ret
    refine ⟨?_, rfl⟩
    unfold overB; rw [decide_eq_true HH.out.1, decide_eq_true HH.out.2]
    show Ending.returned (.bool ((u : Int) != 18446744073709551615)) = _
    rw [show ((u : Int) != 18446744073709551615) = true from bne_iff_ne.2 (by have := HH.out; omega)]; rfl
  · have h1 : (18446744073709551615 : Int) ≤ (now : Int) := by omega
    obtain ⟨h0, rfl⟩ := h
    have HH := Lib.hid h0
    clear h0
    go_enter Tryz.func52, Tryz.ntmps52
    go_wp2_with fail
    go_ret
    exact ⟨by unfold overB; rw [decide_eq_true HH.out]; rfl, rfl⟩
  · have h1 : ¬ (u : Int) ≤ (now : Int) := by omega
    have HH := Lib.hid h
    clear h
    go_enter Tryz.func52, Tryz.ntmps52
    go_wp2_with fail
    go_ret
    exact ⟨by unfold overB; rw [decide_eq_false (by have := HH.out; omega)]; rfl, rfl⟩
/-- Two leases held against each other. -/
def eqLE (x y : LE) : Bool := (x.id.toList == y.id.toList) && ((x.tok.toList == y.tok.toList) && ((x.pth.toList == y.pth.toList) && (((x.u : Int) == (y.u : Int)) && ((x.m : Int) == (y.m : Int)))))
theorem eqLE_self (x : LE) : eqLE x x = true := by unfold eqLE; simp
theorem plain_s : Tryz.prog.plainKey 9 = true := by kernel_rfl
theorem plain_u : Tryz.prog.plainKey 22 = true := by kernel_rfl
theorem und_le : Tryz.prog.underlying 33 = some (.struct (Tryz.prog.fieldsOf 33)) := by kernel_rfl
theorem stood_le : Tryz.prog.stoodInHeld 33 = false := by kernel_rfl
theorem fields_le : (Tryz.prog.fieldsOf 33).toList.map (fun f => (f.type, f.offset, f.name == "_")) = [(9, 0, false), (9, 1, false), (9, 2, false), (22, 3, false), (22, 4, false)] := by kernel_rfl
theorem guard_le : Tryz.prog.eqGuardType Tryz.prog.depth 33 = false := by kernel_rfl
theorem eqf_cons {d : Nat} {xs ys : Array Value} {w : World} {f : Field} {fs : List Field} {a b : Value} {r q : Bool} (hn : (f.name == "_") = false) (ha : (part f.type xs f.offset).run Tryz.prog w = .ok a w) (hb : (part f.type ys f.offset).run Tryz.prog w = .ok b w)
    (hr : (Op.equalIn d f.type a b).run Tryz.prog w = .ok r w) (hq : (Op.eqFields d xs ys fs).run Tryz.prog w = .ok q w) : (Op.eqFields d xs ys (f :: fs)).run Tryz.prog w = .ok (r && q) w := by
  have n0 : f.name ≠ "_" := by simpa using hn
  simp only [Op.eqFields, ne_eq, n0, not_false_eq_true, if_true, Sem.run_bind, ha, hb, hr, Result.andThen_ok]
  cases r
  · simp
  · simp [hq]
theorem eqLE_run (x y : LE) (w : World) : (Op.equalIn 10000 33 (.agg (leL x).toArray) (.agg (leL y).toArray)).run Tryz.prog w = .ok (eqLE x y) w := by
  rw [run_equalIn_struct w 9999 _ _ _ und_le stood_le]
  have hf := fields_le
  generalize (Tryz.prog.fieldsOf 33).toList = fs at hf
  rcases fs with _ | ⟨f0, _ | ⟨f1, _ | ⟨f2, _ | ⟨f3, _ | ⟨f4, _ | ⟨f5, fs⟩⟩⟩⟩⟩⟩ <;> simp only [List.map_cons, List.map_nil, List.cons.injEq, Prod.mk.injEq, and_true, reduceCtorEq, and_false] at hf
  obtain ⟨⟨a0, b0, n0⟩, ⟨a1, b1, n1⟩, ⟨a2, b2, n2⟩, ⟨a3, b3, n3⟩, ⟨a4, b4, n4⟩⟩ := hf
  have us : Tryz.prog.underlying 9 = some .string := Tryz.underlying9
  have uu : Tryz.prog.underlying 22 = some (.int .u64) := Tryz.underlying22
  unfold eqLE
  refine eqf_cons n0 (a := .string x.id) (b := .string y.id) (by rw [a0, b0]; exact run_part_plain w plain_s rfl) (by rw [a0, b0]; exact run_part_plain w plain_s rfl) (by rw [a0]; exact run_equalIn_string w 9998 _ _ _ us) ?_
  refine eqf_cons n1 (a := .string x.tok) (b := .string y.tok) (by rw [a1, b1]; exact run_part_plain w plain_s rfl) (by rw [a1, b1]; exact run_part_plain w plain_s rfl) (by rw [a1]; exact run_equalIn_string w 9998 _ _ _ us) ?_
  refine eqf_cons n2 (a := .string x.pth) (b := .string y.pth) (by rw [a2, b2]; exact run_part_plain w plain_s rfl) (by rw [a2, b2]; exact run_part_plain w plain_s rfl) (by rw [a2]; exact run_equalIn_string w 9998 _ _ _ us) ?_
  refine eqf_cons n3 (a := .int .u64 (x.u : Int)) (b := .int .u64 (y.u : Int)) (by rw [a3, b3]; exact run_part_plain w plain_u rfl) (by rw [a3, b3]; exact run_part_plain w plain_u rfl) (by rw [a3]; exact run_equalIn_int w 9998 _ .u64 .u64 _ _ uu) ?_
  have h5 := eqf_cons (fs := []) (q := true) (xs := (leL x).toArray) (ys := (leL y).toArray) (d := 9999) (w := w) n4 (a := .int .u64 (x.m : Int)) (b := .int .u64 (y.m : Int)) (by rw [a4, b4]; exact run_part_plain w plain_u rfl) (by rw [a4, b4]; exact run_part_plain w plain_u rfl) (by rw [a4]; exact run_equalIn_int w 9998 _ .u64 .u64 _ _ uu) rfl
  rw [Bool.and_true] at h5
  exact h5
theorem exec_neqL {o : Oper} {a : Act} {w : World} {x y : Operand} {r : TypeId} {C D : Array Value} {b : Bool} (ho : o.op = .binOp .neq 33 x y r) (hx : a.eval x = .agg C) (hy : a.eval y = .agg D) (h : ∀ w, (Op.equalIn 10000 33 (.agg C) (.agg D)).run Tryz.prog w = .ok b w) : (execOp a.eval o).run Tryz.prog w = .ok (.value (.bool (!b))) w := by
  unfold execOp
  simp only [ho, hx, hy, Sem.run_bind, run_eqGuard_agg w _ _ x y C D guard_le, Result.andThen_ok, run_neq_struct, h]
  rfl
theorem exec_eqlL {o : Oper} {a : Act} {w : World} {x y : Operand} {r : TypeId} {C D : Array Value} {b : Bool} (ho : o.op = .binOp .eql 33 x y r) (hx : a.eval x = .agg C) (hy : a.eval y = .agg D) (h : ∀ w, (Op.equalIn 10000 33 (.agg C) (.agg D)).run Tryz.prog w = .ok b w) : (execOp a.eval o).run Tryz.prog w = .ok (.value (.bool b)) w := by
  unfold execOp
  simp only [ho, hx, hy, Sem.run_bind, run_eqGuard_agg w _ _ x y C D guard_le, Result.andThen_ok, run_eql_struct, h]
  rfl
def inB (m : Nat) (Y : Nat → LE) (x : LE) : Bool := (List.range m).any (fun i => eqLE x (Y i))
theorem in_yes {m i : Nat} {Y : Nat → LE} {x : LE} (hi : i < m) (h : eqLE x (Y i) = true) : inB m Y x = true := List.any_eq_true.2 ⟨i, List.mem_range.2 hi, h⟩
theorem in_no {m : Nat} {Y : Nat → LE} {x : LE} (h : ∀ i, i < m → eqLE x (Y i) = false) : inB m Y x = false := by
  cases e : inB m Y x with
  | false => rfl
  | true => obtain ⟨i, hi, h2⟩ := List.any_eq_true.1 e; rw [h i (List.mem_range.1 hi)] at h2; cases h2
def IxR (m : Nat) (Y : Nat → LE) (x : LE) (w : World) (e : Ending) (w' : World) : Prop := Below w.heap.size w w' ∧ ((inB m Y x = true ∧ ∃ r : Nat, e = .returned (.int .i64 (r : Int))) ∨ (inB m Y x = false ∧ e = .returned (.int .i64 (-1))))
set_option maxRecDepth 100000 in
set_option maxHeartbeats 1000000 in
theorem ix_any (oa : Option Addr) (m c : Nat) (Y : Nat → LE) (x : LE) (w : World) (hY : CK 5 w oa m (leC Y)) (hm : m ≤ maxLen) :
    Calls Tryz.prog 88 #[.slice oa m c, .agg (leL x).toArray] w (IxR m Y x w) := by
  obtain ⟨D, hD⟩ : ∃ D, (leL x).toArray = D := ⟨_, rfl⟩
  obtain ⟨b3, hb3⟩ : ∃ q, w.heap.size = q := ⟨_, rfl⟩
  obtain ⟨w1, hw1⟩ : ∃ y, w.alloc (.cells D 33) = y := ⟨_, rfl⟩
  have hb1 : Below w.heap.size w w1 := by rw [← hw1]; exact (Below.refl _ _).alloc (Nat.le_refl _) _
  have hK : Blk w1 b3 D 33 := by rw [← hw1, ← hb3]; exact Blk.new _ _ _
  have HY := Lib.hid (hY.later hb1)
  have HB1 := Lib.hid hb1
  have HK := Lib.hid hK
  have HDE := Lib.hid hD
  have HISD : Hid ((Tryz.prog.info? 33).map (·.size) = some D.size) := Lib.hid (by rw [← hD]; exact info_le)
  have hn0 : (m : Int) ≤ 9223372036854775807 := by unfold maxLen at hm; omega
  rw [hD]
  clear hY hb1 hK hD hm
  go_enter Tryz.func88, Tryz.ntmps88
  go_wp2_with fail
  go_loopw [8] (fun v wr => ∃ i : Nat, i ≤ m ∧ v = .int .i64 (i : Int) ∧ (∀ j, j < i → eqLE x (Y j) = false) ∧ Below w1.heap.size w1 wr) (fun v _ => m - (intOf v).toNat)
  case atStart => exact ⟨0, Nat.zero_le _, rfl, fun j hj => absurd hj (Nat.not_lt_zero _), Below.refl _ _⟩
  case round =>
    obtain ⟨i, hi, rfl, hJ, hbw⟩ := hrel
    have HJ := Lib.hid hJ
    have HBW := Lib.hid hbw
    clear hJ hbw
    by_cases hli : i < m
    · have i1 : (i : Int) < (m : Int) := by omega
      have i0 : (0 : Int) ≤ (i : Int) := by omega
      obtain ⟨j2, hj2⟩ : ∃ z, i + 1 = z := ⟨_, rfl⟩
      have k3 : (i : Int) + 1 = (j2 : Int) := by omega
      have k4 : IntKind.i64.wrap (j2 : Int) = (j2 : Int) := IntWalk.i64_in _ (by omega)
      have HI := Lib.hid (And.intro hli hj2)
      obtain ⟨b, off, e, hrg⟩ := (HY.out.later HBW.out) i hli
      subst e
      obtain ⟨C, hC⟩ : ∃ q, (leL (Y i)).toArray = q := ⟨_, rfl⟩
      have HIS : Hid ((Tryz.prog.info? 33).map (·.size) = some C.size) := Lib.hid (by rw [← hC]; exact info_le)
      obtain ⟨bq, hbq⟩ : ∃ q, eqLE x (Y i) = q := ⟨_, rfl⟩
      have HEQ : Hid (∀ w, (Op.equalIn 10000 33 (.agg D) (.agg C)).run Tryz.prog w = .ok bq w) := Lib.hid (by rw [← HDE.out, ← hC, ← hbq]; exact eqLE_run x (Y i))
      have HBQ := Lib.hid hbq
      have hSW0 : Blk wr.drew b3 D 33 ∧ wr.drew.rangeAt b (off + i * 5) C.toList := ⟨(Blk.below HK.out HBW.out (Blk.lt HK.out)).drew, by rw [← hC]; exact hrg⟩
      have HBD := Lib.hid (HBW.out.drew)
      clear hi hli hj2 hrg hC hbq
      go_upto_region 4 with fail
      refine wp_region_held_drew (S := (fun X => Blk X b3 D 33 ∧ X.rangeAt b (off + i * 5) C.toList)) (by kernel_rfl) ?_ (fun hHeld => ?_)
      · (try dsimp only)
        (first | assumption | (dsimp only; assumption))
      refine wT 0 ?_ rfl ?_ ?_
      rotate_left
      · intro wS hSw
        refine exec_loadA (x := .tmp 3) (C := D) ?_ ?_ (Blk.rangeA hSw.1) Tryz.underlying33 ?_ HISD.out <;> rfl
      (try simp only [Act.put, zS])
      refine wT 1 ?_ rfl ?_ ?_
      rotate_left
      · intro wS hSw
        (try dsimp only at hSw)
        go_simp
        (try with_reducible rfl)
      (try simp only [Act.put, zS])
      refine wT 2 ?_ rfl ?_ ?_
      rotate_left
      · intro wS hSw
        (try dsimp only at hSw)
        go_simp
        (try with_reducible rfl)
      (try simp only [Act.put, zS])
      refine wT 3 ?_ rfl ?_ ?_
      rotate_left
      · intro wS hSw
        (try dsimp only at hSw)
        go_simp
        (try with_reducible rfl)
      (try simp only [Act.put, zS])
      refine wT 4 ?_ rfl ?_ ?_
      rotate_left
      · intro wS hSw
        refine exec_loadA (x := .tmp 14) (C := C) ?_ ?_ hSw.2 Tryz.underlying33 ?_ HIS.out <;> rfl
      (try simp only [Act.put, zS])
      refine wT 5 ?_ rfl ?_ ?_
      rotate_left
      · intro wS hSw
        refine exec_eqlL (x := .tmp 11) (y := .tmp 15) (r := 33) (C := D) (D := C) (b := bq) ?_ ?_ ?_ HEQ.out <;> rfl
      (try simp only [Act.put, zS])
      refine wpAnyH_done (by kernel_rfl) ?_ _
      cases bq
      · go_wp2_with fail
        go_roundw
        case rel => exact ⟨j2, by have := HI.out; omega, by first | rfl | go_num, fun j hj => by
          have h9 := HI.out
          by_cases e : j < i
          · exact HJ.out j e
          · obtain rfl : j = i := by omega
            exact HBQ.out, HBD.out⟩
        case measure => have := HI.out; simp [intOf] <;> omega
      · go_wp2_with fail
        go_ret
        exact ⟨HB1.out.trans (HBD.out.mono HB1.out.size), .inl ⟨in_yes HI.out.1 HBQ.out, i, rfl⟩⟩
    · obtain rfl : i = m := by omega
      have i1 : ¬ (i : Int) < (i : Int) := by omega
      clear hi hli
      go_wp2_with fail
      go_ret
      exact ⟨HB1.out.trans (HBW.out.mono HB1.out.size), .inr ⟨in_no HJ.out, rfl⟩⟩
set_option maxRecDepth 100000 in
set_option maxHeartbeats 1000000 in
theorem ct_any (oa : Option Addr) (m c : Nat) (Y : Nat → LE) (x : LE) (w : World) (hY : CK 5 w oa m (leC Y)) (hm : m ≤ maxLen) :
    Calls Tryz.prog 64 #[.slice oa m c, .agg (leL x).toArray] w fun e w' => e = .returned (.bool (inB m Y x)) ∧ Below w.heap.size w w' := by
  obtain ⟨D, hD⟩ : ∃ D, (leL x).toArray = D := ⟨_, rfl⟩
  obtain ⟨b3, hb3⟩ : ∃ q, w.heap.size = q := ⟨_, rfl⟩
  obtain ⟨w1, hw1⟩ : ∃ y, w.alloc (.cells D 33) = y := ⟨_, rfl⟩
  have hb1 : Below w.heap.size w w1 := by rw [← hw1]; exact (Below.refl _ _).alloc (Nat.le_refl _) _
  have hK : Blk w1 b3 D 33 := by rw [← hw1, ← hb3]; exact Blk.new _ _ _
  have HB1 := Lib.hid hb1
  have HR := Lib.hid (Blk.rangeA hK)
  have HISD : Hid ((Tryz.prog.info? 33).map (·.size) = some D.size) := Lib.hid (by rw [← hD]; exact info_le)
  have HC := Lib.hid (ix_any oa m c Y x w1 (hY.later hb1) hm)
  rw [hD] at HC ⊢
  clear hY hb1 hK hD hm
  go_enter Tryz.func64, Tryz.ntmps64
  go_wp2_with (first | (refine wpList_value rfl (exec_loadA (x := .tmp 3) (C := D) rfl rfl HR.out Tryz.underlying33 rfl HISD.out) ?_) | fail)
  refine HC.out.mono ?_
  rintro e w2 ⟨hb, (⟨hi, r, rfl⟩ | ⟨hi, rfl⟩)⟩
  · have HB := Lib.hid (And.intro hb hi)
    have hr : (0 : Int) ≤ (r : Int) := by omega
    clear hb hi
    go_wp2_with fail
    go_ret
    exact ⟨by rw [HB.out.2]; rfl, HB1.out.trans (HB.out.1.mono HB1.out.size)⟩
  · have HB := Lib.hid (And.intro hb hi)
    clear hb hi
    go_wp2_with fail
    go_ret
    exact ⟨by rw [HB.out.2]; rfl, HB1.out.trans (HB.out.1.mono HB1.out.size)⟩
set_option maxRecDepth 100000 in
set_option maxHeartbeats 1000000 in
theorem s2_any (x : LE) (b m c : Nat) (oa : Option Addr) (Y : Nat → LE) (w : World) (hb : b < w.heap.size) (hc : w.cell? ⟨b, 0, none⟩ = some (.slice oa m c)) (hY : CK 5 w oa m (leC Y)) (hm : m ≤ maxLen) :
    Calls Tryz.prog 63 #[.agg (leL x).toArray, .pointer (some ⟨b, 0, none⟩)] w fun e w' => e = .returned (.bool (inB m Y x)) ∧ Below w.heap.size w w' := by
  obtain ⟨D, hD⟩ : ∃ D, (leL x).toArray = D := ⟨_, rfl⟩
  obtain ⟨b3, hb3⟩ : ∃ q, w.heap.size = q := ⟨_, rfl⟩
  obtain ⟨w1, hw1⟩ : ∃ y, w.alloc (.cells D 33) = y := ⟨_, rfl⟩
  have hb1 : Below w.heap.size w w1 := by rw [← hw1]; exact (Below.refl _ _).alloc (Nat.le_refl _) _
  have hK : Blk w1 b3 D 33 := by rw [← hw1, ← hb3]; exact Blk.new _ _ _
  have HB1 := Lib.hid hb1
  have HR := Lib.hid (Blk.rangeA hK)
  have HISD : Hid ((Tryz.prog.info? 33).map (·.size) = some D.size) := Lib.hid (by rw [← hD]; exact info_le)
  have HC := Lib.hid (ct_any oa m c Y x w1 (hY.later hb1) hm)
  have hc2 : w1.cell? ⟨b, 0, none⟩ = some (.slice oa m c) := cell_below hb1 hc
  rw [hD] at HC ⊢
  clear hY hb1 hK hD hm hc hb
  go_enter Tryz.func63, Tryz.ntmps63
  go_wp2_with (first | (refine wpList_value rfl (exec_loadA (x := .tmp 2) (C := D) rfl rfl HR.out Tryz.underlying33 rfl HISD.out) ?_) | fail)
  refine HC.out.mono ?_
  rintro e w2 ⟨rfl, hb⟩
  have HB := Lib.hid hb
  clear hb
  go_wp2_with fail
  go_ret
  exact ⟨rfl, HB1.out.trans (HB.out.mono HB1.out.size)⟩
end Go.Proofs.YtgfjlgaleddoaaaGreatDoor
