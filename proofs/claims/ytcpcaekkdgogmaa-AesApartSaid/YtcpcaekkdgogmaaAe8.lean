/- AES: unlike blocks are ciphered unlike. -/
import Derived.Test.YtcpcaekkdgogmaaAe7
namespace Go.Proofs.Ytcpcaekkdgogmaa
set_option linter.unusedVariables false
set_option linter.unusedSimpArgs false
open Go.RowKit

theorem size16a : (Try.prog.info? 23).map (·.size) = some 16 := by kernel_rfl
theorem info16a (f : Nat → Nat) : (Try.prog.info? 23).map (·.size) = some (rowC 16 f).toArray.size := by rw [size_row]; exact size16a
theorem ld16a {w : World} {g : Nat} {C : Array Value} (h : Blk w g C 23) (hs : (Try.prog.info? 23).map (·.size) = some C.size) : (loadVar 23 ⟨g, 0, none⟩).run Try.prog w = .ok (.agg C) w :=
  run_loadVar_row w g 23 23 C (0, 0) _ h Try.underlying23 rfl hs
theorem exec_load16a {o : Oper} {a : Act} {w : World} {g : Nat} {C : Array Value} {x : Operand} (ho : o.op = .load 23 x) (hx : a.eval x = .pointer (some ⟨g, 0, none⟩)) (h : (loadVar 23 ⟨g, 0, none⟩).run Try.prog w = .ok (.agg C) w) : (execOp a.eval o).run Try.prog w = .ok (.value (.agg C)) w := by
  unfold execOp
  simp only [ho, hx, Instr.loadAt, Instr.sureAddr, Sem.run_bind, Sem.run_pure, Result.andThen_ok, h]
theorem eq16a (f g : Nat → Nat) (w : World) : (Op.equalIn 10000 23 (.agg (rowC 16 f).toArray) (.agg (rowC 16 g).toArray)).run Try.prog w = .ok (eqF f g) w := by
  obtain ⟨i, hi⟩ : ∃ i, Try.prog.info? 5 = some i := ⟨_, rfl⟩
  rw [run_equalIn_array w 9999 _ _ (e := 5) (n := 16) (t := 23) Try.underlying23 hi, cells_u8]
  exact items16 f g w _ (fun i hi => List.mem_range.1 hi)
theorem guard16a : Try.prog.eqGuardType Try.prog.depth 23 = false := by kernel_rfl
theorem exec_eql16a {o : Oper} {a : Act} {w : World} {x y : Operand} {r : TypeId} {C D : Array Value} {b : Bool} (ho : o.op = .binOp .eql 23 x y r) (hx : a.eval x = .agg C) (hy : a.eval y = .agg D) (h : ∀ w, (Op.equalIn 10000 23 (.agg C) (.agg D)).run Try.prog w = .ok b w) : (execOp a.eval o).run Try.prog w = .ok (.value (.bool b)) w := by
  unfold execOp
  simp only [ho, hx, hy, Sem.run_bind, run_eqGuard_agg w _ _ x y C D guard16a, Result.andThen_ok, run_eql_struct, h]
  rfl
theorem encK_congr {W f g : Nat → Nat} (h : ∀ i, i < 16 → f i = g i) : ∀ r i, i < 16 → encK subN W f r i = encK subN W g r i
  | 0, i, hi => by show f i ^^^ _ = g i ^^^ _; rw [h i hi]
  | r + 1, i, hi => by
    have ih := encK_congr (W := W) h r
    have hm : ∀ j, j < 16 → mvA subN (encK subN W f r) j = mvA subN (encK subN W g r) j := fun j hj => by
      unfold mvA; rw [ih _ (by omega)]
    show addK W (r + 1) (if r + 1 < 14 then mxA (mvA subN (encK subN W f r)) else mvA subN (encK subN W f r)) i = addK W (r + 1) (if r + 1 < 14 then mxA (mvA subN (encK subN W g r)) else mvA subN (encK subN W g r)) i
    unfold addK
    congr 1
    split
    · exact mxA_congr hm i hi
    · exact hm i hi
theorem enc_eq {W f g : Nat → Nat} (hf : ∀ i, i < 16 → f i < 256) (hg : ∀ i, i < 16 → g i < 256) : eqF (encK subN W f 14) (encK subN W g 14) = eqF f g := by
  rw [Bool.eq_iff_iff, eqF_iff, eqF_iff]
  exact ⟨encK_inj subN_lt (fun x y hx hy h => sub_inj hx hy h) hf hg 14, fun h => encK_congr h 14⟩
/-- Two keys of the same bytes, each with its table; two blocks. -/
structure AP (w0 : World) (kb bx ko bo g : Nat) (W : Nat → Nat) (A B : Array Value) (wr : World) : Prop where
  k1 : KeyB wr kb W bx
  i1 : BoxIn wr bx
  k2 : KeyB wr ko W bo
  i2 : BoxIn wr bo
  a : Blk wr g A 23
  b : Blk wr (g + 1) B 23
  o : Below w0.heap.size w0 wr
  n : w0.heap.size ≤ g ∧ g + 1 < bx ∧ bx < kb ∧ kb < bo ∧ bo < ko
theorem AP.own1 {w0 wr w' : World} {kb bx ko bo g : Nat} {W : Nat → Nat} {A B : Array Value} (h : AP w0 kb bx ko bo g W A B wr) (hI : BoxIn w' bx) (hO : Own bx wr w') : AP w0 kb bx ko bo g W A B w' := by
  obtain ⟨h1, _, h3, h4, h5, h6, h7, h8⟩ := h
  exact ⟨hO.blk h1 (by omega), hI, hO.blk h3 (by omega), h4.own hO (by omega), hO.blk h5 (by omega), hO.blk h6 (by omega), h7.trans (hO.below (by omega) h7.size), h8⟩
theorem AP.own2 {w0 wr w' : World} {kb bx ko bo g : Nat} {W : Nat → Nat} {A B : Array Value} (h : AP w0 kb bx ko bo g W A B wr) (hI : BoxIn w' bo) (hO : Own bo wr w') : AP w0 kb bx ko bo g W A B w' := by
  obtain ⟨h1, h2, h3, _, h5, h6, h7, h8⟩ := h
  exact ⟨hO.blk h1 (by omega), h2.own hO (by omega), hO.blk h3 (by omega), hI, hO.blk h5 (by omega), hO.blk h6 (by omega), h7.trans (hO.below (by omega) h7.size), h8⟩
theorem AP.below {w0 wr w' : World} {kb bx ko bo g : Nat} {W : Nat → Nat} {A B : Array Value} (h : AP w0 kb bx ko bo g W A B wr) (hb : Below wr.heap.size wr w') : AP w0 kb bx ko bo g W A B w' := h.own1 (h.i1.below hb) (Own.of_below hb)
set_option maxRecDepth 100000 in
set_option maxHeartbeats 4000000 in
theorem apart_any (f x y : Nat → Nat) (w : World) (hf : ∀ i, i < 32 → f i < 256) (hx : ∀ i, i < 16 → x i < 256) (hy : ∀ i, i < 16 → y i < 256) :
    Calls Try.prog 3 #[.agg (rowC 32 f).toArray, .agg (rowC 16 x).toArray, .agg (rowC 16 y).toArray] w fun e w' => e = .returned (.bool true) ∧ Below w.heap.size w w' := by
  obtain ⟨F, hF⟩ : ∃ C, (rowC 32 f).toArray = C := ⟨_, rfl⟩
  obtain ⟨A, hA⟩ : ∃ C, (rowC 16 x).toArray = C := ⟨_, rfl⟩
  obtain ⟨B, hB⟩ : ∃ C, (rowC 16 y).toArray = C := ⟨_, rfl⟩
  obtain ⟨EA, hEA⟩ : ∃ C, (rowC 16 (encK subN (exK f 60) x 14)).toArray = C := ⟨_, rfl⟩
  obtain ⟨EB, hEB⟩ : ∃ C, (rowC 16 (encK subN (exK f 60) y 14)).toArray = C := ⟨_, rfl⟩
  obtain ⟨b, hb⟩ : ∃ b, eqF x y = b := ⟨_, rfl⟩
  have HE1 : Hid (∀ w, (Op.equalIn 10000 30 (.agg EA) (.agg EB)).run Try.prog w = .ok b w) := Lib.hid fun w => by rw [← hEA, ← hEB, ← hb, ← enc_eq (W := exK f 60) hx hy]; exact eq16 _ _ w
  have HE2 : Hid (∀ w, (Op.equalIn 10000 23 (.agg A) (.agg B)).run Try.prog w = .ok b w) := Lib.hid fun w => by rw [← hA, ← hB, ← hb]; exact eq16a _ _ w
  have HE3 : Hid (∀ w, (Op.equalIn 10000 30 (.agg EA) (.agg EA)).run Try.prog w = .ok true w) := Lib.hid fun w => by rw [← hEA, ← eqF_refl (encK subN (exK f 60) x 14)]; exact eq16 _ _ w
  have HIA : Hid ((Try.prog.info? 23).map (·.size) = some A.size) := Lib.hid (hA ▸ info16a _)
  have HIB : Hid ((Try.prog.info? 23).map (·.size) = some B.size) := Lib.hid (hB ▸ info16a _)
  have HX1 : Hid (∀ kb bx ko bo g w0 w', AP w0 kb bx ko bo g (exK f 60) A B w' → Calls Try.prog 6 #[.pointer (some ⟨kb, 0, none⟩), .agg A] w' fun e w'' => e = .returned (.agg EA) ∧ AP w0 kb bx ko bo g (exK f 60) A B w'') := Lib.hid fun kb bx ko bo g w0 w' h => by
    rw [← hEA]; rw [← hA] at h ⊢
    exact (enc_any kb bx _ x w' h.k1 h.i1 (by have := h.n; omega) hx).mono fun e w'' ⟨he, h1, h2⟩ => ⟨he, h.own1 h1 h2⟩
  have HX2 : Hid (∀ kb bx ko bo g w0 w', AP w0 kb bx ko bo g (exK f 60) A B w' → Calls Try.prog 6 #[.pointer (some ⟨kb, 0, none⟩), .agg B] w' fun e w'' => e = .returned (.agg EB) ∧ AP w0 kb bx ko bo g (exK f 60) A B w'') := Lib.hid fun kb bx ko bo g w0 w' h => by
    rw [← hEB]; rw [← hB] at h ⊢
    exact (enc_any kb bx _ y w' h.k1 h.i1 (by have := h.n; omega) hy).mono fun e w'' ⟨he, h1, h2⟩ => ⟨he, h.own1 h1 h2⟩
  have HX3 : Hid (∀ kb bx ko bo g w0 w', AP w0 kb bx ko bo g (exK f 60) A B w' → Calls Try.prog 6 #[.pointer (some ⟨ko, 0, none⟩), .agg A] w' fun e w'' => e = .returned (.agg EA) ∧ AP w0 kb bx ko bo g (exK f 60) A B w'') := Lib.hid fun kb bx ko bo g w0 w' h => by
    rw [← hEA]; rw [← hA] at h ⊢
    exact (enc_any ko bo _ x w' h.k2 h.i2 (by have := h.n; omega) hx).mono fun e w'' ⟨he, h1, h2⟩ => ⟨he, h.own2 h1 h2⟩
  obtain ⟨w0, hw0⟩ : ∃ q, ((w.alloc (.cells F 22)).alloc (.cells A 23)).alloc (.cells B 23) = q := ⟨_, rfl⟩
  have p0 : Blk w0 w.heap.size F 22 := by rw [← hw0]; exact ((Blk.new w _ _).alloc _).alloc _
  have p1 : Blk w0 (w.heap.size + 1) A 23 := by rw [← hw0]; simpa using (Blk.new (w.alloc (.cells F 22)) A 23).alloc (.cells B 23)
  have p2 : Blk w0 (w.heap.size + 1 + 1) B 23 := by rw [← hw0]; simpa using Blk.new ((w.alloc (.cells F 22)).alloc (.cells A 23)) B 23
  have pO : Below w.heap.size w w0 := by rw [← hw0]; exact (((Below.refl _ _).alloc (Nat.le_refl _) _).alloc (by simp) _).alloc (by simp; omega) _
  have hby : Bytes w0 (some ⟨w.heap.size, 0, none⟩) 32 f := fun k hk => ⟨hf k hk, w.heap.size, 0, rfl, by
    rw [Nat.zero_add, Blk.cell p0, ← hF]; simpa using rowC_get f hk⟩
  have HNEW := Lib.hid (new_any f _ 32 w0 hby)
  have HBY := Lib.hid hby
  have P1 := Lib.hid p1
  have P2 := Lib.hid p2
  have PO := Lib.hid pO
  rw [hF, hA, hB]
  clear hf hx hy hF hA hB hEA hEB hb p0 p1 p2 pO hby
  go_enter Try.func3, Try.ntmps3
  go_wp2_with fail
  clear hw0
  refine HNEW.out.mono ?_
  rintro e w1 ⟨kb, bx, rfl, hN1⟩
  have HN1 := Lib.hid hN1
  have HNEW2 := Lib.hid (new_any f _ 32 w1 (HBY.out.later hN1.2.2.1))
  clear hN1 HNEW
  go_wp2_with fail
  refine HNEW2.out.mono ?_
  rintro e w2 ⟨ko, bo, rfl, hN2⟩
  have hAP : AP w kb bx ko bo (w.heap.size + 1) (exK f 60) A B w2 := by
    obtain ⟨a1, a2, a3, a4, a5⟩ := HN1.out
    obtain ⟨c1, c2, c3, c4, c5⟩ := hN2
    have hl := Blk.lt P2.out
    have hk := Blk.lt a1
    have hb1 := c3
    exact ⟨Blk.below a1 hb1 hk, a2.below hb1, c1, c2, Blk.below (Blk.below P1.out a3 (Blk.lt P1.out)) hb1 (Nat.lt_of_lt_of_le (Blk.lt P1.out) a3.size), Blk.below (Blk.below P2.out a3 hl) hb1 (Nat.lt_of_lt_of_le hl a3.size),
      (PO.out.trans (a3.mono PO.out.size)).trans (hb1.mono (Nat.le_trans PO.out.size a3.size)), by omega⟩
  have HAP := Lib.hid hAP
  clear hN2 hAP HNEW2 HN1 HBY P1 P2 PO
  go_wp2_with fail
  have hP_0 : AP w kb bx ko bo (w.heap.size + 1) (exK f 60) A B w2.drew := HAP.out.below (Below.refl _ w2).drew
  refine wp_region_held_drew (S := (AP w kb bx ko bo (w.heap.size + 1) (exK f 60) A B)) (by kernel_rfl) ?_ (fun hHeld => ?_)
  · (try dsimp only)
    first | assumption
  generalize w2.drew = w5 at *
  refine wpAnyH_take (i := 0) (oi := { dst := some 27, op := Go.Op.move (Go.Operand.tmp 7), type := 24, pos := "law.go:64", after := #[], guard := none }) (v := ?_) rfl (by kernel_rfl) (by kernel_rfl) (by kernel_rfl) (fun _ _ _ h => h) (Or.inl ⟨by rfl, ?_⟩) (by assumption) ?_
  rotate_left
  · intro wS hSw
    (try dsimp only at hSw)
    go_simp
    (try with_reducible rfl)
  (try simp only [Act.put, List.setIfInBounds_toArray, List.set_cons_zero, List.set_cons_succ])
  refine wpAnyH_take (i := 1) (oi := { dst := some 28, op := Go.Op.load 23 (Go.Operand.tmp 4), type := 23, pos := "law.go:64", after := #[], guard := none }) (v := ?_) rfl (by kernel_rfl) (by kernel_rfl) (by kernel_rfl) (fun _ _ _ h => h) (Or.inl ⟨by rfl, ?_⟩) (by assumption) ?_
  rotate_left
  · intro wS hSw
    refine exec_load16a (x := .tmp 4) ?_ ?_ (ld16a hSw.a HIA.out) <;> rfl
  (try simp only [Act.put, List.setIfInBounds_toArray, List.set_cons_zero, List.set_cons_succ])
  refine wpAnyH_take (i := 3) (oi := { dst := some 30, op := Go.Op.move (Go.Operand.tmp 7), type := 24, pos := "law.go:64", after := #[], guard := none }) (v := ?_) rfl (by kernel_rfl) (by kernel_rfl) (by kernel_rfl) (fun _ _ _ h => h) (Or.inl ⟨by rfl, ?_⟩) (by assumption) ?_
  rotate_left
  · intro wS hSw
    (try dsimp only at hSw)
    go_simp
    (try with_reducible rfl)
  (try simp only [Act.put, List.setIfInBounds_toArray, List.set_cons_zero, List.set_cons_succ])
  refine wpAnyH_take (i := 4) (oi := { dst := some 31, op := Go.Op.load 23 (Go.Operand.tmp 5), type := 23, pos := "law.go:64", after := #[], guard := none }) (v := ?_) rfl (by kernel_rfl) (by kernel_rfl) (by kernel_rfl) (fun _ _ _ h => h) (Or.inl ⟨by rfl, ?_⟩) (by assumption) ?_
  rotate_left
  · intro wS hSw
    refine exec_load16a (x := .tmp 5) ?_ ?_ (ld16a hSw.b HIB.out) <;> rfl
  (try simp only [Act.put, List.setIfInBounds_toArray, List.set_cons_zero, List.set_cons_succ])
  refine wpAnyH_take (i := 7) (oi := { dst := some 34, op := Go.Op.load 23 (Go.Operand.tmp 4), type := 23, pos := "law.go:64", after := #[], guard := none }) (v := ?_) rfl (by kernel_rfl) (by kernel_rfl) (by kernel_rfl) (fun _ _ _ h => h) (Or.inl ⟨by rfl, ?_⟩) (by assumption) ?_
  rotate_left
  · intro wS hSw
    refine exec_load16a (x := .tmp 4) ?_ ?_ (ld16a hSw.a HIA.out) <;> rfl
  (try simp only [Act.put, List.setIfInBounds_toArray, List.set_cons_zero, List.set_cons_succ])
  refine wpAnyH_take (i := 8) (oi := { dst := some 35, op := Go.Op.load 23 (Go.Operand.tmp 5), type := 23, pos := "law.go:64", after := #[], guard := none }) (v := ?_) rfl (by kernel_rfl) (by kernel_rfl) (by kernel_rfl) (fun _ _ _ h => h) (Or.inl ⟨by rfl, ?_⟩) (by assumption) ?_
  rotate_left
  · intro wS hSw
    refine exec_load16a (x := .tmp 5) ?_ ?_ (ld16a hSw.b HIB.out) <;> rfl
  (try simp only [Act.put, List.setIfInBounds_toArray, List.set_cons_zero, List.set_cons_succ])
  refine wpAnyH_take (i := 9) (oi := { dst := some 36, op := Go.Op.binOp Go.BinOp.eql 23 (Go.Operand.tmp 34) (Go.Operand.tmp 35) 23, type := 4, pos := "law.go:64", after := #[{ on := 7, ground := Go.Ground.data }, { on := 8, ground := Go.Ground.data }], guard := none }) (v := ?_) rfl (by kernel_rfl) (by kernel_rfl) (by kernel_rfl) (fun _ _ _ h => h) (Or.inl ⟨by rfl, ?_⟩) (by assumption) ?_
  rotate_left
  · intro wS hSw
    refine exec_eql16a (r := 23) (x := .tmp 34) (y := .tmp 35) ?_ ?_ ?_ HE2.out <;> rfl
  (try simp only [Act.put, List.setIfInBounds_toArray, List.set_cons_zero, List.set_cons_succ])
  refine wpAnyH_ready (rs := [2]) (by kernel_rfl) (by simp) ?_
  refine AllReadyH.cons (o := { dst := some 29, op := Go.Op.call { callee := Go.Callee.value (Go.Operand.func 6), args := #[Go.Operand.tmp 27, Go.Operand.tmp 28], argTypes := #[24, 30] }, type := 30, pos := "law.go:64", after := #[{ on := 0, ground := Go.Ground.data }, { on := 1, ground := Go.Ground.data }], guard := none }) rfl (fun K hK => ?_) AllReadyH.nil
  go_simp
  (refine (HX1.out kb bx ko bo (w.heap.size + 1) w _ hP_0).mono ?_; rintro e v_1 ⟨rfl, hP_1⟩; clear hP_0; skip)
  (try go_wp2_with fail)
  refine hK.out _ _ ?_ (fun hHeld => ?_)
  · (try dsimp only)
    first | assumption
  clear hK K
  (try simp only [Act.put, List.setIfInBounds_toArray, List.set_cons_zero, List.set_cons_succ])
  refine wpAnyH_ready (rs := [5]) (by kernel_rfl) (by simp) ?_
  refine AllReadyH.cons (o := { dst := some 32, op := Go.Op.call { callee := Go.Callee.value (Go.Operand.func 6), args := #[Go.Operand.tmp 30, Go.Operand.tmp 31], argTypes := #[24, 30] }, type := 30, pos := "law.go:64", after := #[{ on := 3, ground := Go.Ground.data }, { on := 4, ground := Go.Ground.data }, { on := 2, ground := Go.Ground.chain }], guard := none }) rfl (fun K hK => ?_) AllReadyH.nil
  go_simp
  (refine (HX2.out kb bx ko bo (w.heap.size + 1) w _ hP_1).mono ?_; rintro e v_2 ⟨rfl, hP_2⟩; clear hP_1; skip)
  (try go_wp2_with fail)
  refine hK.out _ _ ?_ (fun hHeld => ?_)
  · (try dsimp only)
    first | assumption
  clear hK K
  (try simp only [Act.put, List.setIfInBounds_toArray, List.set_cons_zero, List.set_cons_succ])
  refine wpAnyH_take (i := 6) (oi := { dst := some 33, op := Go.Op.binOp Go.BinOp.eql 30 (Go.Operand.tmp 29) (Go.Operand.tmp 32) 30, type := 4, pos := "law.go:64", after := #[{ on := 2, ground := Go.Ground.data }, { on := 5, ground := Go.Ground.data }], guard := none }) (v := ?_) rfl (by kernel_rfl) (by kernel_rfl) (by kernel_rfl) (fun _ _ _ h => h) (Or.inl ⟨by rfl, ?_⟩) (by assumption) ?_
  rotate_left
  · intro wS hSw
    refine exec_eql16 (r := 30) (x := .tmp 29) (y := .tmp 32) ?_ ?_ ?_ HE1.out <;> rfl
  (try simp only [Act.put, List.setIfInBounds_toArray, List.set_cons_zero, List.set_cons_succ])
  refine wpAnyH_take (i := 10) (oi := { dst := some 37, op := Go.Op.binOp Go.BinOp.eql 4 (Go.Operand.tmp 33) (Go.Operand.tmp 36) 4, type := 4, pos := "law.go:64", after := #[{ on := 6, ground := Go.Ground.data }, { on := 9, ground := Go.Ground.data }], guard := none }) (v := ?_) rfl (by kernel_rfl) (by kernel_rfl) (by kernel_rfl) (fun _ _ _ h => h) (Or.inl ⟨by rfl, ?_⟩) (by assumption) ?_
  rotate_left
  · intro wS hSw
    (try dsimp only at hSw)
    go_simp
    (try with_reducible rfl)
  (try simp only [Act.put, List.setIfInBounds_toArray, List.set_cons_zero, List.set_cons_succ])
  refine wpAnyH_take (i := 11) (oi := { dst := some 38, op := Go.Op.move (Go.Operand.tmp 37), type := 4, pos := "law.go:64", after := #[{ on := 10, ground := Go.Ground.data }, { on := 5, ground := Go.Ground.chain }], guard := none }) (v := ?_) rfl (by kernel_rfl) (by kernel_rfl) (by kernel_rfl) (fun _ _ _ h => h) (Or.inl ⟨by rfl, ?_⟩) (by assumption) ?_
  rotate_left
  · intro wS hSw
    (try dsimp only at hSw)
    go_simp
    (try with_reducible rfl)
  (try simp only [Act.put, List.setIfInBounds_toArray, List.set_cons_zero, List.set_cons_succ])
  refine wpAnyH_take (i := 12) (oi := { dst := some 39, op := Go.Op.move (Go.Operand.tmp 9), type := 24, pos := "law.go:64", after := #[{ on := 11, ground := Go.Ground.guard }], guard := some (11, true) }) (v := ?_) rfl (by kernel_rfl) (by kernel_rfl) (by kernel_rfl) (fun _ _ _ h => h) (Or.inl ⟨by rfl, ?_⟩) (by assumption) ?_
  rotate_left
  · intro wS hSw
    (try dsimp only at hSw)
    go_simp
    (try with_reducible rfl)
  (try simp only [Act.put, List.setIfInBounds_toArray, List.set_cons_zero, List.set_cons_succ])
  refine wpAnyH_take (i := 13) (oi := { dst := some 40, op := Go.Op.load 23 (Go.Operand.tmp 4), type := 23, pos := "law.go:64", after := #[{ on := 11, ground := Go.Ground.guard }], guard := some (11, true) }) (v := ?_) rfl (by kernel_rfl) (by kernel_rfl) (by kernel_rfl) (fun _ _ _ h => h) (Or.inl ⟨by rfl, ?_⟩) (by assumption) ?_
  rotate_left
  · intro wS hSw
    refine exec_load16a (x := .tmp 4) ?_ ?_ (ld16a hSw.a HIA.out) <;> rfl
  (try simp only [Act.put, List.setIfInBounds_toArray, List.set_cons_zero, List.set_cons_succ])
  refine wpAnyH_take (i := 15) (oi := { dst := some 42, op := Go.Op.move (Go.Operand.tmp 7), type := 24, pos := "law.go:64", after := #[{ on := 11, ground := Go.Ground.guard }], guard := some (11, true) }) (v := ?_) rfl (by kernel_rfl) (by kernel_rfl) (by kernel_rfl) (fun _ _ _ h => h) (Or.inl ⟨by rfl, ?_⟩) (by assumption) ?_
  rotate_left
  · intro wS hSw
    (try dsimp only at hSw)
    go_simp
    (try with_reducible rfl)
  (try simp only [Act.put, List.setIfInBounds_toArray, List.set_cons_zero, List.set_cons_succ])
  refine wpAnyH_take (i := 16) (oi := { dst := some 43, op := Go.Op.load 23 (Go.Operand.tmp 4), type := 23, pos := "law.go:64", after := #[{ on := 11, ground := Go.Ground.guard }], guard := some (11, true) }) (v := ?_) rfl (by kernel_rfl) (by kernel_rfl) (by kernel_rfl) (fun _ _ _ h => h) (Or.inl ⟨by rfl, ?_⟩) (by assumption) ?_
  rotate_left
  · intro wS hSw
    refine exec_load16a (x := .tmp 4) ?_ ?_ (ld16a hSw.a HIA.out) <;> rfl
  (try simp only [Act.put, List.setIfInBounds_toArray, List.set_cons_zero, List.set_cons_succ])
  refine wpAnyH_ready (rs := [14]) (by kernel_rfl) (by simp) ?_
  refine AllReadyH.cons (o := { dst := some 41, op := Go.Op.call { callee := Go.Callee.value (Go.Operand.func 6), args := #[Go.Operand.tmp 39, Go.Operand.tmp 40], argTypes := #[24, 30] }, type := 30, pos := "law.go:64", after := #[{ on := 12, ground := Go.Ground.data }, { on := 13, ground := Go.Ground.data }, { on := 11, ground := Go.Ground.chain }, { on := 11, ground := Go.Ground.guard }], guard := some (11, true) }) rfl (fun K hK => ?_) AllReadyH.nil
  go_simp
  (refine (HX3.out kb bx ko bo (w.heap.size + 1) w _ hP_2).mono ?_; rintro e v_3 ⟨rfl, hP_3⟩; clear hP_2; skip)
  (try go_wp2_with fail)
  refine hK.out _ _ ?_ (fun hHeld => ?_)
  · (try dsimp only)
    first | assumption
  clear hK K
  (try simp only [Act.put, List.setIfInBounds_toArray, List.set_cons_zero, List.set_cons_succ])
  refine wpAnyH_ready (rs := [17]) (by kernel_rfl) (by simp) ?_
  refine AllReadyH.cons (o := { dst := some 44, op := Go.Op.call { callee := Go.Callee.value (Go.Operand.func 6), args := #[Go.Operand.tmp 42, Go.Operand.tmp 43], argTypes := #[24, 30] }, type := 30, pos := "law.go:64", after := #[{ on := 15, ground := Go.Ground.data }, { on := 16, ground := Go.Ground.data }, { on := 14, ground := Go.Ground.chain }, { on := 11, ground := Go.Ground.guard }], guard := some (11, true) }) rfl (fun K hK => ?_) AllReadyH.nil
  go_simp
  (refine (HX1.out kb bx ko bo (w.heap.size + 1) w _ hP_3).mono ?_; rintro e v_4 ⟨rfl, hP_4⟩; clear hP_3; skip)
  (try go_wp2_with fail)
  refine hK.out _ _ ?_ (fun hHeld => ?_)
  · (try dsimp only)
    first | assumption
  clear hK K
  (try simp only [Act.put, List.setIfInBounds_toArray, List.set_cons_zero, List.set_cons_succ])
  refine wpAnyH_take (i := 18) (oi := { dst := some 45, op := Go.Op.binOp Go.BinOp.eql 30 (Go.Operand.tmp 41) (Go.Operand.tmp 44) 30, type := 4, pos := "law.go:64", after := #[{ on := 14, ground := Go.Ground.data }, { on := 17, ground := Go.Ground.data }, { on := 11, ground := Go.Ground.guard }], guard := some (11, true) }) (v := ?_) rfl (by kernel_rfl) (by kernel_rfl) (by kernel_rfl) (fun _ _ _ h => h) (Or.inl ⟨by rfl, ?_⟩) (by assumption) ?_
  rotate_left
  · intro wS hSw
    refine exec_eql16 (r := 30) (x := .tmp 41) (y := .tmp 44) ?_ ?_ ?_ HE3.out <;> rfl
  (try simp only [Act.put, List.setIfInBounds_toArray, List.set_cons_zero, List.set_cons_succ])
  refine wpAnyH_take (i := 19) (oi := { dst := some 46, op := Go.Op.pick (Go.Operand.tmp 38) (Go.Operand.tmp 45) (Go.Operand.const (Go.Value.bool false)), type := 4, pos := "law.go:64", after := #[{ on := 11, ground := Go.Ground.data }, { on := 18, ground := Go.Ground.data }], guard := none }) (v := ?_) rfl (by kernel_rfl) (by kernel_rfl) (by kernel_rfl) (fun _ _ _ h => h) (Or.inl ⟨by rfl, ?_⟩) (by assumption) ?_
  rotate_left
  · intro wS hSw
    (try dsimp only at hSw)
    go_simp
    (try with_reducible rfl)
  (try simp only [Act.put, List.setIfInBounds_toArray, List.set_cons_zero, List.set_cons_succ])
  refine wpAnyH_take (i := 20) (oi := { dst := some 47, op := Go.Op.move (Go.Operand.tmp 46), type := 4, pos := "law.go:64", after := #[{ on := 19, ground := Go.Ground.data }, { on := 17, ground := Go.Ground.chain }], guard := none }) (v := ?_) rfl (by kernel_rfl) (by kernel_rfl) (by kernel_rfl) (fun _ _ _ h => h) (Or.inl ⟨by rfl, ?_⟩) (by assumption) ?_
  rotate_left
  · intro wS hSw
    (try dsimp only at hSw)
    go_simp
    (try with_reducible rfl)
  (try simp only [Act.put, List.setIfInBounds_toArray, List.set_cons_zero, List.set_cons_succ])
  refine wpAnyH_ready (rs := [21]) (by kernel_rfl) (by simp) ?_
  refine AllReadyH.cons (o := { dst := some 48, op := Go.Op.call { callee := Go.Callee.value (Go.Operand.func 7), args := #[], argTypes := #[] }, type := 4, pos := "law.go:64", after := #[{ on := 20, ground := Go.Ground.chain }, { on := 20, ground := Go.Ground.guard }], guard := some (20, true) }) rfl (fun K hK => ?_) AllReadyH.nil
  go_simp
  (refine (aes_sure _).mono ?_; rintro e v_5 ⟨rfl, hb_5⟩; have hP_5 := AP.below hP_4 hb_5; clear hP_4 hb_5; skip)
  (try go_wp2_with fail)
  refine hK.out _ _ ?_ (fun hHeld => ?_)
  · (try dsimp only)
    first | assumption
  clear hK K
  (try simp only [Act.put, List.setIfInBounds_toArray, List.set_cons_zero, List.set_cons_succ])
  refine wpAnyH_take (i := 22) (oi := { dst := some 49, op := Go.Op.pick (Go.Operand.tmp 47) (Go.Operand.tmp 48) (Go.Operand.const (Go.Value.bool false)), type := 4, pos := "law.go:64", after := #[{ on := 20, ground := Go.Ground.data }, { on := 21, ground := Go.Ground.data }], guard := none }) (v := ?_) rfl (by kernel_rfl) (by kernel_rfl) (by kernel_rfl) (fun _ _ _ h => h) (Or.inl ⟨by rfl, ?_⟩) (by assumption) ?_
  rotate_left
  · intro wS hSw
    (try dsimp only at hSw)
    go_simp
    (try with_reducible rfl)
  (try simp only [Act.put, List.setIfInBounds_toArray, List.set_cons_zero, List.set_cons_succ])
  refine wpAnyH_take (i := 23) (oi := { dst := some 6, op := Go.Op.assign (Go.Operand.tmp 49), type := 4, pos := "law.go:64", after := #[{ on := 22, ground := Go.Ground.data }, { on := 21, ground := Go.Ground.chain }, { on := 0, ground := Go.Ground.phase }, { on := 1, ground := Go.Ground.phase }, { on := 2, ground := Go.Ground.phase }, { on := 3, ground := Go.Ground.phase }, { on := 4, ground := Go.Ground.phase }, { on := 5, ground := Go.Ground.phase }, { on := 6, ground := Go.Ground.phase }, { on := 7, ground := Go.Ground.phase }, { on := 8, ground := Go.Ground.phase }, { on := 9, ground := Go.Ground.phase }, { on := 10, ground := Go.Ground.phase }, { on := 11, ground := Go.Ground.phase }, { on := 12, ground := Go.Ground.phase }, { on := 13, ground := Go.Ground.phase }, { on := 14, ground := Go.Ground.phase }, { on := 15, ground := Go.Ground.phase }, { on := 16, ground := Go.Ground.phase }, { on := 17, ground := Go.Ground.phase }, { on := 18, ground := Go.Ground.phase }, { on := 19, ground := Go.Ground.phase }, { on := 20, ground := Go.Ground.phase }, { on := 21, ground := Go.Ground.phase }, { on := 22, ground := Go.Ground.phase }], guard := none }) (v := ?_) rfl (by kernel_rfl) (by kernel_rfl) (by kernel_rfl) (fun _ _ _ h => h) (Or.inl ⟨by rfl, ?_⟩) (by assumption) ?_
  rotate_left
  · intro wS hSw
    (try dsimp only at hSw)
    go_simp
    (try with_reducible rfl)
  (try simp only [Act.put, List.setIfInBounds_toArray, List.set_cons_zero, List.set_cons_succ])
  refine wpAnyH_done (by kernel_rfl) ?_ _
  have HO9 := Lib.hid hP_5.o
  clear hP_5
  go_wp2_with fail
  go_ret
  exact ⟨rfl, HO9.out⟩
end Go.Proofs.Ytcpcaekkdgogmaa
