/- Sums, products and sums of bytes, against the document's. -/
import Derived.Test.YtafbfjnbajdbkaaGh19
import Derived.Test.YtafbfjnbajdbkaaGh11
namespace Go.Proofs.Ytafbfjnbajdbkaa
set_option linter.unusedVariables false
set_option linter.unusedSimpArgs false
open Go.RowKit

theorem exec_load16m {o : Oper} {a : Act} {w : World} {g off : Nat} {C : Array Value} {x : Operand} (ho : o.op = .load 22 x) (hx : a.eval x = .pointer (some ⟨g, off, none⟩)) (h : (loadVar 22 ⟨g, off, none⟩).run Try.prog w = .ok (.agg C) w) : (execOp a.eval o).run Try.prog w = .ok (.value (.agg C)) w := by
  unfold execOp
  simp only [ho, hx, Instr.loadAt, Instr.sureAddr, Sem.run_bind, Sem.run_pure, Result.andThen_ok, h]
theorem two_rows {w : World} {g : Nat} {f h : Nat → Nat} (hB : Blk w g (rowC 16 f ++ rowC 16 h).toArray 23) :
    (loadVar 22 ⟨g, 0, none⟩).run Try.prog w = .ok (.agg (rowC 16 f).toArray) w ∧ (loadVar 22 ⟨g, 16, none⟩).run Try.prog w = .ok (.agg (rowC 16 h).toArray) w := by
  constructor
  · refine run_loadVar_mid w g 0 22 (rowC 16 f) _ (fun j v hv => ?_) Try.underlying22 rfl (by rw [rowC_len]; exact size16a)
    have hj : j < 16 := by
      rcases Nat.lt_or_ge j 16 with h1 | h1
      · exact h1
      · rw [List.getElem?_eq_none (by rw [rowC_len]; exact h1)] at hv; cases hv
    rw [Blk.cell hB, Nat.zero_add, List.getElem?_toArray, List.getElem?_append_left (by rw [rowC_len]; exact hj)]; exact hv
  · refine run_loadVar_mid w g 16 22 (rowC 16 h) _ (fun j v hv => ?_) Try.underlying22 rfl (by rw [rowC_len]; exact size16a)
    rw [Blk.cell hB, List.getElem?_toArray, List.getElem?_append_right (by rw [rowC_len]; omega), rowC_len, Nat.add_sub_cancel_left]; exact hv
/-- Two blocks, told over. -/
def ER1 (w0 : World) (X Y : Array Value) (v7 v8 : Value) (wr : World) : Prop := ∃ g7 g8, v7 = .pointer (some ⟨g7, 0, none⟩) ∧ v8 = .pointer (some ⟨g8, 0, none⟩) ∧ Blk wr g7 X 26 ∧ Blk wr g8 Y 26 ∧ Below w0.heap.size w0 wr
set_option maxRecDepth 100000 in
set_option maxHeartbeats 8000000 in
theorem exact_sure (C : Array Value) (oa ob : Option Addr) (n m cn cm : Nat) (w : World) (hc : 300 < n ∨ 300 < m) :
    Calls Try.prog 3 #[.agg C, .slice oa n cn, .slice ob m cm] w fun e w' => e = .returned (.bool true) ∧ Below w.heap.size w w' := by
  have HB := Lib.hid ((Below.refl w.heap.size w).alloc (Nat.le_refl _) (.cells C 23))
  by_cases h : 300 < n
  · have h1 : (300 : Int) < (n : Int) := by omega
    clear hc
    go_enter Try.func3, Try.ntmps3
    go_wp2_with fail
    refine (sure_any _).mono ?_
    rintro e w' ⟨rfl, hb⟩
    have HB2 := Lib.hid (HB.out.trans (hb.mono HB.out.size))
    clear hb
    go_wp2_with fail
    go_ret
    exact ⟨rfl, HB2.out⟩
  · have h1 : ¬ (300 : Int) < (n : Int) := by omega
    have h3 : 300 < m := hc.resolve_left h
    have h2 : (300 : Int) < (m : Int) := by omega
    clear h3 hc h
    go_enter Try.func3, Try.ntmps3
    go_wp2_with fail
    refine (sure_any _).mono ?_
    rintro e w' ⟨rfl, hb⟩
    have HB2 := Lib.hid (HB.out.trans (hb.mono HB.out.size))
    clear hb
    go_wp2_with fail
    go_ret
    exact ⟨rfl, HB2.out⟩
set_option maxRecDepth 100000 in
set_option maxHeartbeats 8000000 in
theorem exact_main (x y f g : Nat → Nat) (oa ob : Option Addr) (n m cn cm : Nat) (w : World) (hx : ∀ i, i < 16 → x i < 256) (hy : ∀ i, i < 16 → y i < 256) (ha : Bytes w oa n f) (hb : Bytes w ob m g) (hnc : n ≤ cn) (hmc : m ≤ cm) (hcn : cn ≤ maxLen) (hcm : cm ≤ maxLen) (hn : n ≤ 300) (hm : m ≤ 300) :
    Calls Try.prog 3 #[.agg (rowC 16 x ++ rowC 16 y).toArray, .slice oa n cn, .slice ob m cm] w fun e w' => e = .returned (.bool true) ∧ Below w.heap.size w w' := by
  obtain ⟨C, hC⟩ : ∃ C, (rowC 16 x ++ rowC 16 y).toArray = C := ⟨_, rfl⟩
  obtain ⟨X, hX⟩ : ∃ C, (rowC 16 x).toArray = C := ⟨_, rfl⟩
  obtain ⟨Y, hY⟩ : ∃ C, (rowC 16 y).toArray = C := ⟨_, rfl⟩
  obtain ⟨A1, hA1⟩ : ∃ C, (rowC 16 (addF x y)).toArray = C := ⟨_, rfl⟩
  obtain ⟨M1, hM1⟩ : ∃ C, (rowC 16 (mulF x y)).toArray = C := ⟨_, rfl⟩
  obtain ⟨H1, hH1⟩ : ∃ C, (rowC 16 (hashF x f n g m)).toArray = C := ⟨_, rfl⟩
  have HADD := call2 hX hY hA1 fun w => gadd_any x y w hx hy
  have HRADD := call2 hX hY hA1 fun w => radd_any x y w hx hy
  have HMUL := call2 hX hY hM1 fun w => gmul_any x y w hx hy
  have HRMUL := call2 hX hY hM1 fun w => rmul_any x y w hx hy
  have HHASH : Hid (∀ w', Below w.heap.size w w' → Calls Try.prog 11 #[.agg X, .slice oa n cn, .slice ob m cm] w' fun e w'' => e = .returned (.agg H1) ∧ Below w'.heap.size w' w'') := Lib.hid fun w' hb' => by
    rw [← hX, ← hH1]; exact hash_any x f g oa ob n m cn cm w' hx (ha.later hb') (hb.later hb') hnc hmc hcn hcm (by omega) (by omega)
  have HRHASH : Hid (∀ w', Below w.heap.size w w' → Calls Try.prog 12 #[.agg X, .slice oa n cn, .slice ob m cm] w' fun e w'' => e = .returned (.agg H1) ∧ Below w'.heap.size w' w'') := Lib.hid fun w' hb' => by
    rw [← hX, ← hH1]; exact rhash_any x f g oa ob n m cn cm w' hx (ha.later hb') (hb.later hb') (by omega) (by omega)
  have HE1 := eq2 hA1 hA1 (eqF_refl _)
  have HE2 := eq2 hM1 hM1 (eqF_refl _)
  have HE3 := eq2 hH1 hH1 (eqF_refl _)
  have HIX : Hid ((Try.prog.info? 26).map (·.size) = some X.size) := Lib.hid (hX ▸ info16 _)
  have HIY : Hid ((Try.prog.info? 26).map (·.size) = some Y.size) := Lib.hid (hY ▸ info16 _)
  have HCX : Hid (∃ f, X = (rowC 16 f).toArray) := Lib.hid ⟨_, hX.symm⟩
  have HCY : Hid (∃ f, Y = (rowC 16 f).toArray) := Lib.hid ⟨_, hY.symm⟩
  have HC0 : Hid (∃ f, zero16 = (rowC 16 f).toArray) := Lib.hid ⟨_, rfl⟩
  obtain ⟨w0, hw0⟩ : ∃ q, w.alloc (.cells C 23) = q := ⟨_, rfl⟩
  have hB0 : Blk w0 w.heap.size (rowC 16 x ++ rowC 16 y).toArray 23 := by rw [← hw0, ← hC]; exact Blk.new _ _ _
  have hO0 : Below w.heap.size w w0 := by rw [← hw0]; exact (Below.refl _ _).alloc (Nat.le_refl _) _
  have HL0 : Hid (∀ w', Below w0.heap.size w0 w' → (loadVar 22 ⟨w.heap.size, 0, none⟩).run Try.prog w' = .ok (.agg X) w') := Lib.hid fun w' hb' => hX ▸ (two_rows (Blk.below hB0 hb' (Blk.lt hB0))).1
  have HL1 : Hid (∀ w', Below w0.heap.size w0 w' → (loadVar 22 ⟨w.heap.size, 16, none⟩).run Try.prog w' = .ok (.agg Y) w') := Lib.hid fun w' hb' => hY ▸ (two_rows (Blk.below hB0 hb' (Blk.lt hB0))).2
  have HOW : Hid (∀ w', Below w0.heap.size w0 w' → Below w.heap.size w w') := Lib.hid fun w' hb' => hO0.trans (hb'.mono hO0.size)
  have n0 : ¬ (300 : Int) < (n : Int) := by omega
  have m0 : ¬ (300 : Int) < (m : Int) := by omega
  have hz := zero16_run
  rw [hC]
  clear hx hy ha hb hnc hmc hcn hcm hC hX hY hA1 hM1 hH1 hB0 hO0
  go_enter Try.func3, Try.ntmps3
  go_upto_region 3 with fail
  go_cut [7, 8] (ER1 w0 X Y)
  case first =>
    have hP_0 : Below w0.heap.size w0 w0.drew := (Below.refl _ w0).drew
    refine wp_region_held_drew (S := (Below w0.heap.size w0)) (by kernel_rfl) ?_ (fun hHeld => ?_)
    · (try dsimp only)
      first | assumption | (apply Below.drew; assumption)
    generalize w0.drew = w5 at *
    refine wpAnyH_take (i := 0) (oi := { dst := some 18, op := Go.Op.indexAddr 23 (Go.Operand.tmp 3) (Go.Operand.const (Go.Value.int Go.IntKind.i64 0)), type := 0, pos := "law.go:22", after := #[], guard := none }) (v := ?_) rfl (by kernel_rfl) (by kernel_rfl) (by kernel_rfl) (fun _ _ _ h => h) (Or.inl ⟨by rfl, ?_⟩) (by assumption) ?_
    rotate_left
    · intro wS hSw
      (try dsimp only at hSw)
      go_simp
      (try with_reducible rfl)
    (try simp only [Act.put, List.setIfInBounds_toArray, List.set_cons_zero, List.set_cons_succ])
    refine wpAnyH_take (i := 1) (oi := { dst := some 19, op := Go.Op.load 22 (Go.Operand.tmp 18), type := 22, pos := "law.go:22", after := #[{ on := 0, ground := Go.Ground.data }], guard := none }) (v := ?_) rfl (by kernel_rfl) (by kernel_rfl) (by kernel_rfl) (fun _ _ _ h => h) (Or.inl ⟨by rfl, ?_⟩) (by assumption) ?_
    rotate_left
    · intro wS hSw
      refine exec_load16m (x := .tmp 18) (g := w.heap.size) (off := 0) ?_ ?_ (HL0.out _ hSw) <;> rfl
    (try simp only [Act.put, List.setIfInBounds_toArray, List.set_cons_zero, List.set_cons_succ])
    refine wpAnyH_take (i := 2) (oi := { dst := some 20, op := Go.Op.indexAddr 23 (Go.Operand.tmp 3) (Go.Operand.const (Go.Value.int Go.IntKind.i64 1)), type := 0, pos := "law.go:22", after := #[{ on := 6, ground := Go.Ground.gcOnly Go.Departure.lateStores }], guard := none }) (v := ?_) rfl (by kernel_rfl) (by kernel_rfl) (by kernel_rfl) (fun _ _ _ h => h) (Or.inl ⟨by rfl, ?_⟩) (by assumption) ?_
    rotate_left
    · intro wS hSw
      (try dsimp only at hSw)
      go_simp
      (try with_reducible rfl)
    (try simp only [Act.put, List.setIfInBounds_toArray, List.set_cons_zero, List.set_cons_succ])
    refine wpAnyH_take (i := 3) (oi := { dst := some 21, op := Go.Op.load 22 (Go.Operand.tmp 20), type := 22, pos := "law.go:22", after := #[{ on := 2, ground := Go.Ground.data }, { on := 6, ground := Go.Ground.gcOnly Go.Departure.lateStores }], guard := none }) (v := ?_) rfl (by kernel_rfl) (by kernel_rfl) (by kernel_rfl) (fun _ _ _ h => h) (Or.inl ⟨by rfl, ?_⟩) (by assumption) ?_
    rotate_left
    · intro wS hSw
      refine exec_load16m (x := .tmp 20) (g := w.heap.size) (off := 16) ?_ ?_ (HL1.out _ hSw) <;> rfl
    (try simp only [Act.put, List.setIfInBounds_toArray, List.set_cons_zero, List.set_cons_succ])
    refine wpAnyH_ready (rs := [4, 5]) (by kernel_rfl) (by simp) ?_
    refine AllReadyH.cons (o := { dst := some 7, op := Go.Op.alloc 26, type := 0, pos := "law.go:22", after := #[], guard := none }) rfl (fun K hK => ?_) ?_
    · skip
      go_simp
      (obtain ⟨v_1, hw_1⟩ : ∃ q, w5.alloc (.cells zero16 26) = q := ⟨_, rfl⟩; rw [hw_1]; have hb_1 : Below w5.heap.size w5 v_1 := (by rw [← hw_1]; exact (Below.refl _ _).alloc (Nat.le_refl _) _); have HW7 := Lib.hid hP_0.size; have hP_1 := Below.trans hP_0 (hb_1.mono hP_0.size); have hG7_1 : Blk v_1 w5.heap.size zero16 26 := (by rw [← hw_1]; exact Blk.new _ _ _); clear hP_0; clear hb_1 hw_1; skip)
      (try go_wp2_with fail)
      refine hK.out _ _ ?_ (fun hHeld => ?_)
      · (try dsimp only)
        first | assumption | (apply Below.drew; assumption)
      clear hK K
      (try simp only [Act.put, List.setIfInBounds_toArray, List.set_cons_zero, List.set_cons_succ])
      refine wpAnyH_ready (rs := [5]) (by kernel_rfl) (by simp) ?_
      refine AllReadyH.cons (o := { dst := some 8, op := Go.Op.alloc 26, type := 0, pos := "law.go:22", after := #[], guard := none }) rfl (fun K hK => ?_) AllReadyH.nil
      go_simp
      (obtain ⟨v_2, hw_2⟩ : ∃ q, v_1.alloc (.cells zero16 26) = q := ⟨_, rfl⟩; rw [hw_2]; have hb_2 : Below v_1.heap.size v_1 v_2 := (by rw [← hw_2]; exact (Below.refl _ _).alloc (Nat.le_refl _) _); have HW8 := Lib.hid hP_1.size; have HN7x8 : Hid (w5.heap.size ≠ v_1.heap.size) := Lib.hid (Nat.ne_of_lt (Blk.lt hG7_1)); have HN8x7 : Hid (v_1.heap.size ≠ w5.heap.size) := Lib.hid (Nat.ne_of_gt (Blk.lt hG7_1)); have hG7_2 := Blk.below hG7_1 hb_2 (Blk.lt hG7_1); have hP_2 := Below.trans hP_1 (hb_2.mono hP_1.size); have hG8_2 : Blk v_2 v_1.heap.size zero16 26 := (by rw [← hw_2]; exact Blk.new _ _ _); clear hG7_1 hP_1; clear hb_2 hw_2; skip)
      (try go_wp2_with fail)
      refine hK.out _ _ ?_ (fun hHeld => ?_)
      · (try dsimp only)
        first | assumption | (apply Below.drew; assumption)
      clear hK K
      (try simp only [Act.put, List.setIfInBounds_toArray, List.set_cons_zero, List.set_cons_succ])
      refine wpAnyH_ready (rs := [6]) (by kernel_rfl) (by simp) ?_
      refine AllReadyH.cons (o := { dst := none, op := Go.Op.store 26 (Go.Operand.tmp 7) (Go.Operand.tmp 19), type := 0, pos := "law.go:22", after := #[{ on := 4, ground := Go.Ground.data }, { on := 1, ground := Go.Ground.data }, { on := 0, ground := Go.Ground.phase }, { on := 1, ground := Go.Ground.phase }, { on := 2, ground := Go.Ground.textOnly Go.Departure.lateStores }, { on := 3, ground := Go.Ground.textOnly Go.Departure.lateStores }, { on := 4, ground := Go.Ground.phase }, { on := 5, ground := Go.Ground.phase }], guard := none }) rfl (fun K hK => ?_) AllReadyH.nil
      (refine step_store16 rfl (.tmp 7) (.tmp 19) rfl w5.heap.size rfl X zero16 rfl hG7_2 HCX.out HC0.out ?_; have hG7_3 := Blk.store16 hG7_2 HCX.out HC0.out; have hG8_3 := (Own.setCells X.toList 0 v_2).blk hG8_2 HN8x7.out; have hP_3 := Below.set16 (g := w5.heap.size) hP_2 HW7.out hP_2.size X.toList; obtain ⟨v_3, hw_3⟩ : ∃ q, (v_2.setCells w5.heap.size 0 X.toList) = q := ⟨_, rfl⟩; rw [hw_3] at hG7_3 hG8_3 hP_3 ⊢; clear hG7_2 hG8_2 hP_2 hw_3; skip)
      refine hK.out _ _ ?_ (fun hHeld => ?_)
      · (try dsimp only)
        first | assumption | (apply Below.drew; assumption)
      clear hK K
      (try simp only [Act.put, List.setIfInBounds_toArray, List.set_cons_zero, List.set_cons_succ])
      refine wpAnyH_ready (rs := [7]) (by kernel_rfl) (by simp) ?_
      refine AllReadyH.cons (o := { dst := none, op := Go.Op.store 26 (Go.Operand.tmp 8) (Go.Operand.tmp 21), type := 0, pos := "law.go:22", after := #[{ on := 5, ground := Go.Ground.data }, { on := 3, ground := Go.Ground.data }, { on := 6, ground := Go.Ground.chain }, { on := 0, ground := Go.Ground.phase }, { on := 1, ground := Go.Ground.phase }, { on := 2, ground := Go.Ground.phase }, { on := 3, ground := Go.Ground.phase }, { on := 4, ground := Go.Ground.phase }, { on := 5, ground := Go.Ground.phase }, { on := 6, ground := Go.Ground.phase }], guard := none }) rfl (fun K hK => ?_) AllReadyH.nil
      (refine step_store16 rfl (.tmp 8) (.tmp 21) rfl v_1.heap.size rfl Y zero16 rfl hG8_3 HCY.out HC0.out ?_; have hG8_4 := Blk.store16 hG8_3 HCY.out HC0.out; have hG7_4 := (Own.setCells Y.toList 0 v_3).blk hG7_3 HN7x8.out; have hP_4 := Below.set16 (g := v_1.heap.size) hP_3 HW8.out hP_3.size Y.toList; obtain ⟨v_4, hw_4⟩ : ∃ q, (v_3.setCells v_1.heap.size 0 Y.toList) = q := ⟨_, rfl⟩; rw [hw_4] at hG8_4 hG7_4 hP_4 ⊢; clear hG8_3 hG7_3 hP_3 hw_4; skip)
      refine hK.out _ _ ?_ (fun hHeld => ?_)
      · (try dsimp only)
        first | assumption | (apply Below.drew; assumption)
      clear hK K
      (try simp only [Act.put, List.setIfInBounds_toArray, List.set_cons_zero, List.set_cons_succ])
      refine wpAnyH_done (by kernel_rfl) ?_ _
      go_wp2_with fail
      go_meet
      exact ⟨_, _, rfl, rfl, hG7_4, hG8_4, hP_4⟩
    refine AllReadyH.cons (o := { dst := some 8, op := Go.Op.alloc 26, type := 0, pos := "law.go:22", after := #[], guard := none }) rfl (fun K hK => ?_) AllReadyH.nil
    go_simp
    (obtain ⟨v_5, hw_5⟩ : ∃ q, w5.alloc (.cells zero16 26) = q := ⟨_, rfl⟩; rw [hw_5]; have hb_5 : Below w5.heap.size w5 v_5 := (by rw [← hw_5]; exact (Below.refl _ _).alloc (Nat.le_refl _) _); have HW8 := Lib.hid hP_0.size; have hP_5 := Below.trans hP_0 (hb_5.mono hP_0.size); have hG8_5 : Blk v_5 w5.heap.size zero16 26 := (by rw [← hw_5]; exact Blk.new _ _ _); clear hP_0; clear hb_5 hw_5; skip)
    (try go_wp2_with fail)
    refine hK.out _ _ ?_ (fun hHeld => ?_)
    · (try dsimp only)
      first | assumption | (apply Below.drew; assumption)
    clear hK K
    (try simp only [Act.put, List.setIfInBounds_toArray, List.set_cons_zero, List.set_cons_succ])
    refine wpAnyH_ready (rs := [4]) (by kernel_rfl) (by simp) ?_
    refine AllReadyH.cons (o := { dst := some 7, op := Go.Op.alloc 26, type := 0, pos := "law.go:22", after := #[], guard := none }) rfl (fun K hK => ?_) AllReadyH.nil
    go_simp
    (obtain ⟨v_6, hw_6⟩ : ∃ q, v_5.alloc (.cells zero16 26) = q := ⟨_, rfl⟩; rw [hw_6]; have hb_6 : Below v_5.heap.size v_5 v_6 := (by rw [← hw_6]; exact (Below.refl _ _).alloc (Nat.le_refl _) _); have HW7 := Lib.hid hP_5.size; have HN8x7 : Hid (w5.heap.size ≠ v_5.heap.size) := Lib.hid (Nat.ne_of_lt (Blk.lt hG8_5)); have HN7x8 : Hid (v_5.heap.size ≠ w5.heap.size) := Lib.hid (Nat.ne_of_gt (Blk.lt hG8_5)); have hG8_6 := Blk.below hG8_5 hb_6 (Blk.lt hG8_5); have hP_6 := Below.trans hP_5 (hb_6.mono hP_5.size); have hG7_6 : Blk v_6 v_5.heap.size zero16 26 := (by rw [← hw_6]; exact Blk.new _ _ _); clear hG8_5 hP_5; clear hb_6 hw_6; skip)
    (try go_wp2_with fail)
    refine hK.out _ _ ?_ (fun hHeld => ?_)
    · (try dsimp only)
      first | assumption | (apply Below.drew; assumption)
    clear hK K
    (try simp only [Act.put, List.setIfInBounds_toArray, List.set_cons_zero, List.set_cons_succ])
    refine wpAnyH_ready (rs := [6]) (by kernel_rfl) (by simp) ?_
    refine AllReadyH.cons (o := { dst := none, op := Go.Op.store 26 (Go.Operand.tmp 7) (Go.Operand.tmp 19), type := 0, pos := "law.go:22", after := #[{ on := 4, ground := Go.Ground.data }, { on := 1, ground := Go.Ground.data }, { on := 0, ground := Go.Ground.phase }, { on := 1, ground := Go.Ground.phase }, { on := 2, ground := Go.Ground.textOnly Go.Departure.lateStores }, { on := 3, ground := Go.Ground.textOnly Go.Departure.lateStores }, { on := 4, ground := Go.Ground.phase }, { on := 5, ground := Go.Ground.phase }], guard := none }) rfl (fun K hK => ?_) AllReadyH.nil
    (refine step_store16 rfl (.tmp 7) (.tmp 19) rfl v_5.heap.size rfl X zero16 rfl hG7_6 HCX.out HC0.out ?_; have hG7_7 := Blk.store16 hG7_6 HCX.out HC0.out; have hG8_7 := (Own.setCells X.toList 0 v_6).blk hG8_6 HN8x7.out; have hP_7 := Below.set16 (g := v_5.heap.size) hP_6 HW7.out hP_6.size X.toList; obtain ⟨v_7, hw_7⟩ : ∃ q, (v_6.setCells v_5.heap.size 0 X.toList) = q := ⟨_, rfl⟩; rw [hw_7] at hG7_7 hG8_7 hP_7 ⊢; clear hG7_6 hG8_6 hP_6 hw_7; skip)
    refine hK.out _ _ ?_ (fun hHeld => ?_)
    · (try dsimp only)
      first | assumption | (apply Below.drew; assumption)
    clear hK K
    (try simp only [Act.put, List.setIfInBounds_toArray, List.set_cons_zero, List.set_cons_succ])
    refine wpAnyH_ready (rs := [7]) (by kernel_rfl) (by simp) ?_
    refine AllReadyH.cons (o := { dst := none, op := Go.Op.store 26 (Go.Operand.tmp 8) (Go.Operand.tmp 21), type := 0, pos := "law.go:22", after := #[{ on := 5, ground := Go.Ground.data }, { on := 3, ground := Go.Ground.data }, { on := 6, ground := Go.Ground.chain }, { on := 0, ground := Go.Ground.phase }, { on := 1, ground := Go.Ground.phase }, { on := 2, ground := Go.Ground.phase }, { on := 3, ground := Go.Ground.phase }, { on := 4, ground := Go.Ground.phase }, { on := 5, ground := Go.Ground.phase }, { on := 6, ground := Go.Ground.phase }], guard := none }) rfl (fun K hK => ?_) AllReadyH.nil
    (refine step_store16 rfl (.tmp 8) (.tmp 21) rfl w5.heap.size rfl Y zero16 rfl hG8_7 HCY.out HC0.out ?_; have hG8_8 := Blk.store16 hG8_7 HCY.out HC0.out; have hG7_8 := (Own.setCells Y.toList 0 v_7).blk hG7_7 HN7x8.out; have hP_8 := Below.set16 (g := w5.heap.size) hP_7 HW8.out hP_7.size Y.toList; obtain ⟨v_8, hw_8⟩ : ∃ q, (v_7.setCells w5.heap.size 0 Y.toList) = q := ⟨_, rfl⟩; rw [hw_8] at hG8_8 hG7_8 hP_8 ⊢; clear hG8_7 hG7_7 hP_7 hw_8; skip)
    refine hK.out _ _ ?_ (fun hHeld => ?_)
    · (try dsimp only)
      first | assumption | (apply Below.drew; assumption)
    clear hK K
    (try simp only [Act.put, List.setIfInBounds_toArray, List.set_cons_zero, List.set_cons_succ])
    refine wpAnyH_done (by kernel_rfl) ?_ _
    go_wp2_with fail
    go_meet
    exact ⟨_, _, rfl, rfl, hG7_8, hG8_8, hP_8⟩
  case rest =>
    obtain ⟨g7, g8, rfl, rfl, h7, h8, hP⟩ := hcut
    have H7 : Hid (∀ w', Below wc.heap.size wc w' → Blk w' g7 X 26) := Lib.hid fun w' hb' => Blk.below h7 hb' (Blk.lt h7)
    have H8 : Hid (∀ w', Below wc.heap.size wc w' → Blk w' g8 Y 26) := Lib.hid fun w' hb' => Blk.below h8 hb' (Blk.lt h8)
    have HPW : Hid (∀ w', Below wc.heap.size wc w' → Below w0.heap.size w0 w') := Lib.hid fun w' hb' => hP.trans (hb'.mono hP.size)
    clear h7 h8 hP hw0
    go_wp2_with fail
    have hP_0 : Below wc.heap.size wc wc.drew := (Below.refl _ wc).drew
    refine wp_region_held_drew (S := (Below wc.heap.size wc)) (by kernel_rfl) ?_ (fun hHeld => ?_)
    · (try dsimp only)
      first | assumption | (apply Below.drew; assumption)
    generalize wc.drew = w5 at *
    refine wpAnyH_take (i := 0) (oi := { dst := some 22, op := Go.Op.load 26 (Go.Operand.tmp 7), type := 26, pos := "law.go:23", after := #[], guard := none }) (v := ?_) rfl (by kernel_rfl) (by kernel_rfl) (by kernel_rfl) (fun _ _ _ h => h) (Or.inl ⟨by rfl, ?_⟩) (by assumption) ?_
    rotate_left
    · intro wS hSw
      refine exec_load16 (x := .tmp 7) ?_ ?_ (ld16 (H7.out _ hSw) HIX.out) <;> rfl
    (try simp only [Act.put, List.setIfInBounds_toArray, List.set_cons_zero, List.set_cons_succ])
    refine wpAnyH_take (i := 1) (oi := { dst := some 23, op := Go.Op.load 26 (Go.Operand.tmp 8), type := 26, pos := "law.go:23", after := #[], guard := none }) (v := ?_) rfl (by kernel_rfl) (by kernel_rfl) (by kernel_rfl) (fun _ _ _ h => h) (Or.inl ⟨by rfl, ?_⟩) (by assumption) ?_
    rotate_left
    · intro wS hSw
      refine exec_load16 (x := .tmp 8) ?_ ?_ (ld16 (H8.out _ hSw) HIY.out) <;> rfl
    (try simp only [Act.put, List.setIfInBounds_toArray, List.set_cons_zero, List.set_cons_succ])
    refine wpAnyH_take (i := 3) (oi := { dst := some 25, op := Go.Op.indexAddr 23 (Go.Operand.tmp 3) (Go.Operand.const (Go.Value.int Go.IntKind.i64 0)), type := 0, pos := "law.go:23", after := #[], guard := none }) (v := ?_) rfl (by kernel_rfl) (by kernel_rfl) (by kernel_rfl) (fun _ _ _ h => h) (Or.inl ⟨by rfl, ?_⟩) (by assumption) ?_
    rotate_left
    · intro wS hSw
      (try dsimp only at hSw)
      go_simp
      (try with_reducible rfl)
    (try simp only [Act.put, List.setIfInBounds_toArray, List.set_cons_zero, List.set_cons_succ])
    refine wpAnyH_take (i := 4) (oi := { dst := some 26, op := Go.Op.load 22 (Go.Operand.tmp 25), type := 22, pos := "law.go:23", after := #[{ on := 3, ground := Go.Ground.data }], guard := none }) (v := ?_) rfl (by kernel_rfl) (by kernel_rfl) (by kernel_rfl) (fun _ _ _ h => h) (Or.inl ⟨by rfl, ?_⟩) (by assumption) ?_
    rotate_left
    · intro wS hSw
      refine exec_load16m (x := .tmp 25) (g := w.heap.size) (off := 0) ?_ ?_ (HL0.out _ (HPW.out _ hSw)) <;> rfl
    (try simp only [Act.put, List.setIfInBounds_toArray, List.set_cons_zero, List.set_cons_succ])
    refine wpAnyH_take (i := 5) (oi := { dst := some 27, op := Go.Op.indexAddr 23 (Go.Operand.tmp 3) (Go.Operand.const (Go.Value.int Go.IntKind.i64 1)), type := 0, pos := "law.go:23", after := #[], guard := none }) (v := ?_) rfl (by kernel_rfl) (by kernel_rfl) (by kernel_rfl) (fun _ _ _ h => h) (Or.inl ⟨by rfl, ?_⟩) (by assumption) ?_
    rotate_left
    · intro wS hSw
      (try dsimp only at hSw)
      go_simp
      (try with_reducible rfl)
    (try simp only [Act.put, List.setIfInBounds_toArray, List.set_cons_zero, List.set_cons_succ])
    refine wpAnyH_take (i := 6) (oi := { dst := some 28, op := Go.Op.load 22 (Go.Operand.tmp 27), type := 22, pos := "law.go:23", after := #[{ on := 5, ground := Go.Ground.data }], guard := none }) (v := ?_) rfl (by kernel_rfl) (by kernel_rfl) (by kernel_rfl) (fun _ _ _ h => h) (Or.inl ⟨by rfl, ?_⟩) (by assumption) ?_
    rotate_left
    · intro wS hSw
      refine exec_load16m (x := .tmp 27) (g := w.heap.size) (off := 16) ?_ ?_ (HL1.out _ (HPW.out _ hSw)) <;> rfl
    (try simp only [Act.put, List.setIfInBounds_toArray, List.set_cons_zero, List.set_cons_succ])
    refine wpAnyH_ready (rs := [2]) (by kernel_rfl) (by simp) ?_
    refine AllReadyH.cons (o := { dst := some 24, op := Go.Op.call { callee := Go.Callee.value (Go.Operand.func 7), args := #[Go.Operand.tmp 22, Go.Operand.tmp 23], argTypes := #[26, 26] }, type := 26, pos := "law.go:23", after := #[{ on := 0, ground := Go.Ground.data }, { on := 1, ground := Go.Ground.data }], guard := none }) rfl (fun K hK => ?_) AllReadyH.nil
    go_simp
    (refine (HADD.out _).mono ?_; rintro e v_9 ⟨rfl, hb_9⟩; have hP_9 := Below.trans hP_0 (hb_9.mono hP_0.size); clear hP_0; clear hb_9; skip)
    (try go_wp2_with fail)
    refine hK.out _ _ ?_ (fun hHeld => ?_)
    · (try dsimp only)
      first | assumption | (apply Below.drew; assumption)
    clear hK K
    (try simp only [Act.put, List.setIfInBounds_toArray, List.set_cons_zero, List.set_cons_succ])
    refine wpAnyH_ready (rs := [7]) (by kernel_rfl) (by simp) ?_
    refine AllReadyH.cons (o := { dst := some 29, op := Go.Op.call { callee := Go.Callee.value (Go.Operand.func 8), args := #[Go.Operand.tmp 26, Go.Operand.tmp 28], argTypes := #[22, 22] }, type := 22, pos := "law.go:23", after := #[{ on := 4, ground := Go.Ground.data }, { on := 6, ground := Go.Ground.data }, { on := 2, ground := Go.Ground.chain }], guard := none }) rfl (fun K hK => ?_) AllReadyH.nil
    go_simp
    (refine (HRADD.out _).mono ?_; rintro e v_10 ⟨rfl, hb_10⟩; have hP_10 := Below.trans hP_9 (hb_10.mono hP_9.size); clear hP_9; clear hb_10; skip)
    (try go_wp2_with fail)
    refine hK.out _ _ ?_ (fun hHeld => ?_)
    · (try dsimp only)
      first | assumption | (apply Below.drew; assumption)
    clear hK K
    (try simp only [Act.put, List.setIfInBounds_toArray, List.set_cons_zero, List.set_cons_succ])
    refine wpAnyH_take (i := 8) (oi := { dst := some 30, op := Go.Op.binOp Go.BinOp.eql 26 (Go.Operand.tmp 24) (Go.Operand.tmp 29) 26, type := 4, pos := "law.go:23", after := #[{ on := 2, ground := Go.Ground.data }, { on := 7, ground := Go.Ground.data }], guard := none }) (v := ?_) rfl (by kernel_rfl) (by kernel_rfl) (by kernel_rfl) (fun _ _ _ h => h) (Or.inl ⟨by rfl, ?_⟩) (by assumption) ?_
    rotate_left
    · intro wS hSw
      refine exec_eql16 (r := 26) (x := .tmp 24) (y := .tmp 29) ?_ ?_ ?_ HE1.out <;> rfl
    (try simp only [Act.put, List.setIfInBounds_toArray, List.set_cons_zero, List.set_cons_succ])
    refine wpAnyH_take (i := 9) (oi := { dst := some 31, op := Go.Op.move (Go.Operand.tmp 30), type := 4, pos := "law.go:23", after := #[{ on := 8, ground := Go.Ground.data }, { on := 7, ground := Go.Ground.chain }], guard := none }) (v := ?_) rfl (by kernel_rfl) (by kernel_rfl) (by kernel_rfl) (fun _ _ _ h => h) (Or.inl ⟨by rfl, ?_⟩) (by assumption) ?_
    rotate_left
    · intro wS hSw
      (try dsimp only at hSw)
      go_simp
      (try with_reducible rfl)
    (try simp only [Act.put, List.setIfInBounds_toArray, List.set_cons_zero, List.set_cons_succ])
    refine wpAnyH_take (i := 10) (oi := { dst := some 32, op := Go.Op.load 26 (Go.Operand.tmp 7), type := 26, pos := "law.go:23", after := #[{ on := 9, ground := Go.Ground.guard }], guard := some (9, true) }) (v := ?_) rfl (by kernel_rfl) (by kernel_rfl) (by kernel_rfl) (fun _ _ _ h => h) (Or.inl ⟨by rfl, ?_⟩) (by assumption) ?_
    rotate_left
    · intro wS hSw
      refine exec_load16 (x := .tmp 7) ?_ ?_ (ld16 (H7.out _ hSw) HIX.out) <;> rfl
    (try simp only [Act.put, List.setIfInBounds_toArray, List.set_cons_zero, List.set_cons_succ])
    refine wpAnyH_take (i := 11) (oi := { dst := some 33, op := Go.Op.load 26 (Go.Operand.tmp 8), type := 26, pos := "law.go:23", after := #[{ on := 9, ground := Go.Ground.guard }], guard := some (9, true) }) (v := ?_) rfl (by kernel_rfl) (by kernel_rfl) (by kernel_rfl) (fun _ _ _ h => h) (Or.inl ⟨by rfl, ?_⟩) (by assumption) ?_
    rotate_left
    · intro wS hSw
      refine exec_load16 (x := .tmp 8) ?_ ?_ (ld16 (H8.out _ hSw) HIY.out) <;> rfl
    (try simp only [Act.put, List.setIfInBounds_toArray, List.set_cons_zero, List.set_cons_succ])
    refine wpAnyH_take (i := 13) (oi := { dst := some 35, op := Go.Op.indexAddr 23 (Go.Operand.tmp 3) (Go.Operand.const (Go.Value.int Go.IntKind.i64 0)), type := 0, pos := "law.go:23", after := #[{ on := 9, ground := Go.Ground.guard }], guard := some (9, true) }) (v := ?_) rfl (by kernel_rfl) (by kernel_rfl) (by kernel_rfl) (fun _ _ _ h => h) (Or.inl ⟨by rfl, ?_⟩) (by assumption) ?_
    rotate_left
    · intro wS hSw
      (try dsimp only at hSw)
      go_simp
      (try with_reducible rfl)
    (try simp only [Act.put, List.setIfInBounds_toArray, List.set_cons_zero, List.set_cons_succ])
    refine wpAnyH_take (i := 14) (oi := { dst := some 36, op := Go.Op.load 22 (Go.Operand.tmp 35), type := 22, pos := "law.go:23", after := #[{ on := 13, ground := Go.Ground.data }, { on := 9, ground := Go.Ground.guard }], guard := some (9, true) }) (v := ?_) rfl (by kernel_rfl) (by kernel_rfl) (by kernel_rfl) (fun _ _ _ h => h) (Or.inl ⟨by rfl, ?_⟩) (by assumption) ?_
    rotate_left
    · intro wS hSw
      refine exec_load16m (x := .tmp 35) (g := w.heap.size) (off := 0) ?_ ?_ (HL0.out _ (HPW.out _ hSw)) <;> rfl
    (try simp only [Act.put, List.setIfInBounds_toArray, List.set_cons_zero, List.set_cons_succ])
    refine wpAnyH_take (i := 15) (oi := { dst := some 37, op := Go.Op.indexAddr 23 (Go.Operand.tmp 3) (Go.Operand.const (Go.Value.int Go.IntKind.i64 1)), type := 0, pos := "law.go:23", after := #[{ on := 9, ground := Go.Ground.guard }], guard := some (9, true) }) (v := ?_) rfl (by kernel_rfl) (by kernel_rfl) (by kernel_rfl) (fun _ _ _ h => h) (Or.inl ⟨by rfl, ?_⟩) (by assumption) ?_
    rotate_left
    · intro wS hSw
      (try dsimp only at hSw)
      go_simp
      (try with_reducible rfl)
    (try simp only [Act.put, List.setIfInBounds_toArray, List.set_cons_zero, List.set_cons_succ])
    refine wpAnyH_take (i := 16) (oi := { dst := some 38, op := Go.Op.load 22 (Go.Operand.tmp 37), type := 22, pos := "law.go:23", after := #[{ on := 15, ground := Go.Ground.data }, { on := 9, ground := Go.Ground.guard }], guard := some (9, true) }) (v := ?_) rfl (by kernel_rfl) (by kernel_rfl) (by kernel_rfl) (fun _ _ _ h => h) (Or.inl ⟨by rfl, ?_⟩) (by assumption) ?_
    rotate_left
    · intro wS hSw
      refine exec_load16m (x := .tmp 37) (g := w.heap.size) (off := 16) ?_ ?_ (HL1.out _ (HPW.out _ hSw)) <;> rfl
    (try simp only [Act.put, List.setIfInBounds_toArray, List.set_cons_zero, List.set_cons_succ])
    refine wpAnyH_ready (rs := [12]) (by kernel_rfl) (by simp) ?_
    refine AllReadyH.cons (o := { dst := some 34, op := Go.Op.call { callee := Go.Callee.value (Go.Operand.func 9), args := #[Go.Operand.tmp 32, Go.Operand.tmp 33], argTypes := #[26, 26] }, type := 26, pos := "law.go:23", after := #[{ on := 10, ground := Go.Ground.data }, { on := 11, ground := Go.Ground.data }, { on := 9, ground := Go.Ground.chain }, { on := 9, ground := Go.Ground.guard }], guard := some (9, true) }) rfl (fun K hK => ?_) AllReadyH.nil
    go_simp
    (refine (HMUL.out _).mono ?_; rintro e v_11 ⟨rfl, hb_11⟩; have hP_11 := Below.trans hP_10 (hb_11.mono hP_10.size); clear hP_10; clear hb_11; skip)
    (try go_wp2_with fail)
    refine hK.out _ _ ?_ (fun hHeld => ?_)
    · (try dsimp only)
      first | assumption | (apply Below.drew; assumption)
    clear hK K
    (try simp only [Act.put, List.setIfInBounds_toArray, List.set_cons_zero, List.set_cons_succ])
    refine wpAnyH_ready (rs := [17]) (by kernel_rfl) (by simp) ?_
    refine AllReadyH.cons (o := { dst := some 39, op := Go.Op.call { callee := Go.Callee.value (Go.Operand.func 10), args := #[Go.Operand.tmp 36, Go.Operand.tmp 38], argTypes := #[22, 22] }, type := 22, pos := "law.go:23", after := #[{ on := 14, ground := Go.Ground.data }, { on := 16, ground := Go.Ground.data }, { on := 12, ground := Go.Ground.chain }, { on := 9, ground := Go.Ground.guard }], guard := some (9, true) }) rfl (fun K hK => ?_) AllReadyH.nil
    go_simp
    (refine (HRMUL.out _).mono ?_; rintro e v_12 ⟨rfl, hb_12⟩; have hP_12 := Below.trans hP_11 (hb_12.mono hP_11.size); clear hP_11; clear hb_12; skip)
    (try go_wp2_with fail)
    refine hK.out _ _ ?_ (fun hHeld => ?_)
    · (try dsimp only)
      first | assumption | (apply Below.drew; assumption)
    clear hK K
    (try simp only [Act.put, List.setIfInBounds_toArray, List.set_cons_zero, List.set_cons_succ])
    refine wpAnyH_take (i := 18) (oi := { dst := some 40, op := Go.Op.binOp Go.BinOp.eql 26 (Go.Operand.tmp 34) (Go.Operand.tmp 39) 26, type := 4, pos := "law.go:23", after := #[{ on := 12, ground := Go.Ground.data }, { on := 17, ground := Go.Ground.data }, { on := 9, ground := Go.Ground.guard }], guard := some (9, true) }) (v := ?_) rfl (by kernel_rfl) (by kernel_rfl) (by kernel_rfl) (fun _ _ _ h => h) (Or.inl ⟨by rfl, ?_⟩) (by assumption) ?_
    rotate_left
    · intro wS hSw
      refine exec_eql16 (r := 26) (x := .tmp 34) (y := .tmp 39) ?_ ?_ ?_ HE2.out <;> rfl
    (try simp only [Act.put, List.setIfInBounds_toArray, List.set_cons_zero, List.set_cons_succ])
    refine wpAnyH_take (i := 19) (oi := { dst := some 41, op := Go.Op.pick (Go.Operand.tmp 31) (Go.Operand.tmp 40) (Go.Operand.const (Go.Value.bool false)), type := 4, pos := "law.go:23", after := #[{ on := 9, ground := Go.Ground.data }, { on := 18, ground := Go.Ground.data }], guard := none }) (v := ?_) rfl (by kernel_rfl) (by kernel_rfl) (by kernel_rfl) (fun _ _ _ h => h) (Or.inl ⟨by rfl, ?_⟩) (by assumption) ?_
    rotate_left
    · intro wS hSw
      (try dsimp only at hSw)
      go_simp
      (try with_reducible rfl)
    (try simp only [Act.put, List.setIfInBounds_toArray, List.set_cons_zero, List.set_cons_succ])
    refine wpAnyH_take (i := 20) (oi := { dst := some 42, op := Go.Op.move (Go.Operand.tmp 41), type := 4, pos := "law.go:23", after := #[{ on := 19, ground := Go.Ground.data }, { on := 17, ground := Go.Ground.chain }], guard := none }) (v := ?_) rfl (by kernel_rfl) (by kernel_rfl) (by kernel_rfl) (fun _ _ _ h => h) (Or.inl ⟨by rfl, ?_⟩) (by assumption) ?_
    rotate_left
    · intro wS hSw
      (try dsimp only at hSw)
      go_simp
      (try with_reducible rfl)
    (try simp only [Act.put, List.setIfInBounds_toArray, List.set_cons_zero, List.set_cons_succ])
    refine wpAnyH_take (i := 21) (oi := { dst := some 43, op := Go.Op.load 26 (Go.Operand.tmp 7), type := 26, pos := "law.go:23", after := #[{ on := 20, ground := Go.Ground.guard }], guard := some (20, true) }) (v := ?_) rfl (by kernel_rfl) (by kernel_rfl) (by kernel_rfl) (fun _ _ _ h => h) (Or.inl ⟨by rfl, ?_⟩) (by assumption) ?_
    rotate_left
    · intro wS hSw
      refine exec_load16 (x := .tmp 7) ?_ ?_ (ld16 (H7.out _ hSw) HIX.out) <;> rfl
    (try simp only [Act.put, List.setIfInBounds_toArray, List.set_cons_zero, List.set_cons_succ])
    refine wpAnyH_take (i := 22) (oi := { dst := some 44, op := Go.Op.move (Go.Operand.tmp 1), type := 24, pos := "law.go:23", after := #[{ on := 20, ground := Go.Ground.guard }], guard := some (20, true) }) (v := ?_) rfl (by kernel_rfl) (by kernel_rfl) (by kernel_rfl) (fun _ _ _ h => h) (Or.inl ⟨by rfl, ?_⟩) (by assumption) ?_
    rotate_left
    · intro wS hSw
      (try dsimp only at hSw)
      go_simp
      (try with_reducible rfl)
    (try simp only [Act.put, List.setIfInBounds_toArray, List.set_cons_zero, List.set_cons_succ])
    refine wpAnyH_take (i := 23) (oi := { dst := some 45, op := Go.Op.move (Go.Operand.tmp 2), type := 24, pos := "law.go:23", after := #[{ on := 20, ground := Go.Ground.guard }], guard := some (20, true) }) (v := ?_) rfl (by kernel_rfl) (by kernel_rfl) (by kernel_rfl) (fun _ _ _ h => h) (Or.inl ⟨by rfl, ?_⟩) (by assumption) ?_
    rotate_left
    · intro wS hSw
      (try dsimp only at hSw)
      go_simp
      (try with_reducible rfl)
    (try simp only [Act.put, List.setIfInBounds_toArray, List.set_cons_zero, List.set_cons_succ])
    refine wpAnyH_take (i := 25) (oi := { dst := some 47, op := Go.Op.indexAddr 23 (Go.Operand.tmp 3) (Go.Operand.const (Go.Value.int Go.IntKind.i64 0)), type := 0, pos := "law.go:23", after := #[{ on := 20, ground := Go.Ground.guard }], guard := some (20, true) }) (v := ?_) rfl (by kernel_rfl) (by kernel_rfl) (by kernel_rfl) (fun _ _ _ h => h) (Or.inl ⟨by rfl, ?_⟩) (by assumption) ?_
    rotate_left
    · intro wS hSw
      (try dsimp only at hSw)
      go_simp
      (try with_reducible rfl)
    (try simp only [Act.put, List.setIfInBounds_toArray, List.set_cons_zero, List.set_cons_succ])
    refine wpAnyH_take (i := 26) (oi := { dst := some 48, op := Go.Op.load 22 (Go.Operand.tmp 47), type := 22, pos := "law.go:23", after := #[{ on := 25, ground := Go.Ground.data }, { on := 20, ground := Go.Ground.guard }], guard := some (20, true) }) (v := ?_) rfl (by kernel_rfl) (by kernel_rfl) (by kernel_rfl) (fun _ _ _ h => h) (Or.inl ⟨by rfl, ?_⟩) (by assumption) ?_
    rotate_left
    · intro wS hSw
      refine exec_load16m (x := .tmp 47) (g := w.heap.size) (off := 0) ?_ ?_ (HL0.out _ (HPW.out _ hSw)) <;> rfl
    (try simp only [Act.put, List.setIfInBounds_toArray, List.set_cons_zero, List.set_cons_succ])
    refine wpAnyH_take (i := 27) (oi := { dst := some 49, op := Go.Op.move (Go.Operand.tmp 1), type := 24, pos := "law.go:23", after := #[{ on := 20, ground := Go.Ground.guard }], guard := some (20, true) }) (v := ?_) rfl (by kernel_rfl) (by kernel_rfl) (by kernel_rfl) (fun _ _ _ h => h) (Or.inl ⟨by rfl, ?_⟩) (by assumption) ?_
    rotate_left
    · intro wS hSw
      (try dsimp only at hSw)
      go_simp
      (try with_reducible rfl)
    (try simp only [Act.put, List.setIfInBounds_toArray, List.set_cons_zero, List.set_cons_succ])
    refine wpAnyH_take (i := 28) (oi := { dst := some 50, op := Go.Op.move (Go.Operand.tmp 2), type := 24, pos := "law.go:23", after := #[{ on := 20, ground := Go.Ground.guard }], guard := some (20, true) }) (v := ?_) rfl (by kernel_rfl) (by kernel_rfl) (by kernel_rfl) (fun _ _ _ h => h) (Or.inl ⟨by rfl, ?_⟩) (by assumption) ?_
    rotate_left
    · intro wS hSw
      (try dsimp only at hSw)
      go_simp
      (try with_reducible rfl)
    (try simp only [Act.put, List.setIfInBounds_toArray, List.set_cons_zero, List.set_cons_succ])
    refine wpAnyH_ready (rs := [24]) (by kernel_rfl) (by simp) ?_
    refine AllReadyH.cons (o := { dst := some 46, op := Go.Op.call { callee := Go.Callee.value (Go.Operand.func 11), args := #[Go.Operand.tmp 43, Go.Operand.tmp 44, Go.Operand.tmp 45], argTypes := #[26, 24, 24] }, type := 26, pos := "law.go:23", after := #[{ on := 21, ground := Go.Ground.data }, { on := 22, ground := Go.Ground.data }, { on := 23, ground := Go.Ground.data }, { on := 20, ground := Go.Ground.chain }, { on := 20, ground := Go.Ground.guard }], guard := some (20, true) }) rfl (fun K hK => ?_) AllReadyH.nil
    go_simp
    (refine (HHASH.out _ (HOW.out _ (HPW.out _ hP_12))).mono ?_; rintro e v_13 ⟨rfl, hb_13⟩; have hP_13 := Below.trans hP_12 (hb_13.mono hP_12.size); clear hP_12; clear hb_13; skip)
    (try go_wp2_with fail)
    refine hK.out _ _ ?_ (fun hHeld => ?_)
    · (try dsimp only)
      first | assumption | (apply Below.drew; assumption)
    clear hK K
    (try simp only [Act.put, List.setIfInBounds_toArray, List.set_cons_zero, List.set_cons_succ])
    refine wpAnyH_ready (rs := [29]) (by kernel_rfl) (by simp) ?_
    refine AllReadyH.cons (o := { dst := some 51, op := Go.Op.call { callee := Go.Callee.value (Go.Operand.func 12), args := #[Go.Operand.tmp 48, Go.Operand.tmp 49, Go.Operand.tmp 50], argTypes := #[22, 24, 24] }, type := 22, pos := "law.go:23", after := #[{ on := 26, ground := Go.Ground.data }, { on := 27, ground := Go.Ground.data }, { on := 28, ground := Go.Ground.data }, { on := 24, ground := Go.Ground.chain }, { on := 20, ground := Go.Ground.guard }], guard := some (20, true) }) rfl (fun K hK => ?_) AllReadyH.nil
    go_simp
    (refine (HRHASH.out _ (HOW.out _ (HPW.out _ hP_13))).mono ?_; rintro e v_14 ⟨rfl, hb_14⟩; have hP_14 := Below.trans hP_13 (hb_14.mono hP_13.size); clear hP_13; clear hb_14; skip)
    (try go_wp2_with fail)
    refine hK.out _ _ ?_ (fun hHeld => ?_)
    · (try dsimp only)
      first | assumption | (apply Below.drew; assumption)
    clear hK K
    (try simp only [Act.put, List.setIfInBounds_toArray, List.set_cons_zero, List.set_cons_succ])
    refine wpAnyH_take (i := 30) (oi := { dst := some 52, op := Go.Op.binOp Go.BinOp.eql 26 (Go.Operand.tmp 46) (Go.Operand.tmp 51) 26, type := 4, pos := "law.go:23", after := #[{ on := 24, ground := Go.Ground.data }, { on := 29, ground := Go.Ground.data }, { on := 20, ground := Go.Ground.guard }], guard := some (20, true) }) (v := ?_) rfl (by kernel_rfl) (by kernel_rfl) (by kernel_rfl) (fun _ _ _ h => h) (Or.inl ⟨by rfl, ?_⟩) (by assumption) ?_
    rotate_left
    · intro wS hSw
      refine exec_eql16 (r := 26) (x := .tmp 46) (y := .tmp 51) ?_ ?_ ?_ HE3.out <;> rfl
    (try simp only [Act.put, List.setIfInBounds_toArray, List.set_cons_zero, List.set_cons_succ])
    refine wpAnyH_take (i := 31) (oi := { dst := some 53, op := Go.Op.pick (Go.Operand.tmp 42) (Go.Operand.tmp 52) (Go.Operand.const (Go.Value.bool false)), type := 4, pos := "law.go:23", after := #[{ on := 20, ground := Go.Ground.data }, { on := 30, ground := Go.Ground.data }], guard := none }) (v := ?_) rfl (by kernel_rfl) (by kernel_rfl) (by kernel_rfl) (fun _ _ _ h => h) (Or.inl ⟨by rfl, ?_⟩) (by assumption) ?_
    rotate_left
    · intro wS hSw
      (try dsimp only at hSw)
      go_simp
      (try with_reducible rfl)
    (try simp only [Act.put, List.setIfInBounds_toArray, List.set_cons_zero, List.set_cons_succ])
    refine wpAnyH_take (i := 32) (oi := { dst := some 54, op := Go.Op.move (Go.Operand.tmp 53), type := 4, pos := "law.go:23", after := #[{ on := 31, ground := Go.Ground.data }, { on := 29, ground := Go.Ground.chain }], guard := none }) (v := ?_) rfl (by kernel_rfl) (by kernel_rfl) (by kernel_rfl) (fun _ _ _ h => h) (Or.inl ⟨by rfl, ?_⟩) (by assumption) ?_
    rotate_left
    · intro wS hSw
      (try dsimp only at hSw)
      go_simp
      (try with_reducible rfl)
    (try simp only [Act.put, List.setIfInBounds_toArray, List.set_cons_zero, List.set_cons_succ])
    refine wpAnyH_ready (rs := [33]) (by kernel_rfl) (by simp) ?_
    refine AllReadyH.cons (o := { dst := some 55, op := Go.Op.call { callee := Go.Callee.value (Go.Operand.func 6), args := #[], argTypes := #[] }, type := 4, pos := "law.go:23", after := #[{ on := 32, ground := Go.Ground.chain }, { on := 32, ground := Go.Ground.guard }], guard := some (32, true) }) rfl (fun K hK => ?_) AllReadyH.nil
    go_simp
    (refine (sure_any _).mono ?_; rintro e v_15 ⟨rfl, hb_15⟩; have hP_15 := Below.trans hP_14 (hb_15.mono hP_14.size); clear hP_14; clear hb_15; skip)
    (try go_wp2_with fail)
    refine hK.out _ _ ?_ (fun hHeld => ?_)
    · (try dsimp only)
      first | assumption | (apply Below.drew; assumption)
    clear hK K
    (try simp only [Act.put, List.setIfInBounds_toArray, List.set_cons_zero, List.set_cons_succ])
    refine wpAnyH_take (i := 34) (oi := { dst := some 56, op := Go.Op.pick (Go.Operand.tmp 54) (Go.Operand.tmp 55) (Go.Operand.const (Go.Value.bool false)), type := 4, pos := "law.go:23", after := #[{ on := 32, ground := Go.Ground.data }, { on := 33, ground := Go.Ground.data }], guard := none }) (v := ?_) rfl (by kernel_rfl) (by kernel_rfl) (by kernel_rfl) (fun _ _ _ h => h) (Or.inl ⟨by rfl, ?_⟩) (by assumption) ?_
    rotate_left
    · intro wS hSw
      (try dsimp only at hSw)
      go_simp
      (try with_reducible rfl)
    (try simp only [Act.put, List.setIfInBounds_toArray, List.set_cons_zero, List.set_cons_succ])
    refine wpAnyH_take (i := 35) (oi := { dst := some 6, op := Go.Op.assign (Go.Operand.tmp 56), type := 4, pos := "law.go:23", after := #[{ on := 34, ground := Go.Ground.data }, { on := 33, ground := Go.Ground.chain }, { on := 0, ground := Go.Ground.phase }, { on := 1, ground := Go.Ground.phase }, { on := 2, ground := Go.Ground.phase }, { on := 3, ground := Go.Ground.phase }, { on := 4, ground := Go.Ground.phase }, { on := 5, ground := Go.Ground.phase }, { on := 6, ground := Go.Ground.phase }, { on := 7, ground := Go.Ground.phase }, { on := 8, ground := Go.Ground.phase }, { on := 9, ground := Go.Ground.phase }, { on := 10, ground := Go.Ground.phase }, { on := 11, ground := Go.Ground.phase }, { on := 12, ground := Go.Ground.phase }, { on := 13, ground := Go.Ground.phase }, { on := 14, ground := Go.Ground.phase }, { on := 15, ground := Go.Ground.phase }, { on := 16, ground := Go.Ground.phase }, { on := 17, ground := Go.Ground.phase }, { on := 18, ground := Go.Ground.phase }, { on := 19, ground := Go.Ground.phase }, { on := 20, ground := Go.Ground.phase }, { on := 21, ground := Go.Ground.phase }, { on := 22, ground := Go.Ground.phase }, { on := 23, ground := Go.Ground.phase }, { on := 24, ground := Go.Ground.phase }, { on := 25, ground := Go.Ground.phase }, { on := 26, ground := Go.Ground.phase }, { on := 27, ground := Go.Ground.phase }, { on := 28, ground := Go.Ground.phase }, { on := 29, ground := Go.Ground.phase }, { on := 30, ground := Go.Ground.phase }, { on := 31, ground := Go.Ground.phase }, { on := 32, ground := Go.Ground.phase }, { on := 33, ground := Go.Ground.phase }, { on := 34, ground := Go.Ground.phase }], guard := none }) (v := ?_) rfl (by kernel_rfl) (by kernel_rfl) (by kernel_rfl) (fun _ _ _ h => h) (Or.inl ⟨by rfl, ?_⟩) (by assumption) ?_
    rotate_left
    · intro wS hSw
      (try dsimp only at hSw)
      go_simp
      (try with_reducible rfl)
    (try simp only [Act.put, List.setIfInBounds_toArray, List.set_cons_zero, List.set_cons_succ])
    refine wpAnyH_done (by kernel_rfl) ?_ _
    have HO9 := Lib.hid (HOW.out _ (HPW.out _ hP_15))
    clear hP_15
    go_wp2_with fail
    go_ret
    exact ⟨rfl, HO9.out⟩
theorem exact_any (x y f g : Nat → Nat) (oa ob : Option Addr) (n m cn cm : Nat) (w : World) (hx : ∀ i, i < 16 → x i < 256) (hy : ∀ i, i < 16 → y i < 256) (ha : Bytes w oa n f) (hb : Bytes w ob m g) (hnc : n ≤ cn) (hmc : m ≤ cm) (hcn : cn ≤ maxLen) (hcm : cm ≤ maxLen) :
    Calls Try.prog 3 #[.agg (rowC 16 x ++ rowC 16 y).toArray, .slice oa n cn, .slice ob m cm] w fun e w' => e = .returned (.bool true) ∧ Below w.heap.size w w' := by
  by_cases h : 300 < n ∨ 300 < m
  · exact exact_sure _ oa ob n m cn cm w h
  · exact exact_main x y f g oa ob n m cn cm w hx hy ha hb hnc hmc hcn hcm (by omega) (by omega)
end Go.Proofs.Ytafbfjnbajdbkaa
