/- Blocks are a field. -/
import Derived.Test.YtafbfjnbajdbkaaGh11
namespace Go.Proofs.Ytafbfjnbajdbkaa
set_option linter.unusedVariables false
set_option linter.unusedSimpArgs false
open Go.RowKit

/-- Some arrays of 16 bytes, each with its cells. -/
def SA (L : List (Nat × Array Value)) (w : World) : Prop := ∀ p ∈ L, Blk w p.1 p.2 22
theorem SA.later {L : List (Nat × Array Value)} {w w' : World} (h : SA L w) (hb : Below w.heap.size w w') : SA L w' := fun p hp => Blk.below (h p hp) hb (Blk.lt (h p hp))
theorem SA.drew {L : List (Nat × Array Value)} {w : World} (h : SA L w) : SA L w.drew := h
theorem SA.h0 {p : Nat × Array Value} {L : List (Nat × Array Value)} {w : World} (h : SA (p :: L) w) : Blk w p.1 p.2 22 := h p (by simp)
theorem SA.tl {p : Nat × Array Value} {L : List (Nat × Array Value)} {w : World} (h : SA (p :: L) w) : SA L w := fun q hq => h q (by simp [hq])
theorem SA.nil (w : World) : SA [] w := fun p hp => by cases hp
theorem SA.cons {g : Nat} {C : Array Value} {L : List (Nat × Array Value)} {w : World} (h : Blk w g C 22) (hl : SA L w) : SA ((g, C) :: L) w := fun p hp => by
  rcases List.mem_cons.1 hp with rfl | hp
  · exact h
  · exact hl p hp
theorem SA.set {L : List (Nat × Array Value)} {w : World} {g : Nat} (h : SA L w) (hn : ∀ p ∈ L, p.1 ≠ g) (vs : List Value) : SA L (w.setCells g 0 vs) := fun p hp =>
  (Own.setCells vs 0 w).blk (h p hp) (hn p hp)
theorem SA.lt {L : List (Nat × Array Value)} {w : World} (h : SA L w) : ∀ p ∈ L, p.1 ≠ w.heap.size := fun p hp => Nat.ne_of_lt (Blk.lt (h p hp))
theorem size16a : (Try.prog.info? 22).map (·.size) = some 16 := by kernel_rfl
theorem info16a (f : Nat → Nat) : (Try.prog.info? 22).map (·.size) = some (rowC 16 f).toArray.size := by rw [size_row]; exact size16a
theorem ld16a {w : World} {g : Nat} {C : Array Value} (h : Blk w g C 22) (hs : (Try.prog.info? 22).map (·.size) = some C.size) : (loadVar 22 ⟨g, 0, none⟩).run Try.prog w = .ok (.agg C) w :=
  run_loadVar_row w g 22 22 C (0, 0) _ h Try.underlying22 rfl hs
theorem exec_load16a {o : Oper} {a : Act} {w : World} {g : Nat} {C : Array Value} {x : Operand} (ho : o.op = .load 22 x) (hx : a.eval x = .pointer (some ⟨g, 0, none⟩)) (h : (loadVar 22 ⟨g, 0, none⟩).run Try.prog w = .ok (.agg C) w) : (execOp a.eval o).run Try.prog w = .ok (.value (.agg C)) w := by
  unfold execOp
  simp only [ho, hx, Instr.loadAt, Instr.sureAddr, Sem.run_bind, Sem.run_pure, Result.andThen_ok, h]
/-- Three blocks, told over. -/
def FR1 (w0 : World) (X Y Z : Array Value) (v7 v8 v9 : Value) (wr : World) : Prop := ∃ g7 g8 g9, v7 = .pointer (some ⟨g7, 0, none⟩) ∧ v8 = .pointer (some ⟨g8, 0, none⟩) ∧ v9 = .pointer (some ⟨g9, 0, none⟩) ∧ SL [(g7, X), (g8, Y), (g9, Z)] wr ∧ Below w0.heap.size w0 wr
set_option maxRecDepth 100000 in
set_option maxHeartbeats 8000000 in
theorem field_any (f g h : Nat → Nat) (w : World) (hf : ∀ i, i < 16 → f i < 256) (hg : ∀ i, i < 16 → g i < 256) (hh : ∀ i, i < 16 → h i < 256) :
    Calls Try.prog 4 #[.agg (rowC 16 f).toArray, .agg (rowC 16 g).toArray, .agg (rowC 16 h).toArray] w fun e w' => e = .returned (.bool true) ∧ Below w.heap.size w w' := by
  obtain ⟨X, hX⟩ : ∃ C, (rowC 16 f).toArray = C := ⟨_, rfl⟩
  obtain ⟨Y, hY⟩ : ∃ C, (rowC 16 g).toArray = C := ⟨_, rfl⟩
  obtain ⟨Z, hZ⟩ : ∃ C, (rowC 16 h).toArray = C := ⟨_, rfl⟩
  obtain ⟨XY, hXY⟩ : ∃ C, (rowC 16 (mulF f g)).toArray = C := ⟨_, rfl⟩
  obtain ⟨YZ, hYZ⟩ : ∃ C, (rowC 16 (mulF g h)).toArray = C := ⟨_, rfl⟩
  obtain ⟨XZ, hXZ⟩ : ∃ C, (rowC 16 (mulF f h)).toArray = C := ⟨_, rfl⟩
  obtain ⟨T, hT⟩ : ∃ C, (rowC 16 (mulF f (mulF g h))).toArray = C := ⟨_, rfl⟩
  obtain ⟨A1, hA1⟩ : ∃ C, (rowC 16 (addF g h)).toArray = C := ⟨_, rfl⟩
  obtain ⟨A2, hA2⟩ : ∃ C, (rowC 16 (mulF f (addF g h))).toArray = C := ⟨_, rfl⟩
  obtain ⟨N, hN⟩ : ∃ C, (rowC 16 (addF f f)).toArray = C := ⟨_, rfl⟩
  have m0 : ∀ (a b : Nat → Nat) i, i < 16 → mulF a b i < 256 := fun a b i _ => mulF_lt a b i
  have HXY := call2 hX hY hXY fun w => gmul_any f g w hf hg
  have HYX := call2 hY hX (show (rowC 16 (mulF g f)).toArray = XY by rw [mulF_comm hg hf]; exact hXY) fun w => gmul_any g f w hg hf
  have HYZ := call2 hY hZ hYZ fun w => gmul_any g h w hg hh
  have HXYZ := call2 hX hYZ hT fun w => gmul_any f (mulF g h) w hf (m0 g h)
  have HXYZ' := call2 hXY hZ (show (rowC 16 (mulF (mulF f g) h)).toArray = T by rw [← mulF_assoc hf hg hh]; exact hT) fun w => gmul_any (mulF f g) h w (m0 f g) hh
  have HXZ := call2 hX hZ hXZ fun w => gmul_any f h w hf hh
  have HA1 := call2 hY hZ hA1 fun w => gadd_any g h w hg hh
  have HA2 := call2 hX hA1 hA2 fun w => gmul_any f (addF g h) w hf (addF_lt hg hh)
  have HA3 := call2 hXY hXZ (show (rowC 16 (addF (mulF f g) (mulF f h))).toArray = A2 by rw [← mulF_add2 f hg hh]; exact hA2) fun w => gadd_any (mulF f g) (mulF f h) w (m0 f g) (m0 f h)
  have HN := call2 hX hX hN fun w => gadd_any f f w hf hf
  have hz0 : (rowC 16 (fun _ => 0)).toArray = zero16 := rfl
  have HE1 := eq2 hXY hXY (eqF_refl _)
  have HE2 := eq2 hT hT (eqF_refl _)
  have HE3 := eq2 hA2 hA2 (eqF_refl _)
  have HE4 := eq2 hN hz0 (b := true) (by rw [addF_self]; exact eqF_refl _)
  obtain ⟨b1, hb1⟩ : ∃ b, eqF f (fun _ => 0) = b := ⟨_, rfl⟩
  obtain ⟨b2, hb2⟩ : ∃ b, eqF g (fun _ => 0) = b := ⟨_, rfl⟩
  have hb3 : eqF (mulF f g) (fun _ => 0) = (b1 || b2) := by
    rw [Bool.eq_iff_iff, eqF_iff, mulF_zero hf hg, Bool.or_eq_true, ← hb1, ← hb2, eqF_iff, eqF_iff]
  have HZ1 := eq2 hX hz0 hb1
  have HZ2 := eq2 hY hz0 hb2
  have HZ3 := eq2 hXY hz0 hb3
  have HIX : Hid ((Try.prog.info? 26).map (·.size) = some X.size) := Lib.hid (hX ▸ info16 _)
  have HIY : Hid ((Try.prog.info? 26).map (·.size) = some Y.size) := Lib.hid (hY ▸ info16 _)
  have HIZ : Hid ((Try.prog.info? 26).map (·.size) = some Z.size) := Lib.hid (hZ ▸ info16 _)
  have HI0 : Hid ((Try.prog.info? 26).map (·.size) = some zero16.size) := Lib.hid (info16 _)
  have HJX : Hid ((Try.prog.info? 22).map (·.size) = some X.size) := Lib.hid (hX ▸ info16a _)
  have HJY : Hid ((Try.prog.info? 22).map (·.size) = some Y.size) := Lib.hid (hY ▸ info16a _)
  have HJZ : Hid ((Try.prog.info? 22).map (·.size) = some Z.size) := Lib.hid (hZ ▸ info16a _)
  have HCX : Hid (∃ f, X = (rowC 16 f).toArray) := Lib.hid ⟨_, hX.symm⟩
  have HCY : Hid (∃ f, Y = (rowC 16 f).toArray) := Lib.hid ⟨_, hY.symm⟩
  have HCZ : Hid (∃ f, Z = (rowC 16 f).toArray) := Lib.hid ⟨_, hZ.symm⟩
  have HC0 : Hid (∃ f, zero16 = (rowC 16 f).toArray) := Lib.hid ⟨_, rfl⟩
  have hz := zero16_run
  rw [hX, hY, hZ]
  clear hX hY hZ hXY hYZ hXZ hT hA1 hA2 hN m0 hz0 hb1 hb2 hb3 hf hg hh
  go_enter Try.func4, Try.ntmps4
  go_upto_region 1 with fail
  obtain ⟨w0, hw0⟩ : ∃ q, ((w.alloc (.cells X 22)).alloc (.cells Y 22)).alloc (.cells Z 22) = q := ⟨_, rfl⟩
  have B0 : Blk w0 w.heap.size X 22 := by rw [← hw0]; exact ((Blk.new w _ 22).alloc _).alloc _
  have B1 : Blk w0 (w.heap.size + 1) Y 22 := by rw [← hw0]; simpa using (Blk.new (w.alloc (.cells X 22)) Y 22).alloc (.cells Z 22)
  have B2 : Blk w0 (w.heap.size + 1 + 1) Z 22 := by rw [← hw0]; simpa using Blk.new ((w.alloc (.cells X 22)).alloc (.cells Y 22)) Z 22
  have O : Below w.heap.size w w0 := by rw [← hw0]; exact (((Below.refl _ _).alloc (Nat.le_refl _) _).alloc (by simp) _).alloc (by simp; omega) _
  rw [hw0]
  clear hw0
  go_cut [7, 8, 9] (FR1 w X Y Z)
  case first =>
    have hA_0 : SA [(w.heap.size, X), (w.heap.size + 1, Y), (w.heap.size + 1 + 1, Z)] w0.drew := SA.cons B0.drew (SA.cons B1.drew (SA.cons B2.drew (SA.nil _)))
    have hO_0 : Below w.heap.size w w0.drew := O.drew
    clear B0 B1 B2 O
    refine wp_region_held_drew (S := (SA [(w.heap.size, X), (w.heap.size + 1, Y), (w.heap.size + 1 + 1, Z)])) (by kernel_rfl) ?_ (fun hHeld => ?_)
    · (try dsimp only)
      first | assumption | (apply SL.drew; assumption) | (apply SA.drew; assumption)
    generalize w0.drew = W0 at *
    refine wpAnyH_take (i := 0) (oi := { dst := some 11, op := Go.Op.load 22 (Go.Operand.tmp 3), type := 22, pos := "law.go:28", after := #[], guard := none }) (v := ?_) rfl (by kernel_rfl) (by kernel_rfl) (by kernel_rfl) (fun _ _ _ h => h) (Or.inl ⟨by rfl, ?_⟩) (by assumption) ?_
    rotate_left
    · intro w hSw
      refine exec_load16a (x := .tmp 3) ?_ ?_ (ld16a hSw.h0 HJX.out) <;> rfl
    (try simp only [Act.put, List.setIfInBounds_toArray, List.set_cons_zero, List.set_cons_succ])
    refine wpAnyH_take (i := 1) (oi := { dst := some 12, op := Go.Op.load 22 (Go.Operand.tmp 4), type := 22, pos := "law.go:28", after := #[{ on := 6, ground := Go.Ground.gcOnly Go.Departure.lateStores }], guard := none }) (v := ?_) rfl (by kernel_rfl) (by kernel_rfl) (by kernel_rfl) (fun _ _ _ h => h) (Or.inl ⟨by rfl, ?_⟩) (by assumption) ?_
    rotate_left
    · intro w hSw
      refine exec_load16a (x := .tmp 4) ?_ ?_ (ld16a hSw.tl.h0 HJY.out) <;> rfl
    (try simp only [Act.put, List.setIfInBounds_toArray, List.set_cons_zero, List.set_cons_succ])
    refine wpAnyH_take (i := 2) (oi := { dst := some 13, op := Go.Op.load 22 (Go.Operand.tmp 5), type := 22, pos := "law.go:28", after := #[{ on := 7, ground := Go.Ground.gcOnly Go.Departure.lateStores }], guard := none }) (v := ?_) rfl (by kernel_rfl) (by kernel_rfl) (by kernel_rfl) (fun _ _ _ h => h) (Or.inl ⟨by rfl, ?_⟩) (by assumption) ?_
    rotate_left
    · intro w hSw
      refine exec_load16a (x := .tmp 5) ?_ ?_ (ld16a hSw.tl.tl.h0 HJZ.out) <;> rfl
    (try simp only [Act.put, List.setIfInBounds_toArray, List.set_cons_zero, List.set_cons_succ])
    refine wpAnyH_ready (rs := [3, 4, 5]) (by kernel_rfl) (by simp) ?_
    refine AllReadyH.cons (o := { dst := some 7, op := Go.Op.alloc 26, type := 0, pos := "law.go:28", after := #[], guard := none }) rfl (fun K hK => ?_) ?_
    · skip
      go_simp
      (obtain ⟨v_1, hw_1⟩ : ∃ q, W0.alloc (.cells zero16 26) = q := ⟨_, rfl⟩; rw [hw_1]; have hb_1 : Below W0.heap.size W0 v_1 := (by rw [← hw_1]; exact (Below.refl _ _).alloc (Nat.le_refl _) _); have HL7 : Hid (∀ p ∈ [(w.heap.size, X), (w.heap.size + 1, Y), (w.heap.size + 1 + 1, Z)], p.1 ≠ W0.heap.size) := Lib.hid (SA.lt hA_0); have HW7 : Hid (w.heap.size ≤ W0.heap.size) := Lib.hid hO_0.size; have hA_1 := SA.later hA_0 hb_1; have hO_1 := Below.trans hO_0 (hb_1.mono hO_0.size); have hG7_1 : Blk v_1 W0.heap.size zero16 26 := (by rw [← hw_1]; exact Blk.new _ _ _); clear hA_0 hO_0; clear hb_1 hw_1; skip)
      (try go_wp2_with fail)
      refine hK.out _ _ ?_ (fun hHeld => ?_)
      · (try dsimp only)
        first | assumption | (apply SL.drew; assumption) | (apply SA.drew; assumption)
      clear hK K
      (try simp only [Act.put, List.setIfInBounds_toArray, List.set_cons_zero, List.set_cons_succ])
      refine wpAnyH_ready (rs := [4, 5]) (by kernel_rfl) (by simp) ?_
      refine AllReadyH.cons (o := { dst := some 8, op := Go.Op.alloc 26, type := 0, pos := "law.go:28", after := #[], guard := none }) rfl (fun K hK => ?_) ?_
      · skip
        go_simp
        (obtain ⟨v_2, hw_2⟩ : ∃ q, v_1.alloc (.cells zero16 26) = q := ⟨_, rfl⟩; rw [hw_2]; have hb_2 : Below v_1.heap.size v_1 v_2 := (by rw [← hw_2]; exact (Below.refl _ _).alloc (Nat.le_refl _) _); have HL8 : Hid (∀ p ∈ [(w.heap.size, X), (w.heap.size + 1, Y), (w.heap.size + 1 + 1, Z)], p.1 ≠ v_1.heap.size) := Lib.hid (SA.lt hA_1); have HW8 : Hid (w.heap.size ≤ v_1.heap.size) := Lib.hid hO_1.size; have HN7x8 : Hid (W0.heap.size ≠ v_1.heap.size) := Lib.hid (Nat.ne_of_lt (Blk.lt hG7_1)); have HN8x7 : Hid (v_1.heap.size ≠ W0.heap.size) := Lib.hid (Nat.ne_of_gt (Blk.lt hG7_1)); have hA_2 := SA.later hA_1 hb_2; have hG7_2 := Blk.below hG7_1 hb_2 (Blk.lt hG7_1); have hO_2 := Below.trans hO_1 (hb_2.mono hO_1.size); have hG8_2 : Blk v_2 v_1.heap.size zero16 26 := (by rw [← hw_2]; exact Blk.new _ _ _); clear hA_1 hG7_1 hO_1; clear hb_2 hw_2; skip)
        (try go_wp2_with fail)
        refine hK.out _ _ ?_ (fun hHeld => ?_)
        · (try dsimp only)
          first | assumption | (apply SL.drew; assumption) | (apply SA.drew; assumption)
        clear hK K
        (try simp only [Act.put, List.setIfInBounds_toArray, List.set_cons_zero, List.set_cons_succ])
        refine wpAnyH_ready (rs := [5]) (by kernel_rfl) (by simp) ?_
        refine AllReadyH.cons (o := { dst := some 9, op := Go.Op.alloc 26, type := 0, pos := "law.go:28", after := #[], guard := none }) rfl (fun K hK => ?_) AllReadyH.nil
        go_simp
        (obtain ⟨v_3, hw_3⟩ : ∃ q, v_2.alloc (.cells zero16 26) = q := ⟨_, rfl⟩; rw [hw_3]; have hb_3 : Below v_2.heap.size v_2 v_3 := (by rw [← hw_3]; exact (Below.refl _ _).alloc (Nat.le_refl _) _); have HL9 : Hid (∀ p ∈ [(w.heap.size, X), (w.heap.size + 1, Y), (w.heap.size + 1 + 1, Z)], p.1 ≠ v_2.heap.size) := Lib.hid (SA.lt hA_2); have HW9 : Hid (w.heap.size ≤ v_2.heap.size) := Lib.hid hO_2.size; have HN7x9 : Hid (W0.heap.size ≠ v_2.heap.size) := Lib.hid (Nat.ne_of_lt (Blk.lt hG7_2)); have HN9x7 : Hid (v_2.heap.size ≠ W0.heap.size) := Lib.hid (Nat.ne_of_gt (Blk.lt hG7_2)); have HN8x9 : Hid (v_1.heap.size ≠ v_2.heap.size) := Lib.hid (Nat.ne_of_lt (Blk.lt hG8_2)); have HN9x8 : Hid (v_2.heap.size ≠ v_1.heap.size) := Lib.hid (Nat.ne_of_gt (Blk.lt hG8_2)); have hA_3 := SA.later hA_2 hb_3; have hG7_3 := Blk.below hG7_2 hb_3 (Blk.lt hG7_2); have hG8_3 := Blk.below hG8_2 hb_3 (Blk.lt hG8_2); have hO_3 := Below.trans hO_2 (hb_3.mono hO_2.size); have hG9_3 : Blk v_3 v_2.heap.size zero16 26 := (by rw [← hw_3]; exact Blk.new _ _ _); clear hA_2 hG7_2 hG8_2 hO_2; clear hb_3 hw_3; skip)
        (try go_wp2_with fail)
        refine hK.out _ _ ?_ (fun hHeld => ?_)
        · (try dsimp only)
          first | assumption | (apply SL.drew; assumption) | (apply SA.drew; assumption)
        clear hK K
        (try simp only [Act.put, List.setIfInBounds_toArray, List.set_cons_zero, List.set_cons_succ])
        refine wpAnyH_ready (rs := [6]) (by kernel_rfl) (by simp) ?_
        refine AllReadyH.cons (o := { dst := none, op := Go.Op.store 26 (Go.Operand.tmp 7) (Go.Operand.tmp 11), type := 0, pos := "law.go:28", after := #[{ on := 3, ground := Go.Ground.data }, { on := 0, ground := Go.Ground.data }, { on := 0, ground := Go.Ground.phase }, { on := 1, ground := Go.Ground.textOnly Go.Departure.lateStores }, { on := 2, ground := Go.Ground.textOnly Go.Departure.lateStores }, { on := 3, ground := Go.Ground.phase }, { on := 4, ground := Go.Ground.phase }, { on := 5, ground := Go.Ground.phase }], guard := none }) rfl (fun K hK => ?_) AllReadyH.nil
        (refine step_store16 rfl (.tmp 7) (.tmp 11) rfl W0.heap.size rfl X zero16 rfl hG7_3 HCX.out HC0.out ?_; have hG7_4 := Blk.store16 hG7_3 HCX.out HC0.out; have hA_4 := SA.set hA_3 HL7.out X.toList; have hG8_4 := (Own.setCells X.toList 0 v_3).blk hG8_3 HN8x7.out; have hG9_4 := (Own.setCells X.toList 0 v_3).blk hG9_3 HN9x7.out; have hO_4 := Below.set16 (g := W0.heap.size) hO_3 HW7.out hO_3.size X.toList; obtain ⟨v_4, hw_4⟩ : ∃ q, (v_3.setCells W0.heap.size 0 X.toList) = q := ⟨_, rfl⟩; rw [hw_4] at hG7_4 hA_4 hG8_4 hG9_4 hO_4 ⊢; clear hG7_3 hA_3 hG8_3 hG9_3 hO_3 hw_4; skip)
        refine hK.out _ _ ?_ (fun hHeld => ?_)
        · (try dsimp only)
          first | assumption | (apply SL.drew; assumption) | (apply SA.drew; assumption)
        clear hK K
        (try simp only [Act.put, List.setIfInBounds_toArray, List.set_cons_zero, List.set_cons_succ])
        refine wpAnyH_ready (rs := [7]) (by kernel_rfl) (by simp) ?_
        refine AllReadyH.cons (o := { dst := none, op := Go.Op.store 26 (Go.Operand.tmp 8) (Go.Operand.tmp 12), type := 0, pos := "law.go:28", after := #[{ on := 4, ground := Go.Ground.data }, { on := 1, ground := Go.Ground.data }, { on := 6, ground := Go.Ground.chain }, { on := 0, ground := Go.Ground.phase }, { on := 1, ground := Go.Ground.phase }, { on := 2, ground := Go.Ground.textOnly Go.Departure.lateStores }, { on := 3, ground := Go.Ground.phase }, { on := 4, ground := Go.Ground.phase }, { on := 5, ground := Go.Ground.phase }, { on := 6, ground := Go.Ground.phase }], guard := none }) rfl (fun K hK => ?_) AllReadyH.nil
        (refine step_store16 rfl (.tmp 8) (.tmp 12) rfl v_1.heap.size rfl Y zero16 rfl hG8_4 HCY.out HC0.out ?_; have hG8_5 := Blk.store16 hG8_4 HCY.out HC0.out; have hA_5 := SA.set hA_4 HL8.out Y.toList; have hG7_5 := (Own.setCells Y.toList 0 v_4).blk hG7_4 HN7x8.out; have hG9_5 := (Own.setCells Y.toList 0 v_4).blk hG9_4 HN9x8.out; have hO_5 := Below.set16 (g := v_1.heap.size) hO_4 HW8.out hO_4.size Y.toList; obtain ⟨v_5, hw_5⟩ : ∃ q, (v_4.setCells v_1.heap.size 0 Y.toList) = q := ⟨_, rfl⟩; rw [hw_5] at hG8_5 hA_5 hG7_5 hG9_5 hO_5 ⊢; clear hG8_4 hA_4 hG7_4 hG9_4 hO_4 hw_5; skip)
        refine hK.out _ _ ?_ (fun hHeld => ?_)
        · (try dsimp only)
          first | assumption | (apply SL.drew; assumption) | (apply SA.drew; assumption)
        clear hK K
        (try simp only [Act.put, List.setIfInBounds_toArray, List.set_cons_zero, List.set_cons_succ])
        refine wpAnyH_ready (rs := [8]) (by kernel_rfl) (by simp) ?_
        refine AllReadyH.cons (o := { dst := none, op := Go.Op.store 26 (Go.Operand.tmp 9) (Go.Operand.tmp 13), type := 0, pos := "law.go:28", after := #[{ on := 5, ground := Go.Ground.data }, { on := 2, ground := Go.Ground.data }, { on := 7, ground := Go.Ground.chain }, { on := 0, ground := Go.Ground.phase }, { on := 1, ground := Go.Ground.phase }, { on := 2, ground := Go.Ground.phase }, { on := 3, ground := Go.Ground.phase }, { on := 4, ground := Go.Ground.phase }, { on := 5, ground := Go.Ground.phase }, { on := 6, ground := Go.Ground.phase }, { on := 7, ground := Go.Ground.phase }], guard := none }) rfl (fun K hK => ?_) AllReadyH.nil
        (refine step_store16 rfl (.tmp 9) (.tmp 13) rfl v_2.heap.size rfl Z zero16 rfl hG9_5 HCZ.out HC0.out ?_; have hG9_6 := Blk.store16 hG9_5 HCZ.out HC0.out; have hA_6 := SA.set hA_5 HL9.out Z.toList; have hG7_6 := (Own.setCells Z.toList 0 v_5).blk hG7_5 HN7x9.out; have hG8_6 := (Own.setCells Z.toList 0 v_5).blk hG8_5 HN8x9.out; have hO_6 := Below.set16 (g := v_2.heap.size) hO_5 HW9.out hO_5.size Z.toList; obtain ⟨v_6, hw_6⟩ : ∃ q, (v_5.setCells v_2.heap.size 0 Z.toList) = q := ⟨_, rfl⟩; rw [hw_6] at hG9_6 hA_6 hG7_6 hG8_6 hO_6 ⊢; clear hG9_5 hA_5 hG7_5 hG8_5 hO_5 hw_6; skip)
        refine hK.out _ _ ?_ (fun hHeld => ?_)
        · (try dsimp only)
          first | assumption | (apply SL.drew; assumption) | (apply SA.drew; assumption)
        clear hK K
        (try simp only [Act.put, List.setIfInBounds_toArray, List.set_cons_zero, List.set_cons_succ])
        refine wpAnyH_done (by kernel_rfl) ?_ _
        go_wp2_with fail
        go_meet
        exact ⟨_, _, _, rfl, rfl, rfl, SL.cons hG7_6 (SL.cons hG8_6 (SL.cons hG9_6 (SL.nil _))), hO_6⟩
      refine AllReadyH.cons (o := { dst := some 9, op := Go.Op.alloc 26, type := 0, pos := "law.go:28", after := #[], guard := none }) rfl (fun K hK => ?_) AllReadyH.nil
      go_simp
      (obtain ⟨v_7, hw_7⟩ : ∃ q, v_1.alloc (.cells zero16 26) = q := ⟨_, rfl⟩; rw [hw_7]; have hb_7 : Below v_1.heap.size v_1 v_7 := (by rw [← hw_7]; exact (Below.refl _ _).alloc (Nat.le_refl _) _); have HL9 : Hid (∀ p ∈ [(w.heap.size, X), (w.heap.size + 1, Y), (w.heap.size + 1 + 1, Z)], p.1 ≠ v_1.heap.size) := Lib.hid (SA.lt hA_1); have HW9 : Hid (w.heap.size ≤ v_1.heap.size) := Lib.hid hO_1.size; have HN7x9 : Hid (W0.heap.size ≠ v_1.heap.size) := Lib.hid (Nat.ne_of_lt (Blk.lt hG7_1)); have HN9x7 : Hid (v_1.heap.size ≠ W0.heap.size) := Lib.hid (Nat.ne_of_gt (Blk.lt hG7_1)); have hA_7 := SA.later hA_1 hb_7; have hG7_7 := Blk.below hG7_1 hb_7 (Blk.lt hG7_1); have hO_7 := Below.trans hO_1 (hb_7.mono hO_1.size); have hG9_7 : Blk v_7 v_1.heap.size zero16 26 := (by rw [← hw_7]; exact Blk.new _ _ _); clear hA_1 hG7_1 hO_1; clear hb_7 hw_7; skip)
      (try go_wp2_with fail)
      refine hK.out _ _ ?_ (fun hHeld => ?_)
      · (try dsimp only)
        first | assumption | (apply SL.drew; assumption) | (apply SA.drew; assumption)
      clear hK K
      (try simp only [Act.put, List.setIfInBounds_toArray, List.set_cons_zero, List.set_cons_succ])
      refine wpAnyH_ready (rs := [4]) (by kernel_rfl) (by simp) ?_
      refine AllReadyH.cons (o := { dst := some 8, op := Go.Op.alloc 26, type := 0, pos := "law.go:28", after := #[], guard := none }) rfl (fun K hK => ?_) AllReadyH.nil
      go_simp
      (obtain ⟨v_8, hw_8⟩ : ∃ q, v_7.alloc (.cells zero16 26) = q := ⟨_, rfl⟩; rw [hw_8]; have hb_8 : Below v_7.heap.size v_7 v_8 := (by rw [← hw_8]; exact (Below.refl _ _).alloc (Nat.le_refl _) _); have HL8 : Hid (∀ p ∈ [(w.heap.size, X), (w.heap.size + 1, Y), (w.heap.size + 1 + 1, Z)], p.1 ≠ v_7.heap.size) := Lib.hid (SA.lt hA_7); have HW8 : Hid (w.heap.size ≤ v_7.heap.size) := Lib.hid hO_7.size; have HN7x8 : Hid (W0.heap.size ≠ v_7.heap.size) := Lib.hid (Nat.ne_of_lt (Blk.lt hG7_7)); have HN8x7 : Hid (v_7.heap.size ≠ W0.heap.size) := Lib.hid (Nat.ne_of_gt (Blk.lt hG7_7)); have HN9x8 : Hid (v_1.heap.size ≠ v_7.heap.size) := Lib.hid (Nat.ne_of_lt (Blk.lt hG9_7)); have HN8x9 : Hid (v_7.heap.size ≠ v_1.heap.size) := Lib.hid (Nat.ne_of_gt (Blk.lt hG9_7)); have hA_8 := SA.later hA_7 hb_8; have hG7_8 := Blk.below hG7_7 hb_8 (Blk.lt hG7_7); have hG9_8 := Blk.below hG9_7 hb_8 (Blk.lt hG9_7); have hO_8 := Below.trans hO_7 (hb_8.mono hO_7.size); have hG8_8 : Blk v_8 v_7.heap.size zero16 26 := (by rw [← hw_8]; exact Blk.new _ _ _); clear hA_7 hG7_7 hG9_7 hO_7; clear hb_8 hw_8; skip)
      (try go_wp2_with fail)
      refine hK.out _ _ ?_ (fun hHeld => ?_)
      · (try dsimp only)
        first | assumption | (apply SL.drew; assumption) | (apply SA.drew; assumption)
      clear hK K
      (try simp only [Act.put, List.setIfInBounds_toArray, List.set_cons_zero, List.set_cons_succ])
      refine wpAnyH_ready (rs := [6]) (by kernel_rfl) (by simp) ?_
      refine AllReadyH.cons (o := { dst := none, op := Go.Op.store 26 (Go.Operand.tmp 7) (Go.Operand.tmp 11), type := 0, pos := "law.go:28", after := #[{ on := 3, ground := Go.Ground.data }, { on := 0, ground := Go.Ground.data }, { on := 0, ground := Go.Ground.phase }, { on := 1, ground := Go.Ground.textOnly Go.Departure.lateStores }, { on := 2, ground := Go.Ground.textOnly Go.Departure.lateStores }, { on := 3, ground := Go.Ground.phase }, { on := 4, ground := Go.Ground.phase }, { on := 5, ground := Go.Ground.phase }], guard := none }) rfl (fun K hK => ?_) AllReadyH.nil
      (refine step_store16 rfl (.tmp 7) (.tmp 11) rfl W0.heap.size rfl X zero16 rfl hG7_8 HCX.out HC0.out ?_; have hG7_9 := Blk.store16 hG7_8 HCX.out HC0.out; have hA_9 := SA.set hA_8 HL7.out X.toList; have hG8_9 := (Own.setCells X.toList 0 v_8).blk hG8_8 HN8x7.out; have hG9_9 := (Own.setCells X.toList 0 v_8).blk hG9_8 HN9x7.out; have hO_9 := Below.set16 (g := W0.heap.size) hO_8 HW7.out hO_8.size X.toList; obtain ⟨v_9, hw_9⟩ : ∃ q, (v_8.setCells W0.heap.size 0 X.toList) = q := ⟨_, rfl⟩; rw [hw_9] at hG7_9 hA_9 hG8_9 hG9_9 hO_9 ⊢; clear hG7_8 hA_8 hG8_8 hG9_8 hO_8 hw_9; skip)
      refine hK.out _ _ ?_ (fun hHeld => ?_)
      · (try dsimp only)
        first | assumption | (apply SL.drew; assumption) | (apply SA.drew; assumption)
      clear hK K
      (try simp only [Act.put, List.setIfInBounds_toArray, List.set_cons_zero, List.set_cons_succ])
      refine wpAnyH_ready (rs := [7]) (by kernel_rfl) (by simp) ?_
      refine AllReadyH.cons (o := { dst := none, op := Go.Op.store 26 (Go.Operand.tmp 8) (Go.Operand.tmp 12), type := 0, pos := "law.go:28", after := #[{ on := 4, ground := Go.Ground.data }, { on := 1, ground := Go.Ground.data }, { on := 6, ground := Go.Ground.chain }, { on := 0, ground := Go.Ground.phase }, { on := 1, ground := Go.Ground.phase }, { on := 2, ground := Go.Ground.textOnly Go.Departure.lateStores }, { on := 3, ground := Go.Ground.phase }, { on := 4, ground := Go.Ground.phase }, { on := 5, ground := Go.Ground.phase }, { on := 6, ground := Go.Ground.phase }], guard := none }) rfl (fun K hK => ?_) AllReadyH.nil
      (refine step_store16 rfl (.tmp 8) (.tmp 12) rfl v_7.heap.size rfl Y zero16 rfl hG8_9 HCY.out HC0.out ?_; have hG8_10 := Blk.store16 hG8_9 HCY.out HC0.out; have hA_10 := SA.set hA_9 HL8.out Y.toList; have hG7_10 := (Own.setCells Y.toList 0 v_9).blk hG7_9 HN7x8.out; have hG9_10 := (Own.setCells Y.toList 0 v_9).blk hG9_9 HN9x8.out; have hO_10 := Below.set16 (g := v_7.heap.size) hO_9 HW8.out hO_9.size Y.toList; obtain ⟨v_10, hw_10⟩ : ∃ q, (v_9.setCells v_7.heap.size 0 Y.toList) = q := ⟨_, rfl⟩; rw [hw_10] at hG8_10 hA_10 hG7_10 hG9_10 hO_10 ⊢; clear hG8_9 hA_9 hG7_9 hG9_9 hO_9 hw_10; skip)
      refine hK.out _ _ ?_ (fun hHeld => ?_)
      · (try dsimp only)
        first | assumption | (apply SL.drew; assumption) | (apply SA.drew; assumption)
      clear hK K
      (try simp only [Act.put, List.setIfInBounds_toArray, List.set_cons_zero, List.set_cons_succ])
      refine wpAnyH_ready (rs := [8]) (by kernel_rfl) (by simp) ?_
      refine AllReadyH.cons (o := { dst := none, op := Go.Op.store 26 (Go.Operand.tmp 9) (Go.Operand.tmp 13), type := 0, pos := "law.go:28", after := #[{ on := 5, ground := Go.Ground.data }, { on := 2, ground := Go.Ground.data }, { on := 7, ground := Go.Ground.chain }, { on := 0, ground := Go.Ground.phase }, { on := 1, ground := Go.Ground.phase }, { on := 2, ground := Go.Ground.phase }, { on := 3, ground := Go.Ground.phase }, { on := 4, ground := Go.Ground.phase }, { on := 5, ground := Go.Ground.phase }, { on := 6, ground := Go.Ground.phase }, { on := 7, ground := Go.Ground.phase }], guard := none }) rfl (fun K hK => ?_) AllReadyH.nil
      (refine step_store16 rfl (.tmp 9) (.tmp 13) rfl v_1.heap.size rfl Z zero16 rfl hG9_10 HCZ.out HC0.out ?_; have hG9_11 := Blk.store16 hG9_10 HCZ.out HC0.out; have hA_11 := SA.set hA_10 HL9.out Z.toList; have hG7_11 := (Own.setCells Z.toList 0 v_10).blk hG7_10 HN7x9.out; have hG8_11 := (Own.setCells Z.toList 0 v_10).blk hG8_10 HN8x9.out; have hO_11 := Below.set16 (g := v_1.heap.size) hO_10 HW9.out hO_10.size Z.toList; obtain ⟨v_11, hw_11⟩ : ∃ q, (v_10.setCells v_1.heap.size 0 Z.toList) = q := ⟨_, rfl⟩; rw [hw_11] at hG9_11 hA_11 hG7_11 hG8_11 hO_11 ⊢; clear hG9_10 hA_10 hG7_10 hG8_10 hO_10 hw_11; skip)
      refine hK.out _ _ ?_ (fun hHeld => ?_)
      · (try dsimp only)
        first | assumption | (apply SL.drew; assumption) | (apply SA.drew; assumption)
      clear hK K
      (try simp only [Act.put, List.setIfInBounds_toArray, List.set_cons_zero, List.set_cons_succ])
      refine wpAnyH_done (by kernel_rfl) ?_ _
      go_wp2_with fail
      go_meet
      exact ⟨_, _, _, rfl, rfl, rfl, SL.cons hG7_11 (SL.cons hG8_11 (SL.cons hG9_11 (SL.nil _))), hO_11⟩
    refine AllReadyH.cons (o := { dst := some 8, op := Go.Op.alloc 26, type := 0, pos := "law.go:28", after := #[], guard := none }) rfl (fun K hK => ?_) ?_
    · skip
      go_simp
      (obtain ⟨v_12, hw_12⟩ : ∃ q, W0.alloc (.cells zero16 26) = q := ⟨_, rfl⟩; rw [hw_12]; have hb_12 : Below W0.heap.size W0 v_12 := (by rw [← hw_12]; exact (Below.refl _ _).alloc (Nat.le_refl _) _); have HL8 : Hid (∀ p ∈ [(w.heap.size, X), (w.heap.size + 1, Y), (w.heap.size + 1 + 1, Z)], p.1 ≠ W0.heap.size) := Lib.hid (SA.lt hA_0); have HW8 : Hid (w.heap.size ≤ W0.heap.size) := Lib.hid hO_0.size; have hA_12 := SA.later hA_0 hb_12; have hO_12 := Below.trans hO_0 (hb_12.mono hO_0.size); have hG8_12 : Blk v_12 W0.heap.size zero16 26 := (by rw [← hw_12]; exact Blk.new _ _ _); clear hA_0 hO_0; clear hb_12 hw_12; skip)
      (try go_wp2_with fail)
      refine hK.out _ _ ?_ (fun hHeld => ?_)
      · (try dsimp only)
        first | assumption | (apply SL.drew; assumption) | (apply SA.drew; assumption)
      clear hK K
      (try simp only [Act.put, List.setIfInBounds_toArray, List.set_cons_zero, List.set_cons_succ])
      refine wpAnyH_ready (rs := [3, 5]) (by kernel_rfl) (by simp) ?_
      refine AllReadyH.cons (o := { dst := some 7, op := Go.Op.alloc 26, type := 0, pos := "law.go:28", after := #[], guard := none }) rfl (fun K hK => ?_) ?_
      · skip
        go_simp
        (obtain ⟨v_13, hw_13⟩ : ∃ q, v_12.alloc (.cells zero16 26) = q := ⟨_, rfl⟩; rw [hw_13]; have hb_13 : Below v_12.heap.size v_12 v_13 := (by rw [← hw_13]; exact (Below.refl _ _).alloc (Nat.le_refl _) _); have HL7 : Hid (∀ p ∈ [(w.heap.size, X), (w.heap.size + 1, Y), (w.heap.size + 1 + 1, Z)], p.1 ≠ v_12.heap.size) := Lib.hid (SA.lt hA_12); have HW7 : Hid (w.heap.size ≤ v_12.heap.size) := Lib.hid hO_12.size; have HN8x7 : Hid (W0.heap.size ≠ v_12.heap.size) := Lib.hid (Nat.ne_of_lt (Blk.lt hG8_12)); have HN7x8 : Hid (v_12.heap.size ≠ W0.heap.size) := Lib.hid (Nat.ne_of_gt (Blk.lt hG8_12)); have hA_13 := SA.later hA_12 hb_13; have hG8_13 := Blk.below hG8_12 hb_13 (Blk.lt hG8_12); have hO_13 := Below.trans hO_12 (hb_13.mono hO_12.size); have hG7_13 : Blk v_13 v_12.heap.size zero16 26 := (by rw [← hw_13]; exact Blk.new _ _ _); clear hA_12 hG8_12 hO_12; clear hb_13 hw_13; skip)
        (try go_wp2_with fail)
        refine hK.out _ _ ?_ (fun hHeld => ?_)
        · (try dsimp only)
          first | assumption | (apply SL.drew; assumption) | (apply SA.drew; assumption)
        clear hK K
        (try simp only [Act.put, List.setIfInBounds_toArray, List.set_cons_zero, List.set_cons_succ])
        refine wpAnyH_ready (rs := [5]) (by kernel_rfl) (by simp) ?_
        refine AllReadyH.cons (o := { dst := some 9, op := Go.Op.alloc 26, type := 0, pos := "law.go:28", after := #[], guard := none }) rfl (fun K hK => ?_) AllReadyH.nil
        go_simp
        (obtain ⟨v_14, hw_14⟩ : ∃ q, v_13.alloc (.cells zero16 26) = q := ⟨_, rfl⟩; rw [hw_14]; have hb_14 : Below v_13.heap.size v_13 v_14 := (by rw [← hw_14]; exact (Below.refl _ _).alloc (Nat.le_refl _) _); have HL9 : Hid (∀ p ∈ [(w.heap.size, X), (w.heap.size + 1, Y), (w.heap.size + 1 + 1, Z)], p.1 ≠ v_13.heap.size) := Lib.hid (SA.lt hA_13); have HW9 : Hid (w.heap.size ≤ v_13.heap.size) := Lib.hid hO_13.size; have HN8x9 : Hid (W0.heap.size ≠ v_13.heap.size) := Lib.hid (Nat.ne_of_lt (Blk.lt hG8_13)); have HN9x8 : Hid (v_13.heap.size ≠ W0.heap.size) := Lib.hid (Nat.ne_of_gt (Blk.lt hG8_13)); have HN7x9 : Hid (v_12.heap.size ≠ v_13.heap.size) := Lib.hid (Nat.ne_of_lt (Blk.lt hG7_13)); have HN9x7 : Hid (v_13.heap.size ≠ v_12.heap.size) := Lib.hid (Nat.ne_of_gt (Blk.lt hG7_13)); have hA_14 := SA.later hA_13 hb_14; have hG8_14 := Blk.below hG8_13 hb_14 (Blk.lt hG8_13); have hG7_14 := Blk.below hG7_13 hb_14 (Blk.lt hG7_13); have hO_14 := Below.trans hO_13 (hb_14.mono hO_13.size); have hG9_14 : Blk v_14 v_13.heap.size zero16 26 := (by rw [← hw_14]; exact Blk.new _ _ _); clear hA_13 hG8_13 hG7_13 hO_13; clear hb_14 hw_14; skip)
        (try go_wp2_with fail)
        refine hK.out _ _ ?_ (fun hHeld => ?_)
        · (try dsimp only)
          first | assumption | (apply SL.drew; assumption) | (apply SA.drew; assumption)
        clear hK K
        (try simp only [Act.put, List.setIfInBounds_toArray, List.set_cons_zero, List.set_cons_succ])
        refine wpAnyH_ready (rs := [6]) (by kernel_rfl) (by simp) ?_
        refine AllReadyH.cons (o := { dst := none, op := Go.Op.store 26 (Go.Operand.tmp 7) (Go.Operand.tmp 11), type := 0, pos := "law.go:28", after := #[{ on := 3, ground := Go.Ground.data }, { on := 0, ground := Go.Ground.data }, { on := 0, ground := Go.Ground.phase }, { on := 1, ground := Go.Ground.textOnly Go.Departure.lateStores }, { on := 2, ground := Go.Ground.textOnly Go.Departure.lateStores }, { on := 3, ground := Go.Ground.phase }, { on := 4, ground := Go.Ground.phase }, { on := 5, ground := Go.Ground.phase }], guard := none }) rfl (fun K hK => ?_) AllReadyH.nil
        (refine step_store16 rfl (.tmp 7) (.tmp 11) rfl v_12.heap.size rfl X zero16 rfl hG7_14 HCX.out HC0.out ?_; have hG7_15 := Blk.store16 hG7_14 HCX.out HC0.out; have hA_15 := SA.set hA_14 HL7.out X.toList; have hG8_15 := (Own.setCells X.toList 0 v_14).blk hG8_14 HN8x7.out; have hG9_15 := (Own.setCells X.toList 0 v_14).blk hG9_14 HN9x7.out; have hO_15 := Below.set16 (g := v_12.heap.size) hO_14 HW7.out hO_14.size X.toList; obtain ⟨v_15, hw_15⟩ : ∃ q, (v_14.setCells v_12.heap.size 0 X.toList) = q := ⟨_, rfl⟩; rw [hw_15] at hG7_15 hA_15 hG8_15 hG9_15 hO_15 ⊢; clear hG7_14 hA_14 hG8_14 hG9_14 hO_14 hw_15; skip)
        refine hK.out _ _ ?_ (fun hHeld => ?_)
        · (try dsimp only)
          first | assumption | (apply SL.drew; assumption) | (apply SA.drew; assumption)
        clear hK K
        (try simp only [Act.put, List.setIfInBounds_toArray, List.set_cons_zero, List.set_cons_succ])
        refine wpAnyH_ready (rs := [7]) (by kernel_rfl) (by simp) ?_
        refine AllReadyH.cons (o := { dst := none, op := Go.Op.store 26 (Go.Operand.tmp 8) (Go.Operand.tmp 12), type := 0, pos := "law.go:28", after := #[{ on := 4, ground := Go.Ground.data }, { on := 1, ground := Go.Ground.data }, { on := 6, ground := Go.Ground.chain }, { on := 0, ground := Go.Ground.phase }, { on := 1, ground := Go.Ground.phase }, { on := 2, ground := Go.Ground.textOnly Go.Departure.lateStores }, { on := 3, ground := Go.Ground.phase }, { on := 4, ground := Go.Ground.phase }, { on := 5, ground := Go.Ground.phase }, { on := 6, ground := Go.Ground.phase }], guard := none }) rfl (fun K hK => ?_) AllReadyH.nil
        (refine step_store16 rfl (.tmp 8) (.tmp 12) rfl W0.heap.size rfl Y zero16 rfl hG8_15 HCY.out HC0.out ?_; have hG8_16 := Blk.store16 hG8_15 HCY.out HC0.out; have hA_16 := SA.set hA_15 HL8.out Y.toList; have hG7_16 := (Own.setCells Y.toList 0 v_15).blk hG7_15 HN7x8.out; have hG9_16 := (Own.setCells Y.toList 0 v_15).blk hG9_15 HN9x8.out; have hO_16 := Below.set16 (g := W0.heap.size) hO_15 HW8.out hO_15.size Y.toList; obtain ⟨v_16, hw_16⟩ : ∃ q, (v_15.setCells W0.heap.size 0 Y.toList) = q := ⟨_, rfl⟩; rw [hw_16] at hG8_16 hA_16 hG7_16 hG9_16 hO_16 ⊢; clear hG8_15 hA_15 hG7_15 hG9_15 hO_15 hw_16; skip)
        refine hK.out _ _ ?_ (fun hHeld => ?_)
        · (try dsimp only)
          first | assumption | (apply SL.drew; assumption) | (apply SA.drew; assumption)
        clear hK K
        (try simp only [Act.put, List.setIfInBounds_toArray, List.set_cons_zero, List.set_cons_succ])
        refine wpAnyH_ready (rs := [8]) (by kernel_rfl) (by simp) ?_
        refine AllReadyH.cons (o := { dst := none, op := Go.Op.store 26 (Go.Operand.tmp 9) (Go.Operand.tmp 13), type := 0, pos := "law.go:28", after := #[{ on := 5, ground := Go.Ground.data }, { on := 2, ground := Go.Ground.data }, { on := 7, ground := Go.Ground.chain }, { on := 0, ground := Go.Ground.phase }, { on := 1, ground := Go.Ground.phase }, { on := 2, ground := Go.Ground.phase }, { on := 3, ground := Go.Ground.phase }, { on := 4, ground := Go.Ground.phase }, { on := 5, ground := Go.Ground.phase }, { on := 6, ground := Go.Ground.phase }, { on := 7, ground := Go.Ground.phase }], guard := none }) rfl (fun K hK => ?_) AllReadyH.nil
        (refine step_store16 rfl (.tmp 9) (.tmp 13) rfl v_13.heap.size rfl Z zero16 rfl hG9_16 HCZ.out HC0.out ?_; have hG9_17 := Blk.store16 hG9_16 HCZ.out HC0.out; have hA_17 := SA.set hA_16 HL9.out Z.toList; have hG7_17 := (Own.setCells Z.toList 0 v_16).blk hG7_16 HN7x9.out; have hG8_17 := (Own.setCells Z.toList 0 v_16).blk hG8_16 HN8x9.out; have hO_17 := Below.set16 (g := v_13.heap.size) hO_16 HW9.out hO_16.size Z.toList; obtain ⟨v_17, hw_17⟩ : ∃ q, (v_16.setCells v_13.heap.size 0 Z.toList) = q := ⟨_, rfl⟩; rw [hw_17] at hG9_17 hA_17 hG7_17 hG8_17 hO_17 ⊢; clear hG9_16 hA_16 hG7_16 hG8_16 hO_16 hw_17; skip)
        refine hK.out _ _ ?_ (fun hHeld => ?_)
        · (try dsimp only)
          first | assumption | (apply SL.drew; assumption) | (apply SA.drew; assumption)
        clear hK K
        (try simp only [Act.put, List.setIfInBounds_toArray, List.set_cons_zero, List.set_cons_succ])
        refine wpAnyH_done (by kernel_rfl) ?_ _
        go_wp2_with fail
        go_meet
        exact ⟨_, _, _, rfl, rfl, rfl, SL.cons hG7_17 (SL.cons hG8_17 (SL.cons hG9_17 (SL.nil _))), hO_17⟩
      refine AllReadyH.cons (o := { dst := some 9, op := Go.Op.alloc 26, type := 0, pos := "law.go:28", after := #[], guard := none }) rfl (fun K hK => ?_) AllReadyH.nil
      go_simp
      (obtain ⟨v_18, hw_18⟩ : ∃ q, v_12.alloc (.cells zero16 26) = q := ⟨_, rfl⟩; rw [hw_18]; have hb_18 : Below v_12.heap.size v_12 v_18 := (by rw [← hw_18]; exact (Below.refl _ _).alloc (Nat.le_refl _) _); have HL9 : Hid (∀ p ∈ [(w.heap.size, X), (w.heap.size + 1, Y), (w.heap.size + 1 + 1, Z)], p.1 ≠ v_12.heap.size) := Lib.hid (SA.lt hA_12); have HW9 : Hid (w.heap.size ≤ v_12.heap.size) := Lib.hid hO_12.size; have HN8x9 : Hid (W0.heap.size ≠ v_12.heap.size) := Lib.hid (Nat.ne_of_lt (Blk.lt hG8_12)); have HN9x8 : Hid (v_12.heap.size ≠ W0.heap.size) := Lib.hid (Nat.ne_of_gt (Blk.lt hG8_12)); have hA_18 := SA.later hA_12 hb_18; have hG8_18 := Blk.below hG8_12 hb_18 (Blk.lt hG8_12); have hO_18 := Below.trans hO_12 (hb_18.mono hO_12.size); have hG9_18 : Blk v_18 v_12.heap.size zero16 26 := (by rw [← hw_18]; exact Blk.new _ _ _); clear hA_12 hG8_12 hO_12; clear hb_18 hw_18; skip)
      (try go_wp2_with fail)
      refine hK.out _ _ ?_ (fun hHeld => ?_)
      · (try dsimp only)
        first | assumption | (apply SL.drew; assumption) | (apply SA.drew; assumption)
      clear hK K
      (try simp only [Act.put, List.setIfInBounds_toArray, List.set_cons_zero, List.set_cons_succ])
      refine wpAnyH_ready (rs := [3]) (by kernel_rfl) (by simp) ?_
      refine AllReadyH.cons (o := { dst := some 7, op := Go.Op.alloc 26, type := 0, pos := "law.go:28", after := #[], guard := none }) rfl (fun K hK => ?_) AllReadyH.nil
      go_simp
      (obtain ⟨v_19, hw_19⟩ : ∃ q, v_18.alloc (.cells zero16 26) = q := ⟨_, rfl⟩; rw [hw_19]; have hb_19 : Below v_18.heap.size v_18 v_19 := (by rw [← hw_19]; exact (Below.refl _ _).alloc (Nat.le_refl _) _); have HL7 : Hid (∀ p ∈ [(w.heap.size, X), (w.heap.size + 1, Y), (w.heap.size + 1 + 1, Z)], p.1 ≠ v_18.heap.size) := Lib.hid (SA.lt hA_18); have HW7 : Hid (w.heap.size ≤ v_18.heap.size) := Lib.hid hO_18.size; have HN8x7 : Hid (W0.heap.size ≠ v_18.heap.size) := Lib.hid (Nat.ne_of_lt (Blk.lt hG8_18)); have HN7x8 : Hid (v_18.heap.size ≠ W0.heap.size) := Lib.hid (Nat.ne_of_gt (Blk.lt hG8_18)); have HN9x7 : Hid (v_12.heap.size ≠ v_18.heap.size) := Lib.hid (Nat.ne_of_lt (Blk.lt hG9_18)); have HN7x9 : Hid (v_18.heap.size ≠ v_12.heap.size) := Lib.hid (Nat.ne_of_gt (Blk.lt hG9_18)); have hA_19 := SA.later hA_18 hb_19; have hG8_19 := Blk.below hG8_18 hb_19 (Blk.lt hG8_18); have hG9_19 := Blk.below hG9_18 hb_19 (Blk.lt hG9_18); have hO_19 := Below.trans hO_18 (hb_19.mono hO_18.size); have hG7_19 : Blk v_19 v_18.heap.size zero16 26 := (by rw [← hw_19]; exact Blk.new _ _ _); clear hA_18 hG8_18 hG9_18 hO_18; clear hb_19 hw_19; skip)
      (try go_wp2_with fail)
      refine hK.out _ _ ?_ (fun hHeld => ?_)
      · (try dsimp only)
        first | assumption | (apply SL.drew; assumption) | (apply SA.drew; assumption)
      clear hK K
      (try simp only [Act.put, List.setIfInBounds_toArray, List.set_cons_zero, List.set_cons_succ])
      refine wpAnyH_ready (rs := [6]) (by kernel_rfl) (by simp) ?_
      refine AllReadyH.cons (o := { dst := none, op := Go.Op.store 26 (Go.Operand.tmp 7) (Go.Operand.tmp 11), type := 0, pos := "law.go:28", after := #[{ on := 3, ground := Go.Ground.data }, { on := 0, ground := Go.Ground.data }, { on := 0, ground := Go.Ground.phase }, { on := 1, ground := Go.Ground.textOnly Go.Departure.lateStores }, { on := 2, ground := Go.Ground.textOnly Go.Departure.lateStores }, { on := 3, ground := Go.Ground.phase }, { on := 4, ground := Go.Ground.phase }, { on := 5, ground := Go.Ground.phase }], guard := none }) rfl (fun K hK => ?_) AllReadyH.nil
      (refine step_store16 rfl (.tmp 7) (.tmp 11) rfl v_18.heap.size rfl X zero16 rfl hG7_19 HCX.out HC0.out ?_; have hG7_20 := Blk.store16 hG7_19 HCX.out HC0.out; have hA_20 := SA.set hA_19 HL7.out X.toList; have hG8_20 := (Own.setCells X.toList 0 v_19).blk hG8_19 HN8x7.out; have hG9_20 := (Own.setCells X.toList 0 v_19).blk hG9_19 HN9x7.out; have hO_20 := Below.set16 (g := v_18.heap.size) hO_19 HW7.out hO_19.size X.toList; obtain ⟨v_20, hw_20⟩ : ∃ q, (v_19.setCells v_18.heap.size 0 X.toList) = q := ⟨_, rfl⟩; rw [hw_20] at hG7_20 hA_20 hG8_20 hG9_20 hO_20 ⊢; clear hG7_19 hA_19 hG8_19 hG9_19 hO_19 hw_20; skip)
      refine hK.out _ _ ?_ (fun hHeld => ?_)
      · (try dsimp only)
        first | assumption | (apply SL.drew; assumption) | (apply SA.drew; assumption)
      clear hK K
      (try simp only [Act.put, List.setIfInBounds_toArray, List.set_cons_zero, List.set_cons_succ])
      refine wpAnyH_ready (rs := [7]) (by kernel_rfl) (by simp) ?_
      refine AllReadyH.cons (o := { dst := none, op := Go.Op.store 26 (Go.Operand.tmp 8) (Go.Operand.tmp 12), type := 0, pos := "law.go:28", after := #[{ on := 4, ground := Go.Ground.data }, { on := 1, ground := Go.Ground.data }, { on := 6, ground := Go.Ground.chain }, { on := 0, ground := Go.Ground.phase }, { on := 1, ground := Go.Ground.phase }, { on := 2, ground := Go.Ground.textOnly Go.Departure.lateStores }, { on := 3, ground := Go.Ground.phase }, { on := 4, ground := Go.Ground.phase }, { on := 5, ground := Go.Ground.phase }, { on := 6, ground := Go.Ground.phase }], guard := none }) rfl (fun K hK => ?_) AllReadyH.nil
      (refine step_store16 rfl (.tmp 8) (.tmp 12) rfl W0.heap.size rfl Y zero16 rfl hG8_20 HCY.out HC0.out ?_; have hG8_21 := Blk.store16 hG8_20 HCY.out HC0.out; have hA_21 := SA.set hA_20 HL8.out Y.toList; have hG7_21 := (Own.setCells Y.toList 0 v_20).blk hG7_20 HN7x8.out; have hG9_21 := (Own.setCells Y.toList 0 v_20).blk hG9_20 HN9x8.out; have hO_21 := Below.set16 (g := W0.heap.size) hO_20 HW8.out hO_20.size Y.toList; obtain ⟨v_21, hw_21⟩ : ∃ q, (v_20.setCells W0.heap.size 0 Y.toList) = q := ⟨_, rfl⟩; rw [hw_21] at hG8_21 hA_21 hG7_21 hG9_21 hO_21 ⊢; clear hG8_20 hA_20 hG7_20 hG9_20 hO_20 hw_21; skip)
      refine hK.out _ _ ?_ (fun hHeld => ?_)
      · (try dsimp only)
        first | assumption | (apply SL.drew; assumption) | (apply SA.drew; assumption)
      clear hK K
      (try simp only [Act.put, List.setIfInBounds_toArray, List.set_cons_zero, List.set_cons_succ])
      refine wpAnyH_ready (rs := [8]) (by kernel_rfl) (by simp) ?_
      refine AllReadyH.cons (o := { dst := none, op := Go.Op.store 26 (Go.Operand.tmp 9) (Go.Operand.tmp 13), type := 0, pos := "law.go:28", after := #[{ on := 5, ground := Go.Ground.data }, { on := 2, ground := Go.Ground.data }, { on := 7, ground := Go.Ground.chain }, { on := 0, ground := Go.Ground.phase }, { on := 1, ground := Go.Ground.phase }, { on := 2, ground := Go.Ground.phase }, { on := 3, ground := Go.Ground.phase }, { on := 4, ground := Go.Ground.phase }, { on := 5, ground := Go.Ground.phase }, { on := 6, ground := Go.Ground.phase }, { on := 7, ground := Go.Ground.phase }], guard := none }) rfl (fun K hK => ?_) AllReadyH.nil
      (refine step_store16 rfl (.tmp 9) (.tmp 13) rfl v_12.heap.size rfl Z zero16 rfl hG9_21 HCZ.out HC0.out ?_; have hG9_22 := Blk.store16 hG9_21 HCZ.out HC0.out; have hA_22 := SA.set hA_21 HL9.out Z.toList; have hG7_22 := (Own.setCells Z.toList 0 v_21).blk hG7_21 HN7x9.out; have hG8_22 := (Own.setCells Z.toList 0 v_21).blk hG8_21 HN8x9.out; have hO_22 := Below.set16 (g := v_12.heap.size) hO_21 HW9.out hO_21.size Z.toList; obtain ⟨v_22, hw_22⟩ : ∃ q, (v_21.setCells v_12.heap.size 0 Z.toList) = q := ⟨_, rfl⟩; rw [hw_22] at hG9_22 hA_22 hG7_22 hG8_22 hO_22 ⊢; clear hG9_21 hA_21 hG7_21 hG8_21 hO_21 hw_22; skip)
      refine hK.out _ _ ?_ (fun hHeld => ?_)
      · (try dsimp only)
        first | assumption | (apply SL.drew; assumption) | (apply SA.drew; assumption)
      clear hK K
      (try simp only [Act.put, List.setIfInBounds_toArray, List.set_cons_zero, List.set_cons_succ])
      refine wpAnyH_done (by kernel_rfl) ?_ _
      go_wp2_with fail
      go_meet
      exact ⟨_, _, _, rfl, rfl, rfl, SL.cons hG7_22 (SL.cons hG8_22 (SL.cons hG9_22 (SL.nil _))), hO_22⟩
    refine AllReadyH.cons (o := { dst := some 9, op := Go.Op.alloc 26, type := 0, pos := "law.go:28", after := #[], guard := none }) rfl (fun K hK => ?_) AllReadyH.nil
    go_simp
    (obtain ⟨v_23, hw_23⟩ : ∃ q, W0.alloc (.cells zero16 26) = q := ⟨_, rfl⟩; rw [hw_23]; have hb_23 : Below W0.heap.size W0 v_23 := (by rw [← hw_23]; exact (Below.refl _ _).alloc (Nat.le_refl _) _); have HL9 : Hid (∀ p ∈ [(w.heap.size, X), (w.heap.size + 1, Y), (w.heap.size + 1 + 1, Z)], p.1 ≠ W0.heap.size) := Lib.hid (SA.lt hA_0); have HW9 : Hid (w.heap.size ≤ W0.heap.size) := Lib.hid hO_0.size; have hA_23 := SA.later hA_0 hb_23; have hO_23 := Below.trans hO_0 (hb_23.mono hO_0.size); have hG9_23 : Blk v_23 W0.heap.size zero16 26 := (by rw [← hw_23]; exact Blk.new _ _ _); clear hA_0 hO_0; clear hb_23 hw_23; skip)
    (try go_wp2_with fail)
    refine hK.out _ _ ?_ (fun hHeld => ?_)
    · (try dsimp only)
      first | assumption | (apply SL.drew; assumption) | (apply SA.drew; assumption)
    clear hK K
    (try simp only [Act.put, List.setIfInBounds_toArray, List.set_cons_zero, List.set_cons_succ])
    refine wpAnyH_ready (rs := [3, 4]) (by kernel_rfl) (by simp) ?_
    refine AllReadyH.cons (o := { dst := some 7, op := Go.Op.alloc 26, type := 0, pos := "law.go:28", after := #[], guard := none }) rfl (fun K hK => ?_) ?_
    · skip
      go_simp
      (obtain ⟨v_24, hw_24⟩ : ∃ q, v_23.alloc (.cells zero16 26) = q := ⟨_, rfl⟩; rw [hw_24]; have hb_24 : Below v_23.heap.size v_23 v_24 := (by rw [← hw_24]; exact (Below.refl _ _).alloc (Nat.le_refl _) _); have HL7 : Hid (∀ p ∈ [(w.heap.size, X), (w.heap.size + 1, Y), (w.heap.size + 1 + 1, Z)], p.1 ≠ v_23.heap.size) := Lib.hid (SA.lt hA_23); have HW7 : Hid (w.heap.size ≤ v_23.heap.size) := Lib.hid hO_23.size; have HN9x7 : Hid (W0.heap.size ≠ v_23.heap.size) := Lib.hid (Nat.ne_of_lt (Blk.lt hG9_23)); have HN7x9 : Hid (v_23.heap.size ≠ W0.heap.size) := Lib.hid (Nat.ne_of_gt (Blk.lt hG9_23)); have hA_24 := SA.later hA_23 hb_24; have hG9_24 := Blk.below hG9_23 hb_24 (Blk.lt hG9_23); have hO_24 := Below.trans hO_23 (hb_24.mono hO_23.size); have hG7_24 : Blk v_24 v_23.heap.size zero16 26 := (by rw [← hw_24]; exact Blk.new _ _ _); clear hA_23 hG9_23 hO_23; clear hb_24 hw_24; skip)
      (try go_wp2_with fail)
      refine hK.out _ _ ?_ (fun hHeld => ?_)
      · (try dsimp only)
        first | assumption | (apply SL.drew; assumption) | (apply SA.drew; assumption)
      clear hK K
      (try simp only [Act.put, List.setIfInBounds_toArray, List.set_cons_zero, List.set_cons_succ])
      refine wpAnyH_ready (rs := [4]) (by kernel_rfl) (by simp) ?_
      refine AllReadyH.cons (o := { dst := some 8, op := Go.Op.alloc 26, type := 0, pos := "law.go:28", after := #[], guard := none }) rfl (fun K hK => ?_) AllReadyH.nil
      go_simp
      (obtain ⟨v_25, hw_25⟩ : ∃ q, v_24.alloc (.cells zero16 26) = q := ⟨_, rfl⟩; rw [hw_25]; have hb_25 : Below v_24.heap.size v_24 v_25 := (by rw [← hw_25]; exact (Below.refl _ _).alloc (Nat.le_refl _) _); have HL8 : Hid (∀ p ∈ [(w.heap.size, X), (w.heap.size + 1, Y), (w.heap.size + 1 + 1, Z)], p.1 ≠ v_24.heap.size) := Lib.hid (SA.lt hA_24); have HW8 : Hid (w.heap.size ≤ v_24.heap.size) := Lib.hid hO_24.size; have HN9x8 : Hid (W0.heap.size ≠ v_24.heap.size) := Lib.hid (Nat.ne_of_lt (Blk.lt hG9_24)); have HN8x9 : Hid (v_24.heap.size ≠ W0.heap.size) := Lib.hid (Nat.ne_of_gt (Blk.lt hG9_24)); have HN7x8 : Hid (v_23.heap.size ≠ v_24.heap.size) := Lib.hid (Nat.ne_of_lt (Blk.lt hG7_24)); have HN8x7 : Hid (v_24.heap.size ≠ v_23.heap.size) := Lib.hid (Nat.ne_of_gt (Blk.lt hG7_24)); have hA_25 := SA.later hA_24 hb_25; have hG9_25 := Blk.below hG9_24 hb_25 (Blk.lt hG9_24); have hG7_25 := Blk.below hG7_24 hb_25 (Blk.lt hG7_24); have hO_25 := Below.trans hO_24 (hb_25.mono hO_24.size); have hG8_25 : Blk v_25 v_24.heap.size zero16 26 := (by rw [← hw_25]; exact Blk.new _ _ _); clear hA_24 hG9_24 hG7_24 hO_24; clear hb_25 hw_25; skip)
      (try go_wp2_with fail)
      refine hK.out _ _ ?_ (fun hHeld => ?_)
      · (try dsimp only)
        first | assumption | (apply SL.drew; assumption) | (apply SA.drew; assumption)
      clear hK K
      (try simp only [Act.put, List.setIfInBounds_toArray, List.set_cons_zero, List.set_cons_succ])
      refine wpAnyH_ready (rs := [6]) (by kernel_rfl) (by simp) ?_
      refine AllReadyH.cons (o := { dst := none, op := Go.Op.store 26 (Go.Operand.tmp 7) (Go.Operand.tmp 11), type := 0, pos := "law.go:28", after := #[{ on := 3, ground := Go.Ground.data }, { on := 0, ground := Go.Ground.data }, { on := 0, ground := Go.Ground.phase }, { on := 1, ground := Go.Ground.textOnly Go.Departure.lateStores }, { on := 2, ground := Go.Ground.textOnly Go.Departure.lateStores }, { on := 3, ground := Go.Ground.phase }, { on := 4, ground := Go.Ground.phase }, { on := 5, ground := Go.Ground.phase }], guard := none }) rfl (fun K hK => ?_) AllReadyH.nil
      (refine step_store16 rfl (.tmp 7) (.tmp 11) rfl v_23.heap.size rfl X zero16 rfl hG7_25 HCX.out HC0.out ?_; have hG7_26 := Blk.store16 hG7_25 HCX.out HC0.out; have hA_26 := SA.set hA_25 HL7.out X.toList; have hG8_26 := (Own.setCells X.toList 0 v_25).blk hG8_25 HN8x7.out; have hG9_26 := (Own.setCells X.toList 0 v_25).blk hG9_25 HN9x7.out; have hO_26 := Below.set16 (g := v_23.heap.size) hO_25 HW7.out hO_25.size X.toList; obtain ⟨v_26, hw_26⟩ : ∃ q, (v_25.setCells v_23.heap.size 0 X.toList) = q := ⟨_, rfl⟩; rw [hw_26] at hG7_26 hA_26 hG8_26 hG9_26 hO_26 ⊢; clear hG7_25 hA_25 hG8_25 hG9_25 hO_25 hw_26; skip)
      refine hK.out _ _ ?_ (fun hHeld => ?_)
      · (try dsimp only)
        first | assumption | (apply SL.drew; assumption) | (apply SA.drew; assumption)
      clear hK K
      (try simp only [Act.put, List.setIfInBounds_toArray, List.set_cons_zero, List.set_cons_succ])
      refine wpAnyH_ready (rs := [7]) (by kernel_rfl) (by simp) ?_
      refine AllReadyH.cons (o := { dst := none, op := Go.Op.store 26 (Go.Operand.tmp 8) (Go.Operand.tmp 12), type := 0, pos := "law.go:28", after := #[{ on := 4, ground := Go.Ground.data }, { on := 1, ground := Go.Ground.data }, { on := 6, ground := Go.Ground.chain }, { on := 0, ground := Go.Ground.phase }, { on := 1, ground := Go.Ground.phase }, { on := 2, ground := Go.Ground.textOnly Go.Departure.lateStores }, { on := 3, ground := Go.Ground.phase }, { on := 4, ground := Go.Ground.phase }, { on := 5, ground := Go.Ground.phase }, { on := 6, ground := Go.Ground.phase }], guard := none }) rfl (fun K hK => ?_) AllReadyH.nil
      (refine step_store16 rfl (.tmp 8) (.tmp 12) rfl v_24.heap.size rfl Y zero16 rfl hG8_26 HCY.out HC0.out ?_; have hG8_27 := Blk.store16 hG8_26 HCY.out HC0.out; have hA_27 := SA.set hA_26 HL8.out Y.toList; have hG7_27 := (Own.setCells Y.toList 0 v_26).blk hG7_26 HN7x8.out; have hG9_27 := (Own.setCells Y.toList 0 v_26).blk hG9_26 HN9x8.out; have hO_27 := Below.set16 (g := v_24.heap.size) hO_26 HW8.out hO_26.size Y.toList; obtain ⟨v_27, hw_27⟩ : ∃ q, (v_26.setCells v_24.heap.size 0 Y.toList) = q := ⟨_, rfl⟩; rw [hw_27] at hG8_27 hA_27 hG7_27 hG9_27 hO_27 ⊢; clear hG8_26 hA_26 hG7_26 hG9_26 hO_26 hw_27; skip)
      refine hK.out _ _ ?_ (fun hHeld => ?_)
      · (try dsimp only)
        first | assumption | (apply SL.drew; assumption) | (apply SA.drew; assumption)
      clear hK K
      (try simp only [Act.put, List.setIfInBounds_toArray, List.set_cons_zero, List.set_cons_succ])
      refine wpAnyH_ready (rs := [8]) (by kernel_rfl) (by simp) ?_
      refine AllReadyH.cons (o := { dst := none, op := Go.Op.store 26 (Go.Operand.tmp 9) (Go.Operand.tmp 13), type := 0, pos := "law.go:28", after := #[{ on := 5, ground := Go.Ground.data }, { on := 2, ground := Go.Ground.data }, { on := 7, ground := Go.Ground.chain }, { on := 0, ground := Go.Ground.phase }, { on := 1, ground := Go.Ground.phase }, { on := 2, ground := Go.Ground.phase }, { on := 3, ground := Go.Ground.phase }, { on := 4, ground := Go.Ground.phase }, { on := 5, ground := Go.Ground.phase }, { on := 6, ground := Go.Ground.phase }, { on := 7, ground := Go.Ground.phase }], guard := none }) rfl (fun K hK => ?_) AllReadyH.nil
      (refine step_store16 rfl (.tmp 9) (.tmp 13) rfl W0.heap.size rfl Z zero16 rfl hG9_27 HCZ.out HC0.out ?_; have hG9_28 := Blk.store16 hG9_27 HCZ.out HC0.out; have hA_28 := SA.set hA_27 HL9.out Z.toList; have hG7_28 := (Own.setCells Z.toList 0 v_27).blk hG7_27 HN7x9.out; have hG8_28 := (Own.setCells Z.toList 0 v_27).blk hG8_27 HN8x9.out; have hO_28 := Below.set16 (g := W0.heap.size) hO_27 HW9.out hO_27.size Z.toList; obtain ⟨v_28, hw_28⟩ : ∃ q, (v_27.setCells W0.heap.size 0 Z.toList) = q := ⟨_, rfl⟩; rw [hw_28] at hG9_28 hA_28 hG7_28 hG8_28 hO_28 ⊢; clear hG9_27 hA_27 hG7_27 hG8_27 hO_27 hw_28; skip)
      refine hK.out _ _ ?_ (fun hHeld => ?_)
      · (try dsimp only)
        first | assumption | (apply SL.drew; assumption) | (apply SA.drew; assumption)
      clear hK K
      (try simp only [Act.put, List.setIfInBounds_toArray, List.set_cons_zero, List.set_cons_succ])
      refine wpAnyH_done (by kernel_rfl) ?_ _
      go_wp2_with fail
      go_meet
      exact ⟨_, _, _, rfl, rfl, rfl, SL.cons hG7_28 (SL.cons hG8_28 (SL.cons hG9_28 (SL.nil _))), hO_28⟩
    refine AllReadyH.cons (o := { dst := some 8, op := Go.Op.alloc 26, type := 0, pos := "law.go:28", after := #[], guard := none }) rfl (fun K hK => ?_) AllReadyH.nil
    go_simp
    (obtain ⟨v_29, hw_29⟩ : ∃ q, v_23.alloc (.cells zero16 26) = q := ⟨_, rfl⟩; rw [hw_29]; have hb_29 : Below v_23.heap.size v_23 v_29 := (by rw [← hw_29]; exact (Below.refl _ _).alloc (Nat.le_refl _) _); have HL8 : Hid (∀ p ∈ [(w.heap.size, X), (w.heap.size + 1, Y), (w.heap.size + 1 + 1, Z)], p.1 ≠ v_23.heap.size) := Lib.hid (SA.lt hA_23); have HW8 : Hid (w.heap.size ≤ v_23.heap.size) := Lib.hid hO_23.size; have HN9x8 : Hid (W0.heap.size ≠ v_23.heap.size) := Lib.hid (Nat.ne_of_lt (Blk.lt hG9_23)); have HN8x9 : Hid (v_23.heap.size ≠ W0.heap.size) := Lib.hid (Nat.ne_of_gt (Blk.lt hG9_23)); have hA_29 := SA.later hA_23 hb_29; have hG9_29 := Blk.below hG9_23 hb_29 (Blk.lt hG9_23); have hO_29 := Below.trans hO_23 (hb_29.mono hO_23.size); have hG8_29 : Blk v_29 v_23.heap.size zero16 26 := (by rw [← hw_29]; exact Blk.new _ _ _); clear hA_23 hG9_23 hO_23; clear hb_29 hw_29; skip)
    (try go_wp2_with fail)
    refine hK.out _ _ ?_ (fun hHeld => ?_)
    · (try dsimp only)
      first | assumption | (apply SL.drew; assumption) | (apply SA.drew; assumption)
    clear hK K
    (try simp only [Act.put, List.setIfInBounds_toArray, List.set_cons_zero, List.set_cons_succ])
    refine wpAnyH_ready (rs := [3]) (by kernel_rfl) (by simp) ?_
    refine AllReadyH.cons (o := { dst := some 7, op := Go.Op.alloc 26, type := 0, pos := "law.go:28", after := #[], guard := none }) rfl (fun K hK => ?_) AllReadyH.nil
    go_simp
    (obtain ⟨v_30, hw_30⟩ : ∃ q, v_29.alloc (.cells zero16 26) = q := ⟨_, rfl⟩; rw [hw_30]; have hb_30 : Below v_29.heap.size v_29 v_30 := (by rw [← hw_30]; exact (Below.refl _ _).alloc (Nat.le_refl _) _); have HL7 : Hid (∀ p ∈ [(w.heap.size, X), (w.heap.size + 1, Y), (w.heap.size + 1 + 1, Z)], p.1 ≠ v_29.heap.size) := Lib.hid (SA.lt hA_29); have HW7 : Hid (w.heap.size ≤ v_29.heap.size) := Lib.hid hO_29.size; have HN9x7 : Hid (W0.heap.size ≠ v_29.heap.size) := Lib.hid (Nat.ne_of_lt (Blk.lt hG9_29)); have HN7x9 : Hid (v_29.heap.size ≠ W0.heap.size) := Lib.hid (Nat.ne_of_gt (Blk.lt hG9_29)); have HN8x7 : Hid (v_23.heap.size ≠ v_29.heap.size) := Lib.hid (Nat.ne_of_lt (Blk.lt hG8_29)); have HN7x8 : Hid (v_29.heap.size ≠ v_23.heap.size) := Lib.hid (Nat.ne_of_gt (Blk.lt hG8_29)); have hA_30 := SA.later hA_29 hb_30; have hG9_30 := Blk.below hG9_29 hb_30 (Blk.lt hG9_29); have hG8_30 := Blk.below hG8_29 hb_30 (Blk.lt hG8_29); have hO_30 := Below.trans hO_29 (hb_30.mono hO_29.size); have hG7_30 : Blk v_30 v_29.heap.size zero16 26 := (by rw [← hw_30]; exact Blk.new _ _ _); clear hA_29 hG9_29 hG8_29 hO_29; clear hb_30 hw_30; skip)
    (try go_wp2_with fail)
    refine hK.out _ _ ?_ (fun hHeld => ?_)
    · (try dsimp only)
      first | assumption | (apply SL.drew; assumption) | (apply SA.drew; assumption)
    clear hK K
    (try simp only [Act.put, List.setIfInBounds_toArray, List.set_cons_zero, List.set_cons_succ])
    refine wpAnyH_ready (rs := [6]) (by kernel_rfl) (by simp) ?_
    refine AllReadyH.cons (o := { dst := none, op := Go.Op.store 26 (Go.Operand.tmp 7) (Go.Operand.tmp 11), type := 0, pos := "law.go:28", after := #[{ on := 3, ground := Go.Ground.data }, { on := 0, ground := Go.Ground.data }, { on := 0, ground := Go.Ground.phase }, { on := 1, ground := Go.Ground.textOnly Go.Departure.lateStores }, { on := 2, ground := Go.Ground.textOnly Go.Departure.lateStores }, { on := 3, ground := Go.Ground.phase }, { on := 4, ground := Go.Ground.phase }, { on := 5, ground := Go.Ground.phase }], guard := none }) rfl (fun K hK => ?_) AllReadyH.nil
    (refine step_store16 rfl (.tmp 7) (.tmp 11) rfl v_29.heap.size rfl X zero16 rfl hG7_30 HCX.out HC0.out ?_; have hG7_31 := Blk.store16 hG7_30 HCX.out HC0.out; have hA_31 := SA.set hA_30 HL7.out X.toList; have hG8_31 := (Own.setCells X.toList 0 v_30).blk hG8_30 HN8x7.out; have hG9_31 := (Own.setCells X.toList 0 v_30).blk hG9_30 HN9x7.out; have hO_31 := Below.set16 (g := v_29.heap.size) hO_30 HW7.out hO_30.size X.toList; obtain ⟨v_31, hw_31⟩ : ∃ q, (v_30.setCells v_29.heap.size 0 X.toList) = q := ⟨_, rfl⟩; rw [hw_31] at hG7_31 hA_31 hG8_31 hG9_31 hO_31 ⊢; clear hG7_30 hA_30 hG8_30 hG9_30 hO_30 hw_31; skip)
    refine hK.out _ _ ?_ (fun hHeld => ?_)
    · (try dsimp only)
      first | assumption | (apply SL.drew; assumption) | (apply SA.drew; assumption)
    clear hK K
    (try simp only [Act.put, List.setIfInBounds_toArray, List.set_cons_zero, List.set_cons_succ])
    refine wpAnyH_ready (rs := [7]) (by kernel_rfl) (by simp) ?_
    refine AllReadyH.cons (o := { dst := none, op := Go.Op.store 26 (Go.Operand.tmp 8) (Go.Operand.tmp 12), type := 0, pos := "law.go:28", after := #[{ on := 4, ground := Go.Ground.data }, { on := 1, ground := Go.Ground.data }, { on := 6, ground := Go.Ground.chain }, { on := 0, ground := Go.Ground.phase }, { on := 1, ground := Go.Ground.phase }, { on := 2, ground := Go.Ground.textOnly Go.Departure.lateStores }, { on := 3, ground := Go.Ground.phase }, { on := 4, ground := Go.Ground.phase }, { on := 5, ground := Go.Ground.phase }, { on := 6, ground := Go.Ground.phase }], guard := none }) rfl (fun K hK => ?_) AllReadyH.nil
    (refine step_store16 rfl (.tmp 8) (.tmp 12) rfl v_23.heap.size rfl Y zero16 rfl hG8_31 HCY.out HC0.out ?_; have hG8_32 := Blk.store16 hG8_31 HCY.out HC0.out; have hA_32 := SA.set hA_31 HL8.out Y.toList; have hG7_32 := (Own.setCells Y.toList 0 v_31).blk hG7_31 HN7x8.out; have hG9_32 := (Own.setCells Y.toList 0 v_31).blk hG9_31 HN9x8.out; have hO_32 := Below.set16 (g := v_23.heap.size) hO_31 HW8.out hO_31.size Y.toList; obtain ⟨v_32, hw_32⟩ : ∃ q, (v_31.setCells v_23.heap.size 0 Y.toList) = q := ⟨_, rfl⟩; rw [hw_32] at hG8_32 hA_32 hG7_32 hG9_32 hO_32 ⊢; clear hG8_31 hA_31 hG7_31 hG9_31 hO_31 hw_32; skip)
    refine hK.out _ _ ?_ (fun hHeld => ?_)
    · (try dsimp only)
      first | assumption | (apply SL.drew; assumption) | (apply SA.drew; assumption)
    clear hK K
    (try simp only [Act.put, List.setIfInBounds_toArray, List.set_cons_zero, List.set_cons_succ])
    refine wpAnyH_ready (rs := [8]) (by kernel_rfl) (by simp) ?_
    refine AllReadyH.cons (o := { dst := none, op := Go.Op.store 26 (Go.Operand.tmp 9) (Go.Operand.tmp 13), type := 0, pos := "law.go:28", after := #[{ on := 5, ground := Go.Ground.data }, { on := 2, ground := Go.Ground.data }, { on := 7, ground := Go.Ground.chain }, { on := 0, ground := Go.Ground.phase }, { on := 1, ground := Go.Ground.phase }, { on := 2, ground := Go.Ground.phase }, { on := 3, ground := Go.Ground.phase }, { on := 4, ground := Go.Ground.phase }, { on := 5, ground := Go.Ground.phase }, { on := 6, ground := Go.Ground.phase }, { on := 7, ground := Go.Ground.phase }], guard := none }) rfl (fun K hK => ?_) AllReadyH.nil
    (refine step_store16 rfl (.tmp 9) (.tmp 13) rfl W0.heap.size rfl Z zero16 rfl hG9_32 HCZ.out HC0.out ?_; have hG9_33 := Blk.store16 hG9_32 HCZ.out HC0.out; have hA_33 := SA.set hA_32 HL9.out Z.toList; have hG7_33 := (Own.setCells Z.toList 0 v_32).blk hG7_32 HN7x9.out; have hG8_33 := (Own.setCells Z.toList 0 v_32).blk hG8_32 HN8x9.out; have hO_33 := Below.set16 (g := W0.heap.size) hO_32 HW9.out hO_32.size Z.toList; obtain ⟨v_33, hw_33⟩ : ∃ q, (v_32.setCells W0.heap.size 0 Z.toList) = q := ⟨_, rfl⟩; rw [hw_33] at hG9_33 hA_33 hG7_33 hG8_33 hO_33 ⊢; clear hG9_32 hA_32 hG7_32 hG8_32 hO_32 hw_33; skip)
    refine hK.out _ _ ?_ (fun hHeld => ?_)
    · (try dsimp only)
      first | assumption | (apply SL.drew; assumption) | (apply SA.drew; assumption)
    clear hK K
    (try simp only [Act.put, List.setIfInBounds_toArray, List.set_cons_zero, List.set_cons_succ])
    refine wpAnyH_done (by kernel_rfl) ?_ _
    go_wp2_with fail
    go_meet
    exact ⟨_, _, _, rfl, rfl, rfl, SL.cons hG7_33 (SL.cons hG8_33 (SL.cons hG9_33 (SL.nil _))), hO_33⟩
  case rest =>
    obtain ⟨g7, g8, g9, rfl, rfl, rfl, hS, hO⟩ := hcut
    go_wp2_with fail
    have hS_0 := hS.drew
    have hO_0 := hO.drew
    clear hS hO
    refine wp_region_held_drew (S := (SL [(g7, X), (g8, Y), (g9, Z)])) (by kernel_rfl) ?_ (fun hHeld => ?_)
    · (try dsimp only)
      first | assumption | (apply SL.drew; assumption) | (apply SA.drew; assumption)
    generalize wc.drew = w5 at *
    refine wpAnyH_take (i := 0) (oi := { dst := some 14, op := Go.Op.load 26 (Go.Operand.tmp 7), type := 26, pos := "law.go:29", after := #[], guard := none }) (v := ?_) rfl (by kernel_rfl) (by kernel_rfl) (by kernel_rfl) (fun _ _ _ h => h) (Or.inl ⟨by rfl, ?_⟩) (by assumption) ?_
    rotate_left
    · intro w hSw
      refine exec_load16 (x := .tmp 7) ?_ ?_ (ld16 hSw.h0 HIX.out) <;> rfl
    (try simp only [Act.put, List.setIfInBounds_toArray, List.set_cons_zero, List.set_cons_succ])
    refine wpAnyH_take (i := 1) (oi := { dst := some 15, op := Go.Op.load 26 (Go.Operand.tmp 8), type := 26, pos := "law.go:29", after := #[], guard := none }) (v := ?_) rfl (by kernel_rfl) (by kernel_rfl) (by kernel_rfl) (fun _ _ _ h => h) (Or.inl ⟨by rfl, ?_⟩) (by assumption) ?_
    rotate_left
    · intro w hSw
      refine exec_load16 (x := .tmp 8) ?_ ?_ (ld16 hSw.tl.h0 HIY.out) <;> rfl
    (try simp only [Act.put, List.setIfInBounds_toArray, List.set_cons_zero, List.set_cons_succ])
    refine wpAnyH_take (i := 3) (oi := { dst := some 17, op := Go.Op.load 26 (Go.Operand.tmp 8), type := 26, pos := "law.go:29", after := #[], guard := none }) (v := ?_) rfl (by kernel_rfl) (by kernel_rfl) (by kernel_rfl) (fun _ _ _ h => h) (Or.inl ⟨by rfl, ?_⟩) (by assumption) ?_
    rotate_left
    · intro w hSw
      refine exec_load16 (x := .tmp 8) ?_ ?_ (ld16 hSw.tl.h0 HIY.out) <;> rfl
    (try simp only [Act.put, List.setIfInBounds_toArray, List.set_cons_zero, List.set_cons_succ])
    refine wpAnyH_take (i := 4) (oi := { dst := some 18, op := Go.Op.load 26 (Go.Operand.tmp 7), type := 26, pos := "law.go:29", after := #[], guard := none }) (v := ?_) rfl (by kernel_rfl) (by kernel_rfl) (by kernel_rfl) (fun _ _ _ h => h) (Or.inl ⟨by rfl, ?_⟩) (by assumption) ?_
    rotate_left
    · intro w hSw
      refine exec_load16 (x := .tmp 7) ?_ ?_ (ld16 hSw.h0 HIX.out) <;> rfl
    (try simp only [Act.put, List.setIfInBounds_toArray, List.set_cons_zero, List.set_cons_succ])
    refine wpAnyH_ready (rs := [2]) (by kernel_rfl) (by simp) ?_
    refine AllReadyH.cons (o := { dst := some 16, op := Go.Op.call { callee := Go.Callee.value (Go.Operand.func 9), args := #[Go.Operand.tmp 14, Go.Operand.tmp 15], argTypes := #[26, 26] }, type := 26, pos := "law.go:29", after := #[{ on := 0, ground := Go.Ground.data }, { on := 1, ground := Go.Ground.data }], guard := none }) rfl (fun K hK => ?_) AllReadyH.nil
    go_simp
    (refine (HXY.out _).mono ?_; rintro e v_34 ⟨rfl, hb_34⟩; have hS_34 := SL.later hS_0 hb_34; have hO_34 := Below.trans hO_0 (hb_34.mono hO_0.size); clear hS_0 hO_0; clear hb_34; skip)
    (try go_wp2_with fail)
    refine hK.out _ _ ?_ (fun hHeld => ?_)
    · (try dsimp only)
      first | assumption | (apply SL.drew; assumption) | (apply SA.drew; assumption)
    clear hK K
    (try simp only [Act.put, List.setIfInBounds_toArray, List.set_cons_zero, List.set_cons_succ])
    refine wpAnyH_ready (rs := [5]) (by kernel_rfl) (by simp) ?_
    refine AllReadyH.cons (o := { dst := some 19, op := Go.Op.call { callee := Go.Callee.value (Go.Operand.func 9), args := #[Go.Operand.tmp 17, Go.Operand.tmp 18], argTypes := #[26, 26] }, type := 26, pos := "law.go:29", after := #[{ on := 3, ground := Go.Ground.data }, { on := 4, ground := Go.Ground.data }, { on := 2, ground := Go.Ground.chain }], guard := none }) rfl (fun K hK => ?_) AllReadyH.nil
    go_simp
    (refine (HYX.out _).mono ?_; rintro e v_35 ⟨rfl, hb_35⟩; have hS_35 := SL.later hS_34 hb_35; have hO_35 := Below.trans hO_34 (hb_35.mono hO_34.size); clear hS_34 hO_34; clear hb_35; skip)
    (try go_wp2_with fail)
    refine hK.out _ _ ?_ (fun hHeld => ?_)
    · (try dsimp only)
      first | assumption | (apply SL.drew; assumption) | (apply SA.drew; assumption)
    clear hK K
    (try simp only [Act.put, List.setIfInBounds_toArray, List.set_cons_zero, List.set_cons_succ])
    refine wpAnyH_take (i := 6) (oi := { dst := some 20, op := Go.Op.binOp Go.BinOp.neq 26 (Go.Operand.tmp 16) (Go.Operand.tmp 19) 26, type := 4, pos := "law.go:29", after := #[{ on := 2, ground := Go.Ground.data }, { on := 5, ground := Go.Ground.data }], guard := none }) (v := ?_) rfl (by kernel_rfl) (by kernel_rfl) (by kernel_rfl) (fun _ _ _ h => h) (Or.inl ⟨by rfl, ?_⟩) (by assumption) ?_
    rotate_left
    · intro w hSw
      refine exec_ne16 (r := 26) (x := .tmp 16) (y := .tmp 19) ?_ ?_ ?_ HE1.out <;> rfl
    (try simp only [Act.put, List.setIfInBounds_toArray, List.set_cons_zero, List.set_cons_succ])
    refine wpAnyH_take (i := 7) (oi := { dst := some 21, op := Go.Op.move (Go.Operand.tmp 20), type := 4, pos := "law.go:29", after := #[{ on := 6, ground := Go.Ground.data }, { on := 5, ground := Go.Ground.chain }], guard := none }) (v := ?_) rfl (by kernel_rfl) (by kernel_rfl) (by kernel_rfl) (fun _ _ _ h => h) (Or.inl ⟨by rfl, ?_⟩) (by assumption) ?_
    rotate_left
    · intro w hSw
      (try dsimp only at hSw)
      go_simp
      (try with_reducible rfl)
    (try simp only [Act.put, List.setIfInBounds_toArray, List.set_cons_zero, List.set_cons_succ])
    refine wpAnyH_take (i := 8) (oi := { dst := some 22, op := Go.Op.load 26 (Go.Operand.tmp 7), type := 26, pos := "law.go:29", after := #[{ on := 7, ground := Go.Ground.guard }], guard := some (7, false) }) (v := ?_) rfl (by kernel_rfl) (by kernel_rfl) (by kernel_rfl) (fun _ _ _ h => h) (Or.inl ⟨by rfl, ?_⟩) (by assumption) ?_
    rotate_left
    · intro w hSw
      refine exec_load16 (x := .tmp 7) ?_ ?_ (ld16 hSw.h0 HIX.out) <;> rfl
    (try simp only [Act.put, List.setIfInBounds_toArray, List.set_cons_zero, List.set_cons_succ])
    refine wpAnyH_take (i := 9) (oi := { dst := some 23, op := Go.Op.load 26 (Go.Operand.tmp 8), type := 26, pos := "law.go:29", after := #[{ on := 7, ground := Go.Ground.guard }], guard := some (7, false) }) (v := ?_) rfl (by kernel_rfl) (by kernel_rfl) (by kernel_rfl) (fun _ _ _ h => h) (Or.inl ⟨by rfl, ?_⟩) (by assumption) ?_
    rotate_left
    · intro w hSw
      refine exec_load16 (x := .tmp 8) ?_ ?_ (ld16 hSw.tl.h0 HIY.out) <;> rfl
    (try simp only [Act.put, List.setIfInBounds_toArray, List.set_cons_zero, List.set_cons_succ])
    refine wpAnyH_take (i := 10) (oi := { dst := some 24, op := Go.Op.load 26 (Go.Operand.tmp 9), type := 26, pos := "law.go:29", after := #[{ on := 7, ground := Go.Ground.guard }], guard := some (7, false) }) (v := ?_) rfl (by kernel_rfl) (by kernel_rfl) (by kernel_rfl) (fun _ _ _ h => h) (Or.inl ⟨by rfl, ?_⟩) (by assumption) ?_
    rotate_left
    · intro w hSw
      refine exec_load16 (x := .tmp 9) ?_ ?_ (ld16 hSw.tl.tl.h0 HIZ.out) <;> rfl
    (try simp only [Act.put, List.setIfInBounds_toArray, List.set_cons_zero, List.set_cons_succ])
    refine wpAnyH_take (i := 13) (oi := { dst := some 27, op := Go.Op.load 26 (Go.Operand.tmp 7), type := 26, pos := "law.go:29", after := #[{ on := 7, ground := Go.Ground.guard }], guard := some (7, false) }) (v := ?_) rfl (by kernel_rfl) (by kernel_rfl) (by kernel_rfl) (fun _ _ _ h => h) (Or.inl ⟨by rfl, ?_⟩) (by assumption) ?_
    rotate_left
    · intro w hSw
      refine exec_load16 (x := .tmp 7) ?_ ?_ (ld16 hSw.h0 HIX.out) <;> rfl
    (try simp only [Act.put, List.setIfInBounds_toArray, List.set_cons_zero, List.set_cons_succ])
    refine wpAnyH_take (i := 14) (oi := { dst := some 28, op := Go.Op.load 26 (Go.Operand.tmp 8), type := 26, pos := "law.go:29", after := #[{ on := 7, ground := Go.Ground.guard }], guard := some (7, false) }) (v := ?_) rfl (by kernel_rfl) (by kernel_rfl) (by kernel_rfl) (fun _ _ _ h => h) (Or.inl ⟨by rfl, ?_⟩) (by assumption) ?_
    rotate_left
    · intro w hSw
      refine exec_load16 (x := .tmp 8) ?_ ?_ (ld16 hSw.tl.h0 HIY.out) <;> rfl
    (try simp only [Act.put, List.setIfInBounds_toArray, List.set_cons_zero, List.set_cons_succ])
    refine wpAnyH_take (i := 16) (oi := { dst := some 30, op := Go.Op.load 26 (Go.Operand.tmp 9), type := 26, pos := "law.go:29", after := #[{ on := 7, ground := Go.Ground.guard }], guard := some (7, false) }) (v := ?_) rfl (by kernel_rfl) (by kernel_rfl) (by kernel_rfl) (fun _ _ _ h => h) (Or.inl ⟨by rfl, ?_⟩) (by assumption) ?_
    rotate_left
    · intro w hSw
      refine exec_load16 (x := .tmp 9) ?_ ?_ (ld16 hSw.tl.tl.h0 HIZ.out) <;> rfl
    (try simp only [Act.put, List.setIfInBounds_toArray, List.set_cons_zero, List.set_cons_succ])
    refine wpAnyH_ready (rs := [11]) (by kernel_rfl) (by simp) ?_
    refine AllReadyH.cons (o := { dst := some 25, op := Go.Op.call { callee := Go.Callee.value (Go.Operand.func 9), args := #[Go.Operand.tmp 23, Go.Operand.tmp 24], argTypes := #[26, 26] }, type := 26, pos := "law.go:29", after := #[{ on := 9, ground := Go.Ground.data }, { on := 10, ground := Go.Ground.data }, { on := 7, ground := Go.Ground.chain }, { on := 7, ground := Go.Ground.guard }], guard := some (7, false) }) rfl (fun K hK => ?_) AllReadyH.nil
    go_simp
    (refine (HYZ.out _).mono ?_; rintro e v_36 ⟨rfl, hb_36⟩; have hS_36 := SL.later hS_35 hb_36; have hO_36 := Below.trans hO_35 (hb_36.mono hO_35.size); clear hS_35 hO_35; clear hb_36; skip)
    (try go_wp2_with fail)
    refine hK.out _ _ ?_ (fun hHeld => ?_)
    · (try dsimp only)
      first | assumption | (apply SL.drew; assumption) | (apply SA.drew; assumption)
    clear hK K
    (try simp only [Act.put, List.setIfInBounds_toArray, List.set_cons_zero, List.set_cons_succ])
    refine wpAnyH_ready (rs := [12]) (by kernel_rfl) (by simp) ?_
    refine AllReadyH.cons (o := { dst := some 26, op := Go.Op.call { callee := Go.Callee.value (Go.Operand.func 9), args := #[Go.Operand.tmp 22, Go.Operand.tmp 25], argTypes := #[26, 26] }, type := 26, pos := "law.go:29", after := #[{ on := 8, ground := Go.Ground.data }, { on := 11, ground := Go.Ground.data }, { on := 11, ground := Go.Ground.chain }, { on := 7, ground := Go.Ground.guard }], guard := some (7, false) }) rfl (fun K hK => ?_) AllReadyH.nil
    go_simp
    (refine (HXYZ.out _).mono ?_; rintro e v_37 ⟨rfl, hb_37⟩; have hS_37 := SL.later hS_36 hb_37; have hO_37 := Below.trans hO_36 (hb_37.mono hO_36.size); clear hS_36 hO_36; clear hb_37; skip)
    (try go_wp2_with fail)
    refine hK.out _ _ ?_ (fun hHeld => ?_)
    · (try dsimp only)
      first | assumption | (apply SL.drew; assumption) | (apply SA.drew; assumption)
    clear hK K
    (try simp only [Act.put, List.setIfInBounds_toArray, List.set_cons_zero, List.set_cons_succ])
    refine wpAnyH_ready (rs := [15]) (by kernel_rfl) (by simp) ?_
    refine AllReadyH.cons (o := { dst := some 29, op := Go.Op.call { callee := Go.Callee.value (Go.Operand.func 9), args := #[Go.Operand.tmp 27, Go.Operand.tmp 28], argTypes := #[26, 26] }, type := 26, pos := "law.go:29", after := #[{ on := 13, ground := Go.Ground.data }, { on := 14, ground := Go.Ground.data }, { on := 12, ground := Go.Ground.chain }, { on := 7, ground := Go.Ground.guard }], guard := some (7, false) }) rfl (fun K hK => ?_) AllReadyH.nil
    go_simp
    (refine (HXY.out _).mono ?_; rintro e v_38 ⟨rfl, hb_38⟩; have hS_38 := SL.later hS_37 hb_38; have hO_38 := Below.trans hO_37 (hb_38.mono hO_37.size); clear hS_37 hO_37; clear hb_38; skip)
    (try go_wp2_with fail)
    refine hK.out _ _ ?_ (fun hHeld => ?_)
    · (try dsimp only)
      first | assumption | (apply SL.drew; assumption) | (apply SA.drew; assumption)
    clear hK K
    (try simp only [Act.put, List.setIfInBounds_toArray, List.set_cons_zero, List.set_cons_succ])
    refine wpAnyH_ready (rs := [17]) (by kernel_rfl) (by simp) ?_
    refine AllReadyH.cons (o := { dst := some 31, op := Go.Op.call { callee := Go.Callee.value (Go.Operand.func 9), args := #[Go.Operand.tmp 29, Go.Operand.tmp 30], argTypes := #[26, 26] }, type := 26, pos := "law.go:29", after := #[{ on := 15, ground := Go.Ground.data }, { on := 16, ground := Go.Ground.data }, { on := 15, ground := Go.Ground.chain }, { on := 7, ground := Go.Ground.guard }], guard := some (7, false) }) rfl (fun K hK => ?_) AllReadyH.nil
    go_simp
    (refine (HXYZ'.out _).mono ?_; rintro e v_39 ⟨rfl, hb_39⟩; have hS_39 := SL.later hS_38 hb_39; have hO_39 := Below.trans hO_38 (hb_39.mono hO_38.size); clear hS_38 hO_38; clear hb_39; skip)
    (try go_wp2_with fail)
    refine hK.out _ _ ?_ (fun hHeld => ?_)
    · (try dsimp only)
      first | assumption | (apply SL.drew; assumption) | (apply SA.drew; assumption)
    clear hK K
    (try simp only [Act.put, List.setIfInBounds_toArray, List.set_cons_zero, List.set_cons_succ])
    refine wpAnyH_take (i := 18) (oi := { dst := some 32, op := Go.Op.binOp Go.BinOp.neq 26 (Go.Operand.tmp 26) (Go.Operand.tmp 31) 26, type := 4, pos := "law.go:29", after := #[{ on := 12, ground := Go.Ground.data }, { on := 17, ground := Go.Ground.data }, { on := 7, ground := Go.Ground.guard }], guard := some (7, false) }) (v := ?_) rfl (by kernel_rfl) (by kernel_rfl) (by kernel_rfl) (fun _ _ _ h => h) (Or.inl ⟨by rfl, ?_⟩) (by assumption) ?_
    rotate_left
    · intro w hSw
      refine exec_ne16 (r := 26) (x := .tmp 26) (y := .tmp 31) ?_ ?_ ?_ HE2.out <;> rfl
    (try simp only [Act.put, List.setIfInBounds_toArray, List.set_cons_zero, List.set_cons_succ])
    refine wpAnyH_take (i := 19) (oi := { dst := some 33, op := Go.Op.pick (Go.Operand.tmp 21) (Go.Operand.const (Go.Value.bool true)) (Go.Operand.tmp 32), type := 4, pos := "law.go:29", after := #[{ on := 7, ground := Go.Ground.data }, { on := 18, ground := Go.Ground.data }], guard := none }) (v := ?_) rfl (by kernel_rfl) (by kernel_rfl) (by kernel_rfl) (fun _ _ _ h => h) (Or.inl ⟨by rfl, ?_⟩) (by assumption) ?_
    rotate_left
    · intro w hSw
      (try dsimp only at hSw)
      go_simp
      (try with_reducible rfl)
    (try simp only [Act.put, List.setIfInBounds_toArray, List.set_cons_zero, List.set_cons_succ])
    refine wpAnyH_take (i := 20) (oi := { dst := some 34, op := Go.Op.move (Go.Operand.tmp 33), type := 4, pos := "law.go:29", after := #[{ on := 19, ground := Go.Ground.data }, { on := 17, ground := Go.Ground.chain }], guard := none }) (v := ?_) rfl (by kernel_rfl) (by kernel_rfl) (by kernel_rfl) (fun _ _ _ h => h) (Or.inl ⟨by rfl, ?_⟩) (by assumption) ?_
    rotate_left
    · intro w hSw
      (try dsimp only at hSw)
      go_simp
      (try with_reducible rfl)
    (try simp only [Act.put, List.setIfInBounds_toArray, List.set_cons_zero, List.set_cons_succ])
    refine wpAnyH_take (i := 21) (oi := { dst := some 35, op := Go.Op.load 26 (Go.Operand.tmp 7), type := 26, pos := "law.go:29", after := #[{ on := 20, ground := Go.Ground.guard }], guard := some (20, false) }) (v := ?_) rfl (by kernel_rfl) (by kernel_rfl) (by kernel_rfl) (fun _ _ _ h => h) (Or.inl ⟨by rfl, ?_⟩) (by assumption) ?_
    rotate_left
    · intro w hSw
      refine exec_load16 (x := .tmp 7) ?_ ?_ (ld16 hSw.h0 HIX.out) <;> rfl
    (try simp only [Act.put, List.setIfInBounds_toArray, List.set_cons_zero, List.set_cons_succ])
    refine wpAnyH_take (i := 22) (oi := { dst := some 36, op := Go.Op.load 26 (Go.Operand.tmp 8), type := 26, pos := "law.go:29", after := #[{ on := 20, ground := Go.Ground.guard }], guard := some (20, false) }) (v := ?_) rfl (by kernel_rfl) (by kernel_rfl) (by kernel_rfl) (fun _ _ _ h => h) (Or.inl ⟨by rfl, ?_⟩) (by assumption) ?_
    rotate_left
    · intro w hSw
      refine exec_load16 (x := .tmp 8) ?_ ?_ (ld16 hSw.tl.h0 HIY.out) <;> rfl
    (try simp only [Act.put, List.setIfInBounds_toArray, List.set_cons_zero, List.set_cons_succ])
    refine wpAnyH_take (i := 23) (oi := { dst := some 37, op := Go.Op.load 26 (Go.Operand.tmp 9), type := 26, pos := "law.go:29", after := #[{ on := 20, ground := Go.Ground.guard }], guard := some (20, false) }) (v := ?_) rfl (by kernel_rfl) (by kernel_rfl) (by kernel_rfl) (fun _ _ _ h => h) (Or.inl ⟨by rfl, ?_⟩) (by assumption) ?_
    rotate_left
    · intro w hSw
      refine exec_load16 (x := .tmp 9) ?_ ?_ (ld16 hSw.tl.tl.h0 HIZ.out) <;> rfl
    (try simp only [Act.put, List.setIfInBounds_toArray, List.set_cons_zero, List.set_cons_succ])
    refine wpAnyH_take (i := 26) (oi := { dst := some 40, op := Go.Op.load 26 (Go.Operand.tmp 7), type := 26, pos := "law.go:29", after := #[{ on := 20, ground := Go.Ground.guard }], guard := some (20, false) }) (v := ?_) rfl (by kernel_rfl) (by kernel_rfl) (by kernel_rfl) (fun _ _ _ h => h) (Or.inl ⟨by rfl, ?_⟩) (by assumption) ?_
    rotate_left
    · intro w hSw
      refine exec_load16 (x := .tmp 7) ?_ ?_ (ld16 hSw.h0 HIX.out) <;> rfl
    (try simp only [Act.put, List.setIfInBounds_toArray, List.set_cons_zero, List.set_cons_succ])
    refine wpAnyH_take (i := 27) (oi := { dst := some 41, op := Go.Op.load 26 (Go.Operand.tmp 8), type := 26, pos := "law.go:29", after := #[{ on := 20, ground := Go.Ground.guard }], guard := some (20, false) }) (v := ?_) rfl (by kernel_rfl) (by kernel_rfl) (by kernel_rfl) (fun _ _ _ h => h) (Or.inl ⟨by rfl, ?_⟩) (by assumption) ?_
    rotate_left
    · intro w hSw
      refine exec_load16 (x := .tmp 8) ?_ ?_ (ld16 hSw.tl.h0 HIY.out) <;> rfl
    (try simp only [Act.put, List.setIfInBounds_toArray, List.set_cons_zero, List.set_cons_succ])
    refine wpAnyH_take (i := 29) (oi := { dst := some 43, op := Go.Op.load 26 (Go.Operand.tmp 7), type := 26, pos := "law.go:29", after := #[{ on := 20, ground := Go.Ground.guard }], guard := some (20, false) }) (v := ?_) rfl (by kernel_rfl) (by kernel_rfl) (by kernel_rfl) (fun _ _ _ h => h) (Or.inl ⟨by rfl, ?_⟩) (by assumption) ?_
    rotate_left
    · intro w hSw
      refine exec_load16 (x := .tmp 7) ?_ ?_ (ld16 hSw.h0 HIX.out) <;> rfl
    (try simp only [Act.put, List.setIfInBounds_toArray, List.set_cons_zero, List.set_cons_succ])
    refine wpAnyH_take (i := 30) (oi := { dst := some 44, op := Go.Op.load 26 (Go.Operand.tmp 9), type := 26, pos := "law.go:29", after := #[{ on := 20, ground := Go.Ground.guard }], guard := some (20, false) }) (v := ?_) rfl (by kernel_rfl) (by kernel_rfl) (by kernel_rfl) (fun _ _ _ h => h) (Or.inl ⟨by rfl, ?_⟩) (by assumption) ?_
    rotate_left
    · intro w hSw
      refine exec_load16 (x := .tmp 9) ?_ ?_ (ld16 hSw.tl.tl.h0 HIZ.out) <;> rfl
    (try simp only [Act.put, List.setIfInBounds_toArray, List.set_cons_zero, List.set_cons_succ])
    refine wpAnyH_ready (rs := [24]) (by kernel_rfl) (by simp) ?_
    refine AllReadyH.cons (o := { dst := some 38, op := Go.Op.call { callee := Go.Callee.value (Go.Operand.func 7), args := #[Go.Operand.tmp 36, Go.Operand.tmp 37], argTypes := #[26, 26] }, type := 26, pos := "law.go:29", after := #[{ on := 22, ground := Go.Ground.data }, { on := 23, ground := Go.Ground.data }, { on := 20, ground := Go.Ground.chain }, { on := 20, ground := Go.Ground.guard }], guard := some (20, false) }) rfl (fun K hK => ?_) AllReadyH.nil
    go_simp
    (refine (HA1.out _).mono ?_; rintro e v_40 ⟨rfl, hb_40⟩; have hS_40 := SL.later hS_39 hb_40; have hO_40 := Below.trans hO_39 (hb_40.mono hO_39.size); clear hS_39 hO_39; clear hb_40; skip)
    (try go_wp2_with fail)
    refine hK.out _ _ ?_ (fun hHeld => ?_)
    · (try dsimp only)
      first | assumption | (apply SL.drew; assumption) | (apply SA.drew; assumption)
    clear hK K
    (try simp only [Act.put, List.setIfInBounds_toArray, List.set_cons_zero, List.set_cons_succ])
    refine wpAnyH_ready (rs := [25]) (by kernel_rfl) (by simp) ?_
    refine AllReadyH.cons (o := { dst := some 39, op := Go.Op.call { callee := Go.Callee.value (Go.Operand.func 9), args := #[Go.Operand.tmp 35, Go.Operand.tmp 38], argTypes := #[26, 26] }, type := 26, pos := "law.go:29", after := #[{ on := 21, ground := Go.Ground.data }, { on := 24, ground := Go.Ground.data }, { on := 24, ground := Go.Ground.chain }, { on := 20, ground := Go.Ground.guard }], guard := some (20, false) }) rfl (fun K hK => ?_) AllReadyH.nil
    go_simp
    (refine (HA2.out _).mono ?_; rintro e v_41 ⟨rfl, hb_41⟩; have hS_41 := SL.later hS_40 hb_41; have hO_41 := Below.trans hO_40 (hb_41.mono hO_40.size); clear hS_40 hO_40; clear hb_41; skip)
    (try go_wp2_with fail)
    refine hK.out _ _ ?_ (fun hHeld => ?_)
    · (try dsimp only)
      first | assumption | (apply SL.drew; assumption) | (apply SA.drew; assumption)
    clear hK K
    (try simp only [Act.put, List.setIfInBounds_toArray, List.set_cons_zero, List.set_cons_succ])
    refine wpAnyH_ready (rs := [28]) (by kernel_rfl) (by simp) ?_
    refine AllReadyH.cons (o := { dst := some 42, op := Go.Op.call { callee := Go.Callee.value (Go.Operand.func 9), args := #[Go.Operand.tmp 40, Go.Operand.tmp 41], argTypes := #[26, 26] }, type := 26, pos := "law.go:29", after := #[{ on := 26, ground := Go.Ground.data }, { on := 27, ground := Go.Ground.data }, { on := 25, ground := Go.Ground.chain }, { on := 20, ground := Go.Ground.guard }], guard := some (20, false) }) rfl (fun K hK => ?_) AllReadyH.nil
    go_simp
    (refine (HXY.out _).mono ?_; rintro e v_42 ⟨rfl, hb_42⟩; have hS_42 := SL.later hS_41 hb_42; have hO_42 := Below.trans hO_41 (hb_42.mono hO_41.size); clear hS_41 hO_41; clear hb_42; skip)
    (try go_wp2_with fail)
    refine hK.out _ _ ?_ (fun hHeld => ?_)
    · (try dsimp only)
      first | assumption | (apply SL.drew; assumption) | (apply SA.drew; assumption)
    clear hK K
    (try simp only [Act.put, List.setIfInBounds_toArray, List.set_cons_zero, List.set_cons_succ])
    refine wpAnyH_ready (rs := [31]) (by kernel_rfl) (by simp) ?_
    refine AllReadyH.cons (o := { dst := some 45, op := Go.Op.call { callee := Go.Callee.value (Go.Operand.func 9), args := #[Go.Operand.tmp 43, Go.Operand.tmp 44], argTypes := #[26, 26] }, type := 26, pos := "law.go:29", after := #[{ on := 29, ground := Go.Ground.data }, { on := 30, ground := Go.Ground.data }, { on := 28, ground := Go.Ground.chain }, { on := 20, ground := Go.Ground.guard }], guard := some (20, false) }) rfl (fun K hK => ?_) AllReadyH.nil
    go_simp
    (refine (HXZ.out _).mono ?_; rintro e v_43 ⟨rfl, hb_43⟩; have hS_43 := SL.later hS_42 hb_43; have hO_43 := Below.trans hO_42 (hb_43.mono hO_42.size); clear hS_42 hO_42; clear hb_43; skip)
    (try go_wp2_with fail)
    refine hK.out _ _ ?_ (fun hHeld => ?_)
    · (try dsimp only)
      first | assumption | (apply SL.drew; assumption) | (apply SA.drew; assumption)
    clear hK K
    (try simp only [Act.put, List.setIfInBounds_toArray, List.set_cons_zero, List.set_cons_succ])
    refine wpAnyH_ready (rs := [32]) (by kernel_rfl) (by simp) ?_
    refine AllReadyH.cons (o := { dst := some 46, op := Go.Op.call { callee := Go.Callee.value (Go.Operand.func 7), args := #[Go.Operand.tmp 42, Go.Operand.tmp 45], argTypes := #[26, 26] }, type := 26, pos := "law.go:29", after := #[{ on := 28, ground := Go.Ground.data }, { on := 31, ground := Go.Ground.data }, { on := 31, ground := Go.Ground.chain }, { on := 20, ground := Go.Ground.guard }], guard := some (20, false) }) rfl (fun K hK => ?_) AllReadyH.nil
    go_simp
    (refine (HA3.out _).mono ?_; rintro e v_44 ⟨rfl, hb_44⟩; have hS_44 := SL.later hS_43 hb_44; have hO_44 := Below.trans hO_43 (hb_44.mono hO_43.size); clear hS_43 hO_43; clear hb_44; skip)
    (try go_wp2_with fail)
    refine hK.out _ _ ?_ (fun hHeld => ?_)
    · (try dsimp only)
      first | assumption | (apply SL.drew; assumption) | (apply SA.drew; assumption)
    clear hK K
    (try simp only [Act.put, List.setIfInBounds_toArray, List.set_cons_zero, List.set_cons_succ])
    refine wpAnyH_take (i := 33) (oi := { dst := some 47, op := Go.Op.binOp Go.BinOp.neq 26 (Go.Operand.tmp 39) (Go.Operand.tmp 46) 26, type := 4, pos := "law.go:29", after := #[{ on := 25, ground := Go.Ground.data }, { on := 32, ground := Go.Ground.data }, { on := 20, ground := Go.Ground.guard }], guard := some (20, false) }) (v := ?_) rfl (by kernel_rfl) (by kernel_rfl) (by kernel_rfl) (fun _ _ _ h => h) (Or.inl ⟨by rfl, ?_⟩) (by assumption) ?_
    rotate_left
    · intro w hSw
      refine exec_ne16 (r := 26) (x := .tmp 39) (y := .tmp 46) ?_ ?_ ?_ HE3.out <;> rfl
    (try simp only [Act.put, List.setIfInBounds_toArray, List.set_cons_zero, List.set_cons_succ])
    refine wpAnyH_take (i := 34) (oi := { dst := some 48, op := Go.Op.pick (Go.Operand.tmp 34) (Go.Operand.const (Go.Value.bool true)) (Go.Operand.tmp 47), type := 4, pos := "law.go:29", after := #[{ on := 20, ground := Go.Ground.data }, { on := 33, ground := Go.Ground.data }], guard := none }) (v := ?_) rfl (by kernel_rfl) (by kernel_rfl) (by kernel_rfl) (fun _ _ _ h => h) (Or.inl ⟨by rfl, ?_⟩) (by assumption) ?_
    rotate_left
    · intro w hSw
      (try dsimp only at hSw)
      go_simp
      (try with_reducible rfl)
    (try simp only [Act.put, List.setIfInBounds_toArray, List.set_cons_zero, List.set_cons_succ])
    refine wpAnyH_done (by kernel_rfl) ?_ _
    have HS9 := Lib.hid hS_44
    have HO9 := Lib.hid hO_44
    clear hS_44 hO_44
    obtain ⟨w6, hw6⟩ : ∃ q, v_44.alloc (.cells zero16 26) = q := ⟨_, rfl⟩
    obtain ⟨z, hz6⟩ : ∃ q, v_44.heap.size = q := ⟨_, rfl⟩
    have hS6 : SL [(g7, X), (g8, Y), (g9, Z)] w6 := HS9.out.later (by rw [← hw6]; exact (Below.refl _ _).alloc (Nat.le_refl _) _)
    have hG6 : Blk w6 z zero16 26 := (by rw [← hw6, ← hz6]; exact Blk.new _ _ _)
    have hO6 : Below w.heap.size w w6 := (by rw [← hw6]; exact HO9.out.alloc HO9.out.size _)
    have HNE : Hid (∀ p ∈ [(g7, X), (g8, Y), (g9, Z)], p.1 ≠ z) := Lib.hid fun p hp => (by rw [← hz6]; exact Nat.ne_of_lt (Blk.lt (HS9.out p hp)))
    obtain ⟨w8, hw8⟩ : ∃ q, w6.setCells z 0 zero16.toList = q := ⟨_, rfl⟩
    have hG8 : Blk w8 z zero16 26 := (by rw [← hw8]; exact Blk.store16 hG6 HC0.out HC0.out)
    have hS8 : SL [(g7, X), (g8, Y), (g9, Z)] w8 := (by rw [← hw8]; exact hS6.set HNE.out _)
    have hzz : w.heap.size ≤ z := (by rw [← hz6]; exact HO9.out.size)
    have hO8 : Below w.heap.size w w8 := (by rw [← hw8]; exact Below.set16 (g := z) hO6 hzz hO6.size _)
    have HG6 := Lib.hid hG6
    have HG8 := Lib.hid hG8
    have HS8 := Lib.hid hS8
    have HO8 := Lib.hid hO8
    clear hG6 hS6 hO6 hG8 hS8 hO8 HS9 HO9 HNE hzz
    go_wp2_with (first
      | (refine wpList_build16 rfl #[] #[] rfl (by simp) build_none ?_)
      | (refine wpList_store16 rfl (.tmp 10) (.tmp 49) rfl z rfl zero16 zero16 rfl HG6.out HC0.out HC0.out ?_))
    rw [hw8]
    have hS_0 := (SL.app4 (d := (z, zero16)) HS8.out HG8.out).drew
    have hO_0 := HO8.out.drew
    clear HS8 HO8 HG8 HG6 hw6 hw8 hz6 hz
    cases b1
    · cases b2
      · skip
        simp only [Bool.or_false, Bool.or_true, Bool.false_or, Bool.true_or] at HZ3
        refine wp_region_held_drew (S := (SL [(g7, X), (g8, Y), (g9, Z), (z, zero16)])) (by kernel_rfl) ?_ (fun hHeld => ?_)
        · (try dsimp only)
          first | assumption | (apply SL.drew; assumption) | (apply SA.drew; assumption)
        generalize w8.drew = w9 at *
        refine wpAnyH_take (i := 0) (oi := { dst := some 50, op := Go.Op.load 26 (Go.Operand.tmp 7), type := 26, pos := "law.go:33", after := #[], guard := none }) (v := ?_) rfl (by kernel_rfl) (by kernel_rfl) (by kernel_rfl) (fun _ _ _ h => h) (Or.inl ⟨by rfl, ?_⟩) (by assumption) ?_
        rotate_left
        · intro w hSw
          refine exec_load16 (x := .tmp 7) ?_ ?_ (ld16 hSw.h0 HIX.out) <;> rfl
        (try simp only [Act.put, List.setIfInBounds_toArray, List.set_cons_zero, List.set_cons_succ])
        refine wpAnyH_take (i := 1) (oi := { dst := some 51, op := Go.Op.load 26 (Go.Operand.tmp 8), type := 26, pos := "law.go:33", after := #[], guard := none }) (v := ?_) rfl (by kernel_rfl) (by kernel_rfl) (by kernel_rfl) (fun _ _ _ h => h) (Or.inl ⟨by rfl, ?_⟩) (by assumption) ?_
        rotate_left
        · intro w hSw
          refine exec_load16 (x := .tmp 8) ?_ ?_ (ld16 hSw.tl.h0 HIY.out) <;> rfl
        (try simp only [Act.put, List.setIfInBounds_toArray, List.set_cons_zero, List.set_cons_succ])
        refine wpAnyH_take (i := 3) (oi := { dst := some 53, op := Go.Op.load 26 (Go.Operand.tmp 10), type := 26, pos := "law.go:33", after := #[], guard := none }) (v := ?_) rfl (by kernel_rfl) (by kernel_rfl) (by kernel_rfl) (fun _ _ _ h => h) (Or.inl ⟨by rfl, ?_⟩) (by assumption) ?_
        rotate_left
        · intro w hSw
          refine exec_load16 (x := .tmp 10) ?_ ?_ (ld16 hSw.tl.tl.tl.h0 HI0.out) <;> rfl
        (try simp only [Act.put, List.setIfInBounds_toArray, List.set_cons_zero, List.set_cons_succ])
        refine wpAnyH_take (i := 5) (oi := { dst := some 55, op := Go.Op.load 26 (Go.Operand.tmp 7), type := 26, pos := "law.go:33", after := #[], guard := none }) (v := ?_) rfl (by kernel_rfl) (by kernel_rfl) (by kernel_rfl) (fun _ _ _ h => h) (Or.inl ⟨by rfl, ?_⟩) (by assumption) ?_
        rotate_left
        · intro w hSw
          refine exec_load16 (x := .tmp 7) ?_ ?_ (ld16 hSw.h0 HIX.out) <;> rfl
        (try simp only [Act.put, List.setIfInBounds_toArray, List.set_cons_zero, List.set_cons_succ])
        refine wpAnyH_take (i := 6) (oi := { dst := some 56, op := Go.Op.load 26 (Go.Operand.tmp 10), type := 26, pos := "law.go:33", after := #[], guard := none }) (v := ?_) rfl (by kernel_rfl) (by kernel_rfl) (by kernel_rfl) (fun _ _ _ h => h) (Or.inl ⟨by rfl, ?_⟩) (by assumption) ?_
        rotate_left
        · intro w hSw
          refine exec_load16 (x := .tmp 10) ?_ ?_ (ld16 hSw.tl.tl.tl.h0 HI0.out) <;> rfl
        (try simp only [Act.put, List.setIfInBounds_toArray, List.set_cons_zero, List.set_cons_succ])
        refine wpAnyH_take (i := 7) (oi := { dst := some 57, op := Go.Op.binOp Go.BinOp.eql 26 (Go.Operand.tmp 55) (Go.Operand.tmp 56) 26, type := 4, pos := "law.go:33", after := #[{ on := 5, ground := Go.Ground.data }, { on := 6, ground := Go.Ground.data }], guard := none }) (v := ?_) rfl (by kernel_rfl) (by kernel_rfl) (by kernel_rfl) (fun _ _ _ h => h) (Or.inl ⟨by rfl, ?_⟩) (by assumption) ?_
        rotate_left
        · intro w hSw
          refine exec_eql16 (r := 26) (x := .tmp 55) (y := .tmp 56) ?_ ?_ ?_ HZ1.out <;> rfl
        (try simp only [Act.put, List.setIfInBounds_toArray, List.set_cons_zero, List.set_cons_succ])
        refine wpAnyH_ready (rs := [2]) (by kernel_rfl) (by simp) ?_
        refine AllReadyH.cons (o := { dst := some 52, op := Go.Op.call { callee := Go.Callee.value (Go.Operand.func 9), args := #[Go.Operand.tmp 50, Go.Operand.tmp 51], argTypes := #[26, 26] }, type := 26, pos := "law.go:33", after := #[{ on := 0, ground := Go.Ground.data }, { on := 1, ground := Go.Ground.data }], guard := none }) rfl (fun K hK => ?_) AllReadyH.nil
        go_simp
        (refine (HXY.out _).mono ?_; rintro e v_45 ⟨rfl, hb_45⟩; have hS_45 := SL.later hS_0 hb_45; have hO_45 := Below.trans hO_0 (hb_45.mono hO_0.size); clear hS_0 hO_0; clear hb_45; skip)
        (try go_wp2_with fail)
        refine hK.out _ _ ?_ (fun hHeld => ?_)
        · (try dsimp only)
          first | assumption | (apply SL.drew; assumption) | (apply SA.drew; assumption)
        clear hK K
        (try simp only [Act.put, List.setIfInBounds_toArray, List.set_cons_zero, List.set_cons_succ])
        refine wpAnyH_take (i := 4) (oi := { dst := some 54, op := Go.Op.binOp Go.BinOp.eql 26 (Go.Operand.tmp 52) (Go.Operand.tmp 53) 26, type := 4, pos := "law.go:33", after := #[{ on := 2, ground := Go.Ground.data }, { on := 3, ground := Go.Ground.data }], guard := none }) (v := ?_) rfl (by kernel_rfl) (by kernel_rfl) (by kernel_rfl) (fun _ _ _ h => h) (Or.inl ⟨by rfl, ?_⟩) (by assumption) ?_
        rotate_left
        · intro w hSw
          refine exec_eql16 (r := 26) (x := .tmp 52) (y := .tmp 53) ?_ ?_ ?_ HZ3.out <;> rfl
        (try simp only [Act.put, List.setIfInBounds_toArray, List.set_cons_zero, List.set_cons_succ])
        refine wpAnyH_take (i := 8) (oi := { dst := some 58, op := Go.Op.move (Go.Operand.tmp 57), type := 4, pos := "law.go:33", after := #[{ on := 7, ground := Go.Ground.data }, { on := 2, ground := Go.Ground.chain }], guard := none }) (v := ?_) rfl (by kernel_rfl) (by kernel_rfl) (by kernel_rfl) (fun _ _ _ h => h) (Or.inl ⟨by rfl, ?_⟩) (by assumption) ?_
        rotate_left
        · intro w hSw
          (try dsimp only at hSw)
          go_simp
          (try with_reducible rfl)
        (try simp only [Act.put, List.setIfInBounds_toArray, List.set_cons_zero, List.set_cons_succ])
        refine wpAnyH_take (i := 9) (oi := { dst := some 59, op := Go.Op.load 26 (Go.Operand.tmp 8), type := 26, pos := "law.go:33", after := #[{ on := 8, ground := Go.Ground.guard }], guard := some (8, false) }) (v := ?_) rfl (by kernel_rfl) (by kernel_rfl) (by kernel_rfl) (fun _ _ _ h => h) (Or.inl ⟨by rfl, ?_⟩) (by assumption) ?_
        rotate_left
        · intro w hSw
          refine exec_load16 (x := .tmp 8) ?_ ?_ (ld16 hSw.tl.h0 HIY.out) <;> rfl
        (try simp only [Act.put, List.setIfInBounds_toArray, List.set_cons_zero, List.set_cons_succ])
        refine wpAnyH_take (i := 10) (oi := { dst := some 60, op := Go.Op.load 26 (Go.Operand.tmp 10), type := 26, pos := "law.go:33", after := #[{ on := 8, ground := Go.Ground.guard }], guard := some (8, false) }) (v := ?_) rfl (by kernel_rfl) (by kernel_rfl) (by kernel_rfl) (fun _ _ _ h => h) (Or.inl ⟨by rfl, ?_⟩) (by assumption) ?_
        rotate_left
        · intro w hSw
          refine exec_load16 (x := .tmp 10) ?_ ?_ (ld16 hSw.tl.tl.tl.h0 HI0.out) <;> rfl
        (try simp only [Act.put, List.setIfInBounds_toArray, List.set_cons_zero, List.set_cons_succ])
        refine wpAnyH_take (i := 11) (oi := { dst := some 61, op := Go.Op.binOp Go.BinOp.eql 26 (Go.Operand.tmp 59) (Go.Operand.tmp 60) 26, type := 4, pos := "law.go:33", after := #[{ on := 9, ground := Go.Ground.data }, { on := 10, ground := Go.Ground.data }, { on := 8, ground := Go.Ground.guard }], guard := some (8, false) }) (v := ?_) rfl (by kernel_rfl) (by kernel_rfl) (by kernel_rfl) (fun _ _ _ h => h) (Or.inl ⟨by rfl, ?_⟩) (by assumption) ?_
        rotate_left
        · intro w hSw
          refine exec_eql16 (r := 26) (x := .tmp 59) (y := .tmp 60) ?_ ?_ ?_ HZ2.out <;> rfl
        (try simp only [Act.put, List.setIfInBounds_toArray, List.set_cons_zero, List.set_cons_succ])
        refine wpAnyH_take (i := 12) (oi := { dst := some 62, op := Go.Op.pick (Go.Operand.tmp 58) (Go.Operand.const (Go.Value.bool true)) (Go.Operand.tmp 61), type := 4, pos := "law.go:33", after := #[{ on := 8, ground := Go.Ground.data }, { on := 11, ground := Go.Ground.data }], guard := none }) (v := ?_) rfl (by kernel_rfl) (by kernel_rfl) (by kernel_rfl) (fun _ _ _ h => h) (Or.inl ⟨by rfl, ?_⟩) (by assumption) ?_
        rotate_left
        · intro w hSw
          (try dsimp only at hSw)
          go_simp
          (try with_reducible rfl)
        (try simp only [Act.put, List.setIfInBounds_toArray, List.set_cons_zero, List.set_cons_succ])
        refine wpAnyH_take (i := 13) (oi := { dst := some 63, op := Go.Op.binOp Go.BinOp.eql 4 (Go.Operand.tmp 54) (Go.Operand.tmp 62) 4, type := 4, pos := "law.go:33", after := #[{ on := 4, ground := Go.Ground.data }, { on := 12, ground := Go.Ground.data }], guard := none }) (v := ?_) rfl (by kernel_rfl) (by kernel_rfl) (by kernel_rfl) (fun _ _ _ h => h) (Or.inl ⟨by rfl, ?_⟩) (by assumption) ?_
        rotate_left
        · intro w hSw
          (try dsimp only at hSw)
          go_simp
          (try with_reducible rfl)
        (try simp only [Act.put, List.setIfInBounds_toArray, List.set_cons_zero, List.set_cons_succ])
        refine wpAnyH_take (i := 14) (oi := { dst := some 64, op := Go.Op.move (Go.Operand.tmp 63), type := 4, pos := "law.go:33", after := #[{ on := 13, ground := Go.Ground.data }, { on := 8, ground := Go.Ground.chain }], guard := none }) (v := ?_) rfl (by kernel_rfl) (by kernel_rfl) (by kernel_rfl) (fun _ _ _ h => h) (Or.inl ⟨by rfl, ?_⟩) (by assumption) ?_
        rotate_left
        · intro w hSw
          (try dsimp only at hSw)
          go_simp
          (try with_reducible rfl)
        (try simp only [Act.put, List.setIfInBounds_toArray, List.set_cons_zero, List.set_cons_succ])
        refine wpAnyH_take (i := 15) (oi := { dst := some 65, op := Go.Op.load 26 (Go.Operand.tmp 7), type := 26, pos := "law.go:33", after := #[{ on := 14, ground := Go.Ground.guard }], guard := some (14, true) }) (v := ?_) rfl (by kernel_rfl) (by kernel_rfl) (by kernel_rfl) (fun _ _ _ h => h) (Or.inl ⟨by rfl, ?_⟩) (by assumption) ?_
        rotate_left
        · intro w hSw
          refine exec_load16 (x := .tmp 7) ?_ ?_ (ld16 hSw.h0 HIX.out) <;> rfl
        (try simp only [Act.put, List.setIfInBounds_toArray, List.set_cons_zero, List.set_cons_succ])
        refine wpAnyH_take (i := 16) (oi := { dst := some 66, op := Go.Op.load 26 (Go.Operand.tmp 7), type := 26, pos := "law.go:33", after := #[{ on := 14, ground := Go.Ground.guard }], guard := some (14, true) }) (v := ?_) rfl (by kernel_rfl) (by kernel_rfl) (by kernel_rfl) (fun _ _ _ h => h) (Or.inl ⟨by rfl, ?_⟩) (by assumption) ?_
        rotate_left
        · intro w hSw
          refine exec_load16 (x := .tmp 7) ?_ ?_ (ld16 hSw.h0 HIX.out) <;> rfl
        (try simp only [Act.put, List.setIfInBounds_toArray, List.set_cons_zero, List.set_cons_succ])
        refine wpAnyH_take (i := 18) (oi := { dst := some 68, op := Go.Op.load 26 (Go.Operand.tmp 10), type := 26, pos := "law.go:33", after := #[{ on := 14, ground := Go.Ground.guard }], guard := some (14, true) }) (v := ?_) rfl (by kernel_rfl) (by kernel_rfl) (by kernel_rfl) (fun _ _ _ h => h) (Or.inl ⟨by rfl, ?_⟩) (by assumption) ?_
        rotate_left
        · intro w hSw
          refine exec_load16 (x := .tmp 10) ?_ ?_ (ld16 hSw.tl.tl.tl.h0 HI0.out) <;> rfl
        (try simp only [Act.put, List.setIfInBounds_toArray, List.set_cons_zero, List.set_cons_succ])
        refine wpAnyH_ready (rs := [17]) (by kernel_rfl) (by simp) ?_
        refine AllReadyH.cons (o := { dst := some 67, op := Go.Op.call { callee := Go.Callee.value (Go.Operand.func 7), args := #[Go.Operand.tmp 65, Go.Operand.tmp 66], argTypes := #[26, 26] }, type := 26, pos := "law.go:33", after := #[{ on := 15, ground := Go.Ground.data }, { on := 16, ground := Go.Ground.data }, { on := 14, ground := Go.Ground.chain }, { on := 14, ground := Go.Ground.guard }], guard := some (14, true) }) rfl (fun K hK => ?_) AllReadyH.nil
        go_simp
        (refine (HN.out _).mono ?_; rintro e v_46 ⟨rfl, hb_46⟩; have hS_46 := SL.later hS_45 hb_46; have hO_46 := Below.trans hO_45 (hb_46.mono hO_45.size); clear hS_45 hO_45; clear hb_46; skip)
        (try go_wp2_with fail)
        refine hK.out _ _ ?_ (fun hHeld => ?_)
        · (try dsimp only)
          first | assumption | (apply SL.drew; assumption) | (apply SA.drew; assumption)
        clear hK K
        (try simp only [Act.put, List.setIfInBounds_toArray, List.set_cons_zero, List.set_cons_succ])
        refine wpAnyH_take (i := 19) (oi := { dst := some 69, op := Go.Op.binOp Go.BinOp.eql 26 (Go.Operand.tmp 67) (Go.Operand.tmp 68) 26, type := 4, pos := "law.go:33", after := #[{ on := 17, ground := Go.Ground.data }, { on := 18, ground := Go.Ground.data }, { on := 14, ground := Go.Ground.guard }], guard := some (14, true) }) (v := ?_) rfl (by kernel_rfl) (by kernel_rfl) (by kernel_rfl) (fun _ _ _ h => h) (Or.inl ⟨by rfl, ?_⟩) (by assumption) ?_
        rotate_left
        · intro w hSw
          refine exec_eql16 (r := 26) (x := .tmp 67) (y := .tmp 68) ?_ ?_ ?_ HE4.out <;> rfl
        (try simp only [Act.put, List.setIfInBounds_toArray, List.set_cons_zero, List.set_cons_succ])
        refine wpAnyH_take (i := 20) (oi := { dst := some 70, op := Go.Op.pick (Go.Operand.tmp 64) (Go.Operand.tmp 69) (Go.Operand.const (Go.Value.bool false)), type := 4, pos := "law.go:33", after := #[{ on := 14, ground := Go.Ground.data }, { on := 19, ground := Go.Ground.data }], guard := none }) (v := ?_) rfl (by kernel_rfl) (by kernel_rfl) (by kernel_rfl) (fun _ _ _ h => h) (Or.inl ⟨by rfl, ?_⟩) (by assumption) ?_
        rotate_left
        · intro w hSw
          (try dsimp only at hSw)
          go_simp
          (try with_reducible rfl)
        (try simp only [Act.put, List.setIfInBounds_toArray, List.set_cons_zero, List.set_cons_succ])
        refine wpAnyH_take (i := 21) (oi := { dst := some 71, op := Go.Op.move (Go.Operand.tmp 70), type := 4, pos := "law.go:33", after := #[{ on := 20, ground := Go.Ground.data }, { on := 17, ground := Go.Ground.chain }], guard := none }) (v := ?_) rfl (by kernel_rfl) (by kernel_rfl) (by kernel_rfl) (fun _ _ _ h => h) (Or.inl ⟨by rfl, ?_⟩) (by assumption) ?_
        rotate_left
        · intro w hSw
          (try dsimp only at hSw)
          go_simp
          (try with_reducible rfl)
        (try simp only [Act.put, List.setIfInBounds_toArray, List.set_cons_zero, List.set_cons_succ])
        refine wpAnyH_ready (rs := [22]) (by kernel_rfl) (by simp) ?_
        refine AllReadyH.cons (o := { dst := some 72, op := Go.Op.call { callee := Go.Callee.value (Go.Operand.func 6), args := #[], argTypes := #[] }, type := 4, pos := "law.go:33", after := #[{ on := 21, ground := Go.Ground.chain }, { on := 21, ground := Go.Ground.guard }], guard := some (21, true) }) rfl (fun K hK => ?_) AllReadyH.nil
        go_simp
        (refine (sure_any _).mono ?_; rintro e v_47 ⟨rfl, hb_47⟩; have hS_47 := SL.later hS_46 hb_47; have hO_47 := Below.trans hO_46 (hb_47.mono hO_46.size); clear hS_46 hO_46; clear hb_47; skip)
        (try go_wp2_with fail)
        refine hK.out _ _ ?_ (fun hHeld => ?_)
        · (try dsimp only)
          first | assumption | (apply SL.drew; assumption) | (apply SA.drew; assumption)
        clear hK K
        (try simp only [Act.put, List.setIfInBounds_toArray, List.set_cons_zero, List.set_cons_succ])
        refine wpAnyH_take (i := 23) (oi := { dst := some 73, op := Go.Op.pick (Go.Operand.tmp 71) (Go.Operand.tmp 72) (Go.Operand.const (Go.Value.bool false)), type := 4, pos := "law.go:33", after := #[{ on := 21, ground := Go.Ground.data }, { on := 22, ground := Go.Ground.data }], guard := none }) (v := ?_) rfl (by kernel_rfl) (by kernel_rfl) (by kernel_rfl) (fun _ _ _ h => h) (Or.inl ⟨by rfl, ?_⟩) (by assumption) ?_
        rotate_left
        · intro w hSw
          (try dsimp only at hSw)
          go_simp
          (try with_reducible rfl)
        (try simp only [Act.put, List.setIfInBounds_toArray, List.set_cons_zero, List.set_cons_succ])
        refine wpAnyH_take (i := 24) (oi := { dst := some 6, op := Go.Op.assign (Go.Operand.tmp 73), type := 4, pos := "law.go:33", after := #[{ on := 23, ground := Go.Ground.data }, { on := 22, ground := Go.Ground.chain }, { on := 0, ground := Go.Ground.phase }, { on := 1, ground := Go.Ground.phase }, { on := 2, ground := Go.Ground.phase }, { on := 3, ground := Go.Ground.phase }, { on := 4, ground := Go.Ground.phase }, { on := 5, ground := Go.Ground.phase }, { on := 6, ground := Go.Ground.phase }, { on := 7, ground := Go.Ground.phase }, { on := 8, ground := Go.Ground.phase }, { on := 9, ground := Go.Ground.phase }, { on := 10, ground := Go.Ground.phase }, { on := 11, ground := Go.Ground.phase }, { on := 12, ground := Go.Ground.phase }, { on := 13, ground := Go.Ground.phase }, { on := 14, ground := Go.Ground.phase }, { on := 15, ground := Go.Ground.phase }, { on := 16, ground := Go.Ground.phase }, { on := 17, ground := Go.Ground.phase }, { on := 18, ground := Go.Ground.phase }, { on := 19, ground := Go.Ground.phase }, { on := 20, ground := Go.Ground.phase }, { on := 21, ground := Go.Ground.phase }, { on := 22, ground := Go.Ground.phase }, { on := 23, ground := Go.Ground.phase }], guard := none }) (v := ?_) rfl (by kernel_rfl) (by kernel_rfl) (by kernel_rfl) (fun _ _ _ h => h) (Or.inl ⟨by rfl, ?_⟩) (by assumption) ?_
        rotate_left
        · intro w hSw
          (try dsimp only at hSw)
          go_simp
          (try with_reducible rfl)
        (try simp only [Act.put, List.setIfInBounds_toArray, List.set_cons_zero, List.set_cons_succ])
        refine wpAnyH_done (by kernel_rfl) ?_ _
        have HO9 := Lib.hid hO_47
        clear hO_47 hS_47
        go_wp2_with fail
        go_ret
        exact ⟨rfl, HO9.out⟩
      · skip
        simp only [Bool.or_false, Bool.or_true, Bool.false_or, Bool.true_or] at HZ3
        refine wp_region_held_drew (S := (SL [(g7, X), (g8, Y), (g9, Z), (z, zero16)])) (by kernel_rfl) ?_ (fun hHeld => ?_)
        · (try dsimp only)
          first | assumption | (apply SL.drew; assumption) | (apply SA.drew; assumption)
        generalize w8.drew = w9 at *
        refine wpAnyH_take (i := 0) (oi := { dst := some 50, op := Go.Op.load 26 (Go.Operand.tmp 7), type := 26, pos := "law.go:33", after := #[], guard := none }) (v := ?_) rfl (by kernel_rfl) (by kernel_rfl) (by kernel_rfl) (fun _ _ _ h => h) (Or.inl ⟨by rfl, ?_⟩) (by assumption) ?_
        rotate_left
        · intro w hSw
          refine exec_load16 (x := .tmp 7) ?_ ?_ (ld16 hSw.h0 HIX.out) <;> rfl
        (try simp only [Act.put, List.setIfInBounds_toArray, List.set_cons_zero, List.set_cons_succ])
        refine wpAnyH_take (i := 1) (oi := { dst := some 51, op := Go.Op.load 26 (Go.Operand.tmp 8), type := 26, pos := "law.go:33", after := #[], guard := none }) (v := ?_) rfl (by kernel_rfl) (by kernel_rfl) (by kernel_rfl) (fun _ _ _ h => h) (Or.inl ⟨by rfl, ?_⟩) (by assumption) ?_
        rotate_left
        · intro w hSw
          refine exec_load16 (x := .tmp 8) ?_ ?_ (ld16 hSw.tl.h0 HIY.out) <;> rfl
        (try simp only [Act.put, List.setIfInBounds_toArray, List.set_cons_zero, List.set_cons_succ])
        refine wpAnyH_take (i := 3) (oi := { dst := some 53, op := Go.Op.load 26 (Go.Operand.tmp 10), type := 26, pos := "law.go:33", after := #[], guard := none }) (v := ?_) rfl (by kernel_rfl) (by kernel_rfl) (by kernel_rfl) (fun _ _ _ h => h) (Or.inl ⟨by rfl, ?_⟩) (by assumption) ?_
        rotate_left
        · intro w hSw
          refine exec_load16 (x := .tmp 10) ?_ ?_ (ld16 hSw.tl.tl.tl.h0 HI0.out) <;> rfl
        (try simp only [Act.put, List.setIfInBounds_toArray, List.set_cons_zero, List.set_cons_succ])
        refine wpAnyH_take (i := 5) (oi := { dst := some 55, op := Go.Op.load 26 (Go.Operand.tmp 7), type := 26, pos := "law.go:33", after := #[], guard := none }) (v := ?_) rfl (by kernel_rfl) (by kernel_rfl) (by kernel_rfl) (fun _ _ _ h => h) (Or.inl ⟨by rfl, ?_⟩) (by assumption) ?_
        rotate_left
        · intro w hSw
          refine exec_load16 (x := .tmp 7) ?_ ?_ (ld16 hSw.h0 HIX.out) <;> rfl
        (try simp only [Act.put, List.setIfInBounds_toArray, List.set_cons_zero, List.set_cons_succ])
        refine wpAnyH_take (i := 6) (oi := { dst := some 56, op := Go.Op.load 26 (Go.Operand.tmp 10), type := 26, pos := "law.go:33", after := #[], guard := none }) (v := ?_) rfl (by kernel_rfl) (by kernel_rfl) (by kernel_rfl) (fun _ _ _ h => h) (Or.inl ⟨by rfl, ?_⟩) (by assumption) ?_
        rotate_left
        · intro w hSw
          refine exec_load16 (x := .tmp 10) ?_ ?_ (ld16 hSw.tl.tl.tl.h0 HI0.out) <;> rfl
        (try simp only [Act.put, List.setIfInBounds_toArray, List.set_cons_zero, List.set_cons_succ])
        refine wpAnyH_take (i := 7) (oi := { dst := some 57, op := Go.Op.binOp Go.BinOp.eql 26 (Go.Operand.tmp 55) (Go.Operand.tmp 56) 26, type := 4, pos := "law.go:33", after := #[{ on := 5, ground := Go.Ground.data }, { on := 6, ground := Go.Ground.data }], guard := none }) (v := ?_) rfl (by kernel_rfl) (by kernel_rfl) (by kernel_rfl) (fun _ _ _ h => h) (Or.inl ⟨by rfl, ?_⟩) (by assumption) ?_
        rotate_left
        · intro w hSw
          refine exec_eql16 (r := 26) (x := .tmp 55) (y := .tmp 56) ?_ ?_ ?_ HZ1.out <;> rfl
        (try simp only [Act.put, List.setIfInBounds_toArray, List.set_cons_zero, List.set_cons_succ])
        refine wpAnyH_ready (rs := [2]) (by kernel_rfl) (by simp) ?_
        refine AllReadyH.cons (o := { dst := some 52, op := Go.Op.call { callee := Go.Callee.value (Go.Operand.func 9), args := #[Go.Operand.tmp 50, Go.Operand.tmp 51], argTypes := #[26, 26] }, type := 26, pos := "law.go:33", after := #[{ on := 0, ground := Go.Ground.data }, { on := 1, ground := Go.Ground.data }], guard := none }) rfl (fun K hK => ?_) AllReadyH.nil
        go_simp
        (refine (HXY.out _).mono ?_; rintro e v_48 ⟨rfl, hb_48⟩; have hS_48 := SL.later hS_0 hb_48; have hO_48 := Below.trans hO_0 (hb_48.mono hO_0.size); clear hS_0 hO_0; clear hb_48; skip)
        (try go_wp2_with fail)
        refine hK.out _ _ ?_ (fun hHeld => ?_)
        · (try dsimp only)
          first | assumption | (apply SL.drew; assumption) | (apply SA.drew; assumption)
        clear hK K
        (try simp only [Act.put, List.setIfInBounds_toArray, List.set_cons_zero, List.set_cons_succ])
        refine wpAnyH_take (i := 4) (oi := { dst := some 54, op := Go.Op.binOp Go.BinOp.eql 26 (Go.Operand.tmp 52) (Go.Operand.tmp 53) 26, type := 4, pos := "law.go:33", after := #[{ on := 2, ground := Go.Ground.data }, { on := 3, ground := Go.Ground.data }], guard := none }) (v := ?_) rfl (by kernel_rfl) (by kernel_rfl) (by kernel_rfl) (fun _ _ _ h => h) (Or.inl ⟨by rfl, ?_⟩) (by assumption) ?_
        rotate_left
        · intro w hSw
          refine exec_eql16 (r := 26) (x := .tmp 52) (y := .tmp 53) ?_ ?_ ?_ HZ3.out <;> rfl
        (try simp only [Act.put, List.setIfInBounds_toArray, List.set_cons_zero, List.set_cons_succ])
        refine wpAnyH_take (i := 8) (oi := { dst := some 58, op := Go.Op.move (Go.Operand.tmp 57), type := 4, pos := "law.go:33", after := #[{ on := 7, ground := Go.Ground.data }, { on := 2, ground := Go.Ground.chain }], guard := none }) (v := ?_) rfl (by kernel_rfl) (by kernel_rfl) (by kernel_rfl) (fun _ _ _ h => h) (Or.inl ⟨by rfl, ?_⟩) (by assumption) ?_
        rotate_left
        · intro w hSw
          (try dsimp only at hSw)
          go_simp
          (try with_reducible rfl)
        (try simp only [Act.put, List.setIfInBounds_toArray, List.set_cons_zero, List.set_cons_succ])
        refine wpAnyH_take (i := 9) (oi := { dst := some 59, op := Go.Op.load 26 (Go.Operand.tmp 8), type := 26, pos := "law.go:33", after := #[{ on := 8, ground := Go.Ground.guard }], guard := some (8, false) }) (v := ?_) rfl (by kernel_rfl) (by kernel_rfl) (by kernel_rfl) (fun _ _ _ h => h) (Or.inl ⟨by rfl, ?_⟩) (by assumption) ?_
        rotate_left
        · intro w hSw
          refine exec_load16 (x := .tmp 8) ?_ ?_ (ld16 hSw.tl.h0 HIY.out) <;> rfl
        (try simp only [Act.put, List.setIfInBounds_toArray, List.set_cons_zero, List.set_cons_succ])
        refine wpAnyH_take (i := 10) (oi := { dst := some 60, op := Go.Op.load 26 (Go.Operand.tmp 10), type := 26, pos := "law.go:33", after := #[{ on := 8, ground := Go.Ground.guard }], guard := some (8, false) }) (v := ?_) rfl (by kernel_rfl) (by kernel_rfl) (by kernel_rfl) (fun _ _ _ h => h) (Or.inl ⟨by rfl, ?_⟩) (by assumption) ?_
        rotate_left
        · intro w hSw
          refine exec_load16 (x := .tmp 10) ?_ ?_ (ld16 hSw.tl.tl.tl.h0 HI0.out) <;> rfl
        (try simp only [Act.put, List.setIfInBounds_toArray, List.set_cons_zero, List.set_cons_succ])
        refine wpAnyH_take (i := 11) (oi := { dst := some 61, op := Go.Op.binOp Go.BinOp.eql 26 (Go.Operand.tmp 59) (Go.Operand.tmp 60) 26, type := 4, pos := "law.go:33", after := #[{ on := 9, ground := Go.Ground.data }, { on := 10, ground := Go.Ground.data }, { on := 8, ground := Go.Ground.guard }], guard := some (8, false) }) (v := ?_) rfl (by kernel_rfl) (by kernel_rfl) (by kernel_rfl) (fun _ _ _ h => h) (Or.inl ⟨by rfl, ?_⟩) (by assumption) ?_
        rotate_left
        · intro w hSw
          refine exec_eql16 (r := 26) (x := .tmp 59) (y := .tmp 60) ?_ ?_ ?_ HZ2.out <;> rfl
        (try simp only [Act.put, List.setIfInBounds_toArray, List.set_cons_zero, List.set_cons_succ])
        refine wpAnyH_take (i := 12) (oi := { dst := some 62, op := Go.Op.pick (Go.Operand.tmp 58) (Go.Operand.const (Go.Value.bool true)) (Go.Operand.tmp 61), type := 4, pos := "law.go:33", after := #[{ on := 8, ground := Go.Ground.data }, { on := 11, ground := Go.Ground.data }], guard := none }) (v := ?_) rfl (by kernel_rfl) (by kernel_rfl) (by kernel_rfl) (fun _ _ _ h => h) (Or.inl ⟨by rfl, ?_⟩) (by assumption) ?_
        rotate_left
        · intro w hSw
          (try dsimp only at hSw)
          go_simp
          (try with_reducible rfl)
        (try simp only [Act.put, List.setIfInBounds_toArray, List.set_cons_zero, List.set_cons_succ])
        refine wpAnyH_take (i := 13) (oi := { dst := some 63, op := Go.Op.binOp Go.BinOp.eql 4 (Go.Operand.tmp 54) (Go.Operand.tmp 62) 4, type := 4, pos := "law.go:33", after := #[{ on := 4, ground := Go.Ground.data }, { on := 12, ground := Go.Ground.data }], guard := none }) (v := ?_) rfl (by kernel_rfl) (by kernel_rfl) (by kernel_rfl) (fun _ _ _ h => h) (Or.inl ⟨by rfl, ?_⟩) (by assumption) ?_
        rotate_left
        · intro w hSw
          (try dsimp only at hSw)
          go_simp
          (try with_reducible rfl)
        (try simp only [Act.put, List.setIfInBounds_toArray, List.set_cons_zero, List.set_cons_succ])
        refine wpAnyH_take (i := 14) (oi := { dst := some 64, op := Go.Op.move (Go.Operand.tmp 63), type := 4, pos := "law.go:33", after := #[{ on := 13, ground := Go.Ground.data }, { on := 8, ground := Go.Ground.chain }], guard := none }) (v := ?_) rfl (by kernel_rfl) (by kernel_rfl) (by kernel_rfl) (fun _ _ _ h => h) (Or.inl ⟨by rfl, ?_⟩) (by assumption) ?_
        rotate_left
        · intro w hSw
          (try dsimp only at hSw)
          go_simp
          (try with_reducible rfl)
        (try simp only [Act.put, List.setIfInBounds_toArray, List.set_cons_zero, List.set_cons_succ])
        refine wpAnyH_take (i := 15) (oi := { dst := some 65, op := Go.Op.load 26 (Go.Operand.tmp 7), type := 26, pos := "law.go:33", after := #[{ on := 14, ground := Go.Ground.guard }], guard := some (14, true) }) (v := ?_) rfl (by kernel_rfl) (by kernel_rfl) (by kernel_rfl) (fun _ _ _ h => h) (Or.inl ⟨by rfl, ?_⟩) (by assumption) ?_
        rotate_left
        · intro w hSw
          refine exec_load16 (x := .tmp 7) ?_ ?_ (ld16 hSw.h0 HIX.out) <;> rfl
        (try simp only [Act.put, List.setIfInBounds_toArray, List.set_cons_zero, List.set_cons_succ])
        refine wpAnyH_take (i := 16) (oi := { dst := some 66, op := Go.Op.load 26 (Go.Operand.tmp 7), type := 26, pos := "law.go:33", after := #[{ on := 14, ground := Go.Ground.guard }], guard := some (14, true) }) (v := ?_) rfl (by kernel_rfl) (by kernel_rfl) (by kernel_rfl) (fun _ _ _ h => h) (Or.inl ⟨by rfl, ?_⟩) (by assumption) ?_
        rotate_left
        · intro w hSw
          refine exec_load16 (x := .tmp 7) ?_ ?_ (ld16 hSw.h0 HIX.out) <;> rfl
        (try simp only [Act.put, List.setIfInBounds_toArray, List.set_cons_zero, List.set_cons_succ])
        refine wpAnyH_take (i := 18) (oi := { dst := some 68, op := Go.Op.load 26 (Go.Operand.tmp 10), type := 26, pos := "law.go:33", after := #[{ on := 14, ground := Go.Ground.guard }], guard := some (14, true) }) (v := ?_) rfl (by kernel_rfl) (by kernel_rfl) (by kernel_rfl) (fun _ _ _ h => h) (Or.inl ⟨by rfl, ?_⟩) (by assumption) ?_
        rotate_left
        · intro w hSw
          refine exec_load16 (x := .tmp 10) ?_ ?_ (ld16 hSw.tl.tl.tl.h0 HI0.out) <;> rfl
        (try simp only [Act.put, List.setIfInBounds_toArray, List.set_cons_zero, List.set_cons_succ])
        refine wpAnyH_ready (rs := [17]) (by kernel_rfl) (by simp) ?_
        refine AllReadyH.cons (o := { dst := some 67, op := Go.Op.call { callee := Go.Callee.value (Go.Operand.func 7), args := #[Go.Operand.tmp 65, Go.Operand.tmp 66], argTypes := #[26, 26] }, type := 26, pos := "law.go:33", after := #[{ on := 15, ground := Go.Ground.data }, { on := 16, ground := Go.Ground.data }, { on := 14, ground := Go.Ground.chain }, { on := 14, ground := Go.Ground.guard }], guard := some (14, true) }) rfl (fun K hK => ?_) AllReadyH.nil
        go_simp
        (refine (HN.out _).mono ?_; rintro e v_49 ⟨rfl, hb_49⟩; have hS_49 := SL.later hS_48 hb_49; have hO_49 := Below.trans hO_48 (hb_49.mono hO_48.size); clear hS_48 hO_48; clear hb_49; skip)
        (try go_wp2_with fail)
        refine hK.out _ _ ?_ (fun hHeld => ?_)
        · (try dsimp only)
          first | assumption | (apply SL.drew; assumption) | (apply SA.drew; assumption)
        clear hK K
        (try simp only [Act.put, List.setIfInBounds_toArray, List.set_cons_zero, List.set_cons_succ])
        refine wpAnyH_take (i := 19) (oi := { dst := some 69, op := Go.Op.binOp Go.BinOp.eql 26 (Go.Operand.tmp 67) (Go.Operand.tmp 68) 26, type := 4, pos := "law.go:33", after := #[{ on := 17, ground := Go.Ground.data }, { on := 18, ground := Go.Ground.data }, { on := 14, ground := Go.Ground.guard }], guard := some (14, true) }) (v := ?_) rfl (by kernel_rfl) (by kernel_rfl) (by kernel_rfl) (fun _ _ _ h => h) (Or.inl ⟨by rfl, ?_⟩) (by assumption) ?_
        rotate_left
        · intro w hSw
          refine exec_eql16 (r := 26) (x := .tmp 67) (y := .tmp 68) ?_ ?_ ?_ HE4.out <;> rfl
        (try simp only [Act.put, List.setIfInBounds_toArray, List.set_cons_zero, List.set_cons_succ])
        refine wpAnyH_take (i := 20) (oi := { dst := some 70, op := Go.Op.pick (Go.Operand.tmp 64) (Go.Operand.tmp 69) (Go.Operand.const (Go.Value.bool false)), type := 4, pos := "law.go:33", after := #[{ on := 14, ground := Go.Ground.data }, { on := 19, ground := Go.Ground.data }], guard := none }) (v := ?_) rfl (by kernel_rfl) (by kernel_rfl) (by kernel_rfl) (fun _ _ _ h => h) (Or.inl ⟨by rfl, ?_⟩) (by assumption) ?_
        rotate_left
        · intro w hSw
          (try dsimp only at hSw)
          go_simp
          (try with_reducible rfl)
        (try simp only [Act.put, List.setIfInBounds_toArray, List.set_cons_zero, List.set_cons_succ])
        refine wpAnyH_take (i := 21) (oi := { dst := some 71, op := Go.Op.move (Go.Operand.tmp 70), type := 4, pos := "law.go:33", after := #[{ on := 20, ground := Go.Ground.data }, { on := 17, ground := Go.Ground.chain }], guard := none }) (v := ?_) rfl (by kernel_rfl) (by kernel_rfl) (by kernel_rfl) (fun _ _ _ h => h) (Or.inl ⟨by rfl, ?_⟩) (by assumption) ?_
        rotate_left
        · intro w hSw
          (try dsimp only at hSw)
          go_simp
          (try with_reducible rfl)
        (try simp only [Act.put, List.setIfInBounds_toArray, List.set_cons_zero, List.set_cons_succ])
        refine wpAnyH_ready (rs := [22]) (by kernel_rfl) (by simp) ?_
        refine AllReadyH.cons (o := { dst := some 72, op := Go.Op.call { callee := Go.Callee.value (Go.Operand.func 6), args := #[], argTypes := #[] }, type := 4, pos := "law.go:33", after := #[{ on := 21, ground := Go.Ground.chain }, { on := 21, ground := Go.Ground.guard }], guard := some (21, true) }) rfl (fun K hK => ?_) AllReadyH.nil
        go_simp
        (refine (sure_any _).mono ?_; rintro e v_50 ⟨rfl, hb_50⟩; have hS_50 := SL.later hS_49 hb_50; have hO_50 := Below.trans hO_49 (hb_50.mono hO_49.size); clear hS_49 hO_49; clear hb_50; skip)
        (try go_wp2_with fail)
        refine hK.out _ _ ?_ (fun hHeld => ?_)
        · (try dsimp only)
          first | assumption | (apply SL.drew; assumption) | (apply SA.drew; assumption)
        clear hK K
        (try simp only [Act.put, List.setIfInBounds_toArray, List.set_cons_zero, List.set_cons_succ])
        refine wpAnyH_take (i := 23) (oi := { dst := some 73, op := Go.Op.pick (Go.Operand.tmp 71) (Go.Operand.tmp 72) (Go.Operand.const (Go.Value.bool false)), type := 4, pos := "law.go:33", after := #[{ on := 21, ground := Go.Ground.data }, { on := 22, ground := Go.Ground.data }], guard := none }) (v := ?_) rfl (by kernel_rfl) (by kernel_rfl) (by kernel_rfl) (fun _ _ _ h => h) (Or.inl ⟨by rfl, ?_⟩) (by assumption) ?_
        rotate_left
        · intro w hSw
          (try dsimp only at hSw)
          go_simp
          (try with_reducible rfl)
        (try simp only [Act.put, List.setIfInBounds_toArray, List.set_cons_zero, List.set_cons_succ])
        refine wpAnyH_take (i := 24) (oi := { dst := some 6, op := Go.Op.assign (Go.Operand.tmp 73), type := 4, pos := "law.go:33", after := #[{ on := 23, ground := Go.Ground.data }, { on := 22, ground := Go.Ground.chain }, { on := 0, ground := Go.Ground.phase }, { on := 1, ground := Go.Ground.phase }, { on := 2, ground := Go.Ground.phase }, { on := 3, ground := Go.Ground.phase }, { on := 4, ground := Go.Ground.phase }, { on := 5, ground := Go.Ground.phase }, { on := 6, ground := Go.Ground.phase }, { on := 7, ground := Go.Ground.phase }, { on := 8, ground := Go.Ground.phase }, { on := 9, ground := Go.Ground.phase }, { on := 10, ground := Go.Ground.phase }, { on := 11, ground := Go.Ground.phase }, { on := 12, ground := Go.Ground.phase }, { on := 13, ground := Go.Ground.phase }, { on := 14, ground := Go.Ground.phase }, { on := 15, ground := Go.Ground.phase }, { on := 16, ground := Go.Ground.phase }, { on := 17, ground := Go.Ground.phase }, { on := 18, ground := Go.Ground.phase }, { on := 19, ground := Go.Ground.phase }, { on := 20, ground := Go.Ground.phase }, { on := 21, ground := Go.Ground.phase }, { on := 22, ground := Go.Ground.phase }, { on := 23, ground := Go.Ground.phase }], guard := none }) (v := ?_) rfl (by kernel_rfl) (by kernel_rfl) (by kernel_rfl) (fun _ _ _ h => h) (Or.inl ⟨by rfl, ?_⟩) (by assumption) ?_
        rotate_left
        · intro w hSw
          (try dsimp only at hSw)
          go_simp
          (try with_reducible rfl)
        (try simp only [Act.put, List.setIfInBounds_toArray, List.set_cons_zero, List.set_cons_succ])
        refine wpAnyH_done (by kernel_rfl) ?_ _
        have HO9 := Lib.hid hO_50
        clear hO_50 hS_50
        go_wp2_with fail
        go_ret
        exact ⟨rfl, HO9.out⟩
    · skip
      simp only [Bool.or_false, Bool.or_true, Bool.false_or, Bool.true_or] at HZ3
      refine wp_region_held_drew (S := (SL [(g7, X), (g8, Y), (g9, Z), (z, zero16)])) (by kernel_rfl) ?_ (fun hHeld => ?_)
      · (try dsimp only)
        first | assumption | (apply SL.drew; assumption) | (apply SA.drew; assumption)
      generalize w8.drew = w9 at *
      refine wpAnyH_take (i := 0) (oi := { dst := some 50, op := Go.Op.load 26 (Go.Operand.tmp 7), type := 26, pos := "law.go:33", after := #[], guard := none }) (v := ?_) rfl (by kernel_rfl) (by kernel_rfl) (by kernel_rfl) (fun _ _ _ h => h) (Or.inl ⟨by rfl, ?_⟩) (by assumption) ?_
      rotate_left
      · intro w hSw
        refine exec_load16 (x := .tmp 7) ?_ ?_ (ld16 hSw.h0 HIX.out) <;> rfl
      (try simp only [Act.put, List.setIfInBounds_toArray, List.set_cons_zero, List.set_cons_succ])
      refine wpAnyH_take (i := 1) (oi := { dst := some 51, op := Go.Op.load 26 (Go.Operand.tmp 8), type := 26, pos := "law.go:33", after := #[], guard := none }) (v := ?_) rfl (by kernel_rfl) (by kernel_rfl) (by kernel_rfl) (fun _ _ _ h => h) (Or.inl ⟨by rfl, ?_⟩) (by assumption) ?_
      rotate_left
      · intro w hSw
        refine exec_load16 (x := .tmp 8) ?_ ?_ (ld16 hSw.tl.h0 HIY.out) <;> rfl
      (try simp only [Act.put, List.setIfInBounds_toArray, List.set_cons_zero, List.set_cons_succ])
      refine wpAnyH_take (i := 3) (oi := { dst := some 53, op := Go.Op.load 26 (Go.Operand.tmp 10), type := 26, pos := "law.go:33", after := #[], guard := none }) (v := ?_) rfl (by kernel_rfl) (by kernel_rfl) (by kernel_rfl) (fun _ _ _ h => h) (Or.inl ⟨by rfl, ?_⟩) (by assumption) ?_
      rotate_left
      · intro w hSw
        refine exec_load16 (x := .tmp 10) ?_ ?_ (ld16 hSw.tl.tl.tl.h0 HI0.out) <;> rfl
      (try simp only [Act.put, List.setIfInBounds_toArray, List.set_cons_zero, List.set_cons_succ])
      refine wpAnyH_take (i := 5) (oi := { dst := some 55, op := Go.Op.load 26 (Go.Operand.tmp 7), type := 26, pos := "law.go:33", after := #[], guard := none }) (v := ?_) rfl (by kernel_rfl) (by kernel_rfl) (by kernel_rfl) (fun _ _ _ h => h) (Or.inl ⟨by rfl, ?_⟩) (by assumption) ?_
      rotate_left
      · intro w hSw
        refine exec_load16 (x := .tmp 7) ?_ ?_ (ld16 hSw.h0 HIX.out) <;> rfl
      (try simp only [Act.put, List.setIfInBounds_toArray, List.set_cons_zero, List.set_cons_succ])
      refine wpAnyH_take (i := 6) (oi := { dst := some 56, op := Go.Op.load 26 (Go.Operand.tmp 10), type := 26, pos := "law.go:33", after := #[], guard := none }) (v := ?_) rfl (by kernel_rfl) (by kernel_rfl) (by kernel_rfl) (fun _ _ _ h => h) (Or.inl ⟨by rfl, ?_⟩) (by assumption) ?_
      rotate_left
      · intro w hSw
        refine exec_load16 (x := .tmp 10) ?_ ?_ (ld16 hSw.tl.tl.tl.h0 HI0.out) <;> rfl
      (try simp only [Act.put, List.setIfInBounds_toArray, List.set_cons_zero, List.set_cons_succ])
      refine wpAnyH_take (i := 7) (oi := { dst := some 57, op := Go.Op.binOp Go.BinOp.eql 26 (Go.Operand.tmp 55) (Go.Operand.tmp 56) 26, type := 4, pos := "law.go:33", after := #[{ on := 5, ground := Go.Ground.data }, { on := 6, ground := Go.Ground.data }], guard := none }) (v := ?_) rfl (by kernel_rfl) (by kernel_rfl) (by kernel_rfl) (fun _ _ _ h => h) (Or.inl ⟨by rfl, ?_⟩) (by assumption) ?_
      rotate_left
      · intro w hSw
        refine exec_eql16 (r := 26) (x := .tmp 55) (y := .tmp 56) ?_ ?_ ?_ HZ1.out <;> rfl
      (try simp only [Act.put, List.setIfInBounds_toArray, List.set_cons_zero, List.set_cons_succ])
      refine wpAnyH_ready (rs := [2]) (by kernel_rfl) (by simp) ?_
      refine AllReadyH.cons (o := { dst := some 52, op := Go.Op.call { callee := Go.Callee.value (Go.Operand.func 9), args := #[Go.Operand.tmp 50, Go.Operand.tmp 51], argTypes := #[26, 26] }, type := 26, pos := "law.go:33", after := #[{ on := 0, ground := Go.Ground.data }, { on := 1, ground := Go.Ground.data }], guard := none }) rfl (fun K hK => ?_) AllReadyH.nil
      go_simp
      (refine (HXY.out _).mono ?_; rintro e v_51 ⟨rfl, hb_51⟩; have hS_51 := SL.later hS_0 hb_51; have hO_51 := Below.trans hO_0 (hb_51.mono hO_0.size); clear hS_0 hO_0; clear hb_51; skip)
      (try go_wp2_with fail)
      refine hK.out _ _ ?_ (fun hHeld => ?_)
      · (try dsimp only)
        first | assumption | (apply SL.drew; assumption) | (apply SA.drew; assumption)
      clear hK K
      (try simp only [Act.put, List.setIfInBounds_toArray, List.set_cons_zero, List.set_cons_succ])
      refine wpAnyH_take (i := 4) (oi := { dst := some 54, op := Go.Op.binOp Go.BinOp.eql 26 (Go.Operand.tmp 52) (Go.Operand.tmp 53) 26, type := 4, pos := "law.go:33", after := #[{ on := 2, ground := Go.Ground.data }, { on := 3, ground := Go.Ground.data }], guard := none }) (v := ?_) rfl (by kernel_rfl) (by kernel_rfl) (by kernel_rfl) (fun _ _ _ h => h) (Or.inl ⟨by rfl, ?_⟩) (by assumption) ?_
      rotate_left
      · intro w hSw
        refine exec_eql16 (r := 26) (x := .tmp 52) (y := .tmp 53) ?_ ?_ ?_ HZ3.out <;> rfl
      (try simp only [Act.put, List.setIfInBounds_toArray, List.set_cons_zero, List.set_cons_succ])
      refine wpAnyH_take (i := 8) (oi := { dst := some 58, op := Go.Op.move (Go.Operand.tmp 57), type := 4, pos := "law.go:33", after := #[{ on := 7, ground := Go.Ground.data }, { on := 2, ground := Go.Ground.chain }], guard := none }) (v := ?_) rfl (by kernel_rfl) (by kernel_rfl) (by kernel_rfl) (fun _ _ _ h => h) (Or.inl ⟨by rfl, ?_⟩) (by assumption) ?_
      rotate_left
      · intro w hSw
        (try dsimp only at hSw)
        go_simp
        (try with_reducible rfl)
      (try simp only [Act.put, List.setIfInBounds_toArray, List.set_cons_zero, List.set_cons_succ])
      refine wpAnyH_take (i := 9) (oi := { dst := some 59, op := Go.Op.load 26 (Go.Operand.tmp 8), type := 26, pos := "law.go:33", after := #[{ on := 8, ground := Go.Ground.guard }], guard := some (8, false) }) (v := undef) rfl (by kernel_rfl) (by kernel_rfl) (by kernel_rfl) (fun _ _ _ h => h) (Or.inr ⟨by rfl, rfl⟩) (by assumption) ?_
      (try simp only [Act.put, List.setIfInBounds_toArray, List.set_cons_zero, List.set_cons_succ])
      refine wpAnyH_take (i := 10) (oi := { dst := some 60, op := Go.Op.load 26 (Go.Operand.tmp 10), type := 26, pos := "law.go:33", after := #[{ on := 8, ground := Go.Ground.guard }], guard := some (8, false) }) (v := undef) rfl (by kernel_rfl) (by kernel_rfl) (by kernel_rfl) (fun _ _ _ h => h) (Or.inr ⟨by rfl, rfl⟩) (by assumption) ?_
      (try simp only [Act.put, List.setIfInBounds_toArray, List.set_cons_zero, List.set_cons_succ])
      refine wpAnyH_take (i := 11) (oi := { dst := some 61, op := Go.Op.binOp Go.BinOp.eql 26 (Go.Operand.tmp 59) (Go.Operand.tmp 60) 26, type := 4, pos := "law.go:33", after := #[{ on := 9, ground := Go.Ground.data }, { on := 10, ground := Go.Ground.data }, { on := 8, ground := Go.Ground.guard }], guard := some (8, false) }) (v := undef) rfl (by kernel_rfl) (by kernel_rfl) (by kernel_rfl) (fun _ _ _ h => h) (Or.inr ⟨by rfl, rfl⟩) (by assumption) ?_
      (try simp only [Act.put, List.setIfInBounds_toArray, List.set_cons_zero, List.set_cons_succ])
      refine wpAnyH_take (i := 12) (oi := { dst := some 62, op := Go.Op.pick (Go.Operand.tmp 58) (Go.Operand.const (Go.Value.bool true)) (Go.Operand.tmp 61), type := 4, pos := "law.go:33", after := #[{ on := 8, ground := Go.Ground.data }, { on := 11, ground := Go.Ground.data }], guard := none }) (v := ?_) rfl (by kernel_rfl) (by kernel_rfl) (by kernel_rfl) (fun _ _ _ h => h) (Or.inl ⟨by rfl, ?_⟩) (by assumption) ?_
      rotate_left
      · intro w hSw
        (try dsimp only at hSw)
        go_simp
        (try with_reducible rfl)
      (try simp only [Act.put, List.setIfInBounds_toArray, List.set_cons_zero, List.set_cons_succ])
      refine wpAnyH_take (i := 13) (oi := { dst := some 63, op := Go.Op.binOp Go.BinOp.eql 4 (Go.Operand.tmp 54) (Go.Operand.tmp 62) 4, type := 4, pos := "law.go:33", after := #[{ on := 4, ground := Go.Ground.data }, { on := 12, ground := Go.Ground.data }], guard := none }) (v := ?_) rfl (by kernel_rfl) (by kernel_rfl) (by kernel_rfl) (fun _ _ _ h => h) (Or.inl ⟨by rfl, ?_⟩) (by assumption) ?_
      rotate_left
      · intro w hSw
        (try dsimp only at hSw)
        go_simp
        (try with_reducible rfl)
      (try simp only [Act.put, List.setIfInBounds_toArray, List.set_cons_zero, List.set_cons_succ])
      refine wpAnyH_take (i := 14) (oi := { dst := some 64, op := Go.Op.move (Go.Operand.tmp 63), type := 4, pos := "law.go:33", after := #[{ on := 13, ground := Go.Ground.data }, { on := 8, ground := Go.Ground.chain }], guard := none }) (v := ?_) rfl (by kernel_rfl) (by kernel_rfl) (by kernel_rfl) (fun _ _ _ h => h) (Or.inl ⟨by rfl, ?_⟩) (by assumption) ?_
      rotate_left
      · intro w hSw
        (try dsimp only at hSw)
        go_simp
        (try with_reducible rfl)
      (try simp only [Act.put, List.setIfInBounds_toArray, List.set_cons_zero, List.set_cons_succ])
      refine wpAnyH_take (i := 15) (oi := { dst := some 65, op := Go.Op.load 26 (Go.Operand.tmp 7), type := 26, pos := "law.go:33", after := #[{ on := 14, ground := Go.Ground.guard }], guard := some (14, true) }) (v := ?_) rfl (by kernel_rfl) (by kernel_rfl) (by kernel_rfl) (fun _ _ _ h => h) (Or.inl ⟨by rfl, ?_⟩) (by assumption) ?_
      rotate_left
      · intro w hSw
        refine exec_load16 (x := .tmp 7) ?_ ?_ (ld16 hSw.h0 HIX.out) <;> rfl
      (try simp only [Act.put, List.setIfInBounds_toArray, List.set_cons_zero, List.set_cons_succ])
      refine wpAnyH_take (i := 16) (oi := { dst := some 66, op := Go.Op.load 26 (Go.Operand.tmp 7), type := 26, pos := "law.go:33", after := #[{ on := 14, ground := Go.Ground.guard }], guard := some (14, true) }) (v := ?_) rfl (by kernel_rfl) (by kernel_rfl) (by kernel_rfl) (fun _ _ _ h => h) (Or.inl ⟨by rfl, ?_⟩) (by assumption) ?_
      rotate_left
      · intro w hSw
        refine exec_load16 (x := .tmp 7) ?_ ?_ (ld16 hSw.h0 HIX.out) <;> rfl
      (try simp only [Act.put, List.setIfInBounds_toArray, List.set_cons_zero, List.set_cons_succ])
      refine wpAnyH_take (i := 18) (oi := { dst := some 68, op := Go.Op.load 26 (Go.Operand.tmp 10), type := 26, pos := "law.go:33", after := #[{ on := 14, ground := Go.Ground.guard }], guard := some (14, true) }) (v := ?_) rfl (by kernel_rfl) (by kernel_rfl) (by kernel_rfl) (fun _ _ _ h => h) (Or.inl ⟨by rfl, ?_⟩) (by assumption) ?_
      rotate_left
      · intro w hSw
        refine exec_load16 (x := .tmp 10) ?_ ?_ (ld16 hSw.tl.tl.tl.h0 HI0.out) <;> rfl
      (try simp only [Act.put, List.setIfInBounds_toArray, List.set_cons_zero, List.set_cons_succ])
      refine wpAnyH_ready (rs := [17]) (by kernel_rfl) (by simp) ?_
      refine AllReadyH.cons (o := { dst := some 67, op := Go.Op.call { callee := Go.Callee.value (Go.Operand.func 7), args := #[Go.Operand.tmp 65, Go.Operand.tmp 66], argTypes := #[26, 26] }, type := 26, pos := "law.go:33", after := #[{ on := 15, ground := Go.Ground.data }, { on := 16, ground := Go.Ground.data }, { on := 14, ground := Go.Ground.chain }, { on := 14, ground := Go.Ground.guard }], guard := some (14, true) }) rfl (fun K hK => ?_) AllReadyH.nil
      go_simp
      (refine (HN.out _).mono ?_; rintro e v_52 ⟨rfl, hb_52⟩; have hS_52 := SL.later hS_51 hb_52; have hO_52 := Below.trans hO_51 (hb_52.mono hO_51.size); clear hS_51 hO_51; clear hb_52; skip)
      (try go_wp2_with fail)
      refine hK.out _ _ ?_ (fun hHeld => ?_)
      · (try dsimp only)
        first | assumption | (apply SL.drew; assumption) | (apply SA.drew; assumption)
      clear hK K
      (try simp only [Act.put, List.setIfInBounds_toArray, List.set_cons_zero, List.set_cons_succ])
      refine wpAnyH_take (i := 19) (oi := { dst := some 69, op := Go.Op.binOp Go.BinOp.eql 26 (Go.Operand.tmp 67) (Go.Operand.tmp 68) 26, type := 4, pos := "law.go:33", after := #[{ on := 17, ground := Go.Ground.data }, { on := 18, ground := Go.Ground.data }, { on := 14, ground := Go.Ground.guard }], guard := some (14, true) }) (v := ?_) rfl (by kernel_rfl) (by kernel_rfl) (by kernel_rfl) (fun _ _ _ h => h) (Or.inl ⟨by rfl, ?_⟩) (by assumption) ?_
      rotate_left
      · intro w hSw
        refine exec_eql16 (r := 26) (x := .tmp 67) (y := .tmp 68) ?_ ?_ ?_ HE4.out <;> rfl
      (try simp only [Act.put, List.setIfInBounds_toArray, List.set_cons_zero, List.set_cons_succ])
      refine wpAnyH_take (i := 20) (oi := { dst := some 70, op := Go.Op.pick (Go.Operand.tmp 64) (Go.Operand.tmp 69) (Go.Operand.const (Go.Value.bool false)), type := 4, pos := "law.go:33", after := #[{ on := 14, ground := Go.Ground.data }, { on := 19, ground := Go.Ground.data }], guard := none }) (v := ?_) rfl (by kernel_rfl) (by kernel_rfl) (by kernel_rfl) (fun _ _ _ h => h) (Or.inl ⟨by rfl, ?_⟩) (by assumption) ?_
      rotate_left
      · intro w hSw
        (try dsimp only at hSw)
        go_simp
        (try with_reducible rfl)
      (try simp only [Act.put, List.setIfInBounds_toArray, List.set_cons_zero, List.set_cons_succ])
      refine wpAnyH_take (i := 21) (oi := { dst := some 71, op := Go.Op.move (Go.Operand.tmp 70), type := 4, pos := "law.go:33", after := #[{ on := 20, ground := Go.Ground.data }, { on := 17, ground := Go.Ground.chain }], guard := none }) (v := ?_) rfl (by kernel_rfl) (by kernel_rfl) (by kernel_rfl) (fun _ _ _ h => h) (Or.inl ⟨by rfl, ?_⟩) (by assumption) ?_
      rotate_left
      · intro w hSw
        (try dsimp only at hSw)
        go_simp
        (try with_reducible rfl)
      (try simp only [Act.put, List.setIfInBounds_toArray, List.set_cons_zero, List.set_cons_succ])
      refine wpAnyH_ready (rs := [22]) (by kernel_rfl) (by simp) ?_
      refine AllReadyH.cons (o := { dst := some 72, op := Go.Op.call { callee := Go.Callee.value (Go.Operand.func 6), args := #[], argTypes := #[] }, type := 4, pos := "law.go:33", after := #[{ on := 21, ground := Go.Ground.chain }, { on := 21, ground := Go.Ground.guard }], guard := some (21, true) }) rfl (fun K hK => ?_) AllReadyH.nil
      go_simp
      (refine (sure_any _).mono ?_; rintro e v_53 ⟨rfl, hb_53⟩; have hS_53 := SL.later hS_52 hb_53; have hO_53 := Below.trans hO_52 (hb_53.mono hO_52.size); clear hS_52 hO_52; clear hb_53; skip)
      (try go_wp2_with fail)
      refine hK.out _ _ ?_ (fun hHeld => ?_)
      · (try dsimp only)
        first | assumption | (apply SL.drew; assumption) | (apply SA.drew; assumption)
      clear hK K
      (try simp only [Act.put, List.setIfInBounds_toArray, List.set_cons_zero, List.set_cons_succ])
      refine wpAnyH_take (i := 23) (oi := { dst := some 73, op := Go.Op.pick (Go.Operand.tmp 71) (Go.Operand.tmp 72) (Go.Operand.const (Go.Value.bool false)), type := 4, pos := "law.go:33", after := #[{ on := 21, ground := Go.Ground.data }, { on := 22, ground := Go.Ground.data }], guard := none }) (v := ?_) rfl (by kernel_rfl) (by kernel_rfl) (by kernel_rfl) (fun _ _ _ h => h) (Or.inl ⟨by rfl, ?_⟩) (by assumption) ?_
      rotate_left
      · intro w hSw
        (try dsimp only at hSw)
        go_simp
        (try with_reducible rfl)
      (try simp only [Act.put, List.setIfInBounds_toArray, List.set_cons_zero, List.set_cons_succ])
      refine wpAnyH_take (i := 24) (oi := { dst := some 6, op := Go.Op.assign (Go.Operand.tmp 73), type := 4, pos := "law.go:33", after := #[{ on := 23, ground := Go.Ground.data }, { on := 22, ground := Go.Ground.chain }, { on := 0, ground := Go.Ground.phase }, { on := 1, ground := Go.Ground.phase }, { on := 2, ground := Go.Ground.phase }, { on := 3, ground := Go.Ground.phase }, { on := 4, ground := Go.Ground.phase }, { on := 5, ground := Go.Ground.phase }, { on := 6, ground := Go.Ground.phase }, { on := 7, ground := Go.Ground.phase }, { on := 8, ground := Go.Ground.phase }, { on := 9, ground := Go.Ground.phase }, { on := 10, ground := Go.Ground.phase }, { on := 11, ground := Go.Ground.phase }, { on := 12, ground := Go.Ground.phase }, { on := 13, ground := Go.Ground.phase }, { on := 14, ground := Go.Ground.phase }, { on := 15, ground := Go.Ground.phase }, { on := 16, ground := Go.Ground.phase }, { on := 17, ground := Go.Ground.phase }, { on := 18, ground := Go.Ground.phase }, { on := 19, ground := Go.Ground.phase }, { on := 20, ground := Go.Ground.phase }, { on := 21, ground := Go.Ground.phase }, { on := 22, ground := Go.Ground.phase }, { on := 23, ground := Go.Ground.phase }], guard := none }) (v := ?_) rfl (by kernel_rfl) (by kernel_rfl) (by kernel_rfl) (fun _ _ _ h => h) (Or.inl ⟨by rfl, ?_⟩) (by assumption) ?_
      rotate_left
      · intro w hSw
        (try dsimp only at hSw)
        go_simp
        (try with_reducible rfl)
      (try simp only [Act.put, List.setIfInBounds_toArray, List.set_cons_zero, List.set_cons_succ])
      refine wpAnyH_done (by kernel_rfl) ?_ _
      have HO9 := Lib.hid hO_53
      clear hO_53 hS_53
      go_wp2_with fail
      go_ret
      exact ⟨rfl, HO9.out⟩
end Go.Proofs.Ytafbfjnbajdbkaa
