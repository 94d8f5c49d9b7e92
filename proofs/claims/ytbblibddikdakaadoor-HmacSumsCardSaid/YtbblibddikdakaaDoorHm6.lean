/- What must come of sums with a key whatever the input is. -/
import Derived.Test.YtbblibddikdakaaDoorHm4
import Derived.Test.YtbblibddikdakaaDoorHm5
namespace Go.Proofs.YtbblibddikdakaaDoor
set_option linter.unusedVariables false
set_option linter.unusedSimpArgs false
open Go.RowKit

theorem Bytes.nil {w : World} {oa : Option Addr} {f : Nat → Nat} : Bytes w oa 0 f := fun k hk => absurd hk (Nat.not_lt_zero _)
theorem RB.below {t : TypeId} {n g : Nat} {f : Nat → Nat} {w w' : World} (h : RB t n g f w) (hb : Below w.heap.size w w') : RB t n g f w' := Blk.below h hb (Blk.lt h)
set_option maxRecDepth 100000 in
set_option maxHeartbeats 4000000 in
theorem hmac_sure (w : World) (hg : GV w) : Calls Tryd.prog 17 #[] w fun e w' => e = .returned (.bool true) ∧ Below w.heap.size w w' := by
  have hz := zero32_run
  obtain ⟨D, hD⟩ : ∃ D, shaN 96 f92 = D := ⟨_, rfl⟩
  have K0 : Hid ((D 0 : Int) = 182) := Lib.hid (by rw [← hD, ← hm_none (fun _ => 0) (fun _ => 0), hm_0]; rfl)
  have K1 : Hid ((D 31 : Int) = 173) := Lib.hid (by rw [← hD, ← hm_none (fun _ => 0) (fun _ => 0), hm_31]; rfl)
  obtain ⟨CD, hCD⟩ : ∃ C, (rowC 32 D).toArray = C := ⟨_, rfl⟩
  have HCD := Lib.hid hCD
  have HI : Hid ((Tryd.prog.info? 27).map (·.size) = some CD.size) := Lib.hid (hCD ▸ info27 _)
  have HI1 : Hid (CD.all (·.oneCell') = true) := Lib.hid (hCD ▸ one32 _)
  have HC1 : Hid (∀ w', GV w' → Calls Tryd.prog 21 #[.slice none 0 0, .slice none 0 0] w' fun e w'' => e = .returned (.agg CD) ∧ Below w'.heap.size w' w'') := Lib.hid fun w' h => by
    rw [← hCD, ← hD, ← hm_none (fun _ => 0) (fun _ => 0)]; exact mac_any none none 0 0 0 0 _ _ w' Bytes.nil (Nat.le_refl _) (fun _ => rfl) (by decide) Bytes.nil (Nat.le_refl _) (by decide) h
  have HNEW : Hid (∀ w', GV w' → Calls Tryd.prog 18 #[.slice none 0 0] w' fun e w'' => ∃ k gi go, e = .returned (.pointer (some ⟨k, 0, none⟩)) ∧ KH w'' k gi go (whK 0 (fun _ => 0)) 0 (fun _ => 0) ∧ Below w'.heap.size w' w'') := Lib.hid fun w' h =>
    (hmnew_any none 0 0 (fun _ => 0) w' Bytes.nil (Nat.le_refl _) (by decide) (fun _ => rfl) h).mono fun e w'' ⟨k, gi, go, h1, h2, h3, _⟩ => ⟨k, gi, go, h1, h2 _, h3⟩
  have HSUM : Hid (∀ k gi go w', KH w' k gi go (whK 0 (fun _ => 0)) 0 (fun _ => 0) → GV w' → Calls Tryd.prog 20 #[.pointer (some ⟨k, 0, none⟩)] w' fun e w'' => e = .returned (.agg CD) ∧ Below w'.heap.size w' w'') := Lib.hid fun k gi go w' h h' => by
    rw [← hCD, ← hD, ← hm_none (fun _ => 0) (fun _ => 0)]; exact ksum_any k gi go 0 _ _ w' h (by decide) h'
  have HPAR : Hid (∀ w', GV w' → Calls Tryd.prog 23 #[.slice none 0 0, .slice none 0 0] w' fun e w'' => e = .returned (.agg CD) ∧ Below w'.heap.size w' w'') := Lib.hid fun w' h => by
    rw [← hCD, ← hD, ← hm_none (fun _ => 0) (fun _ => 0)]; exact parts_any none 0 0 (fun _ => 0) none 0 0 (fun _ => 0) (fun _ _ => 0) w' Bytes.nil (Nat.le_refl _) (fun _ => rfl) (by decide) (fun i hi => absurd hi (Nat.not_lt_zero _)) (fun i hi => absurd hi (Nat.not_lt_zero _)) (by decide) (by decide) h
  have HEQ : Hid (∀ w, (Op.equalIn 10000 27 (.agg CD) (.agg CD)).run Tryd.prog w = .ok true w) := Lib.hid fun w => by
    rw [← hCD]; have := eq32 D D w; rw [eqS_refl] at this; exact this
  have HG := Lib.hid hg
  clear hCD hD hg
  go_enter Tryd.func17, Tryd.ntmps17
  go_wp2_with fail
  refine (HC1.out _ HG.out).mono ?_
  rintro e w1 ⟨rfl, hb1⟩
  obtain ⟨g1, hg1⟩ : ∃ g, w1.heap.size = g := ⟨_, rfl⟩
  obtain ⟨wa, hwa⟩ : ∃ q, w1.alloc (.cells zero32 27) = q := ⟨_, rfl⟩
  obtain ⟨w2, hw2⟩ : ∃ q, wa.setCells g1 0 CD.toList = q := ⟨_, rfl⟩
  have hl := lay32 w1 D HCD.out
  rw [hg1, hwa, hw2] at hl
  have HTH := Lib.hid hl.2.2
  have H2 : Hid (RB 27 32 g1 D w2 ∧ Below w.heap.size w w2 ∧ GV w2) := Lib.hid ⟨hl.1, hb1.trans (hl.2.1.mono (by rw [← hg1]; exact hb1.size)), HG.out.later (hb1.trans (hl.2.1.mono (by rw [← hg1]; exact hb1.size)))⟩
  clear hl hb1
  go_wp2_with (first | (refine wpList_store_mid rfl 27 (.tmp 1) (.tmp 2) rfl g1 0 CD rfl rfl HTH.out HI.out HI1.out ?_; rw [hw2]))
  clear hw2 hwa hg1 HTH hz
  have hS_0 : RB 27 32 g1 D w2.drew := H2.out.1
  have hP_0 : Below w.heap.size w w2.drew := H2.out.2.1.drew
  have hG_0 : GV w2.drew := H2.out.2.2.drew
  clear H2
  refine wp_region_held_drew (S := (RB 27 32 g1 D)) (by kernel_rfl) ?_ (fun hHeld => ?_)
  · (try dsimp only)
    first | assumption
  generalize w2.drew = W0 at *
  refine wpAnyH_take (i := 0) (oi := { dst := some 3, op := Go.Op.indexAddr 27 (Go.Operand.tmp 1) (Go.Operand.const (Go.Value.int Go.IntKind.i64 0)), type := 0, pos := "law.go:13", after := #[], guard := none }) (v := ?_) rfl (by kernel_rfl) (by kernel_rfl) (by kernel_rfl) (fun _ _ _ h => h) (Or.inl ⟨by rfl, ?_⟩) (by assumption) ?_
  rotate_left
  · intro wS hSw
    (try dsimp only at hSw)
    go_simp
    (try with_reducible rfl)
  (try simp only [Act.put, List.setIfInBounds_toArray, List.set_cons_zero, List.set_cons_succ])
  refine wpAnyH_take (i := 1) (oi := { dst := some 4, op := Go.Op.load 5 (Go.Operand.tmp 3), type := 5, pos := "law.go:13", after := #[{ on := 0, ground := Go.Ground.data }], guard := none }) (v := ?_) rfl (by kernel_rfl) (by kernel_rfl) (by kernel_rfl) (fun _ _ _ h => h) (Or.inl ⟨by rfl, ?_⟩) (by assumption) ?_
  rotate_left
  · intro wS hSw
    (have c9 := RB.int hSw (i := 0) (by decide) K0.out; go_simp; (try with_reducible rfl))
  (try simp only [Act.put, List.setIfInBounds_toArray, List.set_cons_zero, List.set_cons_succ])
  refine wpAnyH_take (i := 2) (oi := { dst := some 5, op := Go.Op.binOp Go.BinOp.eql 5 (Go.Operand.tmp 4) (Go.Operand.const (Go.Value.int Go.IntKind.u8 182)) 5, type := 4, pos := "law.go:13", after := #[{ on := 1, ground := Go.Ground.data }], guard := none }) (v := ?_) rfl (by kernel_rfl) (by kernel_rfl) (by kernel_rfl) (fun _ _ _ h => h) (Or.inl ⟨by rfl, ?_⟩) (by assumption) ?_
  rotate_left
  · intro wS hSw
    (try dsimp only at hSw)
    go_simp
    (try with_reducible rfl)
  (try simp only [Act.put, List.setIfInBounds_toArray, List.set_cons_zero, List.set_cons_succ])
  refine wpAnyH_take (i := 3) (oi := { dst := some 6, op := Go.Op.move (Go.Operand.tmp 5), type := 4, pos := "law.go:13", after := #[{ on := 2, ground := Go.Ground.data }], guard := none }) (v := ?_) rfl (by kernel_rfl) (by kernel_rfl) (by kernel_rfl) (fun _ _ _ h => h) (Or.inl ⟨by rfl, ?_⟩) (by assumption) ?_
  rotate_left
  · intro wS hSw
    (try dsimp only at hSw)
    go_simp
    (try with_reducible rfl)
  (try simp only [Act.put, List.setIfInBounds_toArray, List.set_cons_zero, List.set_cons_succ])
  refine wpAnyH_take (i := 4) (oi := { dst := some 7, op := Go.Op.indexAddr 27 (Go.Operand.tmp 1) (Go.Operand.const (Go.Value.int Go.IntKind.i64 31)), type := 0, pos := "law.go:13", after := #[{ on := 3, ground := Go.Ground.guard }], guard := some (3, true) }) (v := ?_) rfl (by kernel_rfl) (by kernel_rfl) (by kernel_rfl) (fun _ _ _ h => h) (Or.inl ⟨by rfl, ?_⟩) (by assumption) ?_
  rotate_left
  · intro wS hSw
    (try dsimp only at hSw)
    go_simp
    (try with_reducible rfl)
  (try simp only [Act.put, List.setIfInBounds_toArray, List.set_cons_zero, List.set_cons_succ])
  refine wpAnyH_take (i := 5) (oi := { dst := some 8, op := Go.Op.load 5 (Go.Operand.tmp 7), type := 5, pos := "law.go:13", after := #[{ on := 4, ground := Go.Ground.data }, { on := 3, ground := Go.Ground.guard }], guard := some (3, true) }) (v := ?_) rfl (by kernel_rfl) (by kernel_rfl) (by kernel_rfl) (fun _ _ _ h => h) (Or.inl ⟨by rfl, ?_⟩) (by assumption) ?_
  rotate_left
  · intro wS hSw
    (have c9 := RB.int hSw (i := 31) (by decide) K1.out; go_simp; (try with_reducible rfl))
  (try simp only [Act.put, List.setIfInBounds_toArray, List.set_cons_zero, List.set_cons_succ])
  refine wpAnyH_take (i := 6) (oi := { dst := some 9, op := Go.Op.binOp Go.BinOp.eql 5 (Go.Operand.tmp 8) (Go.Operand.const (Go.Value.int Go.IntKind.u8 173)) 5, type := 4, pos := "law.go:13", after := #[{ on := 5, ground := Go.Ground.data }, { on := 3, ground := Go.Ground.guard }], guard := some (3, true) }) (v := ?_) rfl (by kernel_rfl) (by kernel_rfl) (by kernel_rfl) (fun _ _ _ h => h) (Or.inl ⟨by rfl, ?_⟩) (by assumption) ?_
  rotate_left
  · intro wS hSw
    (try dsimp only at hSw)
    go_simp
    (try with_reducible rfl)
  (try simp only [Act.put, List.setIfInBounds_toArray, List.set_cons_zero, List.set_cons_succ])
  refine wpAnyH_take (i := 7) (oi := { dst := some 10, op := Go.Op.pick (Go.Operand.tmp 6) (Go.Operand.tmp 9) (Go.Operand.const (Go.Value.bool false)), type := 4, pos := "law.go:13", after := #[{ on := 3, ground := Go.Ground.data }, { on := 6, ground := Go.Ground.data }], guard := none }) (v := ?_) rfl (by kernel_rfl) (by kernel_rfl) (by kernel_rfl) (fun _ _ _ h => h) (Or.inl ⟨by rfl, ?_⟩) (by assumption) ?_
  rotate_left
  · intro wS hSw
    (try dsimp only at hSw)
    go_simp
    (try with_reducible rfl)
  (try simp only [Act.put, List.setIfInBounds_toArray, List.set_cons_zero, List.set_cons_succ])
  refine wpAnyH_take (i := 8) (oi := { dst := some 11, op := Go.Op.move (Go.Operand.tmp 10), type := 4, pos := "law.go:13", after := #[{ on := 7, ground := Go.Ground.data }, { on := 3, ground := Go.Ground.chain }], guard := none }) (v := ?_) rfl (by kernel_rfl) (by kernel_rfl) (by kernel_rfl) (fun _ _ _ h => h) (Or.inl ⟨by rfl, ?_⟩) (by assumption) ?_
  rotate_left
  · intro wS hSw
    (try dsimp only at hSw)
    go_simp
    (try with_reducible rfl)
  (try simp only [Act.put, List.setIfInBounds_toArray, List.set_cons_zero, List.set_cons_succ])
  refine wpAnyH_take (i := 11) (oi := { dst := some 14, op := Go.Op.load 27 (Go.Operand.tmp 1), type := 27, pos := "law.go:13", after := #[{ on := 8, ground := Go.Ground.guard }], guard := some (8, true) }) (v := ?_) rfl (by kernel_rfl) (by kernel_rfl) (by kernel_rfl) (fun _ _ _ h => h) (Or.inl ⟨by rfl, ?_⟩) (by assumption) ?_
  rotate_left
  · intro wS hSw
    (refine exec_load32 (x := .tmp 1) (C := CD) ?_ ?_ (by rw [← HCD.out]; exact hSw) HI.out <;> rfl)
  (try simp only [Act.put, List.setIfInBounds_toArray, List.set_cons_zero, List.set_cons_succ])
  refine wpAnyH_ready (rs := [9]) (by kernel_rfl) (by simp) ?_
  refine AllReadyH.cons (o := { dst := some 12, op := Go.Op.call { callee := Go.Callee.value (Go.Operand.func 18), args := #[Go.Operand.const (Go.Value.slice none 0 0)], argTypes := #[25] }, type := 34, pos := "law.go:13", after := #[{ on := 8, ground := Go.Ground.chain }, { on := 8, ground := Go.Ground.guard }], guard := some (8, true) }) rfl (fun K hK => ?_) AllReadyH.nil
  go_simp
  (refine (HNEW.out _ hG_0).mono ?_; rintro e v_1 ⟨k, gi, go, rfl, hK, hb_1⟩; have HK := Lib.hid hK; clear hK; have hS_1 := hS_0.below hb_1; have hP_1 := hP_0.trans (hb_1.mono hP_0.size); have hG_1 := hG_0.later hb_1; clear hb_1 hS_0 hP_0 hG_0; skip)
  (try go_wp2_with fail)
  refine hK.out _ _ ?_ (fun hHeld => ?_)
  · (try dsimp only)
    first | assumption
  clear hK K
  (try simp only [Act.put, List.setIfInBounds_toArray, List.set_cons_zero, List.set_cons_succ])
  refine wpAnyH_ready (rs := [10]) (by kernel_rfl) (by simp) ?_
  refine AllReadyH.cons (o := { dst := some 13, op := Go.Op.call { callee := Go.Callee.value (Go.Operand.func 20), args := #[Go.Operand.tmp 12], argTypes := #[34] }, type := 27, pos := "law.go:13", after := #[{ on := 9, ground := Go.Ground.data }, { on := 9, ground := Go.Ground.chain }, { on := 8, ground := Go.Ground.guard }], guard := some (8, true) }) rfl (fun K hK => ?_) AllReadyH.nil
  go_simp
  (refine (HSUM.out k gi go _ HK.out hG_1).mono ?_; rintro e v_2 ⟨rfl, hb_2⟩; have hS_2 := hS_1.below hb_2; have hP_2 := hP_1.trans (hb_2.mono hP_1.size); have hG_2 := hG_1.later hb_2; clear hb_2 hS_1 hP_1 hG_1; skip)
  (try go_wp2_with fail)
  refine hK.out _ _ ?_ (fun hHeld => ?_)
  · (try dsimp only)
    first | assumption
  clear hK K
  (try simp only [Act.put, List.setIfInBounds_toArray, List.set_cons_zero, List.set_cons_succ])
  refine wpAnyH_take (i := 12) (oi := { dst := some 15, op := Go.Op.binOp Go.BinOp.eql 27 (Go.Operand.tmp 13) (Go.Operand.tmp 14) 27, type := 4, pos := "law.go:13", after := #[{ on := 10, ground := Go.Ground.data }, { on := 11, ground := Go.Ground.data }, { on := 8, ground := Go.Ground.guard }], guard := some (8, true) }) (v := ?_) rfl (by kernel_rfl) (by kernel_rfl) (by kernel_rfl) (fun _ _ _ h => h) (Or.inl ⟨by rfl, ?_⟩) (by assumption) ?_
  rotate_left
  · intro wS hSw
    refine exec_eql32 (r := 27) (x := .tmp 13) (y := .tmp 14) ?_ ?_ ?_ HEQ.out <;> rfl
  (try simp only [Act.put, List.setIfInBounds_toArray, List.set_cons_zero, List.set_cons_succ])
  refine wpAnyH_take (i := 13) (oi := { dst := some 16, op := Go.Op.pick (Go.Operand.tmp 11) (Go.Operand.tmp 15) (Go.Operand.const (Go.Value.bool false)), type := 4, pos := "law.go:13", after := #[{ on := 8, ground := Go.Ground.data }, { on := 12, ground := Go.Ground.data }], guard := none }) (v := ?_) rfl (by kernel_rfl) (by kernel_rfl) (by kernel_rfl) (fun _ _ _ h => h) (Or.inl ⟨by rfl, ?_⟩) (by assumption) ?_
  rotate_left
  · intro wS hSw
    (try dsimp only at hSw)
    go_simp
    (try with_reducible rfl)
  (try simp only [Act.put, List.setIfInBounds_toArray, List.set_cons_zero, List.set_cons_succ])
  refine wpAnyH_take (i := 14) (oi := { dst := some 17, op := Go.Op.move (Go.Operand.tmp 16), type := 4, pos := "law.go:13", after := #[{ on := 13, ground := Go.Ground.data }, { on := 10, ground := Go.Ground.chain }], guard := none }) (v := ?_) rfl (by kernel_rfl) (by kernel_rfl) (by kernel_rfl) (fun _ _ _ h => h) (Or.inl ⟨by rfl, ?_⟩) (by assumption) ?_
  rotate_left
  · intro wS hSw
    (try dsimp only at hSw)
    go_simp
    (try with_reducible rfl)
  (try simp only [Act.put, List.setIfInBounds_toArray, List.set_cons_zero, List.set_cons_succ])
  refine wpAnyH_take (i := 16) (oi := { dst := some 19, op := Go.Op.load 27 (Go.Operand.tmp 1), type := 27, pos := "law.go:13", after := #[{ on := 14, ground := Go.Ground.guard }], guard := some (14, true) }) (v := ?_) rfl (by kernel_rfl) (by kernel_rfl) (by kernel_rfl) (fun _ _ _ h => h) (Or.inl ⟨by rfl, ?_⟩) (by assumption) ?_
  rotate_left
  · intro wS hSw
    (refine exec_load32 (x := .tmp 1) (C := CD) ?_ ?_ (by rw [← HCD.out]; exact hSw) HI.out <;> rfl)
  (try simp only [Act.put, List.setIfInBounds_toArray, List.set_cons_zero, List.set_cons_succ])
  refine wpAnyH_ready (rs := [15]) (by kernel_rfl) (by simp) ?_
  refine AllReadyH.cons (o := { dst := some 18, op := Go.Op.call { callee := Go.Callee.value (Go.Operand.func 23), args := #[Go.Operand.const (Go.Value.slice none 0 0), Go.Operand.const (Go.Value.slice none 0 0)], argTypes := #[25, 22] }, type := 27, pos := "law.go:13", after := #[{ on := 14, ground := Go.Ground.chain }, { on := 14, ground := Go.Ground.guard }], guard := some (14, true) }) rfl (fun K hK => ?_) AllReadyH.nil
  go_simp
  (refine (HPAR.out _ hG_2).mono ?_; rintro e v_3 ⟨rfl, hb_3⟩; have hS_3 := hS_2.below hb_3; have hP_3 := hP_2.trans (hb_3.mono hP_2.size); have hG_3 := hG_2.later hb_3; clear hb_3 hS_2 hP_2 hG_2; skip)
  (try go_wp2_with fail)
  refine hK.out _ _ ?_ (fun hHeld => ?_)
  · (try dsimp only)
    first | assumption
  clear hK K
  (try simp only [Act.put, List.setIfInBounds_toArray, List.set_cons_zero, List.set_cons_succ])
  refine wpAnyH_take (i := 17) (oi := { dst := some 20, op := Go.Op.binOp Go.BinOp.eql 27 (Go.Operand.tmp 18) (Go.Operand.tmp 19) 27, type := 4, pos := "law.go:13", after := #[{ on := 15, ground := Go.Ground.data }, { on := 16, ground := Go.Ground.data }, { on := 14, ground := Go.Ground.guard }], guard := some (14, true) }) (v := ?_) rfl (by kernel_rfl) (by kernel_rfl) (by kernel_rfl) (fun _ _ _ h => h) (Or.inl ⟨by rfl, ?_⟩) (by assumption) ?_
  rotate_left
  · intro wS hSw
    refine exec_eql32 (r := 27) (x := .tmp 18) (y := .tmp 19) ?_ ?_ ?_ HEQ.out <;> rfl
  (try simp only [Act.put, List.setIfInBounds_toArray, List.set_cons_zero, List.set_cons_succ])
  refine wpAnyH_take (i := 18) (oi := { dst := some 21, op := Go.Op.pick (Go.Operand.tmp 17) (Go.Operand.tmp 20) (Go.Operand.const (Go.Value.bool false)), type := 4, pos := "law.go:13", after := #[{ on := 14, ground := Go.Ground.data }, { on := 17, ground := Go.Ground.data }], guard := none }) (v := ?_) rfl (by kernel_rfl) (by kernel_rfl) (by kernel_rfl) (fun _ _ _ h => h) (Or.inl ⟨by rfl, ?_⟩) (by assumption) ?_
  rotate_left
  · intro wS hSw
    (try dsimp only at hSw)
    go_simp
    (try with_reducible rfl)
  (try simp only [Act.put, List.setIfInBounds_toArray, List.set_cons_zero, List.set_cons_succ])
  refine wpAnyH_take (i := 19) (oi := { dst := some 0, op := Go.Op.assign (Go.Operand.tmp 21), type := 4, pos := "law.go:13", after := #[{ on := 18, ground := Go.Ground.data }, { on := 15, ground := Go.Ground.chain }, { on := 0, ground := Go.Ground.phase }, { on := 1, ground := Go.Ground.phase }, { on := 2, ground := Go.Ground.phase }, { on := 3, ground := Go.Ground.phase }, { on := 4, ground := Go.Ground.phase }, { on := 5, ground := Go.Ground.phase }, { on := 6, ground := Go.Ground.phase }, { on := 7, ground := Go.Ground.phase }, { on := 8, ground := Go.Ground.phase }, { on := 9, ground := Go.Ground.phase }, { on := 10, ground := Go.Ground.phase }, { on := 11, ground := Go.Ground.phase }, { on := 12, ground := Go.Ground.phase }, { on := 13, ground := Go.Ground.phase }, { on := 14, ground := Go.Ground.phase }, { on := 15, ground := Go.Ground.phase }, { on := 16, ground := Go.Ground.phase }, { on := 17, ground := Go.Ground.phase }, { on := 18, ground := Go.Ground.phase }], guard := none }) (v := ?_) rfl (by kernel_rfl) (by kernel_rfl) (by kernel_rfl) (fun _ _ _ h => h) (Or.inl ⟨by rfl, ?_⟩) (by assumption) ?_
  rotate_left
  · intro wS hSw
    (try dsimp only at hSw)
    go_simp
    (try with_reducible rfl)
  (try simp only [Act.put, List.setIfInBounds_toArray, List.set_cons_zero, List.set_cons_succ])
  refine wpAnyH_done (by kernel_rfl) ?_ _
  have HO := Lib.hid hP_3
  clear hS_3 hP_3 hG_3
  go_wp2_with fail
  go_ret
  exact ⟨rfl, HO.out⟩
end Go.Proofs.YtbblibddikdakaaDoor
