/- What must come whatever the input is. -/
import Derived.Test.YtafbfjnbajdbkaaGh10
namespace Go.Proofs.Ytafbfjnbajdbkaa
set_option linter.unusedVariables false
set_option linter.unusedSimpArgs false
open Go.RowKit

def xF : Nat → Nat := fun i => if i = 0 then 1 else if i = 1 then 2 else if i = 2 then 3 else 0
theorem xF_lt (i : Nat) : xF i < 256 := by unfold xF; repeat' split
                                           all_goals decide
theorem build_one (w : World) : (Instr.build 26 #[(0, .int .u8 128)]).run Try.prog w = .ok (.agg (rowC 16 oneF).toArray) w := run_build w 26 _ _ (by kernel_rfl)
theorem build_x (w : World) : (Instr.build 26 #[(0, .int .u8 1), (1, .int .u8 2), (2, .int .u8 3)]).run Try.prog w = .ok (.agg (rowC 16 xF).toArray) w := run_build w 26 _ _ (by kernel_rfl)
theorem build_last (w : World) : (Instr.build 26 #[(15, .int .u8 1)]).run Try.prog w = .ok (.agg (rowC 16 (cstF 15 1)).toArray) w := run_build w 26 _ _ (by kernel_rfl)
theorem build_64 (w : World) : (Instr.build 26 #[(0, .int .u8 64)]).run Try.prog w = .ok (.agg (rowC 16 (cstF 0 64)).toArray) w := run_build w 26 _ _ (by kernel_rfl)
theorem build_225 (w : World) : (Instr.build 26 #[(0, .int .u8 225)]).run Try.prog w = .ok (.agg (rowC 16 (cstF 0 225)).toArray) w := run_build w 26 _ _ (by kernel_rfl)
theorem wrap_round : eqF (mulF (cstF 15 1) (cstF 0 64)) (cstF 0 225) = true := by
  rw [mulF_P, ← mP_T]
  kernel_rfl
/-- A contract, with its cells under names. -/
theorem call2 {F : FuncId} {f g r : Nat → Nat} {C D R : Array Value} (hC : (rowC 16 f).toArray = C) (hD : (rowC 16 g).toArray = D) (hR : (rowC 16 r).toArray = R)
    (h : ∀ w, Calls Try.prog F #[.agg (rowC 16 f).toArray, .agg (rowC 16 g).toArray] w fun e w' => e = .returned (.agg (rowC 16 r).toArray) ∧ Below w.heap.size w w') : Hid (∀ w, Calls Try.prog F #[.agg C, .agg D] w fun e w' => e = .returned (.agg R) ∧ Below w.heap.size w w') := by
  subst hC hD hR; exact Lib.hid h
theorem eq2 {f g : Nat → Nat} {C D : Array Value} {b : Bool} (hC : (rowC 16 f).toArray = C) (hD : (rowC 16 g).toArray = D) (hb : eqF f g = b) : Hid (∀ w, (Op.equalIn 10000 26 (.agg C) (.agg D)).run Try.prog w = .ok b w) := by
  subst hC hD hb; exact Lib.hid fun w => eq16 f g w
set_option maxRecDepth 100000 in
set_option maxHeartbeats 4000000 in
theorem sure_any (w : World) : Calls Try.prog 6 #[] w fun e w' => e = .returned (.bool true) ∧ Below w.heap.size w w' := by
  have b1 := build_one
  have b2 := build_x
  obtain ⟨U, hU⟩ : ∃ C, (rowC 16 oneF).toArray = C := ⟨_, rfl⟩
  obtain ⟨X, hX⟩ : ∃ C, (rowC 16 xF).toArray = C := ⟨_, rfl⟩
  obtain ⟨L, hL⟩ : ∃ C, (rowC 16 (cstF 15 1)).toArray = C := ⟨_, rfl⟩
  obtain ⟨H, hH⟩ : ∃ C, (rowC 16 (cstF 0 64)).toArray = C := ⟨_, rfl⟩
  obtain ⟨R, hR⟩ : ∃ C, (rowC 16 (cstF 0 225)).toArray = C := ⟨_, rfl⟩
  obtain ⟨P1, hP1⟩ : ∃ C, (rowC 16 (mulF xF oneF)).toArray = C := ⟨_, rfl⟩
  obtain ⟨P2, hP2⟩ : ∃ C, (rowC 16 (mulF oneF xF)).toArray = C := ⟨_, rfl⟩
  obtain ⟨P3, hP3⟩ : ∃ C, (rowC 16 (addF xF xF)).toArray = C := ⟨_, rfl⟩
  obtain ⟨P4, hP4⟩ : ∃ C, (rowC 16 (mulF (cstF 15 1) (cstF 0 64))).toArray = C := ⟨_, rfl⟩
  have x0 : ∀ i, i < 16 → xF i < 256 := fun i _ => xF_lt i
  have u0 : ∀ i, i < 16 → oneF i < 256 := fun i _ => oneF_lt i
  have HM1 := call2 hX hU hP1 fun w => gmul_any xF oneF w x0 u0
  have HM2 := call2 hU hX hP2 fun w => gmul_any oneF xF w u0 x0
  have HA3 := call2 hX hX hP3 fun w => gadd_any xF xF w x0 x0
  have HM4 := call2 hL hH hP4 fun w => gmul_any (cstF 15 1) (cstF 0 64) w (fun i _ => cstF_lt (by decide) i) (fun i _ => cstF_lt (by decide) i)
  have HE1 := eq2 hP1 hX (eqF_iff.2 (mulF_one x0))
  have HE2 := eq2 hP2 hX (b := true) (by rw [mulF_comm u0 x0]; exact eqF_iff.2 (mulF_one x0))
  have HE3 := eq2 hP3 (show (rowC 16 (fun _ => 0)).toArray = zero16 from rfl) (b := true) (by rw [addF_self]; exact eqF_refl _)
  have HE4 := eq2 hP4 hR wrap_round
  have HIU : Hid ((Try.prog.info? 26).map (·.size) = some U.size) := Lib.hid (hU ▸ info16 _)
  have HIX : Hid ((Try.prog.info? 26).map (·.size) = some X.size) := Lib.hid (hX ▸ info16 _)
  have HB3 : Hid (∀ w, (Instr.build 26 #[(15, .int .u8 1)]).run Try.prog w = .ok (.agg L) w) := Lib.hid fun w => hL ▸ build_last w
  have HB4 : Hid (∀ w, (Instr.build 26 #[(0, .int .u8 64)]).run Try.prog w = .ok (.agg H) w) := Lib.hid fun w => hH ▸ build_64 w
  have HB5 : Hid (∀ w, (Instr.build 26 #[(0, .int .u8 225)]).run Try.prog w = .ok (.agg R) w) := Lib.hid fun w => hR ▸ build_225 w
  have HU5 : Hid (∃ f, U = (rowC 16 f).toArray) := Lib.hid ⟨_, hU.symm⟩
  have HX5 : Hid (∃ f, X = (rowC 16 f).toArray) := Lib.hid ⟨_, hX.symm⟩
  rw [hU] at b1
  rw [hX] at b2
  have B1 := Lib.hid b1
  have B2 := Lib.hid b2
  have hz := zero16_run
  clear hU hX hL hH hR hP1 hP2 hP3 hP4 x0 u0 b1 b2
  obtain ⟨w1, hw1⟩ : ∃ q, w.alloc (.cells zero16 26) = q := ⟨_, rfl⟩
  have hA1 : Blk w1 w.heap.size zero16 26 := by rw [← hw1]; exact Blk.new w _ _
  have hO1 : Below w.heap.size w w1 := by rw [← hw1]; exact (Below.refl _ _).alloc (Nat.le_refl _) _
  have hs1 : w1.heap.size = w.heap.size + 1 := by rw [← hw1]; simp
  obtain ⟨w2, hw2⟩ : ∃ q, w1.setCells w.heap.size 0 U.toList = q := ⟨_, rfl⟩
  have hZC : ∃ f, zero16 = (rowC 16 f).toArray := ⟨_, rfl⟩
  have hA2 : Blk w2 w.heap.size U 26 := by rw [← hw2]; exact Blk.store16 hA1 HU5.out hZC
  have hO2 : Below w.heap.size w w2 := by rw [← hw2]; exact Below.set16 (g := w.heap.size) hO1 (Nat.le_refl _) hO1.size _
  obtain ⟨w3, hw3⟩ : ∃ q, w2.alloc (.cells zero16 26) = q := ⟨_, rfl⟩
  have hA3 : Blk w3 w.heap.size U 26 := by rw [← hw3]; exact hA2.alloc _
  have hB3 : Blk w3 w2.heap.size zero16 26 := by rw [← hw3]; exact Blk.new w2 _ _
  have hO3 : Below w.heap.size w w3 := by rw [← hw3]; exact hO2.alloc hO2.size _
  obtain ⟨w4, hw4⟩ : ∃ q, w3.setCells w2.heap.size 0 X.toList = q := ⟨_, rfl⟩
  have hl : w.heap.size < w2.heap.size := Blk.lt hA2
  have hB4 : Blk w4 w2.heap.size X 26 := by rw [← hw4]; exact Blk.store16 hB3 HX5.out hZC
  have hA4 : Blk w4 w.heap.size U 26 := by rw [← hw4]; exact (Own.setCells X.toList 0 w3).blk hA3 (by omega)
  have hO4 : Below w.heap.size w w4 := by rw [← hw4]; exact Below.set16 (g := w2.heap.size) hO3 (by omega) hO3.size _
  have HA1 := Lib.hid hA1
  have HB3' := Lib.hid hB3
  have HZC := Lib.hid hZC
  have HS4 : Hid (SL [(w2.heap.size, X), (w.heap.size, U)] w4) := Lib.hid (SL.cons hB4 (SL.cons hA4 (SL.nil _)))
  have HO4 := Lib.hid hO4
  clear hA1 hO1 hA2 hO2 hA3 hB3 hO3 hB4 hA4 hO4 hZC hs1 hl
  go_enter Try.func6, Try.ntmps6
  go_wp2_with (first
    | (refine wpList_build16 rfl #[(0, Go.Operand.const (Go.Value.int Go.IntKind.u8 128))] #[(0, .int .u8 128)] rfl (by simp; rfl) B1.out ?_)
    | (refine wpList_build16 rfl #[(0, Go.Operand.const (Go.Value.int Go.IntKind.u8 1)), (1, Go.Operand.const (Go.Value.int Go.IntKind.u8 2)), (2, Go.Operand.const (Go.Value.int Go.IntKind.u8 3))] #[(0, .int .u8 1), (1, .int .u8 2), (2, .int .u8 3)] rfl (by simp; exact ⟨rfl, rfl, rfl⟩) B2.out ?_)
    | (refine wpList_store16 rfl (.tmp 1) (.tmp 3) rfl w.heap.size rfl U zero16 rfl HA1.out HU5.out HZC.out ?_)
    | (refine wpList_store16 rfl (.tmp 2) (.tmp 4) rfl w2.heap.size rfl X zero16 rfl HB3'.out HX5.out HZC.out ?_))
  have hS_0 := HS4.out.drew
  have hO_0 := HO4.out.drew
  rw [hw4]
  clear HS4 HO4 hw1 hw2 hw3 hw4
  refine wp_region_held_drew (S := (SL [(w2.heap.size, X), (w.heap.size, U)])) (by kernel_rfl) ?_ (fun hHeld => ?_)
  · (try dsimp only)
    first | assumption | (apply SL.drew; assumption)
  generalize w4.drew = w5 at *
  refine wpAnyH_take (i := 0) (oi := { dst := some 5, op := Go.Op.load 26 (Go.Operand.tmp 2), type := 26, pos := "law.go:14", after := #[], guard := none }) (v := ?_) rfl (by kernel_rfl) (by kernel_rfl) (by kernel_rfl) (fun _ _ _ h => h) (Or.inl ⟨by rfl, ?_⟩) (by assumption) ?_
  rotate_left
  · intro w hSw
    refine exec_load16 (x := .tmp 2) ?_ ?_ (ld16 hSw.h0 HIX.out) <;> rfl
  (try simp only [Act.put, List.setIfInBounds_toArray, List.set_cons_zero, List.set_cons_succ])
  refine wpAnyH_take (i := 1) (oi := { dst := some 6, op := Go.Op.load 26 (Go.Operand.tmp 1), type := 26, pos := "law.go:14", after := #[], guard := none }) (v := ?_) rfl (by kernel_rfl) (by kernel_rfl) (by kernel_rfl) (fun _ _ _ h => h) (Or.inl ⟨by rfl, ?_⟩) (by assumption) ?_
  rotate_left
  · intro w hSw
    refine exec_load16 (x := .tmp 1) ?_ ?_ (ld16 hSw.tl.h0 HIU.out) <;> rfl
  (try simp only [Act.put, List.setIfInBounds_toArray, List.set_cons_zero, List.set_cons_succ])
  refine wpAnyH_take (i := 3) (oi := { dst := some 8, op := Go.Op.load 26 (Go.Operand.tmp 2), type := 26, pos := "law.go:14", after := #[], guard := none }) (v := ?_) rfl (by kernel_rfl) (by kernel_rfl) (by kernel_rfl) (fun _ _ _ h => h) (Or.inl ⟨by rfl, ?_⟩) (by assumption) ?_
  rotate_left
  · intro w hSw
    refine exec_load16 (x := .tmp 2) ?_ ?_ (ld16 hSw.h0 HIX.out) <;> rfl
  (try simp only [Act.put, List.setIfInBounds_toArray, List.set_cons_zero, List.set_cons_succ])
  refine wpAnyH_ready (rs := [2]) (by kernel_rfl) (by simp) ?_
  refine AllReadyH.cons (o := { dst := some 7, op := Go.Op.call { callee := Go.Callee.value (Go.Operand.func 9), args := #[Go.Operand.tmp 5, Go.Operand.tmp 6], argTypes := #[26, 26] }, type := 26, pos := "law.go:14", after := #[{ on := 0, ground := Go.Ground.data }, { on := 1, ground := Go.Ground.data }], guard := none }) rfl (fun K hK => ?_) AllReadyH.nil
  go_simp
  (refine (HM1.out _).mono ?_; rintro e v_1 ⟨rfl, hb_1⟩; have hS_1 := SL.later hS_0 hb_1; have hO_1 := Below.trans hO_0 (hb_1.mono hO_0.size); clear hS_0 hO_0; clear hb_1; skip)
  (try go_wp2_with fail)
  refine hK.out _ _ ?_ (fun hHeld => ?_)
  · (try dsimp only)
    first | assumption | (apply SL.drew; assumption)
  clear hK K
  (try simp only [Act.put, List.setIfInBounds_toArray, List.set_cons_zero, List.set_cons_succ])
  refine wpAnyH_take (i := 4) (oi := { dst := some 9, op := Go.Op.binOp Go.BinOp.eql 26 (Go.Operand.tmp 7) (Go.Operand.tmp 8) 26, type := 4, pos := "law.go:14", after := #[{ on := 2, ground := Go.Ground.data }, { on := 3, ground := Go.Ground.data }], guard := none }) (v := ?_) rfl (by kernel_rfl) (by kernel_rfl) (by kernel_rfl) (fun _ _ _ h => h) (Or.inl ⟨by rfl, ?_⟩) (by assumption) ?_
  rotate_left
  · intro w hSw
    refine exec_eql16 (r := 26) (x := .tmp 7) (y := .tmp 8) ?_ ?_ ?_ HE1.out <;> rfl
  (try simp only [Act.put, List.setIfInBounds_toArray, List.set_cons_zero, List.set_cons_succ])
  refine wpAnyH_take (i := 5) (oi := { dst := some 10, op := Go.Op.move (Go.Operand.tmp 9), type := 4, pos := "law.go:14", after := #[{ on := 4, ground := Go.Ground.data }, { on := 2, ground := Go.Ground.chain }], guard := none }) (v := ?_) rfl (by kernel_rfl) (by kernel_rfl) (by kernel_rfl) (fun _ _ _ h => h) (Or.inl ⟨by rfl, ?_⟩) (by assumption) ?_
  rotate_left
  · intro w hSw
    (try dsimp only at hSw)
    go_simp
    (try with_reducible rfl)
  (try simp only [Act.put, List.setIfInBounds_toArray, List.set_cons_zero, List.set_cons_succ])
  refine wpAnyH_take (i := 6) (oi := { dst := some 11, op := Go.Op.load 26 (Go.Operand.tmp 1), type := 26, pos := "law.go:14", after := #[{ on := 5, ground := Go.Ground.guard }], guard := some (5, true) }) (v := ?_) rfl (by kernel_rfl) (by kernel_rfl) (by kernel_rfl) (fun _ _ _ h => h) (Or.inl ⟨by rfl, ?_⟩) (by assumption) ?_
  rotate_left
  · intro w hSw
    refine exec_load16 (x := .tmp 1) ?_ ?_ (ld16 hSw.tl.h0 HIU.out) <;> rfl
  (try simp only [Act.put, List.setIfInBounds_toArray, List.set_cons_zero, List.set_cons_succ])
  refine wpAnyH_take (i := 7) (oi := { dst := some 12, op := Go.Op.load 26 (Go.Operand.tmp 2), type := 26, pos := "law.go:14", after := #[{ on := 5, ground := Go.Ground.guard }], guard := some (5, true) }) (v := ?_) rfl (by kernel_rfl) (by kernel_rfl) (by kernel_rfl) (fun _ _ _ h => h) (Or.inl ⟨by rfl, ?_⟩) (by assumption) ?_
  rotate_left
  · intro w hSw
    refine exec_load16 (x := .tmp 2) ?_ ?_ (ld16 hSw.h0 HIX.out) <;> rfl
  (try simp only [Act.put, List.setIfInBounds_toArray, List.set_cons_zero, List.set_cons_succ])
  refine wpAnyH_take (i := 9) (oi := { dst := some 14, op := Go.Op.load 26 (Go.Operand.tmp 2), type := 26, pos := "law.go:14", after := #[{ on := 5, ground := Go.Ground.guard }], guard := some (5, true) }) (v := ?_) rfl (by kernel_rfl) (by kernel_rfl) (by kernel_rfl) (fun _ _ _ h => h) (Or.inl ⟨by rfl, ?_⟩) (by assumption) ?_
  rotate_left
  · intro w hSw
    refine exec_load16 (x := .tmp 2) ?_ ?_ (ld16 hSw.h0 HIX.out) <;> rfl
  (try simp only [Act.put, List.setIfInBounds_toArray, List.set_cons_zero, List.set_cons_succ])
  refine wpAnyH_ready (rs := [8]) (by kernel_rfl) (by simp) ?_
  refine AllReadyH.cons (o := { dst := some 13, op := Go.Op.call { callee := Go.Callee.value (Go.Operand.func 9), args := #[Go.Operand.tmp 11, Go.Operand.tmp 12], argTypes := #[26, 26] }, type := 26, pos := "law.go:14", after := #[{ on := 6, ground := Go.Ground.data }, { on := 7, ground := Go.Ground.data }, { on := 5, ground := Go.Ground.chain }, { on := 5, ground := Go.Ground.guard }], guard := some (5, true) }) rfl (fun K hK => ?_) AllReadyH.nil
  go_simp
  (refine (HM2.out _).mono ?_; rintro e v_2 ⟨rfl, hb_2⟩; have hS_2 := SL.later hS_1 hb_2; have hO_2 := Below.trans hO_1 (hb_2.mono hO_1.size); clear hS_1 hO_1; clear hb_2; skip)
  (try go_wp2_with fail)
  refine hK.out _ _ ?_ (fun hHeld => ?_)
  · (try dsimp only)
    first | assumption | (apply SL.drew; assumption)
  clear hK K
  (try simp only [Act.put, List.setIfInBounds_toArray, List.set_cons_zero, List.set_cons_succ])
  refine wpAnyH_take (i := 10) (oi := { dst := some 15, op := Go.Op.binOp Go.BinOp.eql 26 (Go.Operand.tmp 13) (Go.Operand.tmp 14) 26, type := 4, pos := "law.go:14", after := #[{ on := 8, ground := Go.Ground.data }, { on := 9, ground := Go.Ground.data }, { on := 5, ground := Go.Ground.guard }], guard := some (5, true) }) (v := ?_) rfl (by kernel_rfl) (by kernel_rfl) (by kernel_rfl) (fun _ _ _ h => h) (Or.inl ⟨by rfl, ?_⟩) (by assumption) ?_
  rotate_left
  · intro w hSw
    refine exec_eql16 (r := 26) (x := .tmp 13) (y := .tmp 14) ?_ ?_ ?_ HE2.out <;> rfl
  (try simp only [Act.put, List.setIfInBounds_toArray, List.set_cons_zero, List.set_cons_succ])
  refine wpAnyH_take (i := 11) (oi := { dst := some 16, op := Go.Op.pick (Go.Operand.tmp 10) (Go.Operand.tmp 15) (Go.Operand.const (Go.Value.bool false)), type := 4, pos := "law.go:14", after := #[{ on := 5, ground := Go.Ground.data }, { on := 10, ground := Go.Ground.data }], guard := none }) (v := ?_) rfl (by kernel_rfl) (by kernel_rfl) (by kernel_rfl) (fun _ _ _ h => h) (Or.inl ⟨by rfl, ?_⟩) (by assumption) ?_
  rotate_left
  · intro w hSw
    (try dsimp only at hSw)
    go_simp
    (try with_reducible rfl)
  (try simp only [Act.put, List.setIfInBounds_toArray, List.set_cons_zero, List.set_cons_succ])
  refine wpAnyH_take (i := 12) (oi := { dst := some 17, op := Go.Op.move (Go.Operand.tmp 16), type := 4, pos := "law.go:14", after := #[{ on := 11, ground := Go.Ground.data }, { on := 8, ground := Go.Ground.chain }], guard := none }) (v := ?_) rfl (by kernel_rfl) (by kernel_rfl) (by kernel_rfl) (fun _ _ _ h => h) (Or.inl ⟨by rfl, ?_⟩) (by assumption) ?_
  rotate_left
  · intro w hSw
    (try dsimp only at hSw)
    go_simp
    (try with_reducible rfl)
  (try simp only [Act.put, List.setIfInBounds_toArray, List.set_cons_zero, List.set_cons_succ])
  refine wpAnyH_take (i := 13) (oi := { dst := some 18, op := Go.Op.load 26 (Go.Operand.tmp 2), type := 26, pos := "law.go:14", after := #[{ on := 12, ground := Go.Ground.guard }], guard := some (12, true) }) (v := ?_) rfl (by kernel_rfl) (by kernel_rfl) (by kernel_rfl) (fun _ _ _ h => h) (Or.inl ⟨by rfl, ?_⟩) (by assumption) ?_
  rotate_left
  · intro w hSw
    refine exec_load16 (x := .tmp 2) ?_ ?_ (ld16 hSw.h0 HIX.out) <;> rfl
  (try simp only [Act.put, List.setIfInBounds_toArray, List.set_cons_zero, List.set_cons_succ])
  refine wpAnyH_take (i := 14) (oi := { dst := some 19, op := Go.Op.load 26 (Go.Operand.tmp 2), type := 26, pos := "law.go:14", after := #[{ on := 12, ground := Go.Ground.guard }], guard := some (12, true) }) (v := ?_) rfl (by kernel_rfl) (by kernel_rfl) (by kernel_rfl) (fun _ _ _ h => h) (Or.inl ⟨by rfl, ?_⟩) (by assumption) ?_
  rotate_left
  · intro w hSw
    refine exec_load16 (x := .tmp 2) ?_ ?_ (ld16 hSw.h0 HIX.out) <;> rfl
  (try simp only [Act.put, List.setIfInBounds_toArray, List.set_cons_zero, List.set_cons_succ])
  refine wpAnyH_take (i := 16) (oi := { dst := some 21, op := Go.Op.build 26 #[], type := 26, pos := "law.go:14", after := #[{ on := 12, ground := Go.Ground.guard }], guard := some (12, true) }) (v := ?_) rfl (by kernel_rfl) (by kernel_rfl) (by kernel_rfl) (fun _ _ _ h => h) (Or.inl ⟨by rfl, ?_⟩) (by assumption) ?_
  rotate_left
  · intro w hSw
    refine exec_build (parts := #[]) (ps := #[]) ?_ ?_ build_none <;> first | rfl | simp
  (try simp only [Act.put, List.setIfInBounds_toArray, List.set_cons_zero, List.set_cons_succ])
  refine wpAnyH_ready (rs := [15]) (by kernel_rfl) (by simp) ?_
  refine AllReadyH.cons (o := { dst := some 20, op := Go.Op.call { callee := Go.Callee.value (Go.Operand.func 7), args := #[Go.Operand.tmp 18, Go.Operand.tmp 19], argTypes := #[26, 26] }, type := 26, pos := "law.go:14", after := #[{ on := 13, ground := Go.Ground.data }, { on := 14, ground := Go.Ground.data }, { on := 12, ground := Go.Ground.chain }, { on := 12, ground := Go.Ground.guard }], guard := some (12, true) }) rfl (fun K hK => ?_) AllReadyH.nil
  go_simp
  (refine (HA3.out _).mono ?_; rintro e v_3 ⟨rfl, hb_3⟩; have hS_3 := SL.later hS_2 hb_3; have hO_3 := Below.trans hO_2 (hb_3.mono hO_2.size); clear hS_2 hO_2; clear hb_3; skip)
  (try go_wp2_with fail)
  refine hK.out _ _ ?_ (fun hHeld => ?_)
  · (try dsimp only)
    first | assumption | (apply SL.drew; assumption)
  clear hK K
  (try simp only [Act.put, List.setIfInBounds_toArray, List.set_cons_zero, List.set_cons_succ])
  refine wpAnyH_take (i := 17) (oi := { dst := some 22, op := Go.Op.binOp Go.BinOp.eql 26 (Go.Operand.tmp 20) (Go.Operand.tmp 21) 26, type := 4, pos := "law.go:14", after := #[{ on := 15, ground := Go.Ground.data }, { on := 16, ground := Go.Ground.data }, { on := 12, ground := Go.Ground.guard }], guard := some (12, true) }) (v := ?_) rfl (by kernel_rfl) (by kernel_rfl) (by kernel_rfl) (fun _ _ _ h => h) (Or.inl ⟨by rfl, ?_⟩) (by assumption) ?_
  rotate_left
  · intro w hSw
    refine exec_eql16 (r := 26) (x := .tmp 20) (y := .tmp 21) ?_ ?_ ?_ HE3.out <;> rfl
  (try simp only [Act.put, List.setIfInBounds_toArray, List.set_cons_zero, List.set_cons_succ])
  refine wpAnyH_take (i := 18) (oi := { dst := some 23, op := Go.Op.pick (Go.Operand.tmp 17) (Go.Operand.tmp 22) (Go.Operand.const (Go.Value.bool false)), type := 4, pos := "law.go:14", after := #[{ on := 12, ground := Go.Ground.data }, { on := 17, ground := Go.Ground.data }], guard := none }) (v := ?_) rfl (by kernel_rfl) (by kernel_rfl) (by kernel_rfl) (fun _ _ _ h => h) (Or.inl ⟨by rfl, ?_⟩) (by assumption) ?_
  rotate_left
  · intro w hSw
    (try dsimp only at hSw)
    go_simp
    (try with_reducible rfl)
  (try simp only [Act.put, List.setIfInBounds_toArray, List.set_cons_zero, List.set_cons_succ])
  refine wpAnyH_take (i := 19) (oi := { dst := some 24, op := Go.Op.move (Go.Operand.tmp 23), type := 4, pos := "law.go:14", after := #[{ on := 18, ground := Go.Ground.data }, { on := 15, ground := Go.Ground.chain }], guard := none }) (v := ?_) rfl (by kernel_rfl) (by kernel_rfl) (by kernel_rfl) (fun _ _ _ h => h) (Or.inl ⟨by rfl, ?_⟩) (by assumption) ?_
  rotate_left
  · intro w hSw
    (try dsimp only at hSw)
    go_simp
    (try with_reducible rfl)
  (try simp only [Act.put, List.setIfInBounds_toArray, List.set_cons_zero, List.set_cons_succ])
  refine wpAnyH_take (i := 20) (oi := { dst := some 25, op := Go.Op.build 26 #[(15, Go.Operand.const (Go.Value.int Go.IntKind.u8 1))], type := 26, pos := "law.go:14", after := #[{ on := 19, ground := Go.Ground.guard }], guard := some (19, true) }) (v := ?_) rfl (by kernel_rfl) (by kernel_rfl) (by kernel_rfl) (fun _ _ _ h => h) (Or.inl ⟨by rfl, ?_⟩) (by assumption) ?_
  rotate_left
  · intro w hSw
    refine exec_build (parts := #[(15, Go.Operand.const (Go.Value.int Go.IntKind.u8 1))]) (ps := #[(15, .int .u8 1)]) ?_ ?_ HB3.out <;> first | rfl | (simp; rfl)
  (try simp only [Act.put, List.setIfInBounds_toArray, List.set_cons_zero, List.set_cons_succ])
  refine wpAnyH_take (i := 21) (oi := { dst := some 26, op := Go.Op.build 26 #[(0, Go.Operand.const (Go.Value.int Go.IntKind.u8 64))], type := 26, pos := "law.go:14", after := #[{ on := 19, ground := Go.Ground.guard }], guard := some (19, true) }) (v := ?_) rfl (by kernel_rfl) (by kernel_rfl) (by kernel_rfl) (fun _ _ _ h => h) (Or.inl ⟨by rfl, ?_⟩) (by assumption) ?_
  rotate_left
  · intro w hSw
    refine exec_build (parts := #[(0, Go.Operand.const (Go.Value.int Go.IntKind.u8 64))]) (ps := #[(0, .int .u8 64)]) ?_ ?_ HB4.out <;> first | rfl | (simp; rfl)
  (try simp only [Act.put, List.setIfInBounds_toArray, List.set_cons_zero, List.set_cons_succ])
  refine wpAnyH_take (i := 23) (oi := { dst := some 28, op := Go.Op.build 26 #[(0, Go.Operand.const (Go.Value.int Go.IntKind.u8 225))], type := 26, pos := "law.go:14", after := #[{ on := 19, ground := Go.Ground.guard }], guard := some (19, true) }) (v := ?_) rfl (by kernel_rfl) (by kernel_rfl) (by kernel_rfl) (fun _ _ _ h => h) (Or.inl ⟨by rfl, ?_⟩) (by assumption) ?_
  rotate_left
  · intro w hSw
    refine exec_build (parts := #[(0, Go.Operand.const (Go.Value.int Go.IntKind.u8 225))]) (ps := #[(0, .int .u8 225)]) ?_ ?_ HB5.out <;> first | rfl | (simp; rfl)
  (try simp only [Act.put, List.setIfInBounds_toArray, List.set_cons_zero, List.set_cons_succ])
  refine wpAnyH_ready (rs := [22]) (by kernel_rfl) (by simp) ?_
  refine AllReadyH.cons (o := { dst := some 27, op := Go.Op.call { callee := Go.Callee.value (Go.Operand.func 9), args := #[Go.Operand.tmp 25, Go.Operand.tmp 26], argTypes := #[26, 26] }, type := 26, pos := "law.go:14", after := #[{ on := 20, ground := Go.Ground.data }, { on := 21, ground := Go.Ground.data }, { on := 19, ground := Go.Ground.chain }, { on := 19, ground := Go.Ground.guard }], guard := some (19, true) }) rfl (fun K hK => ?_) AllReadyH.nil
  go_simp
  (refine (HM4.out _).mono ?_; rintro e v_4 ⟨rfl, hb_4⟩; have hS_4 := SL.later hS_3 hb_4; have hO_4 := Below.trans hO_3 (hb_4.mono hO_3.size); clear hS_3 hO_3; clear hb_4; skip)
  (try go_wp2_with fail)
  refine hK.out _ _ ?_ (fun hHeld => ?_)
  · (try dsimp only)
    first | assumption | (apply SL.drew; assumption)
  clear hK K
  (try simp only [Act.put, List.setIfInBounds_toArray, List.set_cons_zero, List.set_cons_succ])
  refine wpAnyH_take (i := 24) (oi := { dst := some 29, op := Go.Op.binOp Go.BinOp.eql 26 (Go.Operand.tmp 27) (Go.Operand.tmp 28) 26, type := 4, pos := "law.go:14", after := #[{ on := 22, ground := Go.Ground.data }, { on := 23, ground := Go.Ground.data }, { on := 19, ground := Go.Ground.guard }], guard := some (19, true) }) (v := ?_) rfl (by kernel_rfl) (by kernel_rfl) (by kernel_rfl) (fun _ _ _ h => h) (Or.inl ⟨by rfl, ?_⟩) (by assumption) ?_
  rotate_left
  · intro w hSw
    refine exec_eql16 (r := 26) (x := .tmp 27) (y := .tmp 28) ?_ ?_ ?_ HE4.out <;> rfl
  (try simp only [Act.put, List.setIfInBounds_toArray, List.set_cons_zero, List.set_cons_succ])
  refine wpAnyH_take (i := 25) (oi := { dst := some 30, op := Go.Op.pick (Go.Operand.tmp 24) (Go.Operand.tmp 29) (Go.Operand.const (Go.Value.bool false)), type := 4, pos := "law.go:14", after := #[{ on := 19, ground := Go.Ground.data }, { on := 24, ground := Go.Ground.data }], guard := none }) (v := ?_) rfl (by kernel_rfl) (by kernel_rfl) (by kernel_rfl) (fun _ _ _ h => h) (Or.inl ⟨by rfl, ?_⟩) (by assumption) ?_
  rotate_left
  · intro w hSw
    (try dsimp only at hSw)
    go_simp
    (try with_reducible rfl)
  (try simp only [Act.put, List.setIfInBounds_toArray, List.set_cons_zero, List.set_cons_succ])
  refine wpAnyH_take (i := 26) (oi := { dst := some 0, op := Go.Op.assign (Go.Operand.tmp 30), type := 4, pos := "law.go:14", after := #[{ on := 25, ground := Go.Ground.data }, { on := 22, ground := Go.Ground.chain }, { on := 0, ground := Go.Ground.phase }, { on := 1, ground := Go.Ground.phase }, { on := 2, ground := Go.Ground.phase }, { on := 3, ground := Go.Ground.phase }, { on := 4, ground := Go.Ground.phase }, { on := 5, ground := Go.Ground.phase }, { on := 6, ground := Go.Ground.phase }, { on := 7, ground := Go.Ground.phase }, { on := 8, ground := Go.Ground.phase }, { on := 9, ground := Go.Ground.phase }, { on := 10, ground := Go.Ground.phase }, { on := 11, ground := Go.Ground.phase }, { on := 12, ground := Go.Ground.phase }, { on := 13, ground := Go.Ground.phase }, { on := 14, ground := Go.Ground.phase }, { on := 15, ground := Go.Ground.phase }, { on := 16, ground := Go.Ground.phase }, { on := 17, ground := Go.Ground.phase }, { on := 18, ground := Go.Ground.phase }, { on := 19, ground := Go.Ground.phase }, { on := 20, ground := Go.Ground.phase }, { on := 21, ground := Go.Ground.phase }, { on := 22, ground := Go.Ground.phase }, { on := 23, ground := Go.Ground.phase }, { on := 24, ground := Go.Ground.phase }, { on := 25, ground := Go.Ground.phase }], guard := none }) (v := ?_) rfl (by kernel_rfl) (by kernel_rfl) (by kernel_rfl) (fun _ _ _ h => h) (Or.inl ⟨by rfl, ?_⟩) (by assumption) ?_
  rotate_left
  · intro w hSw
    (try dsimp only at hSw)
    go_simp
    (try with_reducible rfl)
  (try simp only [Act.put, List.setIfInBounds_toArray, List.set_cons_zero, List.set_cons_succ])
  refine wpAnyH_done (by kernel_rfl) ?_ _
  have HO9 := Lib.hid hO_4
  clear hO_4 hS_4
  go_wp2_with fail
  go_ret
  exact ⟨rfl, HO9.out⟩
end Go.Proofs.Ytafbfjnbajdbkaa
