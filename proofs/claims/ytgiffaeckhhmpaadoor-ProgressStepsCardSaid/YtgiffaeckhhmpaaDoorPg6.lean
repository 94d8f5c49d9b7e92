/- Progress: what must come whatever the input is. -/
import Derived.Test.YtgiffaeckhhmpaaDoorPg5
import Derived.Test.YtgiffaeckhhmpaaDoorGz2
import Derived.Test.YtgiffaeckhhmpaaDoorSpA
namespace Go.Proofs.YtgiffaeckhhmpaaDoor
set_option linter.unusedVariables false
set_option linter.unusedSimpArgs false
open Go.RowKit
theorem wpList_valueG {ops : Array Oper} {rest : List Oper} {o : Oper} {a : Act} {w : World} {Q : Exit → Act → World → Prop} {v : Value} (hw : Region.wanted o (yielded ops a.tmps) = true) (he : (execOp a.eval o).run Tryd.prog w = .ok (.value v) w)
    (hk : wpList Tryd.prog ops Q rest (a.put o.dst v) w) : wpList Tryd.prog ops Q (o :: rest) a w := by
  refine wpList_step fun K hK => ?_
  rw [if_pos hw]
  unfold Oper.wp
  rw [he]
  exact hK _ _ hk
theorem fld_run (K N : Int) (g : Int) (mk : ByteArray) (w : World) : (Instr.field 36 (.agg #[.int .i64 K, .int .i64 N, .int .u32 g, .string mk, .slice none 0 0]) 2).run Tryd.prog w = .ok (.slice none 0 0) w := by kernel_rfl
theorem exec_fld {o : Oper} {a : Act} {w : World} {x : Operand} {K N g : Int} {mk : ByteArray} (ho : o.op = .field 36 x 2) (hx : a.eval x = .agg #[.int .i64 K, .int .i64 N, .int .u32 g, .string mk, .slice none 0 0]) : (execOp a.eval o).run Tryd.prog w = .ok (.value (.slice none 0 0)) w := by
  unfold execOp
  simp only [ho, hx, Sem.run_bind, fld_run, Result.andThen_ok]
  rfl
theorem zrow_bytes (w : World) (n : Nat) : Bytes (w.alloc (.cells (rowC n (fun _ => 0)).toArray 5)) (some ⟨w.heap.size, 0, none⟩) n (fun _ => 0) := fun k hk => ⟨Nat.zero_lt_succ _, w.heap.size, 0, rfl, by
  rw [Nat.zero_add]
  have h9 := World.cell?_alloc_mark w (rowC n (fun _ => 0)).toArray 5 (0, 0) k
  rw [h9, List.getElem?_toArray]; exact rowC_get _ hk⟩
theorem Shs.fresh {tb T : Nat} {w : World} {oa : Option Addr} {n : Nat} {S : Nat → Sh} (h : Shs tb w oa n S) (hT : w.heap.size ≤ T) : Shs T w oa n S := fun i hi => by
  obtain ⟨b, off, C, h1, hne, h2, h3⟩ := h i hi
  have h9 := (h2.isP (P := fun q => q < w.heap.size) fun q hq _ => hq).isSh (tb := T) fun q hq => by omega
  have hb : b < w.heap.size := by
    have h4 := h3 0 (by decide)
    obtain ⟨oa', cap, rfl, _⟩ := h2
    exact World.block_lt_of_cell? w _ h4
  exact ⟨b, off, C, h1, by omega, h9, h3⟩
theorem may_23 (g : Nat) (S : Nat → Sh) (ml : Nat) (h : ml ≤ 16) : MayG 2 3 g S 0 ml := ⟨⟨by decide, by decide, by decide⟩, h, by decide, fun i hi => absurd hi (Nat.not_lt_zero _)⟩
theorem build_sh (a b : Int) (oa : Option Addr) (n c : Nat) (w : World) : (Instr.build 42 #[(0, .int .u8 a), (1, .int .u32 b), (2, .slice oa n c)]).run Tryd.prog w = .ok (.agg #[.int .u8 a, .int .u32 b, .slice oa n c]) w := run_build w 42 _ _ (by kernel_rfl)
set_option maxRecDepth 100000 in
set_option maxHeartbeats 8000000 in
theorem sure23 (w : World) (hg : Handle w) : Calls Tryd.prog 12 #[] w fun e w' => e = .returned (.bool true) ∧ Below w.heap.size w w' := by
  have HG : Hid (∀ A, Below w.heap.size w A → Handle A) := Lib.hid fun A hb => hg.below hb hg.2
  have HWP : Hid (0 < w.heap.size) := Lib.hid (Nat.lt_of_le_of_lt (Nat.zero_le _) hg.2)
  have HST := Lib.hid (start_any 2 3 1 ⟨#[120]⟩ w (by decide))
  clear hg
  go_enter Tryd.func12, Tryd.ntmps12
  go_wp2_with fail
  refine HST.out.mono ?_
  rintro e w1 ⟨(⟨rfl, hm⟩ | ⟨rfl, hm⟩), hb1⟩
  rotate_left
  · exact absurd (may_23 1 _ 1 (by decide)) (hm (fun _ => default))
  obtain ⟨b1, hqb1⟩ : ∃ y, w1.heap.size = y := ⟨_, rfl⟩
  obtain ⟨wz, hwz⟩ : ∃ y, w1.alloc (.cells #[.int .i64 0, .int .i64 0, .int .u32 0, .string ⟨#[]⟩, .slice none 0 0] 36) = y := ⟨_, rfl⟩
  have hbz : Below w1.heap.size w1 wz := by rw [← hwz]; exact (Below.refl _ _).alloc (Nat.le_refl _) _
  have hXz : Blk wz b1 #[.int .i64 0, .int .i64 0, .int .u32 0, .string ⟨#[]⟩, .slice none 0 0] 36 := by rw [← hwz, ← hqb1]; exact Blk.new _ _ _
  have HTZb1 : Hid (wz.there b1 0 5) := Lib.hid (hXz.there (by decide))
  obtain ⟨w3, hw5⟩ : ∃ y, wz.setCells b1 0 [.int .i64 2, .int .i64 3, .int .u32 1, .string ⟨#[120]⟩, .slice none 0 0] = y := ⟨_, rfl⟩
  have hOz : Own b1 wz w3 := by rw [← hw5]; exact Own.setCells _ _ _
  have HBw3 : Hid (Below w1.heap.size w1 w3) := Lib.hid (hbz.trans (hOz.below (by omega) hbz.size))
  have HNw3 : Hid (Blk w3 b1 #[.int .i64 2, .int .i64 3, .int .u32 1, .string ⟨#[120]⟩, .slice none 0 0] 36) := Lib.hid (by rw [← hw5]; exact hXz.whole5 rfl _ _ _ _ _)
  have HWw3 := Lib.hid hw5
  clear hbz hXz hOz hw5
  have HWB0 := Lib.hid (hb1.trans (HBw3.out.mono hb1.size))
  clear hm hb1
  go_upto_region 2 with (first | (refine wpList_zero rfl rfl zpg_run ?_; rw [hwz, hqb1]; (try simp only [Act.put, List.setIfInBounds_toArray, List.set_cons_zero, List.set_cons_succ])) | (refine wpList_store_mid rfl 36 (.tmp 1) (.tmp 14) rfl b1 0 #[.int .i64 2, .int .i64 3, .int .u32 1, .string ⟨#[120]⟩, .slice none 0 0] rfl rfl HTZb1.out info_pg (one_pg _ _ _ _ _ _ _) ?_; rw [HWw3.out]))
  have HWB : Hid (Below w.heap.size w w3.drew) := Lib.hid (HWB0.out.trans ((Below.refl w3.heap.size w3).drew.mono HWB0.out.size))
  have HWQ : Hid (0 < w3.drew.heap.size) := Lib.hid (by have h1 := HWB.out.size; have h2 := HWP.out; omega)
  have HPD : Hid (Blk w3.drew b1 #[.int .i64 2, .int .i64 3, .int .u32 1, .string ⟨#[120]⟩, .slice none 0 0] 36) := Lib.hid (Blk.below HNw3.out (Below.refl w3.heap.size w3).drew (Blk.lt HNw3.out))
  have HSU : Hid (∀ A, Below w3.drew.heap.size w3.drew A → ∀ tb, tb < A.heap.size → ∀ H, w3.drew.heap.size ≤ H → H ≠ tb → Bytes A (some ⟨H, 0, none⟩) 32 (fun _ => 0) → Calls Tryd.prog 9 #[.agg #[.int .i64 2, .int .i64 3, .int .u32 1, .string ⟨#[120]⟩, .slice none 0 0], .string ⟨#[120]⟩, .agg #[.int .u8 2, .int .u32 1, .slice (some ⟨H, 0, none⟩) 32 32]] A fun e w' => ∃ o c, e = .returned (.tuple #[.agg #[.int .i64 2, .int .i64 3, .int .u32 1, .string ⟨#[120]⟩, .slice o 1 c], .bool false, .nilIface]) ∧ 1 ≤ c ∧ c ≤ maxLen ∧ Shs tb w' o 1 (catSh 0 (fun _ => (default : Sh)) (fun _ => ⟨2, 1, 32, fun _ => 0⟩)) ∧ Below A.heap.size A w') := Lib.hid fun A _ tb htb H _ hne hB => by
    refine (submit_any tb 2 3 1 0 0 2 1 32 32 0 _ _ none _ (fun _ => default) (fun _ => 0) A htb (fun i hi => absurd hi (Nat.not_lt_zero _)) (fun i hi => absurd hi (Nat.not_lt_zero _)) (by decide) (Nat.le_refl _) (by unfold maxLen; decide) (by decide) ⟨_, _, rfl, hB, (fun e => by cases e), Nat.le_refl _, by unfold maxLen; decide, fun _ a ha => by cases ha; exact hne⟩ (by decide) (by decide) (.inr (.inr ⟨by rfl, may_23 1 _ 1 (by decide), rfl, by decide⟩))).mono ?_
    rintro e w' ⟨hb, (⟨h0, _⟩ | ⟨_, o, c, he, h1, h2, h3, h4⟩)⟩
    · exact absurd rfl h0
    · exact ⟨o, c, he, h1, h2, h4, hb⟩
  go_cut [3, 4, 5] from 16 (fun s3 s4 s5 wx => ∃ (b : Nat) (o : Option Addr) (c : Nat), s3 = .pointer (some ⟨b, 0, none⟩) ∧ s4 = .bool false ∧ s5 = .nilIface ∧ Blk wx b #[.int .i64 2, .int .i64 3, .int .u32 1, .string ⟨#[120]⟩, .slice o 1 c] 36 ∧ Shs b wx o 1 (catSh 0 (fun _ => (default : Sh)) (fun _ => ⟨2, 1, 32, fun _ => 0⟩)) ∧ 1 ≤ c ∧ c ≤ maxLen ∧ Below w.heap.size w wx ∧ w.heap.size ≤ b)
  case first =>
    have hvWR := Below.refl w3.drew.heap.size w3.drew
    refine wp_region_held_drew (S := (Below w3.drew.heap.size w3.drew)) (by kernel_rfl) ?_ (fun hHeld => ?_)
    · (try dsimp only)
      (first | exact Below.refl _ _ | assumption)
    generalize w3.drew = WR at *
    refine wpAnyH_take (i := 0) (oi := { dst := some 17, op := Go.Op.load 36 (Go.Operand.tmp 1), type := 36, pos := "law.go:62", after := #[], guard := none }) (v := ?_) rfl (by kernel_rfl) (by kernel_rfl) (by kernel_rfl) (fun _ _ _ h => h) (Or.inl ⟨by rfl, ?_⟩) (by assumption) ?_
    rotate_left
    · intro wS hSw
      (refine exec_loadM (x := .tmp 1) (cs := [.int .i64 2, .int .i64 3, .int .u32 1, .string ⟨#[120]⟩, .slice none 0 0]) ?_ ?_ (range5 (Blk.below HPD.out hSw (Blk.lt HPD.out))) Tryd.underlying36 rfl info_pg <;> rfl)
    (try simp only [Act.put, List.setIfInBounds_toArray, List.set_cons_zero, List.set_cons_succ])
    refine wpAnyH_ready (rs := [1, 8]) (by kernel_rfl) (by simp) ?_
    refine AllReadyH.cons (o := { dst := some 18, op := Go.Op.makeSlice 34 (Go.Operand.const (Go.Value.int Go.IntKind.i64 32)) (Go.Operand.const (Go.Value.int Go.IntKind.i64 32)), type := 34, pos := "law.go:62", after := #[], guard := none }) rfl (fun K hK => ?_) ?_
    · skip
      (refine step_make rfl (.const (.int .i64 32)) (.const (.int .i64 32)) rfl 32 rfl rfl (by decide) ?_; obtain ⟨VMx1, hw⟩ : ∃ q, WR.alloc (.cells (rowC 32 (fun _ => 0)).toArray 5) = q := ⟨_, rfl⟩; rw [hw]; have hb : Below WR.heap.size WR VMx1 := (by rw [← hw]; exact (Below.refl _ _).alloc (Nat.le_refl _) _); (try have HZB := Lib.hid (Blk.below HZB.out hb (Blk.lt HZB.out))); (try have HMK := Lib.hid (HMK.out.later hb)); have HMK : Hid (Bytes VMx1 (some ⟨WR.heap.size, 0, none⟩) 32 (fun _ => 0)) := Lib.hid (by rw [← hw]; exact zrow_bytes _ _); have HMH := Lib.hid (show WR.heap.size < VMx1.heap.size by rw [← hw]; simp); have HMR := Lib.hid (show WR.heap.size ≤ WR.heap.size from hvWR.size); have hvVMx1 := Below.trans hvWR (hb.mono hvWR.size); clear hb hw; skip)
      refine hK.out _ _ ?_ (fun hHeld => ?_)
      · (try dsimp only)
        (first | exact Below.refl _ _ | assumption)
      clear hK K
      (try simp only [Act.put, List.setIfInBounds_toArray, List.set_cons_zero, List.set_cons_succ])
      refine wpAnyH_take (i := 2) (oi := { dst := some 19, op := Go.Op.build 42 #[(0, Go.Operand.const (Go.Value.int Go.IntKind.u8 2)), (1, Go.Operand.const (Go.Value.int Go.IntKind.u32 1)), (2, Go.Operand.tmp 18)], type := 42, pos := "law.go:62", after := #[{ on := 1, ground := Go.Ground.data }], guard := none }) (v := ?_) rfl (by kernel_rfl) (by kernel_rfl) (by kernel_rfl) (fun _ _ _ h => h) (Or.inl ⟨by rfl, ?_⟩) (by assumption) ?_
      rotate_left
      · intro wS hSw
        (try dsimp only at hSw)
        go_simp
        (try with_reducible rfl)
      (try simp only [Act.put, List.setIfInBounds_toArray, List.set_cons_zero, List.set_cons_succ])
      refine wpAnyH_ready (rs := [3, 8]) (by kernel_rfl) (by simp) ?_
      refine AllReadyH.cons (o := { dst := some 20, op := Go.Op.call { callee := Go.Callee.value (Go.Operand.func 9), args := #[Go.Operand.tmp 17, Go.Operand.const (Go.Value.string { data := #[120] }), Go.Operand.tmp 19], argTypes := #[36, 9, 42] }, type := 39, pos := "law.go:62", after := #[{ on := 0, ground := Go.Ground.data }, { on := 2, ground := Go.Ground.data }], guard := none }) rfl (fun K hK => ?_) ?_
      · skip
        go_simp
        (refine (HSU.out VMx1 hvVMx1 (0) (by have h1 := hvVMx1.size; have h2 := HWQ.out; omega) (WR.heap.size) HMR.out (by have h1 := HMR.out; have h2 := HWQ.out; omega) HMK.out).mono ?_; rintro e VSx1x3 ⟨o, c, rfl, hc1, hc2, hrs, hb⟩; (try have HZB := Lib.hid (Blk.below HZB.out hb (Blk.lt HZB.out))); (try have HMK := Lib.hid (HMK.out.later hb)); have HRS := Lib.hid hrs; have hvVSx1x3 := Below.trans hvVMx1 (hb.mono hvVMx1.size); clear hb hrs; skip)
        (try go_wp2_with fail)
        refine hK.out _ _ ?_ (fun hHeld => ?_)
        · (try dsimp only)
          (first | exact Below.refl _ _ | assumption)
        clear hK K
        (try simp only [Act.put, List.setIfInBounds_toArray, List.set_cons_zero, List.set_cons_succ])
        refine wpAnyH_take (i := 4) (oi := { dst := some 16, op := Go.Op.move (Go.Operand.tmp 20), type := 39, pos := "law.go:62", after := #[{ on := 3, ground := Go.Ground.data }], guard := none }) (v := ?_) rfl (by kernel_rfl) (by kernel_rfl) (by kernel_rfl) (fun _ _ _ h => h) (Or.inl ⟨by rfl, ?_⟩) (by assumption) ?_
        rotate_left
        · intro wS hSw
          (try dsimp only at hSw)
          go_simp
          (try with_reducible rfl)
        (try simp only [Act.put, List.setIfInBounds_toArray, List.set_cons_zero, List.set_cons_succ])
        refine wpAnyH_take (i := 5) (oi := { dst := some 21, op := Go.Op.extract (Go.Operand.tmp 16) 0, type := 36, pos := "law.go:62", after := #[{ on := 4, ground := Go.Ground.data }], guard := none }) (v := ?_) rfl (by kernel_rfl) (by kernel_rfl) (by kernel_rfl) (fun _ _ _ h => h) (Or.inl ⟨by rfl, ?_⟩) (by assumption) ?_
        rotate_left
        · intro wS hSw
          (try dsimp only at hSw)
          go_simp
          (try with_reducible rfl)
        (try simp only [Act.put, List.setIfInBounds_toArray, List.set_cons_zero, List.set_cons_succ])
        refine wpAnyH_take (i := 6) (oi := { dst := some 22, op := Go.Op.extract (Go.Operand.tmp 16) 1, type := 4, pos := "law.go:62", after := #[{ on := 4, ground := Go.Ground.data }, { on := 9, ground := Go.Ground.gcOnly Go.Departure.lateStores }], guard := none }) (v := ?_) rfl (by kernel_rfl) (by kernel_rfl) (by kernel_rfl) (fun _ _ _ h => h) (Or.inl ⟨by rfl, ?_⟩) (by assumption) ?_
        rotate_left
        · intro wS hSw
          (try dsimp only at hSw)
          go_simp
          (try with_reducible rfl)
        (try simp only [Act.put, List.setIfInBounds_toArray, List.set_cons_zero, List.set_cons_succ])
        refine wpAnyH_take (i := 7) (oi := { dst := some 23, op := Go.Op.extract (Go.Operand.tmp 16) 2, type := 31, pos := "law.go:62", after := #[{ on := 4, ground := Go.Ground.data }, { on := 10, ground := Go.Ground.gcOnly Go.Departure.lateStores }], guard := none }) (v := ?_) rfl (by kernel_rfl) (by kernel_rfl) (by kernel_rfl) (fun _ _ _ h => h) (Or.inl ⟨by rfl, ?_⟩) (by assumption) ?_
        rotate_left
        · intro wS hSw
          (try dsimp only at hSw)
          go_simp
          (try with_reducible rfl)
        (try simp only [Act.put, List.setIfInBounds_toArray, List.set_cons_zero, List.set_cons_succ])
        refine wpAnyH_ready (rs := [8]) (by kernel_rfl) (by simp) ?_
        refine AllReadyH.cons (o := { dst := some 3, op := Go.Op.alloc 36, type := 0, pos := "law.go:62", after := #[], guard := none }) rfl (fun K hK => ?_) AllReadyH.nil
        (refine step_zero rfl rfl zpg_run ?_; obtain ⟨VZx1x3, hw⟩ : ∃ q, VSx1x3.alloc (.cells #[.int .i64 0, .int .i64 0, .int .u32 0, .string ⟨#[]⟩, .slice none 0 0] 36) = q := ⟨_, rfl⟩; rw [hw]; have hb : Below VSx1x3.heap.size VSx1x3 VZx1x3 := (by rw [← hw]; exact (Below.refl _ _).alloc (Nat.le_refl _) _); (try have HZB := Lib.hid (Blk.below HZB.out hb (Blk.lt HZB.out))); (try have HMK := Lib.hid (HMK.out.later hb)); have HRS := Lib.hid ((HRS.out.fresh (Nat.le_refl _)).later hb); have HZB : Hid (Blk VZx1x3 VSx1x3.heap.size #[.int .i64 0, .int .i64 0, .int .u32 0, .string ⟨#[]⟩, .slice none 0 0] 36) := Lib.hid (by rw [← hw]; exact Blk.new _ _ _); have HZV := Lib.hid (show WR.heap.size ≤ VSx1x3.heap.size ∧ VSx1x3.heap.size < VZx1x3.heap.size from ⟨hvVSx1x3.size, by rw [← hw]; simp⟩); have hvVZx1x3 := Below.trans hvVSx1x3 (hb.mono hvVSx1x3.size); clear hb hw; skip)
        refine hK.out _ _ ?_ (fun hHeld => ?_)
        · (try dsimp only)
          (first | exact Below.refl _ _ | assumption)
        clear hK K
        (try simp only [Act.put, List.setIfInBounds_toArray, List.set_cons_zero, List.set_cons_succ])
        refine wpAnyH_ready (rs := [9]) (by kernel_rfl) (by simp) ?_
        refine AllReadyH.cons (o := { dst := none, op := Go.Op.store 36 (Go.Operand.tmp 3) (Go.Operand.tmp 21), type := 0, pos := "law.go:62", after := #[{ on := 8, ground := Go.Ground.data }, { on := 5, ground := Go.Ground.data }, { on := 3, ground := Go.Ground.chain }, { on := 0, ground := Go.Ground.phase }, { on := 1, ground := Go.Ground.phase }, { on := 2, ground := Go.Ground.phase }, { on := 3, ground := Go.Ground.phase }, { on := 4, ground := Go.Ground.phase }, { on := 5, ground := Go.Ground.phase }, { on := 6, ground := Go.Ground.textOnly Go.Departure.lateStores }, { on := 7, ground := Go.Ground.textOnly Go.Departure.lateStores }, { on := 8, ground := Go.Ground.phase }], guard := none }) rfl (fun K hK => ?_) AllReadyH.nil
        (refine step_storeM rfl 36 (.tmp 3) (.tmp 21) rfl (VSx1x3.heap.size) 0 #[.int .i64 2, .int .i64 3, .int .u32 1, .string ⟨#[120]⟩, .slice o 1 c] rfl rfl (HZB.out.there (n := 5) (Nat.le_refl 5)) info_pg (one_pg _ _ _ _ _ _ _) ?_; have HO9 : Hid (Own (VSx1x3.heap.size) VZx1x3 _) := Lib.hid (Own.setCells #[.int .i64 2, .int .i64 3, .int .u32 1, .string ⟨#[120]⟩, .slice o 1 c].toList 0 VZx1x3); have HV9 := Lib.hid (hvVZx1x3.trans (HO9.out.below HZV.out.1 hvVZx1x3.size)); have hv9 := HV9.out; have HB9 : Hid (Blk (VZx1x3.setCells (VSx1x3.heap.size) 0 [.int .i64 2, .int .i64 3, .int .u32 1, .string ⟨#[120]⟩, .slice o 1 c]) (VSx1x3.heap.size) #[.int .i64 2, .int .i64 3, .int .u32 1, .string ⟨#[120]⟩, .slice o 1 c] 36) := Lib.hid (HZB.out.whole5 rfl _ _ _ _ _); skip)
        refine hK.out _ _ ?_ (fun hHeld => ?_)
        · (try dsimp only)
          (first | exact Below.refl _ _ | assumption)
        clear hK K
        (try simp only [Act.put, List.setIfInBounds_toArray, List.set_cons_zero, List.set_cons_succ])
        refine wpAnyH_take (i := 10) (oi := { dst := some 4, op := Go.Op.assign (Go.Operand.tmp 22), type := 4, pos := "law.go:62", after := #[{ on := 6, ground := Go.Ground.data }, { on := 9, ground := Go.Ground.chain }, { on := 0, ground := Go.Ground.phase }, { on := 1, ground := Go.Ground.phase }, { on := 2, ground := Go.Ground.phase }, { on := 3, ground := Go.Ground.phase }, { on := 4, ground := Go.Ground.phase }, { on := 5, ground := Go.Ground.phase }, { on := 6, ground := Go.Ground.phase }, { on := 7, ground := Go.Ground.textOnly Go.Departure.lateStores }, { on := 8, ground := Go.Ground.phase }, { on := 9, ground := Go.Ground.phase }], guard := none }) (v := ?_) rfl (by kernel_rfl) (by kernel_rfl) (by kernel_rfl) (fun _ _ _ h => h) (Or.inl ⟨by rfl, ?_⟩) (by assumption) ?_
        rotate_left
        · intro wS hSw
          (try dsimp only at hSw)
          go_simp
          (try with_reducible rfl)
        (try simp only [Act.put, List.setIfInBounds_toArray, List.set_cons_zero, List.set_cons_succ])
        refine wpAnyH_take (i := 11) (oi := { dst := some 5, op := Go.Op.assign (Go.Operand.tmp 23), type := 31, pos := "law.go:62", after := #[{ on := 7, ground := Go.Ground.data }, { on := 10, ground := Go.Ground.chain }, { on := 0, ground := Go.Ground.phase }, { on := 1, ground := Go.Ground.phase }, { on := 2, ground := Go.Ground.phase }, { on := 3, ground := Go.Ground.phase }, { on := 4, ground := Go.Ground.phase }, { on := 5, ground := Go.Ground.phase }, { on := 6, ground := Go.Ground.phase }, { on := 7, ground := Go.Ground.phase }, { on := 8, ground := Go.Ground.phase }, { on := 9, ground := Go.Ground.phase }, { on := 10, ground := Go.Ground.phase }], guard := none }) (v := ?_) rfl (by kernel_rfl) (by kernel_rfl) (by kernel_rfl) (fun _ _ _ h => h) (Or.inl ⟨by rfl, ?_⟩) (by assumption) ?_
        rotate_left
        · intro wS hSw
          (try dsimp only at hSw)
          go_simp
          (try with_reducible rfl)
        (try simp only [Act.put, List.setIfInBounds_toArray, List.set_cons_zero, List.set_cons_succ])
        refine wpAnyH_done (by kernel_rfl) ?_ _
        go_wp2_with fail
        go_meet
        exact ⟨_, o, c, rfl, rfl, rfl, HB9.out, HRS.out.own HO9.out, hc1, hc2, HWB.out.trans (HV9.out.mono HWB.out.size), by have h1 := HZV.out; have h2 := HWB.out.size; omega⟩
      refine AllReadyH.cons (o := { dst := some 3, op := Go.Op.alloc 36, type := 0, pos := "law.go:62", after := #[], guard := none }) rfl (fun K hK => ?_) AllReadyH.nil
      (refine step_zero rfl rfl zpg_run ?_; obtain ⟨VZx1x8, hw⟩ : ∃ q, VMx1.alloc (.cells #[.int .i64 0, .int .i64 0, .int .u32 0, .string ⟨#[]⟩, .slice none 0 0] 36) = q := ⟨_, rfl⟩; rw [hw]; have hb : Below VMx1.heap.size VMx1 VZx1x8 := (by rw [← hw]; exact (Below.refl _ _).alloc (Nat.le_refl _) _); (try have HZB := Lib.hid (Blk.below HZB.out hb (Blk.lt HZB.out))); (try have HMK := Lib.hid (HMK.out.later hb)); have HZB : Hid (Blk VZx1x8 VMx1.heap.size #[.int .i64 0, .int .i64 0, .int .u32 0, .string ⟨#[]⟩, .slice none 0 0] 36) := Lib.hid (by rw [← hw]; exact Blk.new _ _ _); have HZV := Lib.hid (show WR.heap.size ≤ VMx1.heap.size ∧ VMx1.heap.size < VZx1x8.heap.size from ⟨hvVMx1.size, by rw [← hw]; simp⟩); have hvVZx1x8 := Below.trans hvVMx1 (hb.mono hvVMx1.size); clear hb hw; skip)
      refine hK.out _ _ ?_ (fun hHeld => ?_)
      · (try dsimp only)
        (first | exact Below.refl _ _ | assumption)
      clear hK K
      (try simp only [Act.put, List.setIfInBounds_toArray, List.set_cons_zero, List.set_cons_succ])
      refine wpAnyH_ready (rs := [3]) (by kernel_rfl) (by simp) ?_
      refine AllReadyH.cons (o := { dst := some 20, op := Go.Op.call { callee := Go.Callee.value (Go.Operand.func 9), args := #[Go.Operand.tmp 17, Go.Operand.const (Go.Value.string { data := #[120] }), Go.Operand.tmp 19], argTypes := #[36, 9, 42] }, type := 39, pos := "law.go:62", after := #[{ on := 0, ground := Go.Ground.data }, { on := 2, ground := Go.Ground.data }], guard := none }) rfl (fun K hK => ?_) AllReadyH.nil
      go_simp
      (refine (HSU.out VZx1x8 hvVZx1x8 (VMx1.heap.size) (Blk.lt HZB.out) (WR.heap.size) HMR.out (by have h1 := HZV.out; have h2 := HMH.out; have h3 := HMR.out; omega) HMK.out).mono ?_; rintro e VSx1x8 ⟨o, c, rfl, hc1, hc2, hrs, hb⟩; (try have HZB := Lib.hid (Blk.below HZB.out hb (Blk.lt HZB.out))); (try have HMK := Lib.hid (HMK.out.later hb)); have HRS := Lib.hid hrs; have hvVSx1x8 := Below.trans hvVZx1x8 (hb.mono hvVZx1x8.size); clear hb hrs; skip)
      (try go_wp2_with fail)
      refine hK.out _ _ ?_ (fun hHeld => ?_)
      · (try dsimp only)
        (first | exact Below.refl _ _ | assumption)
      clear hK K
      (try simp only [Act.put, List.setIfInBounds_toArray, List.set_cons_zero, List.set_cons_succ])
      refine wpAnyH_take (i := 4) (oi := { dst := some 16, op := Go.Op.move (Go.Operand.tmp 20), type := 39, pos := "law.go:62", after := #[{ on := 3, ground := Go.Ground.data }], guard := none }) (v := ?_) rfl (by kernel_rfl) (by kernel_rfl) (by kernel_rfl) (fun _ _ _ h => h) (Or.inl ⟨by rfl, ?_⟩) (by assumption) ?_
      rotate_left
      · intro wS hSw
        (try dsimp only at hSw)
        go_simp
        (try with_reducible rfl)
      (try simp only [Act.put, List.setIfInBounds_toArray, List.set_cons_zero, List.set_cons_succ])
      refine wpAnyH_take (i := 5) (oi := { dst := some 21, op := Go.Op.extract (Go.Operand.tmp 16) 0, type := 36, pos := "law.go:62", after := #[{ on := 4, ground := Go.Ground.data }], guard := none }) (v := ?_) rfl (by kernel_rfl) (by kernel_rfl) (by kernel_rfl) (fun _ _ _ h => h) (Or.inl ⟨by rfl, ?_⟩) (by assumption) ?_
      rotate_left
      · intro wS hSw
        (try dsimp only at hSw)
        go_simp
        (try with_reducible rfl)
      (try simp only [Act.put, List.setIfInBounds_toArray, List.set_cons_zero, List.set_cons_succ])
      refine wpAnyH_take (i := 6) (oi := { dst := some 22, op := Go.Op.extract (Go.Operand.tmp 16) 1, type := 4, pos := "law.go:62", after := #[{ on := 4, ground := Go.Ground.data }, { on := 9, ground := Go.Ground.gcOnly Go.Departure.lateStores }], guard := none }) (v := ?_) rfl (by kernel_rfl) (by kernel_rfl) (by kernel_rfl) (fun _ _ _ h => h) (Or.inl ⟨by rfl, ?_⟩) (by assumption) ?_
      rotate_left
      · intro wS hSw
        (try dsimp only at hSw)
        go_simp
        (try with_reducible rfl)
      (try simp only [Act.put, List.setIfInBounds_toArray, List.set_cons_zero, List.set_cons_succ])
      refine wpAnyH_take (i := 7) (oi := { dst := some 23, op := Go.Op.extract (Go.Operand.tmp 16) 2, type := 31, pos := "law.go:62", after := #[{ on := 4, ground := Go.Ground.data }, { on := 10, ground := Go.Ground.gcOnly Go.Departure.lateStores }], guard := none }) (v := ?_) rfl (by kernel_rfl) (by kernel_rfl) (by kernel_rfl) (fun _ _ _ h => h) (Or.inl ⟨by rfl, ?_⟩) (by assumption) ?_
      rotate_left
      · intro wS hSw
        (try dsimp only at hSw)
        go_simp
        (try with_reducible rfl)
      (try simp only [Act.put, List.setIfInBounds_toArray, List.set_cons_zero, List.set_cons_succ])
      refine wpAnyH_ready (rs := [9]) (by kernel_rfl) (by simp) ?_
      refine AllReadyH.cons (o := { dst := none, op := Go.Op.store 36 (Go.Operand.tmp 3) (Go.Operand.tmp 21), type := 0, pos := "law.go:62", after := #[{ on := 8, ground := Go.Ground.data }, { on := 5, ground := Go.Ground.data }, { on := 3, ground := Go.Ground.chain }, { on := 0, ground := Go.Ground.phase }, { on := 1, ground := Go.Ground.phase }, { on := 2, ground := Go.Ground.phase }, { on := 3, ground := Go.Ground.phase }, { on := 4, ground := Go.Ground.phase }, { on := 5, ground := Go.Ground.phase }, { on := 6, ground := Go.Ground.textOnly Go.Departure.lateStores }, { on := 7, ground := Go.Ground.textOnly Go.Departure.lateStores }, { on := 8, ground := Go.Ground.phase }], guard := none }) rfl (fun K hK => ?_) AllReadyH.nil
      (refine step_storeM rfl 36 (.tmp 3) (.tmp 21) rfl (VMx1.heap.size) 0 #[.int .i64 2, .int .i64 3, .int .u32 1, .string ⟨#[120]⟩, .slice o 1 c] rfl rfl (HZB.out.there (n := 5) (Nat.le_refl 5)) info_pg (one_pg _ _ _ _ _ _ _) ?_; have HO9 : Hid (Own (VMx1.heap.size) VSx1x8 _) := Lib.hid (Own.setCells #[.int .i64 2, .int .i64 3, .int .u32 1, .string ⟨#[120]⟩, .slice o 1 c].toList 0 VSx1x8); have HV9 := Lib.hid (hvVSx1x8.trans (HO9.out.below HZV.out.1 hvVSx1x8.size)); have hv9 := HV9.out; have HB9 : Hid (Blk (VSx1x8.setCells (VMx1.heap.size) 0 [.int .i64 2, .int .i64 3, .int .u32 1, .string ⟨#[120]⟩, .slice o 1 c]) (VMx1.heap.size) #[.int .i64 2, .int .i64 3, .int .u32 1, .string ⟨#[120]⟩, .slice o 1 c] 36) := Lib.hid (HZB.out.whole5 rfl _ _ _ _ _); skip)
      refine hK.out _ _ ?_ (fun hHeld => ?_)
      · (try dsimp only)
        (first | exact Below.refl _ _ | assumption)
      clear hK K
      (try simp only [Act.put, List.setIfInBounds_toArray, List.set_cons_zero, List.set_cons_succ])
      refine wpAnyH_take (i := 10) (oi := { dst := some 4, op := Go.Op.assign (Go.Operand.tmp 22), type := 4, pos := "law.go:62", after := #[{ on := 6, ground := Go.Ground.data }, { on := 9, ground := Go.Ground.chain }, { on := 0, ground := Go.Ground.phase }, { on := 1, ground := Go.Ground.phase }, { on := 2, ground := Go.Ground.phase }, { on := 3, ground := Go.Ground.phase }, { on := 4, ground := Go.Ground.phase }, { on := 5, ground := Go.Ground.phase }, { on := 6, ground := Go.Ground.phase }, { on := 7, ground := Go.Ground.textOnly Go.Departure.lateStores }, { on := 8, ground := Go.Ground.phase }, { on := 9, ground := Go.Ground.phase }], guard := none }) (v := ?_) rfl (by kernel_rfl) (by kernel_rfl) (by kernel_rfl) (fun _ _ _ h => h) (Or.inl ⟨by rfl, ?_⟩) (by assumption) ?_
      rotate_left
      · intro wS hSw
        (try dsimp only at hSw)
        go_simp
        (try with_reducible rfl)
      (try simp only [Act.put, List.setIfInBounds_toArray, List.set_cons_zero, List.set_cons_succ])
      refine wpAnyH_take (i := 11) (oi := { dst := some 5, op := Go.Op.assign (Go.Operand.tmp 23), type := 31, pos := "law.go:62", after := #[{ on := 7, ground := Go.Ground.data }, { on := 10, ground := Go.Ground.chain }, { on := 0, ground := Go.Ground.phase }, { on := 1, ground := Go.Ground.phase }, { on := 2, ground := Go.Ground.phase }, { on := 3, ground := Go.Ground.phase }, { on := 4, ground := Go.Ground.phase }, { on := 5, ground := Go.Ground.phase }, { on := 6, ground := Go.Ground.phase }, { on := 7, ground := Go.Ground.phase }, { on := 8, ground := Go.Ground.phase }, { on := 9, ground := Go.Ground.phase }, { on := 10, ground := Go.Ground.phase }], guard := none }) (v := ?_) rfl (by kernel_rfl) (by kernel_rfl) (by kernel_rfl) (fun _ _ _ h => h) (Or.inl ⟨by rfl, ?_⟩) (by assumption) ?_
      rotate_left
      · intro wS hSw
        (try dsimp only at hSw)
        go_simp
        (try with_reducible rfl)
      (try simp only [Act.put, List.setIfInBounds_toArray, List.set_cons_zero, List.set_cons_succ])
      refine wpAnyH_done (by kernel_rfl) ?_ _
      go_wp2_with fail
      go_meet
      exact ⟨_, o, c, rfl, rfl, rfl, HB9.out, HRS.out.own HO9.out, hc1, hc2, HWB.out.trans (HV9.out.mono HWB.out.size), by have h1 := HZV.out; have h2 := HWB.out.size; omega⟩
    refine AllReadyH.cons (o := { dst := some 3, op := Go.Op.alloc 36, type := 0, pos := "law.go:62", after := #[], guard := none }) rfl (fun K hK => ?_) AllReadyH.nil
    (refine step_zero rfl rfl zpg_run ?_; obtain ⟨VZx8, hw⟩ : ∃ q, WR.alloc (.cells #[.int .i64 0, .int .i64 0, .int .u32 0, .string ⟨#[]⟩, .slice none 0 0] 36) = q := ⟨_, rfl⟩; rw [hw]; have hb : Below WR.heap.size WR VZx8 := (by rw [← hw]; exact (Below.refl _ _).alloc (Nat.le_refl _) _); (try have HZB := Lib.hid (Blk.below HZB.out hb (Blk.lt HZB.out))); (try have HMK := Lib.hid (HMK.out.later hb)); have HZB : Hid (Blk VZx8 WR.heap.size #[.int .i64 0, .int .i64 0, .int .u32 0, .string ⟨#[]⟩, .slice none 0 0] 36) := Lib.hid (by rw [← hw]; exact Blk.new _ _ _); have HZV := Lib.hid (show WR.heap.size ≤ WR.heap.size ∧ WR.heap.size < VZx8.heap.size from ⟨hvWR.size, by rw [← hw]; simp⟩); have hvVZx8 := Below.trans hvWR (hb.mono hvWR.size); clear hb hw; skip)
    refine hK.out _ _ ?_ (fun hHeld => ?_)
    · (try dsimp only)
      (first | exact Below.refl _ _ | assumption)
    clear hK K
    (try simp only [Act.put, List.setIfInBounds_toArray, List.set_cons_zero, List.set_cons_succ])
    refine wpAnyH_ready (rs := [1]) (by kernel_rfl) (by simp) ?_
    refine AllReadyH.cons (o := { dst := some 18, op := Go.Op.makeSlice 34 (Go.Operand.const (Go.Value.int Go.IntKind.i64 32)) (Go.Operand.const (Go.Value.int Go.IntKind.i64 32)), type := 34, pos := "law.go:62", after := #[], guard := none }) rfl (fun K hK => ?_) AllReadyH.nil
    (refine step_make rfl (.const (.int .i64 32)) (.const (.int .i64 32)) rfl 32 rfl rfl (by decide) ?_; obtain ⟨VMx8, hw⟩ : ∃ q, VZx8.alloc (.cells (rowC 32 (fun _ => 0)).toArray 5) = q := ⟨_, rfl⟩; rw [hw]; have hb : Below VZx8.heap.size VZx8 VMx8 := (by rw [← hw]; exact (Below.refl _ _).alloc (Nat.le_refl _) _); (try have HZB := Lib.hid (Blk.below HZB.out hb (Blk.lt HZB.out))); (try have HMK := Lib.hid (HMK.out.later hb)); have HMK : Hid (Bytes VMx8 (some ⟨VZx8.heap.size, 0, none⟩) 32 (fun _ => 0)) := Lib.hid (by rw [← hw]; exact zrow_bytes _ _); have HMH := Lib.hid (show VZx8.heap.size < VMx8.heap.size by rw [← hw]; simp); have HMR := Lib.hid (show WR.heap.size ≤ VZx8.heap.size from hvVZx8.size); have hvVMx8 := Below.trans hvVZx8 (hb.mono hvVZx8.size); clear hb hw; skip)
    refine hK.out _ _ ?_ (fun hHeld => ?_)
    · (try dsimp only)
      (first | exact Below.refl _ _ | assumption)
    clear hK K
    (try simp only [Act.put, List.setIfInBounds_toArray, List.set_cons_zero, List.set_cons_succ])
    refine wpAnyH_take (i := 2) (oi := { dst := some 19, op := Go.Op.build 42 #[(0, Go.Operand.const (Go.Value.int Go.IntKind.u8 2)), (1, Go.Operand.const (Go.Value.int Go.IntKind.u32 1)), (2, Go.Operand.tmp 18)], type := 42, pos := "law.go:62", after := #[{ on := 1, ground := Go.Ground.data }], guard := none }) (v := ?_) rfl (by kernel_rfl) (by kernel_rfl) (by kernel_rfl) (fun _ _ _ h => h) (Or.inl ⟨by rfl, ?_⟩) (by assumption) ?_
    rotate_left
    · intro wS hSw
      (try dsimp only at hSw)
      go_simp
      (try with_reducible rfl)
    (try simp only [Act.put, List.setIfInBounds_toArray, List.set_cons_zero, List.set_cons_succ])
    refine wpAnyH_ready (rs := [3]) (by kernel_rfl) (by simp) ?_
    refine AllReadyH.cons (o := { dst := some 20, op := Go.Op.call { callee := Go.Callee.value (Go.Operand.func 9), args := #[Go.Operand.tmp 17, Go.Operand.const (Go.Value.string { data := #[120] }), Go.Operand.tmp 19], argTypes := #[36, 9, 42] }, type := 39, pos := "law.go:62", after := #[{ on := 0, ground := Go.Ground.data }, { on := 2, ground := Go.Ground.data }], guard := none }) rfl (fun K hK => ?_) AllReadyH.nil
    go_simp
    (refine (HSU.out VMx8 hvVMx8 (WR.heap.size) (Blk.lt HZB.out) (VZx8.heap.size) HMR.out (by have h1 := HZV.out; have h2 := HMH.out; have h3 := HMR.out; omega) HMK.out).mono ?_; rintro e VSx8 ⟨o, c, rfl, hc1, hc2, hrs, hb⟩; (try have HZB := Lib.hid (Blk.below HZB.out hb (Blk.lt HZB.out))); (try have HMK := Lib.hid (HMK.out.later hb)); have HRS := Lib.hid hrs; have hvVSx8 := Below.trans hvVMx8 (hb.mono hvVMx8.size); clear hb hrs; skip)
    (try go_wp2_with fail)
    refine hK.out _ _ ?_ (fun hHeld => ?_)
    · (try dsimp only)
      (first | exact Below.refl _ _ | assumption)
    clear hK K
    (try simp only [Act.put, List.setIfInBounds_toArray, List.set_cons_zero, List.set_cons_succ])
    refine wpAnyH_take (i := 4) (oi := { dst := some 16, op := Go.Op.move (Go.Operand.tmp 20), type := 39, pos := "law.go:62", after := #[{ on := 3, ground := Go.Ground.data }], guard := none }) (v := ?_) rfl (by kernel_rfl) (by kernel_rfl) (by kernel_rfl) (fun _ _ _ h => h) (Or.inl ⟨by rfl, ?_⟩) (by assumption) ?_
    rotate_left
    · intro wS hSw
      (try dsimp only at hSw)
      go_simp
      (try with_reducible rfl)
    (try simp only [Act.put, List.setIfInBounds_toArray, List.set_cons_zero, List.set_cons_succ])
    refine wpAnyH_take (i := 5) (oi := { dst := some 21, op := Go.Op.extract (Go.Operand.tmp 16) 0, type := 36, pos := "law.go:62", after := #[{ on := 4, ground := Go.Ground.data }], guard := none }) (v := ?_) rfl (by kernel_rfl) (by kernel_rfl) (by kernel_rfl) (fun _ _ _ h => h) (Or.inl ⟨by rfl, ?_⟩) (by assumption) ?_
    rotate_left
    · intro wS hSw
      (try dsimp only at hSw)
      go_simp
      (try with_reducible rfl)
    (try simp only [Act.put, List.setIfInBounds_toArray, List.set_cons_zero, List.set_cons_succ])
    refine wpAnyH_take (i := 6) (oi := { dst := some 22, op := Go.Op.extract (Go.Operand.tmp 16) 1, type := 4, pos := "law.go:62", after := #[{ on := 4, ground := Go.Ground.data }, { on := 9, ground := Go.Ground.gcOnly Go.Departure.lateStores }], guard := none }) (v := ?_) rfl (by kernel_rfl) (by kernel_rfl) (by kernel_rfl) (fun _ _ _ h => h) (Or.inl ⟨by rfl, ?_⟩) (by assumption) ?_
    rotate_left
    · intro wS hSw
      (try dsimp only at hSw)
      go_simp
      (try with_reducible rfl)
    (try simp only [Act.put, List.setIfInBounds_toArray, List.set_cons_zero, List.set_cons_succ])
    refine wpAnyH_take (i := 7) (oi := { dst := some 23, op := Go.Op.extract (Go.Operand.tmp 16) 2, type := 31, pos := "law.go:62", after := #[{ on := 4, ground := Go.Ground.data }, { on := 10, ground := Go.Ground.gcOnly Go.Departure.lateStores }], guard := none }) (v := ?_) rfl (by kernel_rfl) (by kernel_rfl) (by kernel_rfl) (fun _ _ _ h => h) (Or.inl ⟨by rfl, ?_⟩) (by assumption) ?_
    rotate_left
    · intro wS hSw
      (try dsimp only at hSw)
      go_simp
      (try with_reducible rfl)
    (try simp only [Act.put, List.setIfInBounds_toArray, List.set_cons_zero, List.set_cons_succ])
    refine wpAnyH_ready (rs := [9]) (by kernel_rfl) (by simp) ?_
    refine AllReadyH.cons (o := { dst := none, op := Go.Op.store 36 (Go.Operand.tmp 3) (Go.Operand.tmp 21), type := 0, pos := "law.go:62", after := #[{ on := 8, ground := Go.Ground.data }, { on := 5, ground := Go.Ground.data }, { on := 3, ground := Go.Ground.chain }, { on := 0, ground := Go.Ground.phase }, { on := 1, ground := Go.Ground.phase }, { on := 2, ground := Go.Ground.phase }, { on := 3, ground := Go.Ground.phase }, { on := 4, ground := Go.Ground.phase }, { on := 5, ground := Go.Ground.phase }, { on := 6, ground := Go.Ground.textOnly Go.Departure.lateStores }, { on := 7, ground := Go.Ground.textOnly Go.Departure.lateStores }, { on := 8, ground := Go.Ground.phase }], guard := none }) rfl (fun K hK => ?_) AllReadyH.nil
    (refine step_storeM rfl 36 (.tmp 3) (.tmp 21) rfl (WR.heap.size) 0 #[.int .i64 2, .int .i64 3, .int .u32 1, .string ⟨#[120]⟩, .slice o 1 c] rfl rfl (HZB.out.there (n := 5) (Nat.le_refl 5)) info_pg (one_pg _ _ _ _ _ _ _) ?_; have HO9 : Hid (Own (WR.heap.size) VSx8 _) := Lib.hid (Own.setCells #[.int .i64 2, .int .i64 3, .int .u32 1, .string ⟨#[120]⟩, .slice o 1 c].toList 0 VSx8); have HV9 := Lib.hid (hvVSx8.trans (HO9.out.below HZV.out.1 hvVSx8.size)); have hv9 := HV9.out; have HB9 : Hid (Blk (VSx8.setCells (WR.heap.size) 0 [.int .i64 2, .int .i64 3, .int .u32 1, .string ⟨#[120]⟩, .slice o 1 c]) (WR.heap.size) #[.int .i64 2, .int .i64 3, .int .u32 1, .string ⟨#[120]⟩, .slice o 1 c] 36) := Lib.hid (HZB.out.whole5 rfl _ _ _ _ _); skip)
    refine hK.out _ _ ?_ (fun hHeld => ?_)
    · (try dsimp only)
      (first | exact Below.refl _ _ | assumption)
    clear hK K
    (try simp only [Act.put, List.setIfInBounds_toArray, List.set_cons_zero, List.set_cons_succ])
    refine wpAnyH_take (i := 10) (oi := { dst := some 4, op := Go.Op.assign (Go.Operand.tmp 22), type := 4, pos := "law.go:62", after := #[{ on := 6, ground := Go.Ground.data }, { on := 9, ground := Go.Ground.chain }, { on := 0, ground := Go.Ground.phase }, { on := 1, ground := Go.Ground.phase }, { on := 2, ground := Go.Ground.phase }, { on := 3, ground := Go.Ground.phase }, { on := 4, ground := Go.Ground.phase }, { on := 5, ground := Go.Ground.phase }, { on := 6, ground := Go.Ground.phase }, { on := 7, ground := Go.Ground.textOnly Go.Departure.lateStores }, { on := 8, ground := Go.Ground.phase }, { on := 9, ground := Go.Ground.phase }], guard := none }) (v := ?_) rfl (by kernel_rfl) (by kernel_rfl) (by kernel_rfl) (fun _ _ _ h => h) (Or.inl ⟨by rfl, ?_⟩) (by assumption) ?_
    rotate_left
    · intro wS hSw
      (try dsimp only at hSw)
      go_simp
      (try with_reducible rfl)
    (try simp only [Act.put, List.setIfInBounds_toArray, List.set_cons_zero, List.set_cons_succ])
    refine wpAnyH_take (i := 11) (oi := { dst := some 5, op := Go.Op.assign (Go.Operand.tmp 23), type := 31, pos := "law.go:62", after := #[{ on := 7, ground := Go.Ground.data }, { on := 10, ground := Go.Ground.chain }, { on := 0, ground := Go.Ground.phase }, { on := 1, ground := Go.Ground.phase }, { on := 2, ground := Go.Ground.phase }, { on := 3, ground := Go.Ground.phase }, { on := 4, ground := Go.Ground.phase }, { on := 5, ground := Go.Ground.phase }, { on := 6, ground := Go.Ground.phase }, { on := 7, ground := Go.Ground.phase }, { on := 8, ground := Go.Ground.phase }, { on := 9, ground := Go.Ground.phase }, { on := 10, ground := Go.Ground.phase }], guard := none }) (v := ?_) rfl (by kernel_rfl) (by kernel_rfl) (by kernel_rfl) (fun _ _ _ h => h) (Or.inl ⟨by rfl, ?_⟩) (by assumption) ?_
    rotate_left
    · intro wS hSw
      (try dsimp only at hSw)
      go_simp
      (try with_reducible rfl)
    (try simp only [Act.put, List.setIfInBounds_toArray, List.set_cons_zero, List.set_cons_succ])
    refine wpAnyH_done (by kernel_rfl) ?_ _
    go_wp2_with fail
    go_meet
    exact ⟨_, o, c, rfl, rfl, rfl, HB9.out, HRS.out.own HO9.out, hc1, hc2, HWB.out.trans (HV9.out.mono HWB.out.size), by have h1 := HZV.out; have h2 := HWB.out.size; omega⟩
  case rest =>
    obtain ⟨b, o, c, rfl, rfl, rfl, hB, hS, hc1, hc2, hb, hwb⟩ := hcut
    generalize wc = w4 at *
    have HWB4 : Hid (Below w.heap.size w w4.drew) := Lib.hid (hb.trans ((Below.refl w4.heap.size w4).drew.mono hb.size))
    have HWQ : Hid (0 < w4.drew.heap.size) := Lib.hid (by have h1 := HWB4.out.size; have h2 := HWP.out; omega)
    have HQD : Hid (Blk w4.drew b #[.int .i64 2, .int .i64 3, .int .u32 1, .string ⟨#[120]⟩, .slice o 1 c] 36) := Lib.hid (Blk.below hB (Below.refl w4.heap.size w4).drew (Blk.lt hB))
    have hSd := hS.later (Below.refl w4.heap.size w4).drew
    have HSD := Lib.hid hSd
    have HMY : Hid (MayG 2 3 1 (catSh 0 (fun _ => (default : Sh)) (fun _ => ⟨2, 1, 32, fun _ => 0⟩)) 1 1) := Lib.hid ⟨⟨by decide, by decide, by decide⟩, by decide, by decide, fun i hi => by
      obtain rfl : i = 0 := by omega
      rfl⟩
    have HSU : Hid (∀ A, Below w4.drew.heap.size w4.drew A → ∀ tb, tb < A.heap.size → ∀ H, w4.drew.heap.size ≤ H → H ≠ tb → Bytes A (some ⟨H, 0, none⟩) 32 (fun _ => 0) → Calls Tryd.prog 9 #[.agg #[.int .i64 2, .int .i64 3, .int .u32 1, .string ⟨#[120]⟩, .slice o 1 c], .string ⟨#[120]⟩, .agg #[.int .u8 2, .int .u32 1, .slice (some ⟨H, 0, none⟩) 32 32]] A fun e w' => e = .returned (.tuple #[.agg #[.int .i64 0, .int .i64 0, .int .u32 0, .string ⟨#[]⟩, .slice none 0 0], .bool false, .iface 83 (.int .i64 12)]) ∧ True ∧ Below A.heap.size A w') := Lib.hid fun A hA tb htb H hH hne hB => by
      have hbA := HQD.out.lt
      have hsz := hA.size
      refine (submit_any b 2 3 1 1 c 2 1 32 32 12 ⟨#[120]⟩ ⟨#[120]⟩ o _ _ (fun _ => 0) A (by omega) (HSD.out.later hA) (fun i hi => by
        obtain rfl : i = 0 := by omega
        exact (by decide : (2 : Nat) < 256)) (by decide) hc1 hc2 (by decide) ⟨_, _, rfl, hB, (fun e => by cases e), Nat.le_refl _, by unfold maxLen; decide, fun _ a ha => by cases ha; show H ≠ b; omega⟩ (by decide) (by decide) (.inr (.inr ⟨by rfl, HMY.out, rfl, by decide⟩))).mono ?_
      rintro e w' ⟨hb, (⟨_, he⟩ | ⟨h0, _⟩)⟩
      · exact ⟨he, trivial, hb⟩
      · cases h0
    have HB4 := Lib.hid (show b < w4.drew.heap.size ∧ w.heap.size ≤ b from ⟨HQD.out.lt, hwb⟩)
    have HC := Lib.hid (show 1 ≤ c ∧ c ≤ maxLen from ⟨hc1, hc2⟩)
    clear hB hS hc1 hc2 hb hwb hSd
    go_upto_region 3 with fail
    go_cut [6, 7, 8] from 24 (fun s6 s7 s8 wx => ∃ (b6 : Nat), s6 = .pointer (some ⟨b6, 0, none⟩) ∧ s7 = .bool false ∧ s8 = .iface 83 (.int .i64 12) ∧ Below w4.drew.heap.size w4.drew wx)
    case first =>
      have hvWR := Below.refl w4.drew.heap.size w4.drew
      refine wp_region_held_drew (S := (Below w4.drew.heap.size w4.drew)) (by kernel_rfl) ?_ (fun hHeld => ?_)
      · (try dsimp only)
        (first | exact Below.refl _ _ | assumption)
      generalize w4.drew = WR at *
      refine wpAnyH_take (i := 0) (oi := { dst := some 25, op := Go.Op.load 36 (Go.Operand.tmp 3), type := 36, pos := "law.go:63", after := #[], guard := none }) (v := ?_) rfl (by kernel_rfl) (by kernel_rfl) (by kernel_rfl) (fun _ _ _ h => h) (Or.inl ⟨by rfl, ?_⟩) (by assumption) ?_
      rotate_left
      · intro wS hSw
        (refine exec_loadM (x := .tmp 3) (cs := [.int .i64 2, .int .i64 3, .int .u32 1, .string ⟨#[120]⟩, .slice o 1 c]) ?_ ?_ (range5 (Blk.below HQD.out hSw (Blk.lt HQD.out))) Tryd.underlying36 rfl info_pg <;> rfl)
      (try simp only [Act.put, List.setIfInBounds_toArray, List.set_cons_zero, List.set_cons_succ])
      refine wpAnyH_ready (rs := [1, 8]) (by kernel_rfl) (by simp) ?_
      refine AllReadyH.cons (o := { dst := some 26, op := Go.Op.makeSlice 34 (Go.Operand.const (Go.Value.int Go.IntKind.i64 32)) (Go.Operand.const (Go.Value.int Go.IntKind.i64 32)), type := 34, pos := "law.go:63", after := #[], guard := none }) rfl (fun K hK => ?_) ?_
      · skip
        (refine step_make rfl (.const (.int .i64 32)) (.const (.int .i64 32)) rfl 32 rfl rfl (by decide) ?_; obtain ⟨VMx1, hw⟩ : ∃ q, WR.alloc (.cells (rowC 32 (fun _ => 0)).toArray 5) = q := ⟨_, rfl⟩; rw [hw]; have hb : Below WR.heap.size WR VMx1 := (by rw [← hw]; exact (Below.refl _ _).alloc (Nat.le_refl _) _); (try have HZB := Lib.hid (Blk.below HZB.out hb (Blk.lt HZB.out))); (try have HMK := Lib.hid (HMK.out.later hb)); have HMK : Hid (Bytes VMx1 (some ⟨WR.heap.size, 0, none⟩) 32 (fun _ => 0)) := Lib.hid (by rw [← hw]; exact zrow_bytes _ _); have HMH := Lib.hid (show WR.heap.size < VMx1.heap.size by rw [← hw]; simp); have HMR := Lib.hid (show WR.heap.size ≤ WR.heap.size from hvWR.size); have hvVMx1 := Below.trans hvWR (hb.mono hvWR.size); clear hb hw; skip)
        refine hK.out _ _ ?_ (fun hHeld => ?_)
        · (try dsimp only)
          (first | exact Below.refl _ _ | assumption)
        clear hK K
        (try simp only [Act.put, List.setIfInBounds_toArray, List.set_cons_zero, List.set_cons_succ])
        refine wpAnyH_take (i := 2) (oi := { dst := some 27, op := Go.Op.build 42 #[(0, Go.Operand.const (Go.Value.int Go.IntKind.u8 2)), (1, Go.Operand.const (Go.Value.int Go.IntKind.u32 1)), (2, Go.Operand.tmp 26)], type := 42, pos := "law.go:63", after := #[{ on := 1, ground := Go.Ground.data }], guard := none }) (v := ?_) rfl (by kernel_rfl) (by kernel_rfl) (by kernel_rfl) (fun _ _ _ h => h) (Or.inl ⟨by rfl, ?_⟩) (by assumption) ?_
        rotate_left
        · intro wS hSw
          (try dsimp only at hSw)
          go_simp
          (try with_reducible rfl)
        (try simp only [Act.put, List.setIfInBounds_toArray, List.set_cons_zero, List.set_cons_succ])
        refine wpAnyH_ready (rs := [3, 8]) (by kernel_rfl) (by simp) ?_
        refine AllReadyH.cons (o := { dst := some 28, op := Go.Op.call { callee := Go.Callee.value (Go.Operand.func 9), args := #[Go.Operand.tmp 25, Go.Operand.const (Go.Value.string { data := #[120] }), Go.Operand.tmp 27], argTypes := #[36, 9, 42] }, type := 39, pos := "law.go:63", after := #[{ on := 0, ground := Go.Ground.data }, { on := 2, ground := Go.Ground.data }], guard := none }) rfl (fun K hK => ?_) ?_
        · skip
          go_simp
          (refine (HSU.out VMx1 hvVMx1 (0) (by have h1 := hvVMx1.size; have h2 := HWQ.out; omega) (WR.heap.size) HMR.out (by have h1 := HMR.out; have h2 := HWQ.out; omega) HMK.out).mono ?_; rintro e VSx1x3 ⟨rfl, hrs, hb⟩; (try have HZB := Lib.hid (Blk.below HZB.out hb (Blk.lt HZB.out))); (try have HMK := Lib.hid (HMK.out.later hb)); have HRS := Lib.hid hrs; have hvVSx1x3 := Below.trans hvVMx1 (hb.mono hvVMx1.size); clear hb hrs; skip)
          (try go_wp2_with fail)
          refine hK.out _ _ ?_ (fun hHeld => ?_)
          · (try dsimp only)
            (first | exact Below.refl _ _ | assumption)
          clear hK K
          (try simp only [Act.put, List.setIfInBounds_toArray, List.set_cons_zero, List.set_cons_succ])
          refine wpAnyH_take (i := 4) (oi := { dst := some 24, op := Go.Op.move (Go.Operand.tmp 28), type := 39, pos := "law.go:63", after := #[{ on := 3, ground := Go.Ground.data }], guard := none }) (v := ?_) rfl (by kernel_rfl) (by kernel_rfl) (by kernel_rfl) (fun _ _ _ h => h) (Or.inl ⟨by rfl, ?_⟩) (by assumption) ?_
          rotate_left
          · intro wS hSw
            (try dsimp only at hSw)
            go_simp
            (try with_reducible rfl)
          (try simp only [Act.put, List.setIfInBounds_toArray, List.set_cons_zero, List.set_cons_succ])
          refine wpAnyH_take (i := 5) (oi := { dst := some 29, op := Go.Op.extract (Go.Operand.tmp 24) 0, type := 36, pos := "law.go:63", after := #[{ on := 4, ground := Go.Ground.data }], guard := none }) (v := ?_) rfl (by kernel_rfl) (by kernel_rfl) (by kernel_rfl) (fun _ _ _ h => h) (Or.inl ⟨by rfl, ?_⟩) (by assumption) ?_
          rotate_left
          · intro wS hSw
            (try dsimp only at hSw)
            go_simp
            (try with_reducible rfl)
          (try simp only [Act.put, List.setIfInBounds_toArray, List.set_cons_zero, List.set_cons_succ])
          refine wpAnyH_take (i := 6) (oi := { dst := some 30, op := Go.Op.extract (Go.Operand.tmp 24) 1, type := 4, pos := "law.go:63", after := #[{ on := 4, ground := Go.Ground.data }, { on := 9, ground := Go.Ground.gcOnly Go.Departure.lateStores }], guard := none }) (v := ?_) rfl (by kernel_rfl) (by kernel_rfl) (by kernel_rfl) (fun _ _ _ h => h) (Or.inl ⟨by rfl, ?_⟩) (by assumption) ?_
          rotate_left
          · intro wS hSw
            (try dsimp only at hSw)
            go_simp
            (try with_reducible rfl)
          (try simp only [Act.put, List.setIfInBounds_toArray, List.set_cons_zero, List.set_cons_succ])
          refine wpAnyH_take (i := 7) (oi := { dst := some 31, op := Go.Op.extract (Go.Operand.tmp 24) 2, type := 31, pos := "law.go:63", after := #[{ on := 4, ground := Go.Ground.data }, { on := 10, ground := Go.Ground.gcOnly Go.Departure.lateStores }], guard := none }) (v := ?_) rfl (by kernel_rfl) (by kernel_rfl) (by kernel_rfl) (fun _ _ _ h => h) (Or.inl ⟨by rfl, ?_⟩) (by assumption) ?_
          rotate_left
          · intro wS hSw
            (try dsimp only at hSw)
            go_simp
            (try with_reducible rfl)
          (try simp only [Act.put, List.setIfInBounds_toArray, List.set_cons_zero, List.set_cons_succ])
          refine wpAnyH_ready (rs := [8]) (by kernel_rfl) (by simp) ?_
          refine AllReadyH.cons (o := { dst := some 6, op := Go.Op.alloc 36, type := 0, pos := "law.go:63", after := #[], guard := none }) rfl (fun K hK => ?_) AllReadyH.nil
          (refine step_zero rfl rfl zpg_run ?_; obtain ⟨VZx1x3, hw⟩ : ∃ q, VSx1x3.alloc (.cells #[.int .i64 0, .int .i64 0, .int .u32 0, .string ⟨#[]⟩, .slice none 0 0] 36) = q := ⟨_, rfl⟩; rw [hw]; have hb : Below VSx1x3.heap.size VSx1x3 VZx1x3 := (by rw [← hw]; exact (Below.refl _ _).alloc (Nat.le_refl _) _); (try have HZB := Lib.hid (Blk.below HZB.out hb (Blk.lt HZB.out))); (try have HMK := Lib.hid (HMK.out.later hb)); have HRS := Lib.hid (trivial); have HZB : Hid (Blk VZx1x3 VSx1x3.heap.size #[.int .i64 0, .int .i64 0, .int .u32 0, .string ⟨#[]⟩, .slice none 0 0] 36) := Lib.hid (by rw [← hw]; exact Blk.new _ _ _); have HZV := Lib.hid (show WR.heap.size ≤ VSx1x3.heap.size ∧ VSx1x3.heap.size < VZx1x3.heap.size from ⟨hvVSx1x3.size, by rw [← hw]; simp⟩); have hvVZx1x3 := Below.trans hvVSx1x3 (hb.mono hvVSx1x3.size); clear hb hw; skip)
          refine hK.out _ _ ?_ (fun hHeld => ?_)
          · (try dsimp only)
            (first | exact Below.refl _ _ | assumption)
          clear hK K
          (try simp only [Act.put, List.setIfInBounds_toArray, List.set_cons_zero, List.set_cons_succ])
          refine wpAnyH_ready (rs := [9]) (by kernel_rfl) (by simp) ?_
          refine AllReadyH.cons (o := { dst := none, op := Go.Op.store 36 (Go.Operand.tmp 6) (Go.Operand.tmp 29), type := 0, pos := "law.go:63", after := #[{ on := 8, ground := Go.Ground.data }, { on := 5, ground := Go.Ground.data }, { on := 3, ground := Go.Ground.chain }, { on := 0, ground := Go.Ground.phase }, { on := 1, ground := Go.Ground.phase }, { on := 2, ground := Go.Ground.phase }, { on := 3, ground := Go.Ground.phase }, { on := 4, ground := Go.Ground.phase }, { on := 5, ground := Go.Ground.phase }, { on := 6, ground := Go.Ground.textOnly Go.Departure.lateStores }, { on := 7, ground := Go.Ground.textOnly Go.Departure.lateStores }, { on := 8, ground := Go.Ground.phase }], guard := none }) rfl (fun K hK => ?_) AllReadyH.nil
          (refine step_storeM rfl 36 (.tmp 6) (.tmp 29) rfl (VSx1x3.heap.size) 0 #[.int .i64 0, .int .i64 0, .int .u32 0, .string ⟨#[]⟩, .slice none 0 0] rfl rfl (HZB.out.there (n := 5) (Nat.le_refl 5)) info_pg (one_pg _ _ _ _ _ _ _) ?_; have HO9 : Hid (Own (VSx1x3.heap.size) VZx1x3 _) := Lib.hid (Own.setCells #[.int .i64 0, .int .i64 0, .int .u32 0, .string ⟨#[]⟩, .slice none 0 0].toList 0 VZx1x3); have HV9 := Lib.hid (hvVZx1x3.trans (HO9.out.below HZV.out.1 hvVZx1x3.size)); have hv9 := HV9.out; have HB9 : Hid (Blk (VZx1x3.setCells (VSx1x3.heap.size) 0 [.int .i64 0, .int .i64 0, .int .u32 0, .string ⟨#[]⟩, .slice none 0 0]) (VSx1x3.heap.size) #[.int .i64 0, .int .i64 0, .int .u32 0, .string ⟨#[]⟩, .slice none 0 0] 36) := Lib.hid (HZB.out.whole5 rfl _ _ _ _ _); skip)
          refine hK.out _ _ ?_ (fun hHeld => ?_)
          · (try dsimp only)
            (first | exact Below.refl _ _ | assumption)
          clear hK K
          (try simp only [Act.put, List.setIfInBounds_toArray, List.set_cons_zero, List.set_cons_succ])
          refine wpAnyH_take (i := 10) (oi := { dst := some 7, op := Go.Op.assign (Go.Operand.tmp 30), type := 4, pos := "law.go:63", after := #[{ on := 6, ground := Go.Ground.data }, { on := 9, ground := Go.Ground.chain }, { on := 0, ground := Go.Ground.phase }, { on := 1, ground := Go.Ground.phase }, { on := 2, ground := Go.Ground.phase }, { on := 3, ground := Go.Ground.phase }, { on := 4, ground := Go.Ground.phase }, { on := 5, ground := Go.Ground.phase }, { on := 6, ground := Go.Ground.phase }, { on := 7, ground := Go.Ground.textOnly Go.Departure.lateStores }, { on := 8, ground := Go.Ground.phase }, { on := 9, ground := Go.Ground.phase }], guard := none }) (v := ?_) rfl (by kernel_rfl) (by kernel_rfl) (by kernel_rfl) (fun _ _ _ h => h) (Or.inl ⟨by rfl, ?_⟩) (by assumption) ?_
          rotate_left
          · intro wS hSw
            (try dsimp only at hSw)
            go_simp
            (try with_reducible rfl)
          (try simp only [Act.put, List.setIfInBounds_toArray, List.set_cons_zero, List.set_cons_succ])
          refine wpAnyH_take (i := 11) (oi := { dst := some 8, op := Go.Op.assign (Go.Operand.tmp 31), type := 31, pos := "law.go:63", after := #[{ on := 7, ground := Go.Ground.data }, { on := 10, ground := Go.Ground.chain }, { on := 0, ground := Go.Ground.phase }, { on := 1, ground := Go.Ground.phase }, { on := 2, ground := Go.Ground.phase }, { on := 3, ground := Go.Ground.phase }, { on := 4, ground := Go.Ground.phase }, { on := 5, ground := Go.Ground.phase }, { on := 6, ground := Go.Ground.phase }, { on := 7, ground := Go.Ground.phase }, { on := 8, ground := Go.Ground.phase }, { on := 9, ground := Go.Ground.phase }, { on := 10, ground := Go.Ground.phase }], guard := none }) (v := ?_) rfl (by kernel_rfl) (by kernel_rfl) (by kernel_rfl) (fun _ _ _ h => h) (Or.inl ⟨by rfl, ?_⟩) (by assumption) ?_
          rotate_left
          · intro wS hSw
            (try dsimp only at hSw)
            go_simp
            (try with_reducible rfl)
          (try simp only [Act.put, List.setIfInBounds_toArray, List.set_cons_zero, List.set_cons_succ])
          refine wpAnyH_done (by kernel_rfl) ?_ _
          go_wp2_with fail
          go_meet
          exact ⟨_, rfl, rfl, rfl, HV9.out⟩
        refine AllReadyH.cons (o := { dst := some 6, op := Go.Op.alloc 36, type := 0, pos := "law.go:63", after := #[], guard := none }) rfl (fun K hK => ?_) AllReadyH.nil
        (refine step_zero rfl rfl zpg_run ?_; obtain ⟨VZx1x8, hw⟩ : ∃ q, VMx1.alloc (.cells #[.int .i64 0, .int .i64 0, .int .u32 0, .string ⟨#[]⟩, .slice none 0 0] 36) = q := ⟨_, rfl⟩; rw [hw]; have hb : Below VMx1.heap.size VMx1 VZx1x8 := (by rw [← hw]; exact (Below.refl _ _).alloc (Nat.le_refl _) _); (try have HZB := Lib.hid (Blk.below HZB.out hb (Blk.lt HZB.out))); (try have HMK := Lib.hid (HMK.out.later hb)); have HZB : Hid (Blk VZx1x8 VMx1.heap.size #[.int .i64 0, .int .i64 0, .int .u32 0, .string ⟨#[]⟩, .slice none 0 0] 36) := Lib.hid (by rw [← hw]; exact Blk.new _ _ _); have HZV := Lib.hid (show WR.heap.size ≤ VMx1.heap.size ∧ VMx1.heap.size < VZx1x8.heap.size from ⟨hvVMx1.size, by rw [← hw]; simp⟩); have hvVZx1x8 := Below.trans hvVMx1 (hb.mono hvVMx1.size); clear hb hw; skip)
        refine hK.out _ _ ?_ (fun hHeld => ?_)
        · (try dsimp only)
          (first | exact Below.refl _ _ | assumption)
        clear hK K
        (try simp only [Act.put, List.setIfInBounds_toArray, List.set_cons_zero, List.set_cons_succ])
        refine wpAnyH_ready (rs := [3]) (by kernel_rfl) (by simp) ?_
        refine AllReadyH.cons (o := { dst := some 28, op := Go.Op.call { callee := Go.Callee.value (Go.Operand.func 9), args := #[Go.Operand.tmp 25, Go.Operand.const (Go.Value.string { data := #[120] }), Go.Operand.tmp 27], argTypes := #[36, 9, 42] }, type := 39, pos := "law.go:63", after := #[{ on := 0, ground := Go.Ground.data }, { on := 2, ground := Go.Ground.data }], guard := none }) rfl (fun K hK => ?_) AllReadyH.nil
        go_simp
        (refine (HSU.out VZx1x8 hvVZx1x8 (VMx1.heap.size) (Blk.lt HZB.out) (WR.heap.size) HMR.out (by have h1 := HZV.out; have h2 := HMH.out; have h3 := HMR.out; omega) HMK.out).mono ?_; rintro e VSx1x8 ⟨rfl, hrs, hb⟩; (try have HZB := Lib.hid (Blk.below HZB.out hb (Blk.lt HZB.out))); (try have HMK := Lib.hid (HMK.out.later hb)); have HRS := Lib.hid hrs; have hvVSx1x8 := Below.trans hvVZx1x8 (hb.mono hvVZx1x8.size); clear hb hrs; skip)
        (try go_wp2_with fail)
        refine hK.out _ _ ?_ (fun hHeld => ?_)
        · (try dsimp only)
          (first | exact Below.refl _ _ | assumption)
        clear hK K
        (try simp only [Act.put, List.setIfInBounds_toArray, List.set_cons_zero, List.set_cons_succ])
        refine wpAnyH_take (i := 4) (oi := { dst := some 24, op := Go.Op.move (Go.Operand.tmp 28), type := 39, pos := "law.go:63", after := #[{ on := 3, ground := Go.Ground.data }], guard := none }) (v := ?_) rfl (by kernel_rfl) (by kernel_rfl) (by kernel_rfl) (fun _ _ _ h => h) (Or.inl ⟨by rfl, ?_⟩) (by assumption) ?_
        rotate_left
        · intro wS hSw
          (try dsimp only at hSw)
          go_simp
          (try with_reducible rfl)
        (try simp only [Act.put, List.setIfInBounds_toArray, List.set_cons_zero, List.set_cons_succ])
        refine wpAnyH_take (i := 5) (oi := { dst := some 29, op := Go.Op.extract (Go.Operand.tmp 24) 0, type := 36, pos := "law.go:63", after := #[{ on := 4, ground := Go.Ground.data }], guard := none }) (v := ?_) rfl (by kernel_rfl) (by kernel_rfl) (by kernel_rfl) (fun _ _ _ h => h) (Or.inl ⟨by rfl, ?_⟩) (by assumption) ?_
        rotate_left
        · intro wS hSw
          (try dsimp only at hSw)
          go_simp
          (try with_reducible rfl)
        (try simp only [Act.put, List.setIfInBounds_toArray, List.set_cons_zero, List.set_cons_succ])
        refine wpAnyH_take (i := 6) (oi := { dst := some 30, op := Go.Op.extract (Go.Operand.tmp 24) 1, type := 4, pos := "law.go:63", after := #[{ on := 4, ground := Go.Ground.data }, { on := 9, ground := Go.Ground.gcOnly Go.Departure.lateStores }], guard := none }) (v := ?_) rfl (by kernel_rfl) (by kernel_rfl) (by kernel_rfl) (fun _ _ _ h => h) (Or.inl ⟨by rfl, ?_⟩) (by assumption) ?_
        rotate_left
        · intro wS hSw
          (try dsimp only at hSw)
          go_simp
          (try with_reducible rfl)
        (try simp only [Act.put, List.setIfInBounds_toArray, List.set_cons_zero, List.set_cons_succ])
        refine wpAnyH_take (i := 7) (oi := { dst := some 31, op := Go.Op.extract (Go.Operand.tmp 24) 2, type := 31, pos := "law.go:63", after := #[{ on := 4, ground := Go.Ground.data }, { on := 10, ground := Go.Ground.gcOnly Go.Departure.lateStores }], guard := none }) (v := ?_) rfl (by kernel_rfl) (by kernel_rfl) (by kernel_rfl) (fun _ _ _ h => h) (Or.inl ⟨by rfl, ?_⟩) (by assumption) ?_
        rotate_left
        · intro wS hSw
          (try dsimp only at hSw)
          go_simp
          (try with_reducible rfl)
        (try simp only [Act.put, List.setIfInBounds_toArray, List.set_cons_zero, List.set_cons_succ])
        refine wpAnyH_ready (rs := [9]) (by kernel_rfl) (by simp) ?_
        refine AllReadyH.cons (o := { dst := none, op := Go.Op.store 36 (Go.Operand.tmp 6) (Go.Operand.tmp 29), type := 0, pos := "law.go:63", after := #[{ on := 8, ground := Go.Ground.data }, { on := 5, ground := Go.Ground.data }, { on := 3, ground := Go.Ground.chain }, { on := 0, ground := Go.Ground.phase }, { on := 1, ground := Go.Ground.phase }, { on := 2, ground := Go.Ground.phase }, { on := 3, ground := Go.Ground.phase }, { on := 4, ground := Go.Ground.phase }, { on := 5, ground := Go.Ground.phase }, { on := 6, ground := Go.Ground.textOnly Go.Departure.lateStores }, { on := 7, ground := Go.Ground.textOnly Go.Departure.lateStores }, { on := 8, ground := Go.Ground.phase }], guard := none }) rfl (fun K hK => ?_) AllReadyH.nil
        (refine step_storeM rfl 36 (.tmp 6) (.tmp 29) rfl (VMx1.heap.size) 0 #[.int .i64 0, .int .i64 0, .int .u32 0, .string ⟨#[]⟩, .slice none 0 0] rfl rfl (HZB.out.there (n := 5) (Nat.le_refl 5)) info_pg (one_pg _ _ _ _ _ _ _) ?_; have HO9 : Hid (Own (VMx1.heap.size) VSx1x8 _) := Lib.hid (Own.setCells #[.int .i64 0, .int .i64 0, .int .u32 0, .string ⟨#[]⟩, .slice none 0 0].toList 0 VSx1x8); have HV9 := Lib.hid (hvVSx1x8.trans (HO9.out.below HZV.out.1 hvVSx1x8.size)); have hv9 := HV9.out; have HB9 : Hid (Blk (VSx1x8.setCells (VMx1.heap.size) 0 [.int .i64 0, .int .i64 0, .int .u32 0, .string ⟨#[]⟩, .slice none 0 0]) (VMx1.heap.size) #[.int .i64 0, .int .i64 0, .int .u32 0, .string ⟨#[]⟩, .slice none 0 0] 36) := Lib.hid (HZB.out.whole5 rfl _ _ _ _ _); skip)
        refine hK.out _ _ ?_ (fun hHeld => ?_)
        · (try dsimp only)
          (first | exact Below.refl _ _ | assumption)
        clear hK K
        (try simp only [Act.put, List.setIfInBounds_toArray, List.set_cons_zero, List.set_cons_succ])
        refine wpAnyH_take (i := 10) (oi := { dst := some 7, op := Go.Op.assign (Go.Operand.tmp 30), type := 4, pos := "law.go:63", after := #[{ on := 6, ground := Go.Ground.data }, { on := 9, ground := Go.Ground.chain }, { on := 0, ground := Go.Ground.phase }, { on := 1, ground := Go.Ground.phase }, { on := 2, ground := Go.Ground.phase }, { on := 3, ground := Go.Ground.phase }, { on := 4, ground := Go.Ground.phase }, { on := 5, ground := Go.Ground.phase }, { on := 6, ground := Go.Ground.phase }, { on := 7, ground := Go.Ground.textOnly Go.Departure.lateStores }, { on := 8, ground := Go.Ground.phase }, { on := 9, ground := Go.Ground.phase }], guard := none }) (v := ?_) rfl (by kernel_rfl) (by kernel_rfl) (by kernel_rfl) (fun _ _ _ h => h) (Or.inl ⟨by rfl, ?_⟩) (by assumption) ?_
        rotate_left
        · intro wS hSw
          (try dsimp only at hSw)
          go_simp
          (try with_reducible rfl)
        (try simp only [Act.put, List.setIfInBounds_toArray, List.set_cons_zero, List.set_cons_succ])
        refine wpAnyH_take (i := 11) (oi := { dst := some 8, op := Go.Op.assign (Go.Operand.tmp 31), type := 31, pos := "law.go:63", after := #[{ on := 7, ground := Go.Ground.data }, { on := 10, ground := Go.Ground.chain }, { on := 0, ground := Go.Ground.phase }, { on := 1, ground := Go.Ground.phase }, { on := 2, ground := Go.Ground.phase }, { on := 3, ground := Go.Ground.phase }, { on := 4, ground := Go.Ground.phase }, { on := 5, ground := Go.Ground.phase }, { on := 6, ground := Go.Ground.phase }, { on := 7, ground := Go.Ground.phase }, { on := 8, ground := Go.Ground.phase }, { on := 9, ground := Go.Ground.phase }, { on := 10, ground := Go.Ground.phase }], guard := none }) (v := ?_) rfl (by kernel_rfl) (by kernel_rfl) (by kernel_rfl) (fun _ _ _ h => h) (Or.inl ⟨by rfl, ?_⟩) (by assumption) ?_
        rotate_left
        · intro wS hSw
          (try dsimp only at hSw)
          go_simp
          (try with_reducible rfl)
        (try simp only [Act.put, List.setIfInBounds_toArray, List.set_cons_zero, List.set_cons_succ])
        refine wpAnyH_done (by kernel_rfl) ?_ _
        go_wp2_with fail
        go_meet
        exact ⟨_, rfl, rfl, rfl, HV9.out⟩
      refine AllReadyH.cons (o := { dst := some 6, op := Go.Op.alloc 36, type := 0, pos := "law.go:63", after := #[], guard := none }) rfl (fun K hK => ?_) AllReadyH.nil
      (refine step_zero rfl rfl zpg_run ?_; obtain ⟨VZx8, hw⟩ : ∃ q, WR.alloc (.cells #[.int .i64 0, .int .i64 0, .int .u32 0, .string ⟨#[]⟩, .slice none 0 0] 36) = q := ⟨_, rfl⟩; rw [hw]; have hb : Below WR.heap.size WR VZx8 := (by rw [← hw]; exact (Below.refl _ _).alloc (Nat.le_refl _) _); (try have HZB := Lib.hid (Blk.below HZB.out hb (Blk.lt HZB.out))); (try have HMK := Lib.hid (HMK.out.later hb)); have HZB : Hid (Blk VZx8 WR.heap.size #[.int .i64 0, .int .i64 0, .int .u32 0, .string ⟨#[]⟩, .slice none 0 0] 36) := Lib.hid (by rw [← hw]; exact Blk.new _ _ _); have HZV := Lib.hid (show WR.heap.size ≤ WR.heap.size ∧ WR.heap.size < VZx8.heap.size from ⟨hvWR.size, by rw [← hw]; simp⟩); have hvVZx8 := Below.trans hvWR (hb.mono hvWR.size); clear hb hw; skip)
      refine hK.out _ _ ?_ (fun hHeld => ?_)
      · (try dsimp only)
        (first | exact Below.refl _ _ | assumption)
      clear hK K
      (try simp only [Act.put, List.setIfInBounds_toArray, List.set_cons_zero, List.set_cons_succ])
      refine wpAnyH_ready (rs := [1]) (by kernel_rfl) (by simp) ?_
      refine AllReadyH.cons (o := { dst := some 26, op := Go.Op.makeSlice 34 (Go.Operand.const (Go.Value.int Go.IntKind.i64 32)) (Go.Operand.const (Go.Value.int Go.IntKind.i64 32)), type := 34, pos := "law.go:63", after := #[], guard := none }) rfl (fun K hK => ?_) AllReadyH.nil
      (refine step_make rfl (.const (.int .i64 32)) (.const (.int .i64 32)) rfl 32 rfl rfl (by decide) ?_; obtain ⟨VMx8, hw⟩ : ∃ q, VZx8.alloc (.cells (rowC 32 (fun _ => 0)).toArray 5) = q := ⟨_, rfl⟩; rw [hw]; have hb : Below VZx8.heap.size VZx8 VMx8 := (by rw [← hw]; exact (Below.refl _ _).alloc (Nat.le_refl _) _); (try have HZB := Lib.hid (Blk.below HZB.out hb (Blk.lt HZB.out))); (try have HMK := Lib.hid (HMK.out.later hb)); have HMK : Hid (Bytes VMx8 (some ⟨VZx8.heap.size, 0, none⟩) 32 (fun _ => 0)) := Lib.hid (by rw [← hw]; exact zrow_bytes _ _); have HMH := Lib.hid (show VZx8.heap.size < VMx8.heap.size by rw [← hw]; simp); have HMR := Lib.hid (show WR.heap.size ≤ VZx8.heap.size from hvVZx8.size); have hvVMx8 := Below.trans hvVZx8 (hb.mono hvVZx8.size); clear hb hw; skip)
      refine hK.out _ _ ?_ (fun hHeld => ?_)
      · (try dsimp only)
        (first | exact Below.refl _ _ | assumption)
      clear hK K
      (try simp only [Act.put, List.setIfInBounds_toArray, List.set_cons_zero, List.set_cons_succ])
      refine wpAnyH_take (i := 2) (oi := { dst := some 27, op := Go.Op.build 42 #[(0, Go.Operand.const (Go.Value.int Go.IntKind.u8 2)), (1, Go.Operand.const (Go.Value.int Go.IntKind.u32 1)), (2, Go.Operand.tmp 26)], type := 42, pos := "law.go:63", after := #[{ on := 1, ground := Go.Ground.data }], guard := none }) (v := ?_) rfl (by kernel_rfl) (by kernel_rfl) (by kernel_rfl) (fun _ _ _ h => h) (Or.inl ⟨by rfl, ?_⟩) (by assumption) ?_
      rotate_left
      · intro wS hSw
        (try dsimp only at hSw)
        go_simp
        (try with_reducible rfl)
      (try simp only [Act.put, List.setIfInBounds_toArray, List.set_cons_zero, List.set_cons_succ])
      refine wpAnyH_ready (rs := [3]) (by kernel_rfl) (by simp) ?_
      refine AllReadyH.cons (o := { dst := some 28, op := Go.Op.call { callee := Go.Callee.value (Go.Operand.func 9), args := #[Go.Operand.tmp 25, Go.Operand.const (Go.Value.string { data := #[120] }), Go.Operand.tmp 27], argTypes := #[36, 9, 42] }, type := 39, pos := "law.go:63", after := #[{ on := 0, ground := Go.Ground.data }, { on := 2, ground := Go.Ground.data }], guard := none }) rfl (fun K hK => ?_) AllReadyH.nil
      go_simp
      (refine (HSU.out VMx8 hvVMx8 (WR.heap.size) (Blk.lt HZB.out) (VZx8.heap.size) HMR.out (by have h1 := HZV.out; have h2 := HMH.out; have h3 := HMR.out; omega) HMK.out).mono ?_; rintro e VSx8 ⟨rfl, hrs, hb⟩; (try have HZB := Lib.hid (Blk.below HZB.out hb (Blk.lt HZB.out))); (try have HMK := Lib.hid (HMK.out.later hb)); have HRS := Lib.hid hrs; have hvVSx8 := Below.trans hvVMx8 (hb.mono hvVMx8.size); clear hb hrs; skip)
      (try go_wp2_with fail)
      refine hK.out _ _ ?_ (fun hHeld => ?_)
      · (try dsimp only)
        (first | exact Below.refl _ _ | assumption)
      clear hK K
      (try simp only [Act.put, List.setIfInBounds_toArray, List.set_cons_zero, List.set_cons_succ])
      refine wpAnyH_take (i := 4) (oi := { dst := some 24, op := Go.Op.move (Go.Operand.tmp 28), type := 39, pos := "law.go:63", after := #[{ on := 3, ground := Go.Ground.data }], guard := none }) (v := ?_) rfl (by kernel_rfl) (by kernel_rfl) (by kernel_rfl) (fun _ _ _ h => h) (Or.inl ⟨by rfl, ?_⟩) (by assumption) ?_
      rotate_left
      · intro wS hSw
        (try dsimp only at hSw)
        go_simp
        (try with_reducible rfl)
      (try simp only [Act.put, List.setIfInBounds_toArray, List.set_cons_zero, List.set_cons_succ])
      refine wpAnyH_take (i := 5) (oi := { dst := some 29, op := Go.Op.extract (Go.Operand.tmp 24) 0, type := 36, pos := "law.go:63", after := #[{ on := 4, ground := Go.Ground.data }], guard := none }) (v := ?_) rfl (by kernel_rfl) (by kernel_rfl) (by kernel_rfl) (fun _ _ _ h => h) (Or.inl ⟨by rfl, ?_⟩) (by assumption) ?_
      rotate_left
      · intro wS hSw
        (try dsimp only at hSw)
        go_simp
        (try with_reducible rfl)
      (try simp only [Act.put, List.setIfInBounds_toArray, List.set_cons_zero, List.set_cons_succ])
      refine wpAnyH_take (i := 6) (oi := { dst := some 30, op := Go.Op.extract (Go.Operand.tmp 24) 1, type := 4, pos := "law.go:63", after := #[{ on := 4, ground := Go.Ground.data }, { on := 9, ground := Go.Ground.gcOnly Go.Departure.lateStores }], guard := none }) (v := ?_) rfl (by kernel_rfl) (by kernel_rfl) (by kernel_rfl) (fun _ _ _ h => h) (Or.inl ⟨by rfl, ?_⟩) (by assumption) ?_
      rotate_left
      · intro wS hSw
        (try dsimp only at hSw)
        go_simp
        (try with_reducible rfl)
      (try simp only [Act.put, List.setIfInBounds_toArray, List.set_cons_zero, List.set_cons_succ])
      refine wpAnyH_take (i := 7) (oi := { dst := some 31, op := Go.Op.extract (Go.Operand.tmp 24) 2, type := 31, pos := "law.go:63", after := #[{ on := 4, ground := Go.Ground.data }, { on := 10, ground := Go.Ground.gcOnly Go.Departure.lateStores }], guard := none }) (v := ?_) rfl (by kernel_rfl) (by kernel_rfl) (by kernel_rfl) (fun _ _ _ h => h) (Or.inl ⟨by rfl, ?_⟩) (by assumption) ?_
      rotate_left
      · intro wS hSw
        (try dsimp only at hSw)
        go_simp
        (try with_reducible rfl)
      (try simp only [Act.put, List.setIfInBounds_toArray, List.set_cons_zero, List.set_cons_succ])
      refine wpAnyH_ready (rs := [9]) (by kernel_rfl) (by simp) ?_
      refine AllReadyH.cons (o := { dst := none, op := Go.Op.store 36 (Go.Operand.tmp 6) (Go.Operand.tmp 29), type := 0, pos := "law.go:63", after := #[{ on := 8, ground := Go.Ground.data }, { on := 5, ground := Go.Ground.data }, { on := 3, ground := Go.Ground.chain }, { on := 0, ground := Go.Ground.phase }, { on := 1, ground := Go.Ground.phase }, { on := 2, ground := Go.Ground.phase }, { on := 3, ground := Go.Ground.phase }, { on := 4, ground := Go.Ground.phase }, { on := 5, ground := Go.Ground.phase }, { on := 6, ground := Go.Ground.textOnly Go.Departure.lateStores }, { on := 7, ground := Go.Ground.textOnly Go.Departure.lateStores }, { on := 8, ground := Go.Ground.phase }], guard := none }) rfl (fun K hK => ?_) AllReadyH.nil
      (refine step_storeM rfl 36 (.tmp 6) (.tmp 29) rfl (WR.heap.size) 0 #[.int .i64 0, .int .i64 0, .int .u32 0, .string ⟨#[]⟩, .slice none 0 0] rfl rfl (HZB.out.there (n := 5) (Nat.le_refl 5)) info_pg (one_pg _ _ _ _ _ _ _) ?_; have HO9 : Hid (Own (WR.heap.size) VSx8 _) := Lib.hid (Own.setCells #[.int .i64 0, .int .i64 0, .int .u32 0, .string ⟨#[]⟩, .slice none 0 0].toList 0 VSx8); have HV9 := Lib.hid (hvVSx8.trans (HO9.out.below HZV.out.1 hvVSx8.size)); have hv9 := HV9.out; have HB9 : Hid (Blk (VSx8.setCells (WR.heap.size) 0 [.int .i64 0, .int .i64 0, .int .u32 0, .string ⟨#[]⟩, .slice none 0 0]) (WR.heap.size) #[.int .i64 0, .int .i64 0, .int .u32 0, .string ⟨#[]⟩, .slice none 0 0] 36) := Lib.hid (HZB.out.whole5 rfl _ _ _ _ _); skip)
      refine hK.out _ _ ?_ (fun hHeld => ?_)
      · (try dsimp only)
        (first | exact Below.refl _ _ | assumption)
      clear hK K
      (try simp only [Act.put, List.setIfInBounds_toArray, List.set_cons_zero, List.set_cons_succ])
      refine wpAnyH_take (i := 10) (oi := { dst := some 7, op := Go.Op.assign (Go.Operand.tmp 30), type := 4, pos := "law.go:63", after := #[{ on := 6, ground := Go.Ground.data }, { on := 9, ground := Go.Ground.chain }, { on := 0, ground := Go.Ground.phase }, { on := 1, ground := Go.Ground.phase }, { on := 2, ground := Go.Ground.phase }, { on := 3, ground := Go.Ground.phase }, { on := 4, ground := Go.Ground.phase }, { on := 5, ground := Go.Ground.phase }, { on := 6, ground := Go.Ground.phase }, { on := 7, ground := Go.Ground.textOnly Go.Departure.lateStores }, { on := 8, ground := Go.Ground.phase }, { on := 9, ground := Go.Ground.phase }], guard := none }) (v := ?_) rfl (by kernel_rfl) (by kernel_rfl) (by kernel_rfl) (fun _ _ _ h => h) (Or.inl ⟨by rfl, ?_⟩) (by assumption) ?_
      rotate_left
      · intro wS hSw
        (try dsimp only at hSw)
        go_simp
        (try with_reducible rfl)
      (try simp only [Act.put, List.setIfInBounds_toArray, List.set_cons_zero, List.set_cons_succ])
      refine wpAnyH_take (i := 11) (oi := { dst := some 8, op := Go.Op.assign (Go.Operand.tmp 31), type := 31, pos := "law.go:63", after := #[{ on := 7, ground := Go.Ground.data }, { on := 10, ground := Go.Ground.chain }, { on := 0, ground := Go.Ground.phase }, { on := 1, ground := Go.Ground.phase }, { on := 2, ground := Go.Ground.phase }, { on := 3, ground := Go.Ground.phase }, { on := 4, ground := Go.Ground.phase }, { on := 5, ground := Go.Ground.phase }, { on := 6, ground := Go.Ground.phase }, { on := 7, ground := Go.Ground.phase }, { on := 8, ground := Go.Ground.phase }, { on := 9, ground := Go.Ground.phase }, { on := 10, ground := Go.Ground.phase }], guard := none }) (v := ?_) rfl (by kernel_rfl) (by kernel_rfl) (by kernel_rfl) (fun _ _ _ h => h) (Or.inl ⟨by rfl, ?_⟩) (by assumption) ?_
      rotate_left
      · intro wS hSw
        (try dsimp only at hSw)
        go_simp
        (try with_reducible rfl)
      (try simp only [Act.put, List.setIfInBounds_toArray, List.set_cons_zero, List.set_cons_succ])
      refine wpAnyH_done (by kernel_rfl) ?_ _
      go_wp2_with fail
      go_meet
      exact ⟨_, rfl, rfl, rfl, HV9.out⟩
    case rest =>
      obtain ⟨b6, rfl, rfl, rfl, hb6⟩ := hcut
      generalize wc = w5 at *
      have hq5 := Blk.below HQD.out hb6 HB4.out.1
      have hbd := (Below.refl w5.heap.size w5).drew
      have HQ5 : Hid (Blk w5.drew b #[.int .i64 2, .int .i64 3, .int .u32 1, .string ⟨#[120]⟩, .slice o 1 c] 36) := Lib.hid (Blk.below hq5 hbd (Blk.lt hq5))
      have HWB5 : Hid (Below w.heap.size w w5.drew) := Lib.hid ((HWB4.out.trans (hb6.mono HWB4.out.size)).trans (hbd.mono (HWB4.out.trans (hb6.mono HWB4.out.size)).size))
      have hs5 := (HSD.out.later hb6).later hbd
      have HS5 := Lib.hid (hs5.fresh (Nat.le_refl _))
      have HSE : Hid (∀ A, TabIn A w5.drew.heap.size → Below w5.drew.heap.size w5.drew A → Calls Tryd.prog 13 #[.pointer (some ⟨w5.drew.heap.size, 0, none⟩), .agg #[.int .i64 2, .int .i64 3, .int .u32 1, .string ⟨#[120]⟩, .slice o 1 c]] A fun e w' => e = .returned (.tuple #[.slice none 0 0, .iface 83 (.int .i64 2)]) ∧ Left w5.drew.heap.size A w') := Lib.hid fun A hT hA => by
        refine (secret_any _ 2 3 1 1 c 2 ⟨#[120]⟩ o _ A hT (HS5.out.later hA) (fun i hi => by
          obtain rfl : i = 0 := by omega
          exact (by decide : (2 : Nat) < 256)) (by decide) HC.out.1 HC.out.2 (by decide) (.inr (.inl ⟨rfl, HMY.out, by decide⟩))).mono ?_
        rintro e w' (⟨h0, _⟩ | ⟨_, he, hL⟩)
        · cases h0
        · exact ⟨he, hL⟩
      have HBT : Hid (b ≠ w5.drew.heap.size) := Lib.hid (Nat.ne_of_lt (Blk.lt HQ5.out))
      clear hq5 hbd hs5 hb6 HSD HQD HSU
      go_upto_region 4 with fail
      refine wp_region_held_drew (S := (Own w5.drew.heap.size w5.drew)) (by kernel_rfl) ?_ (fun hHeld => ?_)
      · (try dsimp only)
        (first | exact Own.refl _ _ | assumption)
      generalize w5.drew = WR at *
      refine wpAnyH_take (i := 1) (oi := { dst := some 34, op := Go.Op.load 36 (Go.Operand.tmp 3), type := 36, pos := "law.go:64", after := #[], guard := none }) (v := ?_) rfl (by kernel_rfl) (by kernel_rfl) (by kernel_rfl) (fun _ _ _ h => h) (Or.inl ⟨by rfl, ?_⟩) (by assumption) ?_
      rotate_left
      · intro wS hSw
        (refine exec_loadM (x := .tmp 3) (cs := [.int .i64 2, .int .i64 3, .int .u32 1, .string ⟨#[120]⟩, .slice o 1 c]) ?_ ?_ (range5 (hSw.blk HQ5.out HBT.out)) Tryd.underlying36 rfl info_pg <;> rfl)
      (try simp only [Act.put, List.setIfInBounds_toArray, List.set_cons_zero, List.set_cons_succ])
      refine wpAnyH_ready (rs := [0]) (by kernel_rfl) (by simp) ?_
      refine AllReadyH.cons (o := { dst := some 33, op := Go.Op.call { callee := Go.Callee.value (Go.Operand.func 6), args := #[], argTypes := #[] }, type := 27, pos := "law.go:64", after := #[], guard := none }) rfl (fun K hK => ?_) AllReadyH.nil
      go_simp
      (refine (gfnew_any WR).mono ?_; rintro e VN ⟨rfl, hT, hbn⟩; have HT := Lib.hid hT; have hoVN := Own.of_below (b := WR.heap.size) hbn; have hbVN := hbn; clear hT; skip)
      (try go_wp2_with fail)
      refine hK.out _ _ ?_ (fun hHeld => ?_)
      · (try dsimp only)
        (first | exact Own.refl _ _ | assumption)
      clear hK K
      (try simp only [Act.put, List.setIfInBounds_toArray, List.set_cons_zero, List.set_cons_succ])
      refine wpAnyH_ready (rs := [2]) (by kernel_rfl) (by simp) ?_
      refine AllReadyH.cons (o := { dst := some 35, op := Go.Op.call { callee := Go.Callee.value (Go.Operand.func 13), args := #[Go.Operand.tmp 33, Go.Operand.tmp 34], argTypes := #[27, 36] }, type := 48, pos := "law.go:64", after := #[{ on := 0, ground := Go.Ground.data }, { on := 1, ground := Go.Ground.data }, { on := 0, ground := Go.Ground.chain }], guard := none }) rfl (fun K hK => ?_) AllReadyH.nil
      go_simp
      (refine (HSE.out VN HT.out hbVN).mono ?_; rintro e VL ⟨rfl, hL⟩; have hoVL := hoVN.trans hL.2; have HOL := Lib.hid hoVL; clear hL; skip)
      (try go_wp2_with fail)
      refine hK.out _ _ ?_ (fun hHeld => ?_)
      · (try dsimp only)
        (first | exact Own.refl _ _ | assumption)
      clear hK K
      (try simp only [Act.put, List.setIfInBounds_toArray, List.set_cons_zero, List.set_cons_succ])
      refine wpAnyH_take (i := 3) (oi := { dst := some 32, op := Go.Op.move (Go.Operand.tmp 35), type := 48, pos := "law.go:64", after := #[{ on := 2, ground := Go.Ground.data }], guard := none }) (v := ?_) rfl (by kernel_rfl) (by kernel_rfl) (by kernel_rfl) (fun _ _ _ h => h) (Or.inl ⟨by rfl, ?_⟩) (by assumption) ?_
      rotate_left
      · intro wS hSw
        (try dsimp only at hSw)
        go_simp
        (try with_reducible rfl)
      (try simp only [Act.put, List.setIfInBounds_toArray, List.set_cons_zero, List.set_cons_succ])
      refine wpAnyH_take (i := 4) (oi := { dst := some 36, op := Go.Op.extract (Go.Operand.tmp 32) 0, type := 34, pos := "law.go:64", after := #[{ on := 3, ground := Go.Ground.data }], guard := none }) (v := ?_) rfl (by kernel_rfl) (by kernel_rfl) (by kernel_rfl) (fun _ _ _ h => h) (Or.inl ⟨by rfl, ?_⟩) (by assumption) ?_
      rotate_left
      · intro wS hSw
        (try dsimp only at hSw)
        go_simp
        (try with_reducible rfl)
      (try simp only [Act.put, List.setIfInBounds_toArray, List.set_cons_zero, List.set_cons_succ])
      refine wpAnyH_take (i := 5) (oi := { dst := some 37, op := Go.Op.extract (Go.Operand.tmp 32) 1, type := 31, pos := "law.go:64", after := #[{ on := 3, ground := Go.Ground.data }, { on := 6, ground := Go.Ground.gcOnly Go.Departure.lateStores }], guard := none }) (v := ?_) rfl (by kernel_rfl) (by kernel_rfl) (by kernel_rfl) (fun _ _ _ h => h) (Or.inl ⟨by rfl, ?_⟩) (by assumption) ?_
      rotate_left
      · intro wS hSw
        (try dsimp only at hSw)
        go_simp
        (try with_reducible rfl)
      (try simp only [Act.put, List.setIfInBounds_toArray, List.set_cons_zero, List.set_cons_succ])
      refine wpAnyH_take (i := 6) (oi := { dst := some 9, op := Go.Op.assign (Go.Operand.tmp 36), type := 34, pos := "law.go:64", after := #[{ on := 4, ground := Go.Ground.data }, { on := 2, ground := Go.Ground.chain }, { on := 0, ground := Go.Ground.phase }, { on := 1, ground := Go.Ground.phase }, { on := 2, ground := Go.Ground.phase }, { on := 3, ground := Go.Ground.phase }, { on := 4, ground := Go.Ground.phase }, { on := 5, ground := Go.Ground.textOnly Go.Departure.lateStores }], guard := none }) (v := ?_) rfl (by kernel_rfl) (by kernel_rfl) (by kernel_rfl) (fun _ _ _ h => h) (Or.inl ⟨by rfl, ?_⟩) (by assumption) ?_
      rotate_left
      · intro wS hSw
        (try dsimp only at hSw)
        go_simp
        (try with_reducible rfl)
      (try simp only [Act.put, List.setIfInBounds_toArray, List.set_cons_zero, List.set_cons_succ])
      refine wpAnyH_take (i := 7) (oi := { dst := some 10, op := Go.Op.assign (Go.Operand.tmp 37), type := 31, pos := "law.go:64", after := #[{ on := 5, ground := Go.Ground.data }, { on := 6, ground := Go.Ground.chain }, { on := 0, ground := Go.Ground.phase }, { on := 1, ground := Go.Ground.phase }, { on := 2, ground := Go.Ground.phase }, { on := 3, ground := Go.Ground.phase }, { on := 4, ground := Go.Ground.phase }, { on := 5, ground := Go.Ground.phase }, { on := 6, ground := Go.Ground.phase }], guard := none }) (v := ?_) rfl (by kernel_rfl) (by kernel_rfl) (by kernel_rfl) (fun _ _ _ h => h) (Or.inl ⟨by rfl, ?_⟩) (by assumption) ?_
      rotate_left
      · intro wS hSw
        (try dsimp only at hSw)
        go_simp
        (try with_reducible rfl)
      (try simp only [Act.put, List.setIfInBounds_toArray, List.set_cons_zero, List.set_cons_succ])
      refine wpAnyH_done (by kernel_rfl) ?_ _
      have hbl := HWB5.out.trans (HOL.out.below HWB5.out.size HWB5.out.size)
      have HBL := Lib.hid hbl
      have hql := HOL.out.blk HQ5.out HBT.out
      have HQL := Lib.hid hql
      have n4 : VL.cell? ⟨b, 4, none⟩ = some (.slice o 1 c) := by rw [Blk.cell hql]; rfl
      clear hbl hql hoVN hoVL hbVN
      go_wp2_with fail
      refine (num_err03 12 VL (HG.out VL HBL.out)).mono ?_
      rintro e X1 ⟨rfl, hb⟩
      have HBX := Lib.hid (HBL.out.trans (hb.mono HBL.out.size))
      have HQX := Lib.hid (Blk.below HQL.out hb (Blk.lt HQL.out))
      clear hb n4
      go_wp2_with fail
      refine (num_err03 2 X1 (HG.out X1 HBX.out)).mono ?_
      rintro e X2 ⟨rfl, hb⟩
      have HBY := Lib.hid (HBX.out.trans (hb.mono HBX.out.size))
      have HQY := Lib.hid (Blk.below HQX.out hb (Blk.lt HQX.out))
      have HRY := Lib.hid (range5 HQY.out)
      clear hb
      go_wp2_with (first | (refine wpList_valueG (by rfl) (exec_loadM (x := .tmp 3) (cs := [.int .i64 2, .int .i64 3, .int .u32 1, .string ⟨#[120]⟩, .slice o 1 c]) rfl rfl HRY.out Tryd.underlying36 rfl info_pg) ?_))
      refine (reset_any 2 3 1 1 c ⟨#[120]⟩ o X2).mono ?_
      rintro e X3 ⟨rfl, hb⟩
      have HBZ := Lib.hid (HBY.out.trans (hb.mono HBY.out.size))
      clear hb
      go_wp2_with (first | (refine wpList_valueG (by rfl) (exec_fld (x := .tmp 66) (K := 2) (N := 3) (g := ((1 : Nat) : Int)) (mk := ⟨#[120]⟩) rfl rfl) ?_))
      go_ret
      exact ⟨rfl, HBZ.out⟩
end Go.Proofs.YtgiffaeckhhmpaaDoor
