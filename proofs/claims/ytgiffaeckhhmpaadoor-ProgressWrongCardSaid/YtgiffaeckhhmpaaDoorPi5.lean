/- ProgressWrong: the walk. -/
import Derived.Test.YtgiffaeckhhmpaaDoorPj0
import Derived.Deep.DeepCutAuto
namespace Go.Proofs.YtgiffaeckhhmpaaDoor
set_option linter.unusedVariables false
set_option linter.unusedSimpArgs false
open Go.RowKit
set_option maxRecDepth 100000 in
set_option maxHeartbeats 16000000 in
theorem pwrong_any (f : Nat → Nat) (x y gn : Nat) (w : World) (hg : Handle w) (hf : ∀ i, i < 32 → f i < 256) (hx : x < 256) (hy : y < 256) (hgn : gn < 4294967296) :
    Calls Tryd.prog 3 #[.agg (rowC 32 f).toArray, .agg #[.int .u8 (x : Int), .int .u8 (y : Int)], .int .u32 (gn : Int)] w fun e w' => e = .returned (.bool true) ∧ Below w.heap.size w w' := by
  obtain ⟨F, hF⟩ : ∃ C, (rowC 32 f).toArray = C := ⟨_, rfl⟩
  rw [hF]
  obtain ⟨b4, hb4⟩ : ∃ y, w.heap.size + 1 = y := ⟨_, rfl⟩
  obtain ⟨w0, hw0⟩ : ∃ q, (w.alloc (.cells F 22)).alloc (.cells #[.int .u8 (x : Int), .int .u8 (y : Int)] 23) = q := ⟨_, rfl⟩
  have hb0 : Below w.heap.size w w0 := by rw [← hw0]; exact ((Below.refl _ _).alloc (Nat.le_refl _) _).alloc (by simp) _
  have hP : Blk w0 w.heap.size F 22 := by rw [← hw0]; exact (Blk.new _ _ _).alloc _
  have hQ : Blk w0 b4 #[.int .u8 (x : Int), .int .u8 (y : Int)] 23 := by rw [← hw0, ← hb4]; simpa using Blk.new (w.alloc (.cells F 22)) #[.int .u8 (x : Int), .int .u8 (y : Int)] 23
  have q0 : w0.cell? ⟨b4, 0, none⟩ = some (.int .u8 (x : Int)) := by rw [Blk.cell hQ]; rfl
  have q1 : w0.cell? ⟨b4, 1, none⟩ = some (.int .u8 (y : Int)) := by rw [Blk.cell hQ]; rfl
  obtain ⟨Kp, hK⟩ : ∃ q, 2 + x % 4 = q := ⟨_, rfl⟩
  obtain ⟨Np, hN⟩ : ∃ q, Kp + y % 5 = q := ⟨_, rfl⟩
  obtain ⟨k, hk⟩ : ∃ q, Kp = q + 1 := ⟨Kp - 1, by omega⟩
  obtain ⟨M, hM⟩ : ∃ q, 32 * k = q := ⟨_, rfl⟩
  have t1 : IntKind.i64.wrap (x : Int) = (x : Int) := IntWalk.i64_in _ (by omega)
  have t2 : IntKind.i64.wrap (y : Int) = (y : Int) := IntWalk.i64_in _ (by omega)
  obtain ⟨x4, hx4⟩ : ∃ q, x % 4 = q := ⟨_, rfl⟩
  obtain ⟨y5, hy5⟩ : ∃ q, y % 5 = q := ⟨_, rfl⟩
  have t3 : (x : Int).tmod 4 = (x4 : Int) := by rw [Int.tmod_eq_emod_of_nonneg (by omega)]; omega
  have t4 : (y : Int).tmod 5 = (y5 : Int) := by rw [Int.tmod_eq_emod_of_nonneg (by omega)]; omega
  have t5 : (x : Int) % 4 = (x4 : Int) := by omega
  have t6 : (y : Int) % 5 = (y5 : Int) := by omega
  have t7 : (2 : Int) + (x4 : Int) = (Kp : Int) := by omega
  have t8 : (Kp : Int) + (y5 : Int) = (Np : Int) := by omega
  have t9 : IntKind.i64.wrap (Kp : Int) = (Kp : Int) := IntWalk.i64_in _ (by omega)
  have t10 : IntKind.i64.wrap (Np : Int) = (Np : Int) := IntWalk.i64_in _ (by omega)
  have t11 : IntKind.i64.wrap (x4 : Int) = (x4 : Int) := IntWalk.i64_in _ (by omega)
  have t12 : IntKind.i64.wrap (y5 : Int) = (y5 : Int) := IntWalk.i64_in _ (by omega)
  have HKN := Lib.hid (show 2 ≤ Kp ∧ Kp ≤ 5 ∧ Kp ≤ Np ∧ Np ≤ 9 ∧ Kp = k + 1 ∧ M = 32 * k by omega)
  have HMB := Lib.hid (show M < 1000000000000 by omega)
  have HU1 := Lib.hid (show (Kp : Int) - 1 = (k : Int) by omega)
  have HU2 := Lib.hid (show (32 : Int) * (k : Int) = (M : Int) by omega)
  obtain ⟨b7, hb7⟩ : ∃ q, w0.heap.size = q := ⟨_, rfl⟩
  obtain ⟨w1, hw1⟩ : ∃ q, w0.alloc (.cells #[.int .i64 (Kp : Int), .int .i64 0, .int .u32 3] 26) = q := ⟨_, rfl⟩
  have hb1 : Below w0.heap.size w0 w1 := by rw [← hw1]; exact (Below.refl _ _).alloc (Nat.le_refl _) _
  have hL1 : Blk w1 b7 #[.int .i64 (Kp : Int), .int .i64 0, .int .u32 3] 26 := by rw [← hw1, ← hb7]; exact Blk.new _ _ _
  have hQ1 := Blk.below hQ hb1 (Blk.lt hQ)
  have hP1 := Blk.below hP hb1 (Blk.lt hP)
  have q2 : w1.cell? ⟨b4, 1, none⟩ = some (.int .u8 (y : Int)) := by rw [Blk.cell hQ1]; rfl
  have q3 : w1.cell? ⟨b7, 0, none⟩ = some (.int .i64 (Kp : Int)) := by rw [Blk.cell hL1]; rfl
  have q4 : w1.cell? ⟨b7, 1, none⟩ = some (.int .i64 0) := by rw [Blk.cell hL1]; rfl
  have q5 : w1.frozen? ⟨b7, 1, none⟩ = false := Blk.free hL1 1
  obtain ⟨w2, hw2⟩ : ∃ q, w1.setCell ⟨b7, 1, none⟩ (.int .i64 (Np : Int)) = q := ⟨_, rfl⟩
  have hO2 : Own b7 w1 w2 := by rw [← hw2]; exact (Own.refl _ _).set 1 _
  have HPL2 : Hid (Blk w2 b7 #[.int .i64 (Kp : Int), .int .i64 (Np : Int), .int .u32 3] 26) := Lib.hid (by rw [← hw2]; exact hL1.set 1 _)
  have HP2 := Lib.hid (hO2.blk hP1 (by have := Blk.lt hP; omega))
  have HB2 : Hid (Below w.heap.size w w2) := Lib.hid ((hb0.trans (hb1.mono hb0.size)).trans (hO2.below (by have := hb0.size; omega) (Nat.le_trans hb0.size hb1.size)))
  have HW2 := Lib.hid hw2
  have HB7 := Lib.hid (show w.heap.size < b7 ∧ b7 < w2.heap.size by have := Blk.lt hP; have := Blk.lt HPL2.out; omega)
  have HF := Lib.hid hF
  have HFB := Lib.hid hf
  have HG : Hid (∀ A, Below w.heap.size w A → Handle A) := Lib.hid fun A hb => hg.below hb hg.2
  have HGN := Lib.hid hgn
  clear hK hN hx4 hy5 hQ1 hP hQ hL1 hP1 hO2 hb0 hb1 hw2 hf hg hgn hF hk hM hx hy
  go_enter Tryd.func3, Tryd.ntmps3
  go_wp2_with fail
  refine (gfnew_any _).mono ?_
  rw [HW2.out]
  rintro e w3 ⟨rfl, hT3, hb23⟩
  obtain ⟨tb, htb⟩ : ∃ q, w2.heap.size = q := ⟨_, rfl⟩
  have hd3 := (Below.refl w3.heap.size w3).drew
  have HT3 : Hid (TabIn w3.drew tb) := Lib.hid (by rw [← htb]; exact hT3.below hd3)
  have hb2d : Below w2.heap.size w2 w3.drew := hb23.trans (hd3.mono hb23.size)
  have HPL := Lib.hid (Blk.below HPL2.out hb2d (Blk.lt HPL2.out))
  have HPA := Lib.hid (Blk.below HP2.out hb2d (Blk.lt HP2.out))
  have HB3 : Hid (Below w.heap.size w w3.drew) := Lib.hid (HB2.out.trans (hb2d.mono HB2.out.size))
  have HNE : Hid (w.heap.size ≠ tb ∧ b7 ≠ tb ∧ w.heap.size ≤ tb ∧ tb < w3.drew.heap.size ∧ b7 < tb) := Lib.hid (by
    have h1 := HB7.out; have h2 := hT3.lt
    refine ⟨by omega, by omega, by omega, ?_, by omega⟩
    show tb < w3.heap.size
    omega)
  have HSP : Hid (∀ A, Below w3.drew.heap.size w3.drew A → Bytes A (some ⟨w3.drew.heap.size, 0, none⟩) M (fun _ => 0) → Calls Tryd.prog 7 #[.pointer (some ⟨tb, 0, none⟩), .slice (some ⟨w.heap.size, 0, none⟩) 32 32, .agg #[.int .i64 (Kp : Int), .int .i64 (Np : Int), .int .u32 3], .slice (some ⟨w3.drew.heap.size, 0, none⟩) M M] A
      fun e w' => ∃ wA, e = .returned (.tuple #[.slice (some ⟨wA.heap.size, 0, none⟩) Np Np, .nilIface]) ∧ A.heap.size ≤ wA.heap.size ∧ Own tb A wA ∧ SR tb wA Np 32 3 (fun x => shF f (fun _ => 0) k (x + 1)) w') := Lib.hid fun A hA hZ => by
    have hN := HKN.out
    refine split_any tb Kp Np k 3 32 32 M M w.heap.size 0 w3.drew.heap.size 0 f (fun _ => 0) A (HT3.out.below hA) ?_ HNE.out.1 hZ (Nat.ne_of_gt HNE.out.2.2.2.1) hN.2.2.2.2.1 hN.1 hN.2.2.1 (by omega) (by decide) (by decide) hN.2.2.2.2.2 (Nat.le_refl _)
    have h9 := Blk.below HPA.out hA (Blk.lt HPA.out)
    rw [← HF.out] at h9
    exact fun i hi => ⟨HFB.out i hi, w.heap.size, 0, rfl, by rw [Nat.zero_add, Blk.cell h9 i]; simpa using rowC_get f hi⟩
  rw [htb]
  have u1 := HU1.out
  have u2 := HU2.out
  have u3 : IntKind.i64.wrap (k : Int) = (k : Int) := IntWalk.i64_in _ (by have := HKN.out; omega)
  have u4 : IntKind.i64.wrap (M : Int) = (M : Int) := IntWalk.i64_in _ (by have := HMB.out; omega)
  clear htb hd3 hb2d hT3 hb23 hb4 hb7 hw0 hw1 q0 q1 q2 q3 q4 q5 t1 t2 t3 t4 t5 t6 t7 t8 t11 t12
  go_upto_region 4 with fail
  refine wp_region_held_drew (S := (Own tb w3.drew)) (by kernel_rfl) ?_ (fun hHeld => ?_)
  · (try dsimp only)
    (first | exact Own.refl _ _ | assumption)
  generalize w3.drew = WR at *
  refine wpAnyH_take (i := 0) (oi := { dst := some 46, op := Go.Op.move (Go.Operand.tmp 8), type := 27, pos := "law.go:138", after := #[], guard := none }) (v := ?_) rfl (by kernel_rfl) (by kernel_rfl) (by kernel_rfl) (fun _ _ _ h => h) (Or.inl ⟨by rfl, ?_⟩) (by assumption) ?_
  rotate_left
  · intro wS hSw
    (try dsimp only at hSw)
    go_simp
    (try with_reducible rfl)
  (try simp only [Act.put, List.setIfInBounds_toArray, List.set_cons_zero, List.set_cons_succ])
  refine wpAnyH_take (i := 1) (oi := { dst := some 47, op := Go.Op.slice 22 (Go.Operand.tmp 3) none none none, type := 34, pos := "law.go:138", after := #[], guard := none }) (v := ?_) rfl (by kernel_rfl) (by kernel_rfl) (by kernel_rfl) (fun _ _ _ h => h) (Or.inl ⟨by rfl, ?_⟩) (by assumption) ?_
  rotate_left
  · intro wS hSw
    (skip; go_simp; (try with_reducible rfl))
  (try simp only [Act.put, List.setIfInBounds_toArray, List.set_cons_zero, List.set_cons_succ])
  refine wpAnyH_take (i := 2) (oi := { dst := some 48, op := Go.Op.load 26 (Go.Operand.tmp 7), type := 26, pos := "law.go:138", after := #[], guard := none }) (v := ?_) rfl (by kernel_rfl) (by kernel_rfl) (by kernel_rfl) (fun _ _ _ h => h) (Or.inl ⟨by rfl, ?_⟩) (by assumption) ?_
  rotate_left
  · intro wS hSw
    (refine exec_loadM (x := .tmp 7) (cs := [.int .i64 (Kp : Int), .int .i64 (Np : Int), .int .u32 3]) ?_ ?_ (Blk.range0 (C := [.int .i64 (Kp : Int), .int .i64 (Np : Int), .int .u32 3]) (hSw.blk HPL.out HNE.out.2.1)) Tryd.underlying26 rfl info_plan3 <;> rfl)
  (try simp only [Act.put, List.setIfInBounds_toArray, List.set_cons_zero, List.set_cons_succ])
  refine wpAnyH_take (i := 3) (oi := { dst := some 49, op := Go.Op.fieldAddr 26 (Go.Operand.tmp 7) 0, type := 0, pos := "law.go:138", after := #[], guard := none }) (v := ?_) rfl (by kernel_rfl) (by kernel_rfl) (by kernel_rfl) (fun _ _ _ h => h) (Or.inl ⟨by rfl, ?_⟩) (by assumption) ?_
  rotate_left
  · intro wS hSw
    (try dsimp only at hSw)
    go_simp
    (try with_reducible rfl)
  (try simp only [Act.put, List.setIfInBounds_toArray, List.set_cons_zero, List.set_cons_succ])
  refine wpAnyH_take (i := 4) (oi := { dst := some 50, op := Go.Op.load 3 (Go.Operand.tmp 49), type := 3, pos := "law.go:138", after := #[{ on := 3, ground := Go.Ground.data }], guard := none }) (v := ?_) rfl (by kernel_rfl) (by kernel_rfl) (by kernel_rfl) (fun _ _ _ h => h) (Or.inl ⟨by rfl, ?_⟩) (by assumption) ?_
  rotate_left
  · intro wS hSw
    (have c7 : wS.cell? ⟨b7, 0, none⟩ = some (.int .i64 (Kp : Int)) := (by rw [Blk.cell (hSw.blk HPL.out HNE.out.2.1)]; rfl); go_simp; (try with_reducible rfl))
  (try simp only [Act.put, List.setIfInBounds_toArray, List.set_cons_zero, List.set_cons_succ])
  refine wpAnyH_take (i := 5) (oi := { dst := some 51, op := Go.Op.binOp Go.BinOp.sub 3 (Go.Operand.tmp 50) (Go.Operand.const (Go.Value.int Go.IntKind.i64 1)) 3, type := 3, pos := "law.go:138", after := #[{ on := 4, ground := Go.Ground.data }], guard := none }) (v := ?_) rfl (by kernel_rfl) (by kernel_rfl) (by kernel_rfl) (fun _ _ _ h => h) (Or.inl ⟨by rfl, ?_⟩) (by assumption) ?_
  rotate_left
  · intro wS hSw
    (try dsimp only at hSw)
    go_simp
    (try with_reducible rfl)
  (try simp only [Act.put, List.setIfInBounds_toArray, List.set_cons_zero, List.set_cons_succ])
  refine wpAnyH_take (i := 6) (oi := { dst := some 52, op := Go.Op.binOp Go.BinOp.mul 3 (Go.Operand.const (Go.Value.int Go.IntKind.i64 32)) (Go.Operand.tmp 51) 3, type := 3, pos := "law.go:138", after := #[{ on := 5, ground := Go.Ground.data }], guard := none }) (v := ?_) rfl (by kernel_rfl) (by kernel_rfl) (by kernel_rfl) (fun _ _ _ h => h) (Or.inl ⟨by rfl, ?_⟩) (by assumption) ?_
  rotate_left
  · intro wS hSw
    (try dsimp only at hSw)
    go_simp
    (try with_reducible rfl)
  (try simp only [Act.put, List.setIfInBounds_toArray, List.set_cons_zero, List.set_cons_succ])
  refine wpAnyH_ready (rs := [7]) (by kernel_rfl) (by simp) ?_
  refine AllReadyH.cons (o := { dst := some 53, op := Go.Op.makeSlice 34 (Go.Operand.tmp 52) (Go.Operand.tmp 52), type := 34, pos := "law.go:138", after := #[{ on := 6, ground := Go.Ground.data }, { on := 6, ground := Go.Ground.data }], guard := none }) rfl (fun K hK => ?_) AllReadyH.nil
  (refine step_make rfl (.tmp 52) (.tmp 52) rfl M rfl rfl HMB.out ?_; obtain ⟨VM, hw⟩ : ∃ q, WR.alloc (.cells (rowC M (fun _ => 0)).toArray 5) = q := ⟨_, rfl⟩; rw [hw]; have hb : Below WR.heap.size WR VM := (by rw [← hw]; exact (Below.refl _ _).alloc (Nat.le_refl _) _); have HZ : Hid (Bytes VM (some ⟨WR.heap.size, 0, none⟩) M (fun _ => 0)) := Lib.hid (by rw [← hw]; exact zrow_bytes _ _); have hoVM := Own.of_below (b := tb) hb; have HBM := Lib.hid hb; clear hb hw; skip)
  refine hK.out _ _ ?_ (fun hHeld => ?_)
  · (try dsimp only)
    (first | exact Own.refl _ _ | assumption)
  clear hK K
  (try simp only [Act.put, List.setIfInBounds_toArray, List.set_cons_zero, List.set_cons_succ])
  refine wpAnyH_ready (rs := [8]) (by kernel_rfl) (by simp) ?_
  refine AllReadyH.cons (o := { dst := some 54, op := Go.Op.call { callee := Go.Callee.value (Go.Operand.func 7), args := #[Go.Operand.tmp 46, Go.Operand.tmp 47, Go.Operand.tmp 48, Go.Operand.tmp 53], argTypes := #[27, 34, 26, 34] }, type := 32, pos := "law.go:138", after := #[{ on := 0, ground := Go.Ground.data }, { on := 1, ground := Go.Ground.data }, { on := 2, ground := Go.Ground.data }, { on := 7, ground := Go.Ground.data }], guard := none }) rfl (fun K hK => ?_) AllReadyH.nil
  go_simp
  (refine (HSP.out VM HBM.out HZ.out).mono ?_; rintro e VS ⟨wA, rfl, hle, hOA, hR⟩; have HSR := Lib.hid hR; have HOS := Lib.hid (hoVM.trans (hOA.trans hR.own)); have hoVS := HOS.out; clear hle hOA hR; skip)
  (try go_wp2_with fail)
  refine hK.out _ _ ?_ (fun hHeld => ?_)
  · (try dsimp only)
    (first | exact Own.refl _ _ | assumption)
  clear hK K
  (try simp only [Act.put, List.setIfInBounds_toArray, List.set_cons_zero, List.set_cons_succ])
  refine wpAnyH_take (i := 9) (oi := { dst := some 45, op := Go.Op.move (Go.Operand.tmp 54), type := 32, pos := "law.go:138", after := #[{ on := 8, ground := Go.Ground.data }], guard := none }) (v := ?_) rfl (by kernel_rfl) (by kernel_rfl) (by kernel_rfl) (fun _ _ _ h => h) (Or.inl ⟨by rfl, ?_⟩) (by assumption) ?_
  rotate_left
  · intro wS hSw
    (try dsimp only at hSw)
    go_simp
    (try with_reducible rfl)
  (try simp only [Act.put, List.setIfInBounds_toArray, List.set_cons_zero, List.set_cons_succ])
  refine wpAnyH_take (i := 10) (oi := { dst := some 55, op := Go.Op.extract (Go.Operand.tmp 45) 0, type := 29, pos := "law.go:138", after := #[{ on := 9, ground := Go.Ground.data }], guard := none }) (v := ?_) rfl (by kernel_rfl) (by kernel_rfl) (by kernel_rfl) (fun _ _ _ h => h) (Or.inl ⟨by rfl, ?_⟩) (by assumption) ?_
  rotate_left
  · intro wS hSw
    (try dsimp only at hSw)
    go_simp
    (try with_reducible rfl)
  (try simp only [Act.put, List.setIfInBounds_toArray, List.set_cons_zero, List.set_cons_succ])
  refine wpAnyH_take (i := 11) (oi := { dst := some 56, op := Go.Op.extract (Go.Operand.tmp 45) 1, type := 31, pos := "law.go:138", after := #[{ on := 9, ground := Go.Ground.data }, { on := 12, ground := Go.Ground.gcOnly Go.Departure.lateStores }], guard := none }) (v := ?_) rfl (by kernel_rfl) (by kernel_rfl) (by kernel_rfl) (fun _ _ _ h => h) (Or.inl ⟨by rfl, ?_⟩) (by assumption) ?_
  rotate_left
  · intro wS hSw
    (try dsimp only at hSw)
    go_simp
    (try with_reducible rfl)
  (try simp only [Act.put, List.setIfInBounds_toArray, List.set_cons_zero, List.set_cons_succ])
  refine wpAnyH_take (i := 12) (oi := { dst := some 9, op := Go.Op.assign (Go.Operand.tmp 55), type := 29, pos := "law.go:138", after := #[{ on := 10, ground := Go.Ground.data }, { on := 8, ground := Go.Ground.chain }, { on := 0, ground := Go.Ground.phase }, { on := 1, ground := Go.Ground.phase }, { on := 2, ground := Go.Ground.phase }, { on := 3, ground := Go.Ground.phase }, { on := 4, ground := Go.Ground.phase }, { on := 5, ground := Go.Ground.phase }, { on := 6, ground := Go.Ground.phase }, { on := 7, ground := Go.Ground.phase }, { on := 8, ground := Go.Ground.phase }, { on := 9, ground := Go.Ground.phase }, { on := 10, ground := Go.Ground.phase }, { on := 11, ground := Go.Ground.textOnly Go.Departure.lateStores }], guard := none }) (v := ?_) rfl (by kernel_rfl) (by kernel_rfl) (by kernel_rfl) (fun _ _ _ h => h) (Or.inl ⟨by rfl, ?_⟩) (by assumption) ?_
  rotate_left
  · intro wS hSw
    (try dsimp only at hSw)
    go_simp
    (try with_reducible rfl)
  (try simp only [Act.put, List.setIfInBounds_toArray, List.set_cons_zero, List.set_cons_succ])
  refine wpAnyH_take (i := 13) (oi := { dst := some 10, op := Go.Op.assign (Go.Operand.tmp 56), type := 31, pos := "law.go:138", after := #[{ on := 11, ground := Go.Ground.data }, { on := 12, ground := Go.Ground.chain }, { on := 0, ground := Go.Ground.phase }, { on := 1, ground := Go.Ground.phase }, { on := 2, ground := Go.Ground.phase }, { on := 3, ground := Go.Ground.phase }, { on := 4, ground := Go.Ground.phase }, { on := 5, ground := Go.Ground.phase }, { on := 6, ground := Go.Ground.phase }, { on := 7, ground := Go.Ground.phase }, { on := 8, ground := Go.Ground.phase }, { on := 9, ground := Go.Ground.phase }, { on := 10, ground := Go.Ground.phase }, { on := 11, ground := Go.Ground.phase }, { on := 12, ground := Go.Ground.phase }], guard := none }) (v := ?_) rfl (by kernel_rfl) (by kernel_rfl) (by kernel_rfl) (fun _ _ _ h => h) (Or.inl ⟨by rfl, ?_⟩) (by assumption) ?_
  rotate_left
  · intro wS hSw
    (try dsimp only at hSw)
    go_simp
    (try with_reducible rfl)
  (try simp only [Act.put, List.setIfInBounds_toArray, List.set_cons_zero, List.set_cons_succ])
  refine wpAnyH_done (by kernel_rfl) ?_ _
  have hPW : PW w tb b7 k Kp Np f (fun _ => 0) wA VS := ⟨HB3.out.trans (HOS.out.below HNE.out.2.2.1 HB3.out.size), HOS.out.blk HPL.out HNE.out.2.1, HSR.out⟩
  have HPW := Lib.hid hPW
  have HRP := Lib.hid (Blk.range0 (C := [.int .i64 (Kp : Int), .int .i64 (Np : Int), .int .u32 3]) hPW.p)
  have HST : Hid (∀ A, Calls Tryd.prog 8 #[.agg #[.int .i64 (Kp : Int), .int .i64 (Np : Int), .int .u32 3], .string ⟨#[109]⟩] A fun e w' => e = .returned (.tuple #[.agg #[.int .i64 (Kp : Int), .int .i64 (Np : Int), .int .u32 3, .string ⟨#[109]⟩, .slice none 0 0], .nilIface]) ∧ Below A.heap.size A w') := Lib.hid fun A => by
    refine (start_any (Kp : Int) (Np : Int) 3 ⟨#[109]⟩ A (by decide)).mono ?_
    rintro e w' ⟨(⟨he, _⟩ | ⟨_, hm⟩), hb⟩
    · exact ⟨he, hb⟩
    · exact absurd (MayG_0 HKN.out.1 HKN.out.2.2.1 (by have := HKN.out; omega) (fun _ => default)) (hm _)
  clear hPW hoVS hoVM HSP HBM HZ HSR HOS HPL HPA HT3
  go_wp2_with (first | (refine wpList_value rfl (exec_loadM (x := .tmp 7) (cs := [.int .i64 (Kp : Int), .int .i64 (Np : Int), .int .u32 3]) rfl rfl HRP.out Tryd.underlying26 rfl info_plan3) ?_))
  refine (HST.out VS).mono ?_
  rintro e w5 ⟨rfl, hb⟩
  obtain ⟨b11, hqb11⟩ : ∃ y, w5.heap.size = y := ⟨_, rfl⟩
  obtain ⟨wz11, hwz11⟩ : ∃ y, w5.alloc (.cells #[.int .i64 0, .int .i64 0, .int .u32 0, .string ⟨#[]⟩, .slice none 0 0] 36) = y := ⟨_, rfl⟩
  have hbz : Below w5.heap.size w5 wz11 := by rw [← hwz11]; exact (Below.refl _ _).alloc (Nat.le_refl _) _
  have hXz : Blk wz11 b11 #[.int .i64 0, .int .i64 0, .int .u32 0, .string ⟨#[]⟩, .slice none 0 0] 36 := by rw [← hwz11, ← hqb11]; exact Blk.new _ _ _
  have HTZb11 : Hid (wz11.there b11 0 5) := Lib.hid (hXz.there (by decide))
  obtain ⟨w6, hw5⟩ : ∃ y, wz11.setCells b11 0 [.int .i64 (Kp : Int), .int .i64 (Np : Int), .int .u32 3, .string ⟨#[109]⟩, .slice none 0 0] = y := ⟨_, rfl⟩
  have hOz : Own b11 wz11 w6 := by rw [← hw5]; exact Own.setCells _ _ _
  have HBw6 : Hid (Below w5.heap.size w5 w6) := Lib.hid (hbz.trans (hOz.below (by omega) hbz.size))
  have HNw6 : Hid (Blk w6 b11 #[.int .i64 (Kp : Int), .int .i64 (Np : Int), .int .u32 3, .string ⟨#[109]⟩, .slice none 0 0] 36) := Lib.hid (by rw [← hw5]; exact hXz.whole5 rfl _ _ _ _ _)
  have HWw6 := Lib.hid hw5
  clear hbz hXz hOz hw5
  have HPW6 := Lib.hid ((HPW.out.later hb).later HBw6.out)
  have n7 : w6.cell? ⟨b7, 1, none⟩ = some (.int .i64 (Np : Int)) := by rw [Blk.cell HPW6.out.p]; rfl
  clear hb HRP
  go_upto_region 8 with (first | (refine wpList_zero rfl rfl zpg_run ?_; rw [hwz11, hqb11]; (try simp only [Act.put, List.setIfInBounds_toArray, List.set_cons_zero, List.set_cons_succ])) | (refine wpList_store_mid rfl 36 (.tmp 11) (.tmp 60) rfl b11 0 #[.int .i64 (Kp : Int), .int .i64 (Np : Int), .int .u32 3, .string ⟨#[109]⟩, .slice none 0 0] rfl rfl HTZb11.out info_pg (one_pg _ _ _ _ _ _ _) ?_; rw [HWw6.out]))
  have hd := (Below.refl w6.heap.size w6).drew
  have HPWD := Lib.hid (HPW6.out.later hd)
  have HXD := Lib.hid (Blk.below HNw6.out hd (Blk.lt HNw6.out))
  have HSU : Hid (∀ A, Below w6.drew.heap.size w6.drew A → ∀ t, t < A.heap.size → t ≠ wA.heap.size + 1 → Calls Tryd.prog 9 #[.agg #[.int .i64 (Kp : Int), .int .i64 (Np : Int), .int .u32 3, .string ⟨#[109]⟩, .slice none 0 0], .string ⟨#[109]⟩, .agg #[.int .u8 1, .int .u32 3, .slice (some ⟨wA.heap.size + 1, 0, none⟩) 32 32]] A fun e w' => ∃ o c, e = .returned (.tuple #[.agg #[.int .i64 (Kp : Int), .int .i64 (Np : Int), .int .u32 3, .string ⟨#[109]⟩, .slice o 1 c], .bool false, .nilIface]) ∧ 1 ≤ c ∧ c ≤ maxLen ∧ Shs t w' o 1 (S1of k f (fun _ => 0)) ∧ Below A.heap.size A w') := Lib.hid fun A hA t ht htn => submit_first (HPWD.out.later hA) HKN.out.1 HKN.out.2.2.1 (by have := HKN.out; omega) t ht htn
  have HB71 : Hid (b7 ≠ wA.heap.size + 1) := Lib.hid (by have h1 := HPW.out.s.low; have h2 := HNE.out; have h3 := HB7.out; omega)
  have HZN : Hid (w6.drew.heap.size ≠ wA.heap.size + 1) := Lib.hid (by have h1 := HPWD.out.s.big; have := HKN.out; omega)
  have HI2 := Lib.hid (show (0 : Int) < (Np : Int) ∧ (1 : Int) < (Np : Int) ∧ 0 < Np ∧ 1 < Np by have := HKN.out; omega)
  have i0 := HI2.out.1
  have i1 := HI2.out.2.1
  have j0 := HI2.out.2.2.1
  have j1 := HI2.out.2.2.2
  clear hd n7
  go_cut [13, 14, 15] from 30 (fun s13 s14 s15 wx => ∃ (b : Nat) (o : Option Addr) (c : Nat), s13 = .pointer (some ⟨b, 0, none⟩) ∧ s14 = .bool false ∧ s15 = .nilIface ∧ Blk wx b #[.int .i64 (Kp : Int), .int .i64 (Np : Int), .int .u32 3, .string ⟨#[109]⟩, .slice o 1 c] 36 ∧ Shs b wx o 1 (S1of k f (fun _ => 0)) ∧ 1 ≤ c ∧ c ≤ maxLen ∧ PW w tb b7 k Kp Np f (fun _ => 0) wA wx ∧ wA.heap.size + 1 + Np ≤ b ∧ w.heap.size ≤ b ∧ b7 < b)
  case first =>
    have hvW8 := Below.refl w6.drew.heap.size w6.drew
    refine wp_region_held_drew (S := (Below w6.drew.heap.size w6.drew)) (by kernel_rfl) ?_ (fun hHeld => ?_)
    · (try dsimp only)
      (first | exact Below.refl _ _ | assumption)
    generalize w6.drew = W8 at *
    refine wpAnyH_take (i := 0) (oi := { dst := some 76, op := Go.Op.load 36 (Go.Operand.tmp 11), type := 36, pos := "law.go:143", after := #[], guard := none }) (v := ?_) rfl (by kernel_rfl) (by kernel_rfl) (by kernel_rfl) (fun _ _ _ h => h) (Or.inl ⟨by rfl, ?_⟩) (by assumption) ?_
    rotate_left
    · intro wS hSw
      (refine exec_loadM (x := .tmp 11) (cs := [.int .i64 (Kp : Int), .int .i64 (Np : Int), .int .u32 3, .string ⟨#[109]⟩, .slice none 0 0]) ?_ ?_ (range5 (Blk.below HXD.out hSw (Blk.lt HXD.out))) Tryd.underlying36 rfl info_pg <;> rfl)
    (try simp only [Act.put, List.setIfInBounds_toArray, List.set_cons_zero, List.set_cons_succ])
    refine wpAnyH_take (i := 1) (oi := { dst := some 77, op := Go.Op.move (Go.Operand.tmp 9), type := 29, pos := "law.go:143", after := #[], guard := none }) (v := ?_) rfl (by kernel_rfl) (by kernel_rfl) (by kernel_rfl) (fun _ _ _ h => h) (Or.inl ⟨by rfl, ?_⟩) (by assumption) ?_
    rotate_left
    · intro wS hSw
      (try dsimp only at hSw)
      go_simp
      (try with_reducible rfl)
    (try simp only [Act.put, List.setIfInBounds_toArray, List.set_cons_zero, List.set_cons_succ])
    refine wpAnyH_take (i := 2) (oi := { dst := some 78, op := Go.Op.indexAddr 29 (Go.Operand.tmp 77) (Go.Operand.const (Go.Value.int Go.IntKind.i64 0)), type := 0, pos := "law.go:143", after := #[{ on := 1, ground := Go.Ground.data }], guard := none }) (v := ?_) rfl (by kernel_rfl) (by kernel_rfl) (by kernel_rfl) (fun _ _ _ h => h) (Or.inl ⟨by rfl, ?_⟩) (by assumption) ?_
    rotate_left
    · intro wS hSw
      (try dsimp only at hSw)
      go_simp
      (try with_reducible rfl)
    (try simp only [Act.put, List.setIfInBounds_toArray, List.set_cons_zero, List.set_cons_succ])
    refine wpAnyH_take (i := 3) (oi := { dst := some 79, op := Go.Op.load 42 (Go.Operand.tmp 78), type := 42, pos := "law.go:143", after := #[{ on := 2, ground := Go.Ground.data }], guard := none }) (v := ?_) rfl (by kernel_rfl) (by kernel_rfl) (by kernel_rfl) (fun _ _ _ h => h) (Or.inl ⟨by rfl, ?_⟩) (by assumption) ?_
    rotate_left
    · intro wS hSw
      (refine exec_loadM (x := .tmp 78) (cs := [.int .u8 1, .int .u32 3, .slice (some ⟨wA.heap.size + 1, 0, none⟩) 32 32]) ?_ ?_ ((HPWD.out.later hSw).r0 HI2.out.2.2.2) Tryd.underlying42 rfl info_share3 <;> rfl)
    (try simp only [Act.put, List.setIfInBounds_toArray, List.set_cons_zero, List.set_cons_succ])
    refine wpAnyH_ready (rs := [4, 9]) (by kernel_rfl) (by simp) ?_
    refine AllReadyH.cons (o := { dst := some 80, op := Go.Op.call { callee := Go.Callee.value (Go.Operand.func 9), args := #[Go.Operand.tmp 76, Go.Operand.const (Go.Value.string { data := #[109] }), Go.Operand.tmp 79], argTypes := #[36, 9, 42] }, type := 39, pos := "law.go:143", after := #[{ on := 0, ground := Go.Ground.data }, { on := 3, ground := Go.Ground.data }], guard := none }) rfl (fun K hK => ?_) ?_
    · skip
      go_simp
      (refine (HSU.out W8 hvW8 (b7) (Nat.lt_of_lt_of_le (Blk.lt HPWD.out.p) hvW8.size) HB71.out).mono ?_; rintro e VSx4W8 ⟨o, c, rfl, hc1, hc2, hrs, hb⟩; (try have HZB := Lib.hid (Blk.below HZB.out hb (Blk.lt HZB.out))); have HRS := Lib.hid hrs; have hvVSx4W8 := Below.trans hvW8 (hb.mono hvW8.size); clear hb hrs; skip)
      (try go_wp2_with fail)
      refine hK.out _ _ ?_ (fun hHeld => ?_)
      · (try dsimp only)
        (first | exact Below.refl _ _ | assumption)
      clear hK K
      (try simp only [Act.put, List.setIfInBounds_toArray, List.set_cons_zero, List.set_cons_succ])
      refine wpAnyH_take (i := 5) (oi := { dst := some 75, op := Go.Op.move (Go.Operand.tmp 80), type := 39, pos := "law.go:143", after := #[{ on := 4, ground := Go.Ground.data }], guard := none }) (v := ?_) rfl (by kernel_rfl) (by kernel_rfl) (by kernel_rfl) (fun _ _ _ h => h) (Or.inl ⟨by rfl, ?_⟩) (by assumption) ?_
      rotate_left
      · intro wS hSw
        (try dsimp only at hSw)
        go_simp
        (try with_reducible rfl)
      (try simp only [Act.put, List.setIfInBounds_toArray, List.set_cons_zero, List.set_cons_succ])
      refine wpAnyH_take (i := 6) (oi := { dst := some 81, op := Go.Op.extract (Go.Operand.tmp 75) 0, type := 36, pos := "law.go:143", after := #[{ on := 5, ground := Go.Ground.data }], guard := none }) (v := ?_) rfl (by kernel_rfl) (by kernel_rfl) (by kernel_rfl) (fun _ _ _ h => h) (Or.inl ⟨by rfl, ?_⟩) (by assumption) ?_
      rotate_left
      · intro wS hSw
        (try dsimp only at hSw)
        go_simp
        (try with_reducible rfl)
      (try simp only [Act.put, List.setIfInBounds_toArray, List.set_cons_zero, List.set_cons_succ])
      refine wpAnyH_take (i := 7) (oi := { dst := some 82, op := Go.Op.extract (Go.Operand.tmp 75) 1, type := 4, pos := "law.go:143", after := #[{ on := 5, ground := Go.Ground.data }, { on := 10, ground := Go.Ground.gcOnly Go.Departure.lateStores }], guard := none }) (v := ?_) rfl (by kernel_rfl) (by kernel_rfl) (by kernel_rfl) (fun _ _ _ h => h) (Or.inl ⟨by rfl, ?_⟩) (by assumption) ?_
      rotate_left
      · intro wS hSw
        (try dsimp only at hSw)
        go_simp
        (try with_reducible rfl)
      (try simp only [Act.put, List.setIfInBounds_toArray, List.set_cons_zero, List.set_cons_succ])
      refine wpAnyH_take (i := 8) (oi := { dst := some 83, op := Go.Op.extract (Go.Operand.tmp 75) 2, type := 31, pos := "law.go:143", after := #[{ on := 5, ground := Go.Ground.data }, { on := 11, ground := Go.Ground.gcOnly Go.Departure.lateStores }], guard := none }) (v := ?_) rfl (by kernel_rfl) (by kernel_rfl) (by kernel_rfl) (fun _ _ _ h => h) (Or.inl ⟨by rfl, ?_⟩) (by assumption) ?_
      rotate_left
      · intro wS hSw
        (try dsimp only at hSw)
        go_simp
        (try with_reducible rfl)
      (try simp only [Act.put, List.setIfInBounds_toArray, List.set_cons_zero, List.set_cons_succ])
      refine wpAnyH_ready (rs := [9]) (by kernel_rfl) (by simp) ?_
      refine AllReadyH.cons (o := { dst := some 13, op := Go.Op.alloc 36, type := 0, pos := "law.go:143", after := #[], guard := none }) rfl (fun K hK => ?_) AllReadyH.nil
      (refine step_zero rfl rfl zpg_run ?_; obtain ⟨VZx4W8, hw⟩ : ∃ q, VSx4W8.alloc (.cells #[.int .i64 0, .int .i64 0, .int .u32 0, .string ⟨#[]⟩, .slice none 0 0] 36) = q := ⟨_, rfl⟩; rw [hw]; have hb : Below VSx4W8.heap.size VSx4W8 VZx4W8 := (by rw [← hw]; exact (Below.refl _ _).alloc (Nat.le_refl _) _); have HRS := Lib.hid ((HRS.out.fresh (Nat.le_refl _)).later hb); have HZB : Hid (Blk VZx4W8 VSx4W8.heap.size #[.int .i64 0, .int .i64 0, .int .u32 0, .string ⟨#[]⟩, .slice none 0 0] 36) := Lib.hid (by rw [← hw]; exact Blk.new _ _ _); have HZV := Lib.hid (show W8.heap.size ≤ VSx4W8.heap.size ∧ VSx4W8.heap.size < VZx4W8.heap.size from ⟨hvVSx4W8.size, by rw [← hw]; simp⟩); have hvVZx4W8 := Below.trans hvVSx4W8 (hb.mono hvVSx4W8.size); clear hb hw; skip)
      refine hK.out _ _ ?_ (fun hHeld => ?_)
      · (try dsimp only)
        (first | exact Below.refl _ _ | assumption)
      clear hK K
      (try simp only [Act.put, List.setIfInBounds_toArray, List.set_cons_zero, List.set_cons_succ])
      refine wpAnyH_ready (rs := [10]) (by kernel_rfl) (by simp) ?_
      refine AllReadyH.cons (o := { dst := none, op := Go.Op.store 36 (Go.Operand.tmp 13) (Go.Operand.tmp 81), type := 0, pos := "law.go:143", after := #[{ on := 9, ground := Go.Ground.data }, { on := 6, ground := Go.Ground.data }, { on := 4, ground := Go.Ground.chain }, { on := 0, ground := Go.Ground.phase }, { on := 1, ground := Go.Ground.phase }, { on := 2, ground := Go.Ground.phase }, { on := 3, ground := Go.Ground.phase }, { on := 4, ground := Go.Ground.phase }, { on := 5, ground := Go.Ground.phase }, { on := 6, ground := Go.Ground.phase }, { on := 7, ground := Go.Ground.textOnly Go.Departure.lateStores }, { on := 8, ground := Go.Ground.textOnly Go.Departure.lateStores }, { on := 9, ground := Go.Ground.phase }], guard := none }) rfl (fun K hK => ?_) AllReadyH.nil
      (refine step_storeM rfl 36 (.tmp 13) (.tmp 81) rfl (VSx4W8.heap.size) 0 #[.int .i64 (Kp : Int), .int .i64 (Np : Int), .int .u32 3, .string ⟨#[109]⟩, .slice o 1 c] rfl rfl (HZB.out.there (n := 5) (Nat.le_refl 5)) info_pg (one_pg _ _ _ _ _ _ _) ?_; have HO9 : Hid (Own (VSx4W8.heap.size) VZx4W8 _) := Lib.hid (Own.setCells #[.int .i64 (Kp : Int), .int .i64 (Np : Int), .int .u32 3, .string ⟨#[109]⟩, .slice o 1 c].toList 0 VZx4W8); have HV9 := Lib.hid (hvVZx4W8.trans (HO9.out.below HZV.out.1 hvVZx4W8.size)); have hv9 := HV9.out; have HB9 : Hid (Blk (VZx4W8.setCells (VSx4W8.heap.size) 0 [.int .i64 (Kp : Int), .int .i64 (Np : Int), .int .u32 3, .string ⟨#[109]⟩, .slice o 1 c]) (VSx4W8.heap.size) #[.int .i64 (Kp : Int), .int .i64 (Np : Int), .int .u32 3, .string ⟨#[109]⟩, .slice o 1 c] 36) := Lib.hid (HZB.out.whole5 rfl _ _ _ _ _); skip)
      refine hK.out _ _ ?_ (fun hHeld => ?_)
      · (try dsimp only)
        (first | exact Below.refl _ _ | assumption)
      clear hK K
      (try simp only [Act.put, List.setIfInBounds_toArray, List.set_cons_zero, List.set_cons_succ])
      refine wpAnyH_take (i := 11) (oi := { dst := some 14, op := Go.Op.assign (Go.Operand.tmp 82), type := 4, pos := "law.go:143", after := #[{ on := 7, ground := Go.Ground.data }, { on := 10, ground := Go.Ground.chain }, { on := 0, ground := Go.Ground.phase }, { on := 1, ground := Go.Ground.phase }, { on := 2, ground := Go.Ground.phase }, { on := 3, ground := Go.Ground.phase }, { on := 4, ground := Go.Ground.phase }, { on := 5, ground := Go.Ground.phase }, { on := 6, ground := Go.Ground.phase }, { on := 7, ground := Go.Ground.phase }, { on := 8, ground := Go.Ground.textOnly Go.Departure.lateStores }, { on := 9, ground := Go.Ground.phase }, { on := 10, ground := Go.Ground.phase }], guard := none }) (v := ?_) rfl (by kernel_rfl) (by kernel_rfl) (by kernel_rfl) (fun _ _ _ h => h) (Or.inl ⟨by rfl, ?_⟩) (by assumption) ?_
      rotate_left
      · intro wS hSw
        (try dsimp only at hSw)
        go_simp
        (try with_reducible rfl)
      (try simp only [Act.put, List.setIfInBounds_toArray, List.set_cons_zero, List.set_cons_succ])
      refine wpAnyH_take (i := 12) (oi := { dst := some 15, op := Go.Op.assign (Go.Operand.tmp 83), type := 31, pos := "law.go:143", after := #[{ on := 8, ground := Go.Ground.data }, { on := 11, ground := Go.Ground.chain }, { on := 0, ground := Go.Ground.phase }, { on := 1, ground := Go.Ground.phase }, { on := 2, ground := Go.Ground.phase }, { on := 3, ground := Go.Ground.phase }, { on := 4, ground := Go.Ground.phase }, { on := 5, ground := Go.Ground.phase }, { on := 6, ground := Go.Ground.phase }, { on := 7, ground := Go.Ground.phase }, { on := 8, ground := Go.Ground.phase }, { on := 9, ground := Go.Ground.phase }, { on := 10, ground := Go.Ground.phase }, { on := 11, ground := Go.Ground.phase }], guard := none }) (v := ?_) rfl (by kernel_rfl) (by kernel_rfl) (by kernel_rfl) (fun _ _ _ h => h) (Or.inl ⟨by rfl, ?_⟩) (by assumption) ?_
      rotate_left
      · intro wS hSw
        (try dsimp only at hSw)
        go_simp
        (try with_reducible rfl)
      (try simp only [Act.put, List.setIfInBounds_toArray, List.set_cons_zero, List.set_cons_succ])
      refine wpAnyH_done (by kernel_rfl) ?_ _
      go_wp2_with fail
      go_meet
      exact ⟨_, o, c, rfl, rfl, rfl, HB9.out, HRS.out.own HO9.out, hc1, hc2, HPWD.out.later HV9.out, by have h1 := HZV.out; have h2 := HPWD.out.s.big; omega, by have h1 := HZV.out; have h2 := HPWD.out.b.size; omega, by have h1 := HZV.out; have h2 := Blk.lt HPWD.out.p; omega⟩
    refine AllReadyH.cons (o := { dst := some 13, op := Go.Op.alloc 36, type := 0, pos := "law.go:143", after := #[], guard := none }) rfl (fun K hK => ?_) AllReadyH.nil
    (refine step_zero rfl rfl zpg_run ?_; obtain ⟨VZx9W8, hw⟩ : ∃ q, W8.alloc (.cells #[.int .i64 0, .int .i64 0, .int .u32 0, .string ⟨#[]⟩, .slice none 0 0] 36) = q := ⟨_, rfl⟩; rw [hw]; have hb : Below W8.heap.size W8 VZx9W8 := (by rw [← hw]; exact (Below.refl _ _).alloc (Nat.le_refl _) _); have HZB : Hid (Blk VZx9W8 W8.heap.size #[.int .i64 0, .int .i64 0, .int .u32 0, .string ⟨#[]⟩, .slice none 0 0] 36) := Lib.hid (by rw [← hw]; exact Blk.new _ _ _); have HZV := Lib.hid (show W8.heap.size ≤ W8.heap.size ∧ W8.heap.size < VZx9W8.heap.size from ⟨hvW8.size, by rw [← hw]; simp⟩); have hvVZx9W8 := Below.trans hvW8 (hb.mono hvW8.size); clear hb hw; skip)
    refine hK.out _ _ ?_ (fun hHeld => ?_)
    · (try dsimp only)
      (first | exact Below.refl _ _ | assumption)
    clear hK K
    (try simp only [Act.put, List.setIfInBounds_toArray, List.set_cons_zero, List.set_cons_succ])
    refine wpAnyH_ready (rs := [4]) (by kernel_rfl) (by simp) ?_
    refine AllReadyH.cons (o := { dst := some 80, op := Go.Op.call { callee := Go.Callee.value (Go.Operand.func 9), args := #[Go.Operand.tmp 76, Go.Operand.const (Go.Value.string { data := #[109] }), Go.Operand.tmp 79], argTypes := #[36, 9, 42] }, type := 39, pos := "law.go:143", after := #[{ on := 0, ground := Go.Ground.data }, { on := 3, ground := Go.Ground.data }], guard := none }) rfl (fun K hK => ?_) AllReadyH.nil
    go_simp
    (refine (HSU.out VZx9W8 hvVZx9W8 (W8.heap.size) (Blk.lt HZB.out) HZN.out).mono ?_; rintro e VSx9W8 ⟨o, c, rfl, hc1, hc2, hrs, hb⟩; (try have HZB := Lib.hid (Blk.below HZB.out hb (Blk.lt HZB.out))); have HRS := Lib.hid hrs; have hvVSx9W8 := Below.trans hvVZx9W8 (hb.mono hvVZx9W8.size); clear hb hrs; skip)
    (try go_wp2_with fail)
    refine hK.out _ _ ?_ (fun hHeld => ?_)
    · (try dsimp only)
      (first | exact Below.refl _ _ | assumption)
    clear hK K
    (try simp only [Act.put, List.setIfInBounds_toArray, List.set_cons_zero, List.set_cons_succ])
    refine wpAnyH_take (i := 5) (oi := { dst := some 75, op := Go.Op.move (Go.Operand.tmp 80), type := 39, pos := "law.go:143", after := #[{ on := 4, ground := Go.Ground.data }], guard := none }) (v := ?_) rfl (by kernel_rfl) (by kernel_rfl) (by kernel_rfl) (fun _ _ _ h => h) (Or.inl ⟨by rfl, ?_⟩) (by assumption) ?_
    rotate_left
    · intro wS hSw
      (try dsimp only at hSw)
      go_simp
      (try with_reducible rfl)
    (try simp only [Act.put, List.setIfInBounds_toArray, List.set_cons_zero, List.set_cons_succ])
    refine wpAnyH_take (i := 6) (oi := { dst := some 81, op := Go.Op.extract (Go.Operand.tmp 75) 0, type := 36, pos := "law.go:143", after := #[{ on := 5, ground := Go.Ground.data }], guard := none }) (v := ?_) rfl (by kernel_rfl) (by kernel_rfl) (by kernel_rfl) (fun _ _ _ h => h) (Or.inl ⟨by rfl, ?_⟩) (by assumption) ?_
    rotate_left
    · intro wS hSw
      (try dsimp only at hSw)
      go_simp
      (try with_reducible rfl)
    (try simp only [Act.put, List.setIfInBounds_toArray, List.set_cons_zero, List.set_cons_succ])
    refine wpAnyH_take (i := 7) (oi := { dst := some 82, op := Go.Op.extract (Go.Operand.tmp 75) 1, type := 4, pos := "law.go:143", after := #[{ on := 5, ground := Go.Ground.data }, { on := 10, ground := Go.Ground.gcOnly Go.Departure.lateStores }], guard := none }) (v := ?_) rfl (by kernel_rfl) (by kernel_rfl) (by kernel_rfl) (fun _ _ _ h => h) (Or.inl ⟨by rfl, ?_⟩) (by assumption) ?_
    rotate_left
    · intro wS hSw
      (try dsimp only at hSw)
      go_simp
      (try with_reducible rfl)
    (try simp only [Act.put, List.setIfInBounds_toArray, List.set_cons_zero, List.set_cons_succ])
    refine wpAnyH_take (i := 8) (oi := { dst := some 83, op := Go.Op.extract (Go.Operand.tmp 75) 2, type := 31, pos := "law.go:143", after := #[{ on := 5, ground := Go.Ground.data }, { on := 11, ground := Go.Ground.gcOnly Go.Departure.lateStores }], guard := none }) (v := ?_) rfl (by kernel_rfl) (by kernel_rfl) (by kernel_rfl) (fun _ _ _ h => h) (Or.inl ⟨by rfl, ?_⟩) (by assumption) ?_
    rotate_left
    · intro wS hSw
      (try dsimp only at hSw)
      go_simp
      (try with_reducible rfl)
    (try simp only [Act.put, List.setIfInBounds_toArray, List.set_cons_zero, List.set_cons_succ])
    refine wpAnyH_ready (rs := [10]) (by kernel_rfl) (by simp) ?_
    refine AllReadyH.cons (o := { dst := none, op := Go.Op.store 36 (Go.Operand.tmp 13) (Go.Operand.tmp 81), type := 0, pos := "law.go:143", after := #[{ on := 9, ground := Go.Ground.data }, { on := 6, ground := Go.Ground.data }, { on := 4, ground := Go.Ground.chain }, { on := 0, ground := Go.Ground.phase }, { on := 1, ground := Go.Ground.phase }, { on := 2, ground := Go.Ground.phase }, { on := 3, ground := Go.Ground.phase }, { on := 4, ground := Go.Ground.phase }, { on := 5, ground := Go.Ground.phase }, { on := 6, ground := Go.Ground.phase }, { on := 7, ground := Go.Ground.textOnly Go.Departure.lateStores }, { on := 8, ground := Go.Ground.textOnly Go.Departure.lateStores }, { on := 9, ground := Go.Ground.phase }], guard := none }) rfl (fun K hK => ?_) AllReadyH.nil
    (refine step_storeM rfl 36 (.tmp 13) (.tmp 81) rfl (W8.heap.size) 0 #[.int .i64 (Kp : Int), .int .i64 (Np : Int), .int .u32 3, .string ⟨#[109]⟩, .slice o 1 c] rfl rfl (HZB.out.there (n := 5) (Nat.le_refl 5)) info_pg (one_pg _ _ _ _ _ _ _) ?_; have HO9 : Hid (Own (W8.heap.size) VSx9W8 _) := Lib.hid (Own.setCells #[.int .i64 (Kp : Int), .int .i64 (Np : Int), .int .u32 3, .string ⟨#[109]⟩, .slice o 1 c].toList 0 VSx9W8); have HV9 := Lib.hid (hvVSx9W8.trans (HO9.out.below HZV.out.1 hvVSx9W8.size)); have hv9 := HV9.out; have HB9 : Hid (Blk (VSx9W8.setCells (W8.heap.size) 0 [.int .i64 (Kp : Int), .int .i64 (Np : Int), .int .u32 3, .string ⟨#[109]⟩, .slice o 1 c]) (W8.heap.size) #[.int .i64 (Kp : Int), .int .i64 (Np : Int), .int .u32 3, .string ⟨#[109]⟩, .slice o 1 c] 36) := Lib.hid (HZB.out.whole5 rfl _ _ _ _ _); skip)
    refine hK.out _ _ ?_ (fun hHeld => ?_)
    · (try dsimp only)
      (first | exact Below.refl _ _ | assumption)
    clear hK K
    (try simp only [Act.put, List.setIfInBounds_toArray, List.set_cons_zero, List.set_cons_succ])
    refine wpAnyH_take (i := 11) (oi := { dst := some 14, op := Go.Op.assign (Go.Operand.tmp 82), type := 4, pos := "law.go:143", after := #[{ on := 7, ground := Go.Ground.data }, { on := 10, ground := Go.Ground.chain }, { on := 0, ground := Go.Ground.phase }, { on := 1, ground := Go.Ground.phase }, { on := 2, ground := Go.Ground.phase }, { on := 3, ground := Go.Ground.phase }, { on := 4, ground := Go.Ground.phase }, { on := 5, ground := Go.Ground.phase }, { on := 6, ground := Go.Ground.phase }, { on := 7, ground := Go.Ground.phase }, { on := 8, ground := Go.Ground.textOnly Go.Departure.lateStores }, { on := 9, ground := Go.Ground.phase }, { on := 10, ground := Go.Ground.phase }], guard := none }) (v := ?_) rfl (by kernel_rfl) (by kernel_rfl) (by kernel_rfl) (fun _ _ _ h => h) (Or.inl ⟨by rfl, ?_⟩) (by assumption) ?_
    rotate_left
    · intro wS hSw
      (try dsimp only at hSw)
      go_simp
      (try with_reducible rfl)
    (try simp only [Act.put, List.setIfInBounds_toArray, List.set_cons_zero, List.set_cons_succ])
    refine wpAnyH_take (i := 12) (oi := { dst := some 15, op := Go.Op.assign (Go.Operand.tmp 83), type := 31, pos := "law.go:143", after := #[{ on := 8, ground := Go.Ground.data }, { on := 11, ground := Go.Ground.chain }, { on := 0, ground := Go.Ground.phase }, { on := 1, ground := Go.Ground.phase }, { on := 2, ground := Go.Ground.phase }, { on := 3, ground := Go.Ground.phase }, { on := 4, ground := Go.Ground.phase }, { on := 5, ground := Go.Ground.phase }, { on := 6, ground := Go.Ground.phase }, { on := 7, ground := Go.Ground.phase }, { on := 8, ground := Go.Ground.phase }, { on := 9, ground := Go.Ground.phase }, { on := 10, ground := Go.Ground.phase }, { on := 11, ground := Go.Ground.phase }], guard := none }) (v := ?_) rfl (by kernel_rfl) (by kernel_rfl) (by kernel_rfl) (fun _ _ _ h => h) (Or.inl ⟨by rfl, ?_⟩) (by assumption) ?_
    rotate_left
    · intro wS hSw
      (try dsimp only at hSw)
      go_simp
      (try with_reducible rfl)
    (try simp only [Act.put, List.setIfInBounds_toArray, List.set_cons_zero, List.set_cons_succ])
    refine wpAnyH_done (by kernel_rfl) ?_ _
    go_wp2_with fail
    go_meet
    exact ⟨_, o, c, rfl, rfl, rfl, HB9.out, HRS.out.own HO9.out, hc1, hc2, HPWD.out.later HV9.out, by have h1 := HZV.out; have h2 := HPWD.out.s.big; omega, by have h1 := HZV.out; have h2 := HPWD.out.b.size; omega, by have h1 := HZV.out; have h2 := Blk.lt HPWD.out.p; omega⟩
  case rest =>
    obtain ⟨b13, o, c, rfl, rfl, rfl, hB, hS, hc1, hc2, hpw, hg1, hg2, hg3⟩ := hcut
    generalize wc = w8 at *
    have HPW8 := Lib.hid hpw
    have HRL := Lib.hid (hpw.r1 HI2.out.2.2.2)
    have HC := Lib.hid (show 1 ≤ c ∧ c ≤ maxLen ∧ wA.heap.size + 1 + Np ≤ b13 ∧ w.heap.size ≤ b13 ∧ b7 < b13 ∧ b13 < w8.heap.size from ⟨hc1, hc2, hg1, hg2, hg3, Blk.lt hB⟩)
    obtain ⟨b16, hqb16⟩ : ∃ y, w8.heap.size = y := ⟨_, rfl⟩
    obtain ⟨wz16, hwz16⟩ : ∃ y, w8.alloc (.cells #[.int .u8 0, .int .u32 0, .slice none 0 0] 42) = y := ⟨_, rfl⟩
    have hbz : Below w8.heap.size w8 wz16 := by rw [← hwz16]; exact (Below.refl _ _).alloc (Nat.le_refl _) _
    have hXz : Blk wz16 b16 #[.int .u8 0, .int .u32 0, .slice none 0 0] 42 := by rw [← hwz16, ← hqb16]; exact Blk.new _ _ _
    have HTZb16 : Hid (wz16.there b16 0 3) := Lib.hid (hXz.there (by decide))
    obtain ⟨w9, hw5⟩ : ∃ y, wz16.setCells b16 0 [.int .u8 2, .int .u32 3, .slice (some ⟨wA.heap.size + 2, 0, none⟩) 32 32] = y := ⟨_, rfl⟩
    have hOz : Own b16 wz16 w9 := by rw [← hw5]; exact Own.setCells _ _ _
    have HBw9 : Hid (Below w8.heap.size w8 w9) := Lib.hid (hbz.trans (hOz.below (by omega) hbz.size))
    have HNw9 : Hid (Blk w9 b16 #[.int .u8 2, .int .u32 3, .slice (some ⟨wA.heap.size + 2, 0, none⟩) 32 32] 42) := Lib.hid (by rw [← hw5]; exact Blk.setCells hXz [.int .u8 2, .int .u32 3, .slice (some ⟨wA.heap.size + 2, 0, none⟩) 32 32] rfl)
    have HWw9 := Lib.hid hw5
    clear hbz hXz hOz hw5
    have HPW9 := Lib.hid (HPW8.out.later HBw9.out)
    have HY9 := Lib.hid (Blk.below hB HBw9.out (Blk.lt hB))
    have HS9 := Lib.hid ((hS.fresh2 (T := b16) (Nat.le_of_eq hqb16)).later HBw9.out)
    have HN16 := Lib.hid (show b13 < b16 ∧ b16 < w9.heap.size by have h1 := HC.out; have h2 := Blk.lt HNw9.out; omega)
    clear hB hS hc1 hc2 hpw hg1 hg2 hg3
    obtain ⟨w10, hw10⟩ : ∃ q, w9.setCell ⟨b16, 1, none⟩ (.int .u32 (gn : Int)) = q := ⟨_, rfl⟩
    have hO10 : Own b16 w9 w10 := by rw [← hw10]; exact (Own.refl _ _).set 1 _
    have hB10 : Below b16 w9 w10 := hO10.below (Nat.le_refl _) (by have := HN16.out; omega)
    have HO16 : Hid (Blk w10 b16 #[.int .u8 2, .int .u32 (gn : Int), .slice (some ⟨wA.heap.size + 2, 0, none⟩) 32 32] 42) := Lib.hid (by rw [← hw10]; exact HNw9.out.set 1 _)
    have HPW10 := Lib.hid (HPW9.out.belowB hB10 (by have := HC.out; have := HN16.out; omega) (by have := HC.out; have := HN16.out; omega) (by have := HC.out; have := HN16.out; omega))
    have HY10 := Lib.hid (Blk.below HY9.out hB10 HN16.out.1)
    have HS10 := Lib.hid (HS9.out.own hO10)
    have HW10 := Lib.hid hw10
    have f16 : w9.frozen? ⟨b16, 1, none⟩ = false := Blk.free HNw9.out 1
    have c16 : w9.cell? ⟨b16, 1, none⟩ = some (.int .u32 3) := by rw [Blk.cell HNw9.out]; rfl
    have HRY := Lib.hid (range5 HY10.out)
    have HRS := Lib.hid (Blk.range0 (C := [.int .u8 2, .int .u32 (gn : Int), .slice (some ⟨wA.heap.size + 2, 0, none⟩) 32 32]) HO16.out)
    clear hO10 hB10
    go_wp2_with (first | (refine wpList_value rfl (exec_loadM (x := .tmp 85) (cs := [.int .u8 2, .int .u32 3, .slice (some ⟨wA.heap.size + 2, 0, none⟩) 32 32]) rfl rfl HRL.out Tryd.underlying42 rfl info_share3) ?_) | (refine wpList_zero rfl rfl zsh_run ?_; rw [hwz16, hqb16]; (try simp only [Act.put, List.setIfInBounds_toArray, List.set_cons_zero, List.set_cons_succ])) | (refine wpList_store_mid rfl 42 (.tmp 16) (.tmp 86) rfl b16 0 #[.int .u8 2, .int .u32 3, .slice (some ⟨wA.heap.size + 2, 0, none⟩) 32 32] rfl rfl HTZb16.out info_share3 (one_share _ _ _ _ _ _ _) ?_; rw [HWw9.out]) | (refine wpList_value rfl (exec_loadM (x := .tmp 13) (cs := [.int .i64 (Kp : Int), .int .i64 (Np : Int), .int .u32 3, .string ⟨#[109]⟩, .slice o 1 c]) rfl rfl HRY.out Tryd.underlying36 rfl info_pg) ?_) | (refine wpList_value rfl (exec_loadM (x := .tmp 16) (cs := [.int .u8 2, .int .u32 (gn : Int), .slice (some ⟨wA.heap.size + 2, 0, none⟩) 32 32]) rfl rfl HRS.out Tryd.underlying42 rfl info_share3) ?_))
    refine (submit_gen HPW10.out HKN.out.1 HKN.out.2.2.1 (by have := HKN.out; omega) b16 gn c o (Blk.lt HO16.out) (by have := HC.out; have := HN16.out; have := HKN.out; omega) HS10.out HC.out.1 HC.out.2.1).mono ?_
    rintro e w11 ⟨Ko, No, geno, mko, oq, nq, cq, dq, ev2, rfl, hev, hb⟩
    have HEV := Lib.hid hev
    obtain ⟨b17, hqb17⟩ : ∃ y, w11.heap.size = y := ⟨_, rfl⟩
    obtain ⟨wz17, hwz17⟩ : ∃ y, w11.alloc (.cells #[.int .i64 0, .int .i64 0, .int .u32 0, .string ⟨#[]⟩, .slice none 0 0] 36) = y := ⟨_, rfl⟩
    have hbz : Below w11.heap.size w11 wz17 := by rw [← hwz17]; exact (Below.refl _ _).alloc (Nat.le_refl _) _
    have hXz : Blk wz17 b17 #[.int .i64 0, .int .i64 0, .int .u32 0, .string ⟨#[]⟩, .slice none 0 0] 36 := by rw [← hwz17, ← hqb17]; exact Blk.new _ _ _
    have HTZb17 : Hid (wz17.there b17 0 5) := Lib.hid (hXz.there (by decide))
    obtain ⟨w12, hw5⟩ : ∃ y, wz17.setCells b17 0 [.int .i64 Ko, .int .i64 No, .int .u32 (geno : Int), .string mko, .slice oq nq cq] = y := ⟨_, rfl⟩
    have hOz : Own b17 wz17 w12 := by rw [← hw5]; exact Own.setCells _ _ _
    have HBw12 : Hid (Below w11.heap.size w11 w12) := Lib.hid (hbz.trans (hOz.below (by omega) hbz.size))
    have HNw12 : Hid (Blk w12 b17 #[.int .i64 Ko, .int .i64 No, .int .u32 (geno : Int), .string mko, .slice oq nq cq] 36) := Lib.hid (by rw [← hw5]; exact hXz.whole5 rfl _ _ _ _ _)
    have HWw12 := Lib.hid hw5
    clear hbz hXz hOz hw5
    have HPW12 := Lib.hid ((HPW10.out.later hb).later HBw12.out)
    have HY12 := Lib.hid (Blk.below (Blk.below HY10.out hb (Blk.lt HY10.out)) HBw12.out (Blk.lt (Blk.below HY10.out hb (Blk.lt HY10.out))))
    have HO12 := Lib.hid (Blk.below (Blk.below HO16.out hb (Blk.lt HO16.out)) HBw12.out (Blk.lt (Blk.below HO16.out hb (Blk.lt HO16.out))))
    have HS12 := Lib.hid ((HS10.out.later hb).later HBw12.out)
    clear hb hev HPW10 HY10 HO16 HS10 HRY HRS HRL HPW9 HY9 HS9 HW10 f16 c16
    go_upto_region 12 with (first | (refine wpList_zero rfl rfl zpg_run ?_; rw [hwz17, hqb17]; (try simp only [Act.put, List.setIfInBounds_toArray, List.set_cons_zero, List.set_cons_succ])) | (refine wpList_store_mid rfl 36 (.tmp 17) (.tmp 93) rfl b17 0 #[.int .i64 Ko, .int .i64 No, .int .u32 (geno : Int), .string mko, .slice oq nq cq] rfl rfl HTZb17.out info_pg (one_pg _ _ _ _ _ _ _) ?_; rw [HWw12.out]))
    have hd := (Below.refl w12.heap.size w12).drew
    have HPWD := Lib.hid (HPW12.out.later hd)
    have HXD := Lib.hid (Blk.below HY12.out hd (Blk.lt HY12.out))
    have HOD := Lib.hid (Blk.below HO12.out hd (Blk.lt HO12.out))
    have HSD := Lib.hid (HS12.out.later hd)
    have HSU : Hid (∀ A, Below w12.drew.heap.size w12.drew A → ∀ t, t < A.heap.size → t = b16 → Calls Tryd.prog 9 #[.agg #[.int .i64 (Kp : Int), .int .i64 (Np : Int), .int .u32 3, .string ⟨#[109]⟩, .slice o 1 c], .string ⟨#[110]⟩, .agg #[.int .u8 2, .int .u32 3, .slice (some ⟨wA.heap.size + 2, 0, none⟩) 32 32]] A fun e w' => e = .returned (.tuple #[.agg #[.int .i64 0, .int .i64 0, .int .u32 0, .string ⟨#[]⟩, .slice none 0 0], .bool false, .iface 83 (.int .i64 15)]) ∧ True ∧ Below A.heap.size A w') := Lib.hid fun A hA t ht htn => by
      subst htn
      exact submit_mark (HPWD.out.later hA) HKN.out.1 HKN.out.2.2.1 (by have := HKN.out; omega) t c o ht (by have := HC.out; have := HN16.out; have := HKN.out; omega) (HSD.out.later hA) HC.out.1 HC.out.2.1
    clear hd
    go_cut [20, 21, 22] from 30 (fun s20 s21 s22 wx => ∃ (b : Nat), s20 = .pointer (some ⟨b, 0, none⟩) ∧ s21 = .bool false ∧ s22 = .iface 83 (.int .i64 15) ∧ Below w12.drew.heap.size w12.drew wx)
    case first =>
      have hvW12 := Below.refl w12.drew.heap.size w12.drew
      refine wp_region_held_drew (S := (Below w12.drew.heap.size w12.drew)) (by kernel_rfl) ?_ (fun hHeld => ?_)
      · (try dsimp only)
        (first | exact Below.refl _ _ | assumption)
      generalize w12.drew = W12 at *
      refine wpAnyH_take (i := 0) (oi := { dst := some 97, op := Go.Op.load 36 (Go.Operand.tmp 13), type := 36, pos := "law.go:147", after := #[], guard := none }) (v := ?_) rfl (by kernel_rfl) (by kernel_rfl) (by kernel_rfl) (fun _ _ _ h => h) (Or.inl ⟨by rfl, ?_⟩) (by assumption) ?_
      rotate_left
      · intro wS hSw
        (refine exec_loadM (x := .tmp 13) (cs := [.int .i64 (Kp : Int), .int .i64 (Np : Int), .int .u32 3, .string ⟨#[109]⟩, .slice o 1 c]) ?_ ?_ (range5 (Blk.below HXD.out hSw (Blk.lt HXD.out))) Tryd.underlying36 rfl info_pg <;> rfl)
      (try simp only [Act.put, List.setIfInBounds_toArray, List.set_cons_zero, List.set_cons_succ])
      refine wpAnyH_take (i := 1) (oi := { dst := some 98, op := Go.Op.move (Go.Operand.tmp 9), type := 29, pos := "law.go:147", after := #[], guard := none }) (v := ?_) rfl (by kernel_rfl) (by kernel_rfl) (by kernel_rfl) (fun _ _ _ h => h) (Or.inl ⟨by rfl, ?_⟩) (by assumption) ?_
      rotate_left
      · intro wS hSw
        (try dsimp only at hSw)
        go_simp
        (try with_reducible rfl)
      (try simp only [Act.put, List.setIfInBounds_toArray, List.set_cons_zero, List.set_cons_succ])
      refine wpAnyH_take (i := 2) (oi := { dst := some 99, op := Go.Op.indexAddr 29 (Go.Operand.tmp 98) (Go.Operand.const (Go.Value.int Go.IntKind.i64 1)), type := 0, pos := "law.go:147", after := #[{ on := 1, ground := Go.Ground.data }], guard := none }) (v := ?_) rfl (by kernel_rfl) (by kernel_rfl) (by kernel_rfl) (fun _ _ _ h => h) (Or.inl ⟨by rfl, ?_⟩) (by assumption) ?_
      rotate_left
      · intro wS hSw
        (try dsimp only at hSw)
        go_simp
        (try with_reducible rfl)
      (try simp only [Act.put, List.setIfInBounds_toArray, List.set_cons_zero, List.set_cons_succ])
      refine wpAnyH_take (i := 3) (oi := { dst := some 100, op := Go.Op.load 42 (Go.Operand.tmp 99), type := 42, pos := "law.go:147", after := #[{ on := 2, ground := Go.Ground.data }], guard := none }) (v := ?_) rfl (by kernel_rfl) (by kernel_rfl) (by kernel_rfl) (fun _ _ _ h => h) (Or.inl ⟨by rfl, ?_⟩) (by assumption) ?_
      rotate_left
      · intro wS hSw
        (refine exec_loadM (x := .tmp 99) (cs := [.int .u8 2, .int .u32 3, .slice (some ⟨wA.heap.size + 2, 0, none⟩) 32 32]) ?_ ?_ ((HPWD.out.later hSw).r1 HI2.out.2.2.2) Tryd.underlying42 rfl info_share3 <;> rfl)
      (try simp only [Act.put, List.setIfInBounds_toArray, List.set_cons_zero, List.set_cons_succ])
      refine wpAnyH_ready (rs := [4, 9]) (by kernel_rfl) (by simp) ?_
      refine AllReadyH.cons (o := { dst := some 101, op := Go.Op.call { callee := Go.Callee.value (Go.Operand.func 9), args := #[Go.Operand.tmp 97, Go.Operand.const (Go.Value.string { data := #[110] }), Go.Operand.tmp 100], argTypes := #[36, 9, 42] }, type := 39, pos := "law.go:147", after := #[{ on := 0, ground := Go.Ground.data }, { on := 3, ground := Go.Ground.data }], guard := none }) rfl (fun K hK => ?_) ?_
      · skip
        go_simp
        (refine (HSU.out W12 hvW12 (b16) (Nat.lt_of_lt_of_le (Blk.lt HOD.out) hvW12.size) rfl).mono ?_; rintro e VSx4W12 ⟨rfl, hrs, hb⟩; (try have HZB := Lib.hid (Blk.below HZB.out hb (Blk.lt HZB.out))); have HRS := Lib.hid hrs; have hvVSx4W12 := Below.trans hvW12 (hb.mono hvW12.size); clear hb hrs; skip)
        (try go_wp2_with fail)
        refine hK.out _ _ ?_ (fun hHeld => ?_)
        · (try dsimp only)
          (first | exact Below.refl _ _ | assumption)
        clear hK K
        (try simp only [Act.put, List.setIfInBounds_toArray, List.set_cons_zero, List.set_cons_succ])
        refine wpAnyH_take (i := 5) (oi := { dst := some 96, op := Go.Op.move (Go.Operand.tmp 101), type := 39, pos := "law.go:147", after := #[{ on := 4, ground := Go.Ground.data }], guard := none }) (v := ?_) rfl (by kernel_rfl) (by kernel_rfl) (by kernel_rfl) (fun _ _ _ h => h) (Or.inl ⟨by rfl, ?_⟩) (by assumption) ?_
        rotate_left
        · intro wS hSw
          (try dsimp only at hSw)
          go_simp
          (try with_reducible rfl)
        (try simp only [Act.put, List.setIfInBounds_toArray, List.set_cons_zero, List.set_cons_succ])
        refine wpAnyH_take (i := 6) (oi := { dst := some 102, op := Go.Op.extract (Go.Operand.tmp 96) 0, type := 36, pos := "law.go:147", after := #[{ on := 5, ground := Go.Ground.data }], guard := none }) (v := ?_) rfl (by kernel_rfl) (by kernel_rfl) (by kernel_rfl) (fun _ _ _ h => h) (Or.inl ⟨by rfl, ?_⟩) (by assumption) ?_
        rotate_left
        · intro wS hSw
          (try dsimp only at hSw)
          go_simp
          (try with_reducible rfl)
        (try simp only [Act.put, List.setIfInBounds_toArray, List.set_cons_zero, List.set_cons_succ])
        refine wpAnyH_take (i := 7) (oi := { dst := some 103, op := Go.Op.extract (Go.Operand.tmp 96) 1, type := 4, pos := "law.go:147", after := #[{ on := 5, ground := Go.Ground.data }, { on := 10, ground := Go.Ground.gcOnly Go.Departure.lateStores }], guard := none }) (v := ?_) rfl (by kernel_rfl) (by kernel_rfl) (by kernel_rfl) (fun _ _ _ h => h) (Or.inl ⟨by rfl, ?_⟩) (by assumption) ?_
        rotate_left
        · intro wS hSw
          (try dsimp only at hSw)
          go_simp
          (try with_reducible rfl)
        (try simp only [Act.put, List.setIfInBounds_toArray, List.set_cons_zero, List.set_cons_succ])
        refine wpAnyH_take (i := 8) (oi := { dst := some 104, op := Go.Op.extract (Go.Operand.tmp 96) 2, type := 31, pos := "law.go:147", after := #[{ on := 5, ground := Go.Ground.data }, { on := 11, ground := Go.Ground.gcOnly Go.Departure.lateStores }], guard := none }) (v := ?_) rfl (by kernel_rfl) (by kernel_rfl) (by kernel_rfl) (fun _ _ _ h => h) (Or.inl ⟨by rfl, ?_⟩) (by assumption) ?_
        rotate_left
        · intro wS hSw
          (try dsimp only at hSw)
          go_simp
          (try with_reducible rfl)
        (try simp only [Act.put, List.setIfInBounds_toArray, List.set_cons_zero, List.set_cons_succ])
        refine wpAnyH_ready (rs := [9]) (by kernel_rfl) (by simp) ?_
        refine AllReadyH.cons (o := { dst := some 20, op := Go.Op.alloc 36, type := 0, pos := "law.go:147", after := #[], guard := none }) rfl (fun K hK => ?_) AllReadyH.nil
        (refine step_zero rfl rfl zpg_run ?_; obtain ⟨VZx4W12, hw⟩ : ∃ q, VSx4W12.alloc (.cells #[.int .i64 0, .int .i64 0, .int .u32 0, .string ⟨#[]⟩, .slice none 0 0] 36) = q := ⟨_, rfl⟩; rw [hw]; have hb : Below VSx4W12.heap.size VSx4W12 VZx4W12 := (by rw [← hw]; exact (Below.refl _ _).alloc (Nat.le_refl _) _); have HRS := Lib.hid (trivial); have HZB : Hid (Blk VZx4W12 VSx4W12.heap.size #[.int .i64 0, .int .i64 0, .int .u32 0, .string ⟨#[]⟩, .slice none 0 0] 36) := Lib.hid (by rw [← hw]; exact Blk.new _ _ _); have HZV := Lib.hid (show W12.heap.size ≤ VSx4W12.heap.size ∧ VSx4W12.heap.size < VZx4W12.heap.size from ⟨hvVSx4W12.size, by rw [← hw]; simp⟩); have hvVZx4W12 := Below.trans hvVSx4W12 (hb.mono hvVSx4W12.size); clear hb hw; skip)
        refine hK.out _ _ ?_ (fun hHeld => ?_)
        · (try dsimp only)
          (first | exact Below.refl _ _ | assumption)
        clear hK K
        (try simp only [Act.put, List.setIfInBounds_toArray, List.set_cons_zero, List.set_cons_succ])
        refine wpAnyH_ready (rs := [10]) (by kernel_rfl) (by simp) ?_
        refine AllReadyH.cons (o := { dst := none, op := Go.Op.store 36 (Go.Operand.tmp 20) (Go.Operand.tmp 102), type := 0, pos := "law.go:147", after := #[{ on := 9, ground := Go.Ground.data }, { on := 6, ground := Go.Ground.data }, { on := 4, ground := Go.Ground.chain }, { on := 0, ground := Go.Ground.phase }, { on := 1, ground := Go.Ground.phase }, { on := 2, ground := Go.Ground.phase }, { on := 3, ground := Go.Ground.phase }, { on := 4, ground := Go.Ground.phase }, { on := 5, ground := Go.Ground.phase }, { on := 6, ground := Go.Ground.phase }, { on := 7, ground := Go.Ground.textOnly Go.Departure.lateStores }, { on := 8, ground := Go.Ground.textOnly Go.Departure.lateStores }, { on := 9, ground := Go.Ground.phase }], guard := none }) rfl (fun K hK => ?_) AllReadyH.nil
        (refine step_storeM rfl 36 (.tmp 20) (.tmp 102) rfl (VSx4W12.heap.size) 0 #[.int .i64 0, .int .i64 0, .int .u32 0, .string ⟨#[]⟩, .slice none 0 0] rfl rfl (HZB.out.there (n := 5) (Nat.le_refl 5)) info_pg (one_pg _ _ _ _ _ _ _) ?_; have HO9 : Hid (Own (VSx4W12.heap.size) VZx4W12 _) := Lib.hid (Own.setCells #[.int .i64 0, .int .i64 0, .int .u32 0, .string ⟨#[]⟩, .slice none 0 0].toList 0 VZx4W12); have HV9 := Lib.hid (hvVZx4W12.trans (HO9.out.below HZV.out.1 hvVZx4W12.size)); have hv9 := HV9.out; have HB9 : Hid (Blk (VZx4W12.setCells (VSx4W12.heap.size) 0 [.int .i64 0, .int .i64 0, .int .u32 0, .string ⟨#[]⟩, .slice none 0 0]) (VSx4W12.heap.size) #[.int .i64 0, .int .i64 0, .int .u32 0, .string ⟨#[]⟩, .slice none 0 0] 36) := Lib.hid (HZB.out.whole5 rfl _ _ _ _ _); skip)
        refine hK.out _ _ ?_ (fun hHeld => ?_)
        · (try dsimp only)
          (first | exact Below.refl _ _ | assumption)
        clear hK K
        (try simp only [Act.put, List.setIfInBounds_toArray, List.set_cons_zero, List.set_cons_succ])
        refine wpAnyH_take (i := 11) (oi := { dst := some 21, op := Go.Op.assign (Go.Operand.tmp 103), type := 4, pos := "law.go:147", after := #[{ on := 7, ground := Go.Ground.data }, { on := 10, ground := Go.Ground.chain }, { on := 0, ground := Go.Ground.phase }, { on := 1, ground := Go.Ground.phase }, { on := 2, ground := Go.Ground.phase }, { on := 3, ground := Go.Ground.phase }, { on := 4, ground := Go.Ground.phase }, { on := 5, ground := Go.Ground.phase }, { on := 6, ground := Go.Ground.phase }, { on := 7, ground := Go.Ground.phase }, { on := 8, ground := Go.Ground.textOnly Go.Departure.lateStores }, { on := 9, ground := Go.Ground.phase }, { on := 10, ground := Go.Ground.phase }], guard := none }) (v := ?_) rfl (by kernel_rfl) (by kernel_rfl) (by kernel_rfl) (fun _ _ _ h => h) (Or.inl ⟨by rfl, ?_⟩) (by assumption) ?_
        rotate_left
        · intro wS hSw
          (try dsimp only at hSw)
          go_simp
          (try with_reducible rfl)
        (try simp only [Act.put, List.setIfInBounds_toArray, List.set_cons_zero, List.set_cons_succ])
        refine wpAnyH_take (i := 12) (oi := { dst := some 22, op := Go.Op.assign (Go.Operand.tmp 104), type := 31, pos := "law.go:147", after := #[{ on := 8, ground := Go.Ground.data }, { on := 11, ground := Go.Ground.chain }, { on := 0, ground := Go.Ground.phase }, { on := 1, ground := Go.Ground.phase }, { on := 2, ground := Go.Ground.phase }, { on := 3, ground := Go.Ground.phase }, { on := 4, ground := Go.Ground.phase }, { on := 5, ground := Go.Ground.phase }, { on := 6, ground := Go.Ground.phase }, { on := 7, ground := Go.Ground.phase }, { on := 8, ground := Go.Ground.phase }, { on := 9, ground := Go.Ground.phase }, { on := 10, ground := Go.Ground.phase }, { on := 11, ground := Go.Ground.phase }], guard := none }) (v := ?_) rfl (by kernel_rfl) (by kernel_rfl) (by kernel_rfl) (fun _ _ _ h => h) (Or.inl ⟨by rfl, ?_⟩) (by assumption) ?_
        rotate_left
        · intro wS hSw
          (try dsimp only at hSw)
          go_simp
          (try with_reducible rfl)
        (try simp only [Act.put, List.setIfInBounds_toArray, List.set_cons_zero, List.set_cons_succ])
        refine wpAnyH_done (by kernel_rfl) ?_ _
        go_wp2_with fail
        go_meet
        exact ⟨_, rfl, rfl, rfl, HV9.out⟩
      refine AllReadyH.cons (o := { dst := some 20, op := Go.Op.alloc 36, type := 0, pos := "law.go:147", after := #[], guard := none }) rfl (fun K hK => ?_) AllReadyH.nil
      (refine step_zero rfl rfl zpg_run ?_; obtain ⟨VZx9W12, hw⟩ : ∃ q, W12.alloc (.cells #[.int .i64 0, .int .i64 0, .int .u32 0, .string ⟨#[]⟩, .slice none 0 0] 36) = q := ⟨_, rfl⟩; rw [hw]; have hb : Below W12.heap.size W12 VZx9W12 := (by rw [← hw]; exact (Below.refl _ _).alloc (Nat.le_refl _) _); have HZB : Hid (Blk VZx9W12 W12.heap.size #[.int .i64 0, .int .i64 0, .int .u32 0, .string ⟨#[]⟩, .slice none 0 0] 36) := Lib.hid (by rw [← hw]; exact Blk.new _ _ _); have HZV := Lib.hid (show W12.heap.size ≤ W12.heap.size ∧ W12.heap.size < VZx9W12.heap.size from ⟨hvW12.size, by rw [← hw]; simp⟩); have hvVZx9W12 := Below.trans hvW12 (hb.mono hvW12.size); clear hb hw; skip)
      refine hK.out _ _ ?_ (fun hHeld => ?_)
      · (try dsimp only)
        (first | exact Below.refl _ _ | assumption)
      clear hK K
      (try simp only [Act.put, List.setIfInBounds_toArray, List.set_cons_zero, List.set_cons_succ])
      refine wpAnyH_ready (rs := [4]) (by kernel_rfl) (by simp) ?_
      refine AllReadyH.cons (o := { dst := some 101, op := Go.Op.call { callee := Go.Callee.value (Go.Operand.func 9), args := #[Go.Operand.tmp 97, Go.Operand.const (Go.Value.string { data := #[110] }), Go.Operand.tmp 100], argTypes := #[36, 9, 42] }, type := 39, pos := "law.go:147", after := #[{ on := 0, ground := Go.Ground.data }, { on := 3, ground := Go.Ground.data }], guard := none }) rfl (fun K hK => ?_) AllReadyH.nil
      go_simp
      (refine (HSU.out VZx9W12 hvVZx9W12 (b16) (Nat.lt_of_lt_of_le (Blk.lt HOD.out) hvVZx9W12.size) rfl).mono ?_; rintro e VSx9W12 ⟨rfl, hrs, hb⟩; (try have HZB := Lib.hid (Blk.below HZB.out hb (Blk.lt HZB.out))); have HRS := Lib.hid hrs; have hvVSx9W12 := Below.trans hvVZx9W12 (hb.mono hvVZx9W12.size); clear hb hrs; skip)
      (try go_wp2_with fail)
      refine hK.out _ _ ?_ (fun hHeld => ?_)
      · (try dsimp only)
        (first | exact Below.refl _ _ | assumption)
      clear hK K
      (try simp only [Act.put, List.setIfInBounds_toArray, List.set_cons_zero, List.set_cons_succ])
      refine wpAnyH_take (i := 5) (oi := { dst := some 96, op := Go.Op.move (Go.Operand.tmp 101), type := 39, pos := "law.go:147", after := #[{ on := 4, ground := Go.Ground.data }], guard := none }) (v := ?_) rfl (by kernel_rfl) (by kernel_rfl) (by kernel_rfl) (fun _ _ _ h => h) (Or.inl ⟨by rfl, ?_⟩) (by assumption) ?_
      rotate_left
      · intro wS hSw
        (try dsimp only at hSw)
        go_simp
        (try with_reducible rfl)
      (try simp only [Act.put, List.setIfInBounds_toArray, List.set_cons_zero, List.set_cons_succ])
      refine wpAnyH_take (i := 6) (oi := { dst := some 102, op := Go.Op.extract (Go.Operand.tmp 96) 0, type := 36, pos := "law.go:147", after := #[{ on := 5, ground := Go.Ground.data }], guard := none }) (v := ?_) rfl (by kernel_rfl) (by kernel_rfl) (by kernel_rfl) (fun _ _ _ h => h) (Or.inl ⟨by rfl, ?_⟩) (by assumption) ?_
      rotate_left
      · intro wS hSw
        (try dsimp only at hSw)
        go_simp
        (try with_reducible rfl)
      (try simp only [Act.put, List.setIfInBounds_toArray, List.set_cons_zero, List.set_cons_succ])
      refine wpAnyH_take (i := 7) (oi := { dst := some 103, op := Go.Op.extract (Go.Operand.tmp 96) 1, type := 4, pos := "law.go:147", after := #[{ on := 5, ground := Go.Ground.data }, { on := 10, ground := Go.Ground.gcOnly Go.Departure.lateStores }], guard := none }) (v := ?_) rfl (by kernel_rfl) (by kernel_rfl) (by kernel_rfl) (fun _ _ _ h => h) (Or.inl ⟨by rfl, ?_⟩) (by assumption) ?_
      rotate_left
      · intro wS hSw
        (try dsimp only at hSw)
        go_simp
        (try with_reducible rfl)
      (try simp only [Act.put, List.setIfInBounds_toArray, List.set_cons_zero, List.set_cons_succ])
      refine wpAnyH_take (i := 8) (oi := { dst := some 104, op := Go.Op.extract (Go.Operand.tmp 96) 2, type := 31, pos := "law.go:147", after := #[{ on := 5, ground := Go.Ground.data }, { on := 11, ground := Go.Ground.gcOnly Go.Departure.lateStores }], guard := none }) (v := ?_) rfl (by kernel_rfl) (by kernel_rfl) (by kernel_rfl) (fun _ _ _ h => h) (Or.inl ⟨by rfl, ?_⟩) (by assumption) ?_
      rotate_left
      · intro wS hSw
        (try dsimp only at hSw)
        go_simp
        (try with_reducible rfl)
      (try simp only [Act.put, List.setIfInBounds_toArray, List.set_cons_zero, List.set_cons_succ])
      refine wpAnyH_ready (rs := [10]) (by kernel_rfl) (by simp) ?_
      refine AllReadyH.cons (o := { dst := none, op := Go.Op.store 36 (Go.Operand.tmp 20) (Go.Operand.tmp 102), type := 0, pos := "law.go:147", after := #[{ on := 9, ground := Go.Ground.data }, { on := 6, ground := Go.Ground.data }, { on := 4, ground := Go.Ground.chain }, { on := 0, ground := Go.Ground.phase }, { on := 1, ground := Go.Ground.phase }, { on := 2, ground := Go.Ground.phase }, { on := 3, ground := Go.Ground.phase }, { on := 4, ground := Go.Ground.phase }, { on := 5, ground := Go.Ground.phase }, { on := 6, ground := Go.Ground.phase }, { on := 7, ground := Go.Ground.textOnly Go.Departure.lateStores }, { on := 8, ground := Go.Ground.textOnly Go.Departure.lateStores }, { on := 9, ground := Go.Ground.phase }], guard := none }) rfl (fun K hK => ?_) AllReadyH.nil
      (refine step_storeM rfl 36 (.tmp 20) (.tmp 102) rfl (W12.heap.size) 0 #[.int .i64 0, .int .i64 0, .int .u32 0, .string ⟨#[]⟩, .slice none 0 0] rfl rfl (HZB.out.there (n := 5) (Nat.le_refl 5)) info_pg (one_pg _ _ _ _ _ _ _) ?_; have HO9 : Hid (Own (W12.heap.size) VSx9W12 _) := Lib.hid (Own.setCells #[.int .i64 0, .int .i64 0, .int .u32 0, .string ⟨#[]⟩, .slice none 0 0].toList 0 VSx9W12); have HV9 := Lib.hid (hvVSx9W12.trans (HO9.out.below HZV.out.1 hvVSx9W12.size)); have hv9 := HV9.out; have HB9 : Hid (Blk (VSx9W12.setCells (W12.heap.size) 0 [.int .i64 0, .int .i64 0, .int .u32 0, .string ⟨#[]⟩, .slice none 0 0]) (W12.heap.size) #[.int .i64 0, .int .i64 0, .int .u32 0, .string ⟨#[]⟩, .slice none 0 0] 36) := Lib.hid (HZB.out.whole5 rfl _ _ _ _ _); skip)
      refine hK.out _ _ ?_ (fun hHeld => ?_)
      · (try dsimp only)
        (first | exact Below.refl _ _ | assumption)
      clear hK K
      (try simp only [Act.put, List.setIfInBounds_toArray, List.set_cons_zero, List.set_cons_succ])
      refine wpAnyH_take (i := 11) (oi := { dst := some 21, op := Go.Op.assign (Go.Operand.tmp 103), type := 4, pos := "law.go:147", after := #[{ on := 7, ground := Go.Ground.data }, { on := 10, ground := Go.Ground.chain }, { on := 0, ground := Go.Ground.phase }, { on := 1, ground := Go.Ground.phase }, { on := 2, ground := Go.Ground.phase }, { on := 3, ground := Go.Ground.phase }, { on := 4, ground := Go.Ground.phase }, { on := 5, ground := Go.Ground.phase }, { on := 6, ground := Go.Ground.phase }, { on := 7, ground := Go.Ground.phase }, { on := 8, ground := Go.Ground.textOnly Go.Departure.lateStores }, { on := 9, ground := Go.Ground.phase }, { on := 10, ground := Go.Ground.phase }], guard := none }) (v := ?_) rfl (by kernel_rfl) (by kernel_rfl) (by kernel_rfl) (fun _ _ _ h => h) (Or.inl ⟨by rfl, ?_⟩) (by assumption) ?_
      rotate_left
      · intro wS hSw
        (try dsimp only at hSw)
        go_simp
        (try with_reducible rfl)
      (try simp only [Act.put, List.setIfInBounds_toArray, List.set_cons_zero, List.set_cons_succ])
      refine wpAnyH_take (i := 12) (oi := { dst := some 22, op := Go.Op.assign (Go.Operand.tmp 104), type := 31, pos := "law.go:147", after := #[{ on := 8, ground := Go.Ground.data }, { on := 11, ground := Go.Ground.chain }, { on := 0, ground := Go.Ground.phase }, { on := 1, ground := Go.Ground.phase }, { on := 2, ground := Go.Ground.phase }, { on := 3, ground := Go.Ground.phase }, { on := 4, ground := Go.Ground.phase }, { on := 5, ground := Go.Ground.phase }, { on := 6, ground := Go.Ground.phase }, { on := 7, ground := Go.Ground.phase }, { on := 8, ground := Go.Ground.phase }, { on := 9, ground := Go.Ground.phase }, { on := 10, ground := Go.Ground.phase }, { on := 11, ground := Go.Ground.phase }], guard := none }) (v := ?_) rfl (by kernel_rfl) (by kernel_rfl) (by kernel_rfl) (fun _ _ _ h => h) (Or.inl ⟨by rfl, ?_⟩) (by assumption) ?_
      rotate_left
      · intro wS hSw
        (try dsimp only at hSw)
        go_simp
        (try with_reducible rfl)
      (try simp only [Act.put, List.setIfInBounds_toArray, List.set_cons_zero, List.set_cons_succ])
      refine wpAnyH_done (by kernel_rfl) ?_ _
      go_wp2_with fail
      go_meet
      exact ⟨_, rfl, rfl, rfl, HV9.out⟩
    case rest =>
      obtain ⟨b20, rfl, rfl, rfl, hbx⟩ := hcut
      generalize wc = w13 at *
      have HPW13 := Lib.hid (HPWD.out.later hbx)
      have HY13 := Lib.hid (Blk.below HXD.out hbx (Blk.lt HXD.out))
      have HO13 := Lib.hid (Blk.below HOD.out hbx (Blk.lt HOD.out))
      have HS13 := Lib.hid (HSD.out.later hbx)
      have HRL := Lib.hid (HPW13.out.r1 HI2.out.2.2.2)
      have HTH := Lib.hid (HO13.out.there (n := 3) (Nat.le_refl 3))
      obtain ⟨w14, hw14⟩ : ∃ q, w13.setCells b16 0 [.int .u8 2, .int .u32 3, .slice (some ⟨wA.heap.size + 2, 0, none⟩) 32 32] = q := ⟨_, rfl⟩
      have hO14 : Own b16 w13 w14 := by rw [← hw14]; exact Own.setCells _ _ _
      have hB14 : Below b16 w13 w14 := hO14.below (Nat.le_refl _) (Nat.le_of_lt (Blk.lt HO13.out))
      have HO14 : Hid (Blk w14 b16 #[.int .u8 2, .int .u32 3, .slice (some ⟨wA.heap.size + 2, 0, none⟩) 32 32] 42) := Lib.hid (by rw [← hw14]; exact Blk.setCells HO13.out [.int .u8 2, .int .u32 3, .slice (some ⟨wA.heap.size + 2, 0, none⟩) 32 32] rfl)
      have hge := HC.out
      have hge2 := HN16.out
      have HPW14 := Lib.hid (HPW13.out.belowB hB14 (by omega) (by omega) (by omega))
      have HY14 := Lib.hid (Blk.below HY13.out hB14 hge2.1)
      have HS14 := Lib.hid (HS13.out.own hO14)
      have HW14 := Lib.hid hw14
      obtain ⟨M1, hM1⟩ : ∃ q, Np + 1 = q := ⟨_, rfl⟩
      have v1 : (Np : Int) + 1 = (M1 : Int) := by omega
      have v2 : IntKind.i64.wrap (M1 : Int) = (M1 : Int) := IntWalk.i64_in _ (by have := HKN.out; omega)
      have v3 : IntKind.u8.wrap (M1 : Int) = (M1 : Int) := IntWalk.u8_in _ (by have := HKN.out; omega)
      have HM1 := Lib.hid (show Np < M1 ∧ M1 < 256 by have := HKN.out; omega)
      obtain ⟨w15, hw15⟩ : ∃ q, w14.setCell ⟨b16, 0, none⟩ (.int .u8 (M1 : Int)) = q := ⟨_, rfl⟩
      have hO15 : Own b16 w14 w15 := by rw [← hw15]; exact (Own.refl _ _).set 0 _
      have hB15 : Below b16 w14 w15 := hO15.below (Nat.le_refl _) (Nat.le_of_lt (Blk.lt HO14.out))
      have HO15 : Hid (Blk w15 b16 #[.int .u8 (M1 : Int), .int .u32 3, .slice (some ⟨wA.heap.size + 2, 0, none⟩) 32 32] 42) := Lib.hid (by rw [← hw15]; exact HO14.out.set 0 _)
      have HPW15 := Lib.hid (HPW14.out.belowB hB15 (by omega) (by omega) (by omega))
      have HY15 := Lib.hid (Blk.below HY14.out hB15 hge2.1)
      have HS15 := Lib.hid (HS14.out.own hO15)
      have HW15 := Lib.hid hw15
      have f16 : w14.frozen? ⟨b16, 0, none⟩ = false := Blk.free HO14.out 0
      have c16 : w14.cell? ⟨b16, 0, none⟩ = some (.int .u8 2) := by rw [Blk.cell HO14.out]; rfl
      have p16 : w14.cell? ⟨b7, 1, none⟩ = some (.int .i64 (Np : Int)) := by rw [Blk.cell HPW14.out.p]; rfl
      have HRY := Lib.hid (range5 HY15.out)
      have HRS := Lib.hid (Blk.range0 (C := [.int .u8 (M1 : Int), .int .u32 3, .slice (some ⟨wA.heap.size + 2, 0, none⟩) 32 32]) HO15.out)
      clear hO14 hB14 hO15 hB15 hge hge2 hM1 hbx HPWD HXD HOD HSD HSU HPW12 HY12 HO12 HS12 hw14
      go_wp2_with (first | (refine wpList_value rfl (exec_loadM (x := .tmp 106) (cs := [.int .u8 2, .int .u32 3, .slice (some ⟨wA.heap.size + 2, 0, none⟩) 32 32]) rfl rfl HRL.out Tryd.underlying42 rfl info_share3) ?_) | (refine wpList_store_mid rfl 42 (.tmp 16) (.tmp 107) rfl b16 0 #[.int .u8 2, .int .u32 3, .slice (some ⟨wA.heap.size + 2, 0, none⟩) 32 32] rfl rfl HTH.out info_share3 (one_share _ _ _ _ _ _ _) ?_; rw [HW14.out]) | (refine wpList_value rfl (exec_loadM (x := .tmp 13) (cs := [.int .i64 (Kp : Int), .int .i64 (Np : Int), .int .u32 3, .string ⟨#[109]⟩, .slice o 1 c]) rfl rfl HRY.out Tryd.underlying36 rfl info_pg) ?_) | (refine wpList_value rfl (exec_loadM (x := .tmp 16) (cs := [.int .u8 (M1 : Int), .int .u32 3, .slice (some ⟨wA.heap.size + 2, 0, none⟩) 32 32]) rfl rfl HRS.out Tryd.underlying42 rfl info_share3) ?_))
      refine (submit_place HPW15.out HKN.out.1 HKN.out.2.2.1 (by have := HKN.out; omega) b16 c M1 o HM1.out.1 HM1.out.2 (Blk.lt HO15.out) (by have := HC.out; have := HN16.out; have := HKN.out; omega) HS15.out HC.out.1 HC.out.2.1).mono ?_
      rintro e w16 ⟨rfl, hb⟩
      obtain ⟨b23, hqb23⟩ : ∃ y, w16.heap.size = y := ⟨_, rfl⟩
      obtain ⟨wz23, hwz23⟩ : ∃ y, w16.alloc (.cells #[.int .i64 0, .int .i64 0, .int .u32 0, .string ⟨#[]⟩, .slice none 0 0] 36) = y := ⟨_, rfl⟩
      have hbz : Below w16.heap.size w16 wz23 := by rw [← hwz23]; exact (Below.refl _ _).alloc (Nat.le_refl _) _
      have hXz : Blk wz23 b23 #[.int .i64 0, .int .i64 0, .int .u32 0, .string ⟨#[]⟩, .slice none 0 0] 36 := by rw [← hwz23, ← hqb23]; exact Blk.new _ _ _
      have HTZb23 : Hid (wz23.there b23 0 5) := Lib.hid (hXz.there (by decide))
      obtain ⟨w17, hw5⟩ : ∃ y, wz23.setCells b23 0 [.int .i64 0, .int .i64 0, .int .u32 0, .string ⟨#[]⟩, .slice none 0 0] = y := ⟨_, rfl⟩
      have hOz : Own b23 wz23 w17 := by rw [← hw5]; exact Own.setCells _ _ _
      have HBw17 : Hid (Below w16.heap.size w16 w17) := Lib.hid (hbz.trans (hOz.below (by omega) hbz.size))
      have HNw17 : Hid (Blk w17 b23 #[.int .i64 0, .int .i64 0, .int .u32 0, .string ⟨#[]⟩, .slice none 0 0] 36) := Lib.hid (by rw [← hw5]; exact hXz.whole5 rfl _ _ _ _ _)
      have HWw17 := Lib.hid hw5
      clear hbz hXz hOz hw5
      have HPW17 := Lib.hid ((HPW15.out.later hb).later HBw17.out)
      have HY17 := Lib.hid (Blk.below (Blk.below HY15.out hb (Blk.lt HY15.out)) HBw17.out (Blk.lt (Blk.below HY15.out hb (Blk.lt HY15.out))))
      have HRY7 := Lib.hid (range5 HY17.out)
      clear hb HPW15 HPW14 HPW13 HY15 HY14 HY13 HS15 HS14 HS13 HO13 HO14 HO15 HRY HRS HRL HTH HW14 HW15 f16 c16 p16 v1 v2 v3 hw15
      go_wp2_with (first | (refine wpList_zero rfl rfl zpg_run ?_; rw [hwz23, hqb23]; (try simp only [Act.put, List.setIfInBounds_toArray, List.set_cons_zero, List.set_cons_succ])) | (refine wpList_store_mid rfl 36 (.tmp 23) (.tmp 117) rfl b23 0 #[.int .i64 0, .int .i64 0, .int .u32 0, .string ⟨#[]⟩, .slice none 0 0] rfl rfl HTZb23.out info_pg (one_pg _ _ _ _ _ _ _) ?_; rw [HWw17.out]) | (refine wpList_value rfl (exec_loadM (x := .tmp 13) (cs := [.int .i64 (Kp : Int), .int .i64 (Np : Int), .int .u32 3, .string ⟨#[109]⟩, .slice o 1 c]) rfl rfl HRY7.out Tryd.underlying36 rfl info_pg) ?_))
      refine (reset_any (Kp : Int) (Np : Int) 3 1 c ⟨#[109]⟩ o w17).mono ?_
      rintro e w18 ⟨rfl, hb⟩
      obtain ⟨b26, hqb26⟩ : ∃ y, w18.heap.size = y := ⟨_, rfl⟩
      obtain ⟨wz26, hwz26⟩ : ∃ y, w18.alloc (.cells #[.int .i64 0, .int .i64 0, .int .u32 0, .string ⟨#[]⟩, .slice none 0 0] 36) = y := ⟨_, rfl⟩
      have hbz : Below w18.heap.size w18 wz26 := by rw [← hwz26]; exact (Below.refl _ _).alloc (Nat.le_refl _) _
      have hXz : Blk wz26 b26 #[.int .i64 0, .int .i64 0, .int .u32 0, .string ⟨#[]⟩, .slice none 0 0] 36 := by rw [← hwz26, ← hqb26]; exact Blk.new _ _ _
      have HTZb26 : Hid (wz26.there b26 0 5) := Lib.hid (hXz.there (by decide))
      obtain ⟨w19, hw5⟩ : ∃ y, wz26.setCells b26 0 [.int .i64 (Kp : Int), .int .i64 (Np : Int), .int .u32 3, .string ⟨#[109]⟩, .slice none 0 0] = y := ⟨_, rfl⟩
      have hOz : Own b26 wz26 w19 := by rw [← hw5]; exact Own.setCells _ _ _
      have HBw19 : Hid (Below w18.heap.size w18 w19) := Lib.hid (hbz.trans (hOz.below (by omega) hbz.size))
      have HNw19 : Hid (Blk w19 b26 #[.int .i64 (Kp : Int), .int .i64 (Np : Int), .int .u32 3, .string ⟨#[109]⟩, .slice none 0 0] 36) := Lib.hid (by rw [← hw5]; exact hXz.whole5 rfl _ _ _ _ _)
      have HWw19 := Lib.hid hw5
      clear hbz hXz hOz hw5
      have HPW19 := Lib.hid ((HPW17.out.later hb).later HBw19.out)
      have HY19 := Lib.hid (Blk.below (Blk.below HY17.out hb (Blk.lt HY17.out)) HBw19.out (Blk.lt (Blk.below HY17.out hb (Blk.lt HY17.out))))
      have y4 := pg_sl HY19.out
      have z4 := pg_sl HNw19.out
      clear hb HPW17 HY17 HRY7
      by_cases hg3 : gn = 3
      · skip
        have hev : ev2 = .nilIface := by
          rcases HEV.out with ⟨h1, h2⟩ | ⟨h1, h2⟩
          · exact h2
          · exact absurd hg3 h1
        subst hev
        have HNBw19 := HNw19
        have g1 : (gn : Int) = 3 := by omega
        have g2 : ((gn : Int) == 3) = true := by simp only [beq_iff_eq]; exact g1
        have g3 : decide ((gn : Int) = 3) = true := decide_eq_true g1
        have g4 : (gn == 3) = true := by simp only [beq_iff_eq]; exact hg3
        have g5 : ((gn : Int) != 3) = false := by simp [bne, g2]
        have g6 : decide (gn = 3) = true := decide_eq_true hg3
        clear g1
        go_wp2_with (first | (refine wpList_zero rfl rfl zpg_run ?_; rw [hwz26, hqb26]; (try simp only [Act.put, List.setIfInBounds_toArray, List.set_cons_zero, List.set_cons_succ])) | (refine wpList_store_mid rfl 36 (.tmp 26) (.tmp 121) rfl b26 0 #[.int .i64 (Kp : Int), .int .i64 (Np : Int), .int .u32 3, .string ⟨#[109]⟩, .slice none 0 0] rfl rfl HTZb26.out info_pg (one_pg _ _ _ _ _ _ _) ?_; rw [HWw19.out]))
        refine (num_err03 15 w19 (HG.out w19 HPW19.out.b)).mono ?_
        rintro e w21 ⟨rfl, hb⟩
        have HPW21 := Lib.hid (HPW19.out.later hb)
        have HNBw21 := Lib.hid (Blk.below HNBw19.out hb (Blk.lt HNBw19.out))
        have z4 := pg_sl HNBw21.out
        clear hb
        clear y4
        go_wp2_with fail
        refine (num_err03 12 w21 (HG.out w21 HPW21.out.b)).mono ?_
        rintro e w22 ⟨rfl, hb⟩
        have HPW22 := Lib.hid (HPW21.out.later hb)
        have HNBw22 := Lib.hid (Blk.below HNBw21.out hb (Blk.lt HNBw21.out))
        have z4 := pg_sl HNBw22.out
        clear hb
        go_upto_region 19 with fail
        have hd := (Below.refl w22.heap.size w22).drew
        have HPWD := Lib.hid (HPW22.out.later hd)
        have HXD := Lib.hid (Blk.below HNBw22.out hd (Blk.lt HNBw22.out))
        have HSU : Hid (∀ A, Below w22.drew.heap.size w22.drew A → ∀ t, t < A.heap.size → t ≠ wA.heap.size + 1 → Calls Tryd.prog 9 #[.agg #[.int .i64 (Kp : Int), .int .i64 (Np : Int), .int .u32 3, .string ⟨#[109]⟩, .slice none 0 0], .string ⟨#[109]⟩, .agg #[.int .u8 1, .int .u32 3, .slice (some ⟨wA.heap.size + 1, 0, none⟩) 32 32]] A fun e w' => ∃ o c, e = .returned (.tuple #[.agg #[.int .i64 (Kp : Int), .int .i64 (Np : Int), .int .u32 3, .string ⟨#[109]⟩, .slice o 1 c], .bool false, .nilIface]) ∧ 1 ≤ c ∧ c ≤ maxLen ∧ Shs t w' o 1 (S1of k f (fun _ => 0)) ∧ Below A.heap.size A w') := Lib.hid fun A hA t ht htn => submit_first (HPWD.out.later hA) HKN.out.1 HKN.out.2.2.1 (by have := HKN.out; omega) t ht htn
        have HZN2 : Hid (w22.drew.heap.size ≠ wA.heap.size + 1) := Lib.hid (by have h1 := HPWD.out.s.big; have := HKN.out; omega)
        clear hd z4
        go_cut [29] from 30 (fun s29 wx => s29 = .nilIface ∧ Below w22.drew.heap.size w22.drew wx)
        case first =>
          have hvW19 := Below.refl w22.drew.heap.size w22.drew
          refine wp_region_held_drew (S := (Below w22.drew.heap.size w22.drew)) (by kernel_rfl) ?_ (fun hHeld => ?_)
          · (try dsimp only)
            (first | exact Below.refl _ _ | assumption)
          generalize w22.drew = W19 at *
          refine wpAnyH_take (i := 0) (oi := { dst := some 163, op := Go.Op.load 36 (Go.Operand.tmp 26), type := 36, pos := "law.go:155", after := #[], guard := none }) (v := ?_) rfl (by kernel_rfl) (by kernel_rfl) (by kernel_rfl) (fun _ _ _ h => h) (Or.inl ⟨by rfl, ?_⟩) (by assumption) ?_
          rotate_left
          · intro wS hSw
            (refine exec_loadM (x := .tmp 26) (cs := [.int .i64 (Kp : Int), .int .i64 (Np : Int), .int .u32 3, .string ⟨#[109]⟩, .slice none 0 0]) ?_ ?_ (range5 (Blk.below HXD.out hSw (Blk.lt HXD.out))) Tryd.underlying36 rfl info_pg <;> rfl)
          (try simp only [Act.put, List.setIfInBounds_toArray, List.set_cons_zero, List.set_cons_succ])
          refine wpAnyH_take (i := 1) (oi := { dst := some 164, op := Go.Op.move (Go.Operand.tmp 9), type := 29, pos := "law.go:155", after := #[], guard := none }) (v := ?_) rfl (by kernel_rfl) (by kernel_rfl) (by kernel_rfl) (fun _ _ _ h => h) (Or.inl ⟨by rfl, ?_⟩) (by assumption) ?_
          rotate_left
          · intro wS hSw
            (try dsimp only at hSw)
            go_simp
            (try with_reducible rfl)
          (try simp only [Act.put, List.setIfInBounds_toArray, List.set_cons_zero, List.set_cons_succ])
          refine wpAnyH_take (i := 2) (oi := { dst := some 165, op := Go.Op.indexAddr 29 (Go.Operand.tmp 164) (Go.Operand.const (Go.Value.int Go.IntKind.i64 0)), type := 0, pos := "law.go:155", after := #[{ on := 1, ground := Go.Ground.data }], guard := none }) (v := ?_) rfl (by kernel_rfl) (by kernel_rfl) (by kernel_rfl) (fun _ _ _ h => h) (Or.inl ⟨by rfl, ?_⟩) (by assumption) ?_
          rotate_left
          · intro wS hSw
            (try dsimp only at hSw)
            go_simp
            (try with_reducible rfl)
          (try simp only [Act.put, List.setIfInBounds_toArray, List.set_cons_zero, List.set_cons_succ])
          refine wpAnyH_take (i := 3) (oi := { dst := some 166, op := Go.Op.load 42 (Go.Operand.tmp 165), type := 42, pos := "law.go:155", after := #[{ on := 2, ground := Go.Ground.data }], guard := none }) (v := ?_) rfl (by kernel_rfl) (by kernel_rfl) (by kernel_rfl) (fun _ _ _ h => h) (Or.inl ⟨by rfl, ?_⟩) (by assumption) ?_
          rotate_left
          · intro wS hSw
            (refine exec_loadM (x := .tmp 165) (cs := [.int .u8 1, .int .u32 3, .slice (some ⟨wA.heap.size + 1, 0, none⟩) 32 32]) ?_ ?_ ((HPWD.out.later hSw).r0 HI2.out.2.2.2) Tryd.underlying42 rfl info_share3 <;> rfl)
          (try simp only [Act.put, List.setIfInBounds_toArray, List.set_cons_zero, List.set_cons_succ])
          refine wpAnyH_ready (rs := [4, 9]) (by kernel_rfl) (by simp) ?_
          refine AllReadyH.cons (o := { dst := some 167, op := Go.Op.call { callee := Go.Callee.value (Go.Operand.func 9), args := #[Go.Operand.tmp 163, Go.Operand.const (Go.Value.string { data := #[109] }), Go.Operand.tmp 166], argTypes := #[36, 9, 42] }, type := 39, pos := "law.go:155", after := #[{ on := 0, ground := Go.Ground.data }, { on := 3, ground := Go.Ground.data }], guard := none }) rfl (fun K hK => ?_) ?_
          · skip
            go_simp
            (refine (HSU.out W19 hvW19 (b7) (Nat.lt_of_lt_of_le (Blk.lt HPWD.out.p) hvW19.size) HB71.out).mono ?_; rintro e VSx4W19 ⟨oy, cy, rfl, hcy1, hcy2, hrs, hb⟩; (try have HZB := Lib.hid (Blk.below HZB.out hb (Blk.lt HZB.out))); have HRS := Lib.hid hrs; have hvVSx4W19 := Below.trans hvW19 (hb.mono hvW19.size); clear hb hrs; skip)
            (try go_wp2_with fail)
            refine hK.out _ _ ?_ (fun hHeld => ?_)
            · (try dsimp only)
              (first | exact Below.refl _ _ | assumption)
            clear hK K
            (try simp only [Act.put, List.setIfInBounds_toArray, List.set_cons_zero, List.set_cons_succ])
            refine wpAnyH_take (i := 5) (oi := { dst := some 162, op := Go.Op.move (Go.Operand.tmp 167), type := 39, pos := "law.go:155", after := #[{ on := 4, ground := Go.Ground.data }], guard := none }) (v := ?_) rfl (by kernel_rfl) (by kernel_rfl) (by kernel_rfl) (fun _ _ _ h => h) (Or.inl ⟨by rfl, ?_⟩) (by assumption) ?_
            rotate_left
            · intro wS hSw
              (try dsimp only at hSw)
              go_simp
              (try with_reducible rfl)
            (try simp only [Act.put, List.setIfInBounds_toArray, List.set_cons_zero, List.set_cons_succ])
            refine wpAnyH_take (i := 6) (oi := { dst := some 168, op := Go.Op.extract (Go.Operand.tmp 162) 0, type := 36, pos := "law.go:155", after := #[{ on := 5, ground := Go.Ground.data }], guard := none }) (v := ?_) rfl (by kernel_rfl) (by kernel_rfl) (by kernel_rfl) (fun _ _ _ h => h) (Or.inl ⟨by rfl, ?_⟩) (by assumption) ?_
            rotate_left
            · intro wS hSw
              (try dsimp only at hSw)
              go_simp
              (try with_reducible rfl)
            (try simp only [Act.put, List.setIfInBounds_toArray, List.set_cons_zero, List.set_cons_succ])
            refine wpAnyH_take (i := 7) (oi := { dst := some 169, op := Go.Op.extract (Go.Operand.tmp 162) 1, type := 4, pos := "law.go:155", after := #[{ on := 5, ground := Go.Ground.data }, { on := 10, ground := Go.Ground.gcOnly Go.Departure.lateStores }], guard := none }) (v := ?_) rfl (by kernel_rfl) (by kernel_rfl) (by kernel_rfl) (fun _ _ _ h => h) (Or.inl ⟨by rfl, ?_⟩) (by assumption) ?_
            rotate_left
            · intro wS hSw
              (try dsimp only at hSw)
              go_simp
              (try with_reducible rfl)
            (try simp only [Act.put, List.setIfInBounds_toArray, List.set_cons_zero, List.set_cons_succ])
            refine wpAnyH_take (i := 8) (oi := { dst := some 170, op := Go.Op.extract (Go.Operand.tmp 162) 2, type := 31, pos := "law.go:155", after := #[{ on := 5, ground := Go.Ground.data }, { on := 11, ground := Go.Ground.gcOnly Go.Departure.lateStores }], guard := none }) (v := ?_) rfl (by kernel_rfl) (by kernel_rfl) (by kernel_rfl) (fun _ _ _ h => h) (Or.inl ⟨by rfl, ?_⟩) (by assumption) ?_
            rotate_left
            · intro wS hSw
              (try dsimp only at hSw)
              go_simp
              (try with_reducible rfl)
            (try simp only [Act.put, List.setIfInBounds_toArray, List.set_cons_zero, List.set_cons_succ])
            refine wpAnyH_ready (rs := [9]) (by kernel_rfl) (by simp) ?_
            refine AllReadyH.cons (o := { dst := some 27, op := Go.Op.alloc 36, type := 0, pos := "law.go:155", after := #[], guard := none }) rfl (fun K hK => ?_) AllReadyH.nil
            (refine step_zero rfl rfl zpg_run ?_; obtain ⟨VZx4W19, hw⟩ : ∃ q, VSx4W19.alloc (.cells #[.int .i64 0, .int .i64 0, .int .u32 0, .string ⟨#[]⟩, .slice none 0 0] 36) = q := ⟨_, rfl⟩; rw [hw]; have hb : Below VSx4W19.heap.size VSx4W19 VZx4W19 := (by rw [← hw]; exact (Below.refl _ _).alloc (Nat.le_refl _) _); have HRS := Lib.hid (trivial); have HZB : Hid (Blk VZx4W19 VSx4W19.heap.size #[.int .i64 0, .int .i64 0, .int .u32 0, .string ⟨#[]⟩, .slice none 0 0] 36) := Lib.hid (by rw [← hw]; exact Blk.new _ _ _); have HZV := Lib.hid (show W19.heap.size ≤ VSx4W19.heap.size ∧ VSx4W19.heap.size < VZx4W19.heap.size from ⟨hvVSx4W19.size, by rw [← hw]; simp⟩); have hvVZx4W19 := Below.trans hvVSx4W19 (hb.mono hvVSx4W19.size); clear hb hw; skip)
            refine hK.out _ _ ?_ (fun hHeld => ?_)
            · (try dsimp only)
              (first | exact Below.refl _ _ | assumption)
            clear hK K
            (try simp only [Act.put, List.setIfInBounds_toArray, List.set_cons_zero, List.set_cons_succ])
            refine wpAnyH_ready (rs := [10]) (by kernel_rfl) (by simp) ?_
            refine AllReadyH.cons (o := { dst := none, op := Go.Op.store 36 (Go.Operand.tmp 27) (Go.Operand.tmp 168), type := 0, pos := "law.go:155", after := #[{ on := 9, ground := Go.Ground.data }, { on := 6, ground := Go.Ground.data }, { on := 4, ground := Go.Ground.chain }, { on := 0, ground := Go.Ground.phase }, { on := 1, ground := Go.Ground.phase }, { on := 2, ground := Go.Ground.phase }, { on := 3, ground := Go.Ground.phase }, { on := 4, ground := Go.Ground.phase }, { on := 5, ground := Go.Ground.phase }, { on := 6, ground := Go.Ground.phase }, { on := 7, ground := Go.Ground.textOnly Go.Departure.lateStores }, { on := 8, ground := Go.Ground.textOnly Go.Departure.lateStores }, { on := 9, ground := Go.Ground.phase }], guard := none }) rfl (fun K hK => ?_) AllReadyH.nil
            (refine step_storeM rfl 36 (.tmp 27) (.tmp 168) rfl (VSx4W19.heap.size) 0 #[.int .i64 (Kp : Int), .int .i64 (Np : Int), .int .u32 3, .string ⟨#[109]⟩, .slice oy 1 cy] rfl rfl (HZB.out.there (n := 5) (Nat.le_refl 5)) info_pg (one_pg _ _ _ _ _ _ _) ?_; have HO9 : Hid (Own (VSx4W19.heap.size) VZx4W19 _) := Lib.hid (Own.setCells #[.int .i64 (Kp : Int), .int .i64 (Np : Int), .int .u32 3, .string ⟨#[109]⟩, .slice oy 1 cy].toList 0 VZx4W19); have HV9 := Lib.hid (hvVZx4W19.trans (HO9.out.below HZV.out.1 hvVZx4W19.size)); have hv9 := HV9.out; have HB9 : Hid (Blk (VZx4W19.setCells (VSx4W19.heap.size) 0 [.int .i64 (Kp : Int), .int .i64 (Np : Int), .int .u32 3, .string ⟨#[109]⟩, .slice oy 1 cy]) (VSx4W19.heap.size) #[.int .i64 (Kp : Int), .int .i64 (Np : Int), .int .u32 3, .string ⟨#[109]⟩, .slice oy 1 cy] 36) := Lib.hid (HZB.out.whole5 rfl _ _ _ _ _); skip)
            refine hK.out _ _ ?_ (fun hHeld => ?_)
            · (try dsimp only)
              (first | exact Below.refl _ _ | assumption)
            clear hK K
            (try simp only [Act.put, List.setIfInBounds_toArray, List.set_cons_zero, List.set_cons_succ])
            refine wpAnyH_take (i := 11) (oi := { dst := some 28, op := Go.Op.assign (Go.Operand.tmp 169), type := 4, pos := "law.go:155", after := #[{ on := 7, ground := Go.Ground.data }, { on := 10, ground := Go.Ground.chain }, { on := 0, ground := Go.Ground.phase }, { on := 1, ground := Go.Ground.phase }, { on := 2, ground := Go.Ground.phase }, { on := 3, ground := Go.Ground.phase }, { on := 4, ground := Go.Ground.phase }, { on := 5, ground := Go.Ground.phase }, { on := 6, ground := Go.Ground.phase }, { on := 7, ground := Go.Ground.phase }, { on := 8, ground := Go.Ground.textOnly Go.Departure.lateStores }, { on := 9, ground := Go.Ground.phase }, { on := 10, ground := Go.Ground.phase }], guard := none }) (v := ?_) rfl (by kernel_rfl) (by kernel_rfl) (by kernel_rfl) (fun _ _ _ h => h) (Or.inl ⟨by rfl, ?_⟩) (by assumption) ?_
            rotate_left
            · intro wS hSw
              (try dsimp only at hSw)
              go_simp
              (try with_reducible rfl)
            (try simp only [Act.put, List.setIfInBounds_toArray, List.set_cons_zero, List.set_cons_succ])
            refine wpAnyH_take (i := 12) (oi := { dst := some 29, op := Go.Op.assign (Go.Operand.tmp 170), type := 31, pos := "law.go:155", after := #[{ on := 8, ground := Go.Ground.data }, { on := 11, ground := Go.Ground.chain }, { on := 0, ground := Go.Ground.phase }, { on := 1, ground := Go.Ground.phase }, { on := 2, ground := Go.Ground.phase }, { on := 3, ground := Go.Ground.phase }, { on := 4, ground := Go.Ground.phase }, { on := 5, ground := Go.Ground.phase }, { on := 6, ground := Go.Ground.phase }, { on := 7, ground := Go.Ground.phase }, { on := 8, ground := Go.Ground.phase }, { on := 9, ground := Go.Ground.phase }, { on := 10, ground := Go.Ground.phase }, { on := 11, ground := Go.Ground.phase }], guard := none }) (v := ?_) rfl (by kernel_rfl) (by kernel_rfl) (by kernel_rfl) (fun _ _ _ h => h) (Or.inl ⟨by rfl, ?_⟩) (by assumption) ?_
            rotate_left
            · intro wS hSw
              (try dsimp only at hSw)
              go_simp
              (try with_reducible rfl)
            (try simp only [Act.put, List.setIfInBounds_toArray, List.set_cons_zero, List.set_cons_succ])
            refine wpAnyH_done (by kernel_rfl) ?_ _
            go_wp2_with fail
            go_meet
            exact ⟨rfl, HV9.out⟩
          refine AllReadyH.cons (o := { dst := some 27, op := Go.Op.alloc 36, type := 0, pos := "law.go:155", after := #[], guard := none }) rfl (fun K hK => ?_) AllReadyH.nil
          (refine step_zero rfl rfl zpg_run ?_; obtain ⟨VZx9W19, hw⟩ : ∃ q, W19.alloc (.cells #[.int .i64 0, .int .i64 0, .int .u32 0, .string ⟨#[]⟩, .slice none 0 0] 36) = q := ⟨_, rfl⟩; rw [hw]; have hb : Below W19.heap.size W19 VZx9W19 := (by rw [← hw]; exact (Below.refl _ _).alloc (Nat.le_refl _) _); have HZB : Hid (Blk VZx9W19 W19.heap.size #[.int .i64 0, .int .i64 0, .int .u32 0, .string ⟨#[]⟩, .slice none 0 0] 36) := Lib.hid (by rw [← hw]; exact Blk.new _ _ _); have HZV := Lib.hid (show W19.heap.size ≤ W19.heap.size ∧ W19.heap.size < VZx9W19.heap.size from ⟨hvW19.size, by rw [← hw]; simp⟩); have hvVZx9W19 := Below.trans hvW19 (hb.mono hvW19.size); clear hb hw; skip)
          refine hK.out _ _ ?_ (fun hHeld => ?_)
          · (try dsimp only)
            (first | exact Below.refl _ _ | assumption)
          clear hK K
          (try simp only [Act.put, List.setIfInBounds_toArray, List.set_cons_zero, List.set_cons_succ])
          refine wpAnyH_ready (rs := [4]) (by kernel_rfl) (by simp) ?_
          refine AllReadyH.cons (o := { dst := some 167, op := Go.Op.call { callee := Go.Callee.value (Go.Operand.func 9), args := #[Go.Operand.tmp 163, Go.Operand.const (Go.Value.string { data := #[109] }), Go.Operand.tmp 166], argTypes := #[36, 9, 42] }, type := 39, pos := "law.go:155", after := #[{ on := 0, ground := Go.Ground.data }, { on := 3, ground := Go.Ground.data }], guard := none }) rfl (fun K hK => ?_) AllReadyH.nil
          go_simp
          (refine (HSU.out VZx9W19 hvVZx9W19 (W19.heap.size) (Blk.lt HZB.out) HZN2.out).mono ?_; rintro e VSx9W19 ⟨oy, cy, rfl, hcy1, hcy2, hrs, hb⟩; (try have HZB := Lib.hid (Blk.below HZB.out hb (Blk.lt HZB.out))); have HRS := Lib.hid hrs; have hvVSx9W19 := Below.trans hvVZx9W19 (hb.mono hvVZx9W19.size); clear hb hrs; skip)
          (try go_wp2_with fail)
          refine hK.out _ _ ?_ (fun hHeld => ?_)
          · (try dsimp only)
            (first | exact Below.refl _ _ | assumption)
          clear hK K
          (try simp only [Act.put, List.setIfInBounds_toArray, List.set_cons_zero, List.set_cons_succ])
          refine wpAnyH_take (i := 5) (oi := { dst := some 162, op := Go.Op.move (Go.Operand.tmp 167), type := 39, pos := "law.go:155", after := #[{ on := 4, ground := Go.Ground.data }], guard := none }) (v := ?_) rfl (by kernel_rfl) (by kernel_rfl) (by kernel_rfl) (fun _ _ _ h => h) (Or.inl ⟨by rfl, ?_⟩) (by assumption) ?_
          rotate_left
          · intro wS hSw
            (try dsimp only at hSw)
            go_simp
            (try with_reducible rfl)
          (try simp only [Act.put, List.setIfInBounds_toArray, List.set_cons_zero, List.set_cons_succ])
          refine wpAnyH_take (i := 6) (oi := { dst := some 168, op := Go.Op.extract (Go.Operand.tmp 162) 0, type := 36, pos := "law.go:155", after := #[{ on := 5, ground := Go.Ground.data }], guard := none }) (v := ?_) rfl (by kernel_rfl) (by kernel_rfl) (by kernel_rfl) (fun _ _ _ h => h) (Or.inl ⟨by rfl, ?_⟩) (by assumption) ?_
          rotate_left
          · intro wS hSw
            (try dsimp only at hSw)
            go_simp
            (try with_reducible rfl)
          (try simp only [Act.put, List.setIfInBounds_toArray, List.set_cons_zero, List.set_cons_succ])
          refine wpAnyH_take (i := 7) (oi := { dst := some 169, op := Go.Op.extract (Go.Operand.tmp 162) 1, type := 4, pos := "law.go:155", after := #[{ on := 5, ground := Go.Ground.data }, { on := 10, ground := Go.Ground.gcOnly Go.Departure.lateStores }], guard := none }) (v := ?_) rfl (by kernel_rfl) (by kernel_rfl) (by kernel_rfl) (fun _ _ _ h => h) (Or.inl ⟨by rfl, ?_⟩) (by assumption) ?_
          rotate_left
          · intro wS hSw
            (try dsimp only at hSw)
            go_simp
            (try with_reducible rfl)
          (try simp only [Act.put, List.setIfInBounds_toArray, List.set_cons_zero, List.set_cons_succ])
          refine wpAnyH_take (i := 8) (oi := { dst := some 170, op := Go.Op.extract (Go.Operand.tmp 162) 2, type := 31, pos := "law.go:155", after := #[{ on := 5, ground := Go.Ground.data }, { on := 11, ground := Go.Ground.gcOnly Go.Departure.lateStores }], guard := none }) (v := ?_) rfl (by kernel_rfl) (by kernel_rfl) (by kernel_rfl) (fun _ _ _ h => h) (Or.inl ⟨by rfl, ?_⟩) (by assumption) ?_
          rotate_left
          · intro wS hSw
            (try dsimp only at hSw)
            go_simp
            (try with_reducible rfl)
          (try simp only [Act.put, List.setIfInBounds_toArray, List.set_cons_zero, List.set_cons_succ])
          refine wpAnyH_ready (rs := [10]) (by kernel_rfl) (by simp) ?_
          refine AllReadyH.cons (o := { dst := none, op := Go.Op.store 36 (Go.Operand.tmp 27) (Go.Operand.tmp 168), type := 0, pos := "law.go:155", after := #[{ on := 9, ground := Go.Ground.data }, { on := 6, ground := Go.Ground.data }, { on := 4, ground := Go.Ground.chain }, { on := 0, ground := Go.Ground.phase }, { on := 1, ground := Go.Ground.phase }, { on := 2, ground := Go.Ground.phase }, { on := 3, ground := Go.Ground.phase }, { on := 4, ground := Go.Ground.phase }, { on := 5, ground := Go.Ground.phase }, { on := 6, ground := Go.Ground.phase }, { on := 7, ground := Go.Ground.textOnly Go.Departure.lateStores }, { on := 8, ground := Go.Ground.textOnly Go.Departure.lateStores }, { on := 9, ground := Go.Ground.phase }], guard := none }) rfl (fun K hK => ?_) AllReadyH.nil
          (refine step_storeM rfl 36 (.tmp 27) (.tmp 168) rfl (W19.heap.size) 0 #[.int .i64 (Kp : Int), .int .i64 (Np : Int), .int .u32 3, .string ⟨#[109]⟩, .slice oy 1 cy] rfl rfl (HZB.out.there (n := 5) (Nat.le_refl 5)) info_pg (one_pg _ _ _ _ _ _ _) ?_; have HO9 : Hid (Own (W19.heap.size) VSx9W19 _) := Lib.hid (Own.setCells #[.int .i64 (Kp : Int), .int .i64 (Np : Int), .int .u32 3, .string ⟨#[109]⟩, .slice oy 1 cy].toList 0 VSx9W19); have HV9 := Lib.hid (hvVSx9W19.trans (HO9.out.below HZV.out.1 hvVSx9W19.size)); have hv9 := HV9.out; have HB9 : Hid (Blk (VSx9W19.setCells (W19.heap.size) 0 [.int .i64 (Kp : Int), .int .i64 (Np : Int), .int .u32 3, .string ⟨#[109]⟩, .slice oy 1 cy]) (W19.heap.size) #[.int .i64 (Kp : Int), .int .i64 (Np : Int), .int .u32 3, .string ⟨#[109]⟩, .slice oy 1 cy] 36) := Lib.hid (HZB.out.whole5 rfl _ _ _ _ _); skip)
          refine hK.out _ _ ?_ (fun hHeld => ?_)
          · (try dsimp only)
            (first | exact Below.refl _ _ | assumption)
          clear hK K
          (try simp only [Act.put, List.setIfInBounds_toArray, List.set_cons_zero, List.set_cons_succ])
          refine wpAnyH_take (i := 11) (oi := { dst := some 28, op := Go.Op.assign (Go.Operand.tmp 169), type := 4, pos := "law.go:155", after := #[{ on := 7, ground := Go.Ground.data }, { on := 10, ground := Go.Ground.chain }, { on := 0, ground := Go.Ground.phase }, { on := 1, ground := Go.Ground.phase }, { on := 2, ground := Go.Ground.phase }, { on := 3, ground := Go.Ground.phase }, { on := 4, ground := Go.Ground.phase }, { on := 5, ground := Go.Ground.phase }, { on := 6, ground := Go.Ground.phase }, { on := 7, ground := Go.Ground.phase }, { on := 8, ground := Go.Ground.textOnly Go.Departure.lateStores }, { on := 9, ground := Go.Ground.phase }, { on := 10, ground := Go.Ground.phase }], guard := none }) (v := ?_) rfl (by kernel_rfl) (by kernel_rfl) (by kernel_rfl) (fun _ _ _ h => h) (Or.inl ⟨by rfl, ?_⟩) (by assumption) ?_
          rotate_left
          · intro wS hSw
            (try dsimp only at hSw)
            go_simp
            (try with_reducible rfl)
          (try simp only [Act.put, List.setIfInBounds_toArray, List.set_cons_zero, List.set_cons_succ])
          refine wpAnyH_take (i := 12) (oi := { dst := some 29, op := Go.Op.assign (Go.Operand.tmp 170), type := 31, pos := "law.go:155", after := #[{ on := 8, ground := Go.Ground.data }, { on := 11, ground := Go.Ground.chain }, { on := 0, ground := Go.Ground.phase }, { on := 1, ground := Go.Ground.phase }, { on := 2, ground := Go.Ground.phase }, { on := 3, ground := Go.Ground.phase }, { on := 4, ground := Go.Ground.phase }, { on := 5, ground := Go.Ground.phase }, { on := 6, ground := Go.Ground.phase }, { on := 7, ground := Go.Ground.phase }, { on := 8, ground := Go.Ground.phase }, { on := 9, ground := Go.Ground.phase }, { on := 10, ground := Go.Ground.phase }, { on := 11, ground := Go.Ground.phase }], guard := none }) (v := ?_) rfl (by kernel_rfl) (by kernel_rfl) (by kernel_rfl) (fun _ _ _ h => h) (Or.inl ⟨by rfl, ?_⟩) (by assumption) ?_
          rotate_left
          · intro wS hSw
            (try dsimp only at hSw)
            go_simp
            (try with_reducible rfl)
          (try simp only [Act.put, List.setIfInBounds_toArray, List.set_cons_zero, List.set_cons_succ])
          refine wpAnyH_done (by kernel_rfl) ?_ _
          go_wp2_with fail
          go_meet
          exact ⟨rfl, HV9.out⟩
        case rest =>
          obtain ⟨rfl, hbx⟩ := hcut
          generalize wc = w23 at *
          have HE := Lib.hid (HPWD.out.b.trans (hbx.mono HPWD.out.b.size))
          clear hbx
          go_wp2_with fail
          refine (sure23 w23 (HG.out w23 HE.out)).mono ?_
          rintro e w24 ⟨rfl, hb⟩
          have HE2 := Lib.hid (HE.out.trans (hb.mono HE.out.size))
          clear hb
          go_wp2_with fail
          go_ret
          exact ⟨rfl, HE2.out⟩
      · skip
        have hev : ev2 = .iface 83 (.int .i64 14) := by
          rcases HEV.out with ⟨h1, h2⟩ | ⟨h1, h2⟩
          · exact absurd h1 hg3
          · exact h2
        subst hev
        have HNBw19 := HNw19
        have g1 : ¬ (gn : Int) = 3 := by omega
        have g2 : ((gn : Int) == 3) = false := by simp only [beq_eq_false_iff_ne]; exact g1
        have g3 : decide ((gn : Int) = 3) = false := decide_eq_false g1
        have g4 : (gn == 3) = false := by simp only [beq_eq_false_iff_ne]; exact hg3
        have g5 : ((gn : Int) != 3) = true := by simp [bne, g2]
        have g6 : decide (gn = 3) = false := decide_eq_false hg3
        go_wp2_with (first | (refine wpList_zero rfl rfl zpg_run ?_; rw [hwz26, hqb26]; (try simp only [Act.put, List.setIfInBounds_toArray, List.set_cons_zero, List.set_cons_succ])) | (refine wpList_store_mid rfl 36 (.tmp 26) (.tmp 121) rfl b26 0 #[.int .i64 (Kp : Int), .int .i64 (Np : Int), .int .u32 3, .string ⟨#[109]⟩, .slice none 0 0] rfl rfl HTZb26.out info_pg (one_pg _ _ _ _ _ _ _) ?_; rw [HWw19.out]))
        refine (num_err03 14 w19 (HG.out w19 HPW19.out.b)).mono ?_
        rintro e w20 ⟨rfl, hb⟩
        have HPW20 := Lib.hid (HPW19.out.later hb)
        have HNBw20 := Lib.hid (Blk.below HNBw19.out hb (Blk.lt HNBw19.out))
        have z4 := pg_sl HNBw20.out
        clear hb
        clear y4
        go_wp2_with fail
        refine (num_err03 15 w20 (HG.out w20 HPW20.out.b)).mono ?_
        rintro e w21 ⟨rfl, hb⟩
        have HPW21 := Lib.hid (HPW20.out.later hb)
        have HNBw21 := Lib.hid (Blk.below HNBw20.out hb (Blk.lt HNBw20.out))
        have z4 := pg_sl HNBw21.out
        clear hb
        go_wp2_with fail
        refine (num_err03 12 w21 (HG.out w21 HPW21.out.b)).mono ?_
        rintro e w22 ⟨rfl, hb⟩
        have HPW22 := Lib.hid (HPW21.out.later hb)
        have HNBw22 := Lib.hid (Blk.below HNBw21.out hb (Blk.lt HNBw21.out))
        have z4 := pg_sl HNBw22.out
        clear hb
        go_upto_region 19 with fail
        have hd := (Below.refl w22.heap.size w22).drew
        have HPWD := Lib.hid (HPW22.out.later hd)
        have HXD := Lib.hid (Blk.below HNBw22.out hd (Blk.lt HNBw22.out))
        have HSU : Hid (∀ A, Below w22.drew.heap.size w22.drew A → ∀ t, t < A.heap.size → t ≠ wA.heap.size + 1 → Calls Tryd.prog 9 #[.agg #[.int .i64 (Kp : Int), .int .i64 (Np : Int), .int .u32 3, .string ⟨#[109]⟩, .slice none 0 0], .string ⟨#[109]⟩, .agg #[.int .u8 1, .int .u32 3, .slice (some ⟨wA.heap.size + 1, 0, none⟩) 32 32]] A fun e w' => ∃ o c, e = .returned (.tuple #[.agg #[.int .i64 (Kp : Int), .int .i64 (Np : Int), .int .u32 3, .string ⟨#[109]⟩, .slice o 1 c], .bool false, .nilIface]) ∧ 1 ≤ c ∧ c ≤ maxLen ∧ Shs t w' o 1 (S1of k f (fun _ => 0)) ∧ Below A.heap.size A w') := Lib.hid fun A hA t ht htn => submit_first (HPWD.out.later hA) HKN.out.1 HKN.out.2.2.1 (by have := HKN.out; omega) t ht htn
        have HZN2 : Hid (w22.drew.heap.size ≠ wA.heap.size + 1) := Lib.hid (by have h1 := HPWD.out.s.big; have := HKN.out; omega)
        clear hd z4
        go_cut [29] from 30 (fun s29 wx => s29 = .nilIface ∧ Below w22.drew.heap.size w22.drew wx)
        case first =>
          have hvW19 := Below.refl w22.drew.heap.size w22.drew
          refine wp_region_held_drew (S := (Below w22.drew.heap.size w22.drew)) (by kernel_rfl) ?_ (fun hHeld => ?_)
          · (try dsimp only)
            (first | exact Below.refl _ _ | assumption)
          generalize w22.drew = W19 at *
          refine wpAnyH_take (i := 0) (oi := { dst := some 163, op := Go.Op.load 36 (Go.Operand.tmp 26), type := 36, pos := "law.go:155", after := #[], guard := none }) (v := ?_) rfl (by kernel_rfl) (by kernel_rfl) (by kernel_rfl) (fun _ _ _ h => h) (Or.inl ⟨by rfl, ?_⟩) (by assumption) ?_
          rotate_left
          · intro wS hSw
            (refine exec_loadM (x := .tmp 26) (cs := [.int .i64 (Kp : Int), .int .i64 (Np : Int), .int .u32 3, .string ⟨#[109]⟩, .slice none 0 0]) ?_ ?_ (range5 (Blk.below HXD.out hSw (Blk.lt HXD.out))) Tryd.underlying36 rfl info_pg <;> rfl)
          (try simp only [Act.put, List.setIfInBounds_toArray, List.set_cons_zero, List.set_cons_succ])
          refine wpAnyH_take (i := 1) (oi := { dst := some 164, op := Go.Op.move (Go.Operand.tmp 9), type := 29, pos := "law.go:155", after := #[], guard := none }) (v := ?_) rfl (by kernel_rfl) (by kernel_rfl) (by kernel_rfl) (fun _ _ _ h => h) (Or.inl ⟨by rfl, ?_⟩) (by assumption) ?_
          rotate_left
          · intro wS hSw
            (try dsimp only at hSw)
            go_simp
            (try with_reducible rfl)
          (try simp only [Act.put, List.setIfInBounds_toArray, List.set_cons_zero, List.set_cons_succ])
          refine wpAnyH_take (i := 2) (oi := { dst := some 165, op := Go.Op.indexAddr 29 (Go.Operand.tmp 164) (Go.Operand.const (Go.Value.int Go.IntKind.i64 0)), type := 0, pos := "law.go:155", after := #[{ on := 1, ground := Go.Ground.data }], guard := none }) (v := ?_) rfl (by kernel_rfl) (by kernel_rfl) (by kernel_rfl) (fun _ _ _ h => h) (Or.inl ⟨by rfl, ?_⟩) (by assumption) ?_
          rotate_left
          · intro wS hSw
            (try dsimp only at hSw)
            go_simp
            (try with_reducible rfl)
          (try simp only [Act.put, List.setIfInBounds_toArray, List.set_cons_zero, List.set_cons_succ])
          refine wpAnyH_take (i := 3) (oi := { dst := some 166, op := Go.Op.load 42 (Go.Operand.tmp 165), type := 42, pos := "law.go:155", after := #[{ on := 2, ground := Go.Ground.data }], guard := none }) (v := ?_) rfl (by kernel_rfl) (by kernel_rfl) (by kernel_rfl) (fun _ _ _ h => h) (Or.inl ⟨by rfl, ?_⟩) (by assumption) ?_
          rotate_left
          · intro wS hSw
            (refine exec_loadM (x := .tmp 165) (cs := [.int .u8 1, .int .u32 3, .slice (some ⟨wA.heap.size + 1, 0, none⟩) 32 32]) ?_ ?_ ((HPWD.out.later hSw).r0 HI2.out.2.2.2) Tryd.underlying42 rfl info_share3 <;> rfl)
          (try simp only [Act.put, List.setIfInBounds_toArray, List.set_cons_zero, List.set_cons_succ])
          refine wpAnyH_ready (rs := [4, 9]) (by kernel_rfl) (by simp) ?_
          refine AllReadyH.cons (o := { dst := some 167, op := Go.Op.call { callee := Go.Callee.value (Go.Operand.func 9), args := #[Go.Operand.tmp 163, Go.Operand.const (Go.Value.string { data := #[109] }), Go.Operand.tmp 166], argTypes := #[36, 9, 42] }, type := 39, pos := "law.go:155", after := #[{ on := 0, ground := Go.Ground.data }, { on := 3, ground := Go.Ground.data }], guard := none }) rfl (fun K hK => ?_) ?_
          · skip
            go_simp
            (refine (HSU.out W19 hvW19 (b7) (Nat.lt_of_lt_of_le (Blk.lt HPWD.out.p) hvW19.size) HB71.out).mono ?_; rintro e VSx4W19 ⟨oy, cy, rfl, hcy1, hcy2, hrs, hb⟩; (try have HZB := Lib.hid (Blk.below HZB.out hb (Blk.lt HZB.out))); have HRS := Lib.hid hrs; have hvVSx4W19 := Below.trans hvW19 (hb.mono hvW19.size); clear hb hrs; skip)
            (try go_wp2_with fail)
            refine hK.out _ _ ?_ (fun hHeld => ?_)
            · (try dsimp only)
              (first | exact Below.refl _ _ | assumption)
            clear hK K
            (try simp only [Act.put, List.setIfInBounds_toArray, List.set_cons_zero, List.set_cons_succ])
            refine wpAnyH_take (i := 5) (oi := { dst := some 162, op := Go.Op.move (Go.Operand.tmp 167), type := 39, pos := "law.go:155", after := #[{ on := 4, ground := Go.Ground.data }], guard := none }) (v := ?_) rfl (by kernel_rfl) (by kernel_rfl) (by kernel_rfl) (fun _ _ _ h => h) (Or.inl ⟨by rfl, ?_⟩) (by assumption) ?_
            rotate_left
            · intro wS hSw
              (try dsimp only at hSw)
              go_simp
              (try with_reducible rfl)
            (try simp only [Act.put, List.setIfInBounds_toArray, List.set_cons_zero, List.set_cons_succ])
            refine wpAnyH_take (i := 6) (oi := { dst := some 168, op := Go.Op.extract (Go.Operand.tmp 162) 0, type := 36, pos := "law.go:155", after := #[{ on := 5, ground := Go.Ground.data }], guard := none }) (v := ?_) rfl (by kernel_rfl) (by kernel_rfl) (by kernel_rfl) (fun _ _ _ h => h) (Or.inl ⟨by rfl, ?_⟩) (by assumption) ?_
            rotate_left
            · intro wS hSw
              (try dsimp only at hSw)
              go_simp
              (try with_reducible rfl)
            (try simp only [Act.put, List.setIfInBounds_toArray, List.set_cons_zero, List.set_cons_succ])
            refine wpAnyH_take (i := 7) (oi := { dst := some 169, op := Go.Op.extract (Go.Operand.tmp 162) 1, type := 4, pos := "law.go:155", after := #[{ on := 5, ground := Go.Ground.data }, { on := 10, ground := Go.Ground.gcOnly Go.Departure.lateStores }], guard := none }) (v := ?_) rfl (by kernel_rfl) (by kernel_rfl) (by kernel_rfl) (fun _ _ _ h => h) (Or.inl ⟨by rfl, ?_⟩) (by assumption) ?_
            rotate_left
            · intro wS hSw
              (try dsimp only at hSw)
              go_simp
              (try with_reducible rfl)
            (try simp only [Act.put, List.setIfInBounds_toArray, List.set_cons_zero, List.set_cons_succ])
            refine wpAnyH_take (i := 8) (oi := { dst := some 170, op := Go.Op.extract (Go.Operand.tmp 162) 2, type := 31, pos := "law.go:155", after := #[{ on := 5, ground := Go.Ground.data }, { on := 11, ground := Go.Ground.gcOnly Go.Departure.lateStores }], guard := none }) (v := ?_) rfl (by kernel_rfl) (by kernel_rfl) (by kernel_rfl) (fun _ _ _ h => h) (Or.inl ⟨by rfl, ?_⟩) (by assumption) ?_
            rotate_left
            · intro wS hSw
              (try dsimp only at hSw)
              go_simp
              (try with_reducible rfl)
            (try simp only [Act.put, List.setIfInBounds_toArray, List.set_cons_zero, List.set_cons_succ])
            refine wpAnyH_ready (rs := [9]) (by kernel_rfl) (by simp) ?_
            refine AllReadyH.cons (o := { dst := some 27, op := Go.Op.alloc 36, type := 0, pos := "law.go:155", after := #[], guard := none }) rfl (fun K hK => ?_) AllReadyH.nil
            (refine step_zero rfl rfl zpg_run ?_; obtain ⟨VZx4W19, hw⟩ : ∃ q, VSx4W19.alloc (.cells #[.int .i64 0, .int .i64 0, .int .u32 0, .string ⟨#[]⟩, .slice none 0 0] 36) = q := ⟨_, rfl⟩; rw [hw]; have hb : Below VSx4W19.heap.size VSx4W19 VZx4W19 := (by rw [← hw]; exact (Below.refl _ _).alloc (Nat.le_refl _) _); have HRS := Lib.hid (trivial); have HZB : Hid (Blk VZx4W19 VSx4W19.heap.size #[.int .i64 0, .int .i64 0, .int .u32 0, .string ⟨#[]⟩, .slice none 0 0] 36) := Lib.hid (by rw [← hw]; exact Blk.new _ _ _); have HZV := Lib.hid (show W19.heap.size ≤ VSx4W19.heap.size ∧ VSx4W19.heap.size < VZx4W19.heap.size from ⟨hvVSx4W19.size, by rw [← hw]; simp⟩); have hvVZx4W19 := Below.trans hvVSx4W19 (hb.mono hvVSx4W19.size); clear hb hw; skip)
            refine hK.out _ _ ?_ (fun hHeld => ?_)
            · (try dsimp only)
              (first | exact Below.refl _ _ | assumption)
            clear hK K
            (try simp only [Act.put, List.setIfInBounds_toArray, List.set_cons_zero, List.set_cons_succ])
            refine wpAnyH_ready (rs := [10]) (by kernel_rfl) (by simp) ?_
            refine AllReadyH.cons (o := { dst := none, op := Go.Op.store 36 (Go.Operand.tmp 27) (Go.Operand.tmp 168), type := 0, pos := "law.go:155", after := #[{ on := 9, ground := Go.Ground.data }, { on := 6, ground := Go.Ground.data }, { on := 4, ground := Go.Ground.chain }, { on := 0, ground := Go.Ground.phase }, { on := 1, ground := Go.Ground.phase }, { on := 2, ground := Go.Ground.phase }, { on := 3, ground := Go.Ground.phase }, { on := 4, ground := Go.Ground.phase }, { on := 5, ground := Go.Ground.phase }, { on := 6, ground := Go.Ground.phase }, { on := 7, ground := Go.Ground.textOnly Go.Departure.lateStores }, { on := 8, ground := Go.Ground.textOnly Go.Departure.lateStores }, { on := 9, ground := Go.Ground.phase }], guard := none }) rfl (fun K hK => ?_) AllReadyH.nil
            (refine step_storeM rfl 36 (.tmp 27) (.tmp 168) rfl (VSx4W19.heap.size) 0 #[.int .i64 (Kp : Int), .int .i64 (Np : Int), .int .u32 3, .string ⟨#[109]⟩, .slice oy 1 cy] rfl rfl (HZB.out.there (n := 5) (Nat.le_refl 5)) info_pg (one_pg _ _ _ _ _ _ _) ?_; have HO9 : Hid (Own (VSx4W19.heap.size) VZx4W19 _) := Lib.hid (Own.setCells #[.int .i64 (Kp : Int), .int .i64 (Np : Int), .int .u32 3, .string ⟨#[109]⟩, .slice oy 1 cy].toList 0 VZx4W19); have HV9 := Lib.hid (hvVZx4W19.trans (HO9.out.below HZV.out.1 hvVZx4W19.size)); have hv9 := HV9.out; have HB9 : Hid (Blk (VZx4W19.setCells (VSx4W19.heap.size) 0 [.int .i64 (Kp : Int), .int .i64 (Np : Int), .int .u32 3, .string ⟨#[109]⟩, .slice oy 1 cy]) (VSx4W19.heap.size) #[.int .i64 (Kp : Int), .int .i64 (Np : Int), .int .u32 3, .string ⟨#[109]⟩, .slice oy 1 cy] 36) := Lib.hid (HZB.out.whole5 rfl _ _ _ _ _); skip)
            refine hK.out _ _ ?_ (fun hHeld => ?_)
            · (try dsimp only)
              (first | exact Below.refl _ _ | assumption)
            clear hK K
            (try simp only [Act.put, List.setIfInBounds_toArray, List.set_cons_zero, List.set_cons_succ])
            refine wpAnyH_take (i := 11) (oi := { dst := some 28, op := Go.Op.assign (Go.Operand.tmp 169), type := 4, pos := "law.go:155", after := #[{ on := 7, ground := Go.Ground.data }, { on := 10, ground := Go.Ground.chain }, { on := 0, ground := Go.Ground.phase }, { on := 1, ground := Go.Ground.phase }, { on := 2, ground := Go.Ground.phase }, { on := 3, ground := Go.Ground.phase }, { on := 4, ground := Go.Ground.phase }, { on := 5, ground := Go.Ground.phase }, { on := 6, ground := Go.Ground.phase }, { on := 7, ground := Go.Ground.phase }, { on := 8, ground := Go.Ground.textOnly Go.Departure.lateStores }, { on := 9, ground := Go.Ground.phase }, { on := 10, ground := Go.Ground.phase }], guard := none }) (v := ?_) rfl (by kernel_rfl) (by kernel_rfl) (by kernel_rfl) (fun _ _ _ h => h) (Or.inl ⟨by rfl, ?_⟩) (by assumption) ?_
            rotate_left
            · intro wS hSw
              (try dsimp only at hSw)
              go_simp
              (try with_reducible rfl)
            (try simp only [Act.put, List.setIfInBounds_toArray, List.set_cons_zero, List.set_cons_succ])
            refine wpAnyH_take (i := 12) (oi := { dst := some 29, op := Go.Op.assign (Go.Operand.tmp 170), type := 31, pos := "law.go:155", after := #[{ on := 8, ground := Go.Ground.data }, { on := 11, ground := Go.Ground.chain }, { on := 0, ground := Go.Ground.phase }, { on := 1, ground := Go.Ground.phase }, { on := 2, ground := Go.Ground.phase }, { on := 3, ground := Go.Ground.phase }, { on := 4, ground := Go.Ground.phase }, { on := 5, ground := Go.Ground.phase }, { on := 6, ground := Go.Ground.phase }, { on := 7, ground := Go.Ground.phase }, { on := 8, ground := Go.Ground.phase }, { on := 9, ground := Go.Ground.phase }, { on := 10, ground := Go.Ground.phase }, { on := 11, ground := Go.Ground.phase }], guard := none }) (v := ?_) rfl (by kernel_rfl) (by kernel_rfl) (by kernel_rfl) (fun _ _ _ h => h) (Or.inl ⟨by rfl, ?_⟩) (by assumption) ?_
            rotate_left
            · intro wS hSw
              (try dsimp only at hSw)
              go_simp
              (try with_reducible rfl)
            (try simp only [Act.put, List.setIfInBounds_toArray, List.set_cons_zero, List.set_cons_succ])
            refine wpAnyH_done (by kernel_rfl) ?_ _
            go_wp2_with fail
            go_meet
            exact ⟨rfl, HV9.out⟩
          refine AllReadyH.cons (o := { dst := some 27, op := Go.Op.alloc 36, type := 0, pos := "law.go:155", after := #[], guard := none }) rfl (fun K hK => ?_) AllReadyH.nil
          (refine step_zero rfl rfl zpg_run ?_; obtain ⟨VZx9W19, hw⟩ : ∃ q, W19.alloc (.cells #[.int .i64 0, .int .i64 0, .int .u32 0, .string ⟨#[]⟩, .slice none 0 0] 36) = q := ⟨_, rfl⟩; rw [hw]; have hb : Below W19.heap.size W19 VZx9W19 := (by rw [← hw]; exact (Below.refl _ _).alloc (Nat.le_refl _) _); have HZB : Hid (Blk VZx9W19 W19.heap.size #[.int .i64 0, .int .i64 0, .int .u32 0, .string ⟨#[]⟩, .slice none 0 0] 36) := Lib.hid (by rw [← hw]; exact Blk.new _ _ _); have HZV := Lib.hid (show W19.heap.size ≤ W19.heap.size ∧ W19.heap.size < VZx9W19.heap.size from ⟨hvW19.size, by rw [← hw]; simp⟩); have hvVZx9W19 := Below.trans hvW19 (hb.mono hvW19.size); clear hb hw; skip)
          refine hK.out _ _ ?_ (fun hHeld => ?_)
          · (try dsimp only)
            (first | exact Below.refl _ _ | assumption)
          clear hK K
          (try simp only [Act.put, List.setIfInBounds_toArray, List.set_cons_zero, List.set_cons_succ])
          refine wpAnyH_ready (rs := [4]) (by kernel_rfl) (by simp) ?_
          refine AllReadyH.cons (o := { dst := some 167, op := Go.Op.call { callee := Go.Callee.value (Go.Operand.func 9), args := #[Go.Operand.tmp 163, Go.Operand.const (Go.Value.string { data := #[109] }), Go.Operand.tmp 166], argTypes := #[36, 9, 42] }, type := 39, pos := "law.go:155", after := #[{ on := 0, ground := Go.Ground.data }, { on := 3, ground := Go.Ground.data }], guard := none }) rfl (fun K hK => ?_) AllReadyH.nil
          go_simp
          (refine (HSU.out VZx9W19 hvVZx9W19 (W19.heap.size) (Blk.lt HZB.out) HZN2.out).mono ?_; rintro e VSx9W19 ⟨oy, cy, rfl, hcy1, hcy2, hrs, hb⟩; (try have HZB := Lib.hid (Blk.below HZB.out hb (Blk.lt HZB.out))); have HRS := Lib.hid hrs; have hvVSx9W19 := Below.trans hvVZx9W19 (hb.mono hvVZx9W19.size); clear hb hrs; skip)
          (try go_wp2_with fail)
          refine hK.out _ _ ?_ (fun hHeld => ?_)
          · (try dsimp only)
            (first | exact Below.refl _ _ | assumption)
          clear hK K
          (try simp only [Act.put, List.setIfInBounds_toArray, List.set_cons_zero, List.set_cons_succ])
          refine wpAnyH_take (i := 5) (oi := { dst := some 162, op := Go.Op.move (Go.Operand.tmp 167), type := 39, pos := "law.go:155", after := #[{ on := 4, ground := Go.Ground.data }], guard := none }) (v := ?_) rfl (by kernel_rfl) (by kernel_rfl) (by kernel_rfl) (fun _ _ _ h => h) (Or.inl ⟨by rfl, ?_⟩) (by assumption) ?_
          rotate_left
          · intro wS hSw
            (try dsimp only at hSw)
            go_simp
            (try with_reducible rfl)
          (try simp only [Act.put, List.setIfInBounds_toArray, List.set_cons_zero, List.set_cons_succ])
          refine wpAnyH_take (i := 6) (oi := { dst := some 168, op := Go.Op.extract (Go.Operand.tmp 162) 0, type := 36, pos := "law.go:155", after := #[{ on := 5, ground := Go.Ground.data }], guard := none }) (v := ?_) rfl (by kernel_rfl) (by kernel_rfl) (by kernel_rfl) (fun _ _ _ h => h) (Or.inl ⟨by rfl, ?_⟩) (by assumption) ?_
          rotate_left
          · intro wS hSw
            (try dsimp only at hSw)
            go_simp
            (try with_reducible rfl)
          (try simp only [Act.put, List.setIfInBounds_toArray, List.set_cons_zero, List.set_cons_succ])
          refine wpAnyH_take (i := 7) (oi := { dst := some 169, op := Go.Op.extract (Go.Operand.tmp 162) 1, type := 4, pos := "law.go:155", after := #[{ on := 5, ground := Go.Ground.data }, { on := 10, ground := Go.Ground.gcOnly Go.Departure.lateStores }], guard := none }) (v := ?_) rfl (by kernel_rfl) (by kernel_rfl) (by kernel_rfl) (fun _ _ _ h => h) (Or.inl ⟨by rfl, ?_⟩) (by assumption) ?_
          rotate_left
          · intro wS hSw
            (try dsimp only at hSw)
            go_simp
            (try with_reducible rfl)
          (try simp only [Act.put, List.setIfInBounds_toArray, List.set_cons_zero, List.set_cons_succ])
          refine wpAnyH_take (i := 8) (oi := { dst := some 170, op := Go.Op.extract (Go.Operand.tmp 162) 2, type := 31, pos := "law.go:155", after := #[{ on := 5, ground := Go.Ground.data }, { on := 11, ground := Go.Ground.gcOnly Go.Departure.lateStores }], guard := none }) (v := ?_) rfl (by kernel_rfl) (by kernel_rfl) (by kernel_rfl) (fun _ _ _ h => h) (Or.inl ⟨by rfl, ?_⟩) (by assumption) ?_
          rotate_left
          · intro wS hSw
            (try dsimp only at hSw)
            go_simp
            (try with_reducible rfl)
          (try simp only [Act.put, List.setIfInBounds_toArray, List.set_cons_zero, List.set_cons_succ])
          refine wpAnyH_ready (rs := [10]) (by kernel_rfl) (by simp) ?_
          refine AllReadyH.cons (o := { dst := none, op := Go.Op.store 36 (Go.Operand.tmp 27) (Go.Operand.tmp 168), type := 0, pos := "law.go:155", after := #[{ on := 9, ground := Go.Ground.data }, { on := 6, ground := Go.Ground.data }, { on := 4, ground := Go.Ground.chain }, { on := 0, ground := Go.Ground.phase }, { on := 1, ground := Go.Ground.phase }, { on := 2, ground := Go.Ground.phase }, { on := 3, ground := Go.Ground.phase }, { on := 4, ground := Go.Ground.phase }, { on := 5, ground := Go.Ground.phase }, { on := 6, ground := Go.Ground.phase }, { on := 7, ground := Go.Ground.textOnly Go.Departure.lateStores }, { on := 8, ground := Go.Ground.textOnly Go.Departure.lateStores }, { on := 9, ground := Go.Ground.phase }], guard := none }) rfl (fun K hK => ?_) AllReadyH.nil
          (refine step_storeM rfl 36 (.tmp 27) (.tmp 168) rfl (W19.heap.size) 0 #[.int .i64 (Kp : Int), .int .i64 (Np : Int), .int .u32 3, .string ⟨#[109]⟩, .slice oy 1 cy] rfl rfl (HZB.out.there (n := 5) (Nat.le_refl 5)) info_pg (one_pg _ _ _ _ _ _ _) ?_; have HO9 : Hid (Own (W19.heap.size) VSx9W19 _) := Lib.hid (Own.setCells #[.int .i64 (Kp : Int), .int .i64 (Np : Int), .int .u32 3, .string ⟨#[109]⟩, .slice oy 1 cy].toList 0 VSx9W19); have HV9 := Lib.hid (hvVSx9W19.trans (HO9.out.below HZV.out.1 hvVSx9W19.size)); have hv9 := HV9.out; have HB9 : Hid (Blk (VSx9W19.setCells (W19.heap.size) 0 [.int .i64 (Kp : Int), .int .i64 (Np : Int), .int .u32 3, .string ⟨#[109]⟩, .slice oy 1 cy]) (W19.heap.size) #[.int .i64 (Kp : Int), .int .i64 (Np : Int), .int .u32 3, .string ⟨#[109]⟩, .slice oy 1 cy] 36) := Lib.hid (HZB.out.whole5 rfl _ _ _ _ _); skip)
          refine hK.out _ _ ?_ (fun hHeld => ?_)
          · (try dsimp only)
            (first | exact Below.refl _ _ | assumption)
          clear hK K
          (try simp only [Act.put, List.setIfInBounds_toArray, List.set_cons_zero, List.set_cons_succ])
          refine wpAnyH_take (i := 11) (oi := { dst := some 28, op := Go.Op.assign (Go.Operand.tmp 169), type := 4, pos := "law.go:155", after := #[{ on := 7, ground := Go.Ground.data }, { on := 10, ground := Go.Ground.chain }, { on := 0, ground := Go.Ground.phase }, { on := 1, ground := Go.Ground.phase }, { on := 2, ground := Go.Ground.phase }, { on := 3, ground := Go.Ground.phase }, { on := 4, ground := Go.Ground.phase }, { on := 5, ground := Go.Ground.phase }, { on := 6, ground := Go.Ground.phase }, { on := 7, ground := Go.Ground.phase }, { on := 8, ground := Go.Ground.textOnly Go.Departure.lateStores }, { on := 9, ground := Go.Ground.phase }, { on := 10, ground := Go.Ground.phase }], guard := none }) (v := ?_) rfl (by kernel_rfl) (by kernel_rfl) (by kernel_rfl) (fun _ _ _ h => h) (Or.inl ⟨by rfl, ?_⟩) (by assumption) ?_
          rotate_left
          · intro wS hSw
            (try dsimp only at hSw)
            go_simp
            (try with_reducible rfl)
          (try simp only [Act.put, List.setIfInBounds_toArray, List.set_cons_zero, List.set_cons_succ])
          refine wpAnyH_take (i := 12) (oi := { dst := some 29, op := Go.Op.assign (Go.Operand.tmp 170), type := 31, pos := "law.go:155", after := #[{ on := 8, ground := Go.Ground.data }, { on := 11, ground := Go.Ground.chain }, { on := 0, ground := Go.Ground.phase }, { on := 1, ground := Go.Ground.phase }, { on := 2, ground := Go.Ground.phase }, { on := 3, ground := Go.Ground.phase }, { on := 4, ground := Go.Ground.phase }, { on := 5, ground := Go.Ground.phase }, { on := 6, ground := Go.Ground.phase }, { on := 7, ground := Go.Ground.phase }, { on := 8, ground := Go.Ground.phase }, { on := 9, ground := Go.Ground.phase }, { on := 10, ground := Go.Ground.phase }, { on := 11, ground := Go.Ground.phase }], guard := none }) (v := ?_) rfl (by kernel_rfl) (by kernel_rfl) (by kernel_rfl) (fun _ _ _ h => h) (Or.inl ⟨by rfl, ?_⟩) (by assumption) ?_
          rotate_left
          · intro wS hSw
            (try dsimp only at hSw)
            go_simp
            (try with_reducible rfl)
          (try simp only [Act.put, List.setIfInBounds_toArray, List.set_cons_zero, List.set_cons_succ])
          refine wpAnyH_done (by kernel_rfl) ?_ _
          go_wp2_with fail
          go_meet
          exact ⟨rfl, HV9.out⟩
        case rest =>
          obtain ⟨rfl, hbx⟩ := hcut
          generalize wc = w23 at *
          have HE := Lib.hid (HPWD.out.b.trans (hbx.mono HPWD.out.b.size))
          clear hbx
          go_wp2_with fail
          refine (sure23 w23 (HG.out w23 HE.out)).mono ?_
          rintro e w24 ⟨rfl, hb⟩
          have HE2 := Lib.hid (HE.out.trans (hb.mono HE.out.size))
          clear hb
          go_wp2_with fail
          go_ret
          exact ⟨rfl, HE2.out⟩
end Go.Proofs.YtgiffaeckhhmpaaDoor
