/- ProgressOrder: the walk. -/
import Derived.Test.YtgiffaeckhhmpaaDoorPj1
import Derived.Deep.DeepCutAuto
namespace Go.Proofs.YtgiffaeckhhmpaaDoor
set_option linter.unusedVariables false
set_option linter.unusedSimpArgs false
open Go.RowKit
set_option maxRecDepth 100000 in
set_option maxHeartbeats 16000000 in
theorem order_any (f : Nat → Nat) (x y nr cr : Nat) (oa : Option Addr) (r0 : Nat → Nat) (w : World) (hg : Handle w) (hf : ∀ i, i < 32 → f i < 256) (hx : x < 256) (hy : y < 256) (hr : Bytes w oa nr r0) (hnr : nr ≤ maxLen) :
    Calls Tryd.prog 4 #[.agg (rowC 32 f).toArray, .agg #[.int .u8 (x : Int), .int .u8 (y : Int)], .slice oa nr cr] w fun e w' => e = .returned (.bool true) ∧ Below w.heap.size w w' := by
  obtain ⟨F, hF⟩ : ∃ C, (rowC 32 f).toArray = C := ⟨_, rfl⟩
  rw [hF]
  obtain ⟨b4, hb4⟩ : ∃ y, w.heap.size + 1 = y := ⟨_, rfl⟩
  obtain ⟨w0, hw0⟩ : ∃ q, (w.alloc (.cells F 22)).alloc (.cells #[.int .u8 (x : Int), .int .u8 (y : Int)] 23) = q := ⟨_, rfl⟩
  have hb0 : Below w.heap.size w w0 := by rw [← hw0]; exact ((Below.refl _ _).alloc (Nat.le_refl _) _).alloc (by simp) _
  have hP : Blk w0 w.heap.size F 22 := by rw [← hw0]; exact (Blk.new _ _ _).alloc _
  have hQ : Blk w0 b4 #[.int .u8 (x : Int), .int .u8 (y : Int)] 23 := by rw [← hw0, ← hb4]; simpa using Blk.new (w.alloc (.cells F 22)) #[.int .u8 (x : Int), .int .u8 (y : Int)] 23
  have HQD : Hid (Blk w0.drew b4 #[.int .u8 (x : Int), .int .u8 (y : Int)] 23) := Lib.hid hQ.drew
  have HPD : Hid (Blk w0.drew w.heap.size F 22) := Lib.hid hP.drew
  have HBD : Hid (Below w.heap.size w w0.drew) := Lib.hid (hb0.trans ((Below.refl w0.heap.size w0).drew.mono hb0.size))
  obtain ⟨Kp, hK⟩ : ∃ q, 2 + x % 4 = q := ⟨_, rfl⟩
  obtain ⟨Np, hN⟩ : ∃ q, Kp + y % 5 = q := ⟨_, rfl⟩
  obtain ⟨k, hk⟩ : ∃ q, Kp = q + 1 := ⟨Kp - 1, by omega⟩
  obtain ⟨M, hM⟩ : ∃ q, 32 * k = q := ⟨_, rfl⟩
  have t1 : IntKind.i64.wrap (x : Int) = (x : Int) := IntWalk.i64_in _ (by omega)
  have t2 : IntKind.i64.wrap (y : Int) = (y : Int) := IntWalk.i64_in _ (by omega)
  obtain ⟨x4, hx4⟩ : ∃ q, x % 4 = q := ⟨_, rfl⟩
  obtain ⟨y5, hy5⟩ : ∃ q, y % 5 = q := ⟨_, rfl⟩
  have t3 : (x : Int).tmod 4 = (x4 : Int) := by rw [Int.tmod_eq_emod_of_nonneg (by omega)]; omega
  have t4 : (y : Int).tmod 5 = (y5 : Int) := by rw [Int.tmod_eq_emod_of_nonneg (by omega)]; omega
  have t5 : (x : Int) % 4 = (x4 : Int) := by omega
  have t6 : (y : Int) % 5 = (y5 : Int) := by omega
  have t7 : (2 : Int) + (x4 : Int) = (Kp : Int) := by omega
  have t8 : (Kp : Int) + (y5 : Int) = (Np : Int) := by omega
  have t9 : IntKind.i64.wrap (Kp : Int) = (Kp : Int) := IntWalk.i64_in _ (by omega)
  have t10 : IntKind.i64.wrap (Np : Int) = (Np : Int) := IntWalk.i64_in _ (by omega)
  have t11 : IntKind.i64.wrap (x4 : Int) = (x4 : Int) := IntWalk.i64_in _ (by omega)
  have t12 : IntKind.i64.wrap (y5 : Int) = (y5 : Int) := IntWalk.i64_in _ (by omega)
  have HKN := Lib.hid (show 2 ≤ Kp ∧ Kp ≤ 5 ∧ Kp ≤ Np ∧ Np ≤ 9 ∧ Kp = k + 1 ∧ M = 32 * k by omega)
  have HMB := Lib.hid (show M < 1000000000000 by omega)
  have HU1 := Lib.hid (show (Kp : Int) - 1 = (k : Int) by omega)
  have HU2 := Lib.hid (show (32 : Int) * (k : Int) = (M : Int) by omega)
  have HF := Lib.hid hF
  have HFB := Lib.hid hf
  have HG : Hid (∀ A, Below w.heap.size w A → Handle A) := Lib.hid fun A hb => hg.below hb hg.2
  have HR0 := Lib.hid hr
  have HXY := Lib.hid (show x < 256 ∧ y < 256 ∧ nr ≤ maxLen from ⟨hx, hy, hnr⟩)
  clear hK hN hx4 hy5 hP hQ hb0 hf hg hF hk hM hx hy hr hnr
  go_enter Tryd.func4, Tryd.ntmps4
  go_upto_region 1 with fail
  clear hw0 hb4
  refine wp_region_held_drew (S := (Below w0.drew.heap.size w0.drew)) (by kernel_rfl) ?_ (fun hHeld => ?_)
  · (try dsimp only)
    (first | exact Below.refl _ _ | assumption)
  generalize w0.drew = V0 at *
  refine wpAnyH_take (i := 0) (oi := { dst := some 29, op := Go.Op.indexAddr 23 (Go.Operand.tmp 4) (Go.Operand.const (Go.Value.int Go.IntKind.i64 0)), type := 0, pos := "law.go:94", after := #[], guard := none }) (v := ?_) rfl (by kernel_rfl) (by kernel_rfl) (by kernel_rfl) (fun _ _ _ h => h) (Or.inl ⟨by rfl, ?_⟩) (by assumption) ?_
  rotate_left
  · intro wS hSw
    (try dsimp only at hSw)
    go_simp
    (try with_reducible rfl)
  (try simp only [Act.put, List.setIfInBounds_toArray, List.set_cons_zero, List.set_cons_succ])
  refine wpAnyH_take (i := 1) (oi := { dst := some 30, op := Go.Op.load 5 (Go.Operand.tmp 29), type := 5, pos := "law.go:94", after := #[{ on := 0, ground := Go.Ground.data }], guard := none }) (v := ?_) rfl (by kernel_rfl) (by kernel_rfl) (by kernel_rfl) (fun _ _ _ h => h) (Or.inl ⟨by rfl, ?_⟩) (by assumption) ?_
  rotate_left
  · intro wS hSw
    (have cq0 : wS.cell? ⟨b4, 0, none⟩ = some (.int .u8 (x : Int)) := (by rw [Blk.cell (Blk.below HQD.out hSw (Blk.lt HQD.out))]; rfl); go_simp; (try with_reducible rfl))
  (try simp only [Act.put, List.setIfInBounds_toArray, List.set_cons_zero, List.set_cons_succ])
  refine wpAnyH_take (i := 2) (oi := { dst := some 31, op := Go.Op.indexAddr 23 (Go.Operand.tmp 4) (Go.Operand.const (Go.Value.int Go.IntKind.i64 1)), type := 0, pos := "law.go:94", after := #[{ on := 4, ground := Go.Ground.gcOnly Go.Departure.lateStores }], guard := none }) (v := ?_) rfl (by kernel_rfl) (by kernel_rfl) (by kernel_rfl) (fun _ _ _ h => h) (Or.inl ⟨by rfl, ?_⟩) (by assumption) ?_
  rotate_left
  · intro wS hSw
    (try dsimp only at hSw)
    go_simp
    (try with_reducible rfl)
  (try simp only [Act.put, List.setIfInBounds_toArray, List.set_cons_zero, List.set_cons_succ])
  refine wpAnyH_take (i := 3) (oi := { dst := some 32, op := Go.Op.load 5 (Go.Operand.tmp 31), type := 5, pos := "law.go:94", after := #[{ on := 2, ground := Go.Ground.data }, { on := 4, ground := Go.Ground.gcOnly Go.Departure.lateStores }], guard := none }) (v := ?_) rfl (by kernel_rfl) (by kernel_rfl) (by kernel_rfl) (fun _ _ _ h => h) (Or.inl ⟨by rfl, ?_⟩) (by assumption) ?_
  rotate_left
  · intro wS hSw
    (have cq1 : wS.cell? ⟨b4, 1, none⟩ = some (.int .u8 (y : Int)) := (by rw [Blk.cell (Blk.below HQD.out hSw (Blk.lt HQD.out))]; rfl); go_simp; (try with_reducible rfl))
  (try simp only [Act.put, List.setIfInBounds_toArray, List.set_cons_zero, List.set_cons_succ])
  refine wpAnyH_take (i := 4) (oi := { dst := some 7, op := Go.Op.assign (Go.Operand.tmp 30), type := 5, pos := "law.go:94", after := #[{ on := 1, ground := Go.Ground.data }, { on := 0, ground := Go.Ground.phase }, { on := 1, ground := Go.Ground.phase }, { on := 2, ground := Go.Ground.textOnly Go.Departure.lateStores }, { on := 3, ground := Go.Ground.textOnly Go.Departure.lateStores }], guard := none }) (v := ?_) rfl (by kernel_rfl) (by kernel_rfl) (by kernel_rfl) (fun _ _ _ h => h) (Or.inl ⟨by rfl, ?_⟩) (by assumption) ?_
  rotate_left
  · intro wS hSw
    (try dsimp only at hSw)
    go_simp
    (try with_reducible rfl)
  (try simp only [Act.put, List.setIfInBounds_toArray, List.set_cons_zero, List.set_cons_succ])
  refine wpAnyH_take (i := 5) (oi := { dst := some 8, op := Go.Op.assign (Go.Operand.tmp 32), type := 5, pos := "law.go:94", after := #[{ on := 3, ground := Go.Ground.data }, { on := 4, ground := Go.Ground.chain }, { on := 0, ground := Go.Ground.phase }, { on := 1, ground := Go.Ground.phase }, { on := 2, ground := Go.Ground.phase }, { on := 3, ground := Go.Ground.phase }, { on := 4, ground := Go.Ground.phase }], guard := none }) (v := ?_) rfl (by kernel_rfl) (by kernel_rfl) (by kernel_rfl) (fun _ _ _ h => h) (Or.inl ⟨by rfl, ?_⟩) (by assumption) ?_
  rotate_left
  · intro wS hSw
    (try dsimp only at hSw)
    go_simp
    (try with_reducible rfl)
  (try simp only [Act.put, List.setIfInBounds_toArray, List.set_cons_zero, List.set_cons_succ])
  refine wpAnyH_done (by kernel_rfl) ?_ _
  have HBV : Hid (Below w.heap.size w V0) := HBD
  obtain ⟨b9, hb9⟩ : ∃ q, V0.heap.size = q := ⟨_, rfl⟩
  obtain ⟨w1, hw1⟩ : ∃ q, V0.alloc (.cells #[.int .i64 (Kp : Int), .int .i64 0, .int .u32 3] 26) = q := ⟨_, rfl⟩
  have hb1 : Below V0.heap.size V0 w1 := by rw [← hw1]; exact (Below.refl _ _).alloc (Nat.le_refl _) _
  have hL1 : Blk w1 b9 #[.int .i64 (Kp : Int), .int .i64 0, .int .u32 3] 26 := by rw [← hw1, ← hb9]; exact Blk.new _ _ _
  have hP1 := Blk.below HPD.out hb1 (Blk.lt HPD.out)
  have q3 : w1.cell? ⟨b9, 0, none⟩ = some (.int .i64 (Kp : Int)) := by rw [Blk.cell hL1]; rfl
  have q4 : w1.cell? ⟨b9, 1, none⟩ = some (.int .i64 0) := by rw [Blk.cell hL1]; rfl
  have q5 : w1.frozen? ⟨b9, 1, none⟩ = false := Blk.free hL1 1
  obtain ⟨w2, hw2⟩ : ∃ q, w1.setCell ⟨b9, 1, none⟩ (.int .i64 (Np : Int)) = q := ⟨_, rfl⟩
  have hO2 : Own b9 w1 w2 := by rw [← hw2]; exact (Own.refl _ _).set 1 _
  have HPL2 : Hid (Blk w2 b9 #[.int .i64 (Kp : Int), .int .i64 (Np : Int), .int .u32 3] 26) := Lib.hid (by rw [← hw2]; exact hL1.set 1 _)
  have HP2 := Lib.hid (hO2.blk hP1 (by have := Blk.lt HPD.out; omega))
  have HB2 : Hid (Below w.heap.size w w2) := Lib.hid ((HBV.out.trans (hb1.mono HBV.out.size)).trans (hO2.below (by have := HBV.out.size; omega) (Nat.le_trans HBV.out.size hb1.size)))
  have HW2 := Lib.hid hw2
  have HB9 := Lib.hid (show w.heap.size < b9 ∧ b9 < w2.heap.size by have := Blk.lt HPD.out; have := Blk.lt HPL2.out; omega)
  clear hP1 hO2 hb1 hL1 hw2
  go_wp2_with fail
  refine (gfnew_any _).mono ?_
  rw [HW2.out]
  rintro e w3 ⟨rfl, hT3, hb23⟩
  obtain ⟨tb, htb⟩ : ∃ q, w2.heap.size = q := ⟨_, rfl⟩
  obtain ⟨b11, hb11⟩ : ∃ q, w3.heap.size = q := ⟨_, rfl⟩
  obtain ⟨w4, hw4⟩ : ∃ q, w3.alloc (.cells (rowC M (fun _ => 0)).toArray 5) = q := ⟨_, rfl⟩
  have hb34 : Below w3.heap.size w3 w4 := by rw [← hw4]; exact (Below.refl _ _).alloc (Nat.le_refl _) _
  have HZ4 : Hid (Row w4 b11 M (fun _ => 0)) := Lib.hid (by rw [← hw4, ← hb11]; exact Blk.new _ _ _)
  have HT4 : Hid (TabIn w4 tb) := Lib.hid (by rw [← htb]; exact hT3.below hb34)
  have hb24 := hb23.trans (hb34.mono hb23.size)
  have HPL := Lib.hid (Blk.below HPL2.out hb24 (Blk.lt HPL2.out))
  have HPA := Lib.hid (Blk.below HP2.out hb24 (Blk.lt HP2.out))
  have HB4 : Hid (Below w.heap.size w w4) := Lib.hid (HB2.out.trans (hb24.mono HB2.out.size))
  have HNE : Hid (w.heap.size ≠ tb ∧ b9 ≠ tb ∧ w.heap.size ≤ tb ∧ tb < b11 ∧ b9 < tb ∧ b11 < w4.heap.size ∧ w.heap.size < b9) := Lib.hid (by
    have h1 := HB9.out; have h2 := hT3.lt; have h3 := Blk.lt HZ4.out
    refine ⟨by omega, by omega, by omega, by omega, by omega, h3, h1.1⟩)
  have p9 : w3.cell? ⟨b9, 0, none⟩ = some (.int .i64 (Kp : Int)) := by rw [Blk.cell (Blk.below HPL2.out hb23 (Blk.lt HPL2.out))]; rfl
  rw [htb]
  have u1 := HU1.out
  have u2 := HU2.out
  have u3 : IntKind.i64.wrap (k : Int) = (k : Int) := IntWalk.i64_in _ (by have := HKN.out; omega)
  have u4 : IntKind.i64.wrap (M : Int) = (M : Int) := IntWalk.i64_in _ (by have := HMB.out; omega)
  clear hT3 hb23 hb34 hb24 htb q3 q4 q5 hb9 hw1
  go_wp2_with (first | (refine wpList_mk rfl (.tmp 49) (.tmp 49) rfl M rfl rfl HMB.out ?_; rw [hw4, hb11]))
  clear u1 u2 p9 hw4 hb11 t3 t4 t5 t6 t7 t8
  go_loopw [12] (fun v12 wr => ∃ (i : Nat) (d : Nat → Nat), i ≤ M ∧ v12 = .int .i64 (i : Int) ∧ Row wr b11 M d ∧ (∀ j, j < M → d j < 256) ∧ Own b11 w4 wr) (fun v12 _ => M - (intOf v12).toNat)
  case atStart => exact ⟨0, fun _ => 0, Nat.zero_le _, rfl, HZ4.out, fun _ _ => Nat.zero_lt_succ _, Own.refl _ _⟩
  case round =>
    obtain ⟨i, d, hi, rfl, hrow, hd, hO⟩ := hrel
    have HRO := Lib.hid hrow
    have HDD := Lib.hid hd
    have HOW := Lib.hid hO
    clear hrow hd hO
    by_cases hlt : i < M
    · have i1 : (i : Int) < (M : Int) := by omega
      have i0 : (0 : Int) ≤ (i : Int) := by omega
      have k4 : IntKind.i64.wrap ((i : Int) + 1) = ((i + 1 : Nat) : Int) := by have := HMB.out; rw [IntWalk.i64_in _ (by omega)]; omega
      obtain ⟨s7, hs7⟩ : ∃ q, 7 * i = q := ⟨_, rfl⟩
      have v1 : (7 : Int) * (i : Int) = (s7 : Int) := by omega
      have v2 : IntKind.i64.wrap (s7 : Int) = (s7 : Int) := IntWalk.i64_in _ (by have := HMB.out; omega)
      obtain ⟨s8, hs8⟩ : ∃ q, s7 % 256 = q := ⟨_, rfl⟩
      have v3 : IntKind.u8.wrap (s7 : Int) = (s8 : Int) := by rw [IntKind.wrap_u8]; omega
      obtain ⟨s9, hs9⟩ : ∃ q, (s8 + y) % 256 = q := ⟨_, rfl⟩
      have v4 : IntKind.u8.wrap ((s8 : Int) + (y : Int)) = (s9 : Int) := by rw [IntKind.wrap_u8]; omega
      have hs9' : s9 < 256 := by omega
      have HI := Lib.hid (show i < M ∧ i + 1 ≤ M ∧ s9 < 256 from ⟨hlt, hlt, hs9'⟩)
      have c1 := HRO.out.cell hlt
      have f1 : wr.frozen? ⟨b11, i, none⟩ = false := Blk.free HRO.out i
      clear hs7 hs8 hs9 hs9' hlt hi
      go_wp2_with fail
      go_roundw
      case rel => exact ⟨i + 1, upd d i s9, HI.out.2.1, by first | rfl | go_num, HRO.out.set i s9, fun j hj => by unfold upd; split; exact HI.out.2.2; exact HDD.out j hj, HOW.out.trans ((Own.refl _ _).set i _)⟩
      case measure => have := HI.out; simp [intOf]; omega
    · obtain rfl : M = i := by omega
      have i1 : ¬ (M : Int) < (M : Int) := by omega
      clear hlt hi
      have HTR : Hid (TabIn wr.drew tb) := Lib.hid ((HT4.out.own HOW.out (by have := HNE.out; omega)).below (Below.refl wr.heap.size wr).drew)
      have HOD := Lib.hid HOW.out.drew
      have HPR := Lib.hid (HOD.out.blk HPL.out (by have := HNE.out; omega))
      have hpa := HOD.out.blk HPA.out (by have := HNE.out; omega)
      have HBR : Hid (Below w.heap.size w wr.drew) := Lib.hid (HB4.out.trans (HOD.out.below (by have := HNE.out; omega) HB4.out.size))
      have HRR : Hid (Row wr.drew b11 M d) := HRO
      have HSP : Hid (Calls Tryd.prog 7 #[.pointer (some ⟨tb, 0, none⟩), .slice (some ⟨w.heap.size, 0, none⟩) 32 32, .agg #[.int .i64 (Kp : Int), .int .i64 (Np : Int), .int .u32 3], .slice (some ⟨b11, 0, none⟩) M M] wr.drew
          fun e w' => ∃ wA, e = .returned (.tuple #[.slice (some ⟨wA.heap.size, 0, none⟩) Np Np, .nilIface]) ∧ wr.drew.heap.size ≤ wA.heap.size ∧ Own tb wr.drew wA ∧ SR tb wA Np 32 3 (fun x => shF f d k (x + 1)) w') := Lib.hid (by
        have hN := HKN.out
        refine split_any tb Kp Np k 3 32 32 M M w.heap.size 0 b11 0 f d wr.drew HTR.out ?_ HNE.out.1 (HRR.out.bytes HDD.out) (by have := HNE.out; omega) hN.2.2.2.2.1 hN.1 hN.2.2.1 (by omega) (by decide) (by decide) hN.2.2.2.2.2 (Nat.le_refl _)
        have hpb := hpa
        rw [← HF.out] at hpb
        exact fun i hi => ⟨HFB.out i hi, w.heap.size, 0, rfl, by rw [Nat.zero_add, Blk.cell hpb i]; simpa using rowC_get f hi⟩)
      have HFS := Lib.hid hpa
      clear hpa u3 u4
      go_upto_region 10 with fail
      refine wp_region_held_drew (S := (Own tb wr.drew)) (by kernel_rfl) ?_ (fun hHeld => ?_)
      · (try dsimp only)
        (first | exact Own.refl _ _ | assumption)
      generalize wr.drew = WR at *
      refine wpAnyH_take (i := 0) (oi := { dst := some 66, op := Go.Op.move (Go.Operand.tmp 10), type := 27, pos := "law.go:102", after := #[], guard := none }) (v := ?_) rfl (by kernel_rfl) (by kernel_rfl) (by kernel_rfl) (fun _ _ _ h => h) (Or.inl ⟨by rfl, ?_⟩) (by assumption) ?_
      rotate_left
      · intro wS hSw
        (try dsimp only at hSw)
        go_simp
        (try with_reducible rfl)
      (try simp only [Act.put, List.setIfInBounds_toArray, List.set_cons_zero, List.set_cons_succ])
      refine wpAnyH_take (i := 1) (oi := { dst := some 67, op := Go.Op.slice 22 (Go.Operand.tmp 3) none none none, type := 34, pos := "law.go:102", after := #[], guard := none }) (v := ?_) rfl (by kernel_rfl) (by kernel_rfl) (by kernel_rfl) (fun _ _ _ h => h) (Or.inl ⟨by rfl, ?_⟩) (by assumption) ?_
      rotate_left
      · intro wS hSw
        (skip; go_simp; (try with_reducible rfl))
      (try simp only [Act.put, List.setIfInBounds_toArray, List.set_cons_zero, List.set_cons_succ])
      refine wpAnyH_take (i := 2) (oi := { dst := some 68, op := Go.Op.load 26 (Go.Operand.tmp 9), type := 26, pos := "law.go:102", after := #[], guard := none }) (v := ?_) rfl (by kernel_rfl) (by kernel_rfl) (by kernel_rfl) (fun _ _ _ h => h) (Or.inl ⟨by rfl, ?_⟩) (by assumption) ?_
      rotate_left
      · intro wS hSw
        (refine exec_loadM (x := .tmp 9) (cs := [.int .i64 (Kp : Int), .int .i64 (Np : Int), .int .u32 3]) ?_ ?_ (Blk.range0 (C := [.int .i64 (Kp : Int), .int .i64 (Np : Int), .int .u32 3]) (hSw.blk HPR.out HNE.out.2.1)) Tryd.underlying26 rfl info_plan3 <;> rfl)
      (try simp only [Act.put, List.setIfInBounds_toArray, List.set_cons_zero, List.set_cons_succ])
      refine wpAnyH_take (i := 3) (oi := { dst := some 69, op := Go.Op.move (Go.Operand.tmp 11), type := 34, pos := "law.go:102", after := #[], guard := none }) (v := ?_) rfl (by kernel_rfl) (by kernel_rfl) (by kernel_rfl) (fun _ _ _ h => h) (Or.inl ⟨by rfl, ?_⟩) (by assumption) ?_
      rotate_left
      · intro wS hSw
        (try dsimp only at hSw)
        go_simp
        (try with_reducible rfl)
      (try simp only [Act.put, List.setIfInBounds_toArray, List.set_cons_zero, List.set_cons_succ])
      refine wpAnyH_ready (rs := [4]) (by kernel_rfl) (by simp) ?_
      refine AllReadyH.cons (o := { dst := some 70, op := Go.Op.call { callee := Go.Callee.value (Go.Operand.func 7), args := #[Go.Operand.tmp 66, Go.Operand.tmp 67, Go.Operand.tmp 68, Go.Operand.tmp 69], argTypes := #[27, 34, 26, 34] }, type := 32, pos := "law.go:102", after := #[{ on := 0, ground := Go.Ground.data }, { on := 1, ground := Go.Ground.data }, { on := 2, ground := Go.Ground.data }, { on := 3, ground := Go.Ground.data }], guard := none }) rfl (fun K hK => ?_) AllReadyH.nil
      go_simp
      (refine HSP.out.mono ?_; rintro e VS ⟨wA, rfl, hle, hOA, hR⟩; have HSR := Lib.hid hR; have HOS := Lib.hid (hOA.trans hR.own); have hoVS := HOS.out; clear hle hOA hR; skip)
      (try go_wp2_with fail)
      refine hK.out _ _ ?_ (fun hHeld => ?_)
      · (try dsimp only)
        (first | exact Own.refl _ _ | assumption)
      clear hK K
      (try simp only [Act.put, List.setIfInBounds_toArray, List.set_cons_zero, List.set_cons_succ])
      refine wpAnyH_take (i := 5) (oi := { dst := some 65, op := Go.Op.move (Go.Operand.tmp 70), type := 32, pos := "law.go:102", after := #[{ on := 4, ground := Go.Ground.data }], guard := none }) (v := ?_) rfl (by kernel_rfl) (by kernel_rfl) (by kernel_rfl) (fun _ _ _ h => h) (Or.inl ⟨by rfl, ?_⟩) (by assumption) ?_
      rotate_left
      · intro wS hSw
        (try dsimp only at hSw)
        go_simp
        (try with_reducible rfl)
      (try simp only [Act.put, List.setIfInBounds_toArray, List.set_cons_zero, List.set_cons_succ])
      refine wpAnyH_take (i := 6) (oi := { dst := some 71, op := Go.Op.extract (Go.Operand.tmp 65) 0, type := 29, pos := "law.go:102", after := #[{ on := 5, ground := Go.Ground.data }], guard := none }) (v := ?_) rfl (by kernel_rfl) (by kernel_rfl) (by kernel_rfl) (fun _ _ _ h => h) (Or.inl ⟨by rfl, ?_⟩) (by assumption) ?_
      rotate_left
      · intro wS hSw
        (try dsimp only at hSw)
        go_simp
        (try with_reducible rfl)
      (try simp only [Act.put, List.setIfInBounds_toArray, List.set_cons_zero, List.set_cons_succ])
      refine wpAnyH_take (i := 7) (oi := { dst := some 72, op := Go.Op.extract (Go.Operand.tmp 65) 1, type := 31, pos := "law.go:102", after := #[{ on := 5, ground := Go.Ground.data }, { on := 8, ground := Go.Ground.gcOnly Go.Departure.lateStores }], guard := none }) (v := ?_) rfl (by kernel_rfl) (by kernel_rfl) (by kernel_rfl) (fun _ _ _ h => h) (Or.inl ⟨by rfl, ?_⟩) (by assumption) ?_
      rotate_left
      · intro wS hSw
        (try dsimp only at hSw)
        go_simp
        (try with_reducible rfl)
      (try simp only [Act.put, List.setIfInBounds_toArray, List.set_cons_zero, List.set_cons_succ])
      refine wpAnyH_take (i := 8) (oi := { dst := some 13, op := Go.Op.assign (Go.Operand.tmp 71), type := 29, pos := "law.go:102", after := #[{ on := 6, ground := Go.Ground.data }, { on := 4, ground := Go.Ground.chain }, { on := 0, ground := Go.Ground.phase }, { on := 1, ground := Go.Ground.phase }, { on := 2, ground := Go.Ground.phase }, { on := 3, ground := Go.Ground.phase }, { on := 4, ground := Go.Ground.phase }, { on := 5, ground := Go.Ground.phase }, { on := 6, ground := Go.Ground.phase }, { on := 7, ground := Go.Ground.textOnly Go.Departure.lateStores }], guard := none }) (v := ?_) rfl (by kernel_rfl) (by kernel_rfl) (by kernel_rfl) (fun _ _ _ h => h) (Or.inl ⟨by rfl, ?_⟩) (by assumption) ?_
      rotate_left
      · intro wS hSw
        (try dsimp only at hSw)
        go_simp
        (try with_reducible rfl)
      (try simp only [Act.put, List.setIfInBounds_toArray, List.set_cons_zero, List.set_cons_succ])
      refine wpAnyH_take (i := 9) (oi := { dst := some 14, op := Go.Op.assign (Go.Operand.tmp 72), type := 31, pos := "law.go:102", after := #[{ on := 7, ground := Go.Ground.data }, { on := 8, ground := Go.Ground.chain }, { on := 0, ground := Go.Ground.phase }, { on := 1, ground := Go.Ground.phase }, { on := 2, ground := Go.Ground.phase }, { on := 3, ground := Go.Ground.phase }, { on := 4, ground := Go.Ground.phase }, { on := 5, ground := Go.Ground.phase }, { on := 6, ground := Go.Ground.phase }, { on := 7, ground := Go.Ground.phase }, { on := 8, ground := Go.Ground.phase }], guard := none }) (v := ?_) rfl (by kernel_rfl) (by kernel_rfl) (by kernel_rfl) (fun _ _ _ h => h) (Or.inl ⟨by rfl, ?_⟩) (by assumption) ?_
      rotate_left
      · intro wS hSw
        (try dsimp only at hSw)
        go_simp
        (try with_reducible rfl)
      (try simp only [Act.put, List.setIfInBounds_toArray, List.set_cons_zero, List.set_cons_succ])
      refine wpAnyH_done (by kernel_rfl) ?_ _
      have hPW : PW w tb b9 k Kp Np f d wA VS := ⟨HBR.out.trans (HOS.out.below HNE.out.2.2.1 HBR.out.size), HOS.out.blk HPR.out HNE.out.2.1, HSR.out⟩
      have HPW := Lib.hid hPW
      have HFV := Lib.hid (HOS.out.blk HFS.out HNE.out.1)
      have HRP := Lib.hid (Blk.range0 (C := [.int .i64 (Kp : Int), .int .i64 (Np : Int), .int .u32 3]) hPW.p)
      have HST : Hid (∀ A, Calls Tryd.prog 8 #[.agg #[.int .i64 (Kp : Int), .int .i64 (Np : Int), .int .u32 3], .string ⟨#[109]⟩] A fun e w' => e = .returned (.tuple #[.agg #[.int .i64 (Kp : Int), .int .i64 (Np : Int), .int .u32 3, .string ⟨#[109]⟩, .slice none 0 0], .nilIface]) ∧ Below A.heap.size A w') := Lib.hid fun A => by
        refine (start_any (Kp : Int) (Np : Int) 3 ⟨#[109]⟩ A (by decide)).mono ?_
        rintro e w' ⟨(⟨he, _⟩ | ⟨_, hm⟩), hb⟩
        · exact ⟨he, hb⟩
        · exact absurd (MayG_0 HKN.out.1 HKN.out.2.2.1 (by have := HKN.out; omega) (fun _ => default)) (hm _)
      clear hPW hoVS HSP HSR HOS HPR HTR HOD HRR HFS HRO HOW HBR HT4 HZ4 HPL HPA
      go_wp2_with (first | (refine wpList_value rfl (exec_loadM (x := .tmp 9) (cs := [.int .i64 (Kp : Int), .int .i64 (Np : Int), .int .u32 3]) rfl rfl HRP.out Tryd.underlying26 rfl info_plan3) ?_))
      refine (HST.out VS).mono ?_
      rintro e w5 ⟨rfl, hb⟩
      obtain ⟨b15, hqb15⟩ : ∃ y, w5.heap.size = y := ⟨_, rfl⟩
      obtain ⟨wz15, hwz15⟩ : ∃ y, w5.alloc (.cells #[.int .i64 0, .int .i64 0, .int .u32 0, .string ⟨#[]⟩, .slice none 0 0] 36) = y := ⟨_, rfl⟩
      have hbz : Below w5.heap.size w5 wz15 := by rw [← hwz15]; exact (Below.refl _ _).alloc (Nat.le_refl _) _
      have hXz : Blk wz15 b15 #[.int .i64 0, .int .i64 0, .int .u32 0, .string ⟨#[]⟩, .slice none 0 0] 36 := by rw [← hwz15, ← hqb15]; exact Blk.new _ _ _
      have HTZb15 : Hid (wz15.there b15 0 5) := Lib.hid (hXz.there (by decide))
      obtain ⟨w6, hw5⟩ : ∃ y, wz15.setCells b15 0 [.int .i64 (Kp : Int), .int .i64 (Np : Int), .int .u32 3, .string ⟨#[109]⟩, .slice none 0 0] = y := ⟨_, rfl⟩
      have hOz : Own b15 wz15 w6 := by rw [← hw5]; exact Own.setCells _ _ _
      have HBw6 : Hid (Below w5.heap.size w5 w6) := Lib.hid (hbz.trans (hOz.below (by omega) hbz.size))
      have HNw6 : Hid (Blk w6 b15 #[.int .i64 (Kp : Int), .int .i64 (Np : Int), .int .u32 3, .string ⟨#[109]⟩, .slice none 0 0] 36) := Lib.hid (by rw [← hw5]; exact hXz.whole5 rfl _ _ _ _ _)
      have HWw6 := Lib.hid hw5
      clear hbz hXz hOz hw5
      have HPW6 := Lib.hid ((HPW.out.later hb).later HBw6.out)
      have HFV6 := Lib.hid (Blk.below (Blk.below HFV.out hb (Blk.lt HFV.out)) HBw6.out (Blk.lt (Blk.below HFV.out hb (Blk.lt HFV.out))))
      have HG15 := Lib.hid (show w.heap.size ≤ b15 ∧ b9 < b15 ∧ wA.heap.size + 1 + Np ≤ b15 ∧ tb < b15 by
        have h5 := (HPW.out.later hb)
        have h6 := h5.b.size; have h7 := Blk.lt h5.p; have h8 := h5.s.big; have h9 := h5.s.low
        omega)
      have n9 : w6.cell? ⟨b9, 1, none⟩ = some (.int .i64 (Np : Int)) := by rw [Blk.cell HPW6.out.p]; rfl
      have m9 : w6.cell? ⟨b9, 0, none⟩ = some (.int .i64 (Kp : Int)) := by rw [Blk.cell HPW6.out.p]; rfl
      clear hb HRP
      by_cases h60 : 60 < nr
      · skip
        have a1 : (60 : Int) < (nr : Int) := by omega
        have a2 : decide ((60 : Int) < (nr : Int)) = true := decide_eq_true a1
        have a7 : 60 < nr := by omega
        have a8 : decide (60 < nr) = true := decide_eq_true a7
        clear m9
        go_wp2_with (first | (refine wpList_zero rfl rfl zpg_run ?_; rw [hwz15, hqb15]; (try simp only [Act.put, List.setIfInBounds_toArray, List.set_cons_zero, List.set_cons_succ])) | (refine wpList_store_mid rfl 36 (.tmp 15) (.tmp 76) rfl b15 0 #[.int .i64 (Kp : Int), .int .i64 (Np : Int), .int .u32 3, .string ⟨#[109]⟩, .slice none 0 0] rfl rfl HTZb15.out info_pg (one_pg _ _ _ _ _ _ _) ?_; rw [HWw6.out]))
        refine (sure23 w6 (HG.out w6 HPW6.out.b)).mono ?_
        rintro e w7 ⟨rfl, hb⟩
        have HE := Lib.hid (HPW6.out.b.trans (hb.mono HPW6.out.b.size))
        clear hb
        go_wp2_with fail
        go_ret
        exact ⟨rfl, HE.out⟩
      · skip
        have a1 : ¬ (60 : Int) < (nr : Int) := by omega
        have a2 : decide ((60 : Int) < (nr : Int)) = false := decide_eq_false a1
        have a7 : ¬ 60 < nr := by omega
        have a8 : decide (60 < nr) = false := decide_eq_false a7
        have HN60 := Lib.hid (show nr ≤ 60 by omega)
        obtain ⟨b17, hb17⟩ : ∃ q, w6.heap.size = q := ⟨_, rfl⟩
        obtain ⟨w7, hw7⟩ : ∃ q, w6.alloc (.cells (flagC 256 (fun _ => false)).toArray 4) = q := ⟨_, rfl⟩
        have hb67 : Below w6.heap.size w6 w7 := by rw [← hw7]; exact (Below.refl _ _).alloc (Nat.le_refl _) _
        have HOW0 : Hid (OW w tb b9 k Kp Np f d wA b15 b17 0 (fun _ => 0) none 0 (fun _ => false) w7) := Lib.hid ⟨HPW6.out.later hb67, Blk.below HNw6.out hb67 (Blk.lt HNw6.out), by rw [← hw7, ← hb17]; exact Blk.new _ _ _, fun i hi => absurd hi (Nat.not_lt_zero _), Nat.le_refl _, by unfold maxLen; decide, Nat.zero_le _, fun i hi => absurd hi (Nat.not_lt_zero _), fun i j hi => absurd hi (Nat.not_lt_zero _), fun q _ => ⟨fun e => (by cases e), fun ⟨j, hj, _⟩ => absurd hj (Nat.not_lt_zero _)⟩⟩
        have HFV7 := Lib.hid (Blk.below HFV6.out hb67 (Blk.lt HFV6.out))
        have HB17 : Hid (b15 < b17) := Lib.hid (by have := Blk.lt HNw6.out; omega)
        have H256 : Hid ((256 : Nat) < 1000000000000) := Lib.hid (by decide)
        clear hb67 h60 m9
        go_wp2_with (first | (refine wpList_zero rfl rfl zpg_run ?_; rw [hwz15, hqb15]; (try simp only [Act.put, List.setIfInBounds_toArray, List.set_cons_zero, List.set_cons_succ])) | (refine wpList_store_mid rfl 36 (.tmp 15) (.tmp 76) rfl b15 0 #[.int .i64 (Kp : Int), .int .i64 (Np : Int), .int .u32 3, .string ⟨#[109]⟩, .slice none 0 0] rfl rfl HTZb15.out info_pg (one_pg _ _ _ _ _ _ _) ?_; rw [HWw6.out]) | (refine wpList_mkB rfl (.const (.int .i64 256)) (.const (.int .i64 256)) rfl 256 rfl rfl H256.out ?_; rw [hw7, hb17]))
        clear n9 hw7 hb17 a1 a2 a7 a8
        go_loopw [18, 19] (fun v18 v19 wr => ∃ (i m : Nat) (p : Nat → Nat) (o : Option Addr) (c : Nat) (C : Nat → Bool), i ≤ nr ∧ v18 = .int .i64 (m : Int) ∧ v19 = .int .i64 (i : Int) ∧ OW w tb b9 k Kp Np f d wA b15 b17 m p o c C wr ∧ Blk wr w.heap.size F 22) (fun _ v19 _ => nr - (intOf v19).toNat)
        case atStart => exact ⟨0, 0, _, _, _, _, Nat.zero_le _, rfl, rfl, HOW0.out, HFV7.out⟩
        case round =>
          obtain ⟨i, m, p, o, c, C, hi, rfl, rfl, how, hfs⟩ := hrel
          have HOR := Lib.hid how
          have HFR := Lib.hid hfs
          have c9 : wr.cell? ⟨b9, 0, none⟩ = some (.int .i64 (Kp : Int)) := by rw [Blk.cell how.pw.p]; rfl
          clear how hfs
          by_cases hlt : i < nr
          · have i1 : (i : Int) < (nr : Int) := by omega
            have i2 : decide ((i : Int) < (nr : Int)) = true := decide_eq_true i1
            have i3 : i < nr := hlt
            by_cases hmk : m < Kp
            · skip
              have j1 : (m : Int) < (Kp : Int) := by omega
              have j2 : decide ((m : Int) < (Kp : Int)) = true := decide_eq_true j1
              have j3 : m < Kp := hmk
              have i0 : (0 : Int) ≤ (i : Int) := by omega
              have k4 : IntKind.i64.wrap ((i : Int) + 1) = ((i + 1 : Nat) : Int) := by have := HN60.out; rw [IntWalk.i64_in _ (by omega)]; omega
              obtain ⟨hx8, ob, oo, ho, hc⟩ := (HR0.out.later HOR.out.pw.b) i hlt
              subst ho
              obtain ⟨ox, hox⟩ : ∃ q, r0 i = q := ⟨_, rfl⟩
              rw [hox] at hc hx8
              obtain ⟨a, ha⟩ : ∃ q, ox % Np = q := ⟨_, rfl⟩
              have hN1 : 0 < Np := by have := HKN.out; omega
              have haN : a < Np := by rw [← ha]; exact Nat.mod_lt _ hN1
              have z2 : (ox : Int).tmod (Np : Int) = (a : Int) := by rw [Int.tmod_eq_emod_of_nonneg (by omega), ← ha]; exact (Int.natCast_emod _ _).symm
              have z4 : (ox : Int) % (Np : Int) = (a : Int) := by rw [← ha]; exact (Int.natCast_emod _ _).symm
              have z5 : IntKind.i64.wrap (ox : Int) = (ox : Int) := IntWalk.i64_in _ (by omega)
              have z6 : ((Np : Int) == 0) = false := by rw [beq_eq_false_iff_ne]; omega
              have z7 : ¬ Np = 0 := by omega
              have z9 : IntKind.i64.wrap (a : Int) = (a : Int) := IntWalk.i64_in _ (by have := HKN.out; omega)
              obtain ⟨a1, ha1⟩ : ∃ q, a + 1 = q := ⟨_, rfl⟩
              obtain ⟨ga, hga⟩ : ∃ q, wA.heap.size + 1 + a = q := ⟨_, rfl⟩
              obtain ⟨m1, hm1⟩ : ∃ q, m + 1 = q := ⟨_, rfl⟩
              have k5 : (m : Int) + 1 = (m1 : Int) := by omega
              have k6 : IntKind.i64.wrap (m1 : Int) = (m1 : Int) := IntWalk.i64_in _ (by have := HKN.out; omega)
              have y1 : (0 : Int) ≤ (a : Int) := by omega
              have y2 : (a : Int) < (Np : Int) := by omega
              have y3 : (a : Int) < 256 := by have := HKN.out; omega
              have hdr := (Below.refl wr.heap.size wr).drew
              have HCO : Hid (wr.drew.cell? ⟨ob, oo + i, none⟩ = some (.int .u8 (ox : Int))) := Lib.hid (cell_below hdr hc)
              have HNB : Hid (wr.drew.cell? ⟨b9, 1, none⟩ = some (.int .i64 (Np : Int))) := Lib.hid (by rw [Blk.cell (Blk.below HOR.out.pw.p hdr (Blk.lt HOR.out.pw.p))]; rfl)
              have HOD := Lib.hid (HOR.out.later hdr)
              have HFD := Lib.hid (Blk.below HFR.out hdr (Blk.lt HFR.out))
              have HI := Lib.hid (show i < nr ∧ i + 1 ≤ nr ∧ m < Kp ∧ a < Np ∧ m + 1 = m1 ∧ a + 1 = a1 ∧ wA.heap.size + 1 + a = ga from ⟨hlt, hlt, hmk, haN, hm1, ha1, hga⟩)
              clear hdr hc hx8 hox ha haN hN1 ha1 hga hm1 hlt hmk hi
              go_upto_region 19 with fail
              refine wp_region_held_drew (S := (Below wr.drew.heap.size wr.drew)) (by kernel_rfl) ?_ (fun hHeld => ?_)
              · (try dsimp only)
                (first | exact Below.refl _ _ | assumption)
              generalize wr.drew = V1 at *
              refine wpAnyH_take (i := 0) (oi := { dst := some 125, op := Go.Op.move (Go.Operand.tmp 2), type := 34, pos := "law.go:110", after := #[], guard := none }) (v := ?_) rfl (by kernel_rfl) (by kernel_rfl) (by kernel_rfl) (fun _ _ _ h => h) (Or.inl ⟨by rfl, ?_⟩) (by assumption) ?_
              rotate_left
              · intro wS hSw
                (try dsimp only at hSw)
                go_simp
                (try with_reducible rfl)
              (try simp only [Act.put, List.setIfInBounds_toArray, List.set_cons_zero, List.set_cons_succ])
              refine wpAnyH_take (i := 1) (oi := { dst := some 126, op := Go.Op.move (Go.Operand.tmp 19), type := 3, pos := "law.go:110", after := #[], guard := none }) (v := ?_) rfl (by kernel_rfl) (by kernel_rfl) (by kernel_rfl) (fun _ _ _ h => h) (Or.inl ⟨by rfl, ?_⟩) (by assumption) ?_
              rotate_left
              · intro wS hSw
                (try dsimp only at hSw)
                go_simp
                (try with_reducible rfl)
              (try simp only [Act.put, List.setIfInBounds_toArray, List.set_cons_zero, List.set_cons_succ])
              refine wpAnyH_take (i := 2) (oi := { dst := some 127, op := Go.Op.indexAddr 34 (Go.Operand.tmp 125) (Go.Operand.tmp 126), type := 0, pos := "law.go:110", after := #[{ on := 0, ground := Go.Ground.data }, { on := 1, ground := Go.Ground.data }], guard := none }) (v := ?_) rfl (by kernel_rfl) (by kernel_rfl) (by kernel_rfl) (fun _ _ _ h => h) (Or.inl ⟨by rfl, ?_⟩) (by assumption) ?_
              rotate_left
              · intro wS hSw
                (try dsimp only at hSw)
                go_simp
                (try with_reducible rfl)
              (try simp only [Act.put, List.setIfInBounds_toArray, List.set_cons_zero, List.set_cons_succ])
              refine wpAnyH_take (i := 3) (oi := { dst := some 128, op := Go.Op.load 5 (Go.Operand.tmp 127), type := 5, pos := "law.go:110", after := #[{ on := 2, ground := Go.Ground.data }], guard := none }) (v := ?_) rfl (by kernel_rfl) (by kernel_rfl) (by kernel_rfl) (fun _ _ _ h => h) (Or.inl ⟨by rfl, ?_⟩) (by assumption) ?_
              rotate_left
              · intro wS hSw
                (have cq := cell_below hSw HCO.out; go_simp; (try with_reducible rfl))
              (try simp only [Act.put, List.setIfInBounds_toArray, List.set_cons_zero, List.set_cons_succ])
              refine wpAnyH_take (i := 4) (oi := { dst := some 129, op := Go.Op.convert 5 3 (Go.Operand.tmp 128), type := 3, pos := "law.go:110", after := #[{ on := 3, ground := Go.Ground.data }], guard := none }) (v := ?_) rfl (by kernel_rfl) (by kernel_rfl) (by kernel_rfl) (fun _ _ _ h => h) (Or.inl ⟨by rfl, ?_⟩) (by assumption) ?_
              rotate_left
              · intro wS hSw
                (try dsimp only at hSw)
                go_simp
                (try with_reducible rfl)
              (try simp only [Act.put, List.setIfInBounds_toArray, List.set_cons_zero, List.set_cons_succ])
              refine wpAnyH_take (i := 5) (oi := { dst := some 130, op := Go.Op.fieldAddr 26 (Go.Operand.tmp 9) 1, type := 0, pos := "law.go:110", after := #[], guard := none }) (v := ?_) rfl (by kernel_rfl) (by kernel_rfl) (by kernel_rfl) (fun _ _ _ h => h) (Or.inl ⟨by rfl, ?_⟩) (by assumption) ?_
              rotate_left
              · intro wS hSw
                (try dsimp only at hSw)
                go_simp
                (try with_reducible rfl)
              (try simp only [Act.put, List.setIfInBounds_toArray, List.set_cons_zero, List.set_cons_succ])
              refine wpAnyH_take (i := 6) (oi := { dst := some 131, op := Go.Op.load 3 (Go.Operand.tmp 130), type := 3, pos := "law.go:110", after := #[{ on := 5, ground := Go.Ground.data }], guard := none }) (v := ?_) rfl (by kernel_rfl) (by kernel_rfl) (by kernel_rfl) (fun _ _ _ h => h) (Or.inl ⟨by rfl, ?_⟩) (by assumption) ?_
              rotate_left
              · intro wS hSw
                (have cq := cell_below hSw HNB.out; go_simp; (try with_reducible rfl))
              (try simp only [Act.put, List.setIfInBounds_toArray, List.set_cons_zero, List.set_cons_succ])
              refine wpAnyH_take (i := 7) (oi := { dst := some 132, op := Go.Op.binOp Go.BinOp.rem 3 (Go.Operand.tmp 129) (Go.Operand.tmp 131) 3, type := 3, pos := "law.go:110", after := #[{ on := 4, ground := Go.Ground.data }, { on := 6, ground := Go.Ground.data }], guard := none }) (v := ?_) rfl (by kernel_rfl) (by kernel_rfl) (by kernel_rfl) (fun _ _ _ h => h) (Or.inl ⟨by rfl, ?_⟩) (by assumption) ?_
              rotate_left
              · intro wS hSw
                (try dsimp only at hSw)
                go_simp
                (try with_reducible rfl)
              (try simp only [Act.put, List.setIfInBounds_toArray, List.set_cons_zero, List.set_cons_succ])
              refine wpAnyH_take (i := 8) (oi := { dst := some 20, op := Go.Op.assign (Go.Operand.tmp 132), type := 3, pos := "law.go:110", after := #[{ on := 7, ground := Go.Ground.data }, { on := 0, ground := Go.Ground.phase }, { on := 1, ground := Go.Ground.phase }, { on := 2, ground := Go.Ground.phase }, { on := 3, ground := Go.Ground.phase }, { on := 4, ground := Go.Ground.phase }, { on := 5, ground := Go.Ground.phase }, { on := 6, ground := Go.Ground.phase }, { on := 7, ground := Go.Ground.phase }], guard := none }) (v := ?_) rfl (by kernel_rfl) (by kernel_rfl) (by kernel_rfl) (fun _ _ _ h => h) (Or.inl ⟨by rfl, ?_⟩) (by assumption) ?_
              rotate_left
              · intro wS hSw
                (try dsimp only at hSw)
                go_simp
                (try with_reducible rfl)
              (try simp only [Act.put, List.setIfInBounds_toArray, List.set_cons_zero, List.set_cons_succ])
              refine wpAnyH_done (by kernel_rfl) ?_ _
              have hdr := (Below.refl V1.heap.size V1).drew
              have HOE := Lib.hid (HOD.out.later hdr)
              have HFE := Lib.hid (Blk.below HFD.out hdr (Blk.lt HFD.out))
              have HRI : Hid (∀ A, Below V1.drew.heap.size V1.drew A → A.rangeAt wA.heap.size (a * 3) [.int .u8 (a1 : Int), .int .u32 3, .slice (some ⟨ga, 0, none⟩) 32 32]) := Lib.hid fun A hA => by
                have h9 := (HOE.out.later hA).pw.ri (i := a) HI.out.2.2.2.1
                rw [HI.out.2.2.2.2.2.1, HI.out.2.2.2.2.2.2] at h9
                exact h9
              have HSU : Hid (∀ A, Below V1.drew.heap.size V1.drew A → ∀ t, t < A.heap.size → t = tb → Calls Tryd.prog 9 #[.agg #[.int .i64 (Kp : Int), .int .i64 (Np : Int), .int .u32 3, .string ⟨#[109]⟩, .slice o m c], .string ⟨#[109]⟩, .agg #[.int .u8 (a1 : Int), .int .u32 3, .slice (some ⟨ga, 0, none⟩) 32 32]] A fun e w' => ∃ (Ko No : Int) (geno : Nat) (mko : ByteArray) (oq : Option Addr) (nq cq : Nat) (dq : Bool) (ev : Value), e = .returned (.tuple #[.agg #[.int .i64 Ko, .int .i64 No, .int .u32 (geno : Int), .string mko, .slice oq nq cq], .bool dq, ev]) ∧ AnsR Kp Np k m a p f d t Ko No geno mko oq nq cq dq ev w' ∧ Below A.heap.size A w') := Lib.hid fun A hA t ht htn => by
                subst htn
                have hO := HOE.out.later hA
                have hlow := hO.pw.s.low
                have h9 := submit_at hO.pw HKN.out.1 HKN.out.2.2.1 (by have := HKN.out; omega) p m a c t o HI.out.2.2.1 HI.out.2.2.2.1 hO.pl hO.pi ht (by omega) hO.sh hO.c1 hO.c2
                rw [HI.out.2.2.2.2.2.1, HI.out.2.2.2.2.2.2] at h9
                exact h9
              have HBE : Hid (b9 ≠ b15) := Lib.hid (by have := HG15.out; omega)
              clear hdr HOD HFD HCO HNB
              go_upto_region 20 with fail
              go_cut [21, 22, 23] from 133 to 142 (fun s21 s22 s23 wx => ∃ (b : Nat) (Ko No : Int) (geno : Nat) (mko : ByteArray) (oq : Option Addr) (nq cq : Nat) (dq : Bool) (ev : Value), s21 = .pointer (some ⟨b, 0, none⟩) ∧ s22 = .bool dq ∧ s23 = ev ∧ Blk wx b #[.int .i64 Ko, .int .i64 No, .int .u32 (geno : Int), .string mko, .slice oq nq cq] 36 ∧ AnsR Kp Np k m a p f d tb Ko No geno mko oq nq cq dq ev wx ∧ Below V1.drew.heap.size V1.drew wx ∧ V1.drew.heap.size ≤ b)
              case first =>
                have hvV2 := Below.refl V1.drew.heap.size V1.drew
                have HTB : Hid (tb < V1.drew.heap.size) := Lib.hid HOE.out.pw.s.tab.lt
                refine wp_region_held_drew (S := (Below V1.drew.heap.size V1.drew)) (by kernel_rfl) ?_ (fun hHeld => ?_)
                · (try dsimp only)
                  (first | exact Below.refl _ _ | assumption)
                generalize V1.drew = V2 at *
                refine wpAnyH_take (i := 0) (oi := { dst := some 134, op := Go.Op.load 36 (Go.Operand.tmp 15), type := 36, pos := "law.go:111", after := #[], guard := none }) (v := ?_) rfl (by kernel_rfl) (by kernel_rfl) (by kernel_rfl) (fun _ _ _ h => h) (Or.inl ⟨by rfl, ?_⟩) (by assumption) ?_
                rotate_left
                · intro wS hSw
                  (refine exec_loadM (x := .tmp 15) (cs := [.int .i64 (Kp : Int), .int .i64 (Np : Int), .int .u32 3, .string ⟨#[109]⟩, .slice o m c]) ?_ ?_ (range5 (HOE.out.later hSw).x) Tryd.underlying36 rfl info_pg <;> rfl)
                (try simp only [Act.put, List.setIfInBounds_toArray, List.set_cons_zero, List.set_cons_succ])
                refine wpAnyH_take (i := 1) (oi := { dst := some 135, op := Go.Op.move (Go.Operand.tmp 13), type := 29, pos := "law.go:111", after := #[], guard := none }) (v := ?_) rfl (by kernel_rfl) (by kernel_rfl) (by kernel_rfl) (fun _ _ _ h => h) (Or.inl ⟨by rfl, ?_⟩) (by assumption) ?_
                rotate_left
                · intro wS hSw
                  (try dsimp only at hSw)
                  go_simp
                  (try with_reducible rfl)
                (try simp only [Act.put, List.setIfInBounds_toArray, List.set_cons_zero, List.set_cons_succ])
                refine wpAnyH_take (i := 2) (oi := { dst := some 136, op := Go.Op.move (Go.Operand.tmp 20), type := 3, pos := "law.go:111", after := #[], guard := none }) (v := ?_) rfl (by kernel_rfl) (by kernel_rfl) (by kernel_rfl) (fun _ _ _ h => h) (Or.inl ⟨by rfl, ?_⟩) (by assumption) ?_
                rotate_left
                · intro wS hSw
                  (try dsimp only at hSw)
                  go_simp
                  (try with_reducible rfl)
                (try simp only [Act.put, List.setIfInBounds_toArray, List.set_cons_zero, List.set_cons_succ])
                refine wpAnyH_take (i := 3) (oi := { dst := some 137, op := Go.Op.indexAddr 29 (Go.Operand.tmp 135) (Go.Operand.tmp 136), type := 0, pos := "law.go:111", after := #[{ on := 1, ground := Go.Ground.data }, { on := 2, ground := Go.Ground.data }], guard := none }) (v := ?_) rfl (by kernel_rfl) (by kernel_rfl) (by kernel_rfl) (fun _ _ _ h => h) (Or.inl ⟨by rfl, ?_⟩) (by assumption) ?_
                rotate_left
                · intro wS hSw
                  (try dsimp only at hSw)
                  go_simp
                  (try with_reducible rfl)
                (try simp only [Act.put, List.setIfInBounds_toArray, List.set_cons_zero, List.set_cons_succ])
                refine wpAnyH_take (i := 4) (oi := { dst := some 138, op := Go.Op.load 42 (Go.Operand.tmp 137), type := 42, pos := "law.go:111", after := #[{ on := 3, ground := Go.Ground.data }], guard := none }) (v := ?_) rfl (by kernel_rfl) (by kernel_rfl) (by kernel_rfl) (fun _ _ _ h => h) (Or.inl ⟨by rfl, ?_⟩) (by assumption) ?_
                rotate_left
                · intro wS hSw
                  (refine exec_loadM (x := .tmp 137) (cs := [.int .u8 (a1 : Int), .int .u32 3, .slice (some ⟨ga, 0, none⟩) 32 32]) ?_ ?_ (HRI.out _ hSw) Tryd.underlying42 rfl info_share3 <;> rfl)
                (try simp only [Act.put, List.setIfInBounds_toArray, List.set_cons_zero, List.set_cons_succ])
                refine wpAnyH_ready (rs := [5, 10]) (by kernel_rfl) (by simp) ?_
                refine AllReadyH.cons (o := { dst := some 139, op := Go.Op.call { callee := Go.Callee.value (Go.Operand.func 9), args := #[Go.Operand.tmp 134, Go.Operand.const (Go.Value.string { data := #[109] }), Go.Operand.tmp 138], argTypes := #[36, 9, 42] }, type := 39, pos := "law.go:111", after := #[{ on := 0, ground := Go.Ground.data }, { on := 4, ground := Go.Ground.data }], guard := none }) rfl (fun K hK => ?_) ?_
                · skip
                  go_simp
                  (refine (HSU.out V2 hvV2 tb (Nat.lt_of_lt_of_le HTB.out hvV2.size) rfl).mono ?_; rintro e VSx5V2 ⟨Ko, No, geno, mko, oq, nq, cq, dq, ev, rfl, hrs, hb⟩; (try have HZB := Lib.hid (Blk.below HZB.out hb (Blk.lt HZB.out))); have HRS := Lib.hid hrs; have hvVSx5V2 := Below.trans hvV2 (hb.mono hvV2.size); clear hb hrs; skip)
                  (try go_wp2_with fail)
                  refine hK.out _ _ ?_ (fun hHeld => ?_)
                  · (try dsimp only)
                    (first | exact Below.refl _ _ | assumption)
                  clear hK K
                  (try simp only [Act.put, List.setIfInBounds_toArray, List.set_cons_zero, List.set_cons_succ])
                  refine wpAnyH_take (i := 6) (oi := { dst := some 133, op := Go.Op.move (Go.Operand.tmp 139), type := 39, pos := "law.go:111", after := #[{ on := 5, ground := Go.Ground.data }], guard := none }) (v := ?_) rfl (by kernel_rfl) (by kernel_rfl) (by kernel_rfl) (fun _ _ _ h => h) (Or.inl ⟨by rfl, ?_⟩) (by assumption) ?_
                  rotate_left
                  · intro wS hSw
                    (try dsimp only at hSw)
                    go_simp
                    (try with_reducible rfl)
                  (try simp only [Act.put, List.setIfInBounds_toArray, List.set_cons_zero, List.set_cons_succ])
                  refine wpAnyH_take (i := 7) (oi := { dst := some 140, op := Go.Op.extract (Go.Operand.tmp 133) 0, type := 36, pos := "law.go:111", after := #[{ on := 6, ground := Go.Ground.data }], guard := none }) (v := ?_) rfl (by kernel_rfl) (by kernel_rfl) (by kernel_rfl) (fun _ _ _ h => h) (Or.inl ⟨by rfl, ?_⟩) (by assumption) ?_
                  rotate_left
                  · intro wS hSw
                    (try dsimp only at hSw)
                    go_simp
                    (try with_reducible rfl)
                  (try simp only [Act.put, List.setIfInBounds_toArray, List.set_cons_zero, List.set_cons_succ])
                  refine wpAnyH_take (i := 8) (oi := { dst := some 141, op := Go.Op.extract (Go.Operand.tmp 133) 1, type := 4, pos := "law.go:111", after := #[{ on := 6, ground := Go.Ground.data }, { on := 11, ground := Go.Ground.gcOnly Go.Departure.lateStores }], guard := none }) (v := ?_) rfl (by kernel_rfl) (by kernel_rfl) (by kernel_rfl) (fun _ _ _ h => h) (Or.inl ⟨by rfl, ?_⟩) (by assumption) ?_
                  rotate_left
                  · intro wS hSw
                    (try dsimp only at hSw)
                    go_simp
                    (try with_reducible rfl)
                  (try simp only [Act.put, List.setIfInBounds_toArray, List.set_cons_zero, List.set_cons_succ])
                  refine wpAnyH_take (i := 9) (oi := { dst := some 142, op := Go.Op.extract (Go.Operand.tmp 133) 2, type := 31, pos := "law.go:111", after := #[{ on := 6, ground := Go.Ground.data }, { on := 12, ground := Go.Ground.gcOnly Go.Departure.lateStores }], guard := none }) (v := ?_) rfl (by kernel_rfl) (by kernel_rfl) (by kernel_rfl) (fun _ _ _ h => h) (Or.inl ⟨by rfl, ?_⟩) (by assumption) ?_
                  rotate_left
                  · intro wS hSw
                    (try dsimp only at hSw)
                    go_simp
                    (try with_reducible rfl)
                  (try simp only [Act.put, List.setIfInBounds_toArray, List.set_cons_zero, List.set_cons_succ])
                  refine wpAnyH_ready (rs := [10]) (by kernel_rfl) (by simp) ?_
                  refine AllReadyH.cons (o := { dst := some 21, op := Go.Op.alloc 36, type := 0, pos := "law.go:111", after := #[], guard := none }) rfl (fun K hK => ?_) AllReadyH.nil
                  (refine step_zero rfl rfl zpg_run ?_; obtain ⟨VZx5V2, hw⟩ : ∃ q, VSx5V2.alloc (.cells #[.int .i64 0, .int .i64 0, .int .u32 0, .string ⟨#[]⟩, .slice none 0 0] 36) = q := ⟨_, rfl⟩; rw [hw]; have hb : Below VSx5V2.heap.size VSx5V2 VZx5V2 := (by rw [← hw]; exact (Below.refl _ _).alloc (Nat.le_refl _) _); have HRS := Lib.hid (HRS.out.later hb); have HZB : Hid (Blk VZx5V2 VSx5V2.heap.size #[.int .i64 0, .int .i64 0, .int .u32 0, .string ⟨#[]⟩, .slice none 0 0] 36) := Lib.hid (by rw [← hw]; exact Blk.new _ _ _); have HZV := Lib.hid (show V2.heap.size ≤ VSx5V2.heap.size ∧ VSx5V2.heap.size < VZx5V2.heap.size from ⟨hvVSx5V2.size, by rw [← hw]; simp⟩); have hvVZx5V2 := Below.trans hvVSx5V2 (hb.mono hvVSx5V2.size); clear hb hw; skip)
                  refine hK.out _ _ ?_ (fun hHeld => ?_)
                  · (try dsimp only)
                    (first | exact Below.refl _ _ | assumption)
                  clear hK K
                  (try simp only [Act.put, List.setIfInBounds_toArray, List.set_cons_zero, List.set_cons_succ])
                  refine wpAnyH_ready (rs := [11]) (by kernel_rfl) (by simp) ?_
                  refine AllReadyH.cons (o := { dst := none, op := Go.Op.store 36 (Go.Operand.tmp 21) (Go.Operand.tmp 140), type := 0, pos := "law.go:111", after := #[{ on := 10, ground := Go.Ground.data }, { on := 7, ground := Go.Ground.data }, { on := 5, ground := Go.Ground.chain }, { on := 0, ground := Go.Ground.phase }, { on := 1, ground := Go.Ground.phase }, { on := 2, ground := Go.Ground.phase }, { on := 3, ground := Go.Ground.phase }, { on := 4, ground := Go.Ground.phase }, { on := 5, ground := Go.Ground.phase }, { on := 6, ground := Go.Ground.phase }, { on := 7, ground := Go.Ground.phase }, { on := 8, ground := Go.Ground.textOnly Go.Departure.lateStores }, { on := 9, ground := Go.Ground.textOnly Go.Departure.lateStores }, { on := 10, ground := Go.Ground.phase }], guard := none }) rfl (fun K hK => ?_) AllReadyH.nil
                  (refine step_storeM rfl 36 (.tmp 21) (.tmp 140) rfl (VSx5V2.heap.size) 0 #[.int .i64 Ko, .int .i64 No, .int .u32 (geno : Int), .string mko, .slice oq nq cq] rfl rfl (HZB.out.there (n := 5) (Nat.le_refl 5)) info_pg (one_pg _ _ _ _ _ _ _) ?_; have HO9 : Hid (Own (VSx5V2.heap.size) VZx5V2 _) := Lib.hid (Own.setCells #[.int .i64 Ko, .int .i64 No, .int .u32 (geno : Int), .string mko, .slice oq nq cq].toList 0 VZx5V2); have HV9 := Lib.hid (hvVZx5V2.trans (HO9.out.below HZV.out.1 hvVZx5V2.size)); have hv9 := HV9.out; have HB9 : Hid (Blk (VZx5V2.setCells (VSx5V2.heap.size) 0 [.int .i64 Ko, .int .i64 No, .int .u32 (geno : Int), .string mko, .slice oq nq cq]) (VSx5V2.heap.size) #[.int .i64 Ko, .int .i64 No, .int .u32 (geno : Int), .string mko, .slice oq nq cq] 36) := Lib.hid (HZB.out.whole5 rfl _ _ _ _ _); skip)
                  refine hK.out _ _ ?_ (fun hHeld => ?_)
                  · (try dsimp only)
                    (first | exact Below.refl _ _ | assumption)
                  clear hK K
                  (try simp only [Act.put, List.setIfInBounds_toArray, List.set_cons_zero, List.set_cons_succ])
                  refine wpAnyH_take (i := 12) (oi := { dst := some 22, op := Go.Op.assign (Go.Operand.tmp 141), type := 4, pos := "law.go:111", after := #[{ on := 8, ground := Go.Ground.data }, { on := 11, ground := Go.Ground.chain }, { on := 0, ground := Go.Ground.phase }, { on := 1, ground := Go.Ground.phase }, { on := 2, ground := Go.Ground.phase }, { on := 3, ground := Go.Ground.phase }, { on := 4, ground := Go.Ground.phase }, { on := 5, ground := Go.Ground.phase }, { on := 6, ground := Go.Ground.phase }, { on := 7, ground := Go.Ground.phase }, { on := 8, ground := Go.Ground.phase }, { on := 9, ground := Go.Ground.textOnly Go.Departure.lateStores }, { on := 10, ground := Go.Ground.phase }, { on := 11, ground := Go.Ground.phase }], guard := none }) (v := ?_) rfl (by kernel_rfl) (by kernel_rfl) (by kernel_rfl) (fun _ _ _ h => h) (Or.inl ⟨by rfl, ?_⟩) (by assumption) ?_
                  rotate_left
                  · intro wS hSw
                    (try dsimp only at hSw)
                    go_simp
                    (try with_reducible rfl)
                  (try simp only [Act.put, List.setIfInBounds_toArray, List.set_cons_zero, List.set_cons_succ])
                  refine wpAnyH_take (i := 13) (oi := { dst := some 23, op := Go.Op.assign (Go.Operand.tmp 142), type := 31, pos := "law.go:111", after := #[{ on := 9, ground := Go.Ground.data }, { on := 12, ground := Go.Ground.chain }, { on := 0, ground := Go.Ground.phase }, { on := 1, ground := Go.Ground.phase }, { on := 2, ground := Go.Ground.phase }, { on := 3, ground := Go.Ground.phase }, { on := 4, ground := Go.Ground.phase }, { on := 5, ground := Go.Ground.phase }, { on := 6, ground := Go.Ground.phase }, { on := 7, ground := Go.Ground.phase }, { on := 8, ground := Go.Ground.phase }, { on := 9, ground := Go.Ground.phase }, { on := 10, ground := Go.Ground.phase }, { on := 11, ground := Go.Ground.phase }, { on := 12, ground := Go.Ground.phase }], guard := none }) (v := ?_) rfl (by kernel_rfl) (by kernel_rfl) (by kernel_rfl) (fun _ _ _ h => h) (Or.inl ⟨by rfl, ?_⟩) (by assumption) ?_
                  rotate_left
                  · intro wS hSw
                    (try dsimp only at hSw)
                    go_simp
                    (try with_reducible rfl)
                  (try simp only [Act.put, List.setIfInBounds_toArray, List.set_cons_zero, List.set_cons_succ])
                  refine wpAnyH_done (by kernel_rfl) ?_ _
                  go_wp2_with fail
                  go_meet
                  exact ⟨_, Ko, No, geno, mko, oq, nq, cq, dq, ev, rfl, rfl, rfl, HB9.out, HRS.out.put HZB.out (pg_no8 _ _ _ _ _ _ _) HO9.out, HV9.out, HZV.out.1⟩
                refine AllReadyH.cons (o := { dst := some 21, op := Go.Op.alloc 36, type := 0, pos := "law.go:111", after := #[], guard := none }) rfl (fun K hK => ?_) AllReadyH.nil
                (refine step_zero rfl rfl zpg_run ?_; obtain ⟨VZx10V2, hw⟩ : ∃ q, V2.alloc (.cells #[.int .i64 0, .int .i64 0, .int .u32 0, .string ⟨#[]⟩, .slice none 0 0] 36) = q := ⟨_, rfl⟩; rw [hw]; have hb : Below V2.heap.size V2 VZx10V2 := (by rw [← hw]; exact (Below.refl _ _).alloc (Nat.le_refl _) _); have HZB : Hid (Blk VZx10V2 V2.heap.size #[.int .i64 0, .int .i64 0, .int .u32 0, .string ⟨#[]⟩, .slice none 0 0] 36) := Lib.hid (by rw [← hw]; exact Blk.new _ _ _); have HZV := Lib.hid (show V2.heap.size ≤ V2.heap.size ∧ V2.heap.size < VZx10V2.heap.size from ⟨hvV2.size, by rw [← hw]; simp⟩); have hvVZx10V2 := Below.trans hvV2 (hb.mono hvV2.size); clear hb hw; skip)
                refine hK.out _ _ ?_ (fun hHeld => ?_)
                · (try dsimp only)
                  (first | exact Below.refl _ _ | assumption)
                clear hK K
                (try simp only [Act.put, List.setIfInBounds_toArray, List.set_cons_zero, List.set_cons_succ])
                refine wpAnyH_ready (rs := [5]) (by kernel_rfl) (by simp) ?_
                refine AllReadyH.cons (o := { dst := some 139, op := Go.Op.call { callee := Go.Callee.value (Go.Operand.func 9), args := #[Go.Operand.tmp 134, Go.Operand.const (Go.Value.string { data := #[109] }), Go.Operand.tmp 138], argTypes := #[36, 9, 42] }, type := 39, pos := "law.go:111", after := #[{ on := 0, ground := Go.Ground.data }, { on := 4, ground := Go.Ground.data }], guard := none }) rfl (fun K hK => ?_) AllReadyH.nil
                go_simp
                (refine (HSU.out VZx10V2 hvVZx10V2 tb (Nat.lt_of_lt_of_le HTB.out hvVZx10V2.size) rfl).mono ?_; rintro e VSx10V2 ⟨Ko, No, geno, mko, oq, nq, cq, dq, ev, rfl, hrs, hb⟩; (try have HZB := Lib.hid (Blk.below HZB.out hb (Blk.lt HZB.out))); have HRS := Lib.hid hrs; have hvVSx10V2 := Below.trans hvVZx10V2 (hb.mono hvVZx10V2.size); clear hb hrs; skip)
                (try go_wp2_with fail)
                refine hK.out _ _ ?_ (fun hHeld => ?_)
                · (try dsimp only)
                  (first | exact Below.refl _ _ | assumption)
                clear hK K
                (try simp only [Act.put, List.setIfInBounds_toArray, List.set_cons_zero, List.set_cons_succ])
                refine wpAnyH_take (i := 6) (oi := { dst := some 133, op := Go.Op.move (Go.Operand.tmp 139), type := 39, pos := "law.go:111", after := #[{ on := 5, ground := Go.Ground.data }], guard := none }) (v := ?_) rfl (by kernel_rfl) (by kernel_rfl) (by kernel_rfl) (fun _ _ _ h => h) (Or.inl ⟨by rfl, ?_⟩) (by assumption) ?_
                rotate_left
                · intro wS hSw
                  (try dsimp only at hSw)
                  go_simp
                  (try with_reducible rfl)
                (try simp only [Act.put, List.setIfInBounds_toArray, List.set_cons_zero, List.set_cons_succ])
                refine wpAnyH_take (i := 7) (oi := { dst := some 140, op := Go.Op.extract (Go.Operand.tmp 133) 0, type := 36, pos := "law.go:111", after := #[{ on := 6, ground := Go.Ground.data }], guard := none }) (v := ?_) rfl (by kernel_rfl) (by kernel_rfl) (by kernel_rfl) (fun _ _ _ h => h) (Or.inl ⟨by rfl, ?_⟩) (by assumption) ?_
                rotate_left
                · intro wS hSw
                  (try dsimp only at hSw)
                  go_simp
                  (try with_reducible rfl)
                (try simp only [Act.put, List.setIfInBounds_toArray, List.set_cons_zero, List.set_cons_succ])
                refine wpAnyH_take (i := 8) (oi := { dst := some 141, op := Go.Op.extract (Go.Operand.tmp 133) 1, type := 4, pos := "law.go:111", after := #[{ on := 6, ground := Go.Ground.data }, { on := 11, ground := Go.Ground.gcOnly Go.Departure.lateStores }], guard := none }) (v := ?_) rfl (by kernel_rfl) (by kernel_rfl) (by kernel_rfl) (fun _ _ _ h => h) (Or.inl ⟨by rfl, ?_⟩) (by assumption) ?_
                rotate_left
                · intro wS hSw
                  (try dsimp only at hSw)
                  go_simp
                  (try with_reducible rfl)
                (try simp only [Act.put, List.setIfInBounds_toArray, List.set_cons_zero, List.set_cons_succ])
                refine wpAnyH_take (i := 9) (oi := { dst := some 142, op := Go.Op.extract (Go.Operand.tmp 133) 2, type := 31, pos := "law.go:111", after := #[{ on := 6, ground := Go.Ground.data }, { on := 12, ground := Go.Ground.gcOnly Go.Departure.lateStores }], guard := none }) (v := ?_) rfl (by kernel_rfl) (by kernel_rfl) (by kernel_rfl) (fun _ _ _ h => h) (Or.inl ⟨by rfl, ?_⟩) (by assumption) ?_
                rotate_left
                · intro wS hSw
                  (try dsimp only at hSw)
                  go_simp
                  (try with_reducible rfl)
                (try simp only [Act.put, List.setIfInBounds_toArray, List.set_cons_zero, List.set_cons_succ])
                refine wpAnyH_ready (rs := [11]) (by kernel_rfl) (by simp) ?_
                refine AllReadyH.cons (o := { dst := none, op := Go.Op.store 36 (Go.Operand.tmp 21) (Go.Operand.tmp 140), type := 0, pos := "law.go:111", after := #[{ on := 10, ground := Go.Ground.data }, { on := 7, ground := Go.Ground.data }, { on := 5, ground := Go.Ground.chain }, { on := 0, ground := Go.Ground.phase }, { on := 1, ground := Go.Ground.phase }, { on := 2, ground := Go.Ground.phase }, { on := 3, ground := Go.Ground.phase }, { on := 4, ground := Go.Ground.phase }, { on := 5, ground := Go.Ground.phase }, { on := 6, ground := Go.Ground.phase }, { on := 7, ground := Go.Ground.phase }, { on := 8, ground := Go.Ground.textOnly Go.Departure.lateStores }, { on := 9, ground := Go.Ground.textOnly Go.Departure.lateStores }, { on := 10, ground := Go.Ground.phase }], guard := none }) rfl (fun K hK => ?_) AllReadyH.nil
                (refine step_storeM rfl 36 (.tmp 21) (.tmp 140) rfl (V2.heap.size) 0 #[.int .i64 Ko, .int .i64 No, .int .u32 (geno : Int), .string mko, .slice oq nq cq] rfl rfl (HZB.out.there (n := 5) (Nat.le_refl 5)) info_pg (one_pg _ _ _ _ _ _ _) ?_; have HO9 : Hid (Own (V2.heap.size) VSx10V2 _) := Lib.hid (Own.setCells #[.int .i64 Ko, .int .i64 No, .int .u32 (geno : Int), .string mko, .slice oq nq cq].toList 0 VSx10V2); have HV9 := Lib.hid (hvVSx10V2.trans (HO9.out.below HZV.out.1 hvVSx10V2.size)); have hv9 := HV9.out; have HB9 : Hid (Blk (VSx10V2.setCells (V2.heap.size) 0 [.int .i64 Ko, .int .i64 No, .int .u32 (geno : Int), .string mko, .slice oq nq cq]) (V2.heap.size) #[.int .i64 Ko, .int .i64 No, .int .u32 (geno : Int), .string mko, .slice oq nq cq] 36) := Lib.hid (HZB.out.whole5 rfl _ _ _ _ _); skip)
                refine hK.out _ _ ?_ (fun hHeld => ?_)
                · (try dsimp only)
                  (first | exact Below.refl _ _ | assumption)
                clear hK K
                (try simp only [Act.put, List.setIfInBounds_toArray, List.set_cons_zero, List.set_cons_succ])
                refine wpAnyH_take (i := 12) (oi := { dst := some 22, op := Go.Op.assign (Go.Operand.tmp 141), type := 4, pos := "law.go:111", after := #[{ on := 8, ground := Go.Ground.data }, { on := 11, ground := Go.Ground.chain }, { on := 0, ground := Go.Ground.phase }, { on := 1, ground := Go.Ground.phase }, { on := 2, ground := Go.Ground.phase }, { on := 3, ground := Go.Ground.phase }, { on := 4, ground := Go.Ground.phase }, { on := 5, ground := Go.Ground.phase }, { on := 6, ground := Go.Ground.phase }, { on := 7, ground := Go.Ground.phase }, { on := 8, ground := Go.Ground.phase }, { on := 9, ground := Go.Ground.textOnly Go.Departure.lateStores }, { on := 10, ground := Go.Ground.phase }, { on := 11, ground := Go.Ground.phase }], guard := none }) (v := ?_) rfl (by kernel_rfl) (by kernel_rfl) (by kernel_rfl) (fun _ _ _ h => h) (Or.inl ⟨by rfl, ?_⟩) (by assumption) ?_
                rotate_left
                · intro wS hSw
                  (try dsimp only at hSw)
                  go_simp
                  (try with_reducible rfl)
                (try simp only [Act.put, List.setIfInBounds_toArray, List.set_cons_zero, List.set_cons_succ])
                refine wpAnyH_take (i := 13) (oi := { dst := some 23, op := Go.Op.assign (Go.Operand.tmp 142), type := 31, pos := "law.go:111", after := #[{ on := 9, ground := Go.Ground.data }, { on := 12, ground := Go.Ground.chain }, { on := 0, ground := Go.Ground.phase }, { on := 1, ground := Go.Ground.phase }, { on := 2, ground := Go.Ground.phase }, { on := 3, ground := Go.Ground.phase }, { on := 4, ground := Go.Ground.phase }, { on := 5, ground := Go.Ground.phase }, { on := 6, ground := Go.Ground.phase }, { on := 7, ground := Go.Ground.phase }, { on := 8, ground := Go.Ground.phase }, { on := 9, ground := Go.Ground.phase }, { on := 10, ground := Go.Ground.phase }, { on := 11, ground := Go.Ground.phase }, { on := 12, ground := Go.Ground.phase }], guard := none }) (v := ?_) rfl (by kernel_rfl) (by kernel_rfl) (by kernel_rfl) (fun _ _ _ h => h) (Or.inl ⟨by rfl, ?_⟩) (by assumption) ?_
                rotate_left
                · intro wS hSw
                  (try dsimp only at hSw)
                  go_simp
                  (try with_reducible rfl)
                (try simp only [Act.put, List.setIfInBounds_toArray, List.set_cons_zero, List.set_cons_succ])
                refine wpAnyH_done (by kernel_rfl) ?_ _
                go_wp2_with fail
                go_meet
                exact ⟨_, Ko, No, geno, mko, oq, nq, cq, dq, ev, rfl, rfl, rfl, HB9.out, HRS.out.put HZB.out (pg_no8 _ _ _ _ _ _ _) HO9.out, HV9.out, HZV.out.1⟩
              case rest =>
                obtain ⟨b21, Ko, No, geno, mko, oq, nq, cq, dq, ev, rfl, rfl, h23, hB, hA, hb, hbg⟩ := hcut
                subst h23
                generalize wc = w21 at *
                have HO21 := Lib.hid (HOE.out.later hb)
                have HF21 := Lib.hid (Blk.below HFE.out hb (Blk.lt HFE.out))
                have ha256 : a < 256 := by have := HI.out; have := HKN.out; omega
                have c17 : w21.cell? ⟨b17, a, none⟩ = some (.bool (C a)) := by rw [Blk.cell HO21.out.cm, List.getElem?_toArray]; exact flagC_get C ha256
                have HBG := Lib.hid (show b17 < b21 by have := Blk.lt HOE.out.cm; omega)
                clear hb hbg HOE HFE HSU HRI
                by_cases hC : C a = true
                · rcases hA with ⟨hs, rfl⟩ | ⟨hs, _⟩
                  · rw [hC] at c17
                    clear hB hs hC ha256
                    go_wp2_with fail
                    refine (num_err03 12 w21 (HG.out w21 HO21.out.pw.b)).mono ?_
                    rintro e w22 ⟨rfl, hb2⟩
                    have HO22 := Lib.hid (HO21.out.later hb2)
                    have HF22 := Lib.hid (Blk.below HF21.out hb2 (Blk.lt HF21.out))
                    clear hb2 c17
                    go_wp2_with fail
                    go_roundw
                    case rel => exact ⟨i + 1, m, p, o, c, C, HI.out.2.1, by first | rfl | go_num, by first | rfl | go_num, HO22.out, HF22.out⟩
                    case measure => have := HI.out; simp [intOf]; omega
                  · exact absurd ((HO21.out.cs a ha256).1 hC) hs
                · have hC2 : C a = false := by
                    rcases h9 : C a with _ | _
                    · rfl
                    · exact absurd h9 hC
                  rw [hC2] at c17
                  rcases hA with ⟨hs, _⟩ | ⟨hs, hk1, hk2, hk3, hk4, hk5, hk6, hk7, hq1, hq2, hS⟩
                  · exact absurd ((HO21.out.cs a ha256).2 hs) hC
                  · subst hk1 hk2 hk3 hk4 hk5 hk6 hk7
                    have hadd := HO21.out.add a cq oq HI.out.2.2.2.1 HI.out.2.2.1 hs (by have := HKN.out; omega) hq1 hq2 hS HG15.out.1 HG15.out.2.1 HG15.out.2.2.1 HB17.out
                    rw [HI.out.2.2.2.2.1] at hadd hB
                    obtain ⟨w22, hw22⟩ : ∃ q, w21.setCell ⟨b17, a, none⟩ (.bool true) = q := ⟨_, rfl⟩
                    rw [hw22] at hadd
                    have hO22 : Own b17 w21 w22 := by rw [← hw22]; exact (Own.refl _ _).set a _
                    have hgs := HG15.out
                    have hne := HNE.out
                    have hg17 := HB17.out
                    have hx22 := hO22.blk HO21.out.x (by omega)
                    have hy22 := hO22.blk hB (by have := HBG.out; omega)
                    have HTH : Hid (w22.there b15 0 5) := Lib.hid (hx22.there (Nat.le_refl 5))
                    have HRY := Lib.hid (range5 hy22)
                    have y4 := pg_sl hy22
                    have c9 : w22.cell? ⟨b9, 0, none⟩ = some (.int .i64 (Kp : Int)) := by rw [Blk.cell (hO22.blk HO21.out.pw.p (by omega))]; rfl
                    have f17 : w21.frozen? ⟨b17, a, none⟩ = false := Blk.free HO21.out.cm a
                    obtain ⟨w23, hw23⟩ : ∃ q, w22.setCells b15 0 [.int .i64 (Kp : Int), .int .i64 (Np : Int), .int .u32 3, .string ⟨#[109]⟩, .slice oq m1 cq] = q := ⟨_, rfl⟩
                    rw [hw23] at hadd
                    have HO23 := Lib.hid hadd
                    have HF23 : Hid (Blk w23 w.heap.size F 22) := Lib.hid (by rw [← hw23]; exact (Own.setCells _ _ _).blk (hO22.blk HF21.out (by omega)) (by omega))
                    have HW23 := Lib.hid hw23
                    clear hadd hO22 hgs hne hg17 hx22 hy22 hB hs hC hC2 hq1 hq2 hS ha256 hw23
                    by_cases hmK : m1 = Kp
                    · have hd : decide ((m : Int) + 1 = (Kp : Int)) = true := decide_eq_true (by omega)
                      rw [hd]
                      have e1 : (m1 : Int) = (Kp : Int) := by omega
                      have e2 : decide ((m1 : Int) = (Kp : Int)) = true := decide_eq_true e1
                      have e3 : ((m1 : Int) == (Kp : Int)) = true := by simp only [beq_iff_eq]; exact e1
                      have e4 : decide (m1 = Kp) = true := decide_eq_true (by omega)
                      have e5 : (m1 == Kp) = true := by simp only [beq_iff_eq]; omega
                      clear hd hmK e1
                      go_wp2_with (first | (refine wpList_value rfl (exec_loadM (x := .tmp 21) (cs := [.int .i64 (Kp : Int), .int .i64 (Np : Int), .int .u32 3, .string ⟨#[109]⟩, .slice oq m1 cq]) rfl rfl HRY.out Tryd.underlying36 rfl info_pg) ?_) | (refine wpList_store_mid rfl 36 (.tmp 15) (.tmp 172) rfl b15 0 #[.int .i64 (Kp : Int), .int .i64 (Np : Int), .int .u32 3, .string ⟨#[109]⟩, .slice oq m1 cq] rfl rfl HTH.out info_pg (one_pg _ _ _ _ _ _ _) ?_; rw [HW23.out]))
                      go_roundw
                      case rel => exact ⟨i + 1, m1, addp p m a, oq, cq, updB C a true, HI.out.2.1, by first | rfl | go_num, by first | rfl | go_num, HO23.out, HF23.out⟩
                      case measure => have := HI.out; simp [intOf]; omega
                    · have hd : decide ((m : Int) + 1 = (Kp : Int)) = false := decide_eq_false (by omega)
                      rw [hd]
                      have e1 : ¬ (m1 : Int) = (Kp : Int) := by omega
                      have e2 : decide ((m1 : Int) = (Kp : Int)) = false := decide_eq_false e1
                      have e3 : ((m1 : Int) == (Kp : Int)) = false := by simp only [beq_eq_false_iff_ne]; exact e1
                      have e4 : decide (m1 = Kp) = false := decide_eq_false (by omega)
                      have e5 : (m1 == Kp) = false := by simp only [beq_eq_false_iff_ne]; omega
                      have e6 : ¬ m1 = Kp := by omega
                      clear hd hmK e1
                      go_wp2_with (first | (refine wpList_value rfl (exec_loadM (x := .tmp 21) (cs := [.int .i64 (Kp : Int), .int .i64 (Np : Int), .int .u32 3, .string ⟨#[109]⟩, .slice oq m1 cq]) rfl rfl HRY.out Tryd.underlying36 rfl info_pg) ?_) | (refine wpList_store_mid rfl 36 (.tmp 15) (.tmp 172) rfl b15 0 #[.int .i64 (Kp : Int), .int .i64 (Np : Int), .int .u32 3, .string ⟨#[109]⟩, .slice oq m1 cq] rfl rfl HTH.out info_pg (one_pg _ _ _ _ _ _ _) ?_; rw [HW23.out]))
                      go_roundw
                      case rel => exact ⟨i + 1, m1, addp p m a, oq, cq, updB C a true, HI.out.2.1, by first | rfl | go_num, by first | rfl | go_num, HO23.out, HF23.out⟩
                      case measure => have := HI.out; simp [intOf]; omega
            · skip
              obtain rfl : Kp = m := by have := HOR.out.le; omega
              have j1 : ¬ (Kp : Int) < (Kp : Int) := by omega
              have j2 : decide ((Kp : Int) < (Kp : Int)) = false := decide_eq_false j1
              have j3 : ¬ Kp < Kp := by omega
              have HRX := Lib.hid (range5 HOR.out.x)
              clear hlt hmk hi
              go_wp2_with (first | (refine wpList_value rfl (exec_loadM (x := .tmp 15) (cs := [.int .i64 (Kp : Int), .int .i64 (Np : Int), .int .u32 3, .string ⟨#[109]⟩, .slice o Kp c]) rfl rfl HRX.out Tryd.underlying36 rfl info_pg) ?_))
              refine (secret_all HOR.out HKN.out.1 HKN.out.2.2.1 (by have := HKN.out; omega) HKN.out.2.2.2.2.1 HFB.out (by rw [← HKN.out.2.2.2.2.2]; exact HDD.out)).mono ?_
              rintro e w30 ⟨g, rfl, hg, hR, hL⟩
              have HO30 := Lib.hid (HOR.out.left hL HNE.out.2.2.1 HNE.out.2.1 HG15.out.2.2.2 HB17.out)
              have hF30 := hL.2.blk HFR.out HNE.out.1
              obtain ⟨SF, hSF⟩ : ∃ q, strF 32 f = q := ⟨_, rfl⟩
              have HCG : Hid (CVx w30 (.slice (some ⟨g, 0, none⟩) 32 32) SF) := Lib.hid ⟨_, 32, 32, f, rfl, hR.bytes HFB.out, (fun e => by cases e), hSF⟩
              have HCF : Hid (CVx w30 (.slice (some ⟨w.heap.size, 0, none⟩) 32 32) SF) := Lib.hid ⟨_, 32, 32, f, rfl, (fun i hi => ⟨HFB.out i hi, w.heap.size, 0, rfl, by
                have hpb := hF30
                rw [← HF.out] at hpb
                rw [Nat.zero_add, Blk.cell hpb i]; simpa using rowC_get f hi⟩), (fun e => by cases e), hSF⟩
              have c9 : w30.cell? ⟨b9, 0, none⟩ = some (.int .i64 (Kp : Int)) := by rw [Blk.cell HO30.out.pw.p]; rfl
              clear hL HRX hR hg hF30 hSF
              go_upto_region 32 with fail
              have hdr := (Below.refl w30.heap.size w30).drew
              have HOE := Lib.hid (HO30.out.later hdr)
              have HTB : Hid (tb < w30.drew.heap.size) := Lib.hid HOE.out.pw.s.tab.lt
              have HCG2 := Lib.hid (HCG.out.later hdr)
              have HCF2 := Lib.hid (HCF.out.later hdr)
              have HI2 := Lib.hid (show (0 : Int) < (Np : Int) ∧ 0 < Np ∧ 2 ≤ Np by have := HKN.out; omega)
              have i0 := HI2.out.1
              have j0 := HI2.out.2.1
              have HSU : Hid (∀ A, Below w30.drew.heap.size w30.drew A → ∀ t, t < A.heap.size → t = tb → Calls Tryd.prog 9 #[.agg #[.int .i64 (Kp : Int), .int .i64 (Np : Int), .int .u32 3, .string ⟨#[109]⟩, .slice o Kp c], .string ⟨#[109]⟩, .agg #[.int .u8 1, .int .u32 3, .slice (some ⟨wA.heap.size + 1, 0, none⟩) 32 32]] A fun e w' => e = .returned (.tuple #[.agg #[.int .i64 0, .int .i64 0, .int .u32 0, .string ⟨#[]⟩, .slice none 0 0], .bool false, .iface 83 (.int .i64 15)]) ∧ True ∧ Below A.heap.size A w') := Lib.hid fun A hA t _ _ => submit_full (HOE.out.later hA) HKN.out.1 HKN.out.2.2.1 (by have := HKN.out; omega)
              clear hdr c9 HCG HCF
              go_cut [26, 28] from 194 to 202 (fun s26 s28 wx => ∃ (b : Nat), s26 = .pointer (some ⟨b, 0, none⟩) ∧ s28 = .iface 83 (.int .i64 15) ∧ Below w30.drew.heap.size w30.drew wx)
              case first =>
                have hvV3 := Below.refl w30.drew.heap.size w30.drew
                refine wp_region_held_drew (S := (Below w30.drew.heap.size w30.drew)) (by kernel_rfl) ?_ (fun hHeld => ?_)
                · (try dsimp only)
                  (first | exact Below.refl _ _ | assumption)
                generalize w30.drew = V3 at *
                refine wpAnyH_take (i := 0) (oi := { dst := some 195, op := Go.Op.load 36 (Go.Operand.tmp 15), type := 36, pos := "law.go:129", after := #[], guard := none }) (v := ?_) rfl (by kernel_rfl) (by kernel_rfl) (by kernel_rfl) (fun _ _ _ h => h) (Or.inl ⟨by rfl, ?_⟩) (by assumption) ?_
                rotate_left
                · intro wS hSw
                  (refine exec_loadM (x := .tmp 15) (cs := [.int .i64 (Kp : Int), .int .i64 (Np : Int), .int .u32 3, .string ⟨#[109]⟩, .slice o Kp c]) ?_ ?_ (range5 (HOE.out.later hSw).x) Tryd.underlying36 rfl info_pg <;> rfl)
                (try simp only [Act.put, List.setIfInBounds_toArray, List.set_cons_zero, List.set_cons_succ])
                refine wpAnyH_take (i := 1) (oi := { dst := some 196, op := Go.Op.move (Go.Operand.tmp 13), type := 29, pos := "law.go:129", after := #[], guard := none }) (v := ?_) rfl (by kernel_rfl) (by kernel_rfl) (by kernel_rfl) (fun _ _ _ h => h) (Or.inl ⟨by rfl, ?_⟩) (by assumption) ?_
                rotate_left
                · intro wS hSw
                  (try dsimp only at hSw)
                  go_simp
                  (try with_reducible rfl)
                (try simp only [Act.put, List.setIfInBounds_toArray, List.set_cons_zero, List.set_cons_succ])
                refine wpAnyH_take (i := 2) (oi := { dst := some 197, op := Go.Op.indexAddr 29 (Go.Operand.tmp 196) (Go.Operand.const (Go.Value.int Go.IntKind.i64 0)), type := 0, pos := "law.go:129", after := #[{ on := 1, ground := Go.Ground.data }], guard := none }) (v := ?_) rfl (by kernel_rfl) (by kernel_rfl) (by kernel_rfl) (fun _ _ _ h => h) (Or.inl ⟨by rfl, ?_⟩) (by assumption) ?_
                rotate_left
                · intro wS hSw
                  (try dsimp only at hSw)
                  go_simp
                  (try with_reducible rfl)
                (try simp only [Act.put, List.setIfInBounds_toArray, List.set_cons_zero, List.set_cons_succ])
                refine wpAnyH_take (i := 3) (oi := { dst := some 198, op := Go.Op.load 42 (Go.Operand.tmp 197), type := 42, pos := "law.go:129", after := #[{ on := 2, ground := Go.Ground.data }], guard := none }) (v := ?_) rfl (by kernel_rfl) (by kernel_rfl) (by kernel_rfl) (fun _ _ _ h => h) (Or.inl ⟨by rfl, ?_⟩) (by assumption) ?_
                rotate_left
                · intro wS hSw
                  (refine exec_loadM (x := .tmp 197) (cs := [.int .u8 1, .int .u32 3, .slice (some ⟨wA.heap.size + 1, 0, none⟩) 32 32]) ?_ ?_ ((HOE.out.later hSw).pw.r0 HI2.out.2.2) Tryd.underlying42 rfl info_share3 <;> rfl)
                (try simp only [Act.put, List.setIfInBounds_toArray, List.set_cons_zero, List.set_cons_succ])
                refine wpAnyH_ready (rs := [4, 9]) (by kernel_rfl) (by simp) ?_
                refine AllReadyH.cons (o := { dst := some 199, op := Go.Op.call { callee := Go.Callee.value (Go.Operand.func 9), args := #[Go.Operand.tmp 195, Go.Operand.const (Go.Value.string { data := #[109] }), Go.Operand.tmp 198], argTypes := #[36, 9, 42] }, type := 39, pos := "law.go:129", after := #[{ on := 0, ground := Go.Ground.data }, { on := 3, ground := Go.Ground.data }], guard := none }) rfl (fun K hK => ?_) ?_
                · skip
                  go_simp
                  (refine (HSU.out V3 hvV3 tb (Nat.lt_of_lt_of_le HTB.out hvV3.size) rfl).mono ?_; rintro e VSx4V3 ⟨rfl, hrs, hb⟩; (try have HZB := Lib.hid (Blk.below HZB.out hb (Blk.lt HZB.out))); have HRS := Lib.hid hrs; have hvVSx4V3 := Below.trans hvV3 (hb.mono hvV3.size); clear hb hrs; skip)
                  (try go_wp2_with fail)
                  refine hK.out _ _ ?_ (fun hHeld => ?_)
                  · (try dsimp only)
                    (first | exact Below.refl _ _ | assumption)
                  clear hK K
                  (try simp only [Act.put, List.setIfInBounds_toArray, List.set_cons_zero, List.set_cons_succ])
                  refine wpAnyH_take (i := 5) (oi := { dst := some 194, op := Go.Op.move (Go.Operand.tmp 199), type := 39, pos := "law.go:129", after := #[{ on := 4, ground := Go.Ground.data }], guard := none }) (v := ?_) rfl (by kernel_rfl) (by kernel_rfl) (by kernel_rfl) (fun _ _ _ h => h) (Or.inl ⟨by rfl, ?_⟩) (by assumption) ?_
                  rotate_left
                  · intro wS hSw
                    (try dsimp only at hSw)
                    go_simp
                    (try with_reducible rfl)
                  (try simp only [Act.put, List.setIfInBounds_toArray, List.set_cons_zero, List.set_cons_succ])
                  refine wpAnyH_take (i := 6) (oi := { dst := some 200, op := Go.Op.extract (Go.Operand.tmp 194) 0, type := 36, pos := "law.go:129", after := #[{ on := 5, ground := Go.Ground.data }], guard := none }) (v := ?_) rfl (by kernel_rfl) (by kernel_rfl) (by kernel_rfl) (fun _ _ _ h => h) (Or.inl ⟨by rfl, ?_⟩) (by assumption) ?_
                  rotate_left
                  · intro wS hSw
                    (try dsimp only at hSw)
                    go_simp
                    (try with_reducible rfl)
                  (try simp only [Act.put, List.setIfInBounds_toArray, List.set_cons_zero, List.set_cons_succ])
                  refine wpAnyH_take (i := 7) (oi := { dst := some 201, op := Go.Op.extract (Go.Operand.tmp 194) 1, type := 4, pos := "law.go:129", after := #[{ on := 5, ground := Go.Ground.data }, { on := 10, ground := Go.Ground.gcOnly Go.Departure.lateStores }], guard := none }) (v := ?_) rfl (by kernel_rfl) (by kernel_rfl) (by kernel_rfl) (fun _ _ _ h => h) (Or.inl ⟨by rfl, ?_⟩) (by assumption) ?_
                  rotate_left
                  · intro wS hSw
                    (try dsimp only at hSw)
                    go_simp
                    (try with_reducible rfl)
                  (try simp only [Act.put, List.setIfInBounds_toArray, List.set_cons_zero, List.set_cons_succ])
                  refine wpAnyH_take (i := 8) (oi := { dst := some 202, op := Go.Op.extract (Go.Operand.tmp 194) 2, type := 31, pos := "law.go:129", after := #[{ on := 5, ground := Go.Ground.data }, { on := 11, ground := Go.Ground.gcOnly Go.Departure.lateStores }], guard := none }) (v := ?_) rfl (by kernel_rfl) (by kernel_rfl) (by kernel_rfl) (fun _ _ _ h => h) (Or.inl ⟨by rfl, ?_⟩) (by assumption) ?_
                  rotate_left
                  · intro wS hSw
                    (try dsimp only at hSw)
                    go_simp
                    (try with_reducible rfl)
                  (try simp only [Act.put, List.setIfInBounds_toArray, List.set_cons_zero, List.set_cons_succ])
                  refine wpAnyH_ready (rs := [9]) (by kernel_rfl) (by simp) ?_
                  refine AllReadyH.cons (o := { dst := some 26, op := Go.Op.alloc 36, type := 0, pos := "law.go:129", after := #[], guard := none }) rfl (fun K hK => ?_) AllReadyH.nil
                  (refine step_zero rfl rfl zpg_run ?_; obtain ⟨VZx4V3, hw⟩ : ∃ q, VSx4V3.alloc (.cells #[.int .i64 0, .int .i64 0, .int .u32 0, .string ⟨#[]⟩, .slice none 0 0] 36) = q := ⟨_, rfl⟩; rw [hw]; have hb : Below VSx4V3.heap.size VSx4V3 VZx4V3 := (by rw [← hw]; exact (Below.refl _ _).alloc (Nat.le_refl _) _); have HRS := Lib.hid (trivial); have HZB : Hid (Blk VZx4V3 VSx4V3.heap.size #[.int .i64 0, .int .i64 0, .int .u32 0, .string ⟨#[]⟩, .slice none 0 0] 36) := Lib.hid (by rw [← hw]; exact Blk.new _ _ _); have HZV := Lib.hid (show V3.heap.size ≤ VSx4V3.heap.size ∧ VSx4V3.heap.size < VZx4V3.heap.size from ⟨hvVSx4V3.size, by rw [← hw]; simp⟩); have hvVZx4V3 := Below.trans hvVSx4V3 (hb.mono hvVSx4V3.size); clear hb hw; skip)
                  refine hK.out _ _ ?_ (fun hHeld => ?_)
                  · (try dsimp only)
                    (first | exact Below.refl _ _ | assumption)
                  clear hK K
                  (try simp only [Act.put, List.setIfInBounds_toArray, List.set_cons_zero, List.set_cons_succ])
                  refine wpAnyH_ready (rs := [10]) (by kernel_rfl) (by simp) ?_
                  refine AllReadyH.cons (o := { dst := none, op := Go.Op.store 36 (Go.Operand.tmp 26) (Go.Operand.tmp 200), type := 0, pos := "law.go:129", after := #[{ on := 9, ground := Go.Ground.data }, { on := 6, ground := Go.Ground.data }, { on := 4, ground := Go.Ground.chain }, { on := 0, ground := Go.Ground.phase }, { on := 1, ground := Go.Ground.phase }, { on := 2, ground := Go.Ground.phase }, { on := 3, ground := Go.Ground.phase }, { on := 4, ground := Go.Ground.phase }, { on := 5, ground := Go.Ground.phase }, { on := 6, ground := Go.Ground.phase }, { on := 7, ground := Go.Ground.textOnly Go.Departure.lateStores }, { on := 8, ground := Go.Ground.textOnly Go.Departure.lateStores }, { on := 9, ground := Go.Ground.phase }], guard := none }) rfl (fun K hK => ?_) AllReadyH.nil
                  (refine step_storeM rfl 36 (.tmp 26) (.tmp 200) rfl (VSx4V3.heap.size) 0 #[.int .i64 0, .int .i64 0, .int .u32 0, .string ⟨#[]⟩, .slice none 0 0] rfl rfl (HZB.out.there (n := 5) (Nat.le_refl 5)) info_pg (one_pg _ _ _ _ _ _ _) ?_; have HO9 : Hid (Own (VSx4V3.heap.size) VZx4V3 _) := Lib.hid (Own.setCells #[.int .i64 0, .int .i64 0, .int .u32 0, .string ⟨#[]⟩, .slice none 0 0].toList 0 VZx4V3); have HV9 := Lib.hid (hvVZx4V3.trans (HO9.out.below HZV.out.1 hvVZx4V3.size)); have hv9 := HV9.out; have HB9 : Hid (Blk (VZx4V3.setCells (VSx4V3.heap.size) 0 [.int .i64 0, .int .i64 0, .int .u32 0, .string ⟨#[]⟩, .slice none 0 0]) (VSx4V3.heap.size) #[.int .i64 0, .int .i64 0, .int .u32 0, .string ⟨#[]⟩, .slice none 0 0] 36) := Lib.hid (HZB.out.whole5 rfl _ _ _ _ _); skip)
                  refine hK.out _ _ ?_ (fun hHeld => ?_)
                  · (try dsimp only)
                    (first | exact Below.refl _ _ | assumption)
                  clear hK K
                  (try simp only [Act.put, List.setIfInBounds_toArray, List.set_cons_zero, List.set_cons_succ])
                  refine wpAnyH_take (i := 11) (oi := { dst := some 27, op := Go.Op.assign (Go.Operand.tmp 201), type := 4, pos := "law.go:129", after := #[{ on := 7, ground := Go.Ground.data }, { on := 10, ground := Go.Ground.chain }, { on := 0, ground := Go.Ground.phase }, { on := 1, ground := Go.Ground.phase }, { on := 2, ground := Go.Ground.phase }, { on := 3, ground := Go.Ground.phase }, { on := 4, ground := Go.Ground.phase }, { on := 5, ground := Go.Ground.phase }, { on := 6, ground := Go.Ground.phase }, { on := 7, ground := Go.Ground.phase }, { on := 8, ground := Go.Ground.textOnly Go.Departure.lateStores }, { on := 9, ground := Go.Ground.phase }, { on := 10, ground := Go.Ground.phase }], guard := none }) (v := ?_) rfl (by kernel_rfl) (by kernel_rfl) (by kernel_rfl) (fun _ _ _ h => h) (Or.inl ⟨by rfl, ?_⟩) (by assumption) ?_
                  rotate_left
                  · intro wS hSw
                    (try dsimp only at hSw)
                    go_simp
                    (try with_reducible rfl)
                  (try simp only [Act.put, List.setIfInBounds_toArray, List.set_cons_zero, List.set_cons_succ])
                  refine wpAnyH_take (i := 12) (oi := { dst := some 28, op := Go.Op.assign (Go.Operand.tmp 202), type := 31, pos := "law.go:129", after := #[{ on := 8, ground := Go.Ground.data }, { on := 11, ground := Go.Ground.chain }, { on := 0, ground := Go.Ground.phase }, { on := 1, ground := Go.Ground.phase }, { on := 2, ground := Go.Ground.phase }, { on := 3, ground := Go.Ground.phase }, { on := 4, ground := Go.Ground.phase }, { on := 5, ground := Go.Ground.phase }, { on := 6, ground := Go.Ground.phase }, { on := 7, ground := Go.Ground.phase }, { on := 8, ground := Go.Ground.phase }, { on := 9, ground := Go.Ground.phase }, { on := 10, ground := Go.Ground.phase }, { on := 11, ground := Go.Ground.phase }], guard := none }) (v := ?_) rfl (by kernel_rfl) (by kernel_rfl) (by kernel_rfl) (fun _ _ _ h => h) (Or.inl ⟨by rfl, ?_⟩) (by assumption) ?_
                  rotate_left
                  · intro wS hSw
                    (try dsimp only at hSw)
                    go_simp
                    (try with_reducible rfl)
                  (try simp only [Act.put, List.setIfInBounds_toArray, List.set_cons_zero, List.set_cons_succ])
                  refine wpAnyH_done (by kernel_rfl) ?_ _
                  go_wp2_with fail
                  go_meet
                  exact ⟨_, rfl, rfl, HV9.out⟩
                refine AllReadyH.cons (o := { dst := some 26, op := Go.Op.alloc 36, type := 0, pos := "law.go:129", after := #[], guard := none }) rfl (fun K hK => ?_) AllReadyH.nil
                (refine step_zero rfl rfl zpg_run ?_; obtain ⟨VZx9V3, hw⟩ : ∃ q, V3.alloc (.cells #[.int .i64 0, .int .i64 0, .int .u32 0, .string ⟨#[]⟩, .slice none 0 0] 36) = q := ⟨_, rfl⟩; rw [hw]; have hb : Below V3.heap.size V3 VZx9V3 := (by rw [← hw]; exact (Below.refl _ _).alloc (Nat.le_refl _) _); have HZB : Hid (Blk VZx9V3 V3.heap.size #[.int .i64 0, .int .i64 0, .int .u32 0, .string ⟨#[]⟩, .slice none 0 0] 36) := Lib.hid (by rw [← hw]; exact Blk.new _ _ _); have HZV := Lib.hid (show V3.heap.size ≤ V3.heap.size ∧ V3.heap.size < VZx9V3.heap.size from ⟨hvV3.size, by rw [← hw]; simp⟩); have hvVZx9V3 := Below.trans hvV3 (hb.mono hvV3.size); clear hb hw; skip)
                refine hK.out _ _ ?_ (fun hHeld => ?_)
                · (try dsimp only)
                  (first | exact Below.refl _ _ | assumption)
                clear hK K
                (try simp only [Act.put, List.setIfInBounds_toArray, List.set_cons_zero, List.set_cons_succ])
                refine wpAnyH_ready (rs := [4]) (by kernel_rfl) (by simp) ?_
                refine AllReadyH.cons (o := { dst := some 199, op := Go.Op.call { callee := Go.Callee.value (Go.Operand.func 9), args := #[Go.Operand.tmp 195, Go.Operand.const (Go.Value.string { data := #[109] }), Go.Operand.tmp 198], argTypes := #[36, 9, 42] }, type := 39, pos := "law.go:129", after := #[{ on := 0, ground := Go.Ground.data }, { on := 3, ground := Go.Ground.data }], guard := none }) rfl (fun K hK => ?_) AllReadyH.nil
                go_simp
                (refine (HSU.out VZx9V3 hvVZx9V3 tb (Nat.lt_of_lt_of_le HTB.out hvVZx9V3.size) rfl).mono ?_; rintro e VSx9V3 ⟨rfl, hrs, hb⟩; (try have HZB := Lib.hid (Blk.below HZB.out hb (Blk.lt HZB.out))); have HRS := Lib.hid hrs; have hvVSx9V3 := Below.trans hvVZx9V3 (hb.mono hvVZx9V3.size); clear hb hrs; skip)
                (try go_wp2_with fail)
                refine hK.out _ _ ?_ (fun hHeld => ?_)
                · (try dsimp only)
                  (first | exact Below.refl _ _ | assumption)
                clear hK K
                (try simp only [Act.put, List.setIfInBounds_toArray, List.set_cons_zero, List.set_cons_succ])
                refine wpAnyH_take (i := 5) (oi := { dst := some 194, op := Go.Op.move (Go.Operand.tmp 199), type := 39, pos := "law.go:129", after := #[{ on := 4, ground := Go.Ground.data }], guard := none }) (v := ?_) rfl (by kernel_rfl) (by kernel_rfl) (by kernel_rfl) (fun _ _ _ h => h) (Or.inl ⟨by rfl, ?_⟩) (by assumption) ?_
                rotate_left
                · intro wS hSw
                  (try dsimp only at hSw)
                  go_simp
                  (try with_reducible rfl)
                (try simp only [Act.put, List.setIfInBounds_toArray, List.set_cons_zero, List.set_cons_succ])
                refine wpAnyH_take (i := 6) (oi := { dst := some 200, op := Go.Op.extract (Go.Operand.tmp 194) 0, type := 36, pos := "law.go:129", after := #[{ on := 5, ground := Go.Ground.data }], guard := none }) (v := ?_) rfl (by kernel_rfl) (by kernel_rfl) (by kernel_rfl) (fun _ _ _ h => h) (Or.inl ⟨by rfl, ?_⟩) (by assumption) ?_
                rotate_left
                · intro wS hSw
                  (try dsimp only at hSw)
                  go_simp
                  (try with_reducible rfl)
                (try simp only [Act.put, List.setIfInBounds_toArray, List.set_cons_zero, List.set_cons_succ])
                refine wpAnyH_take (i := 7) (oi := { dst := some 201, op := Go.Op.extract (Go.Operand.tmp 194) 1, type := 4, pos := "law.go:129", after := #[{ on := 5, ground := Go.Ground.data }, { on := 10, ground := Go.Ground.gcOnly Go.Departure.lateStores }], guard := none }) (v := ?_) rfl (by kernel_rfl) (by kernel_rfl) (by kernel_rfl) (fun _ _ _ h => h) (Or.inl ⟨by rfl, ?_⟩) (by assumption) ?_
                rotate_left
                · intro wS hSw
                  (try dsimp only at hSw)
                  go_simp
                  (try with_reducible rfl)
                (try simp only [Act.put, List.setIfInBounds_toArray, List.set_cons_zero, List.set_cons_succ])
                refine wpAnyH_take (i := 8) (oi := { dst := some 202, op := Go.Op.extract (Go.Operand.tmp 194) 2, type := 31, pos := "law.go:129", after := #[{ on := 5, ground := Go.Ground.data }, { on := 11, ground := Go.Ground.gcOnly Go.Departure.lateStores }], guard := none }) (v := ?_) rfl (by kernel_rfl) (by kernel_rfl) (by kernel_rfl) (fun _ _ _ h => h) (Or.inl ⟨by rfl, ?_⟩) (by assumption) ?_
                rotate_left
                · intro wS hSw
                  (try dsimp only at hSw)
                  go_simp
                  (try with_reducible rfl)
                (try simp only [Act.put, List.setIfInBounds_toArray, List.set_cons_zero, List.set_cons_succ])
                refine wpAnyH_ready (rs := [10]) (by kernel_rfl) (by simp) ?_
                refine AllReadyH.cons (o := { dst := none, op := Go.Op.store 36 (Go.Operand.tmp 26) (Go.Operand.tmp 200), type := 0, pos := "law.go:129", after := #[{ on := 9, ground := Go.Ground.data }, { on := 6, ground := Go.Ground.data }, { on := 4, ground := Go.Ground.chain }, { on := 0, ground := Go.Ground.phase }, { on := 1, ground := Go.Ground.phase }, { on := 2, ground := Go.Ground.phase }, { on := 3, ground := Go.Ground.phase }, { on := 4, ground := Go.Ground.phase }, { on := 5, ground := Go.Ground.phase }, { on := 6, ground := Go.Ground.phase }, { on := 7, ground := Go.Ground.textOnly Go.Departure.lateStores }, { on := 8, ground := Go.Ground.textOnly Go.Departure.lateStores }, { on := 9, ground := Go.Ground.phase }], guard := none }) rfl (fun K hK => ?_) AllReadyH.nil
                (refine step_storeM rfl 36 (.tmp 26) (.tmp 200) rfl (V3.heap.size) 0 #[.int .i64 0, .int .i64 0, .int .u32 0, .string ⟨#[]⟩, .slice none 0 0] rfl rfl (HZB.out.there (n := 5) (Nat.le_refl 5)) info_pg (one_pg _ _ _ _ _ _ _) ?_; have HO9 : Hid (Own (V3.heap.size) VSx9V3 _) := Lib.hid (Own.setCells #[.int .i64 0, .int .i64 0, .int .u32 0, .string ⟨#[]⟩, .slice none 0 0].toList 0 VSx9V3); have HV9 := Lib.hid (hvVSx9V3.trans (HO9.out.below HZV.out.1 hvVSx9V3.size)); have hv9 := HV9.out; have HB9 : Hid (Blk (VSx9V3.setCells (V3.heap.size) 0 [.int .i64 0, .int .i64 0, .int .u32 0, .string ⟨#[]⟩, .slice none 0 0]) (V3.heap.size) #[.int .i64 0, .int .i64 0, .int .u32 0, .string ⟨#[]⟩, .slice none 0 0] 36) := Lib.hid (HZB.out.whole5 rfl _ _ _ _ _); skip)
                refine hK.out _ _ ?_ (fun hHeld => ?_)
                · (try dsimp only)
                  (first | exact Below.refl _ _ | assumption)
                clear hK K
                (try simp only [Act.put, List.setIfInBounds_toArray, List.set_cons_zero, List.set_cons_succ])
                refine wpAnyH_take (i := 11) (oi := { dst := some 27, op := Go.Op.assign (Go.Operand.tmp 201), type := 4, pos := "law.go:129", after := #[{ on := 7, ground := Go.Ground.data }, { on := 10, ground := Go.Ground.chain }, { on := 0, ground := Go.Ground.phase }, { on := 1, ground := Go.Ground.phase }, { on := 2, ground := Go.Ground.phase }, { on := 3, ground := Go.Ground.phase }, { on := 4, ground := Go.Ground.phase }, { on := 5, ground := Go.Ground.phase }, { on := 6, ground := Go.Ground.phase }, { on := 7, ground := Go.Ground.phase }, { on := 8, ground := Go.Ground.textOnly Go.Departure.lateStores }, { on := 9, ground := Go.Ground.phase }, { on := 10, ground := Go.Ground.phase }], guard := none }) (v := ?_) rfl (by kernel_rfl) (by kernel_rfl) (by kernel_rfl) (fun _ _ _ h => h) (Or.inl ⟨by rfl, ?_⟩) (by assumption) ?_
                rotate_left
                · intro wS hSw
                  (try dsimp only at hSw)
                  go_simp
                  (try with_reducible rfl)
                (try simp only [Act.put, List.setIfInBounds_toArray, List.set_cons_zero, List.set_cons_succ])
                refine wpAnyH_take (i := 12) (oi := { dst := some 28, op := Go.Op.assign (Go.Operand.tmp 202), type := 31, pos := "law.go:129", after := #[{ on := 8, ground := Go.Ground.data }, { on := 11, ground := Go.Ground.chain }, { on := 0, ground := Go.Ground.phase }, { on := 1, ground := Go.Ground.phase }, { on := 2, ground := Go.Ground.phase }, { on := 3, ground := Go.Ground.phase }, { on := 4, ground := Go.Ground.phase }, { on := 5, ground := Go.Ground.phase }, { on := 6, ground := Go.Ground.phase }, { on := 7, ground := Go.Ground.phase }, { on := 8, ground := Go.Ground.phase }, { on := 9, ground := Go.Ground.phase }, { on := 10, ground := Go.Ground.phase }, { on := 11, ground := Go.Ground.phase }], guard := none }) (v := ?_) rfl (by kernel_rfl) (by kernel_rfl) (by kernel_rfl) (fun _ _ _ h => h) (Or.inl ⟨by rfl, ?_⟩) (by assumption) ?_
                rotate_left
                · intro wS hSw
                  (try dsimp only at hSw)
                  go_simp
                  (try with_reducible rfl)
                (try simp only [Act.put, List.setIfInBounds_toArray, List.set_cons_zero, List.set_cons_succ])
                refine wpAnyH_done (by kernel_rfl) ?_ _
                go_wp2_with fail
                go_meet
                exact ⟨_, rfl, rfl, HV9.out⟩
              case rest =>
                obtain ⟨b26, rfl, rfl, hb⟩ := hcut
                generalize wc = w33 at *
                have hdr := (Below.refl w33.heap.size w33).drew
                have HO33 := Lib.hid ((HOE.out.later hb).later hdr)
                have HCG3 := Lib.hid ((HCG2.out.later hb).later hdr)
                have HCF3 := Lib.hid ((HCF2.out.later hb).later hdr)
                clear hb hdr HOE HCG2 HCF2 HSU HO30
                go_upto_region 33 with fail
                refine wp_region_held_drew (S := (Below w33.drew.heap.size w33.drew)) (by kernel_rfl) ?_ (fun hHeld => ?_)
                · (try dsimp only)
                  (first | exact Below.refl _ _ | assumption | exact HV.out)
                generalize w33.drew = V4 at *
                refine wpAnyH_take (i := 0) (oi := { dst := some 203, op := Go.Op.move (Go.Operand.tmp 25), type := 31, pos := "law.go:130", after := #[], guard := none }) (v := ?_) rfl (by kernel_rfl) (by kernel_rfl) (by kernel_rfl) (fun _ _ _ h => h) (Or.inl ⟨by rfl, ?_⟩) (by assumption) ?_
                rotate_left
                · intro wS hSw
                  (try dsimp only at hSw)
                  go_simp
                  (try with_reducible rfl)
                (try simp only [Act.put, List.setIfInBounds_toArray, List.set_cons_zero, List.set_cons_succ])
                refine wpAnyH_take (i := 1) (oi := { dst := some 204, op := Go.Op.binOp Go.BinOp.eql 31 (Go.Operand.tmp 203) (Go.Operand.const Go.Value.nilIface) 31, type := 4, pos := "law.go:130", after := #[{ on := 0, ground := Go.Ground.data }], guard := none }) (v := ?_) rfl (by kernel_rfl) (by kernel_rfl) (by kernel_rfl) (fun _ _ _ h => h) (Or.inl ⟨by rfl, ?_⟩) (by assumption) ?_
                rotate_left
                · intro wS hSw
                  (try dsimp only at hSw)
                  go_simp
                  (try with_reducible rfl)
                (try simp only [Act.put, List.setIfInBounds_toArray, List.set_cons_zero, List.set_cons_succ])
                refine wpAnyH_take (i := 2) (oi := { dst := some 205, op := Go.Op.move (Go.Operand.tmp 204), type := 4, pos := "law.go:130", after := #[{ on := 1, ground := Go.Ground.data }], guard := none }) (v := ?_) rfl (by kernel_rfl) (by kernel_rfl) (by kernel_rfl) (fun _ _ _ h => h) (Or.inl ⟨by rfl, ?_⟩) (by assumption) ?_
                rotate_left
                · intro wS hSw
                  (try dsimp only at hSw)
                  go_simp
                  (try with_reducible rfl)
                (try simp only [Act.put, List.setIfInBounds_toArray, List.set_cons_zero, List.set_cons_succ])
                refine wpAnyH_take (i := 3) (oi := { dst := some 206, op := Go.Op.move (Go.Operand.tmp 24), type := 34, pos := "law.go:130", after := #[{ on := 2, ground := Go.Ground.guard }], guard := some (2, true) }) (v := ?_) rfl (by kernel_rfl) (by kernel_rfl) (by kernel_rfl) (fun _ _ _ h => h) (Or.inl ⟨by rfl, ?_⟩) (by assumption) ?_
                rotate_left
                · intro wS hSw
                  (try dsimp only at hSw)
                  go_simp
                  (try with_reducible rfl)
                (try simp only [Act.put, List.setIfInBounds_toArray, List.set_cons_zero, List.set_cons_succ])
                refine wpAnyH_take (i := 4) (oi := { dst := some 207, op := Go.Op.convert 34 9 (Go.Operand.tmp 206), type := 9, pos := "law.go:130", after := #[{ on := 3, ground := Go.Ground.data }, { on := 2, ground := Go.Ground.guard }], guard := some (2, true) }) (v := ?_) rfl (by kernel_rfl) (by kernel_rfl) (by kernel_rfl) (fun _ _ _ h => h) (Or.inl ⟨by rfl, ?_⟩) (by assumption) ?_
                rotate_left
                · intro wS hSw
                  (have cvq := (HCG3.out.later hSw).conv; go_simp; (try with_reducible rfl))
                (try simp only [Act.put, List.setIfInBounds_toArray, List.set_cons_zero, List.set_cons_succ])
                refine wpAnyH_take (i := 5) (oi := { dst := some 208, op := Go.Op.slice 22 (Go.Operand.tmp 3) none none none, type := 34, pos := "law.go:130", after := #[{ on := 2, ground := Go.Ground.guard }], guard := some (2, true) }) (v := ?_) rfl (by kernel_rfl) (by kernel_rfl) (by kernel_rfl) (fun _ _ _ h => h) (Or.inl ⟨by rfl, ?_⟩) (by assumption) ?_
                rotate_left
                · intro wS hSw
                  (try dsimp only at hSw)
                  go_simp
                  (try with_reducible rfl)
                (try simp only [Act.put, List.setIfInBounds_toArray, List.set_cons_zero, List.set_cons_succ])
                refine wpAnyH_take (i := 6) (oi := { dst := some 209, op := Go.Op.convert 34 9 (Go.Operand.tmp 208), type := 9, pos := "law.go:130", after := #[{ on := 5, ground := Go.Ground.data }, { on := 2, ground := Go.Ground.guard }], guard := some (2, true) }) (v := ?_) rfl (by kernel_rfl) (by kernel_rfl) (by kernel_rfl) (fun _ _ _ h => h) (Or.inl ⟨by rfl, ?_⟩) (by assumption) ?_
                rotate_left
                · intro wS hSw
                  (have cvq := (HCF3.out.later hSw).conv; go_simp; (try with_reducible rfl))
                (try simp only [Act.put, List.setIfInBounds_toArray, List.set_cons_zero, List.set_cons_succ])
                refine wpAnyH_take (i := 7) (oi := { dst := some 210, op := Go.Op.binOp Go.BinOp.eql 9 (Go.Operand.tmp 207) (Go.Operand.tmp 209) 9, type := 4, pos := "law.go:130", after := #[{ on := 4, ground := Go.Ground.data }, { on := 6, ground := Go.Ground.data }, { on := 2, ground := Go.Ground.guard }], guard := some (2, true) }) (v := ?_) rfl (by kernel_rfl) (by kernel_rfl) (by kernel_rfl) (fun _ _ _ h => h) (Or.inl ⟨by rfl, ?_⟩) (by assumption) ?_
                rotate_left
                · intro wS hSw
                  (try dsimp only at hSw)
                  go_simp
                  (try with_reducible rfl)
                (try simp only [Act.put, List.setIfInBounds_toArray, List.set_cons_zero, List.set_cons_succ])
                refine wpAnyH_take (i := 8) (oi := { dst := some 211, op := Go.Op.pick (Go.Operand.tmp 205) (Go.Operand.tmp 210) (Go.Operand.const (Go.Value.bool false)), type := 4, pos := "law.go:130", after := #[{ on := 2, ground := Go.Ground.data }, { on := 7, ground := Go.Ground.data }], guard := none }) (v := ?_) rfl (by kernel_rfl) (by kernel_rfl) (by kernel_rfl) (fun _ _ _ h => h) (Or.inl ⟨by rfl, ?_⟩) (by assumption) ?_
                rotate_left
                · intro wS hSw
                  (try dsimp only at hSw)
                  go_simp
                  (try with_reducible rfl)
                (try simp only [Act.put, List.setIfInBounds_toArray, List.set_cons_zero, List.set_cons_succ])
                refine wpAnyH_take (i := 9) (oi := { dst := some 212, op := Go.Op.move (Go.Operand.tmp 211), type := 4, pos := "law.go:130", after := #[{ on := 8, ground := Go.Ground.data }, { on := 2, ground := Go.Ground.chain }], guard := none }) (v := ?_) rfl (by kernel_rfl) (by kernel_rfl) (by kernel_rfl) (fun _ _ _ h => h) (Or.inl ⟨by rfl, ?_⟩) (by assumption) ?_
                rotate_left
                · intro wS hSw
                  (try dsimp only at hSw)
                  go_simp
                  (try with_reducible rfl)
                (try simp only [Act.put, List.setIfInBounds_toArray, List.set_cons_zero, List.set_cons_succ])
                refine wpAnyH_take (i := 10) (oi := { dst := some 213, op := Go.Op.move (Go.Operand.tmp 28), type := 31, pos := "law.go:130", after := #[{ on := 9, ground := Go.Ground.guard }], guard := some (9, true) }) (v := ?_) rfl (by kernel_rfl) (by kernel_rfl) (by kernel_rfl) (fun _ _ _ h => h) (Or.inl ⟨by rfl, ?_⟩) (by assumption) ?_
                rotate_left
                · intro wS hSw
                  (try dsimp only at hSw)
                  go_simp
                  (try with_reducible rfl)
                (try simp only [Act.put, List.setIfInBounds_toArray, List.set_cons_zero, List.set_cons_succ])
                refine wpAnyH_ready (rs := [11]) (by kernel_rfl) (by simp) ?_
                refine AllReadyH.cons (o := { dst := some 214, op := Go.Op.call { callee := Go.Callee.value (Go.Operand.func 11), args := #[Go.Operand.tmp 213], argTypes := #[31] }, type := 3, pos := "law.go:130", after := #[{ on := 10, ground := Go.Ground.data }, { on := 9, ground := Go.Ground.chain }, { on := 9, ground := Go.Ground.guard }], guard := some (9, true) }) rfl (fun K hK => ?_) AllReadyH.nil
                go_simp
                (refine (num_err03 15 V4 (HG.out V4 HO33.out.pw.b)).mono ?_; rintro e V5 ⟨rfl, hv⟩; have HV := Lib.hid hv; clear hv; skip)
                (try go_wp2_with fail)
                refine hK.out _ _ ?_ (fun hHeld => ?_)
                · (try dsimp only)
                  (first | exact Below.refl _ _ | assumption | exact HV.out)
                clear hK K
                (try simp only [Act.put, List.setIfInBounds_toArray, List.set_cons_zero, List.set_cons_succ])
                refine wpAnyH_take (i := 12) (oi := { dst := some 215, op := Go.Op.binOp Go.BinOp.eql 3 (Go.Operand.tmp 214) (Go.Operand.const (Go.Value.int Go.IntKind.i64 15)) 3, type := 4, pos := "law.go:130", after := #[{ on := 11, ground := Go.Ground.data }, { on := 9, ground := Go.Ground.guard }], guard := some (9, true) }) (v := ?_) rfl (by kernel_rfl) (by kernel_rfl) (by kernel_rfl) (fun _ _ _ h => h) (Or.inl ⟨by rfl, ?_⟩) (by assumption) ?_
                rotate_left
                · intro wS hSw
                  (try dsimp only at hSw)
                  go_simp
                  (try with_reducible rfl)
                (try simp only [Act.put, List.setIfInBounds_toArray, List.set_cons_zero, List.set_cons_succ])
                refine wpAnyH_take (i := 13) (oi := { dst := some 216, op := Go.Op.pick (Go.Operand.tmp 212) (Go.Operand.tmp 215) (Go.Operand.const (Go.Value.bool false)), type := 4, pos := "law.go:130", after := #[{ on := 9, ground := Go.Ground.data }, { on := 12, ground := Go.Ground.data }], guard := none }) (v := ?_) rfl (by kernel_rfl) (by kernel_rfl) (by kernel_rfl) (fun _ _ _ h => h) (Or.inl ⟨by rfl, ?_⟩) (by assumption) ?_
                rotate_left
                · intro wS hSw
                  (try dsimp only at hSw)
                  go_simp
                  (try with_reducible rfl)
                (try simp only [Act.put, List.setIfInBounds_toArray, List.set_cons_zero, List.set_cons_succ])
                refine wpAnyH_take (i := 14) (oi := { dst := some 217, op := Go.Op.move (Go.Operand.tmp 216), type := 4, pos := "law.go:130", after := #[{ on := 13, ground := Go.Ground.data }, { on := 11, ground := Go.Ground.chain }], guard := none }) (v := ?_) rfl (by kernel_rfl) (by kernel_rfl) (by kernel_rfl) (fun _ _ _ h => h) (Or.inl ⟨by rfl, ?_⟩) (by assumption) ?_
                rotate_left
                · intro wS hSw
                  (try dsimp only at hSw)
                  go_simp
                  (try with_reducible rfl)
                (try simp only [Act.put, List.setIfInBounds_toArray, List.set_cons_zero, List.set_cons_succ])
                refine wpAnyH_ready (rs := [15]) (by kernel_rfl) (by simp) ?_
                refine AllReadyH.cons (o := { dst := some 218, op := Go.Op.call { callee := Go.Callee.value (Go.Operand.func 12), args := #[], argTypes := #[] }, type := 4, pos := "law.go:130", after := #[{ on := 14, ground := Go.Ground.chain }, { on := 14, ground := Go.Ground.guard }], guard := some (14, true) }) rfl (fun K hK => ?_) AllReadyH.nil
                go_simp
                (refine (sure23 V5 (HG.out V5 (HO33.out.later HV.out).pw.b)).mono ?_; rintro e V6 ⟨rfl, hv⟩; have HE9 := Lib.hid ((HO33.out.later HV.out).pw.b.trans (hv.mono (HO33.out.later HV.out).pw.b.size)); have hv6 := HV.out.trans (hv.mono HV.out.size); clear hv; skip)
                (try go_wp2_with fail)
                refine hK.out _ _ ?_ (fun hHeld => ?_)
                · (try dsimp only)
                  (first | exact Below.refl _ _ | assumption | exact HV.out)
                clear hK K
                (try simp only [Act.put, List.setIfInBounds_toArray, List.set_cons_zero, List.set_cons_succ])
                refine wpAnyH_take (i := 16) (oi := { dst := some 219, op := Go.Op.pick (Go.Operand.tmp 217) (Go.Operand.tmp 218) (Go.Operand.const (Go.Value.bool false)), type := 4, pos := "law.go:130", after := #[{ on := 14, ground := Go.Ground.data }, { on := 15, ground := Go.Ground.data }], guard := none }) (v := ?_) rfl (by kernel_rfl) (by kernel_rfl) (by kernel_rfl) (fun _ _ _ h => h) (Or.inl ⟨by rfl, ?_⟩) (by assumption) ?_
                rotate_left
                · intro wS hSw
                  (try dsimp only at hSw)
                  go_simp
                  (try with_reducible rfl)
                (try simp only [Act.put, List.setIfInBounds_toArray, List.set_cons_zero, List.set_cons_succ])
                refine wpAnyH_take (i := 17) (oi := { dst := some 6, op := Go.Op.assign (Go.Operand.tmp 219), type := 4, pos := "law.go:130", after := #[{ on := 16, ground := Go.Ground.data }, { on := 15, ground := Go.Ground.chain }, { on := 0, ground := Go.Ground.phase }, { on := 1, ground := Go.Ground.phase }, { on := 2, ground := Go.Ground.phase }, { on := 3, ground := Go.Ground.phase }, { on := 4, ground := Go.Ground.phase }, { on := 5, ground := Go.Ground.phase }, { on := 6, ground := Go.Ground.phase }, { on := 7, ground := Go.Ground.phase }, { on := 8, ground := Go.Ground.phase }, { on := 9, ground := Go.Ground.phase }, { on := 10, ground := Go.Ground.phase }, { on := 11, ground := Go.Ground.phase }, { on := 12, ground := Go.Ground.phase }, { on := 13, ground := Go.Ground.phase }, { on := 14, ground := Go.Ground.phase }, { on := 15, ground := Go.Ground.phase }, { on := 16, ground := Go.Ground.phase }], guard := none }) (v := ?_) rfl (by kernel_rfl) (by kernel_rfl) (by kernel_rfl) (fun _ _ _ h => h) (Or.inl ⟨by rfl, ?_⟩) (by assumption) ?_
                rotate_left
                · intro wS hSw
                  (try dsimp only at hSw)
                  go_simp
                  (try with_reducible rfl)
                (try simp only [Act.put, List.setIfInBounds_toArray, List.set_cons_zero, List.set_cons_succ])
                refine wpAnyH_done (by kernel_rfl) ?_ _
                go_wp2_with fail
                go_ret
                exact ⟨rfl, HE9.out⟩
          · have i1 : ¬ (i : Int) < (nr : Int) := by omega
            have i2 : decide ((i : Int) < (nr : Int)) = false := decide_eq_false i1
            have i3 : ¬ i < nr := hlt
            by_cases hmk : m < Kp
            · skip
              have j1 : (m : Int) < (Kp : Int) := by omega
              have j2 : decide ((m : Int) < (Kp : Int)) = true := decide_eq_true j1
              have j3 : m < Kp := hmk
              have HMK := Lib.hid hmk
              have HRX := Lib.hid (range5 HOR.out.x)
              clear hlt hmk hi
              go_wp2_with (first | (refine wpList_value rfl (exec_loadM (x := .tmp 15) (cs := [.int .i64 (Kp : Int), .int .i64 (Np : Int), .int .u32 3, .string ⟨#[109]⟩, .slice o m c]) rfl rfl HRX.out Tryd.underlying36 rfl info_pg) ?_))
              refine (secret_few HOR.out HKN.out.1 HKN.out.2.2.1 (by have := HKN.out; omega) HMK.out).mono ?_
              rintro e w30 ⟨rfl, hL⟩
              have HO30 := Lib.hid (HOR.out.left hL HNE.out.2.2.1 HNE.out.2.1 HG15.out.2.2.2 HB17.out)
              have c9 : w30.cell? ⟨b9, 0, none⟩ = some (.int .i64 (Kp : Int)) := by rw [Blk.cell HO30.out.pw.p]; rfl
              clear hL HRX
              go_wp2_with fail
              refine (num_err03 2 w30 (HG.out w30 HO30.out.pw.b)).mono ?_
              rintro e w31 ⟨rfl, hb⟩
              have HE := Lib.hid (HO30.out.pw.b.trans (hb.mono HO30.out.pw.b.size))
              clear hb c9
              go_wp2_with fail
              refine (sure23 w31 (HG.out w31 HE.out)).mono ?_
              rintro e w32 ⟨rfl, hb⟩
              have HE2 := Lib.hid (HE.out.trans (hb.mono HE.out.size))
              clear hb
              go_wp2_with fail
              go_ret
              exact ⟨rfl, HE2.out⟩
            · skip
              obtain rfl : Kp = m := by have := HOR.out.le; omega
              have j1 : ¬ (Kp : Int) < (Kp : Int) := by omega
              have j2 : decide ((Kp : Int) < (Kp : Int)) = false := decide_eq_false j1
              have j3 : ¬ Kp < Kp := by omega
              have HRX := Lib.hid (range5 HOR.out.x)
              clear hlt hmk hi
              go_wp2_with (first | (refine wpList_value rfl (exec_loadM (x := .tmp 15) (cs := [.int .i64 (Kp : Int), .int .i64 (Np : Int), .int .u32 3, .string ⟨#[109]⟩, .slice o Kp c]) rfl rfl HRX.out Tryd.underlying36 rfl info_pg) ?_))
              refine (secret_all HOR.out HKN.out.1 HKN.out.2.2.1 (by have := HKN.out; omega) HKN.out.2.2.2.2.1 HFB.out (by rw [← HKN.out.2.2.2.2.2]; exact HDD.out)).mono ?_
              rintro e w30 ⟨g, rfl, hg, hR, hL⟩
              have HO30 := Lib.hid (HOR.out.left hL HNE.out.2.2.1 HNE.out.2.1 HG15.out.2.2.2 HB17.out)
              have hF30 := hL.2.blk HFR.out HNE.out.1
              obtain ⟨SF, hSF⟩ : ∃ q, strF 32 f = q := ⟨_, rfl⟩
              have HCG : Hid (CVx w30 (.slice (some ⟨g, 0, none⟩) 32 32) SF) := Lib.hid ⟨_, 32, 32, f, rfl, hR.bytes HFB.out, (fun e => by cases e), hSF⟩
              have HCF : Hid (CVx w30 (.slice (some ⟨w.heap.size, 0, none⟩) 32 32) SF) := Lib.hid ⟨_, 32, 32, f, rfl, (fun i hi => ⟨HFB.out i hi, w.heap.size, 0, rfl, by
                have hpb := hF30
                rw [← HF.out] at hpb
                rw [Nat.zero_add, Blk.cell hpb i]; simpa using rowC_get f hi⟩), (fun e => by cases e), hSF⟩
              have c9 : w30.cell? ⟨b9, 0, none⟩ = some (.int .i64 (Kp : Int)) := by rw [Blk.cell HO30.out.pw.p]; rfl
              clear hL HRX hR hg hF30 hSF
              go_upto_region 32 with fail
              have hdr := (Below.refl w30.heap.size w30).drew
              have HOE := Lib.hid (HO30.out.later hdr)
              have HTB : Hid (tb < w30.drew.heap.size) := Lib.hid HOE.out.pw.s.tab.lt
              have HCG2 := Lib.hid (HCG.out.later hdr)
              have HCF2 := Lib.hid (HCF.out.later hdr)
              have HI2 := Lib.hid (show (0 : Int) < (Np : Int) ∧ 0 < Np ∧ 2 ≤ Np by have := HKN.out; omega)
              have i0 := HI2.out.1
              have j0 := HI2.out.2.1
              have HSU : Hid (∀ A, Below w30.drew.heap.size w30.drew A → ∀ t, t < A.heap.size → t = tb → Calls Tryd.prog 9 #[.agg #[.int .i64 (Kp : Int), .int .i64 (Np : Int), .int .u32 3, .string ⟨#[109]⟩, .slice o Kp c], .string ⟨#[109]⟩, .agg #[.int .u8 1, .int .u32 3, .slice (some ⟨wA.heap.size + 1, 0, none⟩) 32 32]] A fun e w' => e = .returned (.tuple #[.agg #[.int .i64 0, .int .i64 0, .int .u32 0, .string ⟨#[]⟩, .slice none 0 0], .bool false, .iface 83 (.int .i64 15)]) ∧ True ∧ Below A.heap.size A w') := Lib.hid fun A hA t _ _ => submit_full (HOE.out.later hA) HKN.out.1 HKN.out.2.2.1 (by have := HKN.out; omega)
              clear hdr c9 HCG HCF
              go_cut [26, 28] from 194 to 202 (fun s26 s28 wx => ∃ (b : Nat), s26 = .pointer (some ⟨b, 0, none⟩) ∧ s28 = .iface 83 (.int .i64 15) ∧ Below w30.drew.heap.size w30.drew wx)
              case first =>
                have hvV3 := Below.refl w30.drew.heap.size w30.drew
                refine wp_region_held_drew (S := (Below w30.drew.heap.size w30.drew)) (by kernel_rfl) ?_ (fun hHeld => ?_)
                · (try dsimp only)
                  (first | exact Below.refl _ _ | assumption)
                generalize w30.drew = V3 at *
                refine wpAnyH_take (i := 0) (oi := { dst := some 195, op := Go.Op.load 36 (Go.Operand.tmp 15), type := 36, pos := "law.go:129", after := #[], guard := none }) (v := ?_) rfl (by kernel_rfl) (by kernel_rfl) (by kernel_rfl) (fun _ _ _ h => h) (Or.inl ⟨by rfl, ?_⟩) (by assumption) ?_
                rotate_left
                · intro wS hSw
                  (refine exec_loadM (x := .tmp 15) (cs := [.int .i64 (Kp : Int), .int .i64 (Np : Int), .int .u32 3, .string ⟨#[109]⟩, .slice o Kp c]) ?_ ?_ (range5 (HOE.out.later hSw).x) Tryd.underlying36 rfl info_pg <;> rfl)
                (try simp only [Act.put, List.setIfInBounds_toArray, List.set_cons_zero, List.set_cons_succ])
                refine wpAnyH_take (i := 1) (oi := { dst := some 196, op := Go.Op.move (Go.Operand.tmp 13), type := 29, pos := "law.go:129", after := #[], guard := none }) (v := ?_) rfl (by kernel_rfl) (by kernel_rfl) (by kernel_rfl) (fun _ _ _ h => h) (Or.inl ⟨by rfl, ?_⟩) (by assumption) ?_
                rotate_left
                · intro wS hSw
                  (try dsimp only at hSw)
                  go_simp
                  (try with_reducible rfl)
                (try simp only [Act.put, List.setIfInBounds_toArray, List.set_cons_zero, List.set_cons_succ])
                refine wpAnyH_take (i := 2) (oi := { dst := some 197, op := Go.Op.indexAddr 29 (Go.Operand.tmp 196) (Go.Operand.const (Go.Value.int Go.IntKind.i64 0)), type := 0, pos := "law.go:129", after := #[{ on := 1, ground := Go.Ground.data }], guard := none }) (v := ?_) rfl (by kernel_rfl) (by kernel_rfl) (by kernel_rfl) (fun _ _ _ h => h) (Or.inl ⟨by rfl, ?_⟩) (by assumption) ?_
                rotate_left
                · intro wS hSw
                  (try dsimp only at hSw)
                  go_simp
                  (try with_reducible rfl)
                (try simp only [Act.put, List.setIfInBounds_toArray, List.set_cons_zero, List.set_cons_succ])
                refine wpAnyH_take (i := 3) (oi := { dst := some 198, op := Go.Op.load 42 (Go.Operand.tmp 197), type := 42, pos := "law.go:129", after := #[{ on := 2, ground := Go.Ground.data }], guard := none }) (v := ?_) rfl (by kernel_rfl) (by kernel_rfl) (by kernel_rfl) (fun _ _ _ h => h) (Or.inl ⟨by rfl, ?_⟩) (by assumption) ?_
                rotate_left
                · intro wS hSw
                  (refine exec_loadM (x := .tmp 197) (cs := [.int .u8 1, .int .u32 3, .slice (some ⟨wA.heap.size + 1, 0, none⟩) 32 32]) ?_ ?_ ((HOE.out.later hSw).pw.r0 HI2.out.2.2) Tryd.underlying42 rfl info_share3 <;> rfl)
                (try simp only [Act.put, List.setIfInBounds_toArray, List.set_cons_zero, List.set_cons_succ])
                refine wpAnyH_ready (rs := [4, 9]) (by kernel_rfl) (by simp) ?_
                refine AllReadyH.cons (o := { dst := some 199, op := Go.Op.call { callee := Go.Callee.value (Go.Operand.func 9), args := #[Go.Operand.tmp 195, Go.Operand.const (Go.Value.string { data := #[109] }), Go.Operand.tmp 198], argTypes := #[36, 9, 42] }, type := 39, pos := "law.go:129", after := #[{ on := 0, ground := Go.Ground.data }, { on := 3, ground := Go.Ground.data }], guard := none }) rfl (fun K hK => ?_) ?_
                · skip
                  go_simp
                  (refine (HSU.out V3 hvV3 tb (Nat.lt_of_lt_of_le HTB.out hvV3.size) rfl).mono ?_; rintro e VSx4V3 ⟨rfl, hrs, hb⟩; (try have HZB := Lib.hid (Blk.below HZB.out hb (Blk.lt HZB.out))); have HRS := Lib.hid hrs; have hvVSx4V3 := Below.trans hvV3 (hb.mono hvV3.size); clear hb hrs; skip)
                  (try go_wp2_with fail)
                  refine hK.out _ _ ?_ (fun hHeld => ?_)
                  · (try dsimp only)
                    (first | exact Below.refl _ _ | assumption)
                  clear hK K
                  (try simp only [Act.put, List.setIfInBounds_toArray, List.set_cons_zero, List.set_cons_succ])
                  refine wpAnyH_take (i := 5) (oi := { dst := some 194, op := Go.Op.move (Go.Operand.tmp 199), type := 39, pos := "law.go:129", after := #[{ on := 4, ground := Go.Ground.data }], guard := none }) (v := ?_) rfl (by kernel_rfl) (by kernel_rfl) (by kernel_rfl) (fun _ _ _ h => h) (Or.inl ⟨by rfl, ?_⟩) (by assumption) ?_
                  rotate_left
                  · intro wS hSw
                    (try dsimp only at hSw)
                    go_simp
                    (try with_reducible rfl)
                  (try simp only [Act.put, List.setIfInBounds_toArray, List.set_cons_zero, List.set_cons_succ])
                  refine wpAnyH_take (i := 6) (oi := { dst := some 200, op := Go.Op.extract (Go.Operand.tmp 194) 0, type := 36, pos := "law.go:129", after := #[{ on := 5, ground := Go.Ground.data }], guard := none }) (v := ?_) rfl (by kernel_rfl) (by kernel_rfl) (by kernel_rfl) (fun _ _ _ h => h) (Or.inl ⟨by rfl, ?_⟩) (by assumption) ?_
                  rotate_left
                  · intro wS hSw
                    (try dsimp only at hSw)
                    go_simp
                    (try with_reducible rfl)
                  (try simp only [Act.put, List.setIfInBounds_toArray, List.set_cons_zero, List.set_cons_succ])
                  refine wpAnyH_take (i := 7) (oi := { dst := some 201, op := Go.Op.extract (Go.Operand.tmp 194) 1, type := 4, pos := "law.go:129", after := #[{ on := 5, ground := Go.Ground.data }, { on := 10, ground := Go.Ground.gcOnly Go.Departure.lateStores }], guard := none }) (v := ?_) rfl (by kernel_rfl) (by kernel_rfl) (by kernel_rfl) (fun _ _ _ h => h) (Or.inl ⟨by rfl, ?_⟩) (by assumption) ?_
                  rotate_left
                  · intro wS hSw
                    (try dsimp only at hSw)
                    go_simp
                    (try with_reducible rfl)
                  (try simp only [Act.put, List.setIfInBounds_toArray, List.set_cons_zero, List.set_cons_succ])
                  refine wpAnyH_take (i := 8) (oi := { dst := some 202, op := Go.Op.extract (Go.Operand.tmp 194) 2, type := 31, pos := "law.go:129", after := #[{ on := 5, ground := Go.Ground.data }, { on := 11, ground := Go.Ground.gcOnly Go.Departure.lateStores }], guard := none }) (v := ?_) rfl (by kernel_rfl) (by kernel_rfl) (by kernel_rfl) (fun _ _ _ h => h) (Or.inl ⟨by rfl, ?_⟩) (by assumption) ?_
                  rotate_left
                  · intro wS hSw
                    (try dsimp only at hSw)
                    go_simp
                    (try with_reducible rfl)
                  (try simp only [Act.put, List.setIfInBounds_toArray, List.set_cons_zero, List.set_cons_succ])
                  refine wpAnyH_ready (rs := [9]) (by kernel_rfl) (by simp) ?_
                  refine AllReadyH.cons (o := { dst := some 26, op := Go.Op.alloc 36, type := 0, pos := "law.go:129", after := #[], guard := none }) rfl (fun K hK => ?_) AllReadyH.nil
                  (refine step_zero rfl rfl zpg_run ?_; obtain ⟨VZx4V3, hw⟩ : ∃ q, VSx4V3.alloc (.cells #[.int .i64 0, .int .i64 0, .int .u32 0, .string ⟨#[]⟩, .slice none 0 0] 36) = q := ⟨_, rfl⟩; rw [hw]; have hb : Below VSx4V3.heap.size VSx4V3 VZx4V3 := (by rw [← hw]; exact (Below.refl _ _).alloc (Nat.le_refl _) _); have HRS := Lib.hid (trivial); have HZB : Hid (Blk VZx4V3 VSx4V3.heap.size #[.int .i64 0, .int .i64 0, .int .u32 0, .string ⟨#[]⟩, .slice none 0 0] 36) := Lib.hid (by rw [← hw]; exact Blk.new _ _ _); have HZV := Lib.hid (show V3.heap.size ≤ VSx4V3.heap.size ∧ VSx4V3.heap.size < VZx4V3.heap.size from ⟨hvVSx4V3.size, by rw [← hw]; simp⟩); have hvVZx4V3 := Below.trans hvVSx4V3 (hb.mono hvVSx4V3.size); clear hb hw; skip)
                  refine hK.out _ _ ?_ (fun hHeld => ?_)
                  · (try dsimp only)
                    (first | exact Below.refl _ _ | assumption)
                  clear hK K
                  (try simp only [Act.put, List.setIfInBounds_toArray, List.set_cons_zero, List.set_cons_succ])
                  refine wpAnyH_ready (rs := [10]) (by kernel_rfl) (by simp) ?_
                  refine AllReadyH.cons (o := { dst := none, op := Go.Op.store 36 (Go.Operand.tmp 26) (Go.Operand.tmp 200), type := 0, pos := "law.go:129", after := #[{ on := 9, ground := Go.Ground.data }, { on := 6, ground := Go.Ground.data }, { on := 4, ground := Go.Ground.chain }, { on := 0, ground := Go.Ground.phase }, { on := 1, ground := Go.Ground.phase }, { on := 2, ground := Go.Ground.phase }, { on := 3, ground := Go.Ground.phase }, { on := 4, ground := Go.Ground.phase }, { on := 5, ground := Go.Ground.phase }, { on := 6, ground := Go.Ground.phase }, { on := 7, ground := Go.Ground.textOnly Go.Departure.lateStores }, { on := 8, ground := Go.Ground.textOnly Go.Departure.lateStores }, { on := 9, ground := Go.Ground.phase }], guard := none }) rfl (fun K hK => ?_) AllReadyH.nil
                  (refine step_storeM rfl 36 (.tmp 26) (.tmp 200) rfl (VSx4V3.heap.size) 0 #[.int .i64 0, .int .i64 0, .int .u32 0, .string ⟨#[]⟩, .slice none 0 0] rfl rfl (HZB.out.there (n := 5) (Nat.le_refl 5)) info_pg (one_pg _ _ _ _ _ _ _) ?_; have HO9 : Hid (Own (VSx4V3.heap.size) VZx4V3 _) := Lib.hid (Own.setCells #[.int .i64 0, .int .i64 0, .int .u32 0, .string ⟨#[]⟩, .slice none 0 0].toList 0 VZx4V3); have HV9 := Lib.hid (hvVZx4V3.trans (HO9.out.below HZV.out.1 hvVZx4V3.size)); have hv9 := HV9.out; have HB9 : Hid (Blk (VZx4V3.setCells (VSx4V3.heap.size) 0 [.int .i64 0, .int .i64 0, .int .u32 0, .string ⟨#[]⟩, .slice none 0 0]) (VSx4V3.heap.size) #[.int .i64 0, .int .i64 0, .int .u32 0, .string ⟨#[]⟩, .slice none 0 0] 36) := Lib.hid (HZB.out.whole5 rfl _ _ _ _ _); skip)
                  refine hK.out _ _ ?_ (fun hHeld => ?_)
                  · (try dsimp only)
                    (first | exact Below.refl _ _ | assumption)
                  clear hK K
                  (try simp only [Act.put, List.setIfInBounds_toArray, List.set_cons_zero, List.set_cons_succ])
                  refine wpAnyH_take (i := 11) (oi := { dst := some 27, op := Go.Op.assign (Go.Operand.tmp 201), type := 4, pos := "law.go:129", after := #[{ on := 7, ground := Go.Ground.data }, { on := 10, ground := Go.Ground.chain }, { on := 0, ground := Go.Ground.phase }, { on := 1, ground := Go.Ground.phase }, { on := 2, ground := Go.Ground.phase }, { on := 3, ground := Go.Ground.phase }, { on := 4, ground := Go.Ground.phase }, { on := 5, ground := Go.Ground.phase }, { on := 6, ground := Go.Ground.phase }, { on := 7, ground := Go.Ground.phase }, { on := 8, ground := Go.Ground.textOnly Go.Departure.lateStores }, { on := 9, ground := Go.Ground.phase }, { on := 10, ground := Go.Ground.phase }], guard := none }) (v := ?_) rfl (by kernel_rfl) (by kernel_rfl) (by kernel_rfl) (fun _ _ _ h => h) (Or.inl ⟨by rfl, ?_⟩) (by assumption) ?_
                  rotate_left
                  · intro wS hSw
                    (try dsimp only at hSw)
                    go_simp
                    (try with_reducible rfl)
                  (try simp only [Act.put, List.setIfInBounds_toArray, List.set_cons_zero, List.set_cons_succ])
                  refine wpAnyH_take (i := 12) (oi := { dst := some 28, op := Go.Op.assign (Go.Operand.tmp 202), type := 31, pos := "law.go:129", after := #[{ on := 8, ground := Go.Ground.data }, { on := 11, ground := Go.Ground.chain }, { on := 0, ground := Go.Ground.phase }, { on := 1, ground := Go.Ground.phase }, { on := 2, ground := Go.Ground.phase }, { on := 3, ground := Go.Ground.phase }, { on := 4, ground := Go.Ground.phase }, { on := 5, ground := Go.Ground.phase }, { on := 6, ground := Go.Ground.phase }, { on := 7, ground := Go.Ground.phase }, { on := 8, ground := Go.Ground.phase }, { on := 9, ground := Go.Ground.phase }, { on := 10, ground := Go.Ground.phase }, { on := 11, ground := Go.Ground.phase }], guard := none }) (v := ?_) rfl (by kernel_rfl) (by kernel_rfl) (by kernel_rfl) (fun _ _ _ h => h) (Or.inl ⟨by rfl, ?_⟩) (by assumption) ?_
                  rotate_left
                  · intro wS hSw
                    (try dsimp only at hSw)
                    go_simp
                    (try with_reducible rfl)
                  (try simp only [Act.put, List.setIfInBounds_toArray, List.set_cons_zero, List.set_cons_succ])
                  refine wpAnyH_done (by kernel_rfl) ?_ _
                  go_wp2_with fail
                  go_meet
                  exact ⟨_, rfl, rfl, HV9.out⟩
                refine AllReadyH.cons (o := { dst := some 26, op := Go.Op.alloc 36, type := 0, pos := "law.go:129", after := #[], guard := none }) rfl (fun K hK => ?_) AllReadyH.nil
                (refine step_zero rfl rfl zpg_run ?_; obtain ⟨VZx9V3, hw⟩ : ∃ q, V3.alloc (.cells #[.int .i64 0, .int .i64 0, .int .u32 0, .string ⟨#[]⟩, .slice none 0 0] 36) = q := ⟨_, rfl⟩; rw [hw]; have hb : Below V3.heap.size V3 VZx9V3 := (by rw [← hw]; exact (Below.refl _ _).alloc (Nat.le_refl _) _); have HZB : Hid (Blk VZx9V3 V3.heap.size #[.int .i64 0, .int .i64 0, .int .u32 0, .string ⟨#[]⟩, .slice none 0 0] 36) := Lib.hid (by rw [← hw]; exact Blk.new _ _ _); have HZV := Lib.hid (show V3.heap.size ≤ V3.heap.size ∧ V3.heap.size < VZx9V3.heap.size from ⟨hvV3.size, by rw [← hw]; simp⟩); have hvVZx9V3 := Below.trans hvV3 (hb.mono hvV3.size); clear hb hw; skip)
                refine hK.out _ _ ?_ (fun hHeld => ?_)
                · (try dsimp only)
                  (first | exact Below.refl _ _ | assumption)
                clear hK K
                (try simp only [Act.put, List.setIfInBounds_toArray, List.set_cons_zero, List.set_cons_succ])
                refine wpAnyH_ready (rs := [4]) (by kernel_rfl) (by simp) ?_
                refine AllReadyH.cons (o := { dst := some 199, op := Go.Op.call { callee := Go.Callee.value (Go.Operand.func 9), args := #[Go.Operand.tmp 195, Go.Operand.const (Go.Value.string { data := #[109] }), Go.Operand.tmp 198], argTypes := #[36, 9, 42] }, type := 39, pos := "law.go:129", after := #[{ on := 0, ground := Go.Ground.data }, { on := 3, ground := Go.Ground.data }], guard := none }) rfl (fun K hK => ?_) AllReadyH.nil
                go_simp
                (refine (HSU.out VZx9V3 hvVZx9V3 tb (Nat.lt_of_lt_of_le HTB.out hvVZx9V3.size) rfl).mono ?_; rintro e VSx9V3 ⟨rfl, hrs, hb⟩; (try have HZB := Lib.hid (Blk.below HZB.out hb (Blk.lt HZB.out))); have HRS := Lib.hid hrs; have hvVSx9V3 := Below.trans hvVZx9V3 (hb.mono hvVZx9V3.size); clear hb hrs; skip)
                (try go_wp2_with fail)
                refine hK.out _ _ ?_ (fun hHeld => ?_)
                · (try dsimp only)
                  (first | exact Below.refl _ _ | assumption)
                clear hK K
                (try simp only [Act.put, List.setIfInBounds_toArray, List.set_cons_zero, List.set_cons_succ])
                refine wpAnyH_take (i := 5) (oi := { dst := some 194, op := Go.Op.move (Go.Operand.tmp 199), type := 39, pos := "law.go:129", after := #[{ on := 4, ground := Go.Ground.data }], guard := none }) (v := ?_) rfl (by kernel_rfl) (by kernel_rfl) (by kernel_rfl) (fun _ _ _ h => h) (Or.inl ⟨by rfl, ?_⟩) (by assumption) ?_
                rotate_left
                · intro wS hSw
                  (try dsimp only at hSw)
                  go_simp
                  (try with_reducible rfl)
                (try simp only [Act.put, List.setIfInBounds_toArray, List.set_cons_zero, List.set_cons_succ])
                refine wpAnyH_take (i := 6) (oi := { dst := some 200, op := Go.Op.extract (Go.Operand.tmp 194) 0, type := 36, pos := "law.go:129", after := #[{ on := 5, ground := Go.Ground.data }], guard := none }) (v := ?_) rfl (by kernel_rfl) (by kernel_rfl) (by kernel_rfl) (fun _ _ _ h => h) (Or.inl ⟨by rfl, ?_⟩) (by assumption) ?_
                rotate_left
                · intro wS hSw
                  (try dsimp only at hSw)
                  go_simp
                  (try with_reducible rfl)
                (try simp only [Act.put, List.setIfInBounds_toArray, List.set_cons_zero, List.set_cons_succ])
                refine wpAnyH_take (i := 7) (oi := { dst := some 201, op := Go.Op.extract (Go.Operand.tmp 194) 1, type := 4, pos := "law.go:129", after := #[{ on := 5, ground := Go.Ground.data }, { on := 10, ground := Go.Ground.gcOnly Go.Departure.lateStores }], guard := none }) (v := ?_) rfl (by kernel_rfl) (by kernel_rfl) (by kernel_rfl) (fun _ _ _ h => h) (Or.inl ⟨by rfl, ?_⟩) (by assumption) ?_
                rotate_left
                · intro wS hSw
                  (try dsimp only at hSw)
                  go_simp
                  (try with_reducible rfl)
                (try simp only [Act.put, List.setIfInBounds_toArray, List.set_cons_zero, List.set_cons_succ])
                refine wpAnyH_take (i := 8) (oi := { dst := some 202, op := Go.Op.extract (Go.Operand.tmp 194) 2, type := 31, pos := "law.go:129", after := #[{ on := 5, ground := Go.Ground.data }, { on := 11, ground := Go.Ground.gcOnly Go.Departure.lateStores }], guard := none }) (v := ?_) rfl (by kernel_rfl) (by kernel_rfl) (by kernel_rfl) (fun _ _ _ h => h) (Or.inl ⟨by rfl, ?_⟩) (by assumption) ?_
                rotate_left
                · intro wS hSw
                  (try dsimp only at hSw)
                  go_simp
                  (try with_reducible rfl)
                (try simp only [Act.put, List.setIfInBounds_toArray, List.set_cons_zero, List.set_cons_succ])
                refine wpAnyH_ready (rs := [10]) (by kernel_rfl) (by simp) ?_
                refine AllReadyH.cons (o := { dst := none, op := Go.Op.store 36 (Go.Operand.tmp 26) (Go.Operand.tmp 200), type := 0, pos := "law.go:129", after := #[{ on := 9, ground := Go.Ground.data }, { on := 6, ground := Go.Ground.data }, { on := 4, ground := Go.Ground.chain }, { on := 0, ground := Go.Ground.phase }, { on := 1, ground := Go.Ground.phase }, { on := 2, ground := Go.Ground.phase }, { on := 3, ground := Go.Ground.phase }, { on := 4, ground := Go.Ground.phase }, { on := 5, ground := Go.Ground.phase }, { on := 6, ground := Go.Ground.phase }, { on := 7, ground := Go.Ground.textOnly Go.Departure.lateStores }, { on := 8, ground := Go.Ground.textOnly Go.Departure.lateStores }, { on := 9, ground := Go.Ground.phase }], guard := none }) rfl (fun K hK => ?_) AllReadyH.nil
                (refine step_storeM rfl 36 (.tmp 26) (.tmp 200) rfl (V3.heap.size) 0 #[.int .i64 0, .int .i64 0, .int .u32 0, .string ⟨#[]⟩, .slice none 0 0] rfl rfl (HZB.out.there (n := 5) (Nat.le_refl 5)) info_pg (one_pg _ _ _ _ _ _ _) ?_; have HO9 : Hid (Own (V3.heap.size) VSx9V3 _) := Lib.hid (Own.setCells #[.int .i64 0, .int .i64 0, .int .u32 0, .string ⟨#[]⟩, .slice none 0 0].toList 0 VSx9V3); have HV9 := Lib.hid (hvVSx9V3.trans (HO9.out.below HZV.out.1 hvVSx9V3.size)); have hv9 := HV9.out; have HB9 : Hid (Blk (VSx9V3.setCells (V3.heap.size) 0 [.int .i64 0, .int .i64 0, .int .u32 0, .string ⟨#[]⟩, .slice none 0 0]) (V3.heap.size) #[.int .i64 0, .int .i64 0, .int .u32 0, .string ⟨#[]⟩, .slice none 0 0] 36) := Lib.hid (HZB.out.whole5 rfl _ _ _ _ _); skip)
                refine hK.out _ _ ?_ (fun hHeld => ?_)
                · (try dsimp only)
                  (first | exact Below.refl _ _ | assumption)
                clear hK K
                (try simp only [Act.put, List.setIfInBounds_toArray, List.set_cons_zero, List.set_cons_succ])
                refine wpAnyH_take (i := 11) (oi := { dst := some 27, op := Go.Op.assign (Go.Operand.tmp 201), type := 4, pos := "law.go:129", after := #[{ on := 7, ground := Go.Ground.data }, { on := 10, ground := Go.Ground.chain }, { on := 0, ground := Go.Ground.phase }, { on := 1, ground := Go.Ground.phase }, { on := 2, ground := Go.Ground.phase }, { on := 3, ground := Go.Ground.phase }, { on := 4, ground := Go.Ground.phase }, { on := 5, ground := Go.Ground.phase }, { on := 6, ground := Go.Ground.phase }, { on := 7, ground := Go.Ground.phase }, { on := 8, ground := Go.Ground.textOnly Go.Departure.lateStores }, { on := 9, ground := Go.Ground.phase }, { on := 10, ground := Go.Ground.phase }], guard := none }) (v := ?_) rfl (by kernel_rfl) (by kernel_rfl) (by kernel_rfl) (fun _ _ _ h => h) (Or.inl ⟨by rfl, ?_⟩) (by assumption) ?_
                rotate_left
                · intro wS hSw
                  (try dsimp only at hSw)
                  go_simp
                  (try with_reducible rfl)
                (try simp only [Act.put, List.setIfInBounds_toArray, List.set_cons_zero, List.set_cons_succ])
                refine wpAnyH_take (i := 12) (oi := { dst := some 28, op := Go.Op.assign (Go.Operand.tmp 202), type := 31, pos := "law.go:129", after := #[{ on := 8, ground := Go.Ground.data }, { on := 11, ground := Go.Ground.chain }, { on := 0, ground := Go.Ground.phase }, { on := 1, ground := Go.Ground.phase }, { on := 2, ground := Go.Ground.phase }, { on := 3, ground := Go.Ground.phase }, { on := 4, ground := Go.Ground.phase }, { on := 5, ground := Go.Ground.phase }, { on := 6, ground := Go.Ground.phase }, { on := 7, ground := Go.Ground.phase }, { on := 8, ground := Go.Ground.phase }, { on := 9, ground := Go.Ground.phase }, { on := 10, ground := Go.Ground.phase }, { on := 11, ground := Go.Ground.phase }], guard := none }) (v := ?_) rfl (by kernel_rfl) (by kernel_rfl) (by kernel_rfl) (fun _ _ _ h => h) (Or.inl ⟨by rfl, ?_⟩) (by assumption) ?_
                rotate_left
                · intro wS hSw
                  (try dsimp only at hSw)
                  go_simp
                  (try with_reducible rfl)
                (try simp only [Act.put, List.setIfInBounds_toArray, List.set_cons_zero, List.set_cons_succ])
                refine wpAnyH_done (by kernel_rfl) ?_ _
                go_wp2_with fail
                go_meet
                exact ⟨_, rfl, rfl, HV9.out⟩
              case rest =>
                obtain ⟨b26, rfl, rfl, hb⟩ := hcut
                generalize wc = w33 at *
                have hdr := (Below.refl w33.heap.size w33).drew
                have HO33 := Lib.hid ((HOE.out.later hb).later hdr)
                have HCG3 := Lib.hid ((HCG2.out.later hb).later hdr)
                have HCF3 := Lib.hid ((HCF2.out.later hb).later hdr)
                clear hb hdr HOE HCG2 HCF2 HSU HO30
                go_upto_region 33 with fail
                refine wp_region_held_drew (S := (Below w33.drew.heap.size w33.drew)) (by kernel_rfl) ?_ (fun hHeld => ?_)
                · (try dsimp only)
                  (first | exact Below.refl _ _ | assumption | exact HV.out)
                generalize w33.drew = V4 at *
                refine wpAnyH_take (i := 0) (oi := { dst := some 203, op := Go.Op.move (Go.Operand.tmp 25), type := 31, pos := "law.go:130", after := #[], guard := none }) (v := ?_) rfl (by kernel_rfl) (by kernel_rfl) (by kernel_rfl) (fun _ _ _ h => h) (Or.inl ⟨by rfl, ?_⟩) (by assumption) ?_
                rotate_left
                · intro wS hSw
                  (try dsimp only at hSw)
                  go_simp
                  (try with_reducible rfl)
                (try simp only [Act.put, List.setIfInBounds_toArray, List.set_cons_zero, List.set_cons_succ])
                refine wpAnyH_take (i := 1) (oi := { dst := some 204, op := Go.Op.binOp Go.BinOp.eql 31 (Go.Operand.tmp 203) (Go.Operand.const Go.Value.nilIface) 31, type := 4, pos := "law.go:130", after := #[{ on := 0, ground := Go.Ground.data }], guard := none }) (v := ?_) rfl (by kernel_rfl) (by kernel_rfl) (by kernel_rfl) (fun _ _ _ h => h) (Or.inl ⟨by rfl, ?_⟩) (by assumption) ?_
                rotate_left
                · intro wS hSw
                  (try dsimp only at hSw)
                  go_simp
                  (try with_reducible rfl)
                (try simp only [Act.put, List.setIfInBounds_toArray, List.set_cons_zero, List.set_cons_succ])
                refine wpAnyH_take (i := 2) (oi := { dst := some 205, op := Go.Op.move (Go.Operand.tmp 204), type := 4, pos := "law.go:130", after := #[{ on := 1, ground := Go.Ground.data }], guard := none }) (v := ?_) rfl (by kernel_rfl) (by kernel_rfl) (by kernel_rfl) (fun _ _ _ h => h) (Or.inl ⟨by rfl, ?_⟩) (by assumption) ?_
                rotate_left
                · intro wS hSw
                  (try dsimp only at hSw)
                  go_simp
                  (try with_reducible rfl)
                (try simp only [Act.put, List.setIfInBounds_toArray, List.set_cons_zero, List.set_cons_succ])
                refine wpAnyH_take (i := 3) (oi := { dst := some 206, op := Go.Op.move (Go.Operand.tmp 24), type := 34, pos := "law.go:130", after := #[{ on := 2, ground := Go.Ground.guard }], guard := some (2, true) }) (v := ?_) rfl (by kernel_rfl) (by kernel_rfl) (by kernel_rfl) (fun _ _ _ h => h) (Or.inl ⟨by rfl, ?_⟩) (by assumption) ?_
                rotate_left
                · intro wS hSw
                  (try dsimp only at hSw)
                  go_simp
                  (try with_reducible rfl)
                (try simp only [Act.put, List.setIfInBounds_toArray, List.set_cons_zero, List.set_cons_succ])
                refine wpAnyH_take (i := 4) (oi := { dst := some 207, op := Go.Op.convert 34 9 (Go.Operand.tmp 206), type := 9, pos := "law.go:130", after := #[{ on := 3, ground := Go.Ground.data }, { on := 2, ground := Go.Ground.guard }], guard := some (2, true) }) (v := ?_) rfl (by kernel_rfl) (by kernel_rfl) (by kernel_rfl) (fun _ _ _ h => h) (Or.inl ⟨by rfl, ?_⟩) (by assumption) ?_
                rotate_left
                · intro wS hSw
                  (have cvq := (HCG3.out.later hSw).conv; go_simp; (try with_reducible rfl))
                (try simp only [Act.put, List.setIfInBounds_toArray, List.set_cons_zero, List.set_cons_succ])
                refine wpAnyH_take (i := 5) (oi := { dst := some 208, op := Go.Op.slice 22 (Go.Operand.tmp 3) none none none, type := 34, pos := "law.go:130", after := #[{ on := 2, ground := Go.Ground.guard }], guard := some (2, true) }) (v := ?_) rfl (by kernel_rfl) (by kernel_rfl) (by kernel_rfl) (fun _ _ _ h => h) (Or.inl ⟨by rfl, ?_⟩) (by assumption) ?_
                rotate_left
                · intro wS hSw
                  (try dsimp only at hSw)
                  go_simp
                  (try with_reducible rfl)
                (try simp only [Act.put, List.setIfInBounds_toArray, List.set_cons_zero, List.set_cons_succ])
                refine wpAnyH_take (i := 6) (oi := { dst := some 209, op := Go.Op.convert 34 9 (Go.Operand.tmp 208), type := 9, pos := "law.go:130", after := #[{ on := 5, ground := Go.Ground.data }, { on := 2, ground := Go.Ground.guard }], guard := some (2, true) }) (v := ?_) rfl (by kernel_rfl) (by kernel_rfl) (by kernel_rfl) (fun _ _ _ h => h) (Or.inl ⟨by rfl, ?_⟩) (by assumption) ?_
                rotate_left
                · intro wS hSw
                  (have cvq := (HCF3.out.later hSw).conv; go_simp; (try with_reducible rfl))
                (try simp only [Act.put, List.setIfInBounds_toArray, List.set_cons_zero, List.set_cons_succ])
                refine wpAnyH_take (i := 7) (oi := { dst := some 210, op := Go.Op.binOp Go.BinOp.eql 9 (Go.Operand.tmp 207) (Go.Operand.tmp 209) 9, type := 4, pos := "law.go:130", after := #[{ on := 4, ground := Go.Ground.data }, { on := 6, ground := Go.Ground.data }, { on := 2, ground := Go.Ground.guard }], guard := some (2, true) }) (v := ?_) rfl (by kernel_rfl) (by kernel_rfl) (by kernel_rfl) (fun _ _ _ h => h) (Or.inl ⟨by rfl, ?_⟩) (by assumption) ?_
                rotate_left
                · intro wS hSw
                  (try dsimp only at hSw)
                  go_simp
                  (try with_reducible rfl)
                (try simp only [Act.put, List.setIfInBounds_toArray, List.set_cons_zero, List.set_cons_succ])
                refine wpAnyH_take (i := 8) (oi := { dst := some 211, op := Go.Op.pick (Go.Operand.tmp 205) (Go.Operand.tmp 210) (Go.Operand.const (Go.Value.bool false)), type := 4, pos := "law.go:130", after := #[{ on := 2, ground := Go.Ground.data }, { on := 7, ground := Go.Ground.data }], guard := none }) (v := ?_) rfl (by kernel_rfl) (by kernel_rfl) (by kernel_rfl) (fun _ _ _ h => h) (Or.inl ⟨by rfl, ?_⟩) (by assumption) ?_
                rotate_left
                · intro wS hSw
                  (try dsimp only at hSw)
                  go_simp
                  (try with_reducible rfl)
                (try simp only [Act.put, List.setIfInBounds_toArray, List.set_cons_zero, List.set_cons_succ])
                refine wpAnyH_take (i := 9) (oi := { dst := some 212, op := Go.Op.move (Go.Operand.tmp 211), type := 4, pos := "law.go:130", after := #[{ on := 8, ground := Go.Ground.data }, { on := 2, ground := Go.Ground.chain }], guard := none }) (v := ?_) rfl (by kernel_rfl) (by kernel_rfl) (by kernel_rfl) (fun _ _ _ h => h) (Or.inl ⟨by rfl, ?_⟩) (by assumption) ?_
                rotate_left
                · intro wS hSw
                  (try dsimp only at hSw)
                  go_simp
                  (try with_reducible rfl)
                (try simp only [Act.put, List.setIfInBounds_toArray, List.set_cons_zero, List.set_cons_succ])
                refine wpAnyH_take (i := 10) (oi := { dst := some 213, op := Go.Op.move (Go.Operand.tmp 28), type := 31, pos := "law.go:130", after := #[{ on := 9, ground := Go.Ground.guard }], guard := some (9, true) }) (v := ?_) rfl (by kernel_rfl) (by kernel_rfl) (by kernel_rfl) (fun _ _ _ h => h) (Or.inl ⟨by rfl, ?_⟩) (by assumption) ?_
                rotate_left
                · intro wS hSw
                  (try dsimp only at hSw)
                  go_simp
                  (try with_reducible rfl)
                (try simp only [Act.put, List.setIfInBounds_toArray, List.set_cons_zero, List.set_cons_succ])
                refine wpAnyH_ready (rs := [11]) (by kernel_rfl) (by simp) ?_
                refine AllReadyH.cons (o := { dst := some 214, op := Go.Op.call { callee := Go.Callee.value (Go.Operand.func 11), args := #[Go.Operand.tmp 213], argTypes := #[31] }, type := 3, pos := "law.go:130", after := #[{ on := 10, ground := Go.Ground.data }, { on := 9, ground := Go.Ground.chain }, { on := 9, ground := Go.Ground.guard }], guard := some (9, true) }) rfl (fun K hK => ?_) AllReadyH.nil
                go_simp
                (refine (num_err03 15 V4 (HG.out V4 HO33.out.pw.b)).mono ?_; rintro e V5 ⟨rfl, hv⟩; have HV := Lib.hid hv; clear hv; skip)
                (try go_wp2_with fail)
                refine hK.out _ _ ?_ (fun hHeld => ?_)
                · (try dsimp only)
                  (first | exact Below.refl _ _ | assumption | exact HV.out)
                clear hK K
                (try simp only [Act.put, List.setIfInBounds_toArray, List.set_cons_zero, List.set_cons_succ])
                refine wpAnyH_take (i := 12) (oi := { dst := some 215, op := Go.Op.binOp Go.BinOp.eql 3 (Go.Operand.tmp 214) (Go.Operand.const (Go.Value.int Go.IntKind.i64 15)) 3, type := 4, pos := "law.go:130", after := #[{ on := 11, ground := Go.Ground.data }, { on := 9, ground := Go.Ground.guard }], guard := some (9, true) }) (v := ?_) rfl (by kernel_rfl) (by kernel_rfl) (by kernel_rfl) (fun _ _ _ h => h) (Or.inl ⟨by rfl, ?_⟩) (by assumption) ?_
                rotate_left
                · intro wS hSw
                  (try dsimp only at hSw)
                  go_simp
                  (try with_reducible rfl)
                (try simp only [Act.put, List.setIfInBounds_toArray, List.set_cons_zero, List.set_cons_succ])
                refine wpAnyH_take (i := 13) (oi := { dst := some 216, op := Go.Op.pick (Go.Operand.tmp 212) (Go.Operand.tmp 215) (Go.Operand.const (Go.Value.bool false)), type := 4, pos := "law.go:130", after := #[{ on := 9, ground := Go.Ground.data }, { on := 12, ground := Go.Ground.data }], guard := none }) (v := ?_) rfl (by kernel_rfl) (by kernel_rfl) (by kernel_rfl) (fun _ _ _ h => h) (Or.inl ⟨by rfl, ?_⟩) (by assumption) ?_
                rotate_left
                · intro wS hSw
                  (try dsimp only at hSw)
                  go_simp
                  (try with_reducible rfl)
                (try simp only [Act.put, List.setIfInBounds_toArray, List.set_cons_zero, List.set_cons_succ])
                refine wpAnyH_take (i := 14) (oi := { dst := some 217, op := Go.Op.move (Go.Operand.tmp 216), type := 4, pos := "law.go:130", after := #[{ on := 13, ground := Go.Ground.data }, { on := 11, ground := Go.Ground.chain }], guard := none }) (v := ?_) rfl (by kernel_rfl) (by kernel_rfl) (by kernel_rfl) (fun _ _ _ h => h) (Or.inl ⟨by rfl, ?_⟩) (by assumption) ?_
                rotate_left
                · intro wS hSw
                  (try dsimp only at hSw)
                  go_simp
                  (try with_reducible rfl)
                (try simp only [Act.put, List.setIfInBounds_toArray, List.set_cons_zero, List.set_cons_succ])
                refine wpAnyH_ready (rs := [15]) (by kernel_rfl) (by simp) ?_
                refine AllReadyH.cons (o := { dst := some 218, op := Go.Op.call { callee := Go.Callee.value (Go.Operand.func 12), args := #[], argTypes := #[] }, type := 4, pos := "law.go:130", after := #[{ on := 14, ground := Go.Ground.chain }, { on := 14, ground := Go.Ground.guard }], guard := some (14, true) }) rfl (fun K hK => ?_) AllReadyH.nil
                go_simp
                (refine (sure23 V5 (HG.out V5 (HO33.out.later HV.out).pw.b)).mono ?_; rintro e V6 ⟨rfl, hv⟩; have HE9 := Lib.hid ((HO33.out.later HV.out).pw.b.trans (hv.mono (HO33.out.later HV.out).pw.b.size)); have hv6 := HV.out.trans (hv.mono HV.out.size); clear hv; skip)
                (try go_wp2_with fail)
                refine hK.out _ _ ?_ (fun hHeld => ?_)
                · (try dsimp only)
                  (first | exact Below.refl _ _ | assumption | exact HV.out)
                clear hK K
                (try simp only [Act.put, List.setIfInBounds_toArray, List.set_cons_zero, List.set_cons_succ])
                refine wpAnyH_take (i := 16) (oi := { dst := some 219, op := Go.Op.pick (Go.Operand.tmp 217) (Go.Operand.tmp 218) (Go.Operand.const (Go.Value.bool false)), type := 4, pos := "law.go:130", after := #[{ on := 14, ground := Go.Ground.data }, { on := 15, ground := Go.Ground.data }], guard := none }) (v := ?_) rfl (by kernel_rfl) (by kernel_rfl) (by kernel_rfl) (fun _ _ _ h => h) (Or.inl ⟨by rfl, ?_⟩) (by assumption) ?_
                rotate_left
                · intro wS hSw
                  (try dsimp only at hSw)
                  go_simp
                  (try with_reducible rfl)
                (try simp only [Act.put, List.setIfInBounds_toArray, List.set_cons_zero, List.set_cons_succ])
                refine wpAnyH_take (i := 17) (oi := { dst := some 6, op := Go.Op.assign (Go.Operand.tmp 219), type := 4, pos := "law.go:130", after := #[{ on := 16, ground := Go.Ground.data }, { on := 15, ground := Go.Ground.chain }, { on := 0, ground := Go.Ground.phase }, { on := 1, ground := Go.Ground.phase }, { on := 2, ground := Go.Ground.phase }, { on := 3, ground := Go.Ground.phase }, { on := 4, ground := Go.Ground.phase }, { on := 5, ground := Go.Ground.phase }, { on := 6, ground := Go.Ground.phase }, { on := 7, ground := Go.Ground.phase }, { on := 8, ground := Go.Ground.phase }, { on := 9, ground := Go.Ground.phase }, { on := 10, ground := Go.Ground.phase }, { on := 11, ground := Go.Ground.phase }, { on := 12, ground := Go.Ground.phase }, { on := 13, ground := Go.Ground.phase }, { on := 14, ground := Go.Ground.phase }, { on := 15, ground := Go.Ground.phase }, { on := 16, ground := Go.Ground.phase }], guard := none }) (v := ?_) rfl (by kernel_rfl) (by kernel_rfl) (by kernel_rfl) (fun _ _ _ h => h) (Or.inl ⟨by rfl, ?_⟩) (by assumption) ?_
                rotate_left
                · intro wS hSw
                  (try dsimp only at hSw)
                  go_simp
                  (try with_reducible rfl)
                (try simp only [Act.put, List.setIfInBounds_toArray, List.set_cons_zero, List.set_cons_succ])
                refine wpAnyH_done (by kernel_rfl) ?_ _
                go_wp2_with fail
                go_ret
                exact ⟨rfl, HE9.out⟩
end Go.Proofs.YtgiffaeckhhmpaaDoor
