/- The document's Of. -/
import Derived.Test.YtmabhjifldafaaaDoorCh2
namespace Go.Proofs.YtmabhjifldafaaaDoor
set_option linter.unusedVariables false
set_option linter.unusedSimpArgs false
open Go.RowKit

/-- The document's head so far. -/
structure RZ (w0 : World) (g : Nat) (n : Nat) (K : Nat → Nat) (L : Nat → Nat) (G : Nat → Nat → Nat) (i : Nat) (wr : World) : Prop where
  b : Blk wr g (hdL i (hs n K L G i)).toArray 77
  r : Blk wr w0.heap.size zeroH 77
  o : Below w0.heap.size w0 wr
set_option maxRecDepth 100000 in
set_option maxHeartbeats 8000000 in
theorem rof_any (oa : Option Addr) (n cn : Nat) (K : Nat → Nat) (op : Option Addr) (q cq : Nat) (L : Nat → Nat) (G : Nat → Nat → Nat) (w : World) (hK : Bytes w oa n K) (hnc : n ≤ cn) (hno : oa = none → n = 0) (hn : n < 100000000) (hL : LBs w op q L G) (hq : q ≤ 100) (hl : ∀ i, i < q → L i ≤ 100000) :
    Calls Tryd.prog 42 #[.slice oa n cn, .slice op q cq] w fun e w' => e = .returned (.agg (hdL q (hs n K L G q)).toArray) ∧ Below w.heap.size w w' := by
  have hz := zero_h2
  have HIZ : Hid ((Tryd.prog.info? 77).map (·.size) = some zeroH.size) := Lib.hid (by rw [zeroH_size]; exact info_h2)
  obtain ⟨wa, hwa⟩ : ∃ x, w.alloc (.cells zeroH 77) = x := ⟨_, rfl⟩
  have hl0 := laidHd wa zeroH zeroH 77 rfl
  obtain ⟨w1, hw1⟩ : ∃ x, (wa.alloc (.cells zeroH 77)).setCells wa.heap.size 0 zeroH.toList = x := ⟨_, rfl⟩
  rw [hw1] at hl0
  have hba : Below w.heap.size w wa := by rw [← hwa]; exact (Below.refl _ _).alloc (Nat.le_refl _) _
  have hB0 : Blk wa w.heap.size zeroH 77 := by rw [← hwa]; exact Blk.new _ _ _
  have H1 := Lib.hid hl0
  obtain ⟨g5, hg5⟩ : ∃ x, wa.heap.size = x := ⟨_, rfl⟩
  have HG5 : Hid (w.heap.size < g5 ∧ w.heap.size ≠ g5) := Lib.hid (by have := Blk.lt hB0; omega)
  have H2 : Hid (RZ w g5 n K L G 0 w1) := Lib.hid ⟨by rw [← hg5]; exact hl0.1, Blk.below hB0 hl0.2.1 (Blk.lt hB0), hba.trans (hl0.2.1.mono hba.size)⟩
  have HKB : Hid (∀ w', Below w.heap.size w w' → Bytes w' oa n K) := Lib.hid fun w' h => hK.later h
  have HLW : Hid (LBs w op q L G) := Lib.hid hL
  have HNM : Hid (n ≤ cn ∧ n < 100000000 ∧ q ≤ 100 ∧ (oa = none → n = 0) ∧ ∀ i, i < q → L i ≤ 100000) := Lib.hid ⟨hnc, hn, hq, hno, hl⟩
  have q0 : (q : Int) ≤ 9223372036854775807 := by omega
  clear hl0 hba hB0 hK hnc hno hn hL hq hl
  rw [hg5] at H1 hw1
  go_enter Tryd.func42, Tryd.ntmps42
  go_wp2_with (first
    | (refine wpList_value rfl (exec_buildM (C := zeroH) rfl rfl build_z2) ?_)
    | ((try rw [hg5]); refine wpList_store_mid rfl 77 (.tmp 5) (.tmp 7) rfl g5 0 zeroH rfl rfl H1.out.2.2 HIZ.out zeroH_one ?_; rw [hw1]))
  clear hw1 hwa hg5 hz
  go_loopw [6] (fun x wr => ∃ (i : Nat), i ≤ q ∧ x = .int .i64 (i : Int) ∧ RZ w g5 n K L G i wr) (fun x _ => q - (intOf x).toNat)
  case atStart => exact ⟨0, Nat.zero_le _, rfl, H2.out⟩
  case round =>
    obtain ⟨i, hi, rfl, hX⟩ := hrel
    have HX := Lib.hid hX
    clear hX
    by_cases hlt : i < q
    · as_aux_lemma =>
      have i1 : (i : Int) < (q : Int) := by omega
      have i0 : (0 : Int) ≤ (i : Int) := by omega
      obtain ⟨b, off, od, cp, rfl, hc, hlc, hbd, hod, _⟩ := HLW.out i hlt
      obtain ⟨m, hm⟩ : ∃ x, L i = x := ⟨_, rfl⟩
      obtain ⟨M, hM⟩ : ∃ x, G i = x := ⟨_, rfl⟩
      obtain ⟨Z, hZ⟩ : ∃ x, hs n K L G i = x := ⟨_, rfl⟩
      obtain ⟨N, hN⟩ : ∃ x, nx n K Z m M = x := ⟨_, rfl⟩
      obtain ⟨j, hj⟩ : ∃ x, i + 1 = x := ⟨_, rfl⟩
      obtain ⟨C, hC⟩ : ∃ C, (hdL i Z).toArray = C := ⟨_, rfl⟩
      obtain ⟨CH, hCH⟩ : ∃ C, (hdL j N).toArray = C := ⟨_, rfl⟩
      rw [hm] at hc hlc hbd hod
      rw [hM] at hbd
      have HC0 : Hid (w.cell? ⟨b, off + i, none⟩ = some (.slice od m cp)) := Lib.hid hc
      have HJ : Hid (i < q ∧ i + 1 = j ∧ m ≤ 100000 ∧ m ≤ cp) := Lib.hid ⟨hlt, hj, by rw [← hm]; exact HNM.out.2.2.2.2 i hlt, hlc⟩
      have HMB : Hid (∀ w', Below w.heap.size w w' → Bytes w' od m M) := Lib.hid fun w' h => hbd.later h
      have HMO := Lib.hid hod
      have HCE := Lib.hid hC
      have HCH := Lib.hid hCH
      have HHN : Hid (hs n K L G j = N) := Lib.hid (by rw [← hj, ← hN, ← hm, ← hM, ← hZ]; rfl)
      have HIC : Hid ((Tryd.prog.info? 77).map (·.size) = some C.size) := Lib.hid (by rw [← hC, hd_size]; exact info_h2)
      have HIH : Hid ((Tryd.prog.info? 77).map (·.size) = some CH.size) := Lib.hid (by rw [← hCH, hd_size]; exact info_h2)
      have HIO : Hid (CH.all (·.oneCell') = true) := Lib.hid (by rw [← hCH]; exact hd_one _ _)
      have HIS : Hid (CH.size = C.size) := Lib.hid (by rw [← hCH, ← hC, hd_size, hd_size])
      have HTB : Hid (Blk wr g5 C 77) := Lib.hid (by have := HX.out.b; rw [hZ, hC] at this; exact this)
      have HBW : Hid (∀ w', Own g5 wr w' → Below w.heap.size w w') := Lib.hid fun w' h => HX.out.o.trans (h.below (Nat.le_of_lt HG5.out.1) HX.out.o.size)
      have HNC : Hid (∀ w', Bytes w' oa n K → Bytes w' od m M → Calls Tryd.prog 41 #[.slice oa n cn, .agg C, .slice od m cp] w' fun e w'' => e = .returned (.tuple #[.agg CH, .int .i64 0]) ∧ Below w'.heap.size w' w'') := Lib.hid fun w' h1 h2 => by
        have h64 : ¬ i = 18446744073709551615 := by have := HNM.out; omega
        have h := rnext_any oa n cn K i Z od m cp M w' h1 HNM.out.1 HNM.out.2.2.2.1 HNM.out.2.1 (by have := HNM.out; omega) (fun k _ => by rw [← hZ]; exact hs_lt _ _ _ _ _ _) h2 HMO.out (by have := HJ.out; omega)
        rw [show nxN i = j from by rw [← hj]; exact if_neg h64, show nxS n K i Z m M = N from by rw [← hN]; exact if_neg h64, show nxE i = 0 from if_neg h64, HCE.out, HCH.out] at h
        exact h
      clear hlt hi hc hlc hbd hod hm hM hZ hN hj hC hCH
      go_wp2_with fail
      have hS_0 : Own g5 wr wr.drew := (Own.refl _ _).drew
      have hZ_0 : Blk wr.drew g5 C 77 := HTB.out.drew
      refine wp_region_held_drew (S := (Own g5 wr)) (by kernel_rfl) ?_ (fun hHeld => ?_)
      · (try dsimp only)
        first | assumption
      generalize wr.drew = W0 at *
      refine wpAnyH_take (i := 0) (oi := { dst := some 15, op := Go.Op.move (Go.Operand.tmp 0), type := 33, pos := "ref.go:36", after := #[], guard := none }) (v := ?_) rfl (by kernel_rfl) (by kernel_rfl) (by kernel_rfl) (fun _ _ _ h => h) (Or.inl ⟨by rfl, ?_⟩) (by assumption) ?_
      rotate_left
      · intro wS hSw
        (try dsimp only at hSw)
        go_simp
        (try with_reducible rfl)
      (try simp only [Act.put, List.setIfInBounds_toArray, List.set_cons_zero, List.set_cons_succ])
      refine wpAnyH_take (i := 2) (oi := { dst := some 17, op := Go.Op.move (Go.Operand.tmp 1), type := 34, pos := "ref.go:36", after := #[], guard := none }) (v := ?_) rfl (by kernel_rfl) (by kernel_rfl) (by kernel_rfl) (fun _ _ _ h => h) (Or.inl ⟨by rfl, ?_⟩) (by assumption) ?_
      rotate_left
      · intro wS hSw
        (try dsimp only at hSw)
        go_simp
        (try with_reducible rfl)
      (try simp only [Act.put, List.setIfInBounds_toArray, List.set_cons_zero, List.set_cons_succ])
      refine wpAnyH_take (i := 3) (oi := { dst := some 18, op := Go.Op.move (Go.Operand.tmp 6), type := 3, pos := "ref.go:36", after := #[], guard := none }) (v := ?_) rfl (by kernel_rfl) (by kernel_rfl) (by kernel_rfl) (fun _ _ _ h => h) (Or.inl ⟨by rfl, ?_⟩) (by assumption) ?_
      rotate_left
      · intro wS hSw
        (try dsimp only at hSw)
        go_simp
        (try with_reducible rfl)
      (try simp only [Act.put, List.setIfInBounds_toArray, List.set_cons_zero, List.set_cons_succ])
      refine wpAnyH_take (i := 4) (oi := { dst := some 19, op := Go.Op.indexAddr 34 (Go.Operand.tmp 17) (Go.Operand.tmp 18), type := 0, pos := "ref.go:36", after := #[{ on := 2, ground := Go.Ground.data }, { on := 3, ground := Go.Ground.data }], guard := none }) (v := ?_) rfl (by kernel_rfl) (by kernel_rfl) (by kernel_rfl) (fun _ _ _ h => h) (Or.inl ⟨by rfl, ?_⟩) (by assumption) ?_
      rotate_left
      · intro wS hSw
        (try dsimp only at hSw)
        go_simp
        (try with_reducible rfl)
      (try simp only [Act.put, List.setIfInBounds_toArray, List.set_cons_zero, List.set_cons_succ])
      refine wpAnyH_take (i := 5) (oi := { dst := some 20, op := Go.Op.load 33 (Go.Operand.tmp 19), type := 33, pos := "ref.go:36", after := #[{ on := 4, ground := Go.Ground.data }], guard := none }) (v := ?_) rfl (by kernel_rfl) (by kernel_rfl) (by kernel_rfl) (fun _ _ _ h => h) (Or.inl ⟨by rfl, ?_⟩) (by assumption) ?_
      rotate_left
      · intro wS hSw
        (have h0 := cell_below (HBW.out _ hSw) HC0.out; go_simp; (try with_reducible rfl))
      (try simp only [Act.put, List.setIfInBounds_toArray, List.set_cons_zero, List.set_cons_succ])
      refine wpAnyH_ready (rs := [1]) (by kernel_rfl) (by simp) ?_
      refine AllReadyH.cons (o := { dst := some 16, op := Go.Op.load 77 (Go.Operand.tmp 5), type := 77, pos := "ref.go:36", after := #[], guard := none }) rfl (fun K hK => ?_) AllReadyH.nil
      (refine step_valueG (v := .agg C) (by kernel_rfl) (exec_loadB (x := .tmp 5) (g := g5) (t := 77) (by rfl) (by rfl) hZ_0 Tryd.underlying77 rfl HIC.out) ?_)
      refine hK.out _ _ ?_ (fun hHeld => ?_)
      · (try dsimp only)
        first | assumption
      clear hK K
      (try simp only [Act.put, List.setIfInBounds_toArray, List.set_cons_zero, List.set_cons_succ])
      refine wpAnyH_ready (rs := [6]) (by kernel_rfl) (by simp) ?_
      refine AllReadyH.cons (o := { dst := some 21, op := Go.Op.call { callee := Go.Callee.value (Go.Operand.func 41), args := #[Go.Operand.tmp 15, Go.Operand.tmp 16, Go.Operand.tmp 20], argTypes := #[33, 77, 33] }, type := 78, pos := "ref.go:36", after := #[{ on := 0, ground := Go.Ground.data }, { on := 1, ground := Go.Ground.data }, { on := 5, ground := Go.Ground.data }], guard := none }) rfl (fun K hK => ?_) AllReadyH.nil
      go_simp
      (refine (HNC.out _ (HKB.out _ (HBW.out _ hS_0)) (HMB.out _ (HBW.out _ hS_0))).mono ?_; rintro e v_1 ⟨rfl, hb1⟩; have hS_1 := hS_0.trans (Own.of_below hb1); have hZ_1 := Blk.below hZ_0 hb1 (Blk.lt hZ_0); clear hb1 hS_0 hZ_0; skip)
      (try go_wp2_with fail)
      refine hK.out _ _ ?_ (fun hHeld => ?_)
      · (try dsimp only)
        first | assumption
      clear hK K
      (try simp only [Act.put, List.setIfInBounds_toArray, List.set_cons_zero, List.set_cons_succ])
      refine wpAnyH_take (i := 7) (oi := { dst := some 14, op := Go.Op.move (Go.Operand.tmp 21), type := 78, pos := "ref.go:36", after := #[{ on := 6, ground := Go.Ground.data }], guard := none }) (v := ?_) rfl (by kernel_rfl) (by kernel_rfl) (by kernel_rfl) (fun _ _ _ h => h) (Or.inl ⟨by rfl, ?_⟩) (by assumption) ?_
      rotate_left
      · intro wS hSw
        (try dsimp only at hSw)
        go_simp
        (try with_reducible rfl)
      (try simp only [Act.put, List.setIfInBounds_toArray, List.set_cons_zero, List.set_cons_succ])
      refine wpAnyH_take (i := 8) (oi := { dst := some 22, op := Go.Op.extract (Go.Operand.tmp 14) 0, type := 77, pos := "ref.go:36", after := #[{ on := 7, ground := Go.Ground.data }], guard := none }) (v := ?_) rfl (by kernel_rfl) (by kernel_rfl) (by kernel_rfl) (fun _ _ _ h => h) (Or.inl ⟨by rfl, ?_⟩) (by assumption) ?_
      rotate_left
      · intro wS hSw
        (try dsimp only at hSw)
        go_simp
        (try with_reducible rfl)
      (try simp only [Act.put, List.setIfInBounds_toArray, List.set_cons_zero, List.set_cons_succ])
      refine wpAnyH_take (i := 9) (oi := { dst := some 23, op := Go.Op.extract (Go.Operand.tmp 14) 1, type := 3, pos := "ref.go:36", after := #[{ on := 7, ground := Go.Ground.data }, { on := 10, ground := Go.Ground.gcOnly Go.Departure.lateStores }], guard := none }) (v := ?_) rfl (by kernel_rfl) (by kernel_rfl) (by kernel_rfl) (fun _ _ _ h => h) (Or.inl ⟨by rfl, ?_⟩) (by assumption) ?_
      rotate_left
      · intro wS hSw
        (try dsimp only at hSw)
        go_simp
        (try with_reducible rfl)
      (try simp only [Act.put, List.setIfInBounds_toArray, List.set_cons_zero, List.set_cons_succ])
      refine wpAnyH_ready (rs := [10]) (by kernel_rfl) (by simp) ?_
      refine AllReadyH.cons (o := { dst := none, op := Go.Op.store 77 (Go.Operand.tmp 5) (Go.Operand.tmp 22), type := 0, pos := "ref.go:36", after := #[{ on := 8, ground := Go.Ground.data }, { on := 6, ground := Go.Ground.chain }, { on := 0, ground := Go.Ground.phase }, { on := 1, ground := Go.Ground.phase }, { on := 2, ground := Go.Ground.phase }, { on := 3, ground := Go.Ground.phase }, { on := 4, ground := Go.Ground.phase }, { on := 5, ground := Go.Ground.phase }, { on := 6, ground := Go.Ground.phase }, { on := 7, ground := Go.Ground.phase }, { on := 8, ground := Go.Ground.phase }, { on := 9, ground := Go.Ground.textOnly Go.Departure.lateStores }], guard := none }) rfl (fun K hK => ?_) AllReadyH.nil
      (refine step_storeM (by kernel_rfl) 77 (.tmp 5) (.tmp 22) rfl g5 0 CH rfl rfl (Blk.thereAll hZ_1 _ (Nat.le_of_eq HIS.out)) HIH.out HIO.out ?_; obtain ⟨v_3, hv3⟩ : ∃ q, v_1.setCells g5 0 CH.toList = q := ⟨_, rfl⟩; rw [hv3]; have hS_3 : Own g5 wr v_3 := (by rw [← hv3]; exact hS_1.trans (Own.setCells _ 0 _)); have hF : Blk v_3 g5 CH 77 := (by rw [← hv3]; exact Blk.whole hZ_1 HIS.out); clear hv3 hZ_1 hS_1; skip)
      refine hK.out _ _ ?_ (fun hHeld => ?_)
      · (try dsimp only)
        first | assumption
      clear hK K
      (try simp only [Act.put, List.setIfInBounds_toArray, List.set_cons_zero, List.set_cons_succ])
      refine wpAnyH_done (by kernel_rfl) ?_ _
      have H3 : Hid (RZ w g5 n K L G j v_3) := Lib.hid ⟨by rw [HHN.out, HCH.out]; exact hF, hS_3.blk HX.out.r HG5.out.2, HBW.out _ hS_3⟩
      have q3 : IntKind.i64.wrap ((i : Int) + 1) = (j : Int) := by rw [IntWalk.i64_in _ (by have := HJ.out; have := HNM.out; omega)]; have := HJ.out; omega
      clear hS_3 hF
      go_wp2_with fail
      go_roundw
      case rel => exact ⟨j, by have := HJ.out; omega, by first | rfl | go_num, H3.out⟩
      case measure => have := HJ.out; simp [intOf] <;> omega
    · obtain rfl : i = q := by omega
      have i1 : ¬ (i : Int) < (i : Int) := by omega
      obtain ⟨C, hC⟩ : ∃ C, (hdL i (hs n K L G i)).toArray = C := ⟨_, rfl⟩
      have HIC : Hid ((Tryd.prog.info? 77).map (·.size) = some C.size) := Lib.hid (by rw [← hC, hd_size]; exact info_h2)
      have HIO : Hid (C.all (·.oneCell') = true) := Lib.hid (by rw [← hC]; exact hd_one _ _)
      have HTB : Hid (Blk wr g5 C 77) := Lib.hid (by have := HX.out.b; rw [hC] at this; exact this)
      have HXX : Hid (Blk (wr.setCells w.heap.size 0 C.toList) w.heap.size C 77 ∧ wr.there w.heap.size 0 C.size ∧ Below w.heap.size w (wr.setCells w.heap.size 0 C.toList)) := Lib.hid ⟨Blk.whole HX.out.r (by rw [← hC, hd_size, zeroH_size]), Blk.thereAll HX.out.r _ (by rw [← hC, hd_size, zeroH_size]; exact Nat.le_refl _), HX.out.o.trans ((Own.setCells _ 0 _).below (Nat.le_refl _) HX.out.o.size)⟩
      have HCE := Lib.hid hC
      clear hlt hi hC
      go_wp2_with (first
        | (refine wpList_load_row rfl 77 (.tmp 5) rfl g5 rfl 77 C (0, 0) _ HTB.out Tryd.underlying77 rfl HIC.out ?_)
        | (refine wpList_store_mid rfl 77 (.tmp 4) (.tmp 24) rfl w.heap.size 0 C rfl rfl HXX.out.2.1 HIC.out HIO.out ?_))
      refine bodyPost_ret (v := .agg C) ?_ rfl ⟨by rw [HCE.out], HXX.out.2.2⟩
      exact results_cell_row Tryd.results42 _ _ w.heap.size 77 C (0, 0) _ rfl HXX.out.1 Tryd.underlying77 rfl HIC.out
end Go.Proofs.YtmabhjifldafaaaDoor
