/- ChainCuts walked. -/
import Derived.Test.YtmabhjifldafaaaDoorCh6
import Derived.Test.YtmabhjifldafaaaDoorApl
namespace Go.Proofs.YtmabhjifldafaaaDoor
set_option linter.unusedVariables false
set_option linter.unusedSimpArgs false
open Go.RowKit

theorem lbx_lt {W : World} {B g m : Nat} {M : Nat → Nat} (h : LBx W B (some ⟨g, 0, none⟩) 1 (fun _ => m) (fun _ => M)) : g < W.heap.size := by
  obtain ⟨c, off, od, cp, h1, h2, _⟩ := h 0 (by decide)
  cases h1
  exact World.block_lt_of_cell? _ _ h2
set_option maxRecDepth 100000 in
set_option maxHeartbeats 16000000 in
theorem ccuts_any (oa : Option Addr) (n cn : Nat) (K : Nat → Nat) (op : Option Addr) (q cq : Nat) (L : Nat → Nat) (G : Nat → Nat → Nat) (om : Option Addr) (m cm : Nat) (M : Nat → Nat) (w : World) (hK : Bytes w oa n K) (hnc : n ≤ cn) (hcn : cn ≤ maxLen) (hno : oa = none → n = 0) (hL : LBs w op q L G) (hqc : q ≤ cq) (hcq : cq ≤ maxLen) (hM : Bytes w om m M) (hmc : m ≤ cm) (hcm : cm ≤ maxLen) (hmo : om = none → m = 0) (hg : CG w) :
    Calls Tryd.prog 7 #[.slice oa n cn, .slice op q cq, .slice om m cm] w fun e w' => e = .returned (.bool true) ∧ Below w.heap.size w w' := by
  have hz1 := zero_h1
  have HW : Hid (CG w ∧ Below w.heap.size w w) := Lib.hid ⟨hg, Below.refl _ _⟩
  have HKB : Hid (∀ w', Below w.heap.size w w' → Bytes w' oa n K) := Lib.hid fun w' h => hK.later h
  have HLB : Hid (∀ w', Below w.heap.size w w' → LBs w' op q L G) := Lib.hid fun w' h => hL.later h
  have HLX : Hid (LBs w op q L G ∧ (op = none → q = 0)) := Lib.hid ⟨hL, fun e => by
    rcases Nat.eq_zero_or_pos q with h0 | h0
    · exact h0
    · obtain ⟨b, off, od, cp, e2, _⟩ := hL 0 h0
      rw [e] at e2; cases e2⟩
  have HMB : Hid (∀ w', Below w.heap.size w w' → Bytes w' om m M) := Lib.hid fun w' h => hM.later h
  have HML : Hid (∀ a, om = some a → 0 < m → a.block < w.heap.size) := Lib.hid hM.lt
  have HNM : Hid (n ≤ cn ∧ cn ≤ maxLen ∧ (oa = none → n = 0) ∧ q ≤ cq ∧ cq ≤ maxLen ∧ m ≤ cm ∧ cm ≤ maxLen ∧ (om = none → m = 0)) := Lib.hid ⟨hnc, hcn, hno, hqc, hcq, hmc, hcm, hmo⟩
  have n0 : (n : Int) ≤ 9223372036854775807 := by unfold maxLen at hcn; omega
  have n1 : (q : Int) ≤ 9223372036854775807 := by unfold maxLen at hcq; omega
  have n2 : (m : Int) ≤ 9223372036854775807 := by unfold maxLen at hcm; omega
  have n3 : (q : Int) ≤ (cq : Int) := by omega
  have hqm : q ≤ maxLen := Nat.le_trans hqc hcq
  clear hK hnc hcn hno hL hqc hcq hM hmc hcm hmo hg
  have hcs : (200 : Int) < (n : Int) ∨ ¬ (200 : Int) < (n : Int) := by omega
  rcases hcs with g1 | g1
  · go_enter Tryd.func7, Tryd.ntmps7
    go_wp2_with fail
    refine (chain_sure w HW.out.1).mono ?_
    rintro e we ⟨rfl, hbe⟩
    have HO := Lib.hid (HW.out.2.trans (hbe.mono HW.out.2.size))
    clear hbe
    go_wp2_with fail
    go_ret
    exact ⟨rfl, HO.out⟩
  · go_enter Tryd.func7, Tryd.ntmps7
    go_wp2_with fail
    refine (big_any34 op q cq L G w HLX.out.1 hqm).mono ?_
    rintro e w1 ⟨hb1, hr1⟩
    have H1 : Hid (CG w1 ∧ Below w.heap.size w w1) := Lib.hid ⟨HW.out.1.later hb1, hb1⟩
    have HN2 : Hid (n ≤ 200) := Lib.hid (by omega)
    clear hb1 hqm
    have hr1 : e = .returned (.bool true) ∨ (e = .returned (.bool false) ∧ 12 < q) ∨ (e = .returned (.bool false) ∧ ¬ 12 < q ∧ 300 < m) ∨ (e = .returned (.bool false) ∧ q ≤ 12 ∧ m ≤ 300 ∧ ∀ i, i < q → L i ≤ 3000) := by
      rcases hr1 with h | ⟨h1, h2, h3⟩
      · exact .inl h
      · by_cases h : 12 < q
        · exact .inr (.inl ⟨h1, h⟩)
        · by_cases h4 : 300 < m
          · exact .inr (.inr (.inl ⟨h1, h, h4⟩))
          · exact .inr (.inr (.inr ⟨h1, by omega, by omega, h3⟩))
    rcases hr1 with rfl | ⟨rfl, h12⟩ | ⟨rfl, h12, hm3⟩ | ⟨rfl, h12, hm3, hl3⟩
    · skip
      go_wp2_with fail
      refine (chain_sure w1 H1.out.1).mono ?_
      rintro e we ⟨rfl, hbe⟩
      have HO := Lib.hid (H1.out.2.trans (hbe.mono H1.out.2.size))
      clear hbe
      go_wp2_with fail
      go_ret
      exact ⟨rfl, HO.out⟩
    · have g2 : (12 : Int) < (q : Int) := by omega
      go_wp2_with fail
      refine (chain_sure w1 H1.out.1).mono ?_
      rintro e we ⟨rfl, hbe⟩
      have HO := Lib.hid (H1.out.2.trans (hbe.mono H1.out.2.size))
      clear hbe
      go_wp2_with fail
      go_ret
      exact ⟨rfl, HO.out⟩
    · have g2 : ¬ (12 : Int) < (q : Int) := by omega
      have g3 : (300 : Int) < (m : Int) := by omega
      go_wp2_with fail
      refine (chain_sure w1 H1.out.1).mono ?_
      rintro e we ⟨rfl, hbe⟩
      have HO := Lib.hid (H1.out.2.trans (hbe.mono H1.out.2.size))
      clear hbe
      go_wp2_with fail
      go_ret
      exact ⟨rfl, HO.out⟩
    · have g2 : ¬ (12 : Int) < (q : Int) := by omega
      have g3 : ¬ (300 : Int) < (m : Int) := by omega
      have HQ : Hid (q ≤ 12 ∧ m ≤ 300 ∧ ∀ i, i < q → L i ≤ 3000) := Lib.hid ⟨h12, hm3, hl3⟩
      clear hl3 h12 hm3
      obtain ⟨CO, hCO⟩ : ∃ C, (hdL q (hs n K L G q)).toArray = C := ⟨_, rfl⟩
      have HIO : Hid ((Tryd.prog.info? 65).map (·.size) = some CO.size) := Lib.hid (by rw [← hCO, hd_size]; exact info_h1)
      have HOO : Hid (CO.all (·.oneCell') = true) := Lib.hid (by rw [← hCO]; exact hd_one _ _)
      have hSO : CO.size = zeroH.size := by rw [← hCO, hd_size, zeroH_size]
      have HCO := Lib.hid hCO
      have hc1 := of_any oa n cn K op q cq L G w1 (HKB.out _ H1.out.2) HNM.out.1 HNM.out.2.2.1 (by have := HN2.out; omega) (HLB.out _ H1.out.2) (by have := HQ.out.1; omega) (fun i hi => by have := HQ.out.2.2 i hi; omega) H1.out.1.2
      rw [hCO] at hc1
      clear hCO
      go_wp2_with fail
      refine hc1.mono ?_
      clear hc1
      rintro e w2 ⟨rfl, hb2⟩
      have hl7 := laidHd w2 zeroH CO 65 hSO
      obtain ⟨w3, hn7⟩ : ∃ x, (w2.alloc (.cells zeroH 65)).setCells w2.heap.size 0 CO.toList = x := ⟨_, rfl⟩
      rw [hn7] at hl7
      have HTH7 := Lib.hid hl7.2.2
      obtain ⟨g7, hg7⟩ : ∃ x, w2.heap.size = x := ⟨_, rfl⟩
      have HWG : Hid (∀ {B : Nat}, B = B) := Lib.hid rfl
      have H3 : Hid (CG w3 ∧ Below w.heap.size w w3 ∧ Blk w3 g7 CO 65) := Lib.hid ⟨(H1.out.1.later hb2).later hl7.2.1, (H1.out.2.trans (hb2.mono H1.out.2.size)).trans (hl7.2.1.mono (H1.out.2.trans (hb2.mono H1.out.2.size)).size), hg7 ▸ hl7.1⟩
      rw [hg7] at HTH7 hn7
      have HG7 := Lib.hid hg7
      clear hl7 hb2 H1
      go_wp2_with (first | ((try rw [HG7.out]); refine wpList_store_mid rfl 65 (.tmp 7) (.tmp 29) rfl g7 0 CO rfl rfl HTH7.out HIO.out HOO.out ?_; rw [hn7]))
      clear HTH7 hn7 HG7 hg7 hz1
      go_loopw [8] (fun x wr => ∃ (i : Nat), i ≤ q ∧ x = .int .i64 (i : Int) ∧ CG wr ∧ Below w.heap.size w wr ∧ Blk wr g7 CO 65) (fun x _ => q - (intOf x).toNat)
      case atStart => exact ⟨0, Nat.zero_le _, rfl, H3.out⟩
      case round =>
        obtain ⟨i, hi, rfl, hX⟩ := hrel
        have HX := Lib.hid hX
        clear hX
        by_cases hlt : i < q
        · as_aux_lemma =>
          have i1 : (i : Int) < (q : Int) := by omega
          have i0 : (0 : Int) ≤ (i : Int) := by omega
          have i2 : (i : Int) ≤ (cq : Int) := by omega
          obtain ⟨b, off, _, _, rfl, _⟩ := HLX.out.1 0 (by omega)
          obtain ⟨j, hj⟩ : ∃ x, i + 1 = x := ⟨_, rfl⟩
          have q3 : IntKind.i64.wrap ((i : Int) + 1) = (j : Int) := by have := HQ.out.1; rw [IntWalk.i64_in _ (by omega)]; omega
          have HJ : Hid (i < q ∧ i + 1 = j) := Lib.hid ⟨hlt, hj⟩
          have HBO : Hid (∀ w', Below wr.heap.size wr w' → Below w.heap.size w w') := Lib.hid fun w' h => HX.out.2.1.trans (h.mono HX.out.2.1.size)
          have HV : Hid (∀ w', Below wr.heap.size wr w' → Calls Tryd.prog 37 #[.slice oa n cn, .slice (some ⟨b, off, none⟩) i cq, .agg CO] w' fun e w'' => e = .returned (.bool false) ∧ Below w'.heap.size w' w'') := Lib.hid fun w' h => by
            have h9 := verify_any oa n cn K (some ⟨b, off, none⟩) i cq L G q (hs n K L G q) w' (HKB.out _ (HBO.out _ h)) HNM.out.1 HNM.out.2.2.1 (by have := HN2.out; omega) ((HLB.out _ (HBO.out _ h)).mono (by have := HJ.out; omega)) (by have := HQ.out.1; have := HJ.out; omega) (fun i hi => by have := HQ.out.2.2 i (by have := HJ.out; omega); omega) ((HX.out.1.later h).2)
            rw [HCO.out, show decide (i = q) = false from decide_eq_false (by have := HJ.out; omega), Bool.false_and] at h9; exact h9
          have hS_0 : Below wr.heap.size wr wr.drew := (Below.refl _ _).drew
          clear hlt hi hj
          go_wp2_with fail
          refine wp_region_held_drew (S := (Below wr.heap.size wr)) (by kernel_rfl) ?_ (fun hHeld => ?_)
          · (try dsimp only)
            exact hS_0
          generalize wr.drew = W0 at *
          refine wpAnyH_take (i := 0) (oi := { dst := some 36, op := Go.Op.move (Go.Operand.tmp 0), type := 33, pos := "law.go:115", after := #[], guard := none }) (v := ?_) rfl (by kernel_rfl) (by kernel_rfl) (by kernel_rfl) (fun _ _ _ h => h) (Or.inl ⟨by rfl, ?_⟩) (hS_0) ?_
          rotate_left
          · intro wS hSw
            (try dsimp only at hSw)
            go_simp
            (try with_reducible rfl)
          (try simp only [Act.put, List.setIfInBounds_toArray, List.set_cons_zero, List.set_cons_succ])
          refine wpAnyH_take (i := 1) (oi := { dst := some 37, op := Go.Op.move (Go.Operand.tmp 1), type := 34, pos := "law.go:115", after := #[], guard := none }) (v := ?_) rfl (by kernel_rfl) (by kernel_rfl) (by kernel_rfl) (fun _ _ _ h => h) (Or.inl ⟨by rfl, ?_⟩) (hS_0) ?_
          rotate_left
          · intro wS hSw
            (try dsimp only at hSw)
            go_simp
            (try with_reducible rfl)
          (try simp only [Act.put, List.setIfInBounds_toArray, List.set_cons_zero, List.set_cons_succ])
          refine wpAnyH_take (i := 2) (oi := { dst := some 38, op := Go.Op.move (Go.Operand.tmp 8), type := 3, pos := "law.go:115", after := #[], guard := none }) (v := ?_) rfl (by kernel_rfl) (by kernel_rfl) (by kernel_rfl) (fun _ _ _ h => h) (Or.inl ⟨by rfl, ?_⟩) (hS_0) ?_
          rotate_left
          · intro wS hSw
            (try dsimp only at hSw)
            go_simp
            (try with_reducible rfl)
          (try simp only [Act.put, List.setIfInBounds_toArray, List.set_cons_zero, List.set_cons_succ])
          refine wpAnyH_take (i := 3) (oi := { dst := some 39, op := Go.Op.slice 34 (Go.Operand.tmp 37) none (some (Go.Operand.tmp 38)) none, type := 34, pos := "law.go:115", after := #[{ on := 1, ground := Go.Ground.data }, { on := 2, ground := Go.Ground.data }], guard := none }) (v := ?_) rfl (by kernel_rfl) (by kernel_rfl) (by kernel_rfl) (fun _ _ _ h => h) (Or.inl ⟨by rfl, ?_⟩) (hS_0) ?_
          rotate_left
          · intro wS hSw
            (try dsimp only at hSw)
            go_simp
            (try with_reducible rfl)
          (try simp only [Act.put, List.setIfInBounds_toArray, List.set_cons_zero, List.set_cons_succ])
          refine wpAnyH_take (i := 4) (oi := { dst := some 40, op := Go.Op.load 65 (Go.Operand.tmp 7), type := 65, pos := "law.go:115", after := #[], guard := none }) (v := ?_) rfl (by kernel_rfl) (by kernel_rfl) (by kernel_rfl) (fun _ _ _ h => h) (Or.inl ⟨by rfl, ?_⟩) (hS_0) ?_
          rotate_left
          · intro wS hSw
            refine exec_loadB (x := .tmp 7) (g := g7) (t := 65) ?_ ?_ (Blk.below HX.out.2.2 hSw (Blk.lt HX.out.2.2)) Tryd.underlying65 rfl HIO.out <;> rfl
          (try simp only [Act.put, List.setIfInBounds_toArray, List.set_cons_zero, List.set_cons_succ])
          refine wpAnyH_ready (rs := [5]) (by kernel_rfl) (by simp) ?_
          refine AllReadyH.cons (o := { dst := some 41, op := Go.Op.call { callee := Go.Callee.value (Go.Operand.func 37), args := #[Go.Operand.tmp 36, Go.Operand.tmp 39, Go.Operand.tmp 40], argTypes := #[33, 34, 65] }, type := 4, pos := "law.go:115", after := #[{ on := 0, ground := Go.Ground.data }, { on := 3, ground := Go.Ground.data }, { on := 4, ground := Go.Ground.data }], guard := none }) rfl (fun K hK => ?_) AllReadyH.nil
          go_simp
          (refine (HV.out _ hS_0).mono ?_; rintro e v_1 ⟨rfl, hb⟩; have hS_1 := hS_0.trans (hb.mono hS_0.size); clear hb hS_0; skip)
          (try go_wp2_with fail)
          refine hK.out _ _ ?_ (fun hHeld => ?_)
          · (try dsimp only)
            exact hS_1
          clear hK K
          (try simp only [Act.put, List.setIfInBounds_toArray, List.set_cons_zero, List.set_cons_succ])
          refine wpAnyH_done (by kernel_rfl) ?_ _
          have H9 : Hid (CG v_1 ∧ Below w.heap.size w v_1 ∧ Blk v_1 g7 CO 65) := Lib.hid ⟨HX.out.1.later hS_1, HBO.out _ hS_1, Blk.below HX.out.2.2 hS_1 (Blk.lt HX.out.2.2)⟩
          clear hS_1
          go_wp2_with fail
          go_roundw
          case rel => exact ⟨j, by have := HJ.out; omega, by first | rfl | go_num, H9.out⟩
          case measure => have := HJ.out; simp [intOf] <;> omega
        · obtain rfl : i = q := by omega
          have i1 : ¬ (i : Int) < (i : Int) := by omega
          clear hlt hi
          have HI1 : Hid (0 + i + 1 = i + 1) := Lib.hid (by omega)
          have HBD : Hid (0 + i < 1000000000000 ∧ 0 + i + 1 < 1000000000000) := Lib.hid (by have := HQ.out.1; omega)
          have HBO : Hid (∀ w', Below wr.heap.size wr w' → Below w.heap.size w w') := Lib.hid fun w' h => HX.out.2.1.trans (h.mono HX.out.2.1.size)
          have HCG : Hid (∀ w', Below wr.heap.size wr w' → CG w') := Lib.hid fun w' h => HX.out.1.later h
          have HV1 : Hid (∀ w', Below wr.heap.size wr w' → Calls Tryd.prog 37 #[.slice oa n cn, .slice op i cq, .agg CO] w' fun e w'' => e = .returned (.bool true) ∧ Below w'.heap.size w' w'') := Lib.hid fun w' h => by
            have h9 := verify_any oa n cn K op i cq L G i (hs n K L G i) w' (HKB.out _ (HBO.out _ h)) HNM.out.1 HNM.out.2.2.1 (by have := HN2.out; omega) (HLB.out _ (HBO.out _ h)) (by have := HQ.out.1; omega) (fun i hi => by have := HQ.out.2.2 i hi; omega) (HCG.out _ h).2
            rw [HCO.out, eqS_refl, show (decide (i = i) && true) = true from by simp] at h9; exact h9
          have HV2 : Hid (∀ w' o c, Below wr.heap.size wr w' → LBs w' o (i + 1) (catL (0 + i) (catL 0 (fun _ => 0) L) (fun _ => m)) (catG (0 + i) (catG 0 (fun _ _ => 0) G) (fun _ => M)) → Calls Tryd.prog 37 #[.slice oa n cn, .slice o (i + 1) c, .agg CO] w' fun e w'' => e = .returned (.bool false) ∧ Below w'.heap.size w' w'') := Lib.hid fun w' o c h h2 => by
            have h9 := verify_any oa n cn K o (i + 1) c _ _ i (hs n K L G i) w' (HKB.out _ (HBO.out _ h)) HNM.out.1 HNM.out.2.2.1 (by have := HN2.out; omega) h2 (by have := HQ.out.1; omega) (fun t ht => by
              unfold catL
              by_cases e1 : t < 0 + i
              · rw [if_pos e1, if_neg (Nat.not_lt_zero _)]; have := HQ.out.2.2 (t - 0) (by omega); omega
              · rw [if_neg e1]; show m ≤ 100000; have := HQ.out; omega) (HCG.out _ h).2
            rw [HCO.out, show decide (i + 1 = i) = false from decide_eq_false (by omega), Bool.false_and] at h9; exact h9
          have HLR : Hid (∀ w', Below wr.heap.size wr w' → LBx w' wr.heap.size op i L G) := Lib.hid fun w' h => (LBs.xB HLX.out.1 (HBO.out _ h)).mono HX.out.2.1.size
          have hS_0 : Below wr.heap.size wr wr.drew := (Below.refl _ _).drew
          go_wp2_with fail
          refine wp_region_held_drew (S := (Below wr.heap.size wr)) (by kernel_rfl) ?_ (fun hHeld => ?_)
          · (try dsimp only)
            exact hS_0
          generalize wr.drew = W0 at *
          refine wpAnyH_take (i := 0) (oi := { dst := some 42, op := Go.Op.move (Go.Operand.tmp 0), type := 33, pos := "law.go:119", after := #[], guard := none }) (v := ?_) rfl (by kernel_rfl) (by kernel_rfl) (by kernel_rfl) (fun _ _ _ h => h) (Or.inl ⟨by rfl, ?_⟩) (hS_0) ?_
          rotate_left
          · intro wS hSw
            (try dsimp only at hSw)
            go_simp
            (try with_reducible rfl)
          (try simp only [Act.put, List.setIfInBounds_toArray, List.set_cons_zero, List.set_cons_succ])
          refine wpAnyH_take (i := 1) (oi := { dst := some 43, op := Go.Op.move (Go.Operand.tmp 1), type := 34, pos := "law.go:119", after := #[], guard := none }) (v := ?_) rfl (by kernel_rfl) (by kernel_rfl) (by kernel_rfl) (fun _ _ _ h => h) (Or.inl ⟨by rfl, ?_⟩) (hS_0) ?_
          rotate_left
          · intro wS hSw
            (try dsimp only at hSw)
            go_simp
            (try with_reducible rfl)
          (try simp only [Act.put, List.setIfInBounds_toArray, List.set_cons_zero, List.set_cons_succ])
          refine wpAnyH_take (i := 2) (oi := { dst := some 44, op := Go.Op.load 65 (Go.Operand.tmp 7), type := 65, pos := "law.go:119", after := #[], guard := none }) (v := ?_) rfl (by kernel_rfl) (by kernel_rfl) (by kernel_rfl) (fun _ _ _ h => h) (Or.inl ⟨by rfl, ?_⟩) (hS_0) ?_
          rotate_left
          · intro wS hSw
            refine exec_loadB (x := .tmp 7) (g := g7) (t := 65) ?_ ?_ (Blk.below HX.out.2.2 hSw (Blk.lt HX.out.2.2)) Tryd.underlying65 rfl HIO.out <;> rfl
          (try simp only [Act.put, List.setIfInBounds_toArray, List.set_cons_zero, List.set_cons_succ])
          refine wpAnyH_ready (rs := [3]) (by kernel_rfl) (by simp) ?_
          refine AllReadyH.cons (o := { dst := some 45, op := Go.Op.call { callee := Go.Callee.value (Go.Operand.func 37), args := #[Go.Operand.tmp 42, Go.Operand.tmp 43, Go.Operand.tmp 44], argTypes := #[33, 34, 65] }, type := 4, pos := "law.go:119", after := #[{ on := 0, ground := Go.Ground.data }, { on := 1, ground := Go.Ground.data }, { on := 2, ground := Go.Ground.data }], guard := none }) rfl (fun K hK => ?_) AllReadyH.nil
          go_simp
          (refine (HV1.out _ hS_0).mono ?_; rintro e v_1 ⟨rfl, hb⟩; have hS_1 := hS_0.trans (hb.mono hS_0.size); (try clear hb); (try clear hS_0); skip)
          (try go_wp2_with fail)
          refine hK.out _ _ ?_ (fun hHeld => ?_)
          · (try dsimp only)
            exact hS_1
          clear hK K
          (try simp only [Act.put, List.setIfInBounds_toArray, List.set_cons_zero, List.set_cons_succ])
          refine wpAnyH_take (i := 4) (oi := { dst := some 46, op := Go.Op.move (Go.Operand.tmp 45), type := 4, pos := "law.go:119", after := #[{ on := 3, ground := Go.Ground.data }, { on := 3, ground := Go.Ground.chain }], guard := none }) (v := ?_) rfl (by kernel_rfl) (by kernel_rfl) (by kernel_rfl) (fun _ _ _ h => h) (Or.inl ⟨by rfl, ?_⟩) (hS_1) ?_
          rotate_left
          · intro wS hSw
            (try dsimp only at hSw)
            go_simp
            (try with_reducible rfl)
          (try simp only [Act.put, List.setIfInBounds_toArray, List.set_cons_zero, List.set_cons_succ])
          refine wpAnyH_take (i := 5) (oi := { dst := some 47, op := Go.Op.move (Go.Operand.tmp 0), type := 33, pos := "law.go:119", after := #[{ on := 4, ground := Go.Ground.guard }], guard := some (4, true) }) (v := ?_) rfl (by kernel_rfl) (by kernel_rfl) (by kernel_rfl) (fun _ _ _ h => h) (Or.inl ⟨by rfl, ?_⟩) (hS_1) ?_
          rotate_left
          · intro wS hSw
            (try dsimp only at hSw)
            go_simp
            (try with_reducible rfl)
          (try simp only [Act.put, List.setIfInBounds_toArray, List.set_cons_zero, List.set_cons_succ])
          refine wpAnyH_take (i := 7) (oi := { dst := some 49, op := Go.Op.move (Go.Operand.tmp 1), type := 34, pos := "law.go:119", after := #[{ on := 4, ground := Go.Ground.guard }], guard := some (4, true) }) (v := ?_) rfl (by kernel_rfl) (by kernel_rfl) (by kernel_rfl) (fun _ _ _ h => h) (Or.inl ⟨by rfl, ?_⟩) (hS_1) ?_
          rotate_left
          · intro wS hSw
            (try dsimp only at hSw)
            go_simp
            (try with_reducible rfl)
          (try simp only [Act.put, List.setIfInBounds_toArray, List.set_cons_zero, List.set_cons_succ])
          refine wpAnyH_take (i := 9) (oi := { dst := some 51, op := Go.Op.move (Go.Operand.tmp 2), type := 33, pos := "law.go:119", after := #[{ on := 4, ground := Go.Ground.guard }], guard := some (4, true) }) (v := ?_) rfl (by kernel_rfl) (by kernel_rfl) (by kernel_rfl) (fun _ _ _ h => h) (Or.inl ⟨by rfl, ?_⟩) (hS_1) ?_
          rotate_left
          · intro wS hSw
            (try dsimp only at hSw)
            go_simp
            (try with_reducible rfl)
          (try simp only [Act.put, List.setIfInBounds_toArray, List.set_cons_zero, List.set_cons_succ])
          refine wpAnyH_take (i := 12) (oi := { dst := some 54, op := Go.Op.load 65 (Go.Operand.tmp 7), type := 65, pos := "law.go:119", after := #[{ on := 4, ground := Go.Ground.guard }], guard := some (4, true) }) (v := ?_) rfl (by kernel_rfl) (by kernel_rfl) (by kernel_rfl) (fun _ _ _ h => h) (Or.inl ⟨by rfl, ?_⟩) (hS_1) ?_
          rotate_left
          · intro wS hSw
            refine exec_loadB (x := .tmp 7) (g := g7) (t := 65) ?_ ?_ (Blk.below HX.out.2.2 hSw (Blk.lt HX.out.2.2)) Tryd.underlying65 rfl HIO.out <;> rfl
          (try simp only [Act.put, List.setIfInBounds_toArray, List.set_cons_zero, List.set_cons_succ])
          apply join_lem
          · intro key0
            refine wpAnyH_ready (rs := [6, 10]) (by kernel_rfl) (by simp) ?_
            refine AllReadyH.cons (o := { dst := some 48, op := Go.Op.buildSlice 34 0 #[], type := 34, pos := "law.go:119", after := #[{ on := 4, ground := Go.Ground.guard }], guard := some (4, true) }) rfl (fun K hK => ?_) ?_
            · skip
              go_simp
              (obtain ⟨v_2, hy⟩ : ∃ q, v_1.alloc (.cells #[] 33) = q := ⟨_, rfl⟩; rw [hy]; have hb : Below v_1.heap.size v_1 v_2 := (by rw [← hy]; exact (Below.refl _ _).alloc (Nat.le_refl _) _); have hS_2 := hS_1.trans (hb.mono hS_1.size); have hV_2 : RL v_2 wr.heap.size (.slice (some ⟨v_1.heap.size, 0, none⟩) 0 0) 0 (fun _ => 0) (fun _ _ => 0) := (by rw [← hy]; exact RL.made [] rfl (Nat.zero_le _) hS_1.size (fun i hi => absurd hi (Nat.not_lt_zero _))); (try clear hb); (try clear hy); (try clear hS_1); obtain ⟨g6, hg⟩ : ∃ q, v_1.heap.size = q := ⟨_, rfl⟩; rw [hg] at hV_2 ⊢; clear hg; skip)
              (try go_wp2_with fail)
              refine hK.out _ _ ?_ (fun hHeld => ?_)
              · (try dsimp only)
                exact hS_2
              clear hK K
              (try simp only [Act.put, List.setIfInBounds_toArray, List.set_cons_zero, List.set_cons_succ])
              refine wpAnyH_ready (rs := [8, 10]) (by kernel_rfl) (by simp) ?_
              refine AllReadyH.cons (o := { dst := some 50, op := Go.Op.call { callee := Go.Callee.builtin Go.Builtin.append, args := #[Go.Operand.tmp 48, Go.Operand.tmp 49], argTypes := #[34, 34] }, type := 34, pos := "law.go:119", after := #[{ on := 6, ground := Go.Ground.data }, { on := 7, ground := Go.Ground.data }, { on := 4, ground := Go.Ground.chain }, { on := 4, ground := Go.Ground.guard }], guard := some (4, true) }) rfl (fun K hK => ?_) ?_
              · skip
                (refine step_appRsG (by kernel_rfl) (.tmp 48) (.tmp 49) rfl wr.heap.size (.slice (some ⟨g6, 0, none⟩) 0 0) 0 i cq (fun _ => 0) L (fun _ _ => 0) G op v_2 rfl hV_2 rfl (HLR.out _ hS_2) HLX.out.2 HBD.out.1 hS_2.size ?_; intro v8 v_3 hV_3 hb hgr; have hS_3 := hS_2.trans hb; (try clear hb); (try clear hgr); (try clear hne); (try clear hV_2); (try clear hS_2); skip)
                refine hK.out _ _ ?_ (fun hHeld => ?_)
                · (try dsimp only)
                  exact hS_3
                clear hK K
                (try simp only [Act.put, List.setIfInBounds_toArray, List.set_cons_zero, List.set_cons_succ])
                refine wpAnyH_ready (rs := [10]) (by kernel_rfl) (by simp) ?_
                refine AllReadyH.cons (o := { dst := some 52, op := Go.Op.buildSlice 34 1 #[(0, Go.Operand.tmp 51)], type := 34, pos := "law.go:119", after := #[{ on := 9, ground := Go.Ground.data }, { on := 4, ground := Go.Ground.guard }], guard := some (4, true) }) rfl (fun K hK => ?_) AllReadyH.nil
                go_simp
                (obtain ⟨v_4, hy⟩ : ∃ q, v_3.alloc (.cells #[.slice om m cm] 33) = q := ⟨_, rfl⟩; rw [hy]; have hb : Below v_3.heap.size v_3 v_4 := (by rw [← hy]; exact (Below.refl _ _).alloc (Nat.le_refl _) _); have hS_4 := hS_3.trans (hb.mono hS_3.size); have hV_4 := hV_3.later hb; have hX_4 : LBx v_4 wr.heap.size (some ⟨v_3.heap.size, 0, none⟩) 1 (fun _ => m) (fun _ => M) := row_one hy (HMB.out _ (HBO.out _ hS_3)) HNM.out.2.2.2.2.2.1 HNM.out.2.2.2.2.2.2.1 HNM.out.2.2.2.2.2.2.2 (fun a ha hl => Nat.lt_of_lt_of_le (HML.out a ha hl) HX.out.2.1.size); (try clear hb); (try clear hy); (try clear hV_3); (try clear hS_3); obtain ⟨gx, hg⟩ : ∃ q, v_3.heap.size = q := ⟨_, rfl⟩; rw [hg] at hX_4 ⊢; clear hg; skip)
                (try go_wp2_with fail)
                refine hK.out _ _ ?_ (fun hHeld => ?_)
                · (try dsimp only)
                  exact hS_4
                clear hK K
                (try simp only [Act.put, List.setIfInBounds_toArray, List.set_cons_zero, List.set_cons_succ])
                refine wpAnyH_ready (rs := [11]) (by kernel_rfl) (by simp) ?_
                refine AllReadyH.cons (o := { dst := some 53, op := Go.Op.call { callee := Go.Callee.builtin Go.Builtin.append, args := #[Go.Operand.tmp 50, Go.Operand.tmp 52], argTypes := #[34, 34] }, type := 34, pos := "law.go:119", after := #[{ on := 8, ground := Go.Ground.data }, { on := 10, ground := Go.Ground.data }, { on := 8, ground := Go.Ground.chain }, { on := 4, ground := Go.Ground.guard }], guard := some (4, true) }) rfl (fun K hK => ?_) AllReadyH.nil
                (refine step_appRsG (by kernel_rfl) (.tmp 50) (.tmp 52) rfl wr.heap.size v8 (0 + i) 1 1 (catL 0 (fun _ => 0) L) (fun _ => m) (catG 0 (fun _ _ => 0) G) (fun _ => M) (some ⟨gx, 0, none⟩) v_4 rfl hV_4 rfl hX_4 (fun e => by cases e) HBD.out.2 hS_4.size ?_; intro v9 v_5 hV9 hb hgr; have hS_5 := hS_4.trans hb; obtain ⟨oA, cA, hvA, -, -, hLA_5, -⟩ := hV9.lbs; subst hvA; rw [HI1.out] at hLA_5; (try clear hb); (try clear hgr); (try clear hV9); (try clear hne); (try clear hV_4); (try clear hX_4); (try clear hS_4); skip)
                refine hK.out _ _ ?_ (fun hHeld => ?_)
                · (try dsimp only)
                  exact hS_5
                clear hK K
                (try simp only [Act.put, List.setIfInBounds_toArray, List.set_cons_zero, List.set_cons_succ])
                (repeat clear hHeld)
                (try clear hne)
                revert hS_5
                revert hLA_5
                revert cA
                revert oA
                revert v8
                revert gx
                revert g6
                revert v_5
                exact key0
              refine AllReadyH.cons (o := { dst := some 52, op := Go.Op.buildSlice 34 1 #[(0, Go.Operand.tmp 51)], type := 34, pos := "law.go:119", after := #[{ on := 9, ground := Go.Ground.data }, { on := 4, ground := Go.Ground.guard }], guard := some (4, true) }) rfl (fun K hK => ?_) AllReadyH.nil
              go_simp
              (obtain ⟨v_6, hy⟩ : ∃ q, v_2.alloc (.cells #[.slice om m cm] 33) = q := ⟨_, rfl⟩; rw [hy]; have hb : Below v_2.heap.size v_2 v_6 := (by rw [← hy]; exact (Below.refl _ _).alloc (Nat.le_refl _) _); have hS_6 := hS_2.trans (hb.mono hS_2.size); have hV_6 := hV_2.later hb; have hX_6 : LBx v_6 wr.heap.size (some ⟨v_2.heap.size, 0, none⟩) 1 (fun _ => m) (fun _ => M) := row_one hy (HMB.out _ (HBO.out _ hS_2)) HNM.out.2.2.2.2.2.1 HNM.out.2.2.2.2.2.2.1 HNM.out.2.2.2.2.2.2.2 (fun a ha hl => Nat.lt_of_lt_of_le (HML.out a ha hl) HX.out.2.1.size); have hne : v_2.heap.size ≠ g6 := Nat.ne_of_gt (hV_2.lt g6 rfl).2; (try clear hb); (try clear hy); (try clear hV_2); (try clear hS_2); obtain ⟨gx, hg⟩ : ∃ q, v_2.heap.size = q := ⟨_, rfl⟩; rw [hg] at hX_6 hne ⊢; clear hg; skip)
              (try go_wp2_with fail)
              refine hK.out _ _ ?_ (fun hHeld => ?_)
              · (try dsimp only)
                exact hS_6
              clear hK K
              (try simp only [Act.put, List.setIfInBounds_toArray, List.set_cons_zero, List.set_cons_succ])
              refine wpAnyH_ready (rs := [8]) (by kernel_rfl) (by simp) ?_
              refine AllReadyH.cons (o := { dst := some 50, op := Go.Op.call { callee := Go.Callee.builtin Go.Builtin.append, args := #[Go.Operand.tmp 48, Go.Operand.tmp 49], argTypes := #[34, 34] }, type := 34, pos := "law.go:119", after := #[{ on := 6, ground := Go.Ground.data }, { on := 7, ground := Go.Ground.data }, { on := 4, ground := Go.Ground.chain }, { on := 4, ground := Go.Ground.guard }], guard := some (4, true) }) rfl (fun K hK => ?_) AllReadyH.nil
              (refine step_appRsG (by kernel_rfl) (.tmp 48) (.tmp 49) rfl wr.heap.size (.slice (some ⟨g6, 0, none⟩) 0 0) 0 i cq (fun _ => 0) L (fun _ _ => 0) G op v_6 rfl hV_6 rfl (HLR.out _ hS_6) HLX.out.2 HBD.out.1 hS_6.size ?_; intro v8 v_7 hV_7 hb hgr; have hS_7 := hS_6.trans hb; have hX_7 := hX_6.own (own_of_grown hgr) (hV_6.lt g6 rfl).1 (fun a ha => (by cases ha; exact hne)); (try clear hb); (try clear hgr); (try clear hne); (try clear hV_6); (try clear hX_6); (try clear hS_6); skip)
              refine hK.out _ _ ?_ (fun hHeld => ?_)
              · (try dsimp only)
                exact hS_7
              clear hK K
              (try simp only [Act.put, List.setIfInBounds_toArray, List.set_cons_zero, List.set_cons_succ])
              refine wpAnyH_ready (rs := [11]) (by kernel_rfl) (by simp) ?_
              refine AllReadyH.cons (o := { dst := some 53, op := Go.Op.call { callee := Go.Callee.builtin Go.Builtin.append, args := #[Go.Operand.tmp 50, Go.Operand.tmp 52], argTypes := #[34, 34] }, type := 34, pos := "law.go:119", after := #[{ on := 8, ground := Go.Ground.data }, { on := 10, ground := Go.Ground.data }, { on := 8, ground := Go.Ground.chain }, { on := 4, ground := Go.Ground.guard }], guard := some (4, true) }) rfl (fun K hK => ?_) AllReadyH.nil
              (refine step_appRsG (by kernel_rfl) (.tmp 50) (.tmp 52) rfl wr.heap.size v8 (0 + i) 1 1 (catL 0 (fun _ => 0) L) (fun _ => m) (catG 0 (fun _ _ => 0) G) (fun _ => M) (some ⟨gx, 0, none⟩) v_7 rfl hV_7 rfl hX_7 (fun e => by cases e) HBD.out.2 hS_7.size ?_; intro v9 v_8 hV9 hb hgr; have hS_8 := hS_7.trans hb; obtain ⟨oA, cA, hvA, -, -, hLA_8, -⟩ := hV9.lbs; subst hvA; rw [HI1.out] at hLA_8; (try clear hb); (try clear hgr); (try clear hV9); (try clear hne); (try clear hX_7); (try clear hV_7); (try clear hS_7); skip)
              refine hK.out _ _ ?_ (fun hHeld => ?_)
              · (try dsimp only)
                exact hS_8
              clear hK K
              (try simp only [Act.put, List.setIfInBounds_toArray, List.set_cons_zero, List.set_cons_succ])
              (repeat clear hHeld)
              (try clear hne)
              revert hS_8
              revert hLA_8
              revert cA
              revert oA
              revert v8
              revert gx
              revert g6
              revert v_8
              exact key0
            refine AllReadyH.cons (o := { dst := some 52, op := Go.Op.buildSlice 34 1 #[(0, Go.Operand.tmp 51)], type := 34, pos := "law.go:119", after := #[{ on := 9, ground := Go.Ground.data }, { on := 4, ground := Go.Ground.guard }], guard := some (4, true) }) rfl (fun K hK => ?_) AllReadyH.nil
            go_simp
            (obtain ⟨v_9, hy⟩ : ∃ q, v_1.alloc (.cells #[.slice om m cm] 33) = q := ⟨_, rfl⟩; rw [hy]; have hb : Below v_1.heap.size v_1 v_9 := (by rw [← hy]; exact (Below.refl _ _).alloc (Nat.le_refl _) _); have hS_9 := hS_1.trans (hb.mono hS_1.size); have hX_9 : LBx v_9 wr.heap.size (some ⟨v_1.heap.size, 0, none⟩) 1 (fun _ => m) (fun _ => M) := row_one hy (HMB.out _ (HBO.out _ hS_1)) HNM.out.2.2.2.2.2.1 HNM.out.2.2.2.2.2.2.1 HNM.out.2.2.2.2.2.2.2 (fun a ha hl => Nat.lt_of_lt_of_le (HML.out a ha hl) HX.out.2.1.size); (try clear hb); (try clear hy); (try clear hS_1); obtain ⟨gx, hg⟩ : ∃ q, v_1.heap.size = q := ⟨_, rfl⟩; rw [hg] at hX_9 ⊢; clear hg; skip)
            (try go_wp2_with fail)
            refine hK.out _ _ ?_ (fun hHeld => ?_)
            · (try dsimp only)
              exact hS_9
            clear hK K
            (try simp only [Act.put, List.setIfInBounds_toArray, List.set_cons_zero, List.set_cons_succ])
            refine wpAnyH_ready (rs := [6]) (by kernel_rfl) (by simp) ?_
            refine AllReadyH.cons (o := { dst := some 48, op := Go.Op.buildSlice 34 0 #[], type := 34, pos := "law.go:119", after := #[{ on := 4, ground := Go.Ground.guard }], guard := some (4, true) }) rfl (fun K hK => ?_) AllReadyH.nil
            go_simp
            (obtain ⟨v_10, hy⟩ : ∃ q, v_9.alloc (.cells #[] 33) = q := ⟨_, rfl⟩; rw [hy]; have hb : Below v_9.heap.size v_9 v_10 := (by rw [← hy]; exact (Below.refl _ _).alloc (Nat.le_refl _) _); have hS_10 := hS_9.trans (hb.mono hS_9.size); have hX_10 := hX_9.later hb; have hV_10 : RL v_10 wr.heap.size (.slice (some ⟨v_9.heap.size, 0, none⟩) 0 0) 0 (fun _ => 0) (fun _ _ => 0) := (by rw [← hy]; exact RL.made [] rfl (Nat.zero_le _) hS_9.size (fun i hi => absurd hi (Nat.not_lt_zero _))); have hne : gx ≠ v_9.heap.size := Nat.ne_of_lt (lbx_lt hX_9); (try clear hb); (try clear hy); (try clear hX_9); (try clear hS_9); obtain ⟨g6, hg⟩ : ∃ q, v_9.heap.size = q := ⟨_, rfl⟩; rw [hg] at hV_10 hne ⊢; clear hg; skip)
            (try go_wp2_with fail)
            refine hK.out _ _ ?_ (fun hHeld => ?_)
            · (try dsimp only)
              exact hS_10
            clear hK K
            (try simp only [Act.put, List.setIfInBounds_toArray, List.set_cons_zero, List.set_cons_succ])
            refine wpAnyH_ready (rs := [8]) (by kernel_rfl) (by simp) ?_
            refine AllReadyH.cons (o := { dst := some 50, op := Go.Op.call { callee := Go.Callee.builtin Go.Builtin.append, args := #[Go.Operand.tmp 48, Go.Operand.tmp 49], argTypes := #[34, 34] }, type := 34, pos := "law.go:119", after := #[{ on := 6, ground := Go.Ground.data }, { on := 7, ground := Go.Ground.data }, { on := 4, ground := Go.Ground.chain }, { on := 4, ground := Go.Ground.guard }], guard := some (4, true) }) rfl (fun K hK => ?_) AllReadyH.nil
            (refine step_appRsG (by kernel_rfl) (.tmp 48) (.tmp 49) rfl wr.heap.size (.slice (some ⟨g6, 0, none⟩) 0 0) 0 i cq (fun _ => 0) L (fun _ _ => 0) G op v_10 rfl hV_10 rfl (HLR.out _ hS_10) HLX.out.2 HBD.out.1 hS_10.size ?_; intro v8 v_11 hV_11 hb hgr; have hS_11 := hS_10.trans hb; have hX_11 := hX_10.own (own_of_grown hgr) (hV_10.lt g6 rfl).1 (fun a ha => (by cases ha; exact hne)); (try clear hb); (try clear hgr); (try clear hne); (try clear hX_10); (try clear hV_10); (try clear hS_10); skip)
            refine hK.out _ _ ?_ (fun hHeld => ?_)
            · (try dsimp only)
              exact hS_11
            clear hK K
            (try simp only [Act.put, List.setIfInBounds_toArray, List.set_cons_zero, List.set_cons_succ])
            refine wpAnyH_ready (rs := [11]) (by kernel_rfl) (by simp) ?_
            refine AllReadyH.cons (o := { dst := some 53, op := Go.Op.call { callee := Go.Callee.builtin Go.Builtin.append, args := #[Go.Operand.tmp 50, Go.Operand.tmp 52], argTypes := #[34, 34] }, type := 34, pos := "law.go:119", after := #[{ on := 8, ground := Go.Ground.data }, { on := 10, ground := Go.Ground.data }, { on := 8, ground := Go.Ground.chain }, { on := 4, ground := Go.Ground.guard }], guard := some (4, true) }) rfl (fun K hK => ?_) AllReadyH.nil
            (refine step_appRsG (by kernel_rfl) (.tmp 50) (.tmp 52) rfl wr.heap.size v8 (0 + i) 1 1 (catL 0 (fun _ => 0) L) (fun _ => m) (catG 0 (fun _ _ => 0) G) (fun _ => M) (some ⟨gx, 0, none⟩) v_11 rfl hV_11 rfl hX_11 (fun e => by cases e) HBD.out.2 hS_11.size ?_; intro v9 v_12 hV9 hb hgr; have hS_12 := hS_11.trans hb; obtain ⟨oA, cA, hvA, -, -, hLA_12, -⟩ := hV9.lbs; subst hvA; rw [HI1.out] at hLA_12; (try clear hb); (try clear hgr); (try clear hV9); (try clear hne); (try clear hX_11); (try clear hV_11); (try clear hS_11); skip)
            refine hK.out _ _ ?_ (fun hHeld => ?_)
            · (try dsimp only)
              exact hS_12
            clear hK K
            (try simp only [Act.put, List.setIfInBounds_toArray, List.set_cons_zero, List.set_cons_succ])
            (repeat clear hHeld)
            (try clear hne)
            revert hS_12
            revert hLA_12
            revert cA
            revert oA
            revert v8
            revert gx
            revert g6
            revert v_12
            exact key0
          · intro W_J0 g6 gx v8 oA cA hLA_J0 hS_J0
            refine wpAnyH_ready (rs := [13]) (by kernel_rfl) (by simp) ?_
            refine AllReadyH.cons (o := { dst := some 55, op := Go.Op.call { callee := Go.Callee.value (Go.Operand.func 37), args := #[Go.Operand.tmp 47, Go.Operand.tmp 53, Go.Operand.tmp 54], argTypes := #[33, 34, 65] }, type := 4, pos := "law.go:119", after := #[{ on := 5, ground := Go.Ground.data }, { on := 11, ground := Go.Ground.data }, { on := 12, ground := Go.Ground.data }, { on := 11, ground := Go.Ground.chain }, { on := 4, ground := Go.Ground.guard }], guard := some (4, true) }) rfl (fun K hK => ?_) AllReadyH.nil
            go_simp
            (refine (HV2.out _ _ _ hS_J0 hLA_J0).mono ?_; rintro e v_13 ⟨rfl, hb⟩; have hS_13 := hS_J0.trans (hb.mono hS_J0.size); (try clear hb); (try clear hLA_J0); (try clear hS_J0); skip)
            (try go_wp2_with fail)
            refine hK.out _ _ ?_ (fun hHeld => ?_)
            · (try dsimp only)
              exact hS_13
            clear hK K
            (try simp only [Act.put, List.setIfInBounds_toArray, List.set_cons_zero, List.set_cons_succ])
            refine wpAnyH_take (i := 14) (oi := { dst := some 56, op := Go.Op.unOp Go.UnOp.not 4 (Go.Operand.tmp 55), type := 4, pos := "law.go:119", after := #[{ on := 13, ground := Go.Ground.data }, { on := 4, ground := Go.Ground.guard }], guard := some (4, true) }) (v := ?_) rfl (by kernel_rfl) (by kernel_rfl) (by kernel_rfl) (fun _ _ _ h => h) (Or.inl ⟨by rfl, ?_⟩) (hS_13) ?_
            rotate_left
            · intro wS hSw
              (try dsimp only at hSw)
              go_simp
              (try with_reducible rfl)
            (try simp only [Act.put, List.setIfInBounds_toArray, List.set_cons_zero, List.set_cons_succ])
            refine wpAnyH_take (i := 15) (oi := { dst := some 57, op := Go.Op.pick (Go.Operand.tmp 46) (Go.Operand.tmp 56) (Go.Operand.const (Go.Value.bool false)), type := 4, pos := "law.go:119", after := #[{ on := 4, ground := Go.Ground.data }, { on := 14, ground := Go.Ground.data }], guard := none }) (v := ?_) rfl (by kernel_rfl) (by kernel_rfl) (by kernel_rfl) (fun _ _ _ h => h) (Or.inl ⟨by rfl, ?_⟩) (hS_13) ?_
            rotate_left
            · intro wS hSw
              (try dsimp only at hSw)
              go_simp
              (try with_reducible rfl)
            (try simp only [Act.put, List.setIfInBounds_toArray, List.set_cons_zero, List.set_cons_succ])
            refine wpAnyH_take (i := 16) (oi := { dst := some 58, op := Go.Op.move (Go.Operand.tmp 57), type := 4, pos := "law.go:119", after := #[{ on := 15, ground := Go.Ground.data }, { on := 13, ground := Go.Ground.chain }], guard := none }) (v := ?_) rfl (by kernel_rfl) (by kernel_rfl) (by kernel_rfl) (fun _ _ _ h => h) (Or.inl ⟨by rfl, ?_⟩) (hS_13) ?_
            rotate_left
            · intro wS hSw
              (try dsimp only at hSw)
              go_simp
              (try with_reducible rfl)
            (try simp only [Act.put, List.setIfInBounds_toArray, List.set_cons_zero, List.set_cons_succ])
            refine wpAnyH_ready (rs := [17]) (by kernel_rfl) (by simp) ?_
            refine AllReadyH.cons (o := { dst := some 59, op := Go.Op.call { callee := Go.Callee.value (Go.Operand.func 34), args := #[], argTypes := #[] }, type := 4, pos := "law.go:119", after := #[{ on := 16, ground := Go.Ground.chain }, { on := 16, ground := Go.Ground.guard }], guard := some (16, true) }) rfl (fun K hK => ?_) AllReadyH.nil
            go_simp
            (refine (chain_sure _ (HCG.out _ hS_13)).mono ?_; rintro e v_14 ⟨rfl, hb⟩; have hS_14 := hS_13.trans (hb.mono hS_13.size); (try clear hb); (try clear hS_13); skip)
            (try go_wp2_with fail)
            refine hK.out _ _ ?_ (fun hHeld => ?_)
            · (try dsimp only)
              exact hS_14
            clear hK K
            (try simp only [Act.put, List.setIfInBounds_toArray, List.set_cons_zero, List.set_cons_succ])
            refine wpAnyH_take (i := 18) (oi := { dst := some 60, op := Go.Op.pick (Go.Operand.tmp 58) (Go.Operand.tmp 59) (Go.Operand.const (Go.Value.bool false)), type := 4, pos := "law.go:119", after := #[{ on := 16, ground := Go.Ground.data }, { on := 17, ground := Go.Ground.data }], guard := none }) (v := ?_) rfl (by kernel_rfl) (by kernel_rfl) (by kernel_rfl) (fun _ _ _ h => h) (Or.inl ⟨by rfl, ?_⟩) (hS_14) ?_
            rotate_left
            · intro wS hSw
              (try dsimp only at hSw)
              go_simp
              (try with_reducible rfl)
            (try simp only [Act.put, List.setIfInBounds_toArray, List.set_cons_zero, List.set_cons_succ])
            refine wpAnyH_take (i := 19) (oi := { dst := some 6, op := Go.Op.assign (Go.Operand.tmp 60), type := 4, pos := "law.go:119", after := #[{ on := 18, ground := Go.Ground.data }, { on := 17, ground := Go.Ground.chain }, { on := 0, ground := Go.Ground.phase }, { on := 1, ground := Go.Ground.phase }, { on := 2, ground := Go.Ground.phase }, { on := 3, ground := Go.Ground.phase }, { on := 4, ground := Go.Ground.phase }, { on := 5, ground := Go.Ground.phase }, { on := 6, ground := Go.Ground.phase }, { on := 7, ground := Go.Ground.phase }, { on := 8, ground := Go.Ground.phase }, { on := 9, ground := Go.Ground.phase }, { on := 10, ground := Go.Ground.phase }, { on := 11, ground := Go.Ground.phase }, { on := 12, ground := Go.Ground.phase }, { on := 13, ground := Go.Ground.phase }, { on := 14, ground := Go.Ground.phase }, { on := 15, ground := Go.Ground.phase }, { on := 16, ground := Go.Ground.phase }, { on := 17, ground := Go.Ground.phase }, { on := 18, ground := Go.Ground.phase }], guard := none }) (v := ?_) rfl (by kernel_rfl) (by kernel_rfl) (by kernel_rfl) (fun _ _ _ h => h) (Or.inl ⟨by rfl, ?_⟩) (hS_14) ?_
            rotate_left
            · intro wS hSw
              (try dsimp only at hSw)
              go_simp
              (try with_reducible rfl)
            (try simp only [Act.put, List.setIfInBounds_toArray, List.set_cons_zero, List.set_cons_succ])
            refine wpAnyH_done (by kernel_rfl) ?_ _
            go_wp2_with fail
            go_ret
            exact ⟨rfl, HBO.out _ hS_14⟩
end Go.Proofs.YtmabhjifldafaaaDoor
