/- ChainGoes walked. -/
import Derived.Test.YtmabhjifldafaaaDoorCh8
namespace Go.Proofs.YtmabhjifldafaaaDoor
set_option linter.unusedVariables false
set_option linter.unusedSimpArgs false
open Go.RowKit

set_option maxRecDepth 100000 in
set_option maxHeartbeats 1000000 in
theorem cgoes_any (oa : Option Addr) (n cn : Nat) (K : Nat → Nat) (op : Option Addr) (q cq : Nat) (L : Nat → Nat) (G : Nat → Nat → Nat) (w : World) (hK : Bytes w oa n K) (hnc : n ≤ cn) (hcn : cn ≤ maxLen) (hno : oa = none → n = 0) (hL : LBs w op q L G) (hqc : q ≤ cq) (hcq : cq ≤ maxLen) (hg : CG w) :
    Calls Tryd.prog 6 #[.slice oa n cn, .slice op q cq] w fun e w' => e = .returned (.bool true) ∧ Below w.heap.size w w' := by
  have hz1 := zero_h1
  have HW : Hid (CG w ∧ Below w.heap.size w w) := Lib.hid ⟨hg, Below.refl _ _⟩
  have HKB : Hid (∀ w', Below w.heap.size w w' → Bytes w' oa n K) := Lib.hid fun w' h => hK.later h
  have HLB : Hid (∀ w', Below w.heap.size w w' → LBs w' op q L G) := Lib.hid fun w' h => hL.later h
  have HLX : Hid (LBs w op q L G ∧ (op = none → q = 0)) := Lib.hid ⟨hL, fun e => by
    rcases Nat.eq_zero_or_pos q with h0 | h0
    · exact h0
    · obtain ⟨b, off, od, cp, e2, _⟩ := hL 0 h0
      rw [e] at e2; cases e2⟩
  have HMB : Hid (∀ w', Below w.heap.size w w' → Bytes w' none 0 (fun _ => 0)) := Lib.hid fun w' h k hk => absurd hk (Nat.not_lt_zero _)
  have HML : Hid (∀ a, (none : Option Addr) = some a → 0 < 0 → a.block < w.heap.size) := Lib.hid fun a h => by cases h
  have hnn : (none : Option Addr) = none → 0 = 0 := fun _ => rfl
  have HNM : Hid (n ≤ cn ∧ cn ≤ maxLen ∧ (oa = none → n = 0) ∧ q ≤ cq ∧ cq ≤ maxLen) := Lib.hid ⟨hnc, hcn, hno, hqc, hcq⟩
  have n0 : (n : Int) ≤ 9223372036854775807 := by unfold maxLen at hcn; omega
  have n1 : (q : Int) ≤ 9223372036854775807 := by unfold maxLen at hcq; omega
  have n3 : (q : Int) ≤ (cq : Int) := by omega
  have hqm : q ≤ maxLen := Nat.le_trans hqc hcq
  have HIZ : Hid ((Tryd.prog.info? 65).map (·.size) = some zeroH.size) := Lib.hid (by rw [zeroH_size]; exact info_h1)
  clear hK hnc hcn hno hL hqc hcq hg hnn
  have hcs : (200 : Int) < (n : Int) ∨ ¬ (200 : Int) < (n : Int) := by omega
  rcases hcs with g1 | g1
  · go_enter Tryd.func6, Tryd.ntmps6
    go_wp2_with fail
    refine (chain_sure w HW.out.1).mono ?_
    rintro e we ⟨rfl, hbe⟩
    have HO := Lib.hid (HW.out.2.trans (hbe.mono HW.out.2.size))
    clear hbe
    go_wp2_with fail
    go_ret
    exact ⟨rfl, HO.out⟩
  · go_enter Tryd.func6, Tryd.ntmps6
    go_wp2_with fail
    refine (big_any34 op q cq L G w HLX.out.1 hqm).mono ?_
    rintro e w1 ⟨hb1, hr1⟩
    have H1 : Hid (CG w1 ∧ Below w.heap.size w w1) := Lib.hid ⟨HW.out.1.later hb1, hb1⟩
    have HN2 : Hid (n ≤ 200) := Lib.hid (by omega)
    clear hb1 hqm
    have hr1 : e = .returned (.bool true) ∨ (e = .returned (.bool false) ∧ 12 < q) ∨ (e = .returned (.bool false) ∧ q ≤ 12 ∧ ∀ i, i < q → L i ≤ 3000) := by
      rcases hr1 with h | ⟨h1, h2, h3⟩
      · exact .inl h
      · by_cases h : 12 < q
        · exact .inr (.inl ⟨h1, h⟩)
        · exact .inr (.inr ⟨h1, by omega, h3⟩)
    rcases hr1 with rfl | ⟨rfl, h12⟩ | ⟨rfl, h12, hl3⟩
    · skip
      go_wp2_with fail
      refine (chain_sure w1 H1.out.1).mono ?_
      rintro e we ⟨rfl, hbe⟩
      have HO := Lib.hid (H1.out.2.trans (hbe.mono H1.out.2.size))
      clear hbe
      go_wp2_with fail
      go_ret
      exact ⟨rfl, HO.out⟩
    · have g2 : (12 : Int) < (q : Int) := by omega
      go_wp2_with fail
      refine (chain_sure w1 H1.out.1).mono ?_
      rintro e we ⟨rfl, hbe⟩
      have HO := Lib.hid (H1.out.2.trans (hbe.mono H1.out.2.size))
      clear hbe
      go_wp2_with fail
      go_ret
      exact ⟨rfl, HO.out⟩
    · have g2 : ¬ (12 : Int) < (q : Int) := by omega
      have HQ : Hid (q ≤ 12 ∧ 0 ≤ 300 ∧ ∀ i, i < q → L i ≤ 3000) := Lib.hid ⟨h12, by omega, hl3⟩
      clear hl3 h12
      have hl5 := laidHd w1 zeroH zeroH 65 rfl
      obtain ⟨w3, hn5⟩ : ∃ x, (w1.alloc (.cells zeroH 65)).setCells w1.heap.size 0 zeroH.toList = x := ⟨_, rfl⟩
      rw [hn5] at hl5
      have HTH5 := Lib.hid hl5.2.2
      obtain ⟨g7, hg7⟩ : ∃ x, w1.heap.size = x := ⟨_, rfl⟩
      have H3 : Hid (CG w3 ∧ Below w.heap.size w w3 ∧ Blk w3 g7 (hdL 0 (hs n K L G 0)).toArray 65) := Lib.hid ⟨H1.out.1.later hl5.2.1, H1.out.2.trans (hl5.2.1.mono H1.out.2.size), hg7 ▸ hl5.1⟩
      have HWG : Hid (w.heap.size ≤ g7) := Lib.hid (by rw [← hg7]; exact H1.out.2.size)
      rw [hg7] at HTH5 hn5
      have HG7 := Lib.hid hg7
      clear hl5 H1
      go_wp2_with (first
        | (refine wpList_value rfl (exec_buildM (C := zeroH) rfl rfl build_z1) ?_)
        | ((try rw [HG7.out]); refine wpList_store_mid rfl 65 (.tmp 5) (.tmp 22) rfl g7 0 zeroH rfl rfl HTH5.out HIZ.out zeroH_one ?_; rw [hn5]))
      clear HTH5 hn5 HG7 hg7
      go_loopw [6] (fun x wr => ∃ (i : Nat), i ≤ q ∧ x = .int .i64 (i : Int) ∧ CG wr ∧ Below w.heap.size w wr ∧ Blk wr g7 (hdL i (hs n K L G i)).toArray 65) (fun x _ => q - (intOf x).toNat)
      case atStart => exact ⟨0, Nat.zero_le _, rfl, H3.out⟩
      case round =>
        obtain ⟨i, hi, rfl, hX⟩ := hrel
        have HX := Lib.hid hX
        clear hX
        by_cases hlt : i < q
        · as_aux_lemma =>
          have i1 : (i : Int) < (q : Int) := by omega
          have i0 : (0 : Int) ≤ (i : Int) := by omega
          obtain ⟨b, off, od, cp, rfl, hc, hlc, hbd, hod, _⟩ := HLX.out.1 i hlt
          obtain ⟨m, hm⟩ : ∃ x, L i = x := ⟨_, rfl⟩
          obtain ⟨M, hM⟩ : ∃ x, G i = x := ⟨_, rfl⟩
          obtain ⟨Z, hZ⟩ : ∃ x, hs n K L G i = x := ⟨_, rfl⟩
          obtain ⟨N, hN⟩ : ∃ x, nx n K Z m M = x := ⟨_, rfl⟩
          obtain ⟨j, hj⟩ : ∃ x, i + 1 = x := ⟨_, rfl⟩
          obtain ⟨C, hC⟩ : ∃ C, (hdL i Z).toArray = C := ⟨_, rfl⟩
          obtain ⟨CH, hCH⟩ : ∃ C, (hdL j N).toArray = C := ⟨_, rfl⟩
          rw [hm] at hc hlc hbd hod
          rw [hM] at hbd
          have HC0 : Hid (w.cell? ⟨b, off + i, none⟩ = some (.slice od m cp)) := Lib.hid hc
          have HJ : Hid (i < q ∧ i + 1 = j ∧ m ≤ 3000 ∧ m ≤ cp) := Lib.hid ⟨hlt, hj, by rw [← hm]; exact HQ.out.2.2 i hlt, hlc⟩
          have HMM : Hid (∀ w', Below w.heap.size w w' → Bytes w' od m M) := Lib.hid fun w' h => hbd.later h
          have HMO := Lib.hid hod
          have HCE := Lib.hid hC
          have HCH := Lib.hid hCH
          have HHN : Hid (hs n K L G j = N) := Lib.hid (by rw [← hj, ← hN, ← hm, ← hM, ← hZ]; rfl)
          have HIC : Hid ((Tryd.prog.info? 65).map (·.size) = some C.size) := Lib.hid (by rw [← hC, hd_size]; exact info_h1)
          have HIH : Hid ((Tryd.prog.info? 65).map (·.size) = some CH.size) := Lib.hid (by rw [← hCH, hd_size]; exact info_h1)
          have HIO : Hid (CH.all (·.oneCell') = true) := Lib.hid (by rw [← hCH]; exact hd_one _ _)
          have HISZ : Hid (CH.size = zeroH.size) := Lib.hid (by rw [← hCH, hd_size, zeroH_size])
          have HISC : Hid (CH.size = C.size) := Lib.hid (by rw [← hCH, ← hC, hd_size, hd_size])
          have HTB : Hid (Blk wr g7 C 65) := Lib.hid (by have := HX.out.2.2; rw [hZ, hC] at this; exact this)
          have HNC : Hid (∀ w', CG w' → Below w.heap.size w w' → Calls Tryd.prog 35 #[.slice oa n cn, .agg C, .slice od m cp] w' fun e w'' => e = .returned (.tuple #[.agg CH, .nilIface]) ∧ Below w'.heap.size w' w'') := Lib.hid fun w' h1 h2 => by
            have h64 : ¬ i = 18446744073709551615 := by have := HQ.out.1; omega
            have h := next_any oa n cn K i Z od m cp M w' (HKB.out _ h2) HNM.out.1 HNM.out.2.2.1 (by have := HN2.out; omega) (by have := HQ.out.1; omega) (fun k _ => by rw [← hZ]; exact hs_lt _ _ _ _ _ _) (HMM.out _ h2) HMO.out (by have := HJ.out; omega) h1.2
            rw [show nxN i = j from by rw [← hj]; exact if_neg h64, show nxS n K i Z m M = N from by rw [← hN]; exact if_neg h64, show nxE i = 0 from if_neg h64, HCE.out, HCH.out] at h
            exact h.mono fun e w'' ⟨v, h1, h2, h3⟩ => ⟨by rw [h1, h2.nil rfl], h3⟩
          have HBO : Hid (∀ w', Below wr.heap.size wr w' → Below w.heap.size w w') := Lib.hid fun w' h => HX.out.2.1.trans (h.mono HX.out.2.1.size)
          have q3 : IntKind.i64.wrap ((i : Int) + 1) = (j : Int) := by have := HQ.out.1; rw [IntWalk.i64_in _ (by omega)]; omega
          have q4 : IntKind.i64.wrap (j : Int) = (j : Int) := by have := HQ.out.1; rw [IntWalk.i64_in _ (by omega)]
          have q5 : (j : Int) ≤ (cq : Int) := by omega
          have q6 : (i : Int) ≤ (cq : Int) := by omega
          have q7 : (0 : Int) ≤ (j : Int) := by omega
          have q8 : (i : Int) + 1 = (j : Int) := by omega
          have hS_0 : Below wr.heap.size wr wr.drew := (Below.refl _ _).drew
          clear hlt hi hc hlc hbd hod hm hM hZ hN hj hC hCH
          go_wp2_with fail
          refine wp_region_held_drew (S := (Below wr.heap.size wr)) (by kernel_rfl) ?_ (fun hHeld => ?_)
          · (try dsimp only)
            exact hS_0
          generalize wr.drew = W0 at *
          refine wpAnyH_take (i := 0) (oi := { dst := some 30, op := Go.Op.move (Go.Operand.tmp 0), type := 33, pos := "law.go:99", after := #[], guard := none }) (v := ?_) rfl (by kernel_rfl) (by kernel_rfl) (by kernel_rfl) (fun _ _ _ h => h) (Or.inl ⟨by rfl, ?_⟩) (hS_0) ?_
          rotate_left
          · intro wS hSw
            (try dsimp only at hSw)
            go_simp
            (try with_reducible rfl)
          (try simp only [Act.put, List.setIfInBounds_toArray, List.set_cons_zero, List.set_cons_succ])
          refine wpAnyH_take (i := 1) (oi := { dst := some 31, op := Go.Op.load 65 (Go.Operand.tmp 5), type := 65, pos := "law.go:99", after := #[], guard := none }) (v := ?_) rfl (by kernel_rfl) (by kernel_rfl) (by kernel_rfl) (fun _ _ _ h => h) (Or.inl ⟨by rfl, ?_⟩) (hS_0) ?_
          rotate_left
          · intro wS hSw
            refine exec_loadB (x := .tmp 5) (g := g7) (t := 65) ?_ ?_ (Blk.below HTB.out hSw (Blk.lt HTB.out)) Tryd.underlying65 rfl HIC.out <;> rfl
          (try simp only [Act.put, List.setIfInBounds_toArray, List.set_cons_zero, List.set_cons_succ])
          refine wpAnyH_take (i := 2) (oi := { dst := some 32, op := Go.Op.move (Go.Operand.tmp 1), type := 34, pos := "law.go:99", after := #[], guard := none }) (v := ?_) rfl (by kernel_rfl) (by kernel_rfl) (by kernel_rfl) (fun _ _ _ h => h) (Or.inl ⟨by rfl, ?_⟩) (hS_0) ?_
          rotate_left
          · intro wS hSw
            (try dsimp only at hSw)
            go_simp
            (try with_reducible rfl)
          (try simp only [Act.put, List.setIfInBounds_toArray, List.set_cons_zero, List.set_cons_succ])
          refine wpAnyH_take (i := 3) (oi := { dst := some 33, op := Go.Op.move (Go.Operand.tmp 6), type := 3, pos := "law.go:99", after := #[], guard := none }) (v := ?_) rfl (by kernel_rfl) (by kernel_rfl) (by kernel_rfl) (fun _ _ _ h => h) (Or.inl ⟨by rfl, ?_⟩) (hS_0) ?_
          rotate_left
          · intro wS hSw
            (try dsimp only at hSw)
            go_simp
            (try with_reducible rfl)
          (try simp only [Act.put, List.setIfInBounds_toArray, List.set_cons_zero, List.set_cons_succ])
          refine wpAnyH_take (i := 4) (oi := { dst := some 34, op := Go.Op.indexAddr 34 (Go.Operand.tmp 32) (Go.Operand.tmp 33), type := 0, pos := "law.go:99", after := #[{ on := 2, ground := Go.Ground.data }, { on := 3, ground := Go.Ground.data }], guard := none }) (v := ?_) rfl (by kernel_rfl) (by kernel_rfl) (by kernel_rfl) (fun _ _ _ h => h) (Or.inl ⟨by rfl, ?_⟩) (hS_0) ?_
          rotate_left
          · intro wS hSw
            (try dsimp only at hSw)
            go_simp
            (try with_reducible rfl)
          (try simp only [Act.put, List.setIfInBounds_toArray, List.set_cons_zero, List.set_cons_succ])
          refine wpAnyH_take (i := 5) (oi := { dst := some 35, op := Go.Op.load 33 (Go.Operand.tmp 34), type := 33, pos := "law.go:99", after := #[{ on := 4, ground := Go.Ground.data }], guard := none }) (v := ?_) rfl (by kernel_rfl) (by kernel_rfl) (by kernel_rfl) (fun _ _ _ h => h) (Or.inl ⟨by rfl, ?_⟩) (hS_0) ?_
          rotate_left
          · intro wS hSw
            (have h0 := cell_below (HBO.out _ hSw) HC0.out; go_simp; (try with_reducible rfl))
          (try simp only [Act.put, List.setIfInBounds_toArray, List.set_cons_zero, List.set_cons_succ])
          apply join_lem
          · intro key0
            refine wpAnyH_ready (rs := [6, 10]) (by kernel_rfl) (by simp) ?_
            refine AllReadyH.cons (o := { dst := some 36, op := Go.Op.call { callee := Go.Callee.value (Go.Operand.func 35), args := #[Go.Operand.tmp 30, Go.Operand.tmp 31, Go.Operand.tmp 35], argTypes := #[33, 65, 33] }, type := 66, pos := "law.go:99", after := #[{ on := 0, ground := Go.Ground.data }, { on := 1, ground := Go.Ground.data }, { on := 5, ground := Go.Ground.data }], guard := none }) rfl (fun K hK => ?_) ?_
            · skip
              go_simp
              (refine (HNC.out _ (HX.out.1.later hS_0) (HBO.out _ hS_0)).mono ?_; rintro e v_1 ⟨rfl, hb⟩; have hS_1 := hS_0.trans (hb.mono hS_0.size); (try clear hb); (try clear hQ_0); (try clear hS_0); skip)
              (try go_wp2_with fail)
              refine hK.out _ _ ?_ (fun hHeld => ?_)
              · (try dsimp only)
                exact hS_1
              clear hK K
              (try simp only [Act.put, List.setIfInBounds_toArray, List.set_cons_zero, List.set_cons_succ])
              refine wpAnyH_take (i := 7) (oi := { dst := some 29, op := Go.Op.move (Go.Operand.tmp 36), type := 66, pos := "law.go:99", after := #[{ on := 6, ground := Go.Ground.data }], guard := none }) (v := ?_) rfl (by kernel_rfl) (by kernel_rfl) (by kernel_rfl) (fun _ _ _ h => h) (Or.inl ⟨by rfl, ?_⟩) (hS_1) ?_
              rotate_left
              · intro wS hSw
                (try dsimp only at hSw)
                go_simp
                (try with_reducible rfl)
              (try simp only [Act.put, List.setIfInBounds_toArray, List.set_cons_zero, List.set_cons_succ])
              refine wpAnyH_take (i := 8) (oi := { dst := some 37, op := Go.Op.extract (Go.Operand.tmp 29) 0, type := 65, pos := "law.go:99", after := #[{ on := 7, ground := Go.Ground.data }], guard := none }) (v := ?_) rfl (by kernel_rfl) (by kernel_rfl) (by kernel_rfl) (fun _ _ _ h => h) (Or.inl ⟨by rfl, ?_⟩) (hS_1) ?_
              rotate_left
              · intro wS hSw
                (try dsimp only at hSw)
                go_simp
                (try with_reducible rfl)
              (try simp only [Act.put, List.setIfInBounds_toArray, List.set_cons_zero, List.set_cons_succ])
              refine wpAnyH_take (i := 9) (oi := { dst := some 38, op := Go.Op.extract (Go.Operand.tmp 29) 1, type := 41, pos := "law.go:99", after := #[{ on := 7, ground := Go.Ground.data }, { on := 11, ground := Go.Ground.gcOnly Go.Departure.lateStores }], guard := none }) (v := ?_) rfl (by kernel_rfl) (by kernel_rfl) (by kernel_rfl) (fun _ _ _ h => h) (Or.inl ⟨by rfl, ?_⟩) (hS_1) ?_
              rotate_left
              · intro wS hSw
                (try dsimp only at hSw)
                go_simp
                (try with_reducible rfl)
              (try simp only [Act.put, List.setIfInBounds_toArray, List.set_cons_zero, List.set_cons_succ])
              refine wpAnyH_ready (rs := [10]) (by kernel_rfl) (by simp) ?_
              refine AllReadyH.cons (o := { dst := some 7, op := Go.Op.alloc 65, type := 0, pos := "law.go:99", after := #[], guard := none }) rfl (fun K hK => ?_) AllReadyH.nil
              go_simp
              (obtain ⟨v_2, hy⟩ : ∃ q, v_1.alloc (.cells zeroH 65) = q := ⟨_, rfl⟩; rw [hy]; have hb : Below v_1.heap.size v_1 v_2 := (by rw [← hy]; exact (Below.refl _ _).alloc (Nat.le_refl _) _); have hS_2 := hS_1.trans (hb.mono hS_1.size); have hQ_2 : Blk v_2 v_1.heap.size zeroH 65 := (by rw [← hy]; exact Blk.new _ _ _); have hge := hS_1.size; clear hb hy; (try clear hS_1); obtain ⟨g9, hg9⟩ : ∃ q, v_1.heap.size = q := ⟨_, rfl⟩; rw [hg9] at hQ_2 hge ⊢; clear hg9; skip)
              (try go_wp2_with fail)
              refine hK.out _ _ ?_ (fun hHeld => ?_)
              · (try dsimp only)
                exact hS_2
              clear hK K
              (try simp only [Act.put, List.setIfInBounds_toArray, List.set_cons_zero, List.set_cons_succ])
              refine wpAnyH_ready (rs := [11]) (by kernel_rfl) (by simp) ?_
              refine AllReadyH.cons (o := { dst := none, op := Go.Op.store 65 (Go.Operand.tmp 7) (Go.Operand.tmp 37), type := 0, pos := "law.go:99", after := #[{ on := 10, ground := Go.Ground.data }, { on := 8, ground := Go.Ground.data }, { on := 6, ground := Go.Ground.chain }, { on := 0, ground := Go.Ground.phase }, { on := 1, ground := Go.Ground.phase }, { on := 2, ground := Go.Ground.phase }, { on := 3, ground := Go.Ground.phase }, { on := 4, ground := Go.Ground.phase }, { on := 5, ground := Go.Ground.phase }, { on := 6, ground := Go.Ground.phase }, { on := 7, ground := Go.Ground.phase }, { on := 8, ground := Go.Ground.phase }, { on := 9, ground := Go.Ground.textOnly Go.Departure.lateStores }, { on := 10, ground := Go.Ground.phase }], guard := none }) rfl (fun K hK => ?_) AllReadyH.nil
              (refine step_storeM (by kernel_rfl) 65 (.tmp 7) (.tmp 37) rfl g9 0 CH rfl rfl (Blk.thereAll hQ_2 _ (Nat.le_of_eq HISZ.out)) HIH.out HIO.out ?_; obtain ⟨v_3, hv3⟩ : ∃ q, v_2.setCells g9 0 CH.toList = q := ⟨_, rfl⟩; rw [hv3]; have hS_3 : Below wr.heap.size wr v_3 := (by rw [← hv3]; exact hS_2.trans ((Own.setCells _ 0 _).below hge hS_2.size)); have hF_3 : Blk v_3 g9 CH 65 := (by rw [← hv3]; exact Blk.whole hQ_2 HISZ.out); clear hv3 hQ_2; (try clear hS_2); skip)
              refine hK.out _ _ ?_ (fun hHeld => ?_)
              · (try dsimp only)
                exact hS_3
              clear hK K
              (try simp only [Act.put, List.setIfInBounds_toArray, List.set_cons_zero, List.set_cons_succ])
              refine wpAnyH_take (i := 12) (oi := { dst := some 8, op := Go.Op.assign (Go.Operand.tmp 38), type := 41, pos := "law.go:99", after := #[{ on := 9, ground := Go.Ground.data }, { on := 11, ground := Go.Ground.chain }, { on := 0, ground := Go.Ground.phase }, { on := 1, ground := Go.Ground.phase }, { on := 2, ground := Go.Ground.phase }, { on := 3, ground := Go.Ground.phase }, { on := 4, ground := Go.Ground.phase }, { on := 5, ground := Go.Ground.phase }, { on := 6, ground := Go.Ground.phase }, { on := 7, ground := Go.Ground.phase }, { on := 8, ground := Go.Ground.phase }, { on := 9, ground := Go.Ground.phase }, { on := 10, ground := Go.Ground.phase }, { on := 11, ground := Go.Ground.phase }], guard := none }) (v := ?_) rfl (by kernel_rfl) (by kernel_rfl) (by kernel_rfl) (fun _ _ _ h => h) (Or.inl ⟨by rfl, ?_⟩) (hS_3) ?_
              rotate_left
              · intro wS hSw
                (try dsimp only at hSw)
                go_simp
                (try with_reducible rfl)
              (try simp only [Act.put, List.setIfInBounds_toArray, List.set_cons_zero, List.set_cons_succ])
              (repeat clear hHeld)
              revert hS_3
              revert hF_3
              revert hge
              revert g9
              revert v_3
              exact key0
            refine AllReadyH.cons (o := { dst := some 7, op := Go.Op.alloc 65, type := 0, pos := "law.go:99", after := #[], guard := none }) rfl (fun K hK => ?_) AllReadyH.nil
            go_simp
            (obtain ⟨v_4, hy⟩ : ∃ q, W0.alloc (.cells zeroH 65) = q := ⟨_, rfl⟩; rw [hy]; have hb : Below W0.heap.size W0 v_4 := (by rw [← hy]; exact (Below.refl _ _).alloc (Nat.le_refl _) _); have hS_4 := hS_0.trans (hb.mono hS_0.size); have hQ_4 : Blk v_4 W0.heap.size zeroH 65 := (by rw [← hy]; exact Blk.new _ _ _); have hge := hS_0.size; clear hb hy; (try clear hS_0); obtain ⟨g9, hg9⟩ : ∃ q, W0.heap.size = q := ⟨_, rfl⟩; rw [hg9] at hQ_4 hge ⊢; clear hg9; skip)
            (try go_wp2_with fail)
            refine hK.out _ _ ?_ (fun hHeld => ?_)
            · (try dsimp only)
              exact hS_4
            clear hK K
            (try simp only [Act.put, List.setIfInBounds_toArray, List.set_cons_zero, List.set_cons_succ])
            refine wpAnyH_ready (rs := [6]) (by kernel_rfl) (by simp) ?_
            refine AllReadyH.cons (o := { dst := some 36, op := Go.Op.call { callee := Go.Callee.value (Go.Operand.func 35), args := #[Go.Operand.tmp 30, Go.Operand.tmp 31, Go.Operand.tmp 35], argTypes := #[33, 65, 33] }, type := 66, pos := "law.go:99", after := #[{ on := 0, ground := Go.Ground.data }, { on := 1, ground := Go.Ground.data }, { on := 5, ground := Go.Ground.data }], guard := none }) rfl (fun K hK => ?_) AllReadyH.nil
            go_simp
            (refine (HNC.out _ (HX.out.1.later hS_4) (HBO.out _ hS_4)).mono ?_; rintro e v_5 ⟨rfl, hb⟩; have hS_5 := hS_4.trans (hb.mono hS_4.size); have hQ_5 := Blk.below hQ_4 hb (Blk.lt hQ_4); (try clear hb); (try clear hQ_4); (try clear hS_4); skip)
            (try go_wp2_with fail)
            refine hK.out _ _ ?_ (fun hHeld => ?_)
            · (try dsimp only)
              exact hS_5
            clear hK K
            (try simp only [Act.put, List.setIfInBounds_toArray, List.set_cons_zero, List.set_cons_succ])
            refine wpAnyH_take (i := 7) (oi := { dst := some 29, op := Go.Op.move (Go.Operand.tmp 36), type := 66, pos := "law.go:99", after := #[{ on := 6, ground := Go.Ground.data }], guard := none }) (v := ?_) rfl (by kernel_rfl) (by kernel_rfl) (by kernel_rfl) (fun _ _ _ h => h) (Or.inl ⟨by rfl, ?_⟩) (hS_5) ?_
            rotate_left
            · intro wS hSw
              (try dsimp only at hSw)
              go_simp
              (try with_reducible rfl)
            (try simp only [Act.put, List.setIfInBounds_toArray, List.set_cons_zero, List.set_cons_succ])
            refine wpAnyH_take (i := 8) (oi := { dst := some 37, op := Go.Op.extract (Go.Operand.tmp 29) 0, type := 65, pos := "law.go:99", after := #[{ on := 7, ground := Go.Ground.data }], guard := none }) (v := ?_) rfl (by kernel_rfl) (by kernel_rfl) (by kernel_rfl) (fun _ _ _ h => h) (Or.inl ⟨by rfl, ?_⟩) (hS_5) ?_
            rotate_left
            · intro wS hSw
              (try dsimp only at hSw)
              go_simp
              (try with_reducible rfl)
            (try simp only [Act.put, List.setIfInBounds_toArray, List.set_cons_zero, List.set_cons_succ])
            refine wpAnyH_take (i := 9) (oi := { dst := some 38, op := Go.Op.extract (Go.Operand.tmp 29) 1, type := 41, pos := "law.go:99", after := #[{ on := 7, ground := Go.Ground.data }, { on := 11, ground := Go.Ground.gcOnly Go.Departure.lateStores }], guard := none }) (v := ?_) rfl (by kernel_rfl) (by kernel_rfl) (by kernel_rfl) (fun _ _ _ h => h) (Or.inl ⟨by rfl, ?_⟩) (hS_5) ?_
            rotate_left
            · intro wS hSw
              (try dsimp only at hSw)
              go_simp
              (try with_reducible rfl)
            (try simp only [Act.put, List.setIfInBounds_toArray, List.set_cons_zero, List.set_cons_succ])
            refine wpAnyH_ready (rs := [11]) (by kernel_rfl) (by simp) ?_
            refine AllReadyH.cons (o := { dst := none, op := Go.Op.store 65 (Go.Operand.tmp 7) (Go.Operand.tmp 37), type := 0, pos := "law.go:99", after := #[{ on := 10, ground := Go.Ground.data }, { on := 8, ground := Go.Ground.data }, { on := 6, ground := Go.Ground.chain }, { on := 0, ground := Go.Ground.phase }, { on := 1, ground := Go.Ground.phase }, { on := 2, ground := Go.Ground.phase }, { on := 3, ground := Go.Ground.phase }, { on := 4, ground := Go.Ground.phase }, { on := 5, ground := Go.Ground.phase }, { on := 6, ground := Go.Ground.phase }, { on := 7, ground := Go.Ground.phase }, { on := 8, ground := Go.Ground.phase }, { on := 9, ground := Go.Ground.textOnly Go.Departure.lateStores }, { on := 10, ground := Go.Ground.phase }], guard := none }) rfl (fun K hK => ?_) AllReadyH.nil
            (refine step_storeM (by kernel_rfl) 65 (.tmp 7) (.tmp 37) rfl g9 0 CH rfl rfl (Blk.thereAll hQ_5 _ (Nat.le_of_eq HISZ.out)) HIH.out HIO.out ?_; obtain ⟨v_6, hv3⟩ : ∃ q, v_5.setCells g9 0 CH.toList = q := ⟨_, rfl⟩; rw [hv3]; have hS_6 : Below wr.heap.size wr v_6 := (by rw [← hv3]; exact hS_5.trans ((Own.setCells _ 0 _).below hge hS_5.size)); have hF_6 : Blk v_6 g9 CH 65 := (by rw [← hv3]; exact Blk.whole hQ_5 HISZ.out); clear hv3 hQ_5; (try clear hS_5); skip)
            refine hK.out _ _ ?_ (fun hHeld => ?_)
            · (try dsimp only)
              exact hS_6
            clear hK K
            (try simp only [Act.put, List.setIfInBounds_toArray, List.set_cons_zero, List.set_cons_succ])
            refine wpAnyH_take (i := 12) (oi := { dst := some 8, op := Go.Op.assign (Go.Operand.tmp 38), type := 41, pos := "law.go:99", after := #[{ on := 9, ground := Go.Ground.data }, { on := 11, ground := Go.Ground.chain }, { on := 0, ground := Go.Ground.phase }, { on := 1, ground := Go.Ground.phase }, { on := 2, ground := Go.Ground.phase }, { on := 3, ground := Go.Ground.phase }, { on := 4, ground := Go.Ground.phase }, { on := 5, ground := Go.Ground.phase }, { on := 6, ground := Go.Ground.phase }, { on := 7, ground := Go.Ground.phase }, { on := 8, ground := Go.Ground.phase }, { on := 9, ground := Go.Ground.phase }, { on := 10, ground := Go.Ground.phase }, { on := 11, ground := Go.Ground.phase }], guard := none }) (v := ?_) rfl (by kernel_rfl) (by kernel_rfl) (by kernel_rfl) (fun _ _ _ h => h) (Or.inl ⟨by rfl, ?_⟩) (hS_6) ?_
            rotate_left
            · intro wS hSw
              (try dsimp only at hSw)
              go_simp
              (try with_reducible rfl)
            (try simp only [Act.put, List.setIfInBounds_toArray, List.set_cons_zero, List.set_cons_succ])
            (repeat clear hHeld)
            revert hS_6
            revert hF_6
            revert hge
            revert g9
            revert v_6
            exact key0
          · intro W_J0 g9 hge hF_J0 hS_J0
            refine wpAnyH_done (by kernel_rfl) ?_ _
            have H5 : Hid (CG W_J0 ∧ Below w.heap.size w W_J0 ∧ Blk W_J0 g7 C 65 ∧ Blk W_J0 g9 CH 65 ∧ g7 < g9) := Lib.hid ⟨HX.out.1.later hS_J0, HBO.out _ hS_J0, Blk.below HTB.out hS_J0 (Blk.lt HTB.out), hF_J0, Nat.lt_of_lt_of_le (Blk.lt HTB.out) hge⟩
            clear hS_J0 hF_J0 hge
            have HB5 : Hid (∀ w', Below W_J0.heap.size W_J0 w' → Below w.heap.size w w') := Lib.hid fun w' h => H5.out.2.1.trans (h.mono H5.out.2.1.size)
            have HOF : Hid (∀ w', Below W_J0.heap.size W_J0 w' → Calls Tryd.prog 36 #[.slice oa n cn, .slice (some ⟨b, off, none⟩) j cq] w' fun e w'' => e = .returned (.agg CH) ∧ Below w'.heap.size w' w'') := Lib.hid fun w' h => by
              have h9 := of_any oa n cn K (some ⟨b, off, none⟩) j cq L G w' (HKB.out _ (HB5.out _ h)) HNM.out.1 HNM.out.2.2.1 (by have := HN2.out; omega) ((HLB.out _ (HB5.out _ h)).mono (by have := HJ.out; omega)) (by have := HQ.out.1; have := HJ.out; omega) (fun i hi => by have := HQ.out.2.2 i (by have := HJ.out; omega); omega) ((H5.out.1.later h).2)
              rw [HHN.out, HCH.out] at h9; exact h9
            have HV1 : Hid (∀ w', Below W_J0.heap.size W_J0 w' → Calls Tryd.prog 37 #[.slice oa n cn, .slice (some ⟨b, off, none⟩) j cq, .agg CH] w' fun e w'' => e = .returned (.bool true) ∧ Below w'.heap.size w' w'') := Lib.hid fun w' h => by
              have h9 := verify_any oa n cn K (some ⟨b, off, none⟩) j cq L G j N w' (HKB.out _ (HB5.out _ h)) HNM.out.1 HNM.out.2.2.1 (by have := HN2.out; omega) ((HLB.out _ (HB5.out _ h)).mono (by have := HJ.out; omega)) (by have := HQ.out.1; have := HJ.out; omega) (fun i hi => by have := HQ.out.2.2 i (by have := HJ.out; omega); omega) ((H5.out.1.later h).2)
              rw [HHN.out, HCH.out, eqS_refl, show (decide (j = j) && true) = true from by simp] at h9; exact h9
            have HV2 : Hid (∀ w', Below W_J0.heap.size W_J0 w' → Calls Tryd.prog 37 #[.slice oa n cn, .slice (some ⟨b, off, none⟩) i cq, .agg CH] w' fun e w'' => e = .returned (.bool false) ∧ Below w'.heap.size w' w'') := Lib.hid fun w' h => by
              have h9 := verify_any oa n cn K (some ⟨b, off, none⟩) i cq L G j N w' (HKB.out _ (HB5.out _ h)) HNM.out.1 HNM.out.2.2.1 (by have := HN2.out; omega) ((HLB.out _ (HB5.out _ h)).mono (by have := HJ.out; omega)) (by have := HQ.out.1; have := HJ.out; omega) (fun t ht => by have := HQ.out.2.2 t (by have := HJ.out; omega); omega) ((H5.out.1.later h).2)
              rw [HCH.out, show decide (i = j) = false from decide_eq_false (by have := HJ.out; omega), Bool.false_and] at h9; exact h9
            have HEQ : Hid (∀ w, (Op.equalIn 10000 65 (.agg CH) (.agg CH)).run Tryd.prog w = .ok true w) := Lib.hid fun w => by rw [← HCH.out]; have := eq_h1 j j N N w; rw [eqS_refl] at this; simpa using this
            have HCJ : Hid (W_J0.cell? ⟨g9, 0, none⟩ = some (.int .u64 (j : Int))) := Lib.hid (hd_cell0 (n := j) (S := N) (by rw [HCH.out]; exact H5.out.2.2.2.1))
            have HK64 : Hid (IntKind.i64.wrap (j : Int) = (j : Int)) := Lib.hid q4
            have hS_0 : Below W_J0.heap.size W_J0 W_J0.drew := (Below.refl _ _).drew
            go_wp2_with fail
            refine wp_region_held_drew (S := (Below W_J0.heap.size W_J0)) (by kernel_rfl) ?_ (fun hHeld => ?_)
            · (try dsimp only)
              exact hS_0
            generalize W_J0.drew = W1 at *
            refine wpAnyH_take (i := 0) (oi := { dst := some 39, op := Go.Op.move (Go.Operand.tmp 8), type := 41, pos := "law.go:100", after := #[], guard := none }) (v := ?_) rfl (by kernel_rfl) (by kernel_rfl) (by kernel_rfl) (fun _ _ _ h => h) (Or.inl ⟨by rfl, ?_⟩) (hS_0) ?_
            rotate_left
            · intro wS hSw
              (try dsimp only at hSw)
              go_simp
              (try with_reducible rfl)
            (try simp only [Act.put, List.setIfInBounds_toArray, List.set_cons_zero, List.set_cons_succ])
            refine wpAnyH_take (i := 1) (oi := { dst := some 40, op := Go.Op.binOp Go.BinOp.neq 41 (Go.Operand.tmp 39) (Go.Operand.const Go.Value.nilIface) 41, type := 4, pos := "law.go:100", after := #[{ on := 0, ground := Go.Ground.data }], guard := none }) (v := ?_) rfl (by kernel_rfl) (by kernel_rfl) (by kernel_rfl) (fun _ _ _ h => h) (Or.inl ⟨by rfl, ?_⟩) (hS_0) ?_
            rotate_left
            · intro wS hSw
              (try dsimp only at hSw)
              go_simp
              (try with_reducible rfl)
            (try simp only [Act.put, List.setIfInBounds_toArray, List.set_cons_zero, List.set_cons_succ])
            refine wpAnyH_take (i := 2) (oi := { dst := some 41, op := Go.Op.move (Go.Operand.tmp 40), type := 4, pos := "law.go:100", after := #[{ on := 1, ground := Go.Ground.data }], guard := none }) (v := ?_) rfl (by kernel_rfl) (by kernel_rfl) (by kernel_rfl) (fun _ _ _ h => h) (Or.inl ⟨by rfl, ?_⟩) (hS_0) ?_
            rotate_left
            · intro wS hSw
              (try dsimp only at hSw)
              go_simp
              (try with_reducible rfl)
            (try simp only [Act.put, List.setIfInBounds_toArray, List.set_cons_zero, List.set_cons_succ])
            refine wpAnyH_take (i := 3) (oi := { dst := some 42, op := Go.Op.load 65 (Go.Operand.tmp 7), type := 65, pos := "law.go:100", after := #[{ on := 2, ground := Go.Ground.guard }], guard := some (2, false) }) (v := ?_) rfl (by kernel_rfl) (by kernel_rfl) (by kernel_rfl) (fun _ _ _ h => h) (Or.inl ⟨by rfl, ?_⟩) (hS_0) ?_
            rotate_left
            · intro wS hSw
              refine exec_loadB (x := .tmp 7) (g := g9) (t := 65) ?_ ?_ (Blk.below H5.out.2.2.2.1 hSw (Blk.lt H5.out.2.2.2.1)) Tryd.underlying65 rfl HIH.out <;> rfl
            (try simp only [Act.put, List.setIfInBounds_toArray, List.set_cons_zero, List.set_cons_succ])
            refine wpAnyH_take (i := 4) (oi := { dst := some 43, op := Go.Op.move (Go.Operand.tmp 0), type := 33, pos := "law.go:100", after := #[{ on := 2, ground := Go.Ground.guard }], guard := some (2, false) }) (v := ?_) rfl (by kernel_rfl) (by kernel_rfl) (by kernel_rfl) (fun _ _ _ h => h) (Or.inl ⟨by rfl, ?_⟩) (hS_0) ?_
            rotate_left
            · intro wS hSw
              (try dsimp only at hSw)
              go_simp
              (try with_reducible rfl)
            (try simp only [Act.put, List.setIfInBounds_toArray, List.set_cons_zero, List.set_cons_succ])
            refine wpAnyH_take (i := 5) (oi := { dst := some 44, op := Go.Op.move (Go.Operand.tmp 1), type := 34, pos := "law.go:100", after := #[{ on := 2, ground := Go.Ground.guard }], guard := some (2, false) }) (v := ?_) rfl (by kernel_rfl) (by kernel_rfl) (by kernel_rfl) (fun _ _ _ h => h) (Or.inl ⟨by rfl, ?_⟩) (hS_0) ?_
            rotate_left
            · intro wS hSw
              (try dsimp only at hSw)
              go_simp
              (try with_reducible rfl)
            (try simp only [Act.put, List.setIfInBounds_toArray, List.set_cons_zero, List.set_cons_succ])
            refine wpAnyH_take (i := 6) (oi := { dst := some 45, op := Go.Op.move (Go.Operand.tmp 6), type := 3, pos := "law.go:100", after := #[{ on := 2, ground := Go.Ground.guard }], guard := some (2, false) }) (v := ?_) rfl (by kernel_rfl) (by kernel_rfl) (by kernel_rfl) (fun _ _ _ h => h) (Or.inl ⟨by rfl, ?_⟩) (hS_0) ?_
            rotate_left
            · intro wS hSw
              (try dsimp only at hSw)
              go_simp
              (try with_reducible rfl)
            (try simp only [Act.put, List.setIfInBounds_toArray, List.set_cons_zero, List.set_cons_succ])
            refine wpAnyH_take (i := 7) (oi := { dst := some 46, op := Go.Op.binOp Go.BinOp.add 3 (Go.Operand.tmp 45) (Go.Operand.const (Go.Value.int Go.IntKind.i64 1)) 3, type := 3, pos := "law.go:100", after := #[{ on := 6, ground := Go.Ground.data }, { on := 2, ground := Go.Ground.guard }], guard := some (2, false) }) (v := ?_) rfl (by kernel_rfl) (by kernel_rfl) (by kernel_rfl) (fun _ _ _ h => h) (Or.inl ⟨by rfl, ?_⟩) (hS_0) ?_
            rotate_left
            · intro wS hSw
              (try dsimp only at hSw)
              go_simp
              (try with_reducible rfl)
            (try simp only [Act.put, List.setIfInBounds_toArray, List.set_cons_zero, List.set_cons_succ])
            refine wpAnyH_take (i := 8) (oi := { dst := some 47, op := Go.Op.slice 34 (Go.Operand.tmp 44) none (some (Go.Operand.tmp 46)) none, type := 34, pos := "law.go:100", after := #[{ on := 5, ground := Go.Ground.data }, { on := 7, ground := Go.Ground.data }, { on := 2, ground := Go.Ground.guard }], guard := some (2, false) }) (v := ?_) rfl (by kernel_rfl) (by kernel_rfl) (by kernel_rfl) (fun _ _ _ h => h) (Or.inl ⟨by rfl, ?_⟩) (hS_0) ?_
            rotate_left
            · intro wS hSw
              (try dsimp only at hSw)
              go_simp
              (try with_reducible rfl)
            (try simp only [Act.put, List.setIfInBounds_toArray, List.set_cons_zero, List.set_cons_succ])
            refine wpAnyH_ready (rs := [9]) (by kernel_rfl) (by simp) ?_
            refine AllReadyH.cons (o := { dst := some 48, op := Go.Op.call { callee := Go.Callee.value (Go.Operand.func 36), args := #[Go.Operand.tmp 43, Go.Operand.tmp 47], argTypes := #[33, 34] }, type := 65, pos := "law.go:100", after := #[{ on := 4, ground := Go.Ground.data }, { on := 8, ground := Go.Ground.data }, { on := 2, ground := Go.Ground.chain }, { on := 2, ground := Go.Ground.guard }], guard := some (2, false) }) rfl (fun K hK => ?_) AllReadyH.nil
            go_simp
            (refine (HOF.out _ hS_0).mono ?_; rintro e v_1b ⟨rfl, hb⟩; have hS_1 := hS_0.trans (hb.mono hS_0.size); clear hb hS_0; skip)
            (try go_wp2_with fail)
            refine hK.out _ _ ?_ (fun hHeld => ?_)
            · (try dsimp only)
              exact hS_1
            clear hK K
            (try simp only [Act.put, List.setIfInBounds_toArray, List.set_cons_zero, List.set_cons_succ])
            refine wpAnyH_take (i := 10) (oi := { dst := some 49, op := Go.Op.binOp Go.BinOp.neq 65 (Go.Operand.tmp 42) (Go.Operand.tmp 48) 65, type := 4, pos := "law.go:100", after := #[{ on := 3, ground := Go.Ground.data }, { on := 9, ground := Go.Ground.data }, { on := 2, ground := Go.Ground.guard }], guard := some (2, false) }) (v := ?_) rfl (by kernel_rfl) (by kernel_rfl) (by kernel_rfl) (fun _ _ _ h => h) (Or.inl ⟨by rfl, ?_⟩) (hS_1) ?_
            rotate_left
            · intro wS hSw
              refine exec_neqM (r := 65) (x := .tmp 42) (y := .tmp 48) guard_h1 ?_ ?_ ?_ HEQ.out <;> rfl
            (try simp only [Act.put, List.setIfInBounds_toArray, List.set_cons_zero, List.set_cons_succ])
            refine wpAnyH_take (i := 11) (oi := { dst := some 50, op := Go.Op.pick (Go.Operand.tmp 41) (Go.Operand.const (Go.Value.bool true)) (Go.Operand.tmp 49), type := 4, pos := "law.go:100", after := #[{ on := 2, ground := Go.Ground.data }, { on := 10, ground := Go.Ground.data }], guard := none }) (v := ?_) rfl (by kernel_rfl) (by kernel_rfl) (by kernel_rfl) (fun _ _ _ h => h) (Or.inl ⟨by rfl, ?_⟩) (hS_1) ?_
            rotate_left
            · intro wS hSw
              (try dsimp only at hSw)
              go_simp
              (try with_reducible rfl)
            (try simp only [Act.put, List.setIfInBounds_toArray, List.set_cons_zero, List.set_cons_succ])
            refine wpAnyH_take (i := 12) (oi := { dst := some 51, op := Go.Op.move (Go.Operand.tmp 50), type := 4, pos := "law.go:100", after := #[{ on := 11, ground := Go.Ground.data }, { on := 9, ground := Go.Ground.chain }], guard := none }) (v := ?_) rfl (by kernel_rfl) (by kernel_rfl) (by kernel_rfl) (fun _ _ _ h => h) (Or.inl ⟨by rfl, ?_⟩) (hS_1) ?_
            rotate_left
            · intro wS hSw
              (try dsimp only at hSw)
              go_simp
              (try with_reducible rfl)
            (try simp only [Act.put, List.setIfInBounds_toArray, List.set_cons_zero, List.set_cons_succ])
            refine wpAnyH_take (i := 13) (oi := { dst := some 52, op := Go.Op.fieldAddr 65 (Go.Operand.tmp 7) 0, type := 0, pos := "law.go:100", after := #[{ on := 12, ground := Go.Ground.guard }], guard := some (12, false) }) (v := ?_) rfl (by kernel_rfl) (by kernel_rfl) (by kernel_rfl) (fun _ _ _ h => h) (Or.inl ⟨by rfl, ?_⟩) (hS_1) ?_
            rotate_left
            · intro wS hSw
              (try dsimp only at hSw)
              go_simp
              (try with_reducible rfl)
            (try simp only [Act.put, List.setIfInBounds_toArray, List.set_cons_zero, List.set_cons_succ])
            refine wpAnyH_take (i := 14) (oi := { dst := some 53, op := Go.Op.load 62 (Go.Operand.tmp 52), type := 62, pos := "law.go:100", after := #[{ on := 13, ground := Go.Ground.data }, { on := 12, ground := Go.Ground.guard }], guard := some (12, false) }) (v := ?_) rfl (by kernel_rfl) (by kernel_rfl) (by kernel_rfl) (fun _ _ _ h => h) (Or.inl ⟨by rfl, ?_⟩) (hS_1) ?_
            rotate_left
            · intro wS hSw
              (have h0 := cell_below hSw HCJ.out; have h9 := HK64.out; go_simp; (try with_reducible rfl))
            (try simp only [Act.put, List.setIfInBounds_toArray, List.set_cons_zero, List.set_cons_succ])
            refine wpAnyH_take (i := 15) (oi := { dst := some 54, op := Go.Op.convert 62 3 (Go.Operand.tmp 53), type := 3, pos := "law.go:100", after := #[{ on := 14, ground := Go.Ground.data }, { on := 12, ground := Go.Ground.guard }], guard := some (12, false) }) (v := ?_) rfl (by kernel_rfl) (by kernel_rfl) (by kernel_rfl) (fun _ _ _ h => h) (Or.inl ⟨by rfl, ?_⟩) (hS_1) ?_
            rotate_left
            · intro wS hSw
              (try dsimp only at hSw)
              go_simp
              (try with_reducible rfl)
            (try simp only [Act.put, List.setIfInBounds_toArray, List.set_cons_zero, List.set_cons_succ])
            refine wpAnyH_take (i := 16) (oi := { dst := some 55, op := Go.Op.move (Go.Operand.tmp 6), type := 3, pos := "law.go:100", after := #[{ on := 12, ground := Go.Ground.guard }], guard := some (12, false) }) (v := ?_) rfl (by kernel_rfl) (by kernel_rfl) (by kernel_rfl) (fun _ _ _ h => h) (Or.inl ⟨by rfl, ?_⟩) (hS_1) ?_
            rotate_left
            · intro wS hSw
              (try dsimp only at hSw)
              go_simp
              (try with_reducible rfl)
            (try simp only [Act.put, List.setIfInBounds_toArray, List.set_cons_zero, List.set_cons_succ])
            refine wpAnyH_take (i := 17) (oi := { dst := some 56, op := Go.Op.binOp Go.BinOp.add 3 (Go.Operand.tmp 55) (Go.Operand.const (Go.Value.int Go.IntKind.i64 1)) 3, type := 3, pos := "law.go:100", after := #[{ on := 16, ground := Go.Ground.data }, { on := 12, ground := Go.Ground.guard }], guard := some (12, false) }) (v := ?_) rfl (by kernel_rfl) (by kernel_rfl) (by kernel_rfl) (fun _ _ _ h => h) (Or.inl ⟨by rfl, ?_⟩) (hS_1) ?_
            rotate_left
            · intro wS hSw
              (try dsimp only at hSw)
              go_simp
              (try with_reducible rfl)
            (try simp only [Act.put, List.setIfInBounds_toArray, List.set_cons_zero, List.set_cons_succ])
            refine wpAnyH_take (i := 18) (oi := { dst := some 57, op := Go.Op.binOp Go.BinOp.neq 3 (Go.Operand.tmp 54) (Go.Operand.tmp 56) 3, type := 4, pos := "law.go:100", after := #[{ on := 15, ground := Go.Ground.data }, { on := 17, ground := Go.Ground.data }, { on := 12, ground := Go.Ground.guard }], guard := some (12, false) }) (v := ?_) rfl (by kernel_rfl) (by kernel_rfl) (by kernel_rfl) (fun _ _ _ h => h) (Or.inl ⟨by rfl, ?_⟩) (hS_1) ?_
            rotate_left
            · intro wS hSw
              (try dsimp only at hSw)
              go_simp
              (try with_reducible rfl)
            (try simp only [Act.put, List.setIfInBounds_toArray, List.set_cons_zero, List.set_cons_succ])
            refine wpAnyH_take (i := 19) (oi := { dst := some 58, op := Go.Op.pick (Go.Operand.tmp 51) (Go.Operand.const (Go.Value.bool true)) (Go.Operand.tmp 57), type := 4, pos := "law.go:100", after := #[{ on := 12, ground := Go.Ground.data }, { on := 18, ground := Go.Ground.data }], guard := none }) (v := ?_) rfl (by kernel_rfl) (by kernel_rfl) (by kernel_rfl) (fun _ _ _ h => h) (Or.inl ⟨by rfl, ?_⟩) (hS_1) ?_
            rotate_left
            · intro wS hSw
              (try dsimp only at hSw)
              go_simp
              (try with_reducible rfl)
            (try simp only [Act.put, List.setIfInBounds_toArray, List.set_cons_zero, List.set_cons_succ])
            refine wpAnyH_take (i := 20) (oi := { dst := some 59, op := Go.Op.move (Go.Operand.tmp 58), type := 4, pos := "law.go:100", after := #[{ on := 19, ground := Go.Ground.data }, { on := 12, ground := Go.Ground.chain }], guard := none }) (v := ?_) rfl (by kernel_rfl) (by kernel_rfl) (by kernel_rfl) (fun _ _ _ h => h) (Or.inl ⟨by rfl, ?_⟩) (hS_1) ?_
            rotate_left
            · intro wS hSw
              (try dsimp only at hSw)
              go_simp
              (try with_reducible rfl)
            (try simp only [Act.put, List.setIfInBounds_toArray, List.set_cons_zero, List.set_cons_succ])
            refine wpAnyH_take (i := 21) (oi := { dst := some 60, op := Go.Op.move (Go.Operand.tmp 0), type := 33, pos := "law.go:100", after := #[{ on := 20, ground := Go.Ground.guard }], guard := some (20, false) }) (v := ?_) rfl (by kernel_rfl) (by kernel_rfl) (by kernel_rfl) (fun _ _ _ h => h) (Or.inl ⟨by rfl, ?_⟩) (hS_1) ?_
            rotate_left
            · intro wS hSw
              (try dsimp only at hSw)
              go_simp
              (try with_reducible rfl)
            (try simp only [Act.put, List.setIfInBounds_toArray, List.set_cons_zero, List.set_cons_succ])
            refine wpAnyH_take (i := 22) (oi := { dst := some 61, op := Go.Op.move (Go.Operand.tmp 1), type := 34, pos := "law.go:100", after := #[{ on := 20, ground := Go.Ground.guard }], guard := some (20, false) }) (v := ?_) rfl (by kernel_rfl) (by kernel_rfl) (by kernel_rfl) (fun _ _ _ h => h) (Or.inl ⟨by rfl, ?_⟩) (hS_1) ?_
            rotate_left
            · intro wS hSw
              (try dsimp only at hSw)
              go_simp
              (try with_reducible rfl)
            (try simp only [Act.put, List.setIfInBounds_toArray, List.set_cons_zero, List.set_cons_succ])
            refine wpAnyH_take (i := 23) (oi := { dst := some 62, op := Go.Op.move (Go.Operand.tmp 6), type := 3, pos := "law.go:100", after := #[{ on := 20, ground := Go.Ground.guard }], guard := some (20, false) }) (v := ?_) rfl (by kernel_rfl) (by kernel_rfl) (by kernel_rfl) (fun _ _ _ h => h) (Or.inl ⟨by rfl, ?_⟩) (hS_1) ?_
            rotate_left
            · intro wS hSw
              (try dsimp only at hSw)
              go_simp
              (try with_reducible rfl)
            (try simp only [Act.put, List.setIfInBounds_toArray, List.set_cons_zero, List.set_cons_succ])
            refine wpAnyH_take (i := 24) (oi := { dst := some 63, op := Go.Op.binOp Go.BinOp.add 3 (Go.Operand.tmp 62) (Go.Operand.const (Go.Value.int Go.IntKind.i64 1)) 3, type := 3, pos := "law.go:100", after := #[{ on := 23, ground := Go.Ground.data }, { on := 20, ground := Go.Ground.guard }], guard := some (20, false) }) (v := ?_) rfl (by kernel_rfl) (by kernel_rfl) (by kernel_rfl) (fun _ _ _ h => h) (Or.inl ⟨by rfl, ?_⟩) (hS_1) ?_
            rotate_left
            · intro wS hSw
              (try dsimp only at hSw)
              go_simp
              (try with_reducible rfl)
            (try simp only [Act.put, List.setIfInBounds_toArray, List.set_cons_zero, List.set_cons_succ])
            refine wpAnyH_take (i := 25) (oi := { dst := some 64, op := Go.Op.slice 34 (Go.Operand.tmp 61) none (some (Go.Operand.tmp 63)) none, type := 34, pos := "law.go:100", after := #[{ on := 22, ground := Go.Ground.data }, { on := 24, ground := Go.Ground.data }, { on := 20, ground := Go.Ground.guard }], guard := some (20, false) }) (v := ?_) rfl (by kernel_rfl) (by kernel_rfl) (by kernel_rfl) (fun _ _ _ h => h) (Or.inl ⟨by rfl, ?_⟩) (hS_1) ?_
            rotate_left
            · intro wS hSw
              (try dsimp only at hSw)
              go_simp
              (try with_reducible rfl)
            (try simp only [Act.put, List.setIfInBounds_toArray, List.set_cons_zero, List.set_cons_succ])
            refine wpAnyH_take (i := 26) (oi := { dst := some 65, op := Go.Op.load 65 (Go.Operand.tmp 7), type := 65, pos := "law.go:100", after := #[{ on := 20, ground := Go.Ground.guard }], guard := some (20, false) }) (v := ?_) rfl (by kernel_rfl) (by kernel_rfl) (by kernel_rfl) (fun _ _ _ h => h) (Or.inl ⟨by rfl, ?_⟩) (hS_1) ?_
            rotate_left
            · intro wS hSw
              refine exec_loadB (x := .tmp 7) (g := g9) (t := 65) ?_ ?_ (Blk.below H5.out.2.2.2.1 hSw (Blk.lt H5.out.2.2.2.1)) Tryd.underlying65 rfl HIH.out <;> rfl
            (try simp only [Act.put, List.setIfInBounds_toArray, List.set_cons_zero, List.set_cons_succ])
            refine wpAnyH_ready (rs := [27]) (by kernel_rfl) (by simp) ?_
            refine AllReadyH.cons (o := { dst := some 66, op := Go.Op.call { callee := Go.Callee.value (Go.Operand.func 37), args := #[Go.Operand.tmp 60, Go.Operand.tmp 64, Go.Operand.tmp 65], argTypes := #[33, 34, 65] }, type := 4, pos := "law.go:100", after := #[{ on := 21, ground := Go.Ground.data }, { on := 25, ground := Go.Ground.data }, { on := 26, ground := Go.Ground.data }, { on := 20, ground := Go.Ground.chain }, { on := 20, ground := Go.Ground.guard }], guard := some (20, false) }) rfl (fun K hK => ?_) AllReadyH.nil
            go_simp
            (refine (HV1.out _ hS_1).mono ?_; rintro e v_2b ⟨rfl, hb⟩; have hS_2 := hS_1.trans (hb.mono hS_1.size); clear hb hS_1; skip)
            (try go_wp2_with fail)
            refine hK.out _ _ ?_ (fun hHeld => ?_)
            · (try dsimp only)
              exact hS_2
            clear hK K
            (try simp only [Act.put, List.setIfInBounds_toArray, List.set_cons_zero, List.set_cons_succ])
            refine wpAnyH_take (i := 28) (oi := { dst := some 67, op := Go.Op.unOp Go.UnOp.not 4 (Go.Operand.tmp 66), type := 4, pos := "law.go:100", after := #[{ on := 27, ground := Go.Ground.data }, { on := 20, ground := Go.Ground.guard }], guard := some (20, false) }) (v := ?_) rfl (by kernel_rfl) (by kernel_rfl) (by kernel_rfl) (fun _ _ _ h => h) (Or.inl ⟨by rfl, ?_⟩) (hS_2) ?_
            rotate_left
            · intro wS hSw
              (try dsimp only at hSw)
              go_simp
              (try with_reducible rfl)
            (try simp only [Act.put, List.setIfInBounds_toArray, List.set_cons_zero, List.set_cons_succ])
            refine wpAnyH_take (i := 29) (oi := { dst := some 68, op := Go.Op.pick (Go.Operand.tmp 59) (Go.Operand.const (Go.Value.bool true)) (Go.Operand.tmp 67), type := 4, pos := "law.go:100", after := #[{ on := 20, ground := Go.Ground.data }, { on := 28, ground := Go.Ground.data }], guard := none }) (v := ?_) rfl (by kernel_rfl) (by kernel_rfl) (by kernel_rfl) (fun _ _ _ h => h) (Or.inl ⟨by rfl, ?_⟩) (hS_2) ?_
            rotate_left
            · intro wS hSw
              (try dsimp only at hSw)
              go_simp
              (try with_reducible rfl)
            (try simp only [Act.put, List.setIfInBounds_toArray, List.set_cons_zero, List.set_cons_succ])
            refine wpAnyH_take (i := 30) (oi := { dst := some 69, op := Go.Op.move (Go.Operand.tmp 68), type := 4, pos := "law.go:100", after := #[{ on := 29, ground := Go.Ground.data }, { on := 27, ground := Go.Ground.chain }], guard := none }) (v := ?_) rfl (by kernel_rfl) (by kernel_rfl) (by kernel_rfl) (fun _ _ _ h => h) (Or.inl ⟨by rfl, ?_⟩) (hS_2) ?_
            rotate_left
            · intro wS hSw
              (try dsimp only at hSw)
              go_simp
              (try with_reducible rfl)
            (try simp only [Act.put, List.setIfInBounds_toArray, List.set_cons_zero, List.set_cons_succ])
            refine wpAnyH_take (i := 31) (oi := { dst := some 70, op := Go.Op.move (Go.Operand.tmp 0), type := 33, pos := "law.go:100", after := #[{ on := 30, ground := Go.Ground.guard }], guard := some (30, false) }) (v := ?_) rfl (by kernel_rfl) (by kernel_rfl) (by kernel_rfl) (fun _ _ _ h => h) (Or.inl ⟨by rfl, ?_⟩) (hS_2) ?_
            rotate_left
            · intro wS hSw
              (try dsimp only at hSw)
              go_simp
              (try with_reducible rfl)
            (try simp only [Act.put, List.setIfInBounds_toArray, List.set_cons_zero, List.set_cons_succ])
            refine wpAnyH_take (i := 32) (oi := { dst := some 71, op := Go.Op.move (Go.Operand.tmp 1), type := 34, pos := "law.go:100", after := #[{ on := 30, ground := Go.Ground.guard }], guard := some (30, false) }) (v := ?_) rfl (by kernel_rfl) (by kernel_rfl) (by kernel_rfl) (fun _ _ _ h => h) (Or.inl ⟨by rfl, ?_⟩) (hS_2) ?_
            rotate_left
            · intro wS hSw
              (try dsimp only at hSw)
              go_simp
              (try with_reducible rfl)
            (try simp only [Act.put, List.setIfInBounds_toArray, List.set_cons_zero, List.set_cons_succ])
            refine wpAnyH_take (i := 33) (oi := { dst := some 72, op := Go.Op.move (Go.Operand.tmp 6), type := 3, pos := "law.go:100", after := #[{ on := 30, ground := Go.Ground.guard }], guard := some (30, false) }) (v := ?_) rfl (by kernel_rfl) (by kernel_rfl) (by kernel_rfl) (fun _ _ _ h => h) (Or.inl ⟨by rfl, ?_⟩) (hS_2) ?_
            rotate_left
            · intro wS hSw
              (try dsimp only at hSw)
              go_simp
              (try with_reducible rfl)
            (try simp only [Act.put, List.setIfInBounds_toArray, List.set_cons_zero, List.set_cons_succ])
            refine wpAnyH_take (i := 34) (oi := { dst := some 73, op := Go.Op.slice 34 (Go.Operand.tmp 71) none (some (Go.Operand.tmp 72)) none, type := 34, pos := "law.go:100", after := #[{ on := 32, ground := Go.Ground.data }, { on := 33, ground := Go.Ground.data }, { on := 30, ground := Go.Ground.guard }], guard := some (30, false) }) (v := ?_) rfl (by kernel_rfl) (by kernel_rfl) (by kernel_rfl) (fun _ _ _ h => h) (Or.inl ⟨by rfl, ?_⟩) (hS_2) ?_
            rotate_left
            · intro wS hSw
              (try dsimp only at hSw)
              go_simp
              (try with_reducible rfl)
            (try simp only [Act.put, List.setIfInBounds_toArray, List.set_cons_zero, List.set_cons_succ])
            refine wpAnyH_take (i := 35) (oi := { dst := some 74, op := Go.Op.load 65 (Go.Operand.tmp 7), type := 65, pos := "law.go:100", after := #[{ on := 30, ground := Go.Ground.guard }], guard := some (30, false) }) (v := ?_) rfl (by kernel_rfl) (by kernel_rfl) (by kernel_rfl) (fun _ _ _ h => h) (Or.inl ⟨by rfl, ?_⟩) (hS_2) ?_
            rotate_left
            · intro wS hSw
              refine exec_loadB (x := .tmp 7) (g := g9) (t := 65) ?_ ?_ (Blk.below H5.out.2.2.2.1 hSw (Blk.lt H5.out.2.2.2.1)) Tryd.underlying65 rfl HIH.out <;> rfl
            (try simp only [Act.put, List.setIfInBounds_toArray, List.set_cons_zero, List.set_cons_succ])
            refine wpAnyH_ready (rs := [36]) (by kernel_rfl) (by simp) ?_
            refine AllReadyH.cons (o := { dst := some 75, op := Go.Op.call { callee := Go.Callee.value (Go.Operand.func 37), args := #[Go.Operand.tmp 70, Go.Operand.tmp 73, Go.Operand.tmp 74], argTypes := #[33, 34, 65] }, type := 4, pos := "law.go:100", after := #[{ on := 31, ground := Go.Ground.data }, { on := 34, ground := Go.Ground.data }, { on := 35, ground := Go.Ground.data }, { on := 30, ground := Go.Ground.chain }, { on := 30, ground := Go.Ground.guard }], guard := some (30, false) }) rfl (fun K hK => ?_) AllReadyH.nil
            go_simp
            (refine (HV2.out _ hS_2).mono ?_; rintro e v_3b ⟨rfl, hb⟩; have hS_3 := hS_2.trans (hb.mono hS_2.size); clear hb hS_2; skip)
            (try go_wp2_with fail)
            refine hK.out _ _ ?_ (fun hHeld => ?_)
            · (try dsimp only)
              exact hS_3
            clear hK K
            (try simp only [Act.put, List.setIfInBounds_toArray, List.set_cons_zero, List.set_cons_succ])
            refine wpAnyH_take (i := 37) (oi := { dst := some 76, op := Go.Op.pick (Go.Operand.tmp 69) (Go.Operand.const (Go.Value.bool true)) (Go.Operand.tmp 75), type := 4, pos := "law.go:100", after := #[{ on := 30, ground := Go.Ground.data }, { on := 36, ground := Go.Ground.data }], guard := none }) (v := ?_) rfl (by kernel_rfl) (by kernel_rfl) (by kernel_rfl) (fun _ _ _ h => h) (Or.inl ⟨by rfl, ?_⟩) (hS_3) ?_
            rotate_left
            · intro wS hSw
              (try dsimp only at hSw)
              go_simp
              (try with_reducible rfl)
            (try simp only [Act.put, List.setIfInBounds_toArray, List.set_cons_zero, List.set_cons_succ])
            refine wpAnyH_done (by kernel_rfl) ?_ _
            have H6 : Hid (CG v_3b ∧ Below w.heap.size w v_3b ∧ Blk v_3b g7 C 65 ∧ Blk v_3b g9 CH 65) := Lib.hid ⟨H5.out.1.later hS_3, HB5.out _ hS_3, Blk.below H5.out.2.2.1 hS_3 (Blk.lt H5.out.2.2.1), Blk.below H5.out.2.2.2.1 hS_3 (Blk.lt H5.out.2.2.2.1)⟩
            have HXX : Hid (Blk (v_3b.setCells g7 0 CH.toList) g7 CH 65 ∧ v_3b.there g7 0 CH.size ∧ Own g7 v_3b (v_3b.setCells g7 0 CH.toList)) := Lib.hid ⟨Blk.whole H6.out.2.2.1 HISC.out, Blk.thereAll H6.out.2.2.1 _ (Nat.le_of_eq HISC.out), Own.setCells _ 0 _⟩
            have H7 : Hid (CG (v_3b.setCells g7 0 CH.toList) ∧ Below w.heap.size w (v_3b.setCells g7 0 CH.toList)) := Lib.hid ⟨HW.out.1.later (H6.out.2.1.trans (HXX.out.2.2.below HWG.out H6.out.2.1.size)), H6.out.2.1.trans (HXX.out.2.2.below HWG.out H6.out.2.1.size)⟩
            clear hS_3
            go_wp2_with (first
              | (refine wpList_load_row rfl 65 (.tmp 7) rfl g9 rfl 65 CH (0, 0) _ H6.out.2.2.2 Tryd.underlying65 rfl HIH.out ?_)
              | (refine wpList_store_mid rfl 65 (.tmp 5) (.tmp 77) rfl g7 0 CH rfl rfl HXX.out.2.1 HIH.out HIO.out ?_))
            go_roundw
            case rel => exact ⟨j, by have := HJ.out; omega, by first | rfl | go_num, H7.out.1, H7.out.2, by rw [HHN.out, HCH.out]; exact HXX.out.1⟩
            case measure => have := HJ.out; simp [intOf] <;> omega
        · obtain rfl : i = q := by omega
          have i1 : ¬ (i : Int) < (i : Int) := by omega
          obtain ⟨CO, hCO⟩ : ∃ C, (hdL i (hs n K L G i)).toArray = C := ⟨_, rfl⟩
          have HIO : Hid ((Tryd.prog.info? 65).map (·.size) = some CO.size) := Lib.hid (by rw [← hCO, hd_size]; exact info_h1)
          have HCO := Lib.hid hCO
          have HX : Hid (CG wr ∧ Below w.heap.size w wr ∧ Blk wr g7 CO 65) := Lib.hid (by have := HX.out; rw [hCO] at this; exact this)
          have HEQ : Hid (∀ w, (Op.equalIn 10000 65 (.agg CO) (.agg CO)).run Tryd.prog w = .ok true w) := Lib.hid fun w => by rw [← hCO]; have := eq_h1 i i (hs n K L G i) (hs n K L G i) w; rw [eqS_refl] at this; simpa using this
          clear hlt hi hCO
          have HI1 : Hid (0 + i + 1 = i + 1) := Lib.hid (by omega)
          have HBD : Hid (0 + i < 1000000000000 ∧ 0 + i + 1 < 1000000000000) := Lib.hid (by have := HQ.out.1; omega)
          have HBO : Hid (∀ w', Below wr.heap.size wr w' → Below w.heap.size w w') := Lib.hid fun w' h => HX.out.2.1.trans (h.mono HX.out.2.1.size)
          have HCG : Hid (∀ w', Below wr.heap.size wr w' → CG w') := Lib.hid fun w' h => HX.out.1.later h
          have HV1 : Hid (∀ w', Below wr.heap.size wr w' → Calls Tryd.prog 36 #[.slice oa n cn, .slice op i cq] w' fun e w'' => e = .returned (.agg CO) ∧ Below w'.heap.size w' w'') := Lib.hid fun w' h => by
            rw [← HCO.out]; exact of_any oa n cn K op i cq L G w' (HKB.out _ (HBO.out _ h)) HNM.out.1 HNM.out.2.2.1 (by have := HN2.out; omega) (HLB.out _ (HBO.out _ h)) (by have := HQ.out.1; omega) (fun i hi => by have := HQ.out.2.2 i hi; omega) (HCG.out _ h).2
          have HV2 : Hid (∀ w' o c, Below wr.heap.size wr w' → LBs w' o (i + 1) (catL (0 + i) (catL 0 (fun _ => 0) L) (fun _ => 0)) (catG (0 + i) (catG 0 (fun _ _ => 0) G) (fun _ => (fun _ => 0))) → Calls Tryd.prog 37 #[.slice oa n cn, .slice o (i + 1) c, .agg CO] w' fun e w'' => e = .returned (.bool false) ∧ Below w'.heap.size w' w'') := Lib.hid fun w' o c h h2 => by
            have h9 := verify_any oa n cn K o (i + 1) c _ _ i (hs n K L G i) w' (HKB.out _ (HBO.out _ h)) HNM.out.1 HNM.out.2.2.1 (by have := HN2.out; omega) h2 (by have := HQ.out.1; omega) (fun t ht => by
              unfold catL
              by_cases e1 : t < 0 + i
              · rw [if_pos e1, if_neg (Nat.not_lt_zero _)]; have := HQ.out.2.2 (t - 0) (by omega); omega
              · rw [if_neg e1]; show 0 ≤ 100000; have := HQ.out; omega) (HCG.out _ h).2
            rw [HCO.out, show decide (i + 1 = i) = false from decide_eq_false (by omega), Bool.false_and] at h9; exact h9
          have HLR : Hid (∀ w', Below wr.heap.size wr w' → LBx w' wr.heap.size op i L G) := Lib.hid fun w' h => (LBs.xB HLX.out.1 (HBO.out _ h)).mono HX.out.2.1.size
          have hS_0 : Below wr.heap.size wr wr.drew := (Below.refl _ _).drew
          go_wp2_with fail
          refine wp_region_held_drew (S := (Below wr.heap.size wr)) (by kernel_rfl) ?_ (fun hHeld => ?_)
          · (try dsimp only)
            exact hS_0
          generalize wr.drew = W0 at *
          refine wpAnyH_take (i := 0) (oi := { dst := some 78, op := Go.Op.move (Go.Operand.tmp 0), type := 33, pos := "law.go:105", after := #[], guard := none }) (v := ?_) rfl (by kernel_rfl) (by kernel_rfl) (by kernel_rfl) (fun _ _ _ h => h) (Or.inl ⟨by rfl, ?_⟩) (hS_0) ?_
          rotate_left
          · intro wS hSw
            (try dsimp only at hSw)
            go_simp
            (try with_reducible rfl)
          (try simp only [Act.put, List.setIfInBounds_toArray, List.set_cons_zero, List.set_cons_succ])
          refine wpAnyH_take (i := 1) (oi := { dst := some 79, op := Go.Op.move (Go.Operand.tmp 1), type := 34, pos := "law.go:105", after := #[], guard := none }) (v := ?_) rfl (by kernel_rfl) (by kernel_rfl) (by kernel_rfl) (fun _ _ _ h => h) (Or.inl ⟨by rfl, ?_⟩) (hS_0) ?_
          rotate_left
          · intro wS hSw
            (try dsimp only at hSw)
            go_simp
            (try with_reducible rfl)
          (try simp only [Act.put, List.setIfInBounds_toArray, List.set_cons_zero, List.set_cons_succ])
          refine wpAnyH_take (i := 3) (oi := { dst := some 81, op := Go.Op.load 65 (Go.Operand.tmp 5), type := 65, pos := "law.go:105", after := #[], guard := none }) (v := ?_) rfl (by kernel_rfl) (by kernel_rfl) (by kernel_rfl) (fun _ _ _ h => h) (Or.inl ⟨by rfl, ?_⟩) (hS_0) ?_
          rotate_left
          · intro wS hSw
            refine exec_loadB (x := .tmp 5) (g := g7) (t := 65) ?_ ?_ (Blk.below HX.out.2.2 hSw (Blk.lt HX.out.2.2)) Tryd.underlying65 rfl HIO.out <;> rfl
          (try simp only [Act.put, List.setIfInBounds_toArray, List.set_cons_zero, List.set_cons_succ])
          refine wpAnyH_ready (rs := [2]) (by kernel_rfl) (by simp) ?_
          refine AllReadyH.cons (o := { dst := some 80, op := Go.Op.call { callee := Go.Callee.value (Go.Operand.func 36), args := #[Go.Operand.tmp 78, Go.Operand.tmp 79], argTypes := #[33, 34] }, type := 65, pos := "law.go:105", after := #[{ on := 0, ground := Go.Ground.data }, { on := 1, ground := Go.Ground.data }], guard := none }) rfl (fun K hK => ?_) AllReadyH.nil
          go_simp
          (refine (HV1.out _ hS_0).mono ?_; rintro e v_1 ⟨rfl, hb⟩; have hS_1 := hS_0.trans (hb.mono hS_0.size); (try clear hb); (try clear hS_0); skip)
          (try go_wp2_with fail)
          refine hK.out _ _ ?_ (fun hHeld => ?_)
          · (try dsimp only)
            exact hS_1
          clear hK K
          (try simp only [Act.put, List.setIfInBounds_toArray, List.set_cons_zero, List.set_cons_succ])
          refine wpAnyH_take (i := 4) (oi := { dst := some 82, op := Go.Op.binOp Go.BinOp.eql 65 (Go.Operand.tmp 80) (Go.Operand.tmp 81) 65, type := 4, pos := "law.go:105", after := #[{ on := 2, ground := Go.Ground.data }, { on := 3, ground := Go.Ground.data }], guard := none }) (v := ?_) rfl (by kernel_rfl) (by kernel_rfl) (by kernel_rfl) (fun _ _ _ h => h) (Or.inl ⟨by rfl, ?_⟩) (hS_1) ?_
          rotate_left
          · intro wS hSw
            refine exec_eqlM (r := 65) (x := .tmp 80) (y := .tmp 81) guard_h1 ?_ ?_ ?_ HEQ.out <;> rfl
          (try simp only [Act.put, List.setIfInBounds_toArray, List.set_cons_zero, List.set_cons_succ])
          refine wpAnyH_take (i := 5) (oi := { dst := some 83, op := Go.Op.move (Go.Operand.tmp 82), type := 4, pos := "law.go:105", after := #[{ on := 4, ground := Go.Ground.data }, { on := 2, ground := Go.Ground.chain }], guard := none }) (v := ?_) rfl (by kernel_rfl) (by kernel_rfl) (by kernel_rfl) (fun _ _ _ h => h) (Or.inl ⟨by rfl, ?_⟩) (hS_1) ?_
          rotate_left
          · intro wS hSw
            (try dsimp only at hSw)
            go_simp
            (try with_reducible rfl)
          (try simp only [Act.put, List.setIfInBounds_toArray, List.set_cons_zero, List.set_cons_succ])
          refine wpAnyH_take (i := 6) (oi := { dst := some 84, op := Go.Op.move (Go.Operand.tmp 0), type := 33, pos := "law.go:105", after := #[{ on := 5, ground := Go.Ground.guard }], guard := some (5, true) }) (v := ?_) rfl (by kernel_rfl) (by kernel_rfl) (by kernel_rfl) (fun _ _ _ h => h) (Or.inl ⟨by rfl, ?_⟩) (hS_1) ?_
          rotate_left
          · intro wS hSw
            (try dsimp only at hSw)
            go_simp
            (try with_reducible rfl)
          (try simp only [Act.put, List.setIfInBounds_toArray, List.set_cons_zero, List.set_cons_succ])
          refine wpAnyH_take (i := 8) (oi := { dst := some 86, op := Go.Op.move (Go.Operand.tmp 1), type := 34, pos := "law.go:105", after := #[{ on := 5, ground := Go.Ground.guard }], guard := some (5, true) }) (v := ?_) rfl (by kernel_rfl) (by kernel_rfl) (by kernel_rfl) (fun _ _ _ h => h) (Or.inl ⟨by rfl, ?_⟩) (hS_1) ?_
          rotate_left
          · intro wS hSw
            (try dsimp only at hSw)
            go_simp
            (try with_reducible rfl)
          (try simp only [Act.put, List.setIfInBounds_toArray, List.set_cons_zero, List.set_cons_succ])
          refine wpAnyH_take (i := 12) (oi := { dst := some 90, op := Go.Op.load 65 (Go.Operand.tmp 5), type := 65, pos := "law.go:105", after := #[{ on := 5, ground := Go.Ground.guard }], guard := some (5, true) }) (v := ?_) rfl (by kernel_rfl) (by kernel_rfl) (by kernel_rfl) (fun _ _ _ h => h) (Or.inl ⟨by rfl, ?_⟩) (hS_1) ?_
          rotate_left
          · intro wS hSw
            refine exec_loadB (x := .tmp 5) (g := g7) (t := 65) ?_ ?_ (Blk.below HX.out.2.2 hSw (Blk.lt HX.out.2.2)) Tryd.underlying65 rfl HIO.out <;> rfl
          (try simp only [Act.put, List.setIfInBounds_toArray, List.set_cons_zero, List.set_cons_succ])
          apply join_lem
          · intro key0
            refine wpAnyH_ready (rs := [7, 10]) (by kernel_rfl) (by simp) ?_
            refine AllReadyH.cons (o := { dst := some 85, op := Go.Op.buildSlice 34 0 #[], type := 34, pos := "law.go:105", after := #[{ on := 5, ground := Go.Ground.guard }], guard := some (5, true) }) rfl (fun K hK => ?_) ?_
            · skip
              go_simp
              (obtain ⟨v_2, hy⟩ : ∃ q, v_1.alloc (.cells #[] 33) = q := ⟨_, rfl⟩; rw [hy]; have hb : Below v_1.heap.size v_1 v_2 := (by rw [← hy]; exact (Below.refl _ _).alloc (Nat.le_refl _) _); have hS_2 := hS_1.trans (hb.mono hS_1.size); have hV_2 : RL v_2 wr.heap.size (.slice (some ⟨v_1.heap.size, 0, none⟩) 0 0) 0 (fun _ => 0) (fun _ _ => 0) := (by rw [← hy]; exact RL.made [] rfl (Nat.zero_le _) hS_1.size (fun i hi => absurd hi (Nat.not_lt_zero _))); (try clear hb); (try clear hy); (try clear hS_1); obtain ⟨g6, hg⟩ : ∃ q, v_1.heap.size = q := ⟨_, rfl⟩; rw [hg] at hV_2 ⊢; clear hg; skip)
              (try go_wp2_with fail)
              refine hK.out _ _ ?_ (fun hHeld => ?_)
              · (try dsimp only)
                exact hS_2
              clear hK K
              (try simp only [Act.put, List.setIfInBounds_toArray, List.set_cons_zero, List.set_cons_succ])
              refine wpAnyH_ready (rs := [9, 10]) (by kernel_rfl) (by simp) ?_
              refine AllReadyH.cons (o := { dst := some 87, op := Go.Op.call { callee := Go.Callee.builtin Go.Builtin.append, args := #[Go.Operand.tmp 85, Go.Operand.tmp 86], argTypes := #[34, 34] }, type := 34, pos := "law.go:105", after := #[{ on := 7, ground := Go.Ground.data }, { on := 8, ground := Go.Ground.data }, { on := 5, ground := Go.Ground.chain }, { on := 5, ground := Go.Ground.guard }], guard := some (5, true) }) rfl (fun K hK => ?_) ?_
              · skip
                (refine step_appRsG (by kernel_rfl) (.tmp 85) (.tmp 86) rfl wr.heap.size (.slice (some ⟨g6, 0, none⟩) 0 0) 0 i cq (fun _ => 0) L (fun _ _ => 0) G op v_2 rfl hV_2 rfl (HLR.out _ hS_2) HLX.out.2 HBD.out.1 hS_2.size ?_; intro v8 v_3 hV_3 hb hgr; have hS_3 := hS_2.trans hb; (try clear hb); (try clear hgr); (try clear hne); (try clear hV_2); (try clear hS_2); skip)
                refine hK.out _ _ ?_ (fun hHeld => ?_)
                · (try dsimp only)
                  exact hS_3
                clear hK K
                (try simp only [Act.put, List.setIfInBounds_toArray, List.set_cons_zero, List.set_cons_succ])
                refine wpAnyH_ready (rs := [10]) (by kernel_rfl) (by simp) ?_
                refine AllReadyH.cons (o := { dst := some 88, op := Go.Op.buildSlice 34 1 #[(0, Go.Operand.const (Go.Value.slice none 0 0))], type := 34, pos := "law.go:105", after := #[{ on := 5, ground := Go.Ground.guard }], guard := some (5, true) }) rfl (fun K hK => ?_) AllReadyH.nil
                go_simp
                (obtain ⟨v_4, hy⟩ : ∃ q, v_3.alloc (.cells #[.slice none 0 0] 33) = q := ⟨_, rfl⟩; rw [hy]; have hb : Below v_3.heap.size v_3 v_4 := (by rw [← hy]; exact (Below.refl _ _).alloc (Nat.le_refl _) _); have hS_4 := hS_3.trans (hb.mono hS_3.size); have hV_4 := hV_3.later hb; have hX_4 : LBx v_4 wr.heap.size (some ⟨v_3.heap.size, 0, none⟩) 1 (fun _ => 0) (fun _ => (fun _ => 0)) := row_one hy (HMB.out _ (HBO.out _ hS_3)) (Nat.le_refl _) (Nat.zero_le _) (fun _ => rfl) (fun a ha hl => Nat.lt_of_lt_of_le (HML.out a ha hl) HX.out.2.1.size); (try clear hb); (try clear hy); (try clear hV_3); (try clear hS_3); obtain ⟨gx, hg⟩ : ∃ q, v_3.heap.size = q := ⟨_, rfl⟩; rw [hg] at hX_4 ⊢; clear hg; skip)
                (try go_wp2_with fail)
                refine hK.out _ _ ?_ (fun hHeld => ?_)
                · (try dsimp only)
                  exact hS_4
                clear hK K
                (try simp only [Act.put, List.setIfInBounds_toArray, List.set_cons_zero, List.set_cons_succ])
                refine wpAnyH_ready (rs := [11]) (by kernel_rfl) (by simp) ?_
                refine AllReadyH.cons (o := { dst := some 89, op := Go.Op.call { callee := Go.Callee.builtin Go.Builtin.append, args := #[Go.Operand.tmp 87, Go.Operand.tmp 88], argTypes := #[34, 34] }, type := 34, pos := "law.go:105", after := #[{ on := 9, ground := Go.Ground.data }, { on := 10, ground := Go.Ground.data }, { on := 9, ground := Go.Ground.chain }, { on := 5, ground := Go.Ground.guard }], guard := some (5, true) }) rfl (fun K hK => ?_) AllReadyH.nil
                (refine step_appRsG (by kernel_rfl) (.tmp 87) (.tmp 88) rfl wr.heap.size v8 (0 + i) 1 1 (catL 0 (fun _ => 0) L) (fun _ => 0) (catG 0 (fun _ _ => 0) G) (fun _ => (fun _ => 0)) (some ⟨gx, 0, none⟩) v_4 rfl hV_4 rfl hX_4 (fun e => by cases e) HBD.out.2 hS_4.size ?_; intro v9 v_5 hV9 hb hgr; have hS_5 := hS_4.trans hb; obtain ⟨oA, cA, hvA, -, -, hLA_5, -⟩ := hV9.lbs; subst hvA; rw [HI1.out] at hLA_5; (try clear hb); (try clear hgr); (try clear hV9); (try clear hne); (try clear hV_4); (try clear hX_4); (try clear hS_4); skip)
                refine hK.out _ _ ?_ (fun hHeld => ?_)
                · (try dsimp only)
                  exact hS_5
                clear hK K
                (try simp only [Act.put, List.setIfInBounds_toArray, List.set_cons_zero, List.set_cons_succ])
                (repeat clear hHeld)
                (try clear hne)
                revert hS_5
                revert hLA_5
                revert cA
                revert oA
                revert v8
                revert gx
                revert g6
                revert v_5
                exact key0
              refine AllReadyH.cons (o := { dst := some 88, op := Go.Op.buildSlice 34 1 #[(0, Go.Operand.const (Go.Value.slice none 0 0))], type := 34, pos := "law.go:105", after := #[{ on := 5, ground := Go.Ground.guard }], guard := some (5, true) }) rfl (fun K hK => ?_) AllReadyH.nil
              go_simp
              (obtain ⟨v_6, hy⟩ : ∃ q, v_2.alloc (.cells #[.slice none 0 0] 33) = q := ⟨_, rfl⟩; rw [hy]; have hb : Below v_2.heap.size v_2 v_6 := (by rw [← hy]; exact (Below.refl _ _).alloc (Nat.le_refl _) _); have hS_6 := hS_2.trans (hb.mono hS_2.size); have hV_6 := hV_2.later hb; have hX_6 : LBx v_6 wr.heap.size (some ⟨v_2.heap.size, 0, none⟩) 1 (fun _ => 0) (fun _ => (fun _ => 0)) := row_one hy (HMB.out _ (HBO.out _ hS_2)) (Nat.le_refl _) (Nat.zero_le _) (fun _ => rfl) (fun a ha hl => Nat.lt_of_lt_of_le (HML.out a ha hl) HX.out.2.1.size); have hne : v_2.heap.size ≠ g6 := Nat.ne_of_gt (hV_2.lt g6 rfl).2; (try clear hb); (try clear hy); (try clear hV_2); (try clear hS_2); obtain ⟨gx, hg⟩ : ∃ q, v_2.heap.size = q := ⟨_, rfl⟩; rw [hg] at hX_6 hne ⊢; clear hg; skip)
              (try go_wp2_with fail)
              refine hK.out _ _ ?_ (fun hHeld => ?_)
              · (try dsimp only)
                exact hS_6
              clear hK K
              (try simp only [Act.put, List.setIfInBounds_toArray, List.set_cons_zero, List.set_cons_succ])
              refine wpAnyH_ready (rs := [9]) (by kernel_rfl) (by simp) ?_
              refine AllReadyH.cons (o := { dst := some 87, op := Go.Op.call { callee := Go.Callee.builtin Go.Builtin.append, args := #[Go.Operand.tmp 85, Go.Operand.tmp 86], argTypes := #[34, 34] }, type := 34, pos := "law.go:105", after := #[{ on := 7, ground := Go.Ground.data }, { on := 8, ground := Go.Ground.data }, { on := 5, ground := Go.Ground.chain }, { on := 5, ground := Go.Ground.guard }], guard := some (5, true) }) rfl (fun K hK => ?_) AllReadyH.nil
              (refine step_appRsG (by kernel_rfl) (.tmp 85) (.tmp 86) rfl wr.heap.size (.slice (some ⟨g6, 0, none⟩) 0 0) 0 i cq (fun _ => 0) L (fun _ _ => 0) G op v_6 rfl hV_6 rfl (HLR.out _ hS_6) HLX.out.2 HBD.out.1 hS_6.size ?_; intro v8 v_7 hV_7 hb hgr; have hS_7 := hS_6.trans hb; have hX_7 := hX_6.own (own_of_grown hgr) (hV_6.lt g6 rfl).1 (fun a ha => (by cases ha; exact hne)); (try clear hb); (try clear hgr); (try clear hne); (try clear hV_6); (try clear hX_6); (try clear hS_6); skip)
              refine hK.out _ _ ?_ (fun hHeld => ?_)
              · (try dsimp only)
                exact hS_7
              clear hK K
              (try simp only [Act.put, List.setIfInBounds_toArray, List.set_cons_zero, List.set_cons_succ])
              refine wpAnyH_ready (rs := [11]) (by kernel_rfl) (by simp) ?_
              refine AllReadyH.cons (o := { dst := some 89, op := Go.Op.call { callee := Go.Callee.builtin Go.Builtin.append, args := #[Go.Operand.tmp 87, Go.Operand.tmp 88], argTypes := #[34, 34] }, type := 34, pos := "law.go:105", after := #[{ on := 9, ground := Go.Ground.data }, { on := 10, ground := Go.Ground.data }, { on := 9, ground := Go.Ground.chain }, { on := 5, ground := Go.Ground.guard }], guard := some (5, true) }) rfl (fun K hK => ?_) AllReadyH.nil
              (refine step_appRsG (by kernel_rfl) (.tmp 87) (.tmp 88) rfl wr.heap.size v8 (0 + i) 1 1 (catL 0 (fun _ => 0) L) (fun _ => 0) (catG 0 (fun _ _ => 0) G) (fun _ => (fun _ => 0)) (some ⟨gx, 0, none⟩) v_7 rfl hV_7 rfl hX_7 (fun e => by cases e) HBD.out.2 hS_7.size ?_; intro v9 v_8 hV9 hb hgr; have hS_8 := hS_7.trans hb; obtain ⟨oA, cA, hvA, -, -, hLA_8, -⟩ := hV9.lbs; subst hvA; rw [HI1.out] at hLA_8; (try clear hb); (try clear hgr); (try clear hV9); (try clear hne); (try clear hX_7); (try clear hV_7); (try clear hS_7); skip)
              refine hK.out _ _ ?_ (fun hHeld => ?_)
              · (try dsimp only)
                exact hS_8
              clear hK K
              (try simp only [Act.put, List.setIfInBounds_toArray, List.set_cons_zero, List.set_cons_succ])
              (repeat clear hHeld)
              (try clear hne)
              revert hS_8
              revert hLA_8
              revert cA
              revert oA
              revert v8
              revert gx
              revert g6
              revert v_8
              exact key0
            refine AllReadyH.cons (o := { dst := some 88, op := Go.Op.buildSlice 34 1 #[(0, Go.Operand.const (Go.Value.slice none 0 0))], type := 34, pos := "law.go:105", after := #[{ on := 5, ground := Go.Ground.guard }], guard := some (5, true) }) rfl (fun K hK => ?_) AllReadyH.nil
            go_simp
            (obtain ⟨v_9, hy⟩ : ∃ q, v_1.alloc (.cells #[.slice none 0 0] 33) = q := ⟨_, rfl⟩; rw [hy]; have hb : Below v_1.heap.size v_1 v_9 := (by rw [← hy]; exact (Below.refl _ _).alloc (Nat.le_refl _) _); have hS_9 := hS_1.trans (hb.mono hS_1.size); have hX_9 : LBx v_9 wr.heap.size (some ⟨v_1.heap.size, 0, none⟩) 1 (fun _ => 0) (fun _ => (fun _ => 0)) := row_one hy (HMB.out _ (HBO.out _ hS_1)) (Nat.le_refl _) (Nat.zero_le _) (fun _ => rfl) (fun a ha hl => Nat.lt_of_lt_of_le (HML.out a ha hl) HX.out.2.1.size); (try clear hb); (try clear hy); (try clear hS_1); obtain ⟨gx, hg⟩ : ∃ q, v_1.heap.size = q := ⟨_, rfl⟩; rw [hg] at hX_9 ⊢; clear hg; skip)
            (try go_wp2_with fail)
            refine hK.out _ _ ?_ (fun hHeld => ?_)
            · (try dsimp only)
              exact hS_9
            clear hK K
            (try simp only [Act.put, List.setIfInBounds_toArray, List.set_cons_zero, List.set_cons_succ])
            refine wpAnyH_ready (rs := [7]) (by kernel_rfl) (by simp) ?_
            refine AllReadyH.cons (o := { dst := some 85, op := Go.Op.buildSlice 34 0 #[], type := 34, pos := "law.go:105", after := #[{ on := 5, ground := Go.Ground.guard }], guard := some (5, true) }) rfl (fun K hK => ?_) AllReadyH.nil
            go_simp
            (obtain ⟨v_10, hy⟩ : ∃ q, v_9.alloc (.cells #[] 33) = q := ⟨_, rfl⟩; rw [hy]; have hb : Below v_9.heap.size v_9 v_10 := (by rw [← hy]; exact (Below.refl _ _).alloc (Nat.le_refl _) _); have hS_10 := hS_9.trans (hb.mono hS_9.size); have hX_10 := hX_9.later hb; have hV_10 : RL v_10 wr.heap.size (.slice (some ⟨v_9.heap.size, 0, none⟩) 0 0) 0 (fun _ => 0) (fun _ _ => 0) := (by rw [← hy]; exact RL.made [] rfl (Nat.zero_le _) hS_9.size (fun i hi => absurd hi (Nat.not_lt_zero _))); have hne : gx ≠ v_9.heap.size := Nat.ne_of_lt (lbx_lt hX_9); (try clear hb); (try clear hy); (try clear hX_9); (try clear hS_9); obtain ⟨g6, hg⟩ : ∃ q, v_9.heap.size = q := ⟨_, rfl⟩; rw [hg] at hV_10 hne ⊢; clear hg; skip)
            (try go_wp2_with fail)
            refine hK.out _ _ ?_ (fun hHeld => ?_)
            · (try dsimp only)
              exact hS_10
            clear hK K
            (try simp only [Act.put, List.setIfInBounds_toArray, List.set_cons_zero, List.set_cons_succ])
            refine wpAnyH_ready (rs := [9]) (by kernel_rfl) (by simp) ?_
            refine AllReadyH.cons (o := { dst := some 87, op := Go.Op.call { callee := Go.Callee.builtin Go.Builtin.append, args := #[Go.Operand.tmp 85, Go.Operand.tmp 86], argTypes := #[34, 34] }, type := 34, pos := "law.go:105", after := #[{ on := 7, ground := Go.Ground.data }, { on := 8, ground := Go.Ground.data }, { on := 5, ground := Go.Ground.chain }, { on := 5, ground := Go.Ground.guard }], guard := some (5, true) }) rfl (fun K hK => ?_) AllReadyH.nil
            (refine step_appRsG (by kernel_rfl) (.tmp 85) (.tmp 86) rfl wr.heap.size (.slice (some ⟨g6, 0, none⟩) 0 0) 0 i cq (fun _ => 0) L (fun _ _ => 0) G op v_10 rfl hV_10 rfl (HLR.out _ hS_10) HLX.out.2 HBD.out.1 hS_10.size ?_; intro v8 v_11 hV_11 hb hgr; have hS_11 := hS_10.trans hb; have hX_11 := hX_10.own (own_of_grown hgr) (hV_10.lt g6 rfl).1 (fun a ha => (by cases ha; exact hne)); (try clear hb); (try clear hgr); (try clear hne); (try clear hX_10); (try clear hV_10); (try clear hS_10); skip)
            refine hK.out _ _ ?_ (fun hHeld => ?_)
            · (try dsimp only)
              exact hS_11
            clear hK K
            (try simp only [Act.put, List.setIfInBounds_toArray, List.set_cons_zero, List.set_cons_succ])
            refine wpAnyH_ready (rs := [11]) (by kernel_rfl) (by simp) ?_
            refine AllReadyH.cons (o := { dst := some 89, op := Go.Op.call { callee := Go.Callee.builtin Go.Builtin.append, args := #[Go.Operand.tmp 87, Go.Operand.tmp 88], argTypes := #[34, 34] }, type := 34, pos := "law.go:105", after := #[{ on := 9, ground := Go.Ground.data }, { on := 10, ground := Go.Ground.data }, { on := 9, ground := Go.Ground.chain }, { on := 5, ground := Go.Ground.guard }], guard := some (5, true) }) rfl (fun K hK => ?_) AllReadyH.nil
            (refine step_appRsG (by kernel_rfl) (.tmp 87) (.tmp 88) rfl wr.heap.size v8 (0 + i) 1 1 (catL 0 (fun _ => 0) L) (fun _ => 0) (catG 0 (fun _ _ => 0) G) (fun _ => (fun _ => 0)) (some ⟨gx, 0, none⟩) v_11 rfl hV_11 rfl hX_11 (fun e => by cases e) HBD.out.2 hS_11.size ?_; intro v9 v_12 hV9 hb hgr; have hS_12 := hS_11.trans hb; obtain ⟨oA, cA, hvA, -, -, hLA_12, -⟩ := hV9.lbs; subst hvA; rw [HI1.out] at hLA_12; (try clear hb); (try clear hgr); (try clear hV9); (try clear hne); (try clear hX_11); (try clear hV_11); (try clear hS_11); skip)
            refine hK.out _ _ ?_ (fun hHeld => ?_)
            · (try dsimp only)
              exact hS_12
            clear hK K
            (try simp only [Act.put, List.setIfInBounds_toArray, List.set_cons_zero, List.set_cons_succ])
            (repeat clear hHeld)
            (try clear hne)
            revert hS_12
            revert hLA_12
            revert cA
            revert oA
            revert v8
            revert gx
            revert g6
            revert v_12
            exact key0
          · intro W_J0 g6 gx v8 oA cA hLA_J0 hS_J0
            refine wpAnyH_ready (rs := [13]) (by kernel_rfl) (by simp) ?_
            refine AllReadyH.cons (o := { dst := some 91, op := Go.Op.call { callee := Go.Callee.value (Go.Operand.func 37), args := #[Go.Operand.tmp 84, Go.Operand.tmp 89, Go.Operand.tmp 90], argTypes := #[33, 34, 65] }, type := 4, pos := "law.go:105", after := #[{ on := 6, ground := Go.Ground.data }, { on := 11, ground := Go.Ground.data }, { on := 12, ground := Go.Ground.data }, { on := 11, ground := Go.Ground.chain }, { on := 5, ground := Go.Ground.guard }], guard := some (5, true) }) rfl (fun K hK => ?_) AllReadyH.nil
            go_simp
            (refine (HV2.out _ _ _ hS_J0 hLA_J0).mono ?_; rintro e v_13 ⟨rfl, hb⟩; have hS_13 := hS_J0.trans (hb.mono hS_J0.size); (try clear hb); (try clear hLA_J0); (try clear hS_J0); skip)
            (try go_wp2_with fail)
            refine hK.out _ _ ?_ (fun hHeld => ?_)
            · (try dsimp only)
              exact hS_13
            clear hK K
            (try simp only [Act.put, List.setIfInBounds_toArray, List.set_cons_zero, List.set_cons_succ])
            refine wpAnyH_take (i := 14) (oi := { dst := some 92, op := Go.Op.unOp Go.UnOp.not 4 (Go.Operand.tmp 91), type := 4, pos := "law.go:105", after := #[{ on := 13, ground := Go.Ground.data }, { on := 5, ground := Go.Ground.guard }], guard := some (5, true) }) (v := ?_) rfl (by kernel_rfl) (by kernel_rfl) (by kernel_rfl) (fun _ _ _ h => h) (Or.inl ⟨by rfl, ?_⟩) (hS_13) ?_
            rotate_left
            · intro wS hSw
              (try dsimp only at hSw)
              go_simp
              (try with_reducible rfl)
            (try simp only [Act.put, List.setIfInBounds_toArray, List.set_cons_zero, List.set_cons_succ])
            refine wpAnyH_take (i := 15) (oi := { dst := some 93, op := Go.Op.pick (Go.Operand.tmp 83) (Go.Operand.tmp 92) (Go.Operand.const (Go.Value.bool false)), type := 4, pos := "law.go:105", after := #[{ on := 5, ground := Go.Ground.data }, { on := 14, ground := Go.Ground.data }], guard := none }) (v := ?_) rfl (by kernel_rfl) (by kernel_rfl) (by kernel_rfl) (fun _ _ _ h => h) (Or.inl ⟨by rfl, ?_⟩) (hS_13) ?_
            rotate_left
            · intro wS hSw
              (try dsimp only at hSw)
              go_simp
              (try with_reducible rfl)
            (try simp only [Act.put, List.setIfInBounds_toArray, List.set_cons_zero, List.set_cons_succ])
            refine wpAnyH_take (i := 16) (oi := { dst := some 94, op := Go.Op.move (Go.Operand.tmp 93), type := 4, pos := "law.go:105", after := #[{ on := 15, ground := Go.Ground.data }, { on := 13, ground := Go.Ground.chain }], guard := none }) (v := ?_) rfl (by kernel_rfl) (by kernel_rfl) (by kernel_rfl) (fun _ _ _ h => h) (Or.inl ⟨by rfl, ?_⟩) (hS_13) ?_
            rotate_left
            · intro wS hSw
              (try dsimp only at hSw)
              go_simp
              (try with_reducible rfl)
            (try simp only [Act.put, List.setIfInBounds_toArray, List.set_cons_zero, List.set_cons_succ])
            refine wpAnyH_ready (rs := [17]) (by kernel_rfl) (by simp) ?_
            refine AllReadyH.cons (o := { dst := some 95, op := Go.Op.call { callee := Go.Callee.value (Go.Operand.func 34), args := #[], argTypes := #[] }, type := 4, pos := "law.go:105", after := #[{ on := 16, ground := Go.Ground.chain }, { on := 16, ground := Go.Ground.guard }], guard := some (16, true) }) rfl (fun K hK => ?_) AllReadyH.nil
            go_simp
            (refine (chain_sure _ (HCG.out _ hS_13)).mono ?_; rintro e v_14 ⟨rfl, hb⟩; have hS_14 := hS_13.trans (hb.mono hS_13.size); (try clear hb); (try clear hS_13); skip)
            (try go_wp2_with fail)
            refine hK.out _ _ ?_ (fun hHeld => ?_)
            · (try dsimp only)
              exact hS_14
            clear hK K
            (try simp only [Act.put, List.setIfInBounds_toArray, List.set_cons_zero, List.set_cons_succ])
            refine wpAnyH_take (i := 18) (oi := { dst := some 96, op := Go.Op.pick (Go.Operand.tmp 94) (Go.Operand.tmp 95) (Go.Operand.const (Go.Value.bool false)), type := 4, pos := "law.go:105", after := #[{ on := 16, ground := Go.Ground.data }, { on := 17, ground := Go.Ground.data }], guard := none }) (v := ?_) rfl (by kernel_rfl) (by kernel_rfl) (by kernel_rfl) (fun _ _ _ h => h) (Or.inl ⟨by rfl, ?_⟩) (hS_14) ?_
            rotate_left
            · intro wS hSw
              (try dsimp only at hSw)
              go_simp
              (try with_reducible rfl)
            (try simp only [Act.put, List.setIfInBounds_toArray, List.set_cons_zero, List.set_cons_succ])
            refine wpAnyH_take (i := 19) (oi := { dst := some 4, op := Go.Op.assign (Go.Operand.tmp 96), type := 4, pos := "law.go:105", after := #[{ on := 18, ground := Go.Ground.data }, { on := 17, ground := Go.Ground.chain }, { on := 0, ground := Go.Ground.phase }, { on := 1, ground := Go.Ground.phase }, { on := 2, ground := Go.Ground.phase }, { on := 3, ground := Go.Ground.phase }, { on := 4, ground := Go.Ground.phase }, { on := 5, ground := Go.Ground.phase }, { on := 6, ground := Go.Ground.phase }, { on := 7, ground := Go.Ground.phase }, { on := 8, ground := Go.Ground.phase }, { on := 9, ground := Go.Ground.phase }, { on := 10, ground := Go.Ground.phase }, { on := 11, ground := Go.Ground.phase }, { on := 12, ground := Go.Ground.phase }, { on := 13, ground := Go.Ground.phase }, { on := 14, ground := Go.Ground.phase }, { on := 15, ground := Go.Ground.phase }, { on := 16, ground := Go.Ground.phase }, { on := 17, ground := Go.Ground.phase }, { on := 18, ground := Go.Ground.phase }], guard := none }) (v := ?_) rfl (by kernel_rfl) (by kernel_rfl) (by kernel_rfl) (fun _ _ _ h => h) (Or.inl ⟨by rfl, ?_⟩) (hS_14) ?_
            rotate_left
            · intro wS hSw
              (try dsimp only at hSw)
              go_simp
              (try with_reducible rfl)
            (try simp only [Act.put, List.setIfInBounds_toArray, List.set_cons_zero, List.set_cons_succ])
            refine wpAnyH_done (by kernel_rfl) ?_ _
            go_wp2_with fail
            go_ret
            exact ⟨rfl, HBO.out _ hS_14⟩
end Go.Proofs.YtmabhjifldafaaaDoor
