/- ChainApart walked. -/
import Derived.Test.YtmabhjifldafaaaDoorCh6
import Derived.Test.YtmabhjifldafaaaDoorChA
import Derived.Test.YtmabhjifldafaaaDoorApl
namespace Go.Proofs.YtmabhjifldafaaaDoor
set_option linter.unusedVariables false
set_option linter.unusedSimpArgs false
open Go.RowKit

set_option maxRecDepth 100000 in
set_option maxHeartbeats 8000000 in
theorem lists34_dec (oa ob : Option Addr) (n ca m cb : Nat) (LA LB : Nat → Nat) (GA GB : Nat → Nat → Nat) (w : World) (hA : LBs w oa n LA GA) (hB : LBs w ob m LB GB) (hn : n ≤ maxLen) (hm : m ≤ maxLen) :
    Calls Tryd.prog 39 #[.slice oa n ca, .slice ob m cb] w fun e w' => ∃ b, e = .returned (.bool b) ∧ (b = true ↔ Same n m LA LB GA GB) ∧ Below w.heap.size w w' := by
  unfold maxLen at hn hm
  have HA : Hid (∀ w', Below w.heap.size w w' → LBs w' oa n LA GA ∧ LBs w' ob m LB GB) := Lib.hid fun w' h => ⟨hA.later h, hB.later h⟩
  clear hA hB
  have hq0 : (n : Int) ≤ 9223372036854775807 := by omega
  have hq1 : (m : Int) ≤ 9223372036854775807 := by omega
  by_cases hnm : n = m
  · subst hnm
    go_enter Tryd.func39, Tryd.ntmps39
    go_wp2_with fail
    go_loopw [5] (fun v wr => ∃ i : Nat, i ≤ n ∧ v = .int .i64 (i : Int) ∧ Below w.heap.size w wr ∧ ∀ t, t < i → LA t = LB t ∧ ∀ k, k < LA t → GA t k = GB t k) (fun v _ => n - (intOf v).toNat)
    case atStart => exact ⟨0, Nat.zero_le _, rfl, Below.refl _ _, fun t ht => absurd ht (Nat.not_lt_zero _)⟩
    case round =>
      obtain ⟨i, hi, rfl, hX, hsm⟩ := hrel
      have HX : Hid (Below w.heap.size w wr) := Lib.hid hX
      have HSM := Lib.hid hsm
      clear hsm
      by_cases hli : i < n
      · as_aux_lemma =>
        have i1 : (i : Int) < (n : Int) := by omega
        have i0 : (0 : Int) ≤ (i : Int) := by omega
        have HI : Hid (i < n) := Lib.hid hli
        obtain ⟨h1, h2⟩ := HA.out wr.drew HX.out.drew
        obtain ⟨b, off, od, cp, rfl, c1, _, hb1, hd1, _⟩ := h1 i hli
        obtain ⟨b2, off2, od2, cp2, rfl, c2, _, hb2, hd2, _⟩ := h2 i hli
        obtain ⟨j2, hj2⟩ : ∃ z, i + 1 = z := ⟨_, rfl⟩
        have HJ2 := Lib.hid hj2
        have k3 : (i : Int) + 1 = (j2 : Int) := by omega
        have k4 : IntKind.i64.wrap (j2 : Int) = (j2 : Int) := IntWalk.i64_in _ (by omega)
        have HC1 := Lib.hid (conv_any (cap := cp) hb1 hd1)
        have HC2 := Lib.hid (conv_any (cap := cp2) hb2 hd2)
        have HL1 : Hid (∀ k, k < LA i → GA i k < 256) := Lib.hid fun k hk => (hb1 k hk).1
        have HL2 : Hid (∀ k, k < LB i → GB i k < 256) := Lib.hid fun k hk => (hb2 k hk).1
        have H0 : Hid (Below w.heap.size w wr.drew) := Lib.hid HX.out.drew
        clear h1 h2 hj2 hli hi hX HX hb1 hb2 hd1 hd2
        obtain ⟨S1, hS1⟩ : ∃ x, strF (LA i) (GA i) = x := ⟨_, rfl⟩
        obtain ⟨S2, hS2⟩ : ∃ x, strF (LB i) (GB i) = x := ⟨_, rfl⟩
        rw [hS1] at HC1
        rw [hS2] at HC2
        have HS := Lib.hid (And.intro hS1 hS2)
        clear hS1 hS2
        by_cases e : S1 = S2
        · subst e
          go_wp2_with fail
          refine WS.lit (by kernel_rfl) (by kernel_rfl) ?_
          generalize wr.drew = W1 at *
          refine WS.val (v := ?_) (by kernel_rfl) ?_ ?_
          rotate_left
          · go_simp
            (try with_reducible rfl)
          (try simp only [Act.put, List.setIfInBounds_toArray, List.set_cons_zero, List.set_cons_succ])
          refine WS.val (v := ?_) (by kernel_rfl) ?_ ?_
          rotate_left
          · go_simp
            (try with_reducible rfl)
          (try simp only [Act.put, List.setIfInBounds_toArray, List.set_cons_zero, List.set_cons_succ])
          refine WS.val (v := ?_) (by kernel_rfl) ?_ ?_
          rotate_left
          · go_simp
            (try with_reducible rfl)
          (try simp only [Act.put, List.setIfInBounds_toArray, List.set_cons_zero, List.set_cons_succ])
          refine WS.val (v := ?_) (by kernel_rfl) ?_ ?_
          rotate_left
          · go_simp
            (try with_reducible rfl)
          (try simp only [Act.put, List.setIfInBounds_toArray, List.set_cons_zero, List.set_cons_succ])
          refine WS.val (by kernel_rfl) (exec_convO (x := .tmp 20) rfl rfl HC1.out) ?_
          (try simp only [Act.put, List.setIfInBounds_toArray, List.set_cons_zero, List.set_cons_succ])
          refine WS.val (v := ?_) (by kernel_rfl) ?_ ?_
          rotate_left
          · go_simp
            (try with_reducible rfl)
          (try simp only [Act.put, List.setIfInBounds_toArray, List.set_cons_zero, List.set_cons_succ])
          refine WS.val (v := ?_) (by kernel_rfl) ?_ ?_
          rotate_left
          · go_simp
            (try with_reducible rfl)
          (try simp only [Act.put, List.setIfInBounds_toArray, List.set_cons_zero, List.set_cons_succ])
          refine WS.val (v := ?_) (by kernel_rfl) ?_ ?_
          rotate_left
          · go_simp
            (try with_reducible rfl)
          (try simp only [Act.put, List.setIfInBounds_toArray, List.set_cons_zero, List.set_cons_succ])
          refine WS.val (v := ?_) (by kernel_rfl) ?_ ?_
          rotate_left
          · go_simp
            (try with_reducible rfl)
          (try simp only [Act.put, List.setIfInBounds_toArray, List.set_cons_zero, List.set_cons_succ])
          refine WS.val (by kernel_rfl) (exec_convO (x := .tmp 25) rfl rfl HC2.out) ?_
          (try simp only [Act.put, List.setIfInBounds_toArray, List.set_cons_zero, List.set_cons_succ])
          refine WS.val (v := ?_) (by kernel_rfl) ?_ ?_
          rotate_left
          · go_simp
            (try with_reducible rfl)
          (try simp only [Act.put, List.setIfInBounds_toArray, List.set_cons_zero, List.set_cons_succ])
          refine WS.nil ?_
          go_wp2_with fail
          go_roundw
          case rel =>
            obtain ⟨e1, e2⟩ := strF_inj HL1.out HL2.out (HS.out.1.trans HS.out.2.symm)
            refine ⟨j2, by have := HI.out; have := HJ2.out; omega, by first | rfl | go_num, H0.out, fun t ht => ?_⟩
            by_cases e9 : t = i
            · subst e9; exact ⟨e1, e2⟩
            · exact HSM.out t (by have := HJ2.out; omega)
          case measure => have := HI.out; have := HJ2.out; simp [intOf] <;> omega
        · have n1 := str_ne e
          have n2 : (S1.toList == S2.toList) = false := by simpa using n1
          have HN := Lib.hid e
          clear e
          go_wp2_with fail
          refine WS.lit (by kernel_rfl) (by kernel_rfl) ?_
          generalize wr.drew = W1 at *
          refine WS.val (v := ?_) (by kernel_rfl) ?_ ?_
          rotate_left
          · go_simp
            (try with_reducible rfl)
          (try simp only [Act.put, List.setIfInBounds_toArray, List.set_cons_zero, List.set_cons_succ])
          refine WS.val (v := ?_) (by kernel_rfl) ?_ ?_
          rotate_left
          · go_simp
            (try with_reducible rfl)
          (try simp only [Act.put, List.setIfInBounds_toArray, List.set_cons_zero, List.set_cons_succ])
          refine WS.val (v := ?_) (by kernel_rfl) ?_ ?_
          rotate_left
          · go_simp
            (try with_reducible rfl)
          (try simp only [Act.put, List.setIfInBounds_toArray, List.set_cons_zero, List.set_cons_succ])
          refine WS.val (v := ?_) (by kernel_rfl) ?_ ?_
          rotate_left
          · go_simp
            (try with_reducible rfl)
          (try simp only [Act.put, List.setIfInBounds_toArray, List.set_cons_zero, List.set_cons_succ])
          refine WS.val (by kernel_rfl) (exec_convO (x := .tmp 20) rfl rfl HC1.out) ?_
          (try simp only [Act.put, List.setIfInBounds_toArray, List.set_cons_zero, List.set_cons_succ])
          refine WS.val (v := ?_) (by kernel_rfl) ?_ ?_
          rotate_left
          · go_simp
            (try with_reducible rfl)
          (try simp only [Act.put, List.setIfInBounds_toArray, List.set_cons_zero, List.set_cons_succ])
          refine WS.val (v := ?_) (by kernel_rfl) ?_ ?_
          rotate_left
          · go_simp
            (try with_reducible rfl)
          (try simp only [Act.put, List.setIfInBounds_toArray, List.set_cons_zero, List.set_cons_succ])
          refine WS.val (v := ?_) (by kernel_rfl) ?_ ?_
          rotate_left
          · go_simp
            (try with_reducible rfl)
          (try simp only [Act.put, List.setIfInBounds_toArray, List.set_cons_zero, List.set_cons_succ])
          refine WS.val (v := ?_) (by kernel_rfl) ?_ ?_
          rotate_left
          · go_simp
            (try with_reducible rfl)
          (try simp only [Act.put, List.setIfInBounds_toArray, List.set_cons_zero, List.set_cons_succ])
          refine WS.val (by kernel_rfl) (exec_convO (x := .tmp 25) rfl rfl HC2.out) ?_
          (try simp only [Act.put, List.setIfInBounds_toArray, List.set_cons_zero, List.set_cons_succ])
          refine WS.val (v := ?_) (by kernel_rfl) ?_ ?_
          rotate_left
          · go_simp
            (try with_reducible rfl)
          (try simp only [Act.put, List.setIfInBounds_toArray, List.set_cons_zero, List.set_cons_succ])
          refine WS.nil ?_
          go_wp2_with fail
          go_ret
          refine ⟨false, rfl, ⟨fun h => (by cases h), fun h => ?_⟩, H0.out⟩
          obtain ⟨e1, e2⟩ := h.2 i HI.out
          exact absurd (show S1 = S2 by rw [← HS.out.1, ← HS.out.2, ← e1]; exact strF_congr e2) HN.out
      · obtain rfl : i = n := by omega
        have i1 : ¬ (i : Int) < (i : Int) := by omega
        clear hli hi hX
        go_wp2_with fail
        go_ret
        exact .inr ⟨rfl, ⟨rfl, HSM.out⟩, HX.out⟩
  · have q1 : ¬ (n : Int) = (m : Int) := by omega
    have q2 : ((n : Int) == (m : Int)) = false := by rw [beq_eq_false_iff_ne]; exact q1
    have HN := Lib.hid hnm
    clear hnm
    go_enter Tryd.func39, Tryd.ntmps39
    go_wp2_with fail
    go_ret
    exact ⟨false, rfl, ⟨fun h => (by cases h), fun h => absurd h.1 HN.out⟩, Below.refl _ _⟩
set_option maxRecDepth 100000 in
set_option maxHeartbeats 16000000 in
theorem capart_any (oa : Option Addr) (n cn : Nat) (K : Nat → Nat) (op : Option Addr) (qa ca : Nat) (LA : Nat → Nat) (GA : Nat → Nat → Nat) (oq : Option Addr) (qb cb : Nat) (LB : Nat → Nat) (GB : Nat → Nat → Nat) (w : World) (hK : Bytes w oa n K) (hnc : n ≤ cn) (hcn : cn ≤ maxLen) (hno : oa = none → n = 0) (hA : LBs w op qa LA GA) (hac : qa ≤ ca) (hca : ca ≤ maxLen) (hB : LBs w oq qb LB GB) (hbc : qb ≤ cb) (hcb : cb ≤ maxLen) (hg : CG w) :
    Calls Tryd.prog 8 #[.slice oa n cn, .slice op qa ca, .slice oq qb cb] w fun e w' => e = .returned (.bool true) ∧ Below w.heap.size w w' := by
  have HW : Hid (CG w ∧ Below w.heap.size w w) := Lib.hid ⟨hg, Below.refl _ _⟩
  have HKB : Hid (∀ w', Below w.heap.size w w' → Bytes w' oa n K) := Lib.hid fun w' h => hK.later h
  have HAB : Hid (∀ w', Below w.heap.size w w' → LBs w' op qa LA GA) := Lib.hid fun w' h => hA.later h
  have HBB : Hid (∀ w', Below w.heap.size w w' → LBs w' oq qb LB GB) := Lib.hid fun w' h => hB.later h
  have HNM : Hid (n ≤ cn ∧ cn ≤ maxLen ∧ (oa = none → n = 0) ∧ qa ≤ maxLen ∧ qb ≤ maxLen) := Lib.hid ⟨hnc, hcn, hno, Nat.le_trans hac hca, Nat.le_trans hbc hcb⟩
  have n0 : (n : Int) ≤ 9223372036854775807 := by unfold maxLen at hcn; omega
  have n1 : (qa : Int) ≤ 9223372036854775807 := by unfold maxLen at hca; omega
  have n2 : (qb : Int) ≤ 9223372036854775807 := by unfold maxLen at hcb; omega
  clear hK hnc hcn hno hA hac hca hB hbc hcb hg
  have hcs : (200 : Int) < (n : Int) ∨ ¬ (200 : Int) < (n : Int) := by omega
  rcases hcs with g1 | g1
  · go_enter Tryd.func8, Tryd.ntmps8
    go_wp2_with fail
    refine (chain_sure w HW.out.1).mono ?_
    rintro e we ⟨rfl, hbe⟩
    have HO := Lib.hid (HW.out.2.trans (hbe.mono HW.out.2.size))
    clear hbe
    go_wp2_with fail
    go_ret
    exact ⟨rfl, HO.out⟩
  · go_enter Tryd.func8, Tryd.ntmps8
    go_wp2_with fail
    refine (big_any34 op qa ca LA GA w (HAB.out _ HW.out.2) HNM.out.2.2.2.1).mono ?_
    rintro e w1 ⟨hb1, hr1⟩
    have H1 : Hid (CG w1 ∧ Below w.heap.size w w1) := Lib.hid ⟨HW.out.1.later hb1, hb1⟩
    have HN2 : Hid (n ≤ 200) := Lib.hid (by omega)
    clear hb1
    rcases hr1 with rfl | ⟨rfl, _, hla⟩
    · skip
      go_wp2_with fail
      refine (chain_sure w1 H1.out.1).mono ?_
      rintro e we ⟨rfl, hbe⟩
      have HO := Lib.hid (H1.out.2.trans (hbe.mono H1.out.2.size))
      clear hbe
      go_wp2_with fail
      go_ret
      exact ⟨rfl, HO.out⟩
    · go_wp2_with fail
      refine (big_any34 oq qb cb LB GB w1 (HBB.out _ H1.out.2) HNM.out.2.2.2.2).mono ?_
      rintro e w2 ⟨hb2, hr2⟩
      have H2 : Hid (CG w2 ∧ Below w.heap.size w w2) := Lib.hid ⟨H1.out.1.later hb2, H1.out.2.trans (hb2.mono H1.out.2.size)⟩
      clear hb2 H1
      have hr2 : e = .returned (.bool true) ∨ (e = .returned (.bool false) ∧ 12 < qa) ∨ (e = .returned (.bool false) ∧ ¬ 12 < qa ∧ 12 < qb) ∨ (e = .returned (.bool false) ∧ qa ≤ 12 ∧ qb ≤ 12 ∧ ∀ i, i < qb → LB i ≤ 3000) := by
        rcases hr2 with h | ⟨h1, h2, h3⟩
        · exact .inl h
        · by_cases h : 12 < qa
          · exact .inr (.inl ⟨h1, h⟩)
          · by_cases h4 : 12 < qb
            · exact .inr (.inr (.inl ⟨h1, h, h4⟩))
            · exact .inr (.inr (.inr ⟨h1, by omega, by omega, h3⟩))
      rcases hr2 with rfl | ⟨rfl, h12⟩ | ⟨rfl, h12, h13⟩ | ⟨rfl, h12, h13, hlb⟩
      · skip
        go_wp2_with fail
        refine (chain_sure w2 H2.out.1).mono ?_
        rintro e we ⟨rfl, hbe⟩
        have HO := Lib.hid (H2.out.2.trans (hbe.mono H2.out.2.size))
        clear hbe
        go_wp2_with fail
        go_ret
        exact ⟨rfl, HO.out⟩
      · have g2 : (12 : Int) < (qa : Int) := by omega
        go_wp2_with fail
        refine (chain_sure w2 H2.out.1).mono ?_
        rintro e we ⟨rfl, hbe⟩
        have HO := Lib.hid (H2.out.2.trans (hbe.mono H2.out.2.size))
        clear hbe
        go_wp2_with fail
        go_ret
        exact ⟨rfl, HO.out⟩
      · have g2 : ¬ (12 : Int) < (qa : Int) := by omega
        have g3 : (12 : Int) < (qb : Int) := by omega
        go_wp2_with fail
        refine (chain_sure w2 H2.out.1).mono ?_
        rintro e we ⟨rfl, hbe⟩
        have HO := Lib.hid (H2.out.2.trans (hbe.mono H2.out.2.size))
        clear hbe
        go_wp2_with fail
        go_ret
        exact ⟨rfl, HO.out⟩
      · have g2 : ¬ (12 : Int) < (qa : Int) := by omega
        have g3 : ¬ (12 : Int) < (qb : Int) := by omega
        have HQ : Hid (qa ≤ 12 ∧ qb ≤ 12 ∧ (∀ i, i < qa → LA i ≤ 3000) ∧ ∀ i, i < qb → LB i ≤ 3000) := Lib.hid ⟨h12, h13, hla, hlb⟩
        clear h12 h13 hla hlb
        have HAP : Hid (∀ w', CG w' → Below w.heap.size w w' → Calls Tryd.prog 38 #[.slice oa n cn, .slice op qa ca, .slice op qa ca] w' fun e w'' => e = .returned (.tuple #[.slice none 0 0, .slice none 0 0, .bool false]) ∧ Below w'.heap.size w' w'') := Lib.hid fun w' h1 h2 => by
          refine (apart_any oa n cn K op qa ca LA GA op qa ca LA GA w' (HKB.out _ h2) HNM.out.1 HNM.out.2.2.1 (by have := HN2.out; omega) (HAB.out _ h2) (by have := HQ.out; omega) (fun i hi => by have := HQ.out.2.2.1 i hi; omega) (HAB.out _ h2) (by have := HQ.out; omega) (fun i hi => by have := HQ.out.2.2.1 i hi; omega) h1.2).mono fun e w'' h3 => ?_
          obtain ⟨hb, hd⟩ := h3
          refine ⟨?_, hb⟩
          rcases hd with ⟨i, o1, c1, o2, c2, _, _, _, _, _, _, hne, _⟩ | ⟨h4, _⟩
          · exact absurd rfl hne
          · exact h4
        obtain ⟨CA, hCA⟩ : ∃ C, (hdL qa (hs n K LA GA qa)).toArray = C := ⟨_, rfl⟩
        have HCA := Lib.hid hCA
        have HOF : Hid (∀ w', CG w' → Below w.heap.size w w' → Calls Tryd.prog 36 #[.slice oa n cn, .slice op qa ca] w' fun e w'' => e = .returned (.agg CA) ∧ Below w'.heap.size w' w'') := Lib.hid fun w' h1 h2 => by
          rw [← HCA.out]; exact of_any oa n cn K op qa ca LA GA w' (HKB.out _ h2) HNM.out.1 HNM.out.2.2.1 (by have := HN2.out; omega) (HAB.out _ h2) (by have := HQ.out; omega) (fun i hi => by have := HQ.out.2.2.1 i hi; omega) h1.2
        have HVE : Hid (∀ w', CG w' → Below w.heap.size w w' → Calls Tryd.prog 37 #[.slice oa n cn, .slice oq qb cb, .agg CA] w' fun e w'' => e = .returned (.bool (decide (qb = qa) && eqS (hs n K LB GB qb) (hs n K LA GA qa))) ∧ Below w'.heap.size w' w'') := Lib.hid fun w' h1 h2 => by
          rw [← HCA.out]; exact verify_any oa n cn K oq qb cb LB GB qa (hs n K LA GA qa) w' (HKB.out _ h2) HNM.out.1 HNM.out.2.2.1 (by have := HN2.out; omega) (HBB.out _ h2) (by have := HQ.out; omega) (fun i hi => by have := HQ.out.2.2.2 i hi; omega) h1.2
        have HLI : Hid (∀ w', Below w.heap.size w w' → Calls Tryd.prog 39 #[.slice op qa ca, .slice oq qb cb] w' fun e w'' => ∃ b, e = .returned (.bool b) ∧ (b = true ↔ Same qa qb LA LB GA GB) ∧ Below w'.heap.size w' w'') := Lib.hid fun w' h2 => lists34_dec op oq qa ca qb cb LA LB GA GB w' (HAB.out _ h2) (HBB.out _ h2) HNM.out.2.2.2.1 HNM.out.2.2.2.2
        clear hCA
        go_wp2_with fail
        refine (apart_any oa n cn K op qa ca LA GA oq qb cb LB GB w2 (HKB.out _ H2.out.2) HNM.out.1 HNM.out.2.2.1 (by have := HN2.out; omega) (HAB.out _ H2.out.2) (by have := HQ.out; omega) (fun i hi => by have := HQ.out.2.2.1 i hi; omega) (HBB.out _ H2.out.2) (by have := HQ.out; omega) (fun i hi => by have := HQ.out.2.2.2 i hi; omega) H2.out.1.2).mono ?_
        rintro e w3 ⟨hb3, hd⟩
        have H3 : Hid (CG w3 ∧ Below w.heap.size w w3) := Lib.hid ⟨H2.out.1.later hb3, H2.out.2.trans (hb3.mono H2.out.2.size)⟩
        clear hb3 H2
        rcases hd with ⟨i, o1, c1, o2, c2, hi, rfl, hB1, hB2, hc1, hc2, hne, hqq, hee, hei⟩ | ⟨rfl, hd⟩
        · obtain ⟨m1, hm1⟩ : ∃ x, 32 + LA i = x := ⟨_, rfl⟩
          obtain ⟨m2, hm2⟩ : ∃ x, 32 + LB i = x := ⟨_, rfl⟩
          obtain ⟨F1, hF1⟩ : ∃ x, catF 32 (hs n K LA GA i) (GA i) = x := ⟨_, rfl⟩
          obtain ⟨F2, hF2⟩ : ∃ x, catF 32 (hs n K LB GB i) (GB i) = x := ⟨_, rfl⟩
          have HT : Hid (tx n K LA GA i = strF m1 F1 ∧ tx n K LB GB i = strF m2 F2 ∧ strF m1 F1 ≠ strF m2 F2 ∧ eqS (hmN n K m1 F1) (hmN n K m2 F2) = true ∧ 32 ≤ m1 ∧ m1 ≤ 4000 ∧ 32 ≤ m2 ∧ m2 ≤ 4000) := Lib.hid ⟨by rw [← hm1, ← hF1]; rfl, by rw [← hm2, ← hF2]; rfl, by rw [← hm1, ← hm2, ← hF1, ← hF2]; exact hne, by rw [← hm1, ← hm2, ← hF1, ← hF2]; exact hei, by omega, by have := HQ.out.2.2.1 i hi; omega, by omega, by have := HQ.out.2.2.2 i (by omega); omega⟩
          rw [hm1, hF1] at hB1
          rw [hm2, hF2] at hB2
          rw [hm1] at hc1
          rw [hm2] at hc2
          rw [hm1, hm2]
          have HBY : Hid (∀ w', Below w3.heap.size w3 w' → Bytes w' o1 m1 F1 ∧ Bytes w' o2 m2 F2) := Lib.hid fun w' h => ⟨hB1.later h, hB2.later h⟩
          have hno1 : o1 = none → m1 = 0 := fun e => by
            obtain ⟨_, b, off, e2, _⟩ := hB1 0 (by omega)
            rw [e] at e2; cases e2
          have hno2 : o2 = none → m2 = 0 := fun e => by
            obtain ⟨_, b, off, e2, _⟩ := hB2 0 (by omega)
            rw [e] at e2; cases e2
          have HNN : Hid (m1 ≤ c1 ∧ m2 ≤ c2 ∧ (o1 = none → m1 = 0) ∧ (o2 = none → m2 = 0)) := Lib.hid ⟨hc1, hc2, hno1, hno2⟩
          clear hno1 hno2
          have HHE : Hid ((decide (qb = qa) && eqS (hs n K LB GB qb) (hs n K LA GA qa)) = true ∧ ¬ Same qa qb LA LB GA GB) := Lib.hid ⟨by
            subst hqq
            rw [show decide (qa = qa) = true from decide_eq_true rfl, Bool.true_and]
            exact eqS_iff.2 fun k hk => (eqS_iff.1 hee k hk).symm, fun h => hne (tx_congr h.2 hi)⟩
          clear hm1 hm2 hF1 hF2 hB1 hB2 hc1 hc2 hne hqq hee hei hi
          go_wp2_with fail
          refine (HAP.out _ H3.out.1 H3.out.2).mono ?_
          rintro e w4 ⟨rfl, hb4⟩
          have H4 : Hid (CG w4 ∧ Below w.heap.size w w4 ∧ Below w3.heap.size w3 w4) := Lib.hid ⟨H3.out.1.later hb4, H3.out.2.trans (hb4.mono H3.out.2.size), hb4⟩
          clear hb4 H3
          go_wp2_with fail
          refine (HOF.out _ H4.out.1 H4.out.2.1).mono ?_
          rintro e w5 ⟨rfl, hb5⟩
          have H5 : Hid (CG w5 ∧ Below w.heap.size w w5 ∧ Below w3.heap.size w3 w5) := Lib.hid ⟨H4.out.1.later hb5, H4.out.2.1.trans (hb5.mono H4.out.2.1.size), H4.out.2.2.trans (hb5.mono H4.out.2.2.size)⟩
          clear hb5 H4
          go_wp2_with fail
          refine (HVE.out _ H5.out.1 H5.out.2.1).mono ?_
          rintro e w6 ⟨rfl, hb6⟩
          rw [HHE.out.1]
          have H6 : Hid (CG w6 ∧ Below w.heap.size w w6 ∧ Below w3.heap.size w3 w6) := Lib.hid ⟨H5.out.1.later hb6, H5.out.2.1.trans (hb6.mono H5.out.2.1.size), H5.out.2.2.trans (hb6.mono H5.out.2.2.size)⟩
          clear hb6 H5
          go_wp2_with fail
          refine (HLI.out _ H6.out.2.1).mono ?_
          rintro e w7 ⟨bb, rfl, hbb, hb7⟩
          obtain rfl : bb = false := by
            cases bb with
            | false => rfl
            | true => exact absurd (hbb.1 rfl) HHE.out.2
          have H7 : Hid (CG w7 ∧ Below w.heap.size w w7 ∧ Below w3.heap.size w3 w7) := Lib.hid ⟨H6.out.1.later hb7, H6.out.2.1.trans (hb7.mono H6.out.2.1.size), H6.out.2.2.trans (hb7.mono H6.out.2.2.size)⟩
          clear hbb hb7 H6
          have HCV1 := Lib.hid (conv_any (cap := c1) (HBY.out _ H7.out.2.2).1 HNN.out.2.2.1)
          have HCV2 := Lib.hid (conv_any (cap := c2) (HBY.out _ H7.out.2.2).2 HNN.out.2.2.2)
          obtain ⟨A, hA⟩ : ∃ x, strF m1 F1 = x := ⟨_, rfl⟩
          obtain ⟨B, hB⟩ : ∃ x, strF m2 F2 = x := ⟨_, rfl⟩
          rw [hA] at HCV1
          rw [hB] at HCV2
          have n1 : ¬ A.toList = B.toList := str_ne (by rw [← hA, ← hB]; exact HT.out.2.2.1)
          have n2 : (A.toList == B.toList) = false := by simpa using n1
          obtain ⟨M1, hM1⟩ : ∃ C, (rowC 32 (hmN n K m1 F1)).toArray = C := ⟨_, rfl⟩
          obtain ⟨M2, hM2⟩ : ∃ C, (rowC 32 (hmN n K m2 F2)).toArray = C := ⟨_, rfl⟩
          have HEQ : Hid (∀ w, (Op.equalIn 10000 63 (.agg M1) (.agg M2)).run Tryd.prog w = .ok true w) := Lib.hid fun w => by rw [← hM1, ← hM2]; have := eq32 (hmN n K m1 F1) (hmN n K m2 F2) w; rw [HT.out.2.2.2.1] at this; exact this
          have HM := Lib.hid (And.intro hM1 hM2)
          clear hA hB hM1 hM2
          go_wp2_with (first
            | (refine wpList_valueG (by kernel_rfl) (exec_convO (x := .tmp 74) rfl rfl HCV1.out) ?_)
            | (refine wpList_valueG (by kernel_rfl) (exec_convO (x := .tmp 76) rfl rfl HCV2.out) ?_))
          refine (mac_any oa o1 n cn m1 c1 K F1 w7 (HKB.out _ H7.out.2.1) HNM.out.1 HNM.out.2.2.1 (by have := HN2.out; omega) (HBY.out _ H7.out.2.2).1 HNN.out.1 (by have := HT.out; omega) H7.out.1.2).mono ?_
          rintro e w8 ⟨rfl, hb8⟩
          rw [HM.out.1]
          have H8 : Hid (CG w8 ∧ Below w.heap.size w w8 ∧ Below w3.heap.size w3 w8) := Lib.hid ⟨H7.out.1.later hb8, H7.out.2.1.trans (hb8.mono H7.out.2.1.size), H7.out.2.2.trans (hb8.mono H7.out.2.2.size)⟩
          clear hb8 H7 HCV1 HCV2
          go_wp2_with fail
          refine (mac_any oa o2 n cn m2 c2 K F2 w8 (HKB.out _ H8.out.2.1) HNM.out.1 HNM.out.2.2.1 (by have := HN2.out; omega) (HBY.out _ H8.out.2.2).2 HNN.out.2.1 (by have := HT.out; omega) H8.out.1.2).mono ?_
          rintro e w9 ⟨rfl, hb9⟩
          rw [HM.out.2]
          have H9 : Hid (CG w9 ∧ Below w.heap.size w w9) := Lib.hid ⟨H8.out.1.later hb9, H8.out.2.1.trans (hb9.mono H8.out.2.1.size)⟩
          clear hb9 H8
          go_wp2_with (first | (refine wpList_valueG (by kernel_rfl) (exec_eql32 (x := .tmp 83) (y := .tmp 86) rfl rfl rfl HEQ.out) ?_))
          refine (chain_sure w9 H9.out.1).mono ?_
          rintro e we ⟨rfl, hbe⟩
          have HO := Lib.hid (H9.out.2.trans (hbe.mono H9.out.2.size))
          clear hbe
          go_wp2_with fail
          go_ret
          exact ⟨rfl, HO.out⟩
        · have HD := Lib.hid hd
          clear hd
          go_wp2_with fail
          refine (HAP.out _ H3.out.1 H3.out.2).mono ?_
          rintro e w4 ⟨rfl, hb4⟩
          have H4 : Hid (CG w4 ∧ Below w.heap.size w w4) := Lib.hid ⟨H3.out.1.later hb4, H3.out.2.trans (hb4.mono H3.out.2.size)⟩
          clear hb4 H3
          go_wp2_with fail
          refine (HOF.out _ H4.out.1 H4.out.2).mono ?_
          rintro e w5 ⟨rfl, hb5⟩
          have H5 : Hid (CG w5 ∧ Below w.heap.size w w5) := Lib.hid ⟨H4.out.1.later hb5, H4.out.2.trans (hb5.mono H4.out.2.size)⟩
          clear hb5 H4
          go_wp2_with fail
          refine (HVE.out _ H5.out.1 H5.out.2).mono ?_
          rintro e w6 ⟨rfl, hb6⟩
          have H6 : Hid (CG w6 ∧ Below w.heap.size w w6) := Lib.hid ⟨H5.out.1.later hb6, H5.out.2.trans (hb6.mono H5.out.2.size)⟩
          clear hb6 H5
          obtain ⟨r, hr⟩ : ∃ r, (decide (qb = qa) && eqS (hs n K LB GB qb) (hs n K LA GA qa)) = r := ⟨_, rfl⟩
          rw [hr]
          cases r with
          | false =>
            clear hr
            go_wp2_with fail
            refine (chain_sure w6 H6.out.1).mono ?_
            rintro e we ⟨rfl, hbe⟩
            have HO := Lib.hid (H6.out.2.trans (hbe.mono H6.out.2.size))
            clear hbe
            go_wp2_with fail
            go_ret
            exact ⟨rfl, HO.out⟩
          | true =>
            have HSA : Hid (Same qa qb LA LB GA GB) := Lib.hid (by
              rcases HD.out with h | h
              · rw [Bool.and_eq_true] at hr
                have e1 := of_decide_eq_true hr.1
                exact absurd ⟨e1.symm, by subst e1; exact eqS_iff.2 fun k hk => (eqS_iff.1 hr.2 k hk).symm⟩ h
              · exact h)
            clear hr
            go_wp2_with fail
            refine (HLI.out _ H6.out.2).mono ?_
            rintro e w7 ⟨bb, rfl, hbb, hb7⟩
            obtain rfl : bb = true := hbb.2 HSA.out
            have H7 : Hid (CG w7 ∧ Below w.heap.size w w7) := Lib.hid ⟨H6.out.1.later hb7, H6.out.2.trans (hb7.mono H6.out.2.size)⟩
            clear hbb hb7 H6
            go_wp2_with fail
            refine (chain_sure w7 H7.out.1).mono ?_
            rintro e we ⟨rfl, hbe⟩
            have HO := Lib.hid (H7.out.2.trans (hbe.mono H7.out.2.size))
            clear hbe
            go_wp2_with fail
            go_ret
            exact ⟨rfl, HO.out⟩
end Go.Proofs.YtmabhjifldafaaaDoor
