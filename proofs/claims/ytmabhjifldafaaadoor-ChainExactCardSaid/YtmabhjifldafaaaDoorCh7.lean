/- ChainExact walked. -/
import Derived.Test.YtmabhjifldafaaaDoorCh6
import Derived.Test.YtmabhjifldafaaaDoorCh4
namespace Go.Proofs.YtmabhjifldafaaaDoor
set_option linter.unusedVariables false
set_option linter.unusedSimpArgs false
open Go.RowKit

theorem eqS_comm (f g : Nat → Nat) : eqS f g = eqS g f := by
  rw [Bool.eq_iff_iff, eqS_iff, eqS_iff]
  exact ⟨fun h i hi => (h i hi).symm, fun h i hi => (h i hi).symm⟩
set_option maxRecDepth 100000 in
set_option maxHeartbeats 16000000 in
theorem cexact_any (oa : Option Addr) (n cn : Nat) (K : Nat → Nat) (op : Option Addr) (q cq : Nat) (L : Nat → Nat) (G : Nat → Nat → Nat) (k : Nat) (S : Nat → Nat) (w : World) (hK : Bytes w oa n K) (hnc : n ≤ cn) (hcn : cn ≤ maxLen) (hno : oa = none → n = 0) (hL : LBs w op q L G) (hqc : q ≤ cq) (hcq : cq ≤ maxLen) (hk : k < 18446744073709551616) (hS : ∀ i, i < 32 → S i < 256) (hg : CG w) :
    Calls Tryd.prog 9 #[.slice oa n cn, .slice op q cq, .agg (hdL k S).toArray] w fun e w' => e = .returned (.bool true) ∧ Below w.heap.size w w' := by
  have hz1 := zero_h1
  have hz2 := zero_h2
  obtain ⟨CX, hCX⟩ : ∃ C, (hdL k S).toArray = C := ⟨_, rfl⟩
  obtain ⟨wa, hwa⟩ : ∃ x, w.alloc (.cells CX 77) = x := ⟨_, rfl⟩
  have hba : Below w.heap.size w wa := by rw [← hwa]; exact (Below.refl _ _).alloc (Nat.le_refl _) _
  have H0 : Hid (CG wa ∧ Below w.heap.size w wa ∧ Blk wa w.heap.size CX 77) := Lib.hid ⟨hg.later hba, hba, by rw [← hwa]; exact Blk.new _ _ _⟩
  have HKB : Hid (∀ w', Below w.heap.size w w' → Bytes w' oa n K) := Lib.hid fun w' h => hK.later h
  have HLB : Hid (∀ w', Below w.heap.size w w' → LBs w' op q L G) := Lib.hid fun w' h => hL.later h
  have HNM : Hid (n ≤ cn ∧ cn ≤ maxLen ∧ (oa = none → n = 0) ∧ q ≤ cq ∧ cq ≤ maxLen) := Lib.hid ⟨hnc, hcn, hno, hqc, hcq⟩
  have HKS : Hid (k < 18446744073709551616 ∧ ∀ i, i < 32 → S i < 256) := Lib.hid ⟨hk, hS⟩
  have HCX := Lib.hid hCX
  have n0 : (n : Int) ≤ 9223372036854775807 := by unfold maxLen at hcn; omega
  have n1 : (q : Int) ≤ 9223372036854775807 := by unfold maxLen at hcq; omega
  have hqm : q ≤ maxLen := Nat.le_trans hqc hcq
  rw [hCX]
  clear hCX hba hK hnc hcn hno hL hqc hcq hk hS hg
  have hcs : (200 : Int) < (n : Int) ∨ ¬ (200 : Int) < (n : Int) := by omega
  rcases hcs with g1 | g1
  · go_enter Tryd.func9, Tryd.ntmps9
    go_wp2_with fail
    refine (chain_sure wa H0.out.1).mono ?_
    rintro e we ⟨rfl, hbe⟩
    have HO := Lib.hid (H0.out.2.1.trans (hbe.mono H0.out.2.1.size))
    clear hbe
    go_wp2_with fail
    go_ret
    exact ⟨rfl, HO.out⟩
  · go_enter Tryd.func9, Tryd.ntmps9
    go_wp2_with fail
    refine (big_any34 op q cq L G wa (HLB.out _ H0.out.2.1) hqm).mono ?_
    rintro e w1 ⟨hb1, hr1⟩
    have H1 : Hid (CG w1 ∧ Below w.heap.size w w1 ∧ Blk w1 w.heap.size CX 77) := Lib.hid ⟨H0.out.1.later hb1, H0.out.2.1.trans (hb1.mono H0.out.2.1.size), Blk.below H0.out.2.2 hb1 (Blk.lt H0.out.2.2)⟩
    have HN2 : Hid (n ≤ 200) := Lib.hid (by omega)
    clear hb1 H0 hqm
    have hr1 : e = .returned (.bool true) ∨ (e = .returned (.bool false) ∧ 12 < q) ∨ (e = .returned (.bool false) ∧ q ≤ 12 ∧ ∀ i, i < q → L i ≤ 3000) := by
      rcases hr1 with h | ⟨h1, h2, h3⟩
      · exact .inl h
      · by_cases h : 12 < q
        · exact .inr (.inl ⟨h1, h⟩)
        · exact .inr (.inr ⟨h1, by omega, h3⟩)
    rcases hr1 with rfl | ⟨rfl, h12⟩ | ⟨rfl, h12, hl3⟩
    · go_wp2_with fail
      refine (chain_sure w1 H1.out.1).mono ?_
      rintro e we ⟨rfl, hbe⟩
      have HO := Lib.hid (H1.out.2.1.trans (hbe.mono H1.out.2.1.size))
      clear hbe
      go_wp2_with fail
      go_ret
      exact ⟨rfl, HO.out⟩
    · have g2 : (12 : Int) < (q : Int) := by omega
      go_wp2_with fail
      refine (chain_sure w1 H1.out.1).mono ?_
      rintro e we ⟨rfl, hbe⟩
      have HO := Lib.hid (H1.out.2.1.trans (hbe.mono H1.out.2.1.size))
      clear hbe
      go_wp2_with fail
      go_ret
      exact ⟨rfl, HO.out⟩
    · have g2 : ¬ (12 : Int) < (q : Int) := by omega
      have HQ : Hid (q ≤ 12 ∧ ∀ i, i < q → L i ≤ 3000) := Lib.hid ⟨h12, hl3⟩
      have HIX1 : Hid ((Tryd.prog.info? 65).map (·.size) = some CX.size) := Lib.hid (by rw [← HCX.out, hd_size]; exact info_h1)
      have HIX2 : Hid ((Tryd.prog.info? 77).map (·.size) = some CX.size) := Lib.hid (by rw [← HCX.out, hd_size]; exact info_h2)
      have HOX : Hid (CX.all (·.oneCell') = true) := Lib.hid (by rw [← HCX.out]; exact hd_one _ _)
      have HSX : Hid (CX.size = zeroH.size) := Lib.hid (by rw [← HCX.out, hd_size, zeroH_size])
      clear hl3 hwa
      have hq2 : q = 0 ∨ 0 < q := by omega
      rcases hq2 with h0 | h0
      · subst h0
        as_aux_lemma =>
        have KN0 : Hid (CG w1 ∧ Below w.heap.size w w1 ∧ Blk w1 w.heap.size CX 77) := Lib.hid H1.out
        have hl7 := laidHd w1 zeroH CX 65 HSX.out
        obtain ⟨w2, hn7⟩ : ∃ x, (w1.alloc (.cells zeroH 65)).setCells w1.heap.size 0 CX.toList = x := ⟨_, rfl⟩
        rw [hn7] at hl7
        have HTH7 := Lib.hid hl7.2.2
        obtain ⟨g7, hg7⟩ : ∃ x, w1.heap.size = x := ⟨_, rfl⟩
        have KN1 : Hid (CG w2 ∧ Below w.heap.size w w2 ∧ Blk w2 w.heap.size CX 77 ∧ Blk w2 g7 CX 65) := Lib.hid ⟨(KN0.out.1).later hl7.2.1, (KN0.out.2.1).trans (hl7.2.1.mono (KN0.out.2.1).size), Blk.below (KN0.out.2.2) hl7.2.1 (Blk.lt (KN0.out.2.2)), hg7 ▸ hl7.1⟩
        clear KN0
        clear hl7
        rw [hg7] at HTH7 hn7
        have HG7 := Lib.hid hg7
        have HEB : Hid (∀ w', Below w.heap.size w w' → Bytes w' none 0 (fun _ => 0)) := Lib.hid fun _ _ k hk => absurd hk (Nat.not_lt_zero _)
        have HEN : Hid (0 ≤ 0 ∧ 0 ≤ maxLen ∧ ((none : Option Addr) = none → 0 = 0) ∧ 0 ≤ 3000) := Lib.hid ⟨Nat.le_refl _, Nat.zero_le _, fun _ => rfl, by omega⟩
        go_wp2_with (first | (refine wpList_load_row rfl 77 (.tmp 5) rfl w.heap.size rfl 77 CX (0, 0) _ (H1.out.2.2) Tryd.underlying77 rfl HIX2.out ?_) | ((try rw [HG7.out]); refine wpList_store_mid rfl 65 (.tmp 7) (.tmp 31) rfl g7 0 CX rfl rfl HTH7.out HIX1.out HOX.out ?_; rw [hn7]) | (refine wpList_load_row rfl 65 (.tmp 7) rfl g7 rfl 65 CX (0, 0) _ (KN1.out.2.2.2) Tryd.underlying65 rfl HIX1.out ?_))
        obtain ⟨NN, hNN⟩ : ∃ x, nxN k = x := ⟨_, rfl⟩
        obtain ⟨NS, hNS⟩ : ∃ x, nxS n K k S 0 (fun _ => 0) = x := ⟨_, rfl⟩
        obtain ⟨NE, hNE⟩ : ∃ x, nxE k = x := ⟨_, rfl⟩
        obtain ⟨CA, hCA⟩ : ∃ C, (hdL NN NS).toArray = C := ⟨_, rfl⟩
        have HIA1 : Hid ((Tryd.prog.info? 65).map (·.size) = some CA.size) := Lib.hid (by rw [← hCA, hd_size]; exact info_h1)
        have HIA2 : Hid ((Tryd.prog.info? 77).map (·.size) = some CA.size) := Lib.hid (by rw [← hCA, hd_size]; exact info_h2)
        have HOA : Hid (CA.all (·.oneCell') = true) := Lib.hid (by rw [← hCA]; exact hd_one _ _)
        have HSA : Hid (CA.size = zeroH.size) := Lib.hid (by rw [← hCA, hd_size, zeroH_size])
        have HEQA : Hid (∀ w, (Op.equalIn 10000 65 (.agg CA) (.agg CA)).run Tryd.prog w = .ok true w) := Lib.hid fun w => by rw [← hCA]; have := eq_h1 NN NN NS NS w; rw [eqS_refl] at this; simpa using this
        have hc1 := next_any oa n cn K k S none 0 0 (fun _ => 0) w2 (HKB.out _ (KN1.out.2.1)) HNM.out.1 HNM.out.2.2.1 (by have := HN2.out; omega) HKS.out.1 HKS.out.2 (HEB.out _ (KN1.out.2.1)) (fun _ => rfl) (by have := HEN.out; omega) (KN1.out.1).2
        rw [hNN, hNS, hNE, hCA, HCX.out] at hc1
        have HNC := Lib.hid (And.intro hNN (And.intro hNS (And.intro hNE hCA)))
        clear hNN hNS hNE hCA
        refine hc1.mono ?_
        clear hc1
        rintro e w3 ⟨v10, rfl, hv10, hb3⟩
        have HV10 := Lib.hid hv10
        clear hv10 HTH7 hn7 HG7 hg7 
        have KN2 : Hid (CG w3 ∧ Below w.heap.size w w3 ∧ Blk w3 w.heap.size CX 77 ∧ Blk w3 g7 CX 65) := Lib.hid ⟨(KN1.out.1).later hb3, (KN1.out.2.1).trans (hb3.mono (KN1.out.2.1).size), Blk.below (KN1.out.2.2.1) hb3 (Blk.lt (KN1.out.2.2.1)), Blk.below (KN1.out.2.2.2) hb3 (Blk.lt (KN1.out.2.2.2))⟩
        clear KN1
        clear hb3
        have hl9 := laidHd w3 zeroH CA 65 HSA.out
        obtain ⟨w4, hn9⟩ : ∃ x, (w3.alloc (.cells zeroH 65)).setCells w3.heap.size 0 CA.toList = x := ⟨_, rfl⟩
        rw [hn9] at hl9
        have HTH9 := Lib.hid hl9.2.2
        obtain ⟨g9, hg9⟩ : ∃ x, w3.heap.size = x := ⟨_, rfl⟩
        have KN3 : Hid (CG w4 ∧ Below w.heap.size w w4 ∧ Blk w4 w.heap.size CX 77 ∧ Blk w4 g7 CX 65 ∧ Blk w4 g9 CA 65) := Lib.hid ⟨(KN2.out.1).later hl9.2.1, (KN2.out.2.1).trans (hl9.2.1.mono (KN2.out.2.1).size), Blk.below (KN2.out.2.2.1) hl9.2.1 (Blk.lt (KN2.out.2.2.1)), Blk.below (KN2.out.2.2.2) hl9.2.1 (Blk.lt (KN2.out.2.2.2)), hg9 ▸ hl9.1⟩
        clear KN2
        clear hl9
        rw [hg9] at HTH9 hn9
        have HG9 := Lib.hid hg9
        go_wp2_with (first | ((try rw [HG9.out]); refine wpList_store_mid rfl 65 (.tmp 9) (.tmp 43) rfl g9 0 CA rfl rfl HTH9.out HIA1.out HOA.out ?_; rw [hn9]) | (refine wpList_load_row rfl 77 (.tmp 5) rfl w.heap.size rfl 77 CX (0, 0) _ (KN3.out.2.2.1) Tryd.underlying77 rfl HIX2.out ?_))
        have hc1 := rnext_any oa n cn K k S none 0 0 (fun _ => 0) w4 (HKB.out _ (KN3.out.2.1)) HNM.out.1 HNM.out.2.2.1 (by have := HN2.out; omega) HKS.out.1 HKS.out.2 (HEB.out _ (KN3.out.2.1)) (fun _ => rfl) (by have := HEN.out; omega)
        rw [HNC.out.1, HNC.out.2.1, HNC.out.2.2.1, HNC.out.2.2.2, HCX.out] at hc1
        refine hc1.mono ?_
        clear hc1
        rintro e w5 ⟨rfl, hb5⟩
        clear HTH9 hn9 HG9 hg9
        have KN4 : Hid (CG w5 ∧ Below w.heap.size w w5 ∧ Blk w5 w.heap.size CX 77 ∧ Blk w5 g7 CX 65 ∧ Blk w5 g9 CA 65) := Lib.hid ⟨(KN3.out.1).later hb5, (KN3.out.2.1).trans (hb5.mono (KN3.out.2.1).size), Blk.below (KN3.out.2.2.1) hb5 (Blk.lt (KN3.out.2.2.1)), Blk.below (KN3.out.2.2.2.1) hb5 (Blk.lt (KN3.out.2.2.2.1)), Blk.below (KN3.out.2.2.2.2) hb5 (Blk.lt (KN3.out.2.2.2.2))⟩
        clear KN3
        clear hb5
        have hl11 := laidHd w5 zeroH CA 77 HSA.out
        obtain ⟨w6, hn11⟩ : ∃ x, (w5.alloc (.cells zeroH 77)).setCells w5.heap.size 0 CA.toList = x := ⟨_, rfl⟩
        rw [hn11] at hl11
        have HTH11 := Lib.hid hl11.2.2
        obtain ⟨g11, hg11⟩ : ∃ x, w5.heap.size = x := ⟨_, rfl⟩
        have KN5 : Hid (CG w6 ∧ Below w.heap.size w w6 ∧ Blk w6 w.heap.size CX 77 ∧ Blk w6 g7 CX 65 ∧ Blk w6 g9 CA 65 ∧ Blk w6 g11 CA 77) := Lib.hid ⟨(KN4.out.1).later hl11.2.1, (KN4.out.2.1).trans (hl11.2.1.mono (KN4.out.2.1).size), Blk.below (KN4.out.2.2.1) hl11.2.1 (Blk.lt (KN4.out.2.2.1)), Blk.below (KN4.out.2.2.2.1) hl11.2.1 (Blk.lt (KN4.out.2.2.2.1)), Blk.below (KN4.out.2.2.2.2) hl11.2.1 (Blk.lt (KN4.out.2.2.2.2)), hg11 ▸ hl11.1⟩
        clear KN4
        clear hl11
        rw [hg11] at HTH11 hn11
        have HG11 := Lib.hid hg11
        go_wp2_with (first | ((try rw [HG11.out]); refine wpList_store_mid rfl 77 (.tmp 11) (.tmp 50) rfl g11 0 CA rfl rfl HTH11.out HIA2.out HOA.out ?_; rw [hn11]))
        obtain ⟨CO, hCO⟩ : ∃ C, (hdL 0 (hs n K L G 0)).toArray = C := ⟨_, rfl⟩
        have HIO1 : Hid ((Tryd.prog.info? 65).map (·.size) = some CO.size) := Lib.hid (by rw [← hCO, hd_size]; exact info_h1)
        have HIO2 : Hid ((Tryd.prog.info? 77).map (·.size) = some CO.size) := Lib.hid (by rw [← hCO, hd_size]; exact info_h2)
        have HOO : Hid (CO.all (·.oneCell') = true) := Lib.hid (by rw [← hCO]; exact hd_one _ _)
        have HSO : Hid (CO.size = zeroH.size) := Lib.hid (by rw [← hCO, hd_size, zeroH_size])
        have HCO := Lib.hid hCO
        have hc1 := rof_any oa n cn K op 0 cq L G w6 (HKB.out _ (KN5.out.2.1)) HNM.out.1 HNM.out.2.2.1 (by have := HN2.out; omega) (HLB.out _ (KN5.out.2.1)) (by have := HQ.out.1; omega) (fun i hi => by have := HQ.out.2 i hi; omega)
        rw [hCO] at hc1
        clear hCO
        refine hc1.mono ?_
        clear hc1
        rintro e w7 ⟨rfl, hb7⟩
        clear HTH11 hn11 HG11 hg11
        have KN6 : Hid (CG w7 ∧ Below w.heap.size w w7 ∧ Blk w7 w.heap.size CX 77 ∧ Blk w7 g7 CX 65 ∧ Blk w7 g9 CA 65 ∧ Blk w7 g11 CA 77) := Lib.hid ⟨(KN5.out.1).later hb7, (KN5.out.2.1).trans (hb7.mono (KN5.out.2.1).size), Blk.below (KN5.out.2.2.1) hb7 (Blk.lt (KN5.out.2.2.1)), Blk.below (KN5.out.2.2.2.1) hb7 (Blk.lt (KN5.out.2.2.2.1)), Blk.below (KN5.out.2.2.2.2.1) hb7 (Blk.lt (KN5.out.2.2.2.2.1)), Blk.below (KN5.out.2.2.2.2.2) hb7 (Blk.lt (KN5.out.2.2.2.2.2))⟩
        clear KN5
        clear hb7
        have hl13 := laidHd w7 zeroH CO 77 HSO.out
        obtain ⟨w8, hn13⟩ : ∃ x, (w7.alloc (.cells zeroH 77)).setCells w7.heap.size 0 CO.toList = x := ⟨_, rfl⟩
        rw [hn13] at hl13
        have HTH13 := Lib.hid hl13.2.2
        obtain ⟨g13, hg13⟩ : ∃ x, w7.heap.size = x := ⟨_, rfl⟩
        have KN7 : Hid (CG w8 ∧ Below w.heap.size w w8 ∧ Blk w8 w.heap.size CX 77 ∧ Blk w8 g7 CX 65 ∧ Blk w8 g9 CA 65 ∧ Blk w8 g11 CA 77 ∧ Blk w8 g13 CO 77) := Lib.hid ⟨(KN6.out.1).later hl13.2.1, (KN6.out.2.1).trans (hl13.2.1.mono (KN6.out.2.1).size), Blk.below (KN6.out.2.2.1) hl13.2.1 (Blk.lt (KN6.out.2.2.1)), Blk.below (KN6.out.2.2.2.1) hl13.2.1 (Blk.lt (KN6.out.2.2.2.1)), Blk.below (KN6.out.2.2.2.2.1) hl13.2.1 (Blk.lt (KN6.out.2.2.2.2.1)), Blk.below (KN6.out.2.2.2.2.2) hl13.2.1 (Blk.lt (KN6.out.2.2.2.2.2)), hg13 ▸ hl13.1⟩
        clear KN6
        clear hl13
        rw [hg13] at HTH13 hn13
        have HG13 := Lib.hid hg13
        go_wp2_with (first | ((try rw [HG13.out]); refine wpList_store_mid rfl 77 (.tmp 13) (.tmp 54) rfl g13 0 CO rfl rfl HTH13.out HIO2.out HOO.out ?_; rw [hn13]))
        obtain ⟨CD, hCD⟩ : ∃ C, (hdL (dhN 0 (fun _ => 0)) (dhS 0 (fun _ => 0))).toArray = C := ⟨_, rfl⟩
        obtain ⟨DE, hDE⟩ : ∃ x, dhE 0 = x := ⟨_, rfl⟩
        have HID1 : Hid ((Tryd.prog.info? 65).map (·.size) = some CD.size) := Lib.hid (by rw [← hCD, hd_size]; exact info_h1)
        have HID2 : Hid ((Tryd.prog.info? 77).map (·.size) = some CD.size) := Lib.hid (by rw [← hCD, hd_size]; exact info_h2)
        have HOD : Hid (CD.all (·.oneCell') = true) := Lib.hid (by rw [← hCD]; exact hd_one _ _)
        have HSD : Hid (CD.size = zeroH.size) := Lib.hid (by rw [← hCD, hd_size, zeroH_size])
        have HEQD : Hid (∀ w, (Op.equalIn 10000 65 (.agg CD) (.agg CD)).run Tryd.prog w = .ok true w) := Lib.hid fun w => by rw [← hCD]; have := eq_h1 (dhN 0 (fun _ => 0)) (dhN 0 (fun _ => 0)) (dhS 0 (fun _ => 0)) (dhS 0 (fun _ => 0)) w; rw [eqS_refl] at this; simpa using this
        have hc1 := dec_h none 0 0 (fun _ => 0) w8 (HEB.out _ (KN7.out.2.1)) HEN.out.1 HEN.out.2.1
        rw [hCD, hDE] at hc1
        have HDC := Lib.hid (And.intro hCD hDE)
        clear hCD hDE
        refine hc1.mono ?_
        clear hc1
        rintro e w9 ⟨v15, rfl, hv15, hb9⟩
        have HV15 := Lib.hid hv15
        clear hv15 HTH13 hn13 HG13 hg13
        have KN8 : Hid (CG w9 ∧ Below w.heap.size w w9 ∧ Blk w9 w.heap.size CX 77 ∧ Blk w9 g7 CX 65 ∧ Blk w9 g9 CA 65 ∧ Blk w9 g11 CA 77 ∧ Blk w9 g13 CO 77) := Lib.hid ⟨(KN7.out.1).later hb9, (KN7.out.2.1).trans (hb9.mono (KN7.out.2.1).size), Blk.below (KN7.out.2.2.1) hb9 (Blk.lt (KN7.out.2.2.1)), Blk.below (KN7.out.2.2.2.1) hb9 (Blk.lt (KN7.out.2.2.2.1)), Blk.below (KN7.out.2.2.2.2.1) hb9 (Blk.lt (KN7.out.2.2.2.2.1)), Blk.below (KN7.out.2.2.2.2.2.1) hb9 (Blk.lt (KN7.out.2.2.2.2.2.1)), Blk.below (KN7.out.2.2.2.2.2.2) hb9 (Blk.lt (KN7.out.2.2.2.2.2.2))⟩
        clear KN7
        clear hb9
        have hl14 := laidHd w9 zeroH CD 65 HSD.out
        obtain ⟨x0, hn14⟩ : ∃ x, (w9.alloc (.cells zeroH 65)).setCells w9.heap.size 0 CD.toList = x := ⟨_, rfl⟩
        rw [hn14] at hl14
        have HTH14 := Lib.hid hl14.2.2
        obtain ⟨g14, hg14⟩ : ∃ x, w9.heap.size = x := ⟨_, rfl⟩
        have KN9 : Hid (CG x0 ∧ Below w.heap.size w x0 ∧ Blk x0 w.heap.size CX 77 ∧ Blk x0 g7 CX 65 ∧ Blk x0 g9 CA 65 ∧ Blk x0 g11 CA 77 ∧ Blk x0 g13 CO 77 ∧ Blk x0 g14 CD 65) := Lib.hid ⟨(KN8.out.1).later hl14.2.1, (KN8.out.2.1).trans (hl14.2.1.mono (KN8.out.2.1).size), Blk.below (KN8.out.2.2.1) hl14.2.1 (Blk.lt (KN8.out.2.2.1)), Blk.below (KN8.out.2.2.2.1) hl14.2.1 (Blk.lt (KN8.out.2.2.2.1)), Blk.below (KN8.out.2.2.2.2.1) hl14.2.1 (Blk.lt (KN8.out.2.2.2.2.1)), Blk.below (KN8.out.2.2.2.2.2.1) hl14.2.1 (Blk.lt (KN8.out.2.2.2.2.2.1)), Blk.below (KN8.out.2.2.2.2.2.2) hl14.2.1 (Blk.lt (KN8.out.2.2.2.2.2.2)), hg14 ▸ hl14.1⟩
        clear KN8
        clear hl14
        rw [hg14] at HTH14 hn14
        have HG14 := Lib.hid hg14
        go_wp2_with (first | ((try rw [HG14.out]); refine wpList_store_mid rfl 65 (.tmp 14) (.tmp 58) rfl g14 0 CD rfl rfl HTH14.out HID1.out HOD.out ?_; rw [hn14]))
        have hc1 := rdec_h none 0 0 (fun _ => 0) x0 (HEB.out _ (KN9.out.2.1)) HEN.out.1 HEN.out.2.1
        rw [HDC.out.1, HDC.out.2] at hc1
        refine hc1.mono ?_
        clear hc1
        rintro e x1 ⟨rfl, hb1⟩
        clear HTH14 hn14 HG14 hg14
        have KN10 : Hid (CG x1 ∧ Below w.heap.size w x1 ∧ Blk x1 w.heap.size CX 77 ∧ Blk x1 g7 CX 65 ∧ Blk x1 g9 CA 65 ∧ Blk x1 g11 CA 77 ∧ Blk x1 g13 CO 77 ∧ Blk x1 g14 CD 65) := Lib.hid ⟨(KN9.out.1).later hb1, (KN9.out.2.1).trans (hb1.mono (KN9.out.2.1).size), Blk.below (KN9.out.2.2.1) hb1 (Blk.lt (KN9.out.2.2.1)), Blk.below (KN9.out.2.2.2.1) hb1 (Blk.lt (KN9.out.2.2.2.1)), Blk.below (KN9.out.2.2.2.2.1) hb1 (Blk.lt (KN9.out.2.2.2.2.1)), Blk.below (KN9.out.2.2.2.2.2.1) hb1 (Blk.lt (KN9.out.2.2.2.2.2.1)), Blk.below (KN9.out.2.2.2.2.2.2.1) hb1 (Blk.lt (KN9.out.2.2.2.2.2.2.1)), Blk.below (KN9.out.2.2.2.2.2.2.2) hb1 (Blk.lt (KN9.out.2.2.2.2.2.2.2))⟩
        clear KN9
        clear hb1
        have hl16 := laidHd x1 zeroH CD 77 HSD.out
        obtain ⟨x2, hn16⟩ : ∃ x, (x1.alloc (.cells zeroH 77)).setCells x1.heap.size 0 CD.toList = x := ⟨_, rfl⟩
        rw [hn16] at hl16
        have HTH16 := Lib.hid hl16.2.2
        obtain ⟨g16, hg16⟩ : ∃ x, x1.heap.size = x := ⟨_, rfl⟩
        have KN11 : Hid (CG x2 ∧ Below w.heap.size w x2 ∧ Blk x2 w.heap.size CX 77 ∧ Blk x2 g7 CX 65 ∧ Blk x2 g9 CA 65 ∧ Blk x2 g11 CA 77 ∧ Blk x2 g13 CO 77 ∧ Blk x2 g14 CD 65 ∧ Blk x2 g16 CD 77) := Lib.hid ⟨(KN10.out.1).later hl16.2.1, (KN10.out.2.1).trans (hl16.2.1.mono (KN10.out.2.1).size), Blk.below (KN10.out.2.2.1) hl16.2.1 (Blk.lt (KN10.out.2.2.1)), Blk.below (KN10.out.2.2.2.1) hl16.2.1 (Blk.lt (KN10.out.2.2.2.1)), Blk.below (KN10.out.2.2.2.2.1) hl16.2.1 (Blk.lt (KN10.out.2.2.2.2.1)), Blk.below (KN10.out.2.2.2.2.2.1) hl16.2.1 (Blk.lt (KN10.out.2.2.2.2.2.1)), Blk.below (KN10.out.2.2.2.2.2.2.1) hl16.2.1 (Blk.lt (KN10.out.2.2.2.2.2.2.1)), Blk.below (KN10.out.2.2.2.2.2.2.2) hl16.2.1 (Blk.lt (KN10.out.2.2.2.2.2.2.2)), hg16 ▸ hl16.1⟩
        clear KN10
        clear hl16
        rw [hg16] at HTH16 hn16
        have HG16 := Lib.hid hg16
        go_wp2_with (first | ((try rw [HG16.out]); refine wpList_store_mid rfl 77 (.tmp 16) (.tmp 63) rfl g16 0 CD rfl rfl HTH16.out HID2.out HOD.out ?_; rw [hn16]))
        clear HTH16 hn16 HG16 hg16
        obtain ⟨r, hr⟩ : ∃ r, (decide (0 = k) && eqS (hs n K L G 0) S) = r := ⟨_, rfl⟩
        have HCG : Hid (∀ w', Below x2.heap.size x2 w' → CG w') := Lib.hid fun w' h => (KN11.out.1).later h
        have HBO : Hid (∀ w', Below x2.heap.size x2 w' → Below w.heap.size w w') := Lib.hid fun w' h => (KN11.out.2.1).trans (h.mono (KN11.out.2.1).size)
        have HEQO : Hid (∀ w, (Op.equalIn 10000 65 (.agg CO) (.agg CO)).run Tryd.prog w = .ok true w) := Lib.hid fun w => by rw [← HCO.out]; have := eq_h1 0 0 (hs n K L G 0) (hs n K L G 0) w; rw [eqS_refl] at this; simpa using this
        have HEQX : Hid (∀ w, (Op.equalIn 10000 77 (.agg CX) (.agg CO)).run Tryd.prog w = .ok r w) := Lib.hid fun w => by
          rw [← HCO.out, ← HCX.out, ← hr]; have := eq_h2 k 0 S (hs n K L G 0) w
          rw [eqS_comm, show decide (k = 0) = decide (0 = k) from decide_eq_decide.2 ⟨Eq.symm, Eq.symm⟩] at this; exact this
        have HCOF : Hid (∀ w', Below x2.heap.size x2 w' → Calls Tryd.prog 36 #[.slice oa n cn, .slice op 0 cq] w' fun e w'' => e = .returned (.agg CO) ∧ Below w'.heap.size w' w'') := Lib.hid fun w' h => by
          rw [← HCO.out]; exact of_any oa n cn K op 0 cq L G w' (HKB.out _ (HBO.out _ h)) HNM.out.1 HNM.out.2.2.1 (by have := HN2.out; omega) (HLB.out _ (HBO.out _ h)) (by have := HQ.out.1; omega) (fun i hi => by have := HQ.out.2 i hi; omega) (HCG.out _ h).2
        have HCV1 : Hid (∀ w', Below x2.heap.size x2 w' → Calls Tryd.prog 37 #[.slice oa n cn, .slice op 0 cq, .agg CX] w' fun e w'' => e = .returned (.bool r) ∧ Below w'.heap.size w' w'') := Lib.hid fun w' h => by
          rw [← HCX.out, ← hr]; exact verify_any oa n cn K op 0 cq L G k S w' (HKB.out _ (HBO.out _ h)) HNM.out.1 HNM.out.2.2.1 (by have := HN2.out; omega) (HLB.out _ (HBO.out _ h)) (by have := HQ.out.1; omega) (fun i hi => by have := HQ.out.2 i hi; omega) (HCG.out _ h).2
        have HCV2 : Hid (∀ w', Below x2.heap.size x2 w' → Calls Tryd.prog 37 #[.slice oa n cn, .slice op 0 cq, .agg CO] w' fun e w'' => e = .returned (.bool true) ∧ Below w'.heap.size w' w'') := Lib.hid fun w' h => by
          have h9 := verify_any oa n cn K op 0 cq L G 0 (hs n K L G 0) w' (HKB.out _ (HBO.out _ h)) HNM.out.1 HNM.out.2.2.1 (by have := HN2.out; omega) (HLB.out _ (HBO.out _ h)) (by have := HQ.out.1; omega) (fun i hi => by have := HQ.out.2 i hi; omega) (HCG.out _ h).2
          rw [HCO.out, eqS_refl, show (decide (0 = 0) && true) = true from by simp] at h9; exact h9
        have HCE1 : Hid (∀ w', Calls Tryd.prog 46 #[.agg CX] w' fun e w'' => ∃ o c, e = .returned (.slice o 40 c) ∧ Bytes w'' o 40 (hdB k S) ∧ 40 ≤ c ∧ c ≤ maxLen ∧ o ≠ none ∧ Below w'.heap.size w' w'') := Lib.hid fun w' => by rw [← HCX.out]; exact enc_h k S w' HKS.out.1 HKS.out.2
        have HCE2 : Hid (∀ w', Calls Tryd.prog 47 #[.agg CX] w' fun e w'' => ∃ o c, e = .returned (.slice o 40 c) ∧ Bytes w'' o 40 (hdB k S) ∧ 40 ≤ c ∧ c ≤ maxLen ∧ o ≠ none ∧ Below w'.heap.size w' w'') := Lib.hid fun w' => by rw [← HCX.out]; exact renc_h k S w' HKS.out.1 HKS.out.2
        have H5 : Hid (Blk x2 w.heap.size CX 77) := Lib.hid (KN11.out.2.2.1)
        have H7 : Hid (Blk x2 g7 CX 65) := Lib.hid (KN11.out.2.2.2.1)
        have H9 : Hid (Blk x2 g9 CA 65) := Lib.hid (KN11.out.2.2.2.2.1)
        have H11 : Hid (Blk x2 g11 CA 77) := Lib.hid (KN11.out.2.2.2.2.2.1)
        have H13 : Hid (Blk x2 g13 CO 77) := Lib.hid (KN11.out.2.2.2.2.2.2.1)
        have H14 : Hid (Blk x2 g14 CD 65) := Lib.hid (KN11.out.2.2.2.2.2.2.2.1)
        have H16 : Hid (Blk x2 g16 CD 77) := Lib.hid (KN11.out.2.2.2.2.2.2.2.2)
        have hS_0 : Below x2.heap.size x2 x2.drew := (Below.refl _ _).drew
        clear KN11 hr hz1 hz2
        go_wp2_with fail
        refine wp_region_held_drew (S := (Below x2.heap.size x2)) (by kernel_rfl) ?_ (fun hHeld => ?_)
        · (try dsimp only)
          exact hS_0
        generalize x2.drew = W0 at *
        refine wpAnyH_take (i := 0) (oi := { dst := some 65, op := Go.Op.load 65 (Go.Operand.tmp 9), type := 65, pos := "law.go:73", after := #[], guard := none }) (v := ?_) rfl (by kernel_rfl) (by kernel_rfl) (by kernel_rfl) (fun _ _ _ h => h) (Or.inl ⟨by rfl, ?_⟩) (hS_0) ?_
        rotate_left
        · intro wS hSw
          refine exec_loadB (x := .tmp 9) (g := g9) (t := 65) ?_ ?_ (Blk.below H9.out hSw (Blk.lt H9.out)) Tryd.underlying65 rfl HIA1.out <;> rfl
        (try simp only [Act.put, List.setIfInBounds_toArray, List.set_cons_zero, List.set_cons_succ])
        refine wpAnyH_take (i := 1) (oi := { dst := some 66, op := Go.Op.load 77 (Go.Operand.tmp 11), type := 77, pos := "law.go:73", after := #[], guard := none }) (v := ?_) rfl (by kernel_rfl) (by kernel_rfl) (by kernel_rfl) (fun _ _ _ h => h) (Or.inl ⟨by rfl, ?_⟩) (hS_0) ?_
        rotate_left
        · intro wS hSw
          refine exec_loadB (x := .tmp 11) (g := g11) (t := 77) ?_ ?_ (Blk.below H11.out hSw (Blk.lt H11.out)) Tryd.underlying77 rfl HIA2.out <;> rfl
        (try simp only [Act.put, List.setIfInBounds_toArray, List.set_cons_zero, List.set_cons_succ])
        refine wpAnyH_take (i := 2) (oi := { dst := some 67, op := Go.Op.binOp Go.BinOp.eql 65 (Go.Operand.tmp 65) (Go.Operand.tmp 66) 65, type := 4, pos := "law.go:73", after := #[{ on := 0, ground := Go.Ground.data }, { on := 1, ground := Go.Ground.data }], guard := none }) (v := ?_) rfl (by kernel_rfl) (by kernel_rfl) (by kernel_rfl) (fun _ _ _ h => h) (Or.inl ⟨by rfl, ?_⟩) (hS_0) ?_
        rotate_left
        · intro wS hSw
          refine exec_eqlM (r := 65) (x := .tmp 65) (y := .tmp 66) guard_h1 ?_ ?_ ?_ HEQA.out <;> rfl
        (try simp only [Act.put, List.setIfInBounds_toArray, List.set_cons_zero, List.set_cons_succ])
        refine wpAnyH_take (i := 3) (oi := { dst := some 68, op := Go.Op.move (Go.Operand.tmp 67), type := 4, pos := "law.go:73", after := #[{ on := 2, ground := Go.Ground.data }], guard := none }) (v := ?_) rfl (by kernel_rfl) (by kernel_rfl) (by kernel_rfl) (fun _ _ _ h => h) (Or.inl ⟨by rfl, ?_⟩) (hS_0) ?_
        rotate_left
        · intro wS hSw
          (try dsimp only at hSw)
          go_simp
          (try with_reducible rfl)
        (try simp only [Act.put, List.setIfInBounds_toArray, List.set_cons_zero, List.set_cons_succ])
        refine wpAnyH_take (i := 4) (oi := { dst := some 69, op := Go.Op.move (Go.Operand.tmp 10), type := 41, pos := "law.go:73", after := #[{ on := 3, ground := Go.Ground.guard }], guard := some (3, true) }) (v := ?_) rfl (by kernel_rfl) (by kernel_rfl) (by kernel_rfl) (fun _ _ _ h => h) (Or.inl ⟨by rfl, ?_⟩) (hS_0) ?_
        rotate_left
        · intro wS hSw
          (try dsimp only at hSw)
          go_simp
          (try with_reducible rfl)
        (try simp only [Act.put, List.setIfInBounds_toArray, List.set_cons_zero, List.set_cons_succ])
        refine wpAnyH_take (i := 6) (oi := { dst := some 71, op := Go.Op.move (Go.Operand.tmp 12), type := 3, pos := "law.go:73", after := #[{ on := 3, ground := Go.Ground.guard }], guard := some (3, true) }) (v := ?_) rfl (by kernel_rfl) (by kernel_rfl) (by kernel_rfl) (fun _ _ _ h => h) (Or.inl ⟨by rfl, ?_⟩) (hS_0) ?_
        rotate_left
        · intro wS hSw
          (try dsimp only at hSw)
          go_simp
          (try with_reducible rfl)
        (try simp only [Act.put, List.setIfInBounds_toArray, List.set_cons_zero, List.set_cons_succ])
        refine wpAnyH_ready (rs := [5]) (by kernel_rfl) (by simp) ?_
        refine AllReadyH.cons (o := { dst := some 70, op := Go.Op.call { callee := Go.Callee.value (Go.Operand.func 45), args := #[Go.Operand.tmp 69], argTypes := #[41] }, type := 3, pos := "law.go:73", after := #[{ on := 4, ground := Go.Ground.data }, { on := 3, ground := Go.Ground.chain }, { on := 3, ground := Go.Ground.guard }], guard := some (3, true) }) rfl (fun K hK => ?_) AllReadyH.nil
        go_simp
        (refine (er_any34 v10 NE _ HV10.out (HCG.out _ hS_0).1).mono ?_; rintro e v_1 ⟨rfl, hb⟩; have hS_1 := hS_0.trans (hb.mono hS_0.size); (try clear hb); (try clear hS_0); skip)
        (try go_wp2_with fail)
        refine hK.out _ _ ?_ (fun hHeld => ?_)
        · (try dsimp only)
          exact hS_1
        clear hK K
        (try simp only [Act.put, List.setIfInBounds_toArray, List.set_cons_zero, List.set_cons_succ])
        refine wpAnyH_take (i := 7) (oi := { dst := some 72, op := Go.Op.binOp Go.BinOp.eql 3 (Go.Operand.tmp 70) (Go.Operand.tmp 71) 3, type := 4, pos := "law.go:73", after := #[{ on := 5, ground := Go.Ground.data }, { on := 6, ground := Go.Ground.data }, { on := 3, ground := Go.Ground.guard }], guard := some (3, true) }) (v := ?_) rfl (by kernel_rfl) (by kernel_rfl) (by kernel_rfl) (fun _ _ _ h => h) (Or.inl ⟨by rfl, ?_⟩) (hS_1) ?_
        rotate_left
        · intro wS hSw
          (try dsimp only at hSw)
          go_simp
          (try with_reducible rfl)
        (try simp only [Act.put, List.setIfInBounds_toArray, List.set_cons_zero, List.set_cons_succ])
        refine wpAnyH_take (i := 8) (oi := { dst := some 73, op := Go.Op.pick (Go.Operand.tmp 68) (Go.Operand.tmp 72) (Go.Operand.const (Go.Value.bool false)), type := 4, pos := "law.go:73", after := #[{ on := 3, ground := Go.Ground.data }, { on := 7, ground := Go.Ground.data }], guard := none }) (v := ?_) rfl (by kernel_rfl) (by kernel_rfl) (by kernel_rfl) (fun _ _ _ h => h) (Or.inl ⟨by rfl, ?_⟩) (hS_1) ?_
        rotate_left
        · intro wS hSw
          (try dsimp only at hSw)
          go_simp
          (try with_reducible rfl)
        (try simp only [Act.put, List.setIfInBounds_toArray, List.set_cons_zero, List.set_cons_succ])
        refine wpAnyH_take (i := 9) (oi := { dst := some 74, op := Go.Op.move (Go.Operand.tmp 73), type := 4, pos := "law.go:73", after := #[{ on := 8, ground := Go.Ground.data }, { on := 5, ground := Go.Ground.chain }], guard := none }) (v := ?_) rfl (by kernel_rfl) (by kernel_rfl) (by kernel_rfl) (fun _ _ _ h => h) (Or.inl ⟨by rfl, ?_⟩) (hS_1) ?_
        rotate_left
        · intro wS hSw
          (try dsimp only at hSw)
          go_simp
          (try with_reducible rfl)
        (try simp only [Act.put, List.setIfInBounds_toArray, List.set_cons_zero, List.set_cons_succ])
        refine wpAnyH_take (i := 10) (oi := { dst := some 75, op := Go.Op.move (Go.Operand.tmp 0), type := 33, pos := "law.go:73", after := #[{ on := 9, ground := Go.Ground.guard }], guard := some (9, true) }) (v := ?_) rfl (by kernel_rfl) (by kernel_rfl) (by kernel_rfl) (fun _ _ _ h => h) (Or.inl ⟨by rfl, ?_⟩) (hS_1) ?_
        rotate_left
        · intro wS hSw
          (try dsimp only at hSw)
          go_simp
          (try with_reducible rfl)
        (try simp only [Act.put, List.setIfInBounds_toArray, List.set_cons_zero, List.set_cons_succ])
        refine wpAnyH_take (i := 11) (oi := { dst := some 76, op := Go.Op.move (Go.Operand.tmp 1), type := 34, pos := "law.go:73", after := #[{ on := 9, ground := Go.Ground.guard }], guard := some (9, true) }) (v := ?_) rfl (by kernel_rfl) (by kernel_rfl) (by kernel_rfl) (fun _ _ _ h => h) (Or.inl ⟨by rfl, ?_⟩) (hS_1) ?_
        rotate_left
        · intro wS hSw
          (try dsimp only at hSw)
          go_simp
          (try with_reducible rfl)
        (try simp only [Act.put, List.setIfInBounds_toArray, List.set_cons_zero, List.set_cons_succ])
        refine wpAnyH_take (i := 13) (oi := { dst := some 78, op := Go.Op.load 77 (Go.Operand.tmp 13), type := 77, pos := "law.go:73", after := #[{ on := 9, ground := Go.Ground.guard }], guard := some (9, true) }) (v := ?_) rfl (by kernel_rfl) (by kernel_rfl) (by kernel_rfl) (fun _ _ _ h => h) (Or.inl ⟨by rfl, ?_⟩) (hS_1) ?_
        rotate_left
        · intro wS hSw
          refine exec_loadB (x := .tmp 13) (g := g13) (t := 77) ?_ ?_ (Blk.below H13.out hSw (Blk.lt H13.out)) Tryd.underlying77 rfl HIO2.out <;> rfl
        (try simp only [Act.put, List.setIfInBounds_toArray, List.set_cons_zero, List.set_cons_succ])
        refine wpAnyH_ready (rs := [12]) (by kernel_rfl) (by simp) ?_
        refine AllReadyH.cons (o := { dst := some 77, op := Go.Op.call { callee := Go.Callee.value (Go.Operand.func 36), args := #[Go.Operand.tmp 75, Go.Operand.tmp 76], argTypes := #[33, 34] }, type := 65, pos := "law.go:73", after := #[{ on := 10, ground := Go.Ground.data }, { on := 11, ground := Go.Ground.data }, { on := 9, ground := Go.Ground.chain }, { on := 9, ground := Go.Ground.guard }], guard := some (9, true) }) rfl (fun K hK => ?_) AllReadyH.nil
        go_simp
        (refine (HCOF.out _ hS_1).mono ?_; rintro e v_2 ⟨rfl, hb⟩; have hS_2 := hS_1.trans (hb.mono hS_1.size); (try clear hb); (try clear hS_1); skip)
        (try go_wp2_with fail)
        refine hK.out _ _ ?_ (fun hHeld => ?_)
        · (try dsimp only)
          exact hS_2
        clear hK K
        (try simp only [Act.put, List.setIfInBounds_toArray, List.set_cons_zero, List.set_cons_succ])
        refine wpAnyH_take (i := 14) (oi := { dst := some 79, op := Go.Op.binOp Go.BinOp.eql 65 (Go.Operand.tmp 77) (Go.Operand.tmp 78) 65, type := 4, pos := "law.go:73", after := #[{ on := 12, ground := Go.Ground.data }, { on := 13, ground := Go.Ground.data }, { on := 9, ground := Go.Ground.guard }], guard := some (9, true) }) (v := ?_) rfl (by kernel_rfl) (by kernel_rfl) (by kernel_rfl) (fun _ _ _ h => h) (Or.inl ⟨by rfl, ?_⟩) (hS_2) ?_
        rotate_left
        · intro wS hSw
          refine exec_eqlM (r := 65) (x := .tmp 77) (y := .tmp 78) guard_h1 ?_ ?_ ?_ HEQO.out <;> rfl
        (try simp only [Act.put, List.setIfInBounds_toArray, List.set_cons_zero, List.set_cons_succ])
        refine wpAnyH_take (i := 15) (oi := { dst := some 80, op := Go.Op.pick (Go.Operand.tmp 74) (Go.Operand.tmp 79) (Go.Operand.const (Go.Value.bool false)), type := 4, pos := "law.go:73", after := #[{ on := 9, ground := Go.Ground.data }, { on := 14, ground := Go.Ground.data }], guard := none }) (v := ?_) rfl (by kernel_rfl) (by kernel_rfl) (by kernel_rfl) (fun _ _ _ h => h) (Or.inl ⟨by rfl, ?_⟩) (hS_2) ?_
        rotate_left
        · intro wS hSw
          (try dsimp only at hSw)
          go_simp
          (try with_reducible rfl)
        (try simp only [Act.put, List.setIfInBounds_toArray, List.set_cons_zero, List.set_cons_succ])
        refine wpAnyH_take (i := 16) (oi := { dst := some 81, op := Go.Op.move (Go.Operand.tmp 80), type := 4, pos := "law.go:73", after := #[{ on := 15, ground := Go.Ground.data }, { on := 12, ground := Go.Ground.chain }], guard := none }) (v := ?_) rfl (by kernel_rfl) (by kernel_rfl) (by kernel_rfl) (fun _ _ _ h => h) (Or.inl ⟨by rfl, ?_⟩) (hS_2) ?_
        rotate_left
        · intro wS hSw
          (try dsimp only at hSw)
          go_simp
          (try with_reducible rfl)
        (try simp only [Act.put, List.setIfInBounds_toArray, List.set_cons_zero, List.set_cons_succ])
        refine wpAnyH_take (i := 17) (oi := { dst := some 82, op := Go.Op.move (Go.Operand.tmp 0), type := 33, pos := "law.go:73", after := #[{ on := 16, ground := Go.Ground.guard }], guard := some (16, true) }) (v := ?_) rfl (by kernel_rfl) (by kernel_rfl) (by kernel_rfl) (fun _ _ _ h => h) (Or.inl ⟨by rfl, ?_⟩) (hS_2) ?_
        rotate_left
        · intro wS hSw
          (try dsimp only at hSw)
          go_simp
          (try with_reducible rfl)
        (try simp only [Act.put, List.setIfInBounds_toArray, List.set_cons_zero, List.set_cons_succ])
        refine wpAnyH_take (i := 18) (oi := { dst := some 83, op := Go.Op.move (Go.Operand.tmp 1), type := 34, pos := "law.go:73", after := #[{ on := 16, ground := Go.Ground.guard }], guard := some (16, true) }) (v := ?_) rfl (by kernel_rfl) (by kernel_rfl) (by kernel_rfl) (fun _ _ _ h => h) (Or.inl ⟨by rfl, ?_⟩) (hS_2) ?_
        rotate_left
        · intro wS hSw
          (try dsimp only at hSw)
          go_simp
          (try with_reducible rfl)
        (try simp only [Act.put, List.setIfInBounds_toArray, List.set_cons_zero, List.set_cons_succ])
        refine wpAnyH_take (i := 19) (oi := { dst := some 84, op := Go.Op.load 65 (Go.Operand.tmp 7), type := 65, pos := "law.go:73", after := #[{ on := 16, ground := Go.Ground.guard }], guard := some (16, true) }) (v := ?_) rfl (by kernel_rfl) (by kernel_rfl) (by kernel_rfl) (fun _ _ _ h => h) (Or.inl ⟨by rfl, ?_⟩) (hS_2) ?_
        rotate_left
        · intro wS hSw
          refine exec_loadB (x := .tmp 7) (g := g7) (t := 65) ?_ ?_ (Blk.below H7.out hSw (Blk.lt H7.out)) Tryd.underlying65 rfl HIX1.out <;> rfl
        (try simp only [Act.put, List.setIfInBounds_toArray, List.set_cons_zero, List.set_cons_succ])
        refine wpAnyH_take (i := 21) (oi := { dst := some 86, op := Go.Op.load 77 (Go.Operand.tmp 5), type := 77, pos := "law.go:73", after := #[{ on := 16, ground := Go.Ground.guard }], guard := some (16, true) }) (v := ?_) rfl (by kernel_rfl) (by kernel_rfl) (by kernel_rfl) (fun _ _ _ h => h) (Or.inl ⟨by rfl, ?_⟩) (hS_2) ?_
        rotate_left
        · intro wS hSw
          refine exec_loadB (x := .tmp 5) (g := w.heap.size) (t := 77) ?_ ?_ (Blk.below H5.out hSw (Blk.lt H5.out)) Tryd.underlying77 rfl HIX2.out <;> rfl
        (try simp only [Act.put, List.setIfInBounds_toArray, List.set_cons_zero, List.set_cons_succ])
        refine wpAnyH_take (i := 22) (oi := { dst := some 87, op := Go.Op.load 77 (Go.Operand.tmp 13), type := 77, pos := "law.go:73", after := #[{ on := 16, ground := Go.Ground.guard }], guard := some (16, true) }) (v := ?_) rfl (by kernel_rfl) (by kernel_rfl) (by kernel_rfl) (fun _ _ _ h => h) (Or.inl ⟨by rfl, ?_⟩) (hS_2) ?_
        rotate_left
        · intro wS hSw
          refine exec_loadB (x := .tmp 13) (g := g13) (t := 77) ?_ ?_ (Blk.below H13.out hSw (Blk.lt H13.out)) Tryd.underlying77 rfl HIO2.out <;> rfl
        (try simp only [Act.put, List.setIfInBounds_toArray, List.set_cons_zero, List.set_cons_succ])
        refine wpAnyH_take (i := 23) (oi := { dst := some 88, op := Go.Op.binOp Go.BinOp.eql 77 (Go.Operand.tmp 86) (Go.Operand.tmp 87) 77, type := 4, pos := "law.go:73", after := #[{ on := 21, ground := Go.Ground.data }, { on := 22, ground := Go.Ground.data }, { on := 16, ground := Go.Ground.guard }], guard := some (16, true) }) (v := ?_) rfl (by kernel_rfl) (by kernel_rfl) (by kernel_rfl) (fun _ _ _ h => h) (Or.inl ⟨by rfl, ?_⟩) (hS_2) ?_
        rotate_left
        · intro wS hSw
          refine exec_eqlM (r := 77) (x := .tmp 86) (y := .tmp 87) guard_h2 ?_ ?_ ?_ HEQX.out <;> rfl
        (try simp only [Act.put, List.setIfInBounds_toArray, List.set_cons_zero, List.set_cons_succ])
        refine wpAnyH_ready (rs := [20]) (by kernel_rfl) (by simp) ?_
        refine AllReadyH.cons (o := { dst := some 85, op := Go.Op.call { callee := Go.Callee.value (Go.Operand.func 37), args := #[Go.Operand.tmp 82, Go.Operand.tmp 83, Go.Operand.tmp 84], argTypes := #[33, 34, 65] }, type := 4, pos := "law.go:73", after := #[{ on := 17, ground := Go.Ground.data }, { on := 18, ground := Go.Ground.data }, { on := 19, ground := Go.Ground.data }, { on := 16, ground := Go.Ground.chain }, { on := 16, ground := Go.Ground.guard }], guard := some (16, true) }) rfl (fun K hK => ?_) AllReadyH.nil
        go_simp
        (refine (HCV1.out _ hS_2).mono ?_; rintro e v_3 ⟨rfl, hb⟩; have hS_3 := hS_2.trans (hb.mono hS_2.size); (try clear hb); (try clear hS_2); skip)
        (try go_wp2_with fail)
        refine hK.out _ _ ?_ (fun hHeld => ?_)
        · (try dsimp only)
          exact hS_3
        clear hK K
        (try simp only [Act.put, List.setIfInBounds_toArray, List.set_cons_zero, List.set_cons_succ])
        refine wpAnyH_take (i := 24) (oi := { dst := some 89, op := Go.Op.binOp Go.BinOp.eql 4 (Go.Operand.tmp 85) (Go.Operand.tmp 88) 4, type := 4, pos := "law.go:73", after := #[{ on := 20, ground := Go.Ground.data }, { on := 23, ground := Go.Ground.data }, { on := 16, ground := Go.Ground.guard }], guard := some (16, true) }) (v := ?_) rfl (by kernel_rfl) (by kernel_rfl) (by kernel_rfl) (fun _ _ _ h => h) (Or.inl ⟨by rfl, ?_⟩) (hS_3) ?_
        rotate_left
        · intro wS hSw
          (try dsimp only at hSw)
          go_simp
          (try with_reducible rfl)
        (try simp only [Act.put, List.setIfInBounds_toArray, List.set_cons_zero, List.set_cons_succ])
        refine wpAnyH_take (i := 25) (oi := { dst := some 90, op := Go.Op.pick (Go.Operand.tmp 81) (Go.Operand.tmp 89) (Go.Operand.const (Go.Value.bool false)), type := 4, pos := "law.go:73", after := #[{ on := 16, ground := Go.Ground.data }, { on := 24, ground := Go.Ground.data }], guard := none }) (v := ?_) rfl (by kernel_rfl) (by kernel_rfl) (by kernel_rfl) (fun _ _ _ h => h) (Or.inl ⟨by rfl, ?_⟩) (hS_3) ?_
        rotate_left
        · intro wS hSw
          (try dsimp only at hSw)
          go_simp
          (try with_reducible rfl)
        (try simp only [Act.put, List.setIfInBounds_toArray, List.set_cons_zero, List.set_cons_succ])
        refine wpAnyH_take (i := 26) (oi := { dst := some 91, op := Go.Op.move (Go.Operand.tmp 90), type := 4, pos := "law.go:73", after := #[{ on := 25, ground := Go.Ground.data }, { on := 20, ground := Go.Ground.chain }], guard := none }) (v := ?_) rfl (by kernel_rfl) (by kernel_rfl) (by kernel_rfl) (fun _ _ _ h => h) (Or.inl ⟨by rfl, ?_⟩) (hS_3) ?_
        rotate_left
        · intro wS hSw
          (try dsimp only at hSw)
          go_simp
          (try with_reducible rfl)
        (try simp only [Act.put, List.setIfInBounds_toArray, List.set_cons_zero, List.set_cons_succ])
        refine wpAnyH_take (i := 27) (oi := { dst := some 92, op := Go.Op.move (Go.Operand.tmp 0), type := 33, pos := "law.go:73", after := #[{ on := 26, ground := Go.Ground.guard }], guard := some (26, true) }) (v := ?_) rfl (by kernel_rfl) (by kernel_rfl) (by kernel_rfl) (fun _ _ _ h => h) (Or.inl ⟨by rfl, ?_⟩) (hS_3) ?_
        rotate_left
        · intro wS hSw
          (try dsimp only at hSw)
          go_simp
          (try with_reducible rfl)
        (try simp only [Act.put, List.setIfInBounds_toArray, List.set_cons_zero, List.set_cons_succ])
        refine wpAnyH_take (i := 28) (oi := { dst := some 93, op := Go.Op.move (Go.Operand.tmp 1), type := 34, pos := "law.go:73", after := #[{ on := 26, ground := Go.Ground.guard }], guard := some (26, true) }) (v := ?_) rfl (by kernel_rfl) (by kernel_rfl) (by kernel_rfl) (fun _ _ _ h => h) (Or.inl ⟨by rfl, ?_⟩) (hS_3) ?_
        rotate_left
        · intro wS hSw
          (try dsimp only at hSw)
          go_simp
          (try with_reducible rfl)
        (try simp only [Act.put, List.setIfInBounds_toArray, List.set_cons_zero, List.set_cons_succ])
        refine wpAnyH_take (i := 29) (oi := { dst := some 94, op := Go.Op.load 77 (Go.Operand.tmp 13), type := 77, pos := "law.go:73", after := #[{ on := 26, ground := Go.Ground.guard }], guard := some (26, true) }) (v := ?_) rfl (by kernel_rfl) (by kernel_rfl) (by kernel_rfl) (fun _ _ _ h => h) (Or.inl ⟨by rfl, ?_⟩) (hS_3) ?_
        rotate_left
        · intro wS hSw
          refine exec_loadB (x := .tmp 13) (g := g13) (t := 77) ?_ ?_ (Blk.below H13.out hSw (Blk.lt H13.out)) Tryd.underlying77 rfl HIO2.out <;> rfl
        (try simp only [Act.put, List.setIfInBounds_toArray, List.set_cons_zero, List.set_cons_succ])
        refine wpAnyH_ready (rs := [30]) (by kernel_rfl) (by simp) ?_
        refine AllReadyH.cons (o := { dst := some 95, op := Go.Op.call { callee := Go.Callee.value (Go.Operand.func 37), args := #[Go.Operand.tmp 92, Go.Operand.tmp 93, Go.Operand.tmp 94], argTypes := #[33, 34, 65] }, type := 4, pos := "law.go:73", after := #[{ on := 27, ground := Go.Ground.data }, { on := 28, ground := Go.Ground.data }, { on := 29, ground := Go.Ground.data }, { on := 26, ground := Go.Ground.chain }, { on := 26, ground := Go.Ground.guard }], guard := some (26, true) }) rfl (fun K hK => ?_) AllReadyH.nil
        go_simp
        (refine (HCV2.out _ hS_3).mono ?_; rintro e v_4 ⟨rfl, hb⟩; have hS_4 := hS_3.trans (hb.mono hS_3.size); (try clear hb); (try clear hS_3); skip)
        (try go_wp2_with fail)
        refine hK.out _ _ ?_ (fun hHeld => ?_)
        · (try dsimp only)
          exact hS_4
        clear hK K
        (try simp only [Act.put, List.setIfInBounds_toArray, List.set_cons_zero, List.set_cons_succ])
        refine wpAnyH_take (i := 31) (oi := { dst := some 96, op := Go.Op.pick (Go.Operand.tmp 91) (Go.Operand.tmp 95) (Go.Operand.const (Go.Value.bool false)), type := 4, pos := "law.go:73", after := #[{ on := 26, ground := Go.Ground.data }, { on := 30, ground := Go.Ground.data }], guard := none }) (v := ?_) rfl (by kernel_rfl) (by kernel_rfl) (by kernel_rfl) (fun _ _ _ h => h) (Or.inl ⟨by rfl, ?_⟩) (hS_4) ?_
        rotate_left
        · intro wS hSw
          (try dsimp only at hSw)
          go_simp
          (try with_reducible rfl)
        (try simp only [Act.put, List.setIfInBounds_toArray, List.set_cons_zero, List.set_cons_succ])
        refine wpAnyH_take (i := 32) (oi := { dst := some 97, op := Go.Op.move (Go.Operand.tmp 96), type := 4, pos := "law.go:73", after := #[{ on := 31, ground := Go.Ground.data }, { on := 30, ground := Go.Ground.chain }], guard := none }) (v := ?_) rfl (by kernel_rfl) (by kernel_rfl) (by kernel_rfl) (fun _ _ _ h => h) (Or.inl ⟨by rfl, ?_⟩) (hS_4) ?_
        rotate_left
        · intro wS hSw
          (try dsimp only at hSw)
          go_simp
          (try with_reducible rfl)
        (try simp only [Act.put, List.setIfInBounds_toArray, List.set_cons_zero, List.set_cons_succ])
        refine wpAnyH_take (i := 33) (oi := { dst := some 98, op := Go.Op.load 65 (Go.Operand.tmp 7), type := 65, pos := "law.go:73", after := #[{ on := 32, ground := Go.Ground.guard }], guard := some (32, true) }) (v := ?_) rfl (by kernel_rfl) (by kernel_rfl) (by kernel_rfl) (fun _ _ _ h => h) (Or.inl ⟨by rfl, ?_⟩) (hS_4) ?_
        rotate_left
        · intro wS hSw
          refine exec_loadB (x := .tmp 7) (g := g7) (t := 65) ?_ ?_ (Blk.below H7.out hSw (Blk.lt H7.out)) Tryd.underlying65 rfl HIX1.out <;> rfl
        (try simp only [Act.put, List.setIfInBounds_toArray, List.set_cons_zero, List.set_cons_succ])
        refine wpAnyH_take (i := 36) (oi := { dst := some 101, op := Go.Op.load 77 (Go.Operand.tmp 5), type := 77, pos := "law.go:73", after := #[{ on := 32, ground := Go.Ground.guard }], guard := some (32, true) }) (v := ?_) rfl (by kernel_rfl) (by kernel_rfl) (by kernel_rfl) (fun _ _ _ h => h) (Or.inl ⟨by rfl, ?_⟩) (hS_4) ?_
        rotate_left
        · intro wS hSw
          refine exec_loadB (x := .tmp 5) (g := w.heap.size) (t := 77) ?_ ?_ (Blk.below H5.out hSw (Blk.lt H5.out)) Tryd.underlying77 rfl HIX2.out <;> rfl
        (try simp only [Act.put, List.setIfInBounds_toArray, List.set_cons_zero, List.set_cons_succ])
        refine wpAnyH_ready (rs := [34]) (by kernel_rfl) (by simp) ?_
        refine AllReadyH.cons (o := { dst := some 99, op := Go.Op.call { callee := Go.Callee.value (Go.Operand.func 46), args := #[Go.Operand.tmp 98], argTypes := #[65] }, type := 33, pos := "law.go:73", after := #[{ on := 33, ground := Go.Ground.data }, { on := 32, ground := Go.Ground.chain }, { on := 32, ground := Go.Ground.guard }], guard := some (32, true) }) rfl (fun K hK => ?_) AllReadyH.nil
        go_simp
        (refine (HCE1.out _).mono ?_; rintro e v_5 ⟨o1, c1, rfl, hE1_5, -, -, hno1, hb⟩; have hS_5 := hS_4.trans (hb.mono hS_4.size); have ho1 : o1 = none → 40 = 0 := (fun e => absurd e hno1); clear hno1; (try clear hb); (try clear hS_4); skip)
        (try go_wp2_with fail)
        refine hK.out _ _ ?_ (fun hHeld => ?_)
        · (try dsimp only)
          exact hS_5
        clear hK K
        (try simp only [Act.put, List.setIfInBounds_toArray, List.set_cons_zero, List.set_cons_succ])
        apply join_lem
        · intro key0
          refine wpAnyH_ready (rs := [35, 37]) (by kernel_rfl) (by simp) ?_
          refine AllReadyH.cons (o := { dst := some 100, op := Go.Op.convert 33 9 (Go.Operand.tmp 99), type := 9, pos := "law.go:73", after := #[{ on := 34, ground := Go.Ground.data }, { on := 32, ground := Go.Ground.guard }], guard := some (32, true) }) rfl (fun K hK => ?_) ?_
          · skip
            (refine step_valueG (v := .string (strF 40 (hdB k S))) (by kernel_rfl) (exec_convO (x := .tmp 99) (by rfl) (by rfl) (conv_any hE1_5 (ho1))) ?_)
            refine hK.out _ _ ?_ (fun hHeld => ?_)
            · (try dsimp only)
              exact hS_5
            clear hK K
            (try simp only [Act.put, List.setIfInBounds_toArray, List.set_cons_zero, List.set_cons_succ])
            refine wpAnyH_ready (rs := [37]) (by kernel_rfl) (by simp) ?_
            refine AllReadyH.cons (o := { dst := some 102, op := Go.Op.call { callee := Go.Callee.value (Go.Operand.func 47), args := #[Go.Operand.tmp 101], argTypes := #[77] }, type := 33, pos := "law.go:73", after := #[{ on := 36, ground := Go.Ground.data }, { on := 34, ground := Go.Ground.chain }, { on := 32, ground := Go.Ground.guard }], guard := some (32, true) }) rfl (fun K hK => ?_) AllReadyH.nil
            go_simp
            (refine (HCE2.out _).mono ?_; rintro e v_7 ⟨o2, c2, rfl, hE2_7, -, -, hno2, hb⟩; have hS_7 := hS_5.trans (hb.mono hS_5.size); have hE1_7 := hE1_5.later hb; have ho2 : o2 = none → 40 = 0 := (fun e => absurd e hno2); clear hno2; (try clear hb); (try clear hE1_5); (try clear hS_5); skip)
            (try go_wp2_with fail)
            refine hK.out _ _ ?_ (fun hHeld => ?_)
            · (try dsimp only)
              exact hS_7
            clear hK K
            (try simp only [Act.put, List.setIfInBounds_toArray, List.set_cons_zero, List.set_cons_succ])
            refine wpAnyH_ready (rs := [38]) (by kernel_rfl) (by simp) ?_
            refine AllReadyH.cons (o := { dst := some 103, op := Go.Op.convert 33 9 (Go.Operand.tmp 102), type := 9, pos := "law.go:73", after := #[{ on := 37, ground := Go.Ground.data }, { on := 32, ground := Go.Ground.guard }], guard := some (32, true) }) rfl (fun K hK => ?_) AllReadyH.nil
            (refine step_valueG (v := .string (strF 40 (hdB k S))) (by kernel_rfl) (exec_convO (x := .tmp 102) (by rfl) (by rfl) (conv_any hE2_7 (ho2))) ?_)
            refine hK.out _ _ ?_ (fun hHeld => ?_)
            · (try dsimp only)
              exact hS_7
            clear hK K
            (try simp only [Act.put, List.setIfInBounds_toArray, List.set_cons_zero, List.set_cons_succ])
            refine wpAnyH_take (i := 39) (oi := { dst := some 104, op := Go.Op.binOp Go.BinOp.eql 9 (Go.Operand.tmp 100) (Go.Operand.tmp 103) 9, type := 4, pos := "law.go:73", after := #[{ on := 35, ground := Go.Ground.data }, { on := 38, ground := Go.Ground.data }, { on := 32, ground := Go.Ground.guard }], guard := some (32, true) }) (v := ?_) rfl (by kernel_rfl) (by kernel_rfl) (by kernel_rfl) (fun _ _ _ h => h) (Or.inl ⟨by rfl, ?_⟩) (hS_7) ?_
            rotate_left
            · intro wS hSw
              (try dsimp only at hSw)
              go_simp
              (try with_reducible rfl)
            (try simp only [Act.put, List.setIfInBounds_toArray, List.set_cons_zero, List.set_cons_succ])
            refine wpAnyH_take (i := 40) (oi := { dst := some 105, op := Go.Op.pick (Go.Operand.tmp 97) (Go.Operand.tmp 104) (Go.Operand.const (Go.Value.bool false)), type := 4, pos := "law.go:73", after := #[{ on := 32, ground := Go.Ground.data }, { on := 39, ground := Go.Ground.data }], guard := none }) (v := ?_) rfl (by kernel_rfl) (by kernel_rfl) (by kernel_rfl) (fun _ _ _ h => h) (Or.inl ⟨by rfl, ?_⟩) (hS_7) ?_
            rotate_left
            · intro wS hSw
              (try dsimp only at hSw)
              go_simp
              (try with_reducible rfl)
            (try simp only [Act.put, List.setIfInBounds_toArray, List.set_cons_zero, List.set_cons_succ])
            refine wpAnyH_take (i := 41) (oi := { dst := some 106, op := Go.Op.move (Go.Operand.tmp 105), type := 4, pos := "law.go:73", after := #[{ on := 40, ground := Go.Ground.data }, { on := 37, ground := Go.Ground.chain }], guard := none }) (v := ?_) rfl (by kernel_rfl) (by kernel_rfl) (by kernel_rfl) (fun _ _ _ h => h) (Or.inl ⟨by rfl, ?_⟩) (hS_7) ?_
            rotate_left
            · intro wS hSw
              (try dsimp only at hSw)
              go_simp
              (try with_reducible rfl)
            (try simp only [Act.put, List.setIfInBounds_toArray, List.set_cons_zero, List.set_cons_succ])
            refine wpAnyH_take (i := 42) (oi := { dst := some 107, op := Go.Op.load 65 (Go.Operand.tmp 14), type := 65, pos := "law.go:73", after := #[{ on := 41, ground := Go.Ground.guard }], guard := some (41, true) }) (v := ?_) rfl (by kernel_rfl) (by kernel_rfl) (by kernel_rfl) (fun _ _ _ h => h) (Or.inl ⟨by rfl, ?_⟩) (hS_7) ?_
            rotate_left
            · intro wS hSw
              refine exec_loadB (x := .tmp 14) (g := g14) (t := 65) ?_ ?_ (Blk.below H14.out hSw (Blk.lt H14.out)) Tryd.underlying65 rfl HID1.out <;> rfl
            (try simp only [Act.put, List.setIfInBounds_toArray, List.set_cons_zero, List.set_cons_succ])
            refine wpAnyH_take (i := 43) (oi := { dst := some 108, op := Go.Op.load 77 (Go.Operand.tmp 16), type := 77, pos := "law.go:73", after := #[{ on := 41, ground := Go.Ground.guard }], guard := some (41, true) }) (v := ?_) rfl (by kernel_rfl) (by kernel_rfl) (by kernel_rfl) (fun _ _ _ h => h) (Or.inl ⟨by rfl, ?_⟩) (hS_7) ?_
            rotate_left
            · intro wS hSw
              refine exec_loadB (x := .tmp 16) (g := g16) (t := 77) ?_ ?_ (Blk.below H16.out hSw (Blk.lt H16.out)) Tryd.underlying77 rfl HID2.out <;> rfl
            (try simp only [Act.put, List.setIfInBounds_toArray, List.set_cons_zero, List.set_cons_succ])
            refine wpAnyH_take (i := 44) (oi := { dst := some 109, op := Go.Op.binOp Go.BinOp.eql 65 (Go.Operand.tmp 107) (Go.Operand.tmp 108) 65, type := 4, pos := "law.go:73", after := #[{ on := 42, ground := Go.Ground.data }, { on := 43, ground := Go.Ground.data }, { on := 41, ground := Go.Ground.guard }], guard := some (41, true) }) (v := ?_) rfl (by kernel_rfl) (by kernel_rfl) (by kernel_rfl) (fun _ _ _ h => h) (Or.inl ⟨by rfl, ?_⟩) (hS_7) ?_
            rotate_left
            · intro wS hSw
              refine exec_eqlM (r := 65) (x := .tmp 107) (y := .tmp 108) guard_h1 ?_ ?_ ?_ HEQD.out <;> rfl
            (try simp only [Act.put, List.setIfInBounds_toArray, List.set_cons_zero, List.set_cons_succ])
            refine wpAnyH_take (i := 45) (oi := { dst := some 110, op := Go.Op.pick (Go.Operand.tmp 106) (Go.Operand.tmp 109) (Go.Operand.const (Go.Value.bool false)), type := 4, pos := "law.go:73", after := #[{ on := 41, ground := Go.Ground.data }, { on := 44, ground := Go.Ground.data }], guard := none }) (v := ?_) rfl (by kernel_rfl) (by kernel_rfl) (by kernel_rfl) (fun _ _ _ h => h) (Or.inl ⟨by rfl, ?_⟩) (hS_7) ?_
            rotate_left
            · intro wS hSw
              (try dsimp only at hSw)
              go_simp
              (try with_reducible rfl)
            (try simp only [Act.put, List.setIfInBounds_toArray, List.set_cons_zero, List.set_cons_succ])
            refine wpAnyH_take (i := 46) (oi := { dst := some 111, op := Go.Op.move (Go.Operand.tmp 110), type := 4, pos := "law.go:73", after := #[{ on := 45, ground := Go.Ground.data }, { on := 41, ground := Go.Ground.chain }], guard := none }) (v := ?_) rfl (by kernel_rfl) (by kernel_rfl) (by kernel_rfl) (fun _ _ _ h => h) (Or.inl ⟨by rfl, ?_⟩) (hS_7) ?_
            rotate_left
            · intro wS hSw
              (try dsimp only at hSw)
              go_simp
              (try with_reducible rfl)
            (try simp only [Act.put, List.setIfInBounds_toArray, List.set_cons_zero, List.set_cons_succ])
            refine wpAnyH_take (i := 47) (oi := { dst := some 112, op := Go.Op.move (Go.Operand.tmp 15), type := 41, pos := "law.go:73", after := #[{ on := 46, ground := Go.Ground.guard }], guard := some (46, true) }) (v := ?_) rfl (by kernel_rfl) (by kernel_rfl) (by kernel_rfl) (fun _ _ _ h => h) (Or.inl ⟨by rfl, ?_⟩) (hS_7) ?_
            rotate_left
            · intro wS hSw
              (try dsimp only at hSw)
              go_simp
              (try with_reducible rfl)
            (try simp only [Act.put, List.setIfInBounds_toArray, List.set_cons_zero, List.set_cons_succ])
            refine wpAnyH_take (i := 49) (oi := { dst := some 114, op := Go.Op.move (Go.Operand.tmp 17), type := 3, pos := "law.go:73", after := #[{ on := 46, ground := Go.Ground.guard }], guard := some (46, true) }) (v := ?_) rfl (by kernel_rfl) (by kernel_rfl) (by kernel_rfl) (fun _ _ _ h => h) (Or.inl ⟨by rfl, ?_⟩) (hS_7) ?_
            rotate_left
            · intro wS hSw
              (try dsimp only at hSw)
              go_simp
              (try with_reducible rfl)
            (try simp only [Act.put, List.setIfInBounds_toArray, List.set_cons_zero, List.set_cons_succ])
            (repeat clear hHeld)
            (try clear ho2)
            (try clear hE1_0)
            (try clear hE1_1)
            (try clear hE1_2)
            (try clear hE1_3)
            (try clear hE1_4)
            (try clear hE1_5)
            (try clear hE1_6)
            (try clear hE1_7)
            (try clear hE1_8)
            (try clear hE1_9)
            (try clear hE1_10)
            (try clear hE1_11)
            (try clear hE1_12)
            (try clear hE1_13)
            (try clear hE1_14)
            (try clear hE1_15)
            (try clear hE1_16)
            (try clear hE1_17)
            (try clear hE1_18)
            (try clear hE1_19)
            (try clear hE1_20)
            (try clear hE1_21)
            (try clear hE1_22)
            (try clear hE1_23)
            (try clear hE1_24)
            (try clear hE1_25)
            (try clear hE1_26)
            (try clear hE1_27)
            (try clear hE1_28)
            (try clear hE1_29)
            (try clear hE1_30)
            (try clear hE1_31)
            (try clear hE1_32)
            (try clear hE1_33)
            (try clear hE1_34)
            (try clear hE1_35)
            (try clear hE1_36)
            (try clear hE1_37)
            (try clear hE1_38)
            (try clear hE1_39)
            (try clear hE1_40)
            (try clear hE1_41)
            (try clear hE1_42)
            (try clear hE1_43)
            (try clear hE1_44)
            (try clear hE1_45)
            (try clear hE1_46)
            (try clear hE1_47)
            (try clear hE1_48)
            (try clear hE1_49)
            (try clear hE1_50)
            (try clear hE1_51)
            (try clear hE1_52)
            (try clear hE1_53)
            (try clear hE1_54)
            (try clear hE1_55)
            (try clear hE1_56)
            (try clear hE1_57)
            (try clear hE1_58)
            (try clear hE1_59)
            (try clear hE1_60)
            (try clear hE1_61)
            (try clear hE1_62)
            (try clear hE1_63)
            (try clear hE1_64)
            (try clear hE1_65)
            (try clear hE1_66)
            (try clear hE1_67)
            (try clear hE1_68)
            (try clear hE1_69)
            (try clear hE1_70)
            (try clear hE1_71)
            (try clear hE1_72)
            (try clear hE1_73)
            (try clear hE1_74)
            (try clear hE1_75)
            (try clear hE1_76)
            (try clear hE1_77)
            (try clear hE1_78)
            (try clear hE1_79)
            (try clear hE2_0)
            (try clear hE2_1)
            (try clear hE2_2)
            (try clear hE2_3)
            (try clear hE2_4)
            (try clear hE2_5)
            (try clear hE2_6)
            (try clear hE2_7)
            (try clear hE2_8)
            (try clear hE2_9)
            (try clear hE2_10)
            (try clear hE2_11)
            (try clear hE2_12)
            (try clear hE2_13)
            (try clear hE2_14)
            (try clear hE2_15)
            (try clear hE2_16)
            (try clear hE2_17)
            (try clear hE2_18)
            (try clear hE2_19)
            (try clear hE2_20)
            (try clear hE2_21)
            (try clear hE2_22)
            (try clear hE2_23)
            (try clear hE2_24)
            (try clear hE2_25)
            (try clear hE2_26)
            (try clear hE2_27)
            (try clear hE2_28)
            (try clear hE2_29)
            (try clear hE2_30)
            (try clear hE2_31)
            (try clear hE2_32)
            (try clear hE2_33)
            (try clear hE2_34)
            (try clear hE2_35)
            (try clear hE2_36)
            (try clear hE2_37)
            (try clear hE2_38)
            (try clear hE2_39)
            (try clear hE2_40)
            (try clear hE2_41)
            (try clear hE2_42)
            (try clear hE2_43)
            (try clear hE2_44)
            (try clear hE2_45)
            (try clear hE2_46)
            (try clear hE2_47)
            (try clear hE2_48)
            (try clear hE2_49)
            (try clear hE2_50)
            (try clear hE2_51)
            (try clear hE2_52)
            (try clear hE2_53)
            (try clear hE2_54)
            (try clear hE2_55)
            (try clear hE2_56)
            (try clear hE2_57)
            (try clear hE2_58)
            (try clear hE2_59)
            (try clear hE2_60)
            (try clear hE2_61)
            (try clear hE2_62)
            (try clear hE2_63)
            (try clear hE2_64)
            (try clear hE2_65)
            (try clear hE2_66)
            (try clear hE2_67)
            (try clear hE2_68)
            (try clear hE2_69)
            (try clear hE2_70)
            (try clear hE2_71)
            (try clear hE2_72)
            (try clear hE2_73)
            (try clear hE2_74)
            (try clear hE2_75)
            (try clear hE2_76)
            (try clear hE2_77)
            (try clear hE2_78)
            (try clear hE2_79)
            revert hS_7
            revert c2
            revert o2
            revert v_7
            exact key0
          refine AllReadyH.cons (o := { dst := some 102, op := Go.Op.call { callee := Go.Callee.value (Go.Operand.func 47), args := #[Go.Operand.tmp 101], argTypes := #[77] }, type := 33, pos := "law.go:73", after := #[{ on := 36, ground := Go.Ground.data }, { on := 34, ground := Go.Ground.chain }, { on := 32, ground := Go.Ground.guard }], guard := some (32, true) }) rfl (fun K hK => ?_) AllReadyH.nil
          go_simp
          (refine (HCE2.out _).mono ?_; rintro e v_9 ⟨o2, c2, rfl, hE2_9, -, -, hno2, hb⟩; have hS_9 := hS_5.trans (hb.mono hS_5.size); have hE1_9 := hE1_5.later hb; have ho2 : o2 = none → 40 = 0 := (fun e => absurd e hno2); clear hno2; (try clear hb); (try clear hE1_5); (try clear hS_5); skip)
          (try go_wp2_with fail)
          refine hK.out _ _ ?_ (fun hHeld => ?_)
          · (try dsimp only)
            exact hS_9
          clear hK K
          (try simp only [Act.put, List.setIfInBounds_toArray, List.set_cons_zero, List.set_cons_succ])
          refine wpAnyH_ready (rs := [35, 38]) (by kernel_rfl) (by simp) ?_
          refine AllReadyH.cons (o := { dst := some 100, op := Go.Op.convert 33 9 (Go.Operand.tmp 99), type := 9, pos := "law.go:73", after := #[{ on := 34, ground := Go.Ground.data }, { on := 32, ground := Go.Ground.guard }], guard := some (32, true) }) rfl (fun K hK => ?_) ?_
          · skip
            (refine step_valueG (v := .string (strF 40 (hdB k S))) (by kernel_rfl) (exec_convO (x := .tmp 99) (by rfl) (by rfl) (conv_any hE1_9 (ho1))) ?_)
            refine hK.out _ _ ?_ (fun hHeld => ?_)
            · (try dsimp only)
              exact hS_9
            clear hK K
            (try simp only [Act.put, List.setIfInBounds_toArray, List.set_cons_zero, List.set_cons_succ])
            refine wpAnyH_ready (rs := [38]) (by kernel_rfl) (by simp) ?_
            refine AllReadyH.cons (o := { dst := some 103, op := Go.Op.convert 33 9 (Go.Operand.tmp 102), type := 9, pos := "law.go:73", after := #[{ on := 37, ground := Go.Ground.data }, { on := 32, ground := Go.Ground.guard }], guard := some (32, true) }) rfl (fun K hK => ?_) AllReadyH.nil
            (refine step_valueG (v := .string (strF 40 (hdB k S))) (by kernel_rfl) (exec_convO (x := .tmp 102) (by rfl) (by rfl) (conv_any hE2_9 (ho2))) ?_)
            refine hK.out _ _ ?_ (fun hHeld => ?_)
            · (try dsimp only)
              exact hS_9
            clear hK K
            (try simp only [Act.put, List.setIfInBounds_toArray, List.set_cons_zero, List.set_cons_succ])
            refine wpAnyH_take (i := 39) (oi := { dst := some 104, op := Go.Op.binOp Go.BinOp.eql 9 (Go.Operand.tmp 100) (Go.Operand.tmp 103) 9, type := 4, pos := "law.go:73", after := #[{ on := 35, ground := Go.Ground.data }, { on := 38, ground := Go.Ground.data }, { on := 32, ground := Go.Ground.guard }], guard := some (32, true) }) (v := ?_) rfl (by kernel_rfl) (by kernel_rfl) (by kernel_rfl) (fun _ _ _ h => h) (Or.inl ⟨by rfl, ?_⟩) (hS_9) ?_
            rotate_left
            · intro wS hSw
              (try dsimp only at hSw)
              go_simp
              (try with_reducible rfl)
            (try simp only [Act.put, List.setIfInBounds_toArray, List.set_cons_zero, List.set_cons_succ])
            refine wpAnyH_take (i := 40) (oi := { dst := some 105, op := Go.Op.pick (Go.Operand.tmp 97) (Go.Operand.tmp 104) (Go.Operand.const (Go.Value.bool false)), type := 4, pos := "law.go:73", after := #[{ on := 32, ground := Go.Ground.data }, { on := 39, ground := Go.Ground.data }], guard := none }) (v := ?_) rfl (by kernel_rfl) (by kernel_rfl) (by kernel_rfl) (fun _ _ _ h => h) (Or.inl ⟨by rfl, ?_⟩) (hS_9) ?_
            rotate_left
            · intro wS hSw
              (try dsimp only at hSw)
              go_simp
              (try with_reducible rfl)
            (try simp only [Act.put, List.setIfInBounds_toArray, List.set_cons_zero, List.set_cons_succ])
            refine wpAnyH_take (i := 41) (oi := { dst := some 106, op := Go.Op.move (Go.Operand.tmp 105), type := 4, pos := "law.go:73", after := #[{ on := 40, ground := Go.Ground.data }, { on := 37, ground := Go.Ground.chain }], guard := none }) (v := ?_) rfl (by kernel_rfl) (by kernel_rfl) (by kernel_rfl) (fun _ _ _ h => h) (Or.inl ⟨by rfl, ?_⟩) (hS_9) ?_
            rotate_left
            · intro wS hSw
              (try dsimp only at hSw)
              go_simp
              (try with_reducible rfl)
            (try simp only [Act.put, List.setIfInBounds_toArray, List.set_cons_zero, List.set_cons_succ])
            refine wpAnyH_take (i := 42) (oi := { dst := some 107, op := Go.Op.load 65 (Go.Operand.tmp 14), type := 65, pos := "law.go:73", after := #[{ on := 41, ground := Go.Ground.guard }], guard := some (41, true) }) (v := ?_) rfl (by kernel_rfl) (by kernel_rfl) (by kernel_rfl) (fun _ _ _ h => h) (Or.inl ⟨by rfl, ?_⟩) (hS_9) ?_
            rotate_left
            · intro wS hSw
              refine exec_loadB (x := .tmp 14) (g := g14) (t := 65) ?_ ?_ (Blk.below H14.out hSw (Blk.lt H14.out)) Tryd.underlying65 rfl HID1.out <;> rfl
            (try simp only [Act.put, List.setIfInBounds_toArray, List.set_cons_zero, List.set_cons_succ])
            refine wpAnyH_take (i := 43) (oi := { dst := some 108, op := Go.Op.load 77 (Go.Operand.tmp 16), type := 77, pos := "law.go:73", after := #[{ on := 41, ground := Go.Ground.guard }], guard := some (41, true) }) (v := ?_) rfl (by kernel_rfl) (by kernel_rfl) (by kernel_rfl) (fun _ _ _ h => h) (Or.inl ⟨by rfl, ?_⟩) (hS_9) ?_
            rotate_left
            · intro wS hSw
              refine exec_loadB (x := .tmp 16) (g := g16) (t := 77) ?_ ?_ (Blk.below H16.out hSw (Blk.lt H16.out)) Tryd.underlying77 rfl HID2.out <;> rfl
            (try simp only [Act.put, List.setIfInBounds_toArray, List.set_cons_zero, List.set_cons_succ])
            refine wpAnyH_take (i := 44) (oi := { dst := some 109, op := Go.Op.binOp Go.BinOp.eql 65 (Go.Operand.tmp 107) (Go.Operand.tmp 108) 65, type := 4, pos := "law.go:73", after := #[{ on := 42, ground := Go.Ground.data }, { on := 43, ground := Go.Ground.data }, { on := 41, ground := Go.Ground.guard }], guard := some (41, true) }) (v := ?_) rfl (by kernel_rfl) (by kernel_rfl) (by kernel_rfl) (fun _ _ _ h => h) (Or.inl ⟨by rfl, ?_⟩) (hS_9) ?_
            rotate_left
            · intro wS hSw
              refine exec_eqlM (r := 65) (x := .tmp 107) (y := .tmp 108) guard_h1 ?_ ?_ ?_ HEQD.out <;> rfl
            (try simp only [Act.put, List.setIfInBounds_toArray, List.set_cons_zero, List.set_cons_succ])
            refine wpAnyH_take (i := 45) (oi := { dst := some 110, op := Go.Op.pick (Go.Operand.tmp 106) (Go.Operand.tmp 109) (Go.Operand.const (Go.Value.bool false)), type := 4, pos := "law.go:73", after := #[{ on := 41, ground := Go.Ground.data }, { on := 44, ground := Go.Ground.data }], guard := none }) (v := ?_) rfl (by kernel_rfl) (by kernel_rfl) (by kernel_rfl) (fun _ _ _ h => h) (Or.inl ⟨by rfl, ?_⟩) (hS_9) ?_
            rotate_left
            · intro wS hSw
              (try dsimp only at hSw)
              go_simp
              (try with_reducible rfl)
            (try simp only [Act.put, List.setIfInBounds_toArray, List.set_cons_zero, List.set_cons_succ])
            refine wpAnyH_take (i := 46) (oi := { dst := some 111, op := Go.Op.move (Go.Operand.tmp 110), type := 4, pos := "law.go:73", after := #[{ on := 45, ground := Go.Ground.data }, { on := 41, ground := Go.Ground.chain }], guard := none }) (v := ?_) rfl (by kernel_rfl) (by kernel_rfl) (by kernel_rfl) (fun _ _ _ h => h) (Or.inl ⟨by rfl, ?_⟩) (hS_9) ?_
            rotate_left
            · intro wS hSw
              (try dsimp only at hSw)
              go_simp
              (try with_reducible rfl)
            (try simp only [Act.put, List.setIfInBounds_toArray, List.set_cons_zero, List.set_cons_succ])
            refine wpAnyH_take (i := 47) (oi := { dst := some 112, op := Go.Op.move (Go.Operand.tmp 15), type := 41, pos := "law.go:73", after := #[{ on := 46, ground := Go.Ground.guard }], guard := some (46, true) }) (v := ?_) rfl (by kernel_rfl) (by kernel_rfl) (by kernel_rfl) (fun _ _ _ h => h) (Or.inl ⟨by rfl, ?_⟩) (hS_9) ?_
            rotate_left
            · intro wS hSw
              (try dsimp only at hSw)
              go_simp
              (try with_reducible rfl)
            (try simp only [Act.put, List.setIfInBounds_toArray, List.set_cons_zero, List.set_cons_succ])
            refine wpAnyH_take (i := 49) (oi := { dst := some 114, op := Go.Op.move (Go.Operand.tmp 17), type := 3, pos := "law.go:73", after := #[{ on := 46, ground := Go.Ground.guard }], guard := some (46, true) }) (v := ?_) rfl (by kernel_rfl) (by kernel_rfl) (by kernel_rfl) (fun _ _ _ h => h) (Or.inl ⟨by rfl, ?_⟩) (hS_9) ?_
            rotate_left
            · intro wS hSw
              (try dsimp only at hSw)
              go_simp
              (try with_reducible rfl)
            (try simp only [Act.put, List.setIfInBounds_toArray, List.set_cons_zero, List.set_cons_succ])
            (repeat clear hHeld)
            (try clear ho2)
            (try clear hE1_0)
            (try clear hE1_1)
            (try clear hE1_2)
            (try clear hE1_3)
            (try clear hE1_4)
            (try clear hE1_5)
            (try clear hE1_6)
            (try clear hE1_7)
            (try clear hE1_8)
            (try clear hE1_9)
            (try clear hE1_10)
            (try clear hE1_11)
            (try clear hE1_12)
            (try clear hE1_13)
            (try clear hE1_14)
            (try clear hE1_15)
            (try clear hE1_16)
            (try clear hE1_17)
            (try clear hE1_18)
            (try clear hE1_19)
            (try clear hE1_20)
            (try clear hE1_21)
            (try clear hE1_22)
            (try clear hE1_23)
            (try clear hE1_24)
            (try clear hE1_25)
            (try clear hE1_26)
            (try clear hE1_27)
            (try clear hE1_28)
            (try clear hE1_29)
            (try clear hE1_30)
            (try clear hE1_31)
            (try clear hE1_32)
            (try clear hE1_33)
            (try clear hE1_34)
            (try clear hE1_35)
            (try clear hE1_36)
            (try clear hE1_37)
            (try clear hE1_38)
            (try clear hE1_39)
            (try clear hE1_40)
            (try clear hE1_41)
            (try clear hE1_42)
            (try clear hE1_43)
            (try clear hE1_44)
            (try clear hE1_45)
            (try clear hE1_46)
            (try clear hE1_47)
            (try clear hE1_48)
            (try clear hE1_49)
            (try clear hE1_50)
            (try clear hE1_51)
            (try clear hE1_52)
            (try clear hE1_53)
            (try clear hE1_54)
            (try clear hE1_55)
            (try clear hE1_56)
            (try clear hE1_57)
            (try clear hE1_58)
            (try clear hE1_59)
            (try clear hE1_60)
            (try clear hE1_61)
            (try clear hE1_62)
            (try clear hE1_63)
            (try clear hE1_64)
            (try clear hE1_65)
            (try clear hE1_66)
            (try clear hE1_67)
            (try clear hE1_68)
            (try clear hE1_69)
            (try clear hE1_70)
            (try clear hE1_71)
            (try clear hE1_72)
            (try clear hE1_73)
            (try clear hE1_74)
            (try clear hE1_75)
            (try clear hE1_76)
            (try clear hE1_77)
            (try clear hE1_78)
            (try clear hE1_79)
            (try clear hE2_0)
            (try clear hE2_1)
            (try clear hE2_2)
            (try clear hE2_3)
            (try clear hE2_4)
            (try clear hE2_5)
            (try clear hE2_6)
            (try clear hE2_7)
            (try clear hE2_8)
            (try clear hE2_9)
            (try clear hE2_10)
            (try clear hE2_11)
            (try clear hE2_12)
            (try clear hE2_13)
            (try clear hE2_14)
            (try clear hE2_15)
            (try clear hE2_16)
            (try clear hE2_17)
            (try clear hE2_18)
            (try clear hE2_19)
            (try clear hE2_20)
            (try clear hE2_21)
            (try clear hE2_22)
            (try clear hE2_23)
            (try clear hE2_24)
            (try clear hE2_25)
            (try clear hE2_26)
            (try clear hE2_27)
            (try clear hE2_28)
            (try clear hE2_29)
            (try clear hE2_30)
            (try clear hE2_31)
            (try clear hE2_32)
            (try clear hE2_33)
            (try clear hE2_34)
            (try clear hE2_35)
            (try clear hE2_36)
            (try clear hE2_37)
            (try clear hE2_38)
            (try clear hE2_39)
            (try clear hE2_40)
            (try clear hE2_41)
            (try clear hE2_42)
            (try clear hE2_43)
            (try clear hE2_44)
            (try clear hE2_45)
            (try clear hE2_46)
            (try clear hE2_47)
            (try clear hE2_48)
            (try clear hE2_49)
            (try clear hE2_50)
            (try clear hE2_51)
            (try clear hE2_52)
            (try clear hE2_53)
            (try clear hE2_54)
            (try clear hE2_55)
            (try clear hE2_56)
            (try clear hE2_57)
            (try clear hE2_58)
            (try clear hE2_59)
            (try clear hE2_60)
            (try clear hE2_61)
            (try clear hE2_62)
            (try clear hE2_63)
            (try clear hE2_64)
            (try clear hE2_65)
            (try clear hE2_66)
            (try clear hE2_67)
            (try clear hE2_68)
            (try clear hE2_69)
            (try clear hE2_70)
            (try clear hE2_71)
            (try clear hE2_72)
            (try clear hE2_73)
            (try clear hE2_74)
            (try clear hE2_75)
            (try clear hE2_76)
            (try clear hE2_77)
            (try clear hE2_78)
            (try clear hE2_79)
            revert hS_9
            revert c2
            revert o2
            revert v_9
            exact key0
          refine AllReadyH.cons (o := { dst := some 103, op := Go.Op.convert 33 9 (Go.Operand.tmp 102), type := 9, pos := "law.go:73", after := #[{ on := 37, ground := Go.Ground.data }, { on := 32, ground := Go.Ground.guard }], guard := some (32, true) }) rfl (fun K hK => ?_) AllReadyH.nil
          (refine step_valueG (v := .string (strF 40 (hdB k S))) (by kernel_rfl) (exec_convO (x := .tmp 102) (by rfl) (by rfl) (conv_any hE2_9 (ho2))) ?_)
          refine hK.out _ _ ?_ (fun hHeld => ?_)
          · (try dsimp only)
            exact hS_9
          clear hK K
          (try simp only [Act.put, List.setIfInBounds_toArray, List.set_cons_zero, List.set_cons_succ])
          refine wpAnyH_ready (rs := [35]) (by kernel_rfl) (by simp) ?_
          refine AllReadyH.cons (o := { dst := some 100, op := Go.Op.convert 33 9 (Go.Operand.tmp 99), type := 9, pos := "law.go:73", after := #[{ on := 34, ground := Go.Ground.data }, { on := 32, ground := Go.Ground.guard }], guard := some (32, true) }) rfl (fun K hK => ?_) AllReadyH.nil
          (refine step_valueG (v := .string (strF 40 (hdB k S))) (by kernel_rfl) (exec_convO (x := .tmp 99) (by rfl) (by rfl) (conv_any hE1_9 (ho1))) ?_)
          refine hK.out _ _ ?_ (fun hHeld => ?_)
          · (try dsimp only)
            exact hS_9
          clear hK K
          (try simp only [Act.put, List.setIfInBounds_toArray, List.set_cons_zero, List.set_cons_succ])
          refine wpAnyH_take (i := 39) (oi := { dst := some 104, op := Go.Op.binOp Go.BinOp.eql 9 (Go.Operand.tmp 100) (Go.Operand.tmp 103) 9, type := 4, pos := "law.go:73", after := #[{ on := 35, ground := Go.Ground.data }, { on := 38, ground := Go.Ground.data }, { on := 32, ground := Go.Ground.guard }], guard := some (32, true) }) (v := ?_) rfl (by kernel_rfl) (by kernel_rfl) (by kernel_rfl) (fun _ _ _ h => h) (Or.inl ⟨by rfl, ?_⟩) (hS_9) ?_
          rotate_left
          · intro wS hSw
            (try dsimp only at hSw)
            go_simp
            (try with_reducible rfl)
          (try simp only [Act.put, List.setIfInBounds_toArray, List.set_cons_zero, List.set_cons_succ])
          refine wpAnyH_take (i := 40) (oi := { dst := some 105, op := Go.Op.pick (Go.Operand.tmp 97) (Go.Operand.tmp 104) (Go.Operand.const (Go.Value.bool false)), type := 4, pos := "law.go:73", after := #[{ on := 32, ground := Go.Ground.data }, { on := 39, ground := Go.Ground.data }], guard := none }) (v := ?_) rfl (by kernel_rfl) (by kernel_rfl) (by kernel_rfl) (fun _ _ _ h => h) (Or.inl ⟨by rfl, ?_⟩) (hS_9) ?_
          rotate_left
          · intro wS hSw
            (try dsimp only at hSw)
            go_simp
            (try with_reducible rfl)
          (try simp only [Act.put, List.setIfInBounds_toArray, List.set_cons_zero, List.set_cons_succ])
          refine wpAnyH_take (i := 41) (oi := { dst := some 106, op := Go.Op.move (Go.Operand.tmp 105), type := 4, pos := "law.go:73", after := #[{ on := 40, ground := Go.Ground.data }, { on := 37, ground := Go.Ground.chain }], guard := none }) (v := ?_) rfl (by kernel_rfl) (by kernel_rfl) (by kernel_rfl) (fun _ _ _ h => h) (Or.inl ⟨by rfl, ?_⟩) (hS_9) ?_
          rotate_left
          · intro wS hSw
            (try dsimp only at hSw)
            go_simp
            (try with_reducible rfl)
          (try simp only [Act.put, List.setIfInBounds_toArray, List.set_cons_zero, List.set_cons_succ])
          refine wpAnyH_take (i := 42) (oi := { dst := some 107, op := Go.Op.load 65 (Go.Operand.tmp 14), type := 65, pos := "law.go:73", after := #[{ on := 41, ground := Go.Ground.guard }], guard := some (41, true) }) (v := ?_) rfl (by kernel_rfl) (by kernel_rfl) (by kernel_rfl) (fun _ _ _ h => h) (Or.inl ⟨by rfl, ?_⟩) (hS_9) ?_
          rotate_left
          · intro wS hSw
            refine exec_loadB (x := .tmp 14) (g := g14) (t := 65) ?_ ?_ (Blk.below H14.out hSw (Blk.lt H14.out)) Tryd.underlying65 rfl HID1.out <;> rfl
          (try simp only [Act.put, List.setIfInBounds_toArray, List.set_cons_zero, List.set_cons_succ])
          refine wpAnyH_take (i := 43) (oi := { dst := some 108, op := Go.Op.load 77 (Go.Operand.tmp 16), type := 77, pos := "law.go:73", after := #[{ on := 41, ground := Go.Ground.guard }], guard := some (41, true) }) (v := ?_) rfl (by kernel_rfl) (by kernel_rfl) (by kernel_rfl) (fun _ _ _ h => h) (Or.inl ⟨by rfl, ?_⟩) (hS_9) ?_
          rotate_left
          · intro wS hSw
            refine exec_loadB (x := .tmp 16) (g := g16) (t := 77) ?_ ?_ (Blk.below H16.out hSw (Blk.lt H16.out)) Tryd.underlying77 rfl HID2.out <;> rfl
          (try simp only [Act.put, List.setIfInBounds_toArray, List.set_cons_zero, List.set_cons_succ])
          refine wpAnyH_take (i := 44) (oi := { dst := some 109, op := Go.Op.binOp Go.BinOp.eql 65 (Go.Operand.tmp 107) (Go.Operand.tmp 108) 65, type := 4, pos := "law.go:73", after := #[{ on := 42, ground := Go.Ground.data }, { on := 43, ground := Go.Ground.data }, { on := 41, ground := Go.Ground.guard }], guard := some (41, true) }) (v := ?_) rfl (by kernel_rfl) (by kernel_rfl) (by kernel_rfl) (fun _ _ _ h => h) (Or.inl ⟨by rfl, ?_⟩) (hS_9) ?_
          rotate_left
          · intro wS hSw
            refine exec_eqlM (r := 65) (x := .tmp 107) (y := .tmp 108) guard_h1 ?_ ?_ ?_ HEQD.out <;> rfl
          (try simp only [Act.put, List.setIfInBounds_toArray, List.set_cons_zero, List.set_cons_succ])
          refine wpAnyH_take (i := 45) (oi := { dst := some 110, op := Go.Op.pick (Go.Operand.tmp 106) (Go.Operand.tmp 109) (Go.Operand.const (Go.Value.bool false)), type := 4, pos := "law.go:73", after := #[{ on := 41, ground := Go.Ground.data }, { on := 44, ground := Go.Ground.data }], guard := none }) (v := ?_) rfl (by kernel_rfl) (by kernel_rfl) (by kernel_rfl) (fun _ _ _ h => h) (Or.inl ⟨by rfl, ?_⟩) (hS_9) ?_
          rotate_left
          · intro wS hSw
            (try dsimp only at hSw)
            go_simp
            (try with_reducible rfl)
          (try simp only [Act.put, List.setIfInBounds_toArray, List.set_cons_zero, List.set_cons_succ])
          refine wpAnyH_take (i := 46) (oi := { dst := some 111, op := Go.Op.move (Go.Operand.tmp 110), type := 4, pos := "law.go:73", after := #[{ on := 45, ground := Go.Ground.data }, { on := 41, ground := Go.Ground.chain }], guard := none }) (v := ?_) rfl (by kernel_rfl) (by kernel_rfl) (by kernel_rfl) (fun _ _ _ h => h) (Or.inl ⟨by rfl, ?_⟩) (hS_9) ?_
          rotate_left
          · intro wS hSw
            (try dsimp only at hSw)
            go_simp
            (try with_reducible rfl)
          (try simp only [Act.put, List.setIfInBounds_toArray, List.set_cons_zero, List.set_cons_succ])
          refine wpAnyH_take (i := 47) (oi := { dst := some 112, op := Go.Op.move (Go.Operand.tmp 15), type := 41, pos := "law.go:73", after := #[{ on := 46, ground := Go.Ground.guard }], guard := some (46, true) }) (v := ?_) rfl (by kernel_rfl) (by kernel_rfl) (by kernel_rfl) (fun _ _ _ h => h) (Or.inl ⟨by rfl, ?_⟩) (hS_9) ?_
          rotate_left
          · intro wS hSw
            (try dsimp only at hSw)
            go_simp
            (try with_reducible rfl)
          (try simp only [Act.put, List.setIfInBounds_toArray, List.set_cons_zero, List.set_cons_succ])
          refine wpAnyH_take (i := 49) (oi := { dst := some 114, op := Go.Op.move (Go.Operand.tmp 17), type := 3, pos := "law.go:73", after := #[{ on := 46, ground := Go.Ground.guard }], guard := some (46, true) }) (v := ?_) rfl (by kernel_rfl) (by kernel_rfl) (by kernel_rfl) (fun _ _ _ h => h) (Or.inl ⟨by rfl, ?_⟩) (hS_9) ?_
          rotate_left
          · intro wS hSw
            (try dsimp only at hSw)
            go_simp
            (try with_reducible rfl)
          (try simp only [Act.put, List.setIfInBounds_toArray, List.set_cons_zero, List.set_cons_succ])
          (repeat clear hHeld)
          (try clear ho2)
          (try clear hE1_0)
          (try clear hE1_1)
          (try clear hE1_2)
          (try clear hE1_3)
          (try clear hE1_4)
          (try clear hE1_5)
          (try clear hE1_6)
          (try clear hE1_7)
          (try clear hE1_8)
          (try clear hE1_9)
          (try clear hE1_10)
          (try clear hE1_11)
          (try clear hE1_12)
          (try clear hE1_13)
          (try clear hE1_14)
          (try clear hE1_15)
          (try clear hE1_16)
          (try clear hE1_17)
          (try clear hE1_18)
          (try clear hE1_19)
          (try clear hE1_20)
          (try clear hE1_21)
          (try clear hE1_22)
          (try clear hE1_23)
          (try clear hE1_24)
          (try clear hE1_25)
          (try clear hE1_26)
          (try clear hE1_27)
          (try clear hE1_28)
          (try clear hE1_29)
          (try clear hE1_30)
          (try clear hE1_31)
          (try clear hE1_32)
          (try clear hE1_33)
          (try clear hE1_34)
          (try clear hE1_35)
          (try clear hE1_36)
          (try clear hE1_37)
          (try clear hE1_38)
          (try clear hE1_39)
          (try clear hE1_40)
          (try clear hE1_41)
          (try clear hE1_42)
          (try clear hE1_43)
          (try clear hE1_44)
          (try clear hE1_45)
          (try clear hE1_46)
          (try clear hE1_47)
          (try clear hE1_48)
          (try clear hE1_49)
          (try clear hE1_50)
          (try clear hE1_51)
          (try clear hE1_52)
          (try clear hE1_53)
          (try clear hE1_54)
          (try clear hE1_55)
          (try clear hE1_56)
          (try clear hE1_57)
          (try clear hE1_58)
          (try clear hE1_59)
          (try clear hE1_60)
          (try clear hE1_61)
          (try clear hE1_62)
          (try clear hE1_63)
          (try clear hE1_64)
          (try clear hE1_65)
          (try clear hE1_66)
          (try clear hE1_67)
          (try clear hE1_68)
          (try clear hE1_69)
          (try clear hE1_70)
          (try clear hE1_71)
          (try clear hE1_72)
          (try clear hE1_73)
          (try clear hE1_74)
          (try clear hE1_75)
          (try clear hE1_76)
          (try clear hE1_77)
          (try clear hE1_78)
          (try clear hE1_79)
          (try clear hE2_0)
          (try clear hE2_1)
          (try clear hE2_2)
          (try clear hE2_3)
          (try clear hE2_4)
          (try clear hE2_5)
          (try clear hE2_6)
          (try clear hE2_7)
          (try clear hE2_8)
          (try clear hE2_9)
          (try clear hE2_10)
          (try clear hE2_11)
          (try clear hE2_12)
          (try clear hE2_13)
          (try clear hE2_14)
          (try clear hE2_15)
          (try clear hE2_16)
          (try clear hE2_17)
          (try clear hE2_18)
          (try clear hE2_19)
          (try clear hE2_20)
          (try clear hE2_21)
          (try clear hE2_22)
          (try clear hE2_23)
          (try clear hE2_24)
          (try clear hE2_25)
          (try clear hE2_26)
          (try clear hE2_27)
          (try clear hE2_28)
          (try clear hE2_29)
          (try clear hE2_30)
          (try clear hE2_31)
          (try clear hE2_32)
          (try clear hE2_33)
          (try clear hE2_34)
          (try clear hE2_35)
          (try clear hE2_36)
          (try clear hE2_37)
          (try clear hE2_38)
          (try clear hE2_39)
          (try clear hE2_40)
          (try clear hE2_41)
          (try clear hE2_42)
          (try clear hE2_43)
          (try clear hE2_44)
          (try clear hE2_45)
          (try clear hE2_46)
          (try clear hE2_47)
          (try clear hE2_48)
          (try clear hE2_49)
          (try clear hE2_50)
          (try clear hE2_51)
          (try clear hE2_52)
          (try clear hE2_53)
          (try clear hE2_54)
          (try clear hE2_55)
          (try clear hE2_56)
          (try clear hE2_57)
          (try clear hE2_58)
          (try clear hE2_59)
          (try clear hE2_60)
          (try clear hE2_61)
          (try clear hE2_62)
          (try clear hE2_63)
          (try clear hE2_64)
          (try clear hE2_65)
          (try clear hE2_66)
          (try clear hE2_67)
          (try clear hE2_68)
          (try clear hE2_69)
          (try clear hE2_70)
          (try clear hE2_71)
          (try clear hE2_72)
          (try clear hE2_73)
          (try clear hE2_74)
          (try clear hE2_75)
          (try clear hE2_76)
          (try clear hE2_77)
          (try clear hE2_78)
          (try clear hE2_79)
          revert hS_9
          revert c2
          revert o2
          revert v_9
          exact key0
        · intro W_J0 o2 c2 hS_J0
          refine wpAnyH_ready (rs := [48]) (by kernel_rfl) (by simp) ?_
          refine AllReadyH.cons (o := { dst := some 113, op := Go.Op.call { callee := Go.Callee.value (Go.Operand.func 45), args := #[Go.Operand.tmp 112], argTypes := #[41] }, type := 3, pos := "law.go:73", after := #[{ on := 47, ground := Go.Ground.data }, { on := 46, ground := Go.Ground.chain }, { on := 46, ground := Go.Ground.guard }], guard := some (46, true) }) rfl (fun K hK => ?_) AllReadyH.nil
          go_simp
          (refine (er_any34 v15 DE _ HV15.out (HCG.out _ hS_J0).1).mono ?_; rintro e v_14 ⟨rfl, hb⟩; have hS_14 := hS_J0.trans (hb.mono hS_J0.size); (try clear hb); (try clear hS_J0); skip)
          (try go_wp2_with fail)
          refine hK.out _ _ ?_ (fun hHeld => ?_)
          · (try dsimp only)
            exact hS_14
          clear hK K
          (try simp only [Act.put, List.setIfInBounds_toArray, List.set_cons_zero, List.set_cons_succ])
          refine wpAnyH_take (i := 50) (oi := { dst := some 115, op := Go.Op.binOp Go.BinOp.eql 3 (Go.Operand.tmp 113) (Go.Operand.tmp 114) 3, type := 4, pos := "law.go:73", after := #[{ on := 48, ground := Go.Ground.data }, { on := 49, ground := Go.Ground.data }, { on := 46, ground := Go.Ground.guard }], guard := some (46, true) }) (v := ?_) rfl (by kernel_rfl) (by kernel_rfl) (by kernel_rfl) (fun _ _ _ h => h) (Or.inl ⟨by rfl, ?_⟩) (hS_14) ?_
          rotate_left
          · intro wS hSw
            (try dsimp only at hSw)
            go_simp
            (try with_reducible rfl)
          (try simp only [Act.put, List.setIfInBounds_toArray, List.set_cons_zero, List.set_cons_succ])
          refine wpAnyH_take (i := 51) (oi := { dst := some 116, op := Go.Op.pick (Go.Operand.tmp 111) (Go.Operand.tmp 115) (Go.Operand.const (Go.Value.bool false)), type := 4, pos := "law.go:73", after := #[{ on := 46, ground := Go.Ground.data }, { on := 50, ground := Go.Ground.data }], guard := none }) (v := ?_) rfl (by kernel_rfl) (by kernel_rfl) (by kernel_rfl) (fun _ _ _ h => h) (Or.inl ⟨by rfl, ?_⟩) (hS_14) ?_
          rotate_left
          · intro wS hSw
            (try dsimp only at hSw)
            go_simp
            (try with_reducible rfl)
          (try simp only [Act.put, List.setIfInBounds_toArray, List.set_cons_zero, List.set_cons_succ])
          refine wpAnyH_take (i := 52) (oi := { dst := some 117, op := Go.Op.move (Go.Operand.tmp 116), type := 4, pos := "law.go:73", after := #[{ on := 51, ground := Go.Ground.data }, { on := 48, ground := Go.Ground.chain }], guard := none }) (v := ?_) rfl (by kernel_rfl) (by kernel_rfl) (by kernel_rfl) (fun _ _ _ h => h) (Or.inl ⟨by rfl, ?_⟩) (hS_14) ?_
          rotate_left
          · intro wS hSw
            (try dsimp only at hSw)
            go_simp
            (try with_reducible rfl)
          (try simp only [Act.put, List.setIfInBounds_toArray, List.set_cons_zero, List.set_cons_succ])
          refine wpAnyH_ready (rs := [53]) (by kernel_rfl) (by simp) ?_
          refine AllReadyH.cons (o := { dst := some 118, op := Go.Op.call { callee := Go.Callee.value (Go.Operand.func 34), args := #[], argTypes := #[] }, type := 4, pos := "law.go:73", after := #[{ on := 52, ground := Go.Ground.chain }, { on := 52, ground := Go.Ground.guard }], guard := some (52, true) }) rfl (fun K hK => ?_) AllReadyH.nil
          go_simp
          (refine (chain_sure _ (HCG.out _ hS_14)).mono ?_; rintro e v_15 ⟨rfl, hb⟩; have hS_15 := hS_14.trans (hb.mono hS_14.size); (try clear hb); (try clear hS_14); skip)
          (try go_wp2_with fail)
          refine hK.out _ _ ?_ (fun hHeld => ?_)
          · (try dsimp only)
            exact hS_15
          clear hK K
          (try simp only [Act.put, List.setIfInBounds_toArray, List.set_cons_zero, List.set_cons_succ])
          refine wpAnyH_take (i := 54) (oi := { dst := some 119, op := Go.Op.pick (Go.Operand.tmp 117) (Go.Operand.tmp 118) (Go.Operand.const (Go.Value.bool false)), type := 4, pos := "law.go:73", after := #[{ on := 52, ground := Go.Ground.data }, { on := 53, ground := Go.Ground.data }], guard := none }) (v := ?_) rfl (by kernel_rfl) (by kernel_rfl) (by kernel_rfl) (fun _ _ _ h => h) (Or.inl ⟨by rfl, ?_⟩) (hS_15) ?_
          rotate_left
          · intro wS hSw
            (try dsimp only at hSw)
            go_simp
            (try with_reducible rfl)
          (try simp only [Act.put, List.setIfInBounds_toArray, List.set_cons_zero, List.set_cons_succ])
          refine wpAnyH_take (i := 55) (oi := { dst := some 6, op := Go.Op.assign (Go.Operand.tmp 119), type := 4, pos := "law.go:73", after := #[{ on := 54, ground := Go.Ground.data }, { on := 53, ground := Go.Ground.chain }, { on := 0, ground := Go.Ground.phase }, { on := 1, ground := Go.Ground.phase }, { on := 2, ground := Go.Ground.phase }, { on := 3, ground := Go.Ground.phase }, { on := 4, ground := Go.Ground.phase }, { on := 5, ground := Go.Ground.phase }, { on := 6, ground := Go.Ground.phase }, { on := 7, ground := Go.Ground.phase }, { on := 8, ground := Go.Ground.phase }, { on := 9, ground := Go.Ground.phase }, { on := 10, ground := Go.Ground.phase }, { on := 11, ground := Go.Ground.phase }, { on := 12, ground := Go.Ground.phase }, { on := 13, ground := Go.Ground.phase }, { on := 14, ground := Go.Ground.phase }, { on := 15, ground := Go.Ground.phase }, { on := 16, ground := Go.Ground.phase }, { on := 17, ground := Go.Ground.phase }, { on := 18, ground := Go.Ground.phase }, { on := 19, ground := Go.Ground.phase }, { on := 20, ground := Go.Ground.phase }, { on := 21, ground := Go.Ground.phase }, { on := 22, ground := Go.Ground.phase }, { on := 23, ground := Go.Ground.phase }, { on := 24, ground := Go.Ground.phase }, { on := 25, ground := Go.Ground.phase }, { on := 26, ground := Go.Ground.phase }, { on := 27, ground := Go.Ground.phase }, { on := 28, ground := Go.Ground.phase }, { on := 29, ground := Go.Ground.phase }, { on := 30, ground := Go.Ground.phase }, { on := 31, ground := Go.Ground.phase }, { on := 32, ground := Go.Ground.phase }, { on := 33, ground := Go.Ground.phase }, { on := 34, ground := Go.Ground.phase }, { on := 35, ground := Go.Ground.phase }, { on := 36, ground := Go.Ground.phase }, { on := 37, ground := Go.Ground.phase }, { on := 38, ground := Go.Ground.phase }, { on := 39, ground := Go.Ground.phase }, { on := 40, ground := Go.Ground.phase }, { on := 41, ground := Go.Ground.phase }, { on := 42, ground := Go.Ground.phase }, { on := 43, ground := Go.Ground.phase }, { on := 44, ground := Go.Ground.phase }, { on := 45, ground := Go.Ground.phase }, { on := 46, ground := Go.Ground.phase }, { on := 47, ground := Go.Ground.phase }, { on := 48, ground := Go.Ground.phase }, { on := 49, ground := Go.Ground.phase }, { on := 50, ground := Go.Ground.phase }, { on := 51, ground := Go.Ground.phase }, { on := 52, ground := Go.Ground.phase }, { on := 53, ground := Go.Ground.phase }, { on := 54, ground := Go.Ground.phase }], guard := none }) (v := ?_) rfl (by kernel_rfl) (by kernel_rfl) (by kernel_rfl) (fun _ _ _ h => h) (Or.inl ⟨by rfl, ?_⟩) (hS_15) ?_
          rotate_left
          · intro wS hSw
            (try dsimp only at hSw)
            go_simp
            (try with_reducible rfl)
          (try simp only [Act.put, List.setIfInBounds_toArray, List.set_cons_zero, List.set_cons_succ])
          refine wpAnyH_done (by kernel_rfl) ?_ _
          go_wp2_with fail
          go_ret
          exact ⟨rfl, HBO.out _ hS_15⟩
      · as_aux_lemma =>
        have KS0 : Hid (CG w1 ∧ Below w.heap.size w w1 ∧ Blk w1 w.heap.size CX 77) := Lib.hid H1.out
        have hl7 := laidHd w1 zeroH CX 65 HSX.out
        obtain ⟨w2, hn7⟩ : ∃ x, (w1.alloc (.cells zeroH 65)).setCells w1.heap.size 0 CX.toList = x := ⟨_, rfl⟩
        rw [hn7] at hl7
        have HTH7 := Lib.hid hl7.2.2
        obtain ⟨g7, hg7⟩ : ∃ x, w1.heap.size = x := ⟨_, rfl⟩
        have KS1 : Hid (CG w2 ∧ Below w.heap.size w w2 ∧ Blk w2 w.heap.size CX 77 ∧ Blk w2 g7 CX 65) := Lib.hid ⟨(KS0.out.1).later hl7.2.1, (KS0.out.2.1).trans (hl7.2.1.mono (KS0.out.2.1).size), Blk.below (KS0.out.2.2) hl7.2.1 (Blk.lt (KS0.out.2.2)), hg7 ▸ hl7.1⟩
        clear KS0
        clear hl7
        rw [hg7] at HTH7 hn7
        have HG7 := Lib.hid hg7
        have e0 : (0 : Int) < (q : Int) := by omega
        have e1 : 0 < q := h0
        obtain ⟨b, off, od, cp, rfl, hc, hlc, hbd, hod, hcm⟩ := HLB.out w (Below.refl _ w) 0 h0
        obtain ⟨m, hm⟩ : ∃ x, L 0 = x := ⟨_, rfl⟩
        obtain ⟨M, hM⟩ : ∃ x, G 0 = x := ⟨_, rfl⟩
        rw [hm] at hc hlc hbd hod
        rw [hM] at hbd
        have HEB : Hid (∀ w', Below w.heap.size w w' → Bytes w' od m M) := Lib.hid fun w' h => hbd.later h
        have HEN : Hid (m ≤ cp ∧ cp ≤ maxLen ∧ (od = none → m = 0) ∧ m ≤ 3000) := Lib.hid ⟨hlc, hcm, hod, by have := HQ.out.2 0 h0; omega⟩
        have c0 : w2.cell? ⟨b, off + 0, none⟩ = some (.slice od m cp) := cell_below (KS1.out.2.1) hc
        rw [Nat.add_zero] at c0
        clear hc hlc hbd hod hcm hm hM
        go_wp2_with (first | (refine wpList_load_row rfl 77 (.tmp 5) rfl w.heap.size rfl 77 CX (0, 0) _ (H1.out.2.2) Tryd.underlying77 rfl HIX2.out ?_) | ((try rw [HG7.out]); refine wpList_store_mid rfl 65 (.tmp 7) (.tmp 31) rfl g7 0 CX rfl rfl HTH7.out HIX1.out HOX.out ?_; rw [hn7]) | (refine wpList_load_row rfl 65 (.tmp 7) rfl g7 rfl 65 CX (0, 0) _ (KS1.out.2.2.2) Tryd.underlying65 rfl HIX1.out ?_))
        obtain ⟨NN, hNN⟩ : ∃ x, nxN k = x := ⟨_, rfl⟩
        obtain ⟨NS, hNS⟩ : ∃ x, nxS n K k S m M = x := ⟨_, rfl⟩
        obtain ⟨NE, hNE⟩ : ∃ x, nxE k = x := ⟨_, rfl⟩
        obtain ⟨CA, hCA⟩ : ∃ C, (hdL NN NS).toArray = C := ⟨_, rfl⟩
        have HIA1 : Hid ((Tryd.prog.info? 65).map (·.size) = some CA.size) := Lib.hid (by rw [← hCA, hd_size]; exact info_h1)
        have HIA2 : Hid ((Tryd.prog.info? 77).map (·.size) = some CA.size) := Lib.hid (by rw [← hCA, hd_size]; exact info_h2)
        have HOA : Hid (CA.all (·.oneCell') = true) := Lib.hid (by rw [← hCA]; exact hd_one _ _)
        have HSA : Hid (CA.size = zeroH.size) := Lib.hid (by rw [← hCA, hd_size, zeroH_size])
        have HEQA : Hid (∀ w, (Op.equalIn 10000 65 (.agg CA) (.agg CA)).run Tryd.prog w = .ok true w) := Lib.hid fun w => by rw [← hCA]; have := eq_h1 NN NN NS NS w; rw [eqS_refl] at this; simpa using this
        have hc1 := next_any oa n cn K k S od m cp M w2 (HKB.out _ (KS1.out.2.1)) HNM.out.1 HNM.out.2.2.1 (by have := HN2.out; omega) HKS.out.1 HKS.out.2 (HEB.out _ (KS1.out.2.1)) HEN.out.2.2.1 (by have := HEN.out; omega) (KS1.out.1).2
        rw [hNN, hNS, hNE, hCA, HCX.out] at hc1
        have HNC := Lib.hid (And.intro hNN (And.intro hNS (And.intro hNE hCA)))
        clear hNN hNS hNE hCA
        refine hc1.mono ?_
        clear hc1
        rintro e w3 ⟨v10, rfl, hv10, hb3⟩
        have HV10 := Lib.hid hv10
        clear hv10 HTH7 hn7 HG7 hg7 c0
        have KS2 : Hid (CG w3 ∧ Below w.heap.size w w3 ∧ Blk w3 w.heap.size CX 77 ∧ Blk w3 g7 CX 65) := Lib.hid ⟨(KS1.out.1).later hb3, (KS1.out.2.1).trans (hb3.mono (KS1.out.2.1).size), Blk.below (KS1.out.2.2.1) hb3 (Blk.lt (KS1.out.2.2.1)), Blk.below (KS1.out.2.2.2) hb3 (Blk.lt (KS1.out.2.2.2))⟩
        clear KS1
        clear hb3
        have hl9 := laidHd w3 zeroH CA 65 HSA.out
        obtain ⟨w4, hn9⟩ : ∃ x, (w3.alloc (.cells zeroH 65)).setCells w3.heap.size 0 CA.toList = x := ⟨_, rfl⟩
        rw [hn9] at hl9
        have HTH9 := Lib.hid hl9.2.2
        obtain ⟨g9, hg9⟩ : ∃ x, w3.heap.size = x := ⟨_, rfl⟩
        have KS3 : Hid (CG w4 ∧ Below w.heap.size w w4 ∧ Blk w4 w.heap.size CX 77 ∧ Blk w4 g7 CX 65 ∧ Blk w4 g9 CA 65) := Lib.hid ⟨(KS2.out.1).later hl9.2.1, (KS2.out.2.1).trans (hl9.2.1.mono (KS2.out.2.1).size), Blk.below (KS2.out.2.2.1) hl9.2.1 (Blk.lt (KS2.out.2.2.1)), Blk.below (KS2.out.2.2.2) hl9.2.1 (Blk.lt (KS2.out.2.2.2)), hg9 ▸ hl9.1⟩
        clear KS2
        clear hl9
        rw [hg9] at HTH9 hn9
        have HG9 := Lib.hid hg9
        go_wp2_with (first | ((try rw [HG9.out]); refine wpList_store_mid rfl 65 (.tmp 9) (.tmp 43) rfl g9 0 CA rfl rfl HTH9.out HIA1.out HOA.out ?_; rw [hn9]) | (refine wpList_load_row rfl 77 (.tmp 5) rfl w.heap.size rfl 77 CX (0, 0) _ (KS3.out.2.2.1) Tryd.underlying77 rfl HIX2.out ?_))
        have hc1 := rnext_any oa n cn K k S od m cp M w4 (HKB.out _ (KS3.out.2.1)) HNM.out.1 HNM.out.2.2.1 (by have := HN2.out; omega) HKS.out.1 HKS.out.2 (HEB.out _ (KS3.out.2.1)) HEN.out.2.2.1 (by have := HEN.out; omega)
        rw [HNC.out.1, HNC.out.2.1, HNC.out.2.2.1, HNC.out.2.2.2, HCX.out] at hc1
        refine hc1.mono ?_
        clear hc1
        rintro e w5 ⟨rfl, hb5⟩
        clear HTH9 hn9 HG9 hg9
        have KS4 : Hid (CG w5 ∧ Below w.heap.size w w5 ∧ Blk w5 w.heap.size CX 77 ∧ Blk w5 g7 CX 65 ∧ Blk w5 g9 CA 65) := Lib.hid ⟨(KS3.out.1).later hb5, (KS3.out.2.1).trans (hb5.mono (KS3.out.2.1).size), Blk.below (KS3.out.2.2.1) hb5 (Blk.lt (KS3.out.2.2.1)), Blk.below (KS3.out.2.2.2.1) hb5 (Blk.lt (KS3.out.2.2.2.1)), Blk.below (KS3.out.2.2.2.2) hb5 (Blk.lt (KS3.out.2.2.2.2))⟩
        clear KS3
        clear hb5
        have hl11 := laidHd w5 zeroH CA 77 HSA.out
        obtain ⟨w6, hn11⟩ : ∃ x, (w5.alloc (.cells zeroH 77)).setCells w5.heap.size 0 CA.toList = x := ⟨_, rfl⟩
        rw [hn11] at hl11
        have HTH11 := Lib.hid hl11.2.2
        obtain ⟨g11, hg11⟩ : ∃ x, w5.heap.size = x := ⟨_, rfl⟩
        have KS5 : Hid (CG w6 ∧ Below w.heap.size w w6 ∧ Blk w6 w.heap.size CX 77 ∧ Blk w6 g7 CX 65 ∧ Blk w6 g9 CA 65 ∧ Blk w6 g11 CA 77) := Lib.hid ⟨(KS4.out.1).later hl11.2.1, (KS4.out.2.1).trans (hl11.2.1.mono (KS4.out.2.1).size), Blk.below (KS4.out.2.2.1) hl11.2.1 (Blk.lt (KS4.out.2.2.1)), Blk.below (KS4.out.2.2.2.1) hl11.2.1 (Blk.lt (KS4.out.2.2.2.1)), Blk.below (KS4.out.2.2.2.2) hl11.2.1 (Blk.lt (KS4.out.2.2.2.2)), hg11 ▸ hl11.1⟩
        clear KS4
        clear hl11
        rw [hg11] at HTH11 hn11
        have HG11 := Lib.hid hg11
        go_wp2_with (first | ((try rw [HG11.out]); refine wpList_store_mid rfl 77 (.tmp 11) (.tmp 50) rfl g11 0 CA rfl rfl HTH11.out HIA2.out HOA.out ?_; rw [hn11]))
        obtain ⟨CO, hCO⟩ : ∃ C, (hdL q (hs n K L G q)).toArray = C := ⟨_, rfl⟩
        have HIO1 : Hid ((Tryd.prog.info? 65).map (·.size) = some CO.size) := Lib.hid (by rw [← hCO, hd_size]; exact info_h1)
        have HIO2 : Hid ((Tryd.prog.info? 77).map (·.size) = some CO.size) := Lib.hid (by rw [← hCO, hd_size]; exact info_h2)
        have HOO : Hid (CO.all (·.oneCell') = true) := Lib.hid (by rw [← hCO]; exact hd_one _ _)
        have HSO : Hid (CO.size = zeroH.size) := Lib.hid (by rw [← hCO, hd_size, zeroH_size])
        have HCO := Lib.hid hCO
        have hc1 := rof_any oa n cn K (some ⟨b, off, none⟩) q cq L G w6 (HKB.out _ (KS5.out.2.1)) HNM.out.1 HNM.out.2.2.1 (by have := HN2.out; omega) (HLB.out _ (KS5.out.2.1)) (by have := HQ.out.1; omega) (fun i hi => by have := HQ.out.2 i hi; omega)
        rw [hCO] at hc1
        clear hCO
        refine hc1.mono ?_
        clear hc1
        rintro e w7 ⟨rfl, hb7⟩
        clear HTH11 hn11 HG11 hg11
        have KS6 : Hid (CG w7 ∧ Below w.heap.size w w7 ∧ Blk w7 w.heap.size CX 77 ∧ Blk w7 g7 CX 65 ∧ Blk w7 g9 CA 65 ∧ Blk w7 g11 CA 77) := Lib.hid ⟨(KS5.out.1).later hb7, (KS5.out.2.1).trans (hb7.mono (KS5.out.2.1).size), Blk.below (KS5.out.2.2.1) hb7 (Blk.lt (KS5.out.2.2.1)), Blk.below (KS5.out.2.2.2.1) hb7 (Blk.lt (KS5.out.2.2.2.1)), Blk.below (KS5.out.2.2.2.2.1) hb7 (Blk.lt (KS5.out.2.2.2.2.1)), Blk.below (KS5.out.2.2.2.2.2) hb7 (Blk.lt (KS5.out.2.2.2.2.2))⟩
        clear KS5
        clear hb7
        have hl13 := laidHd w7 zeroH CO 77 HSO.out
        obtain ⟨w8, hn13⟩ : ∃ x, (w7.alloc (.cells zeroH 77)).setCells w7.heap.size 0 CO.toList = x := ⟨_, rfl⟩
        rw [hn13] at hl13
        have HTH13 := Lib.hid hl13.2.2
        obtain ⟨g13, hg13⟩ : ∃ x, w7.heap.size = x := ⟨_, rfl⟩
        have KS7 : Hid (CG w8 ∧ Below w.heap.size w w8 ∧ Blk w8 w.heap.size CX 77 ∧ Blk w8 g7 CX 65 ∧ Blk w8 g9 CA 65 ∧ Blk w8 g11 CA 77 ∧ Blk w8 g13 CO 77) := Lib.hid ⟨(KS6.out.1).later hl13.2.1, (KS6.out.2.1).trans (hl13.2.1.mono (KS6.out.2.1).size), Blk.below (KS6.out.2.2.1) hl13.2.1 (Blk.lt (KS6.out.2.2.1)), Blk.below (KS6.out.2.2.2.1) hl13.2.1 (Blk.lt (KS6.out.2.2.2.1)), Blk.below (KS6.out.2.2.2.2.1) hl13.2.1 (Blk.lt (KS6.out.2.2.2.2.1)), Blk.below (KS6.out.2.2.2.2.2) hl13.2.1 (Blk.lt (KS6.out.2.2.2.2.2)), hg13 ▸ hl13.1⟩
        clear KS6
        clear hl13
        rw [hg13] at HTH13 hn13
        have HG13 := Lib.hid hg13
        go_wp2_with (first | ((try rw [HG13.out]); refine wpList_store_mid rfl 77 (.tmp 13) (.tmp 54) rfl g13 0 CO rfl rfl HTH13.out HIO2.out HOO.out ?_; rw [hn13]))
        obtain ⟨CD, hCD⟩ : ∃ C, (hdL (dhN m M) (dhS m M)).toArray = C := ⟨_, rfl⟩
        obtain ⟨DE, hDE⟩ : ∃ x, dhE m = x := ⟨_, rfl⟩
        have HID1 : Hid ((Tryd.prog.info? 65).map (·.size) = some CD.size) := Lib.hid (by rw [← hCD, hd_size]; exact info_h1)
        have HID2 : Hid ((Tryd.prog.info? 77).map (·.size) = some CD.size) := Lib.hid (by rw [← hCD, hd_size]; exact info_h2)
        have HOD : Hid (CD.all (·.oneCell') = true) := Lib.hid (by rw [← hCD]; exact hd_one _ _)
        have HSD : Hid (CD.size = zeroH.size) := Lib.hid (by rw [← hCD, hd_size, zeroH_size])
        have HEQD : Hid (∀ w, (Op.equalIn 10000 65 (.agg CD) (.agg CD)).run Tryd.prog w = .ok true w) := Lib.hid fun w => by rw [← hCD]; have := eq_h1 (dhN m M) (dhN m M) (dhS m M) (dhS m M) w; rw [eqS_refl] at this; simpa using this
        have hc1 := dec_h od m cp M w8 (HEB.out _ (KS7.out.2.1)) HEN.out.1 HEN.out.2.1
        rw [hCD, hDE] at hc1
        have HDC := Lib.hid (And.intro hCD hDE)
        clear hCD hDE
        refine hc1.mono ?_
        clear hc1
        rintro e w9 ⟨v15, rfl, hv15, hb9⟩
        have HV15 := Lib.hid hv15
        clear hv15 HTH13 hn13 HG13 hg13
        have KS8 : Hid (CG w9 ∧ Below w.heap.size w w9 ∧ Blk w9 w.heap.size CX 77 ∧ Blk w9 g7 CX 65 ∧ Blk w9 g9 CA 65 ∧ Blk w9 g11 CA 77 ∧ Blk w9 g13 CO 77) := Lib.hid ⟨(KS7.out.1).later hb9, (KS7.out.2.1).trans (hb9.mono (KS7.out.2.1).size), Blk.below (KS7.out.2.2.1) hb9 (Blk.lt (KS7.out.2.2.1)), Blk.below (KS7.out.2.2.2.1) hb9 (Blk.lt (KS7.out.2.2.2.1)), Blk.below (KS7.out.2.2.2.2.1) hb9 (Blk.lt (KS7.out.2.2.2.2.1)), Blk.below (KS7.out.2.2.2.2.2.1) hb9 (Blk.lt (KS7.out.2.2.2.2.2.1)), Blk.below (KS7.out.2.2.2.2.2.2) hb9 (Blk.lt (KS7.out.2.2.2.2.2.2))⟩
        clear KS7
        clear hb9
        have hl14 := laidHd w9 zeroH CD 65 HSD.out
        obtain ⟨x0, hn14⟩ : ∃ x, (w9.alloc (.cells zeroH 65)).setCells w9.heap.size 0 CD.toList = x := ⟨_, rfl⟩
        rw [hn14] at hl14
        have HTH14 := Lib.hid hl14.2.2
        obtain ⟨g14, hg14⟩ : ∃ x, w9.heap.size = x := ⟨_, rfl⟩
        have KS9 : Hid (CG x0 ∧ Below w.heap.size w x0 ∧ Blk x0 w.heap.size CX 77 ∧ Blk x0 g7 CX 65 ∧ Blk x0 g9 CA 65 ∧ Blk x0 g11 CA 77 ∧ Blk x0 g13 CO 77 ∧ Blk x0 g14 CD 65) := Lib.hid ⟨(KS8.out.1).later hl14.2.1, (KS8.out.2.1).trans (hl14.2.1.mono (KS8.out.2.1).size), Blk.below (KS8.out.2.2.1) hl14.2.1 (Blk.lt (KS8.out.2.2.1)), Blk.below (KS8.out.2.2.2.1) hl14.2.1 (Blk.lt (KS8.out.2.2.2.1)), Blk.below (KS8.out.2.2.2.2.1) hl14.2.1 (Blk.lt (KS8.out.2.2.2.2.1)), Blk.below (KS8.out.2.2.2.2.2.1) hl14.2.1 (Blk.lt (KS8.out.2.2.2.2.2.1)), Blk.below (KS8.out.2.2.2.2.2.2) hl14.2.1 (Blk.lt (KS8.out.2.2.2.2.2.2)), hg14 ▸ hl14.1⟩
        clear KS8
        clear hl14
        rw [hg14] at HTH14 hn14
        have HG14 := Lib.hid hg14
        go_wp2_with (first | ((try rw [HG14.out]); refine wpList_store_mid rfl 65 (.tmp 14) (.tmp 58) rfl g14 0 CD rfl rfl HTH14.out HID1.out HOD.out ?_; rw [hn14]))
        have hc1 := rdec_h od m cp M x0 (HEB.out _ (KS9.out.2.1)) HEN.out.1 HEN.out.2.1
        rw [HDC.out.1, HDC.out.2] at hc1
        refine hc1.mono ?_
        clear hc1
        rintro e x1 ⟨rfl, hb1⟩
        clear HTH14 hn14 HG14 hg14
        have KS10 : Hid (CG x1 ∧ Below w.heap.size w x1 ∧ Blk x1 w.heap.size CX 77 ∧ Blk x1 g7 CX 65 ∧ Blk x1 g9 CA 65 ∧ Blk x1 g11 CA 77 ∧ Blk x1 g13 CO 77 ∧ Blk x1 g14 CD 65) := Lib.hid ⟨(KS9.out.1).later hb1, (KS9.out.2.1).trans (hb1.mono (KS9.out.2.1).size), Blk.below (KS9.out.2.2.1) hb1 (Blk.lt (KS9.out.2.2.1)), Blk.below (KS9.out.2.2.2.1) hb1 (Blk.lt (KS9.out.2.2.2.1)), Blk.below (KS9.out.2.2.2.2.1) hb1 (Blk.lt (KS9.out.2.2.2.2.1)), Blk.below (KS9.out.2.2.2.2.2.1) hb1 (Blk.lt (KS9.out.2.2.2.2.2.1)), Blk.below (KS9.out.2.2.2.2.2.2.1) hb1 (Blk.lt (KS9.out.2.2.2.2.2.2.1)), Blk.below (KS9.out.2.2.2.2.2.2.2) hb1 (Blk.lt (KS9.out.2.2.2.2.2.2.2))⟩
        clear KS9
        clear hb1
        have hl16 := laidHd x1 zeroH CD 77 HSD.out
        obtain ⟨x2, hn16⟩ : ∃ x, (x1.alloc (.cells zeroH 77)).setCells x1.heap.size 0 CD.toList = x := ⟨_, rfl⟩
        rw [hn16] at hl16
        have HTH16 := Lib.hid hl16.2.2
        obtain ⟨g16, hg16⟩ : ∃ x, x1.heap.size = x := ⟨_, rfl⟩
        have KS11 : Hid (CG x2 ∧ Below w.heap.size w x2 ∧ Blk x2 w.heap.size CX 77 ∧ Blk x2 g7 CX 65 ∧ Blk x2 g9 CA 65 ∧ Blk x2 g11 CA 77 ∧ Blk x2 g13 CO 77 ∧ Blk x2 g14 CD 65 ∧ Blk x2 g16 CD 77) := Lib.hid ⟨(KS10.out.1).later hl16.2.1, (KS10.out.2.1).trans (hl16.2.1.mono (KS10.out.2.1).size), Blk.below (KS10.out.2.2.1) hl16.2.1 (Blk.lt (KS10.out.2.2.1)), Blk.below (KS10.out.2.2.2.1) hl16.2.1 (Blk.lt (KS10.out.2.2.2.1)), Blk.below (KS10.out.2.2.2.2.1) hl16.2.1 (Blk.lt (KS10.out.2.2.2.2.1)), Blk.below (KS10.out.2.2.2.2.2.1) hl16.2.1 (Blk.lt (KS10.out.2.2.2.2.2.1)), Blk.below (KS10.out.2.2.2.2.2.2.1) hl16.2.1 (Blk.lt (KS10.out.2.2.2.2.2.2.1)), Blk.below (KS10.out.2.2.2.2.2.2.2) hl16.2.1 (Blk.lt (KS10.out.2.2.2.2.2.2.2)), hg16 ▸ hl16.1⟩
        clear KS10
        clear hl16
        rw [hg16] at HTH16 hn16
        have HG16 := Lib.hid hg16
        go_wp2_with (first | ((try rw [HG16.out]); refine wpList_store_mid rfl 77 (.tmp 16) (.tmp 63) rfl g16 0 CD rfl rfl HTH16.out HID2.out HOD.out ?_; rw [hn16]))
        clear HTH16 hn16 HG16 hg16
        obtain ⟨r, hr⟩ : ∃ r, (decide (q = k) && eqS (hs n K L G q) S) = r := ⟨_, rfl⟩
        have HCG : Hid (∀ w', Below x2.heap.size x2 w' → CG w') := Lib.hid fun w' h => (KS11.out.1).later h
        have HBO : Hid (∀ w', Below x2.heap.size x2 w' → Below w.heap.size w w') := Lib.hid fun w' h => (KS11.out.2.1).trans (h.mono (KS11.out.2.1).size)
        have HEQO : Hid (∀ w, (Op.equalIn 10000 65 (.agg CO) (.agg CO)).run Tryd.prog w = .ok true w) := Lib.hid fun w => by rw [← HCO.out]; have := eq_h1 q q (hs n K L G q) (hs n K L G q) w; rw [eqS_refl] at this; simpa using this
        have HEQX : Hid (∀ w, (Op.equalIn 10000 77 (.agg CX) (.agg CO)).run Tryd.prog w = .ok r w) := Lib.hid fun w => by
          rw [← HCO.out, ← HCX.out, ← hr]; have := eq_h2 k q S (hs n K L G q) w
          rw [eqS_comm, show decide (k = q) = decide (q = k) from decide_eq_decide.2 ⟨Eq.symm, Eq.symm⟩] at this; exact this
        have HCOF : Hid (∀ w', Below x2.heap.size x2 w' → Calls Tryd.prog 36 #[.slice oa n cn, .slice (some ⟨b, off, none⟩) q cq] w' fun e w'' => e = .returned (.agg CO) ∧ Below w'.heap.size w' w'') := Lib.hid fun w' h => by
          rw [← HCO.out]; exact of_any oa n cn K (some ⟨b, off, none⟩) q cq L G w' (HKB.out _ (HBO.out _ h)) HNM.out.1 HNM.out.2.2.1 (by have := HN2.out; omega) (HLB.out _ (HBO.out _ h)) (by have := HQ.out.1; omega) (fun i hi => by have := HQ.out.2 i hi; omega) (HCG.out _ h).2
        have HCV1 : Hid (∀ w', Below x2.heap.size x2 w' → Calls Tryd.prog 37 #[.slice oa n cn, .slice (some ⟨b, off, none⟩) q cq, .agg CX] w' fun e w'' => e = .returned (.bool r) ∧ Below w'.heap.size w' w'') := Lib.hid fun w' h => by
          rw [← HCX.out, ← hr]; exact verify_any oa n cn K (some ⟨b, off, none⟩) q cq L G k S w' (HKB.out _ (HBO.out _ h)) HNM.out.1 HNM.out.2.2.1 (by have := HN2.out; omega) (HLB.out _ (HBO.out _ h)) (by have := HQ.out.1; omega) (fun i hi => by have := HQ.out.2 i hi; omega) (HCG.out _ h).2
        have HCV2 : Hid (∀ w', Below x2.heap.size x2 w' → Calls Tryd.prog 37 #[.slice oa n cn, .slice (some ⟨b, off, none⟩) q cq, .agg CO] w' fun e w'' => e = .returned (.bool true) ∧ Below w'.heap.size w' w'') := Lib.hid fun w' h => by
          have h9 := verify_any oa n cn K (some ⟨b, off, none⟩) q cq L G q (hs n K L G q) w' (HKB.out _ (HBO.out _ h)) HNM.out.1 HNM.out.2.2.1 (by have := HN2.out; omega) (HLB.out _ (HBO.out _ h)) (by have := HQ.out.1; omega) (fun i hi => by have := HQ.out.2 i hi; omega) (HCG.out _ h).2
          rw [HCO.out, eqS_refl, show (decide (q = q) && true) = true from by simp] at h9; exact h9
        have HCE1 : Hid (∀ w', Calls Tryd.prog 46 #[.agg CX] w' fun e w'' => ∃ o c, e = .returned (.slice o 40 c) ∧ Bytes w'' o 40 (hdB k S) ∧ 40 ≤ c ∧ c ≤ maxLen ∧ o ≠ none ∧ Below w'.heap.size w' w'') := Lib.hid fun w' => by rw [← HCX.out]; exact enc_h k S w' HKS.out.1 HKS.out.2
        have HCE2 : Hid (∀ w', Calls Tryd.prog 47 #[.agg CX] w' fun e w'' => ∃ o c, e = .returned (.slice o 40 c) ∧ Bytes w'' o 40 (hdB k S) ∧ 40 ≤ c ∧ c ≤ maxLen ∧ o ≠ none ∧ Below w'.heap.size w' w'') := Lib.hid fun w' => by rw [← HCX.out]; exact renc_h k S w' HKS.out.1 HKS.out.2
        have H5 : Hid (Blk x2 w.heap.size CX 77) := Lib.hid (KS11.out.2.2.1)
        have H7 : Hid (Blk x2 g7 CX 65) := Lib.hid (KS11.out.2.2.2.1)
        have H9 : Hid (Blk x2 g9 CA 65) := Lib.hid (KS11.out.2.2.2.2.1)
        have H11 : Hid (Blk x2 g11 CA 77) := Lib.hid (KS11.out.2.2.2.2.2.1)
        have H13 : Hid (Blk x2 g13 CO 77) := Lib.hid (KS11.out.2.2.2.2.2.2.1)
        have H14 : Hid (Blk x2 g14 CD 65) := Lib.hid (KS11.out.2.2.2.2.2.2.2.1)
        have H16 : Hid (Blk x2 g16 CD 77) := Lib.hid (KS11.out.2.2.2.2.2.2.2.2)
        have hS_0 : Below x2.heap.size x2 x2.drew := (Below.refl _ _).drew
        clear KS11 hr hz1 hz2
        go_wp2_with fail
        refine wp_region_held_drew (S := (Below x2.heap.size x2)) (by kernel_rfl) ?_ (fun hHeld => ?_)
        · (try dsimp only)
          exact hS_0
        generalize x2.drew = W0 at *
        refine wpAnyH_take (i := 0) (oi := { dst := some 65, op := Go.Op.load 65 (Go.Operand.tmp 9), type := 65, pos := "law.go:73", after := #[], guard := none }) (v := ?_) rfl (by kernel_rfl) (by kernel_rfl) (by kernel_rfl) (fun _ _ _ h => h) (Or.inl ⟨by rfl, ?_⟩) (hS_0) ?_
        rotate_left
        · intro wS hSw
          refine exec_loadB (x := .tmp 9) (g := g9) (t := 65) ?_ ?_ (Blk.below H9.out hSw (Blk.lt H9.out)) Tryd.underlying65 rfl HIA1.out <;> rfl
        (try simp only [Act.put, List.setIfInBounds_toArray, List.set_cons_zero, List.set_cons_succ])
        refine wpAnyH_take (i := 1) (oi := { dst := some 66, op := Go.Op.load 77 (Go.Operand.tmp 11), type := 77, pos := "law.go:73", after := #[], guard := none }) (v := ?_) rfl (by kernel_rfl) (by kernel_rfl) (by kernel_rfl) (fun _ _ _ h => h) (Or.inl ⟨by rfl, ?_⟩) (hS_0) ?_
        rotate_left
        · intro wS hSw
          refine exec_loadB (x := .tmp 11) (g := g11) (t := 77) ?_ ?_ (Blk.below H11.out hSw (Blk.lt H11.out)) Tryd.underlying77 rfl HIA2.out <;> rfl
        (try simp only [Act.put, List.setIfInBounds_toArray, List.set_cons_zero, List.set_cons_succ])
        refine wpAnyH_take (i := 2) (oi := { dst := some 67, op := Go.Op.binOp Go.BinOp.eql 65 (Go.Operand.tmp 65) (Go.Operand.tmp 66) 65, type := 4, pos := "law.go:73", after := #[{ on := 0, ground := Go.Ground.data }, { on := 1, ground := Go.Ground.data }], guard := none }) (v := ?_) rfl (by kernel_rfl) (by kernel_rfl) (by kernel_rfl) (fun _ _ _ h => h) (Or.inl ⟨by rfl, ?_⟩) (hS_0) ?_
        rotate_left
        · intro wS hSw
          refine exec_eqlM (r := 65) (x := .tmp 65) (y := .tmp 66) guard_h1 ?_ ?_ ?_ HEQA.out <;> rfl
        (try simp only [Act.put, List.setIfInBounds_toArray, List.set_cons_zero, List.set_cons_succ])
        refine wpAnyH_take (i := 3) (oi := { dst := some 68, op := Go.Op.move (Go.Operand.tmp 67), type := 4, pos := "law.go:73", after := #[{ on := 2, ground := Go.Ground.data }], guard := none }) (v := ?_) rfl (by kernel_rfl) (by kernel_rfl) (by kernel_rfl) (fun _ _ _ h => h) (Or.inl ⟨by rfl, ?_⟩) (hS_0) ?_
        rotate_left
        · intro wS hSw
          (try dsimp only at hSw)
          go_simp
          (try with_reducible rfl)
        (try simp only [Act.put, List.setIfInBounds_toArray, List.set_cons_zero, List.set_cons_succ])
        refine wpAnyH_take (i := 4) (oi := { dst := some 69, op := Go.Op.move (Go.Operand.tmp 10), type := 41, pos := "law.go:73", after := #[{ on := 3, ground := Go.Ground.guard }], guard := some (3, true) }) (v := ?_) rfl (by kernel_rfl) (by kernel_rfl) (by kernel_rfl) (fun _ _ _ h => h) (Or.inl ⟨by rfl, ?_⟩) (hS_0) ?_
        rotate_left
        · intro wS hSw
          (try dsimp only at hSw)
          go_simp
          (try with_reducible rfl)
        (try simp only [Act.put, List.setIfInBounds_toArray, List.set_cons_zero, List.set_cons_succ])
        refine wpAnyH_take (i := 6) (oi := { dst := some 71, op := Go.Op.move (Go.Operand.tmp 12), type := 3, pos := "law.go:73", after := #[{ on := 3, ground := Go.Ground.guard }], guard := some (3, true) }) (v := ?_) rfl (by kernel_rfl) (by kernel_rfl) (by kernel_rfl) (fun _ _ _ h => h) (Or.inl ⟨by rfl, ?_⟩) (hS_0) ?_
        rotate_left
        · intro wS hSw
          (try dsimp only at hSw)
          go_simp
          (try with_reducible rfl)
        (try simp only [Act.put, List.setIfInBounds_toArray, List.set_cons_zero, List.set_cons_succ])
        refine wpAnyH_ready (rs := [5]) (by kernel_rfl) (by simp) ?_
        refine AllReadyH.cons (o := { dst := some 70, op := Go.Op.call { callee := Go.Callee.value (Go.Operand.func 45), args := #[Go.Operand.tmp 69], argTypes := #[41] }, type := 3, pos := "law.go:73", after := #[{ on := 4, ground := Go.Ground.data }, { on := 3, ground := Go.Ground.chain }, { on := 3, ground := Go.Ground.guard }], guard := some (3, true) }) rfl (fun K hK => ?_) AllReadyH.nil
        go_simp
        (refine (er_any34 v10 NE _ HV10.out (HCG.out _ hS_0).1).mono ?_; rintro e v_1 ⟨rfl, hb⟩; have hS_1 := hS_0.trans (hb.mono hS_0.size); (try clear hb); (try clear hS_0); skip)
        (try go_wp2_with fail)
        refine hK.out _ _ ?_ (fun hHeld => ?_)
        · (try dsimp only)
          exact hS_1
        clear hK K
        (try simp only [Act.put, List.setIfInBounds_toArray, List.set_cons_zero, List.set_cons_succ])
        refine wpAnyH_take (i := 7) (oi := { dst := some 72, op := Go.Op.binOp Go.BinOp.eql 3 (Go.Operand.tmp 70) (Go.Operand.tmp 71) 3, type := 4, pos := "law.go:73", after := #[{ on := 5, ground := Go.Ground.data }, { on := 6, ground := Go.Ground.data }, { on := 3, ground := Go.Ground.guard }], guard := some (3, true) }) (v := ?_) rfl (by kernel_rfl) (by kernel_rfl) (by kernel_rfl) (fun _ _ _ h => h) (Or.inl ⟨by rfl, ?_⟩) (hS_1) ?_
        rotate_left
        · intro wS hSw
          (try dsimp only at hSw)
          go_simp
          (try with_reducible rfl)
        (try simp only [Act.put, List.setIfInBounds_toArray, List.set_cons_zero, List.set_cons_succ])
        refine wpAnyH_take (i := 8) (oi := { dst := some 73, op := Go.Op.pick (Go.Operand.tmp 68) (Go.Operand.tmp 72) (Go.Operand.const (Go.Value.bool false)), type := 4, pos := "law.go:73", after := #[{ on := 3, ground := Go.Ground.data }, { on := 7, ground := Go.Ground.data }], guard := none }) (v := ?_) rfl (by kernel_rfl) (by kernel_rfl) (by kernel_rfl) (fun _ _ _ h => h) (Or.inl ⟨by rfl, ?_⟩) (hS_1) ?_
        rotate_left
        · intro wS hSw
          (try dsimp only at hSw)
          go_simp
          (try with_reducible rfl)
        (try simp only [Act.put, List.setIfInBounds_toArray, List.set_cons_zero, List.set_cons_succ])
        refine wpAnyH_take (i := 9) (oi := { dst := some 74, op := Go.Op.move (Go.Operand.tmp 73), type := 4, pos := "law.go:73", after := #[{ on := 8, ground := Go.Ground.data }, { on := 5, ground := Go.Ground.chain }], guard := none }) (v := ?_) rfl (by kernel_rfl) (by kernel_rfl) (by kernel_rfl) (fun _ _ _ h => h) (Or.inl ⟨by rfl, ?_⟩) (hS_1) ?_
        rotate_left
        · intro wS hSw
          (try dsimp only at hSw)
          go_simp
          (try with_reducible rfl)
        (try simp only [Act.put, List.setIfInBounds_toArray, List.set_cons_zero, List.set_cons_succ])
        refine wpAnyH_take (i := 10) (oi := { dst := some 75, op := Go.Op.move (Go.Operand.tmp 0), type := 33, pos := "law.go:73", after := #[{ on := 9, ground := Go.Ground.guard }], guard := some (9, true) }) (v := ?_) rfl (by kernel_rfl) (by kernel_rfl) (by kernel_rfl) (fun _ _ _ h => h) (Or.inl ⟨by rfl, ?_⟩) (hS_1) ?_
        rotate_left
        · intro wS hSw
          (try dsimp only at hSw)
          go_simp
          (try with_reducible rfl)
        (try simp only [Act.put, List.setIfInBounds_toArray, List.set_cons_zero, List.set_cons_succ])
        refine wpAnyH_take (i := 11) (oi := { dst := some 76, op := Go.Op.move (Go.Operand.tmp 1), type := 34, pos := "law.go:73", after := #[{ on := 9, ground := Go.Ground.guard }], guard := some (9, true) }) (v := ?_) rfl (by kernel_rfl) (by kernel_rfl) (by kernel_rfl) (fun _ _ _ h => h) (Or.inl ⟨by rfl, ?_⟩) (hS_1) ?_
        rotate_left
        · intro wS hSw
          (try dsimp only at hSw)
          go_simp
          (try with_reducible rfl)
        (try simp only [Act.put, List.setIfInBounds_toArray, List.set_cons_zero, List.set_cons_succ])
        refine wpAnyH_take (i := 13) (oi := { dst := some 78, op := Go.Op.load 77 (Go.Operand.tmp 13), type := 77, pos := "law.go:73", after := #[{ on := 9, ground := Go.Ground.guard }], guard := some (9, true) }) (v := ?_) rfl (by kernel_rfl) (by kernel_rfl) (by kernel_rfl) (fun _ _ _ h => h) (Or.inl ⟨by rfl, ?_⟩) (hS_1) ?_
        rotate_left
        · intro wS hSw
          refine exec_loadB (x := .tmp 13) (g := g13) (t := 77) ?_ ?_ (Blk.below H13.out hSw (Blk.lt H13.out)) Tryd.underlying77 rfl HIO2.out <;> rfl
        (try simp only [Act.put, List.setIfInBounds_toArray, List.set_cons_zero, List.set_cons_succ])
        refine wpAnyH_ready (rs := [12]) (by kernel_rfl) (by simp) ?_
        refine AllReadyH.cons (o := { dst := some 77, op := Go.Op.call { callee := Go.Callee.value (Go.Operand.func 36), args := #[Go.Operand.tmp 75, Go.Operand.tmp 76], argTypes := #[33, 34] }, type := 65, pos := "law.go:73", after := #[{ on := 10, ground := Go.Ground.data }, { on := 11, ground := Go.Ground.data }, { on := 9, ground := Go.Ground.chain }, { on := 9, ground := Go.Ground.guard }], guard := some (9, true) }) rfl (fun K hK => ?_) AllReadyH.nil
        go_simp
        (refine (HCOF.out _ hS_1).mono ?_; rintro e v_2 ⟨rfl, hb⟩; have hS_2 := hS_1.trans (hb.mono hS_1.size); (try clear hb); (try clear hS_1); skip)
        (try go_wp2_with fail)
        refine hK.out _ _ ?_ (fun hHeld => ?_)
        · (try dsimp only)
          exact hS_2
        clear hK K
        (try simp only [Act.put, List.setIfInBounds_toArray, List.set_cons_zero, List.set_cons_succ])
        refine wpAnyH_take (i := 14) (oi := { dst := some 79, op := Go.Op.binOp Go.BinOp.eql 65 (Go.Operand.tmp 77) (Go.Operand.tmp 78) 65, type := 4, pos := "law.go:73", after := #[{ on := 12, ground := Go.Ground.data }, { on := 13, ground := Go.Ground.data }, { on := 9, ground := Go.Ground.guard }], guard := some (9, true) }) (v := ?_) rfl (by kernel_rfl) (by kernel_rfl) (by kernel_rfl) (fun _ _ _ h => h) (Or.inl ⟨by rfl, ?_⟩) (hS_2) ?_
        rotate_left
        · intro wS hSw
          refine exec_eqlM (r := 65) (x := .tmp 77) (y := .tmp 78) guard_h1 ?_ ?_ ?_ HEQO.out <;> rfl
        (try simp only [Act.put, List.setIfInBounds_toArray, List.set_cons_zero, List.set_cons_succ])
        refine wpAnyH_take (i := 15) (oi := { dst := some 80, op := Go.Op.pick (Go.Operand.tmp 74) (Go.Operand.tmp 79) (Go.Operand.const (Go.Value.bool false)), type := 4, pos := "law.go:73", after := #[{ on := 9, ground := Go.Ground.data }, { on := 14, ground := Go.Ground.data }], guard := none }) (v := ?_) rfl (by kernel_rfl) (by kernel_rfl) (by kernel_rfl) (fun _ _ _ h => h) (Or.inl ⟨by rfl, ?_⟩) (hS_2) ?_
        rotate_left
        · intro wS hSw
          (try dsimp only at hSw)
          go_simp
          (try with_reducible rfl)
        (try simp only [Act.put, List.setIfInBounds_toArray, List.set_cons_zero, List.set_cons_succ])
        refine wpAnyH_take (i := 16) (oi := { dst := some 81, op := Go.Op.move (Go.Operand.tmp 80), type := 4, pos := "law.go:73", after := #[{ on := 15, ground := Go.Ground.data }, { on := 12, ground := Go.Ground.chain }], guard := none }) (v := ?_) rfl (by kernel_rfl) (by kernel_rfl) (by kernel_rfl) (fun _ _ _ h => h) (Or.inl ⟨by rfl, ?_⟩) (hS_2) ?_
        rotate_left
        · intro wS hSw
          (try dsimp only at hSw)
          go_simp
          (try with_reducible rfl)
        (try simp only [Act.put, List.setIfInBounds_toArray, List.set_cons_zero, List.set_cons_succ])
        refine wpAnyH_take (i := 17) (oi := { dst := some 82, op := Go.Op.move (Go.Operand.tmp 0), type := 33, pos := "law.go:73", after := #[{ on := 16, ground := Go.Ground.guard }], guard := some (16, true) }) (v := ?_) rfl (by kernel_rfl) (by kernel_rfl) (by kernel_rfl) (fun _ _ _ h => h) (Or.inl ⟨by rfl, ?_⟩) (hS_2) ?_
        rotate_left
        · intro wS hSw
          (try dsimp only at hSw)
          go_simp
          (try with_reducible rfl)
        (try simp only [Act.put, List.setIfInBounds_toArray, List.set_cons_zero, List.set_cons_succ])
        refine wpAnyH_take (i := 18) (oi := { dst := some 83, op := Go.Op.move (Go.Operand.tmp 1), type := 34, pos := "law.go:73", after := #[{ on := 16, ground := Go.Ground.guard }], guard := some (16, true) }) (v := ?_) rfl (by kernel_rfl) (by kernel_rfl) (by kernel_rfl) (fun _ _ _ h => h) (Or.inl ⟨by rfl, ?_⟩) (hS_2) ?_
        rotate_left
        · intro wS hSw
          (try dsimp only at hSw)
          go_simp
          (try with_reducible rfl)
        (try simp only [Act.put, List.setIfInBounds_toArray, List.set_cons_zero, List.set_cons_succ])
        refine wpAnyH_take (i := 19) (oi := { dst := some 84, op := Go.Op.load 65 (Go.Operand.tmp 7), type := 65, pos := "law.go:73", after := #[{ on := 16, ground := Go.Ground.guard }], guard := some (16, true) }) (v := ?_) rfl (by kernel_rfl) (by kernel_rfl) (by kernel_rfl) (fun _ _ _ h => h) (Or.inl ⟨by rfl, ?_⟩) (hS_2) ?_
        rotate_left
        · intro wS hSw
          refine exec_loadB (x := .tmp 7) (g := g7) (t := 65) ?_ ?_ (Blk.below H7.out hSw (Blk.lt H7.out)) Tryd.underlying65 rfl HIX1.out <;> rfl
        (try simp only [Act.put, List.setIfInBounds_toArray, List.set_cons_zero, List.set_cons_succ])
        refine wpAnyH_take (i := 21) (oi := { dst := some 86, op := Go.Op.load 77 (Go.Operand.tmp 5), type := 77, pos := "law.go:73", after := #[{ on := 16, ground := Go.Ground.guard }], guard := some (16, true) }) (v := ?_) rfl (by kernel_rfl) (by kernel_rfl) (by kernel_rfl) (fun _ _ _ h => h) (Or.inl ⟨by rfl, ?_⟩) (hS_2) ?_
        rotate_left
        · intro wS hSw
          refine exec_loadB (x := .tmp 5) (g := w.heap.size) (t := 77) ?_ ?_ (Blk.below H5.out hSw (Blk.lt H5.out)) Tryd.underlying77 rfl HIX2.out <;> rfl
        (try simp only [Act.put, List.setIfInBounds_toArray, List.set_cons_zero, List.set_cons_succ])
        refine wpAnyH_take (i := 22) (oi := { dst := some 87, op := Go.Op.load 77 (Go.Operand.tmp 13), type := 77, pos := "law.go:73", after := #[{ on := 16, ground := Go.Ground.guard }], guard := some (16, true) }) (v := ?_) rfl (by kernel_rfl) (by kernel_rfl) (by kernel_rfl) (fun _ _ _ h => h) (Or.inl ⟨by rfl, ?_⟩) (hS_2) ?_
        rotate_left
        · intro wS hSw
          refine exec_loadB (x := .tmp 13) (g := g13) (t := 77) ?_ ?_ (Blk.below H13.out hSw (Blk.lt H13.out)) Tryd.underlying77 rfl HIO2.out <;> rfl
        (try simp only [Act.put, List.setIfInBounds_toArray, List.set_cons_zero, List.set_cons_succ])
        refine wpAnyH_take (i := 23) (oi := { dst := some 88, op := Go.Op.binOp Go.BinOp.eql 77 (Go.Operand.tmp 86) (Go.Operand.tmp 87) 77, type := 4, pos := "law.go:73", after := #[{ on := 21, ground := Go.Ground.data }, { on := 22, ground := Go.Ground.data }, { on := 16, ground := Go.Ground.guard }], guard := some (16, true) }) (v := ?_) rfl (by kernel_rfl) (by kernel_rfl) (by kernel_rfl) (fun _ _ _ h => h) (Or.inl ⟨by rfl, ?_⟩) (hS_2) ?_
        rotate_left
        · intro wS hSw
          refine exec_eqlM (r := 77) (x := .tmp 86) (y := .tmp 87) guard_h2 ?_ ?_ ?_ HEQX.out <;> rfl
        (try simp only [Act.put, List.setIfInBounds_toArray, List.set_cons_zero, List.set_cons_succ])
        refine wpAnyH_ready (rs := [20]) (by kernel_rfl) (by simp) ?_
        refine AllReadyH.cons (o := { dst := some 85, op := Go.Op.call { callee := Go.Callee.value (Go.Operand.func 37), args := #[Go.Operand.tmp 82, Go.Operand.tmp 83, Go.Operand.tmp 84], argTypes := #[33, 34, 65] }, type := 4, pos := "law.go:73", after := #[{ on := 17, ground := Go.Ground.data }, { on := 18, ground := Go.Ground.data }, { on := 19, ground := Go.Ground.data }, { on := 16, ground := Go.Ground.chain }, { on := 16, ground := Go.Ground.guard }], guard := some (16, true) }) rfl (fun K hK => ?_) AllReadyH.nil
        go_simp
        (refine (HCV1.out _ hS_2).mono ?_; rintro e v_3 ⟨rfl, hb⟩; have hS_3 := hS_2.trans (hb.mono hS_2.size); (try clear hb); (try clear hS_2); skip)
        (try go_wp2_with fail)
        refine hK.out _ _ ?_ (fun hHeld => ?_)
        · (try dsimp only)
          exact hS_3
        clear hK K
        (try simp only [Act.put, List.setIfInBounds_toArray, List.set_cons_zero, List.set_cons_succ])
        refine wpAnyH_take (i := 24) (oi := { dst := some 89, op := Go.Op.binOp Go.BinOp.eql 4 (Go.Operand.tmp 85) (Go.Operand.tmp 88) 4, type := 4, pos := "law.go:73", after := #[{ on := 20, ground := Go.Ground.data }, { on := 23, ground := Go.Ground.data }, { on := 16, ground := Go.Ground.guard }], guard := some (16, true) }) (v := ?_) rfl (by kernel_rfl) (by kernel_rfl) (by kernel_rfl) (fun _ _ _ h => h) (Or.inl ⟨by rfl, ?_⟩) (hS_3) ?_
        rotate_left
        · intro wS hSw
          (try dsimp only at hSw)
          go_simp
          (try with_reducible rfl)
        (try simp only [Act.put, List.setIfInBounds_toArray, List.set_cons_zero, List.set_cons_succ])
        refine wpAnyH_take (i := 25) (oi := { dst := some 90, op := Go.Op.pick (Go.Operand.tmp 81) (Go.Operand.tmp 89) (Go.Operand.const (Go.Value.bool false)), type := 4, pos := "law.go:73", after := #[{ on := 16, ground := Go.Ground.data }, { on := 24, ground := Go.Ground.data }], guard := none }) (v := ?_) rfl (by kernel_rfl) (by kernel_rfl) (by kernel_rfl) (fun _ _ _ h => h) (Or.inl ⟨by rfl, ?_⟩) (hS_3) ?_
        rotate_left
        · intro wS hSw
          (try dsimp only at hSw)
          go_simp
          (try with_reducible rfl)
        (try simp only [Act.put, List.setIfInBounds_toArray, List.set_cons_zero, List.set_cons_succ])
        refine wpAnyH_take (i := 26) (oi := { dst := some 91, op := Go.Op.move (Go.Operand.tmp 90), type := 4, pos := "law.go:73", after := #[{ on := 25, ground := Go.Ground.data }, { on := 20, ground := Go.Ground.chain }], guard := none }) (v := ?_) rfl (by kernel_rfl) (by kernel_rfl) (by kernel_rfl) (fun _ _ _ h => h) (Or.inl ⟨by rfl, ?_⟩) (hS_3) ?_
        rotate_left
        · intro wS hSw
          (try dsimp only at hSw)
          go_simp
          (try with_reducible rfl)
        (try simp only [Act.put, List.setIfInBounds_toArray, List.set_cons_zero, List.set_cons_succ])
        refine wpAnyH_take (i := 27) (oi := { dst := some 92, op := Go.Op.move (Go.Operand.tmp 0), type := 33, pos := "law.go:73", after := #[{ on := 26, ground := Go.Ground.guard }], guard := some (26, true) }) (v := ?_) rfl (by kernel_rfl) (by kernel_rfl) (by kernel_rfl) (fun _ _ _ h => h) (Or.inl ⟨by rfl, ?_⟩) (hS_3) ?_
        rotate_left
        · intro wS hSw
          (try dsimp only at hSw)
          go_simp
          (try with_reducible rfl)
        (try simp only [Act.put, List.setIfInBounds_toArray, List.set_cons_zero, List.set_cons_succ])
        refine wpAnyH_take (i := 28) (oi := { dst := some 93, op := Go.Op.move (Go.Operand.tmp 1), type := 34, pos := "law.go:73", after := #[{ on := 26, ground := Go.Ground.guard }], guard := some (26, true) }) (v := ?_) rfl (by kernel_rfl) (by kernel_rfl) (by kernel_rfl) (fun _ _ _ h => h) (Or.inl ⟨by rfl, ?_⟩) (hS_3) ?_
        rotate_left
        · intro wS hSw
          (try dsimp only at hSw)
          go_simp
          (try with_reducible rfl)
        (try simp only [Act.put, List.setIfInBounds_toArray, List.set_cons_zero, List.set_cons_succ])
        refine wpAnyH_take (i := 29) (oi := { dst := some 94, op := Go.Op.load 77 (Go.Operand.tmp 13), type := 77, pos := "law.go:73", after := #[{ on := 26, ground := Go.Ground.guard }], guard := some (26, true) }) (v := ?_) rfl (by kernel_rfl) (by kernel_rfl) (by kernel_rfl) (fun _ _ _ h => h) (Or.inl ⟨by rfl, ?_⟩) (hS_3) ?_
        rotate_left
        · intro wS hSw
          refine exec_loadB (x := .tmp 13) (g := g13) (t := 77) ?_ ?_ (Blk.below H13.out hSw (Blk.lt H13.out)) Tryd.underlying77 rfl HIO2.out <;> rfl
        (try simp only [Act.put, List.setIfInBounds_toArray, List.set_cons_zero, List.set_cons_succ])
        refine wpAnyH_ready (rs := [30]) (by kernel_rfl) (by simp) ?_
        refine AllReadyH.cons (o := { dst := some 95, op := Go.Op.call { callee := Go.Callee.value (Go.Operand.func 37), args := #[Go.Operand.tmp 92, Go.Operand.tmp 93, Go.Operand.tmp 94], argTypes := #[33, 34, 65] }, type := 4, pos := "law.go:73", after := #[{ on := 27, ground := Go.Ground.data }, { on := 28, ground := Go.Ground.data }, { on := 29, ground := Go.Ground.data }, { on := 26, ground := Go.Ground.chain }, { on := 26, ground := Go.Ground.guard }], guard := some (26, true) }) rfl (fun K hK => ?_) AllReadyH.nil
        go_simp
        (refine (HCV2.out _ hS_3).mono ?_; rintro e v_4 ⟨rfl, hb⟩; have hS_4 := hS_3.trans (hb.mono hS_3.size); (try clear hb); (try clear hS_3); skip)
        (try go_wp2_with fail)
        refine hK.out _ _ ?_ (fun hHeld => ?_)
        · (try dsimp only)
          exact hS_4
        clear hK K
        (try simp only [Act.put, List.setIfInBounds_toArray, List.set_cons_zero, List.set_cons_succ])
        refine wpAnyH_take (i := 31) (oi := { dst := some 96, op := Go.Op.pick (Go.Operand.tmp 91) (Go.Operand.tmp 95) (Go.Operand.const (Go.Value.bool false)), type := 4, pos := "law.go:73", after := #[{ on := 26, ground := Go.Ground.data }, { on := 30, ground := Go.Ground.data }], guard := none }) (v := ?_) rfl (by kernel_rfl) (by kernel_rfl) (by kernel_rfl) (fun _ _ _ h => h) (Or.inl ⟨by rfl, ?_⟩) (hS_4) ?_
        rotate_left
        · intro wS hSw
          (try dsimp only at hSw)
          go_simp
          (try with_reducible rfl)
        (try simp only [Act.put, List.setIfInBounds_toArray, List.set_cons_zero, List.set_cons_succ])
        refine wpAnyH_take (i := 32) (oi := { dst := some 97, op := Go.Op.move (Go.Operand.tmp 96), type := 4, pos := "law.go:73", after := #[{ on := 31, ground := Go.Ground.data }, { on := 30, ground := Go.Ground.chain }], guard := none }) (v := ?_) rfl (by kernel_rfl) (by kernel_rfl) (by kernel_rfl) (fun _ _ _ h => h) (Or.inl ⟨by rfl, ?_⟩) (hS_4) ?_
        rotate_left
        · intro wS hSw
          (try dsimp only at hSw)
          go_simp
          (try with_reducible rfl)
        (try simp only [Act.put, List.setIfInBounds_toArray, List.set_cons_zero, List.set_cons_succ])
        refine wpAnyH_take (i := 33) (oi := { dst := some 98, op := Go.Op.load 65 (Go.Operand.tmp 7), type := 65, pos := "law.go:73", after := #[{ on := 32, ground := Go.Ground.guard }], guard := some (32, true) }) (v := ?_) rfl (by kernel_rfl) (by kernel_rfl) (by kernel_rfl) (fun _ _ _ h => h) (Or.inl ⟨by rfl, ?_⟩) (hS_4) ?_
        rotate_left
        · intro wS hSw
          refine exec_loadB (x := .tmp 7) (g := g7) (t := 65) ?_ ?_ (Blk.below H7.out hSw (Blk.lt H7.out)) Tryd.underlying65 rfl HIX1.out <;> rfl
        (try simp only [Act.put, List.setIfInBounds_toArray, List.set_cons_zero, List.set_cons_succ])
        refine wpAnyH_take (i := 36) (oi := { dst := some 101, op := Go.Op.load 77 (Go.Operand.tmp 5), type := 77, pos := "law.go:73", after := #[{ on := 32, ground := Go.Ground.guard }], guard := some (32, true) }) (v := ?_) rfl (by kernel_rfl) (by kernel_rfl) (by kernel_rfl) (fun _ _ _ h => h) (Or.inl ⟨by rfl, ?_⟩) (hS_4) ?_
        rotate_left
        · intro wS hSw
          refine exec_loadB (x := .tmp 5) (g := w.heap.size) (t := 77) ?_ ?_ (Blk.below H5.out hSw (Blk.lt H5.out)) Tryd.underlying77 rfl HIX2.out <;> rfl
        (try simp only [Act.put, List.setIfInBounds_toArray, List.set_cons_zero, List.set_cons_succ])
        refine wpAnyH_ready (rs := [34]) (by kernel_rfl) (by simp) ?_
        refine AllReadyH.cons (o := { dst := some 99, op := Go.Op.call { callee := Go.Callee.value (Go.Operand.func 46), args := #[Go.Operand.tmp 98], argTypes := #[65] }, type := 33, pos := "law.go:73", after := #[{ on := 33, ground := Go.Ground.data }, { on := 32, ground := Go.Ground.chain }, { on := 32, ground := Go.Ground.guard }], guard := some (32, true) }) rfl (fun K hK => ?_) AllReadyH.nil
        go_simp
        (refine (HCE1.out _).mono ?_; rintro e v_5 ⟨o1, c1, rfl, hE1_5, -, -, hno1, hb⟩; have hS_5 := hS_4.trans (hb.mono hS_4.size); have ho1 : o1 = none → 40 = 0 := (fun e => absurd e hno1); clear hno1; (try clear hb); (try clear hS_4); skip)
        (try go_wp2_with fail)
        refine hK.out _ _ ?_ (fun hHeld => ?_)
        · (try dsimp only)
          exact hS_5
        clear hK K
        (try simp only [Act.put, List.setIfInBounds_toArray, List.set_cons_zero, List.set_cons_succ])
        apply join_lem
        · intro key0
          refine wpAnyH_ready (rs := [35, 37]) (by kernel_rfl) (by simp) ?_
          refine AllReadyH.cons (o := { dst := some 100, op := Go.Op.convert 33 9 (Go.Operand.tmp 99), type := 9, pos := "law.go:73", after := #[{ on := 34, ground := Go.Ground.data }, { on := 32, ground := Go.Ground.guard }], guard := some (32, true) }) rfl (fun K hK => ?_) ?_
          · skip
            (refine step_valueG (v := .string (strF 40 (hdB k S))) (by kernel_rfl) (exec_convO (x := .tmp 99) (by rfl) (by rfl) (conv_any hE1_5 (ho1))) ?_)
            refine hK.out _ _ ?_ (fun hHeld => ?_)
            · (try dsimp only)
              exact hS_5
            clear hK K
            (try simp only [Act.put, List.setIfInBounds_toArray, List.set_cons_zero, List.set_cons_succ])
            refine wpAnyH_ready (rs := [37]) (by kernel_rfl) (by simp) ?_
            refine AllReadyH.cons (o := { dst := some 102, op := Go.Op.call { callee := Go.Callee.value (Go.Operand.func 47), args := #[Go.Operand.tmp 101], argTypes := #[77] }, type := 33, pos := "law.go:73", after := #[{ on := 36, ground := Go.Ground.data }, { on := 34, ground := Go.Ground.chain }, { on := 32, ground := Go.Ground.guard }], guard := some (32, true) }) rfl (fun K hK => ?_) AllReadyH.nil
            go_simp
            (refine (HCE2.out _).mono ?_; rintro e v_7 ⟨o2, c2, rfl, hE2_7, -, -, hno2, hb⟩; have hS_7 := hS_5.trans (hb.mono hS_5.size); have hE1_7 := hE1_5.later hb; have ho2 : o2 = none → 40 = 0 := (fun e => absurd e hno2); clear hno2; (try clear hb); (try clear hE1_5); (try clear hS_5); skip)
            (try go_wp2_with fail)
            refine hK.out _ _ ?_ (fun hHeld => ?_)
            · (try dsimp only)
              exact hS_7
            clear hK K
            (try simp only [Act.put, List.setIfInBounds_toArray, List.set_cons_zero, List.set_cons_succ])
            refine wpAnyH_ready (rs := [38]) (by kernel_rfl) (by simp) ?_
            refine AllReadyH.cons (o := { dst := some 103, op := Go.Op.convert 33 9 (Go.Operand.tmp 102), type := 9, pos := "law.go:73", after := #[{ on := 37, ground := Go.Ground.data }, { on := 32, ground := Go.Ground.guard }], guard := some (32, true) }) rfl (fun K hK => ?_) AllReadyH.nil
            (refine step_valueG (v := .string (strF 40 (hdB k S))) (by kernel_rfl) (exec_convO (x := .tmp 102) (by rfl) (by rfl) (conv_any hE2_7 (ho2))) ?_)
            refine hK.out _ _ ?_ (fun hHeld => ?_)
            · (try dsimp only)
              exact hS_7
            clear hK K
            (try simp only [Act.put, List.setIfInBounds_toArray, List.set_cons_zero, List.set_cons_succ])
            refine wpAnyH_take (i := 39) (oi := { dst := some 104, op := Go.Op.binOp Go.BinOp.eql 9 (Go.Operand.tmp 100) (Go.Operand.tmp 103) 9, type := 4, pos := "law.go:73", after := #[{ on := 35, ground := Go.Ground.data }, { on := 38, ground := Go.Ground.data }, { on := 32, ground := Go.Ground.guard }], guard := some (32, true) }) (v := ?_) rfl (by kernel_rfl) (by kernel_rfl) (by kernel_rfl) (fun _ _ _ h => h) (Or.inl ⟨by rfl, ?_⟩) (hS_7) ?_
            rotate_left
            · intro wS hSw
              (try dsimp only at hSw)
              go_simp
              (try with_reducible rfl)
            (try simp only [Act.put, List.setIfInBounds_toArray, List.set_cons_zero, List.set_cons_succ])
            refine wpAnyH_take (i := 40) (oi := { dst := some 105, op := Go.Op.pick (Go.Operand.tmp 97) (Go.Operand.tmp 104) (Go.Operand.const (Go.Value.bool false)), type := 4, pos := "law.go:73", after := #[{ on := 32, ground := Go.Ground.data }, { on := 39, ground := Go.Ground.data }], guard := none }) (v := ?_) rfl (by kernel_rfl) (by kernel_rfl) (by kernel_rfl) (fun _ _ _ h => h) (Or.inl ⟨by rfl, ?_⟩) (hS_7) ?_
            rotate_left
            · intro wS hSw
              (try dsimp only at hSw)
              go_simp
              (try with_reducible rfl)
            (try simp only [Act.put, List.setIfInBounds_toArray, List.set_cons_zero, List.set_cons_succ])
            refine wpAnyH_take (i := 41) (oi := { dst := some 106, op := Go.Op.move (Go.Operand.tmp 105), type := 4, pos := "law.go:73", after := #[{ on := 40, ground := Go.Ground.data }, { on := 37, ground := Go.Ground.chain }], guard := none }) (v := ?_) rfl (by kernel_rfl) (by kernel_rfl) (by kernel_rfl) (fun _ _ _ h => h) (Or.inl ⟨by rfl, ?_⟩) (hS_7) ?_
            rotate_left
            · intro wS hSw
              (try dsimp only at hSw)
              go_simp
              (try with_reducible rfl)
            (try simp only [Act.put, List.setIfInBounds_toArray, List.set_cons_zero, List.set_cons_succ])
            refine wpAnyH_take (i := 42) (oi := { dst := some 107, op := Go.Op.load 65 (Go.Operand.tmp 14), type := 65, pos := "law.go:73", after := #[{ on := 41, ground := Go.Ground.guard }], guard := some (41, true) }) (v := ?_) rfl (by kernel_rfl) (by kernel_rfl) (by kernel_rfl) (fun _ _ _ h => h) (Or.inl ⟨by rfl, ?_⟩) (hS_7) ?_
            rotate_left
            · intro wS hSw
              refine exec_loadB (x := .tmp 14) (g := g14) (t := 65) ?_ ?_ (Blk.below H14.out hSw (Blk.lt H14.out)) Tryd.underlying65 rfl HID1.out <;> rfl
            (try simp only [Act.put, List.setIfInBounds_toArray, List.set_cons_zero, List.set_cons_succ])
            refine wpAnyH_take (i := 43) (oi := { dst := some 108, op := Go.Op.load 77 (Go.Operand.tmp 16), type := 77, pos := "law.go:73", after := #[{ on := 41, ground := Go.Ground.guard }], guard := some (41, true) }) (v := ?_) rfl (by kernel_rfl) (by kernel_rfl) (by kernel_rfl) (fun _ _ _ h => h) (Or.inl ⟨by rfl, ?_⟩) (hS_7) ?_
            rotate_left
            · intro wS hSw
              refine exec_loadB (x := .tmp 16) (g := g16) (t := 77) ?_ ?_ (Blk.below H16.out hSw (Blk.lt H16.out)) Tryd.underlying77 rfl HID2.out <;> rfl
            (try simp only [Act.put, List.setIfInBounds_toArray, List.set_cons_zero, List.set_cons_succ])
            refine wpAnyH_take (i := 44) (oi := { dst := some 109, op := Go.Op.binOp Go.BinOp.eql 65 (Go.Operand.tmp 107) (Go.Operand.tmp 108) 65, type := 4, pos := "law.go:73", after := #[{ on := 42, ground := Go.Ground.data }, { on := 43, ground := Go.Ground.data }, { on := 41, ground := Go.Ground.guard }], guard := some (41, true) }) (v := ?_) rfl (by kernel_rfl) (by kernel_rfl) (by kernel_rfl) (fun _ _ _ h => h) (Or.inl ⟨by rfl, ?_⟩) (hS_7) ?_
            rotate_left
            · intro wS hSw
              refine exec_eqlM (r := 65) (x := .tmp 107) (y := .tmp 108) guard_h1 ?_ ?_ ?_ HEQD.out <;> rfl
            (try simp only [Act.put, List.setIfInBounds_toArray, List.set_cons_zero, List.set_cons_succ])
            refine wpAnyH_take (i := 45) (oi := { dst := some 110, op := Go.Op.pick (Go.Operand.tmp 106) (Go.Operand.tmp 109) (Go.Operand.const (Go.Value.bool false)), type := 4, pos := "law.go:73", after := #[{ on := 41, ground := Go.Ground.data }, { on := 44, ground := Go.Ground.data }], guard := none }) (v := ?_) rfl (by kernel_rfl) (by kernel_rfl) (by kernel_rfl) (fun _ _ _ h => h) (Or.inl ⟨by rfl, ?_⟩) (hS_7) ?_
            rotate_left
            · intro wS hSw
              (try dsimp only at hSw)
              go_simp
              (try with_reducible rfl)
            (try simp only [Act.put, List.setIfInBounds_toArray, List.set_cons_zero, List.set_cons_succ])
            refine wpAnyH_take (i := 46) (oi := { dst := some 111, op := Go.Op.move (Go.Operand.tmp 110), type := 4, pos := "law.go:73", after := #[{ on := 45, ground := Go.Ground.data }, { on := 41, ground := Go.Ground.chain }], guard := none }) (v := ?_) rfl (by kernel_rfl) (by kernel_rfl) (by kernel_rfl) (fun _ _ _ h => h) (Or.inl ⟨by rfl, ?_⟩) (hS_7) ?_
            rotate_left
            · intro wS hSw
              (try dsimp only at hSw)
              go_simp
              (try with_reducible rfl)
            (try simp only [Act.put, List.setIfInBounds_toArray, List.set_cons_zero, List.set_cons_succ])
            refine wpAnyH_take (i := 47) (oi := { dst := some 112, op := Go.Op.move (Go.Operand.tmp 15), type := 41, pos := "law.go:73", after := #[{ on := 46, ground := Go.Ground.guard }], guard := some (46, true) }) (v := ?_) rfl (by kernel_rfl) (by kernel_rfl) (by kernel_rfl) (fun _ _ _ h => h) (Or.inl ⟨by rfl, ?_⟩) (hS_7) ?_
            rotate_left
            · intro wS hSw
              (try dsimp only at hSw)
              go_simp
              (try with_reducible rfl)
            (try simp only [Act.put, List.setIfInBounds_toArray, List.set_cons_zero, List.set_cons_succ])
            refine wpAnyH_take (i := 49) (oi := { dst := some 114, op := Go.Op.move (Go.Operand.tmp 17), type := 3, pos := "law.go:73", after := #[{ on := 46, ground := Go.Ground.guard }], guard := some (46, true) }) (v := ?_) rfl (by kernel_rfl) (by kernel_rfl) (by kernel_rfl) (fun _ _ _ h => h) (Or.inl ⟨by rfl, ?_⟩) (hS_7) ?_
            rotate_left
            · intro wS hSw
              (try dsimp only at hSw)
              go_simp
              (try with_reducible rfl)
            (try simp only [Act.put, List.setIfInBounds_toArray, List.set_cons_zero, List.set_cons_succ])
            (repeat clear hHeld)
            (try clear ho2)
            (try clear hE1_0)
            (try clear hE1_1)
            (try clear hE1_2)
            (try clear hE1_3)
            (try clear hE1_4)
            (try clear hE1_5)
            (try clear hE1_6)
            (try clear hE1_7)
            (try clear hE1_8)
            (try clear hE1_9)
            (try clear hE1_10)
            (try clear hE1_11)
            (try clear hE1_12)
            (try clear hE1_13)
            (try clear hE1_14)
            (try clear hE1_15)
            (try clear hE1_16)
            (try clear hE1_17)
            (try clear hE1_18)
            (try clear hE1_19)
            (try clear hE1_20)
            (try clear hE1_21)
            (try clear hE1_22)
            (try clear hE1_23)
            (try clear hE1_24)
            (try clear hE1_25)
            (try clear hE1_26)
            (try clear hE1_27)
            (try clear hE1_28)
            (try clear hE1_29)
            (try clear hE1_30)
            (try clear hE1_31)
            (try clear hE1_32)
            (try clear hE1_33)
            (try clear hE1_34)
            (try clear hE1_35)
            (try clear hE1_36)
            (try clear hE1_37)
            (try clear hE1_38)
            (try clear hE1_39)
            (try clear hE1_40)
            (try clear hE1_41)
            (try clear hE1_42)
            (try clear hE1_43)
            (try clear hE1_44)
            (try clear hE1_45)
            (try clear hE1_46)
            (try clear hE1_47)
            (try clear hE1_48)
            (try clear hE1_49)
            (try clear hE1_50)
            (try clear hE1_51)
            (try clear hE1_52)
            (try clear hE1_53)
            (try clear hE1_54)
            (try clear hE1_55)
            (try clear hE1_56)
            (try clear hE1_57)
            (try clear hE1_58)
            (try clear hE1_59)
            (try clear hE1_60)
            (try clear hE1_61)
            (try clear hE1_62)
            (try clear hE1_63)
            (try clear hE1_64)
            (try clear hE1_65)
            (try clear hE1_66)
            (try clear hE1_67)
            (try clear hE1_68)
            (try clear hE1_69)
            (try clear hE1_70)
            (try clear hE1_71)
            (try clear hE1_72)
            (try clear hE1_73)
            (try clear hE1_74)
            (try clear hE1_75)
            (try clear hE1_76)
            (try clear hE1_77)
            (try clear hE1_78)
            (try clear hE1_79)
            (try clear hE2_0)
            (try clear hE2_1)
            (try clear hE2_2)
            (try clear hE2_3)
            (try clear hE2_4)
            (try clear hE2_5)
            (try clear hE2_6)
            (try clear hE2_7)
            (try clear hE2_8)
            (try clear hE2_9)
            (try clear hE2_10)
            (try clear hE2_11)
            (try clear hE2_12)
            (try clear hE2_13)
            (try clear hE2_14)
            (try clear hE2_15)
            (try clear hE2_16)
            (try clear hE2_17)
            (try clear hE2_18)
            (try clear hE2_19)
            (try clear hE2_20)
            (try clear hE2_21)
            (try clear hE2_22)
            (try clear hE2_23)
            (try clear hE2_24)
            (try clear hE2_25)
            (try clear hE2_26)
            (try clear hE2_27)
            (try clear hE2_28)
            (try clear hE2_29)
            (try clear hE2_30)
            (try clear hE2_31)
            (try clear hE2_32)
            (try clear hE2_33)
            (try clear hE2_34)
            (try clear hE2_35)
            (try clear hE2_36)
            (try clear hE2_37)
            (try clear hE2_38)
            (try clear hE2_39)
            (try clear hE2_40)
            (try clear hE2_41)
            (try clear hE2_42)
            (try clear hE2_43)
            (try clear hE2_44)
            (try clear hE2_45)
            (try clear hE2_46)
            (try clear hE2_47)
            (try clear hE2_48)
            (try clear hE2_49)
            (try clear hE2_50)
            (try clear hE2_51)
            (try clear hE2_52)
            (try clear hE2_53)
            (try clear hE2_54)
            (try clear hE2_55)
            (try clear hE2_56)
            (try clear hE2_57)
            (try clear hE2_58)
            (try clear hE2_59)
            (try clear hE2_60)
            (try clear hE2_61)
            (try clear hE2_62)
            (try clear hE2_63)
            (try clear hE2_64)
            (try clear hE2_65)
            (try clear hE2_66)
            (try clear hE2_67)
            (try clear hE2_68)
            (try clear hE2_69)
            (try clear hE2_70)
            (try clear hE2_71)
            (try clear hE2_72)
            (try clear hE2_73)
            (try clear hE2_74)
            (try clear hE2_75)
            (try clear hE2_76)
            (try clear hE2_77)
            (try clear hE2_78)
            (try clear hE2_79)
            revert hS_7
            revert c2
            revert o2
            revert v_7
            exact key0
          refine AllReadyH.cons (o := { dst := some 102, op := Go.Op.call { callee := Go.Callee.value (Go.Operand.func 47), args := #[Go.Operand.tmp 101], argTypes := #[77] }, type := 33, pos := "law.go:73", after := #[{ on := 36, ground := Go.Ground.data }, { on := 34, ground := Go.Ground.chain }, { on := 32, ground := Go.Ground.guard }], guard := some (32, true) }) rfl (fun K hK => ?_) AllReadyH.nil
          go_simp
          (refine (HCE2.out _).mono ?_; rintro e v_9 ⟨o2, c2, rfl, hE2_9, -, -, hno2, hb⟩; have hS_9 := hS_5.trans (hb.mono hS_5.size); have hE1_9 := hE1_5.later hb; have ho2 : o2 = none → 40 = 0 := (fun e => absurd e hno2); clear hno2; (try clear hb); (try clear hE1_5); (try clear hS_5); skip)
          (try go_wp2_with fail)
          refine hK.out _ _ ?_ (fun hHeld => ?_)
          · (try dsimp only)
            exact hS_9
          clear hK K
          (try simp only [Act.put, List.setIfInBounds_toArray, List.set_cons_zero, List.set_cons_succ])
          refine wpAnyH_ready (rs := [35, 38]) (by kernel_rfl) (by simp) ?_
          refine AllReadyH.cons (o := { dst := some 100, op := Go.Op.convert 33 9 (Go.Operand.tmp 99), type := 9, pos := "law.go:73", after := #[{ on := 34, ground := Go.Ground.data }, { on := 32, ground := Go.Ground.guard }], guard := some (32, true) }) rfl (fun K hK => ?_) ?_
          · skip
            (refine step_valueG (v := .string (strF 40 (hdB k S))) (by kernel_rfl) (exec_convO (x := .tmp 99) (by rfl) (by rfl) (conv_any hE1_9 (ho1))) ?_)
            refine hK.out _ _ ?_ (fun hHeld => ?_)
            · (try dsimp only)
              exact hS_9
            clear hK K
            (try simp only [Act.put, List.setIfInBounds_toArray, List.set_cons_zero, List.set_cons_succ])
            refine wpAnyH_ready (rs := [38]) (by kernel_rfl) (by simp) ?_
            refine AllReadyH.cons (o := { dst := some 103, op := Go.Op.convert 33 9 (Go.Operand.tmp 102), type := 9, pos := "law.go:73", after := #[{ on := 37, ground := Go.Ground.data }, { on := 32, ground := Go.Ground.guard }], guard := some (32, true) }) rfl (fun K hK => ?_) AllReadyH.nil
            (refine step_valueG (v := .string (strF 40 (hdB k S))) (by kernel_rfl) (exec_convO (x := .tmp 102) (by rfl) (by rfl) (conv_any hE2_9 (ho2))) ?_)
            refine hK.out _ _ ?_ (fun hHeld => ?_)
            · (try dsimp only)
              exact hS_9
            clear hK K
            (try simp only [Act.put, List.setIfInBounds_toArray, List.set_cons_zero, List.set_cons_succ])
            refine wpAnyH_take (i := 39) (oi := { dst := some 104, op := Go.Op.binOp Go.BinOp.eql 9 (Go.Operand.tmp 100) (Go.Operand.tmp 103) 9, type := 4, pos := "law.go:73", after := #[{ on := 35, ground := Go.Ground.data }, { on := 38, ground := Go.Ground.data }, { on := 32, ground := Go.Ground.guard }], guard := some (32, true) }) (v := ?_) rfl (by kernel_rfl) (by kernel_rfl) (by kernel_rfl) (fun _ _ _ h => h) (Or.inl ⟨by rfl, ?_⟩) (hS_9) ?_
            rotate_left
            · intro wS hSw
              (try dsimp only at hSw)
              go_simp
              (try with_reducible rfl)
            (try simp only [Act.put, List.setIfInBounds_toArray, List.set_cons_zero, List.set_cons_succ])
            refine wpAnyH_take (i := 40) (oi := { dst := some 105, op := Go.Op.pick (Go.Operand.tmp 97) (Go.Operand.tmp 104) (Go.Operand.const (Go.Value.bool false)), type := 4, pos := "law.go:73", after := #[{ on := 32, ground := Go.Ground.data }, { on := 39, ground := Go.Ground.data }], guard := none }) (v := ?_) rfl (by kernel_rfl) (by kernel_rfl) (by kernel_rfl) (fun _ _ _ h => h) (Or.inl ⟨by rfl, ?_⟩) (hS_9) ?_
            rotate_left
            · intro wS hSw
              (try dsimp only at hSw)
              go_simp
              (try with_reducible rfl)
            (try simp only [Act.put, List.setIfInBounds_toArray, List.set_cons_zero, List.set_cons_succ])
            refine wpAnyH_take (i := 41) (oi := { dst := some 106, op := Go.Op.move (Go.Operand.tmp 105), type := 4, pos := "law.go:73", after := #[{ on := 40, ground := Go.Ground.data }, { on := 37, ground := Go.Ground.chain }], guard := none }) (v := ?_) rfl (by kernel_rfl) (by kernel_rfl) (by kernel_rfl) (fun _ _ _ h => h) (Or.inl ⟨by rfl, ?_⟩) (hS_9) ?_
            rotate_left
            · intro wS hSw
              (try dsimp only at hSw)
              go_simp
              (try with_reducible rfl)
            (try simp only [Act.put, List.setIfInBounds_toArray, List.set_cons_zero, List.set_cons_succ])
            refine wpAnyH_take (i := 42) (oi := { dst := some 107, op := Go.Op.load 65 (Go.Operand.tmp 14), type := 65, pos := "law.go:73", after := #[{ on := 41, ground := Go.Ground.guard }], guard := some (41, true) }) (v := ?_) rfl (by kernel_rfl) (by kernel_rfl) (by kernel_rfl) (fun _ _ _ h => h) (Or.inl ⟨by rfl, ?_⟩) (hS_9) ?_
            rotate_left
            · intro wS hSw
              refine exec_loadB (x := .tmp 14) (g := g14) (t := 65) ?_ ?_ (Blk.below H14.out hSw (Blk.lt H14.out)) Tryd.underlying65 rfl HID1.out <;> rfl
            (try simp only [Act.put, List.setIfInBounds_toArray, List.set_cons_zero, List.set_cons_succ])
            refine wpAnyH_take (i := 43) (oi := { dst := some 108, op := Go.Op.load 77 (Go.Operand.tmp 16), type := 77, pos := "law.go:73", after := #[{ on := 41, ground := Go.Ground.guard }], guard := some (41, true) }) (v := ?_) rfl (by kernel_rfl) (by kernel_rfl) (by kernel_rfl) (fun _ _ _ h => h) (Or.inl ⟨by rfl, ?_⟩) (hS_9) ?_
            rotate_left
            · intro wS hSw
              refine exec_loadB (x := .tmp 16) (g := g16) (t := 77) ?_ ?_ (Blk.below H16.out hSw (Blk.lt H16.out)) Tryd.underlying77 rfl HID2.out <;> rfl
            (try simp only [Act.put, List.setIfInBounds_toArray, List.set_cons_zero, List.set_cons_succ])
            refine wpAnyH_take (i := 44) (oi := { dst := some 109, op := Go.Op.binOp Go.BinOp.eql 65 (Go.Operand.tmp 107) (Go.Operand.tmp 108) 65, type := 4, pos := "law.go:73", after := #[{ on := 42, ground := Go.Ground.data }, { on := 43, ground := Go.Ground.data }, { on := 41, ground := Go.Ground.guard }], guard := some (41, true) }) (v := ?_) rfl (by kernel_rfl) (by kernel_rfl) (by kernel_rfl) (fun _ _ _ h => h) (Or.inl ⟨by rfl, ?_⟩) (hS_9) ?_
            rotate_left
            · intro wS hSw
              refine exec_eqlM (r := 65) (x := .tmp 107) (y := .tmp 108) guard_h1 ?_ ?_ ?_ HEQD.out <;> rfl
            (try simp only [Act.put, List.setIfInBounds_toArray, List.set_cons_zero, List.set_cons_succ])
            refine wpAnyH_take (i := 45) (oi := { dst := some 110, op := Go.Op.pick (Go.Operand.tmp 106) (Go.Operand.tmp 109) (Go.Operand.const (Go.Value.bool false)), type := 4, pos := "law.go:73", after := #[{ on := 41, ground := Go.Ground.data }, { on := 44, ground := Go.Ground.data }], guard := none }) (v := ?_) rfl (by kernel_rfl) (by kernel_rfl) (by kernel_rfl) (fun _ _ _ h => h) (Or.inl ⟨by rfl, ?_⟩) (hS_9) ?_
            rotate_left
            · intro wS hSw
              (try dsimp only at hSw)
              go_simp
              (try with_reducible rfl)
            (try simp only [Act.put, List.setIfInBounds_toArray, List.set_cons_zero, List.set_cons_succ])
            refine wpAnyH_take (i := 46) (oi := { dst := some 111, op := Go.Op.move (Go.Operand.tmp 110), type := 4, pos := "law.go:73", after := #[{ on := 45, ground := Go.Ground.data }, { on := 41, ground := Go.Ground.chain }], guard := none }) (v := ?_) rfl (by kernel_rfl) (by kernel_rfl) (by kernel_rfl) (fun _ _ _ h => h) (Or.inl ⟨by rfl, ?_⟩) (hS_9) ?_
            rotate_left
            · intro wS hSw
              (try dsimp only at hSw)
              go_simp
              (try with_reducible rfl)
            (try simp only [Act.put, List.setIfInBounds_toArray, List.set_cons_zero, List.set_cons_succ])
            refine wpAnyH_take (i := 47) (oi := { dst := some 112, op := Go.Op.move (Go.Operand.tmp 15), type := 41, pos := "law.go:73", after := #[{ on := 46, ground := Go.Ground.guard }], guard := some (46, true) }) (v := ?_) rfl (by kernel_rfl) (by kernel_rfl) (by kernel_rfl) (fun _ _ _ h => h) (Or.inl ⟨by rfl, ?_⟩) (hS_9) ?_
            rotate_left
            · intro wS hSw
              (try dsimp only at hSw)
              go_simp
              (try with_reducible rfl)
            (try simp only [Act.put, List.setIfInBounds_toArray, List.set_cons_zero, List.set_cons_succ])
            refine wpAnyH_take (i := 49) (oi := { dst := some 114, op := Go.Op.move (Go.Operand.tmp 17), type := 3, pos := "law.go:73", after := #[{ on := 46, ground := Go.Ground.guard }], guard := some (46, true) }) (v := ?_) rfl (by kernel_rfl) (by kernel_rfl) (by kernel_rfl) (fun _ _ _ h => h) (Or.inl ⟨by rfl, ?_⟩) (hS_9) ?_
            rotate_left
            · intro wS hSw
              (try dsimp only at hSw)
              go_simp
              (try with_reducible rfl)
            (try simp only [Act.put, List.setIfInBounds_toArray, List.set_cons_zero, List.set_cons_succ])
            (repeat clear hHeld)
            (try clear ho2)
            (try clear hE1_0)
            (try clear hE1_1)
            (try clear hE1_2)
            (try clear hE1_3)
            (try clear hE1_4)
            (try clear hE1_5)
            (try clear hE1_6)
            (try clear hE1_7)
            (try clear hE1_8)
            (try clear hE1_9)
            (try clear hE1_10)
            (try clear hE1_11)
            (try clear hE1_12)
            (try clear hE1_13)
            (try clear hE1_14)
            (try clear hE1_15)
            (try clear hE1_16)
            (try clear hE1_17)
            (try clear hE1_18)
            (try clear hE1_19)
            (try clear hE1_20)
            (try clear hE1_21)
            (try clear hE1_22)
            (try clear hE1_23)
            (try clear hE1_24)
            (try clear hE1_25)
            (try clear hE1_26)
            (try clear hE1_27)
            (try clear hE1_28)
            (try clear hE1_29)
            (try clear hE1_30)
            (try clear hE1_31)
            (try clear hE1_32)
            (try clear hE1_33)
            (try clear hE1_34)
            (try clear hE1_35)
            (try clear hE1_36)
            (try clear hE1_37)
            (try clear hE1_38)
            (try clear hE1_39)
            (try clear hE1_40)
            (try clear hE1_41)
            (try clear hE1_42)
            (try clear hE1_43)
            (try clear hE1_44)
            (try clear hE1_45)
            (try clear hE1_46)
            (try clear hE1_47)
            (try clear hE1_48)
            (try clear hE1_49)
            (try clear hE1_50)
            (try clear hE1_51)
            (try clear hE1_52)
            (try clear hE1_53)
            (try clear hE1_54)
            (try clear hE1_55)
            (try clear hE1_56)
            (try clear hE1_57)
            (try clear hE1_58)
            (try clear hE1_59)
            (try clear hE1_60)
            (try clear hE1_61)
            (try clear hE1_62)
            (try clear hE1_63)
            (try clear hE1_64)
            (try clear hE1_65)
            (try clear hE1_66)
            (try clear hE1_67)
            (try clear hE1_68)
            (try clear hE1_69)
            (try clear hE1_70)
            (try clear hE1_71)
            (try clear hE1_72)
            (try clear hE1_73)
            (try clear hE1_74)
            (try clear hE1_75)
            (try clear hE1_76)
            (try clear hE1_77)
            (try clear hE1_78)
            (try clear hE1_79)
            (try clear hE2_0)
            (try clear hE2_1)
            (try clear hE2_2)
            (try clear hE2_3)
            (try clear hE2_4)
            (try clear hE2_5)
            (try clear hE2_6)
            (try clear hE2_7)
            (try clear hE2_8)
            (try clear hE2_9)
            (try clear hE2_10)
            (try clear hE2_11)
            (try clear hE2_12)
            (try clear hE2_13)
            (try clear hE2_14)
            (try clear hE2_15)
            (try clear hE2_16)
            (try clear hE2_17)
            (try clear hE2_18)
            (try clear hE2_19)
            (try clear hE2_20)
            (try clear hE2_21)
            (try clear hE2_22)
            (try clear hE2_23)
            (try clear hE2_24)
            (try clear hE2_25)
            (try clear hE2_26)
            (try clear hE2_27)
            (try clear hE2_28)
            (try clear hE2_29)
            (try clear hE2_30)
            (try clear hE2_31)
            (try clear hE2_32)
            (try clear hE2_33)
            (try clear hE2_34)
            (try clear hE2_35)
            (try clear hE2_36)
            (try clear hE2_37)
            (try clear hE2_38)
            (try clear hE2_39)
            (try clear hE2_40)
            (try clear hE2_41)
            (try clear hE2_42)
            (try clear hE2_43)
            (try clear hE2_44)
            (try clear hE2_45)
            (try clear hE2_46)
            (try clear hE2_47)
            (try clear hE2_48)
            (try clear hE2_49)
            (try clear hE2_50)
            (try clear hE2_51)
            (try clear hE2_52)
            (try clear hE2_53)
            (try clear hE2_54)
            (try clear hE2_55)
            (try clear hE2_56)
            (try clear hE2_57)
            (try clear hE2_58)
            (try clear hE2_59)
            (try clear hE2_60)
            (try clear hE2_61)
            (try clear hE2_62)
            (try clear hE2_63)
            (try clear hE2_64)
            (try clear hE2_65)
            (try clear hE2_66)
            (try clear hE2_67)
            (try clear hE2_68)
            (try clear hE2_69)
            (try clear hE2_70)
            (try clear hE2_71)
            (try clear hE2_72)
            (try clear hE2_73)
            (try clear hE2_74)
            (try clear hE2_75)
            (try clear hE2_76)
            (try clear hE2_77)
            (try clear hE2_78)
            (try clear hE2_79)
            revert hS_9
            revert c2
            revert o2
            revert v_9
            exact key0
          refine AllReadyH.cons (o := { dst := some 103, op := Go.Op.convert 33 9 (Go.Operand.tmp 102), type := 9, pos := "law.go:73", after := #[{ on := 37, ground := Go.Ground.data }, { on := 32, ground := Go.Ground.guard }], guard := some (32, true) }) rfl (fun K hK => ?_) AllReadyH.nil
          (refine step_valueG (v := .string (strF 40 (hdB k S))) (by kernel_rfl) (exec_convO (x := .tmp 102) (by rfl) (by rfl) (conv_any hE2_9 (ho2))) ?_)
          refine hK.out _ _ ?_ (fun hHeld => ?_)
          · (try dsimp only)
            exact hS_9
          clear hK K
          (try simp only [Act.put, List.setIfInBounds_toArray, List.set_cons_zero, List.set_cons_succ])
          refine wpAnyH_ready (rs := [35]) (by kernel_rfl) (by simp) ?_
          refine AllReadyH.cons (o := { dst := some 100, op := Go.Op.convert 33 9 (Go.Operand.tmp 99), type := 9, pos := "law.go:73", after := #[{ on := 34, ground := Go.Ground.data }, { on := 32, ground := Go.Ground.guard }], guard := some (32, true) }) rfl (fun K hK => ?_) AllReadyH.nil
          (refine step_valueG (v := .string (strF 40 (hdB k S))) (by kernel_rfl) (exec_convO (x := .tmp 99) (by rfl) (by rfl) (conv_any hE1_9 (ho1))) ?_)
          refine hK.out _ _ ?_ (fun hHeld => ?_)
          · (try dsimp only)
            exact hS_9
          clear hK K
          (try simp only [Act.put, List.setIfInBounds_toArray, List.set_cons_zero, List.set_cons_succ])
          refine wpAnyH_take (i := 39) (oi := { dst := some 104, op := Go.Op.binOp Go.BinOp.eql 9 (Go.Operand.tmp 100) (Go.Operand.tmp 103) 9, type := 4, pos := "law.go:73", after := #[{ on := 35, ground := Go.Ground.data }, { on := 38, ground := Go.Ground.data }, { on := 32, ground := Go.Ground.guard }], guard := some (32, true) }) (v := ?_) rfl (by kernel_rfl) (by kernel_rfl) (by kernel_rfl) (fun _ _ _ h => h) (Or.inl ⟨by rfl, ?_⟩) (hS_9) ?_
          rotate_left
          · intro wS hSw
            (try dsimp only at hSw)
            go_simp
            (try with_reducible rfl)
          (try simp only [Act.put, List.setIfInBounds_toArray, List.set_cons_zero, List.set_cons_succ])
          refine wpAnyH_take (i := 40) (oi := { dst := some 105, op := Go.Op.pick (Go.Operand.tmp 97) (Go.Operand.tmp 104) (Go.Operand.const (Go.Value.bool false)), type := 4, pos := "law.go:73", after := #[{ on := 32, ground := Go.Ground.data }, { on := 39, ground := Go.Ground.data }], guard := none }) (v := ?_) rfl (by kernel_rfl) (by kernel_rfl) (by kernel_rfl) (fun _ _ _ h => h) (Or.inl ⟨by rfl, ?_⟩) (hS_9) ?_
          rotate_left
          · intro wS hSw
            (try dsimp only at hSw)
            go_simp
            (try with_reducible rfl)
          (try simp only [Act.put, List.setIfInBounds_toArray, List.set_cons_zero, List.set_cons_succ])
          refine wpAnyH_take (i := 41) (oi := { dst := some 106, op := Go.Op.move (Go.Operand.tmp 105), type := 4, pos := "law.go:73", after := #[{ on := 40, ground := Go.Ground.data }, { on := 37, ground := Go.Ground.chain }], guard := none }) (v := ?_) rfl (by kernel_rfl) (by kernel_rfl) (by kernel_rfl) (fun _ _ _ h => h) (Or.inl ⟨by rfl, ?_⟩) (hS_9) ?_
          rotate_left
          · intro wS hSw
            (try dsimp only at hSw)
            go_simp
            (try with_reducible rfl)
          (try simp only [Act.put, List.setIfInBounds_toArray, List.set_cons_zero, List.set_cons_succ])
          refine wpAnyH_take (i := 42) (oi := { dst := some 107, op := Go.Op.load 65 (Go.Operand.tmp 14), type := 65, pos := "law.go:73", after := #[{ on := 41, ground := Go.Ground.guard }], guard := some (41, true) }) (v := ?_) rfl (by kernel_rfl) (by kernel_rfl) (by kernel_rfl) (fun _ _ _ h => h) (Or.inl ⟨by rfl, ?_⟩) (hS_9) ?_
          rotate_left
          · intro wS hSw
            refine exec_loadB (x := .tmp 14) (g := g14) (t := 65) ?_ ?_ (Blk.below H14.out hSw (Blk.lt H14.out)) Tryd.underlying65 rfl HID1.out <;> rfl
          (try simp only [Act.put, List.setIfInBounds_toArray, List.set_cons_zero, List.set_cons_succ])
          refine wpAnyH_take (i := 43) (oi := { dst := some 108, op := Go.Op.load 77 (Go.Operand.tmp 16), type := 77, pos := "law.go:73", after := #[{ on := 41, ground := Go.Ground.guard }], guard := some (41, true) }) (v := ?_) rfl (by kernel_rfl) (by kernel_rfl) (by kernel_rfl) (fun _ _ _ h => h) (Or.inl ⟨by rfl, ?_⟩) (hS_9) ?_
          rotate_left
          · intro wS hSw
            refine exec_loadB (x := .tmp 16) (g := g16) (t := 77) ?_ ?_ (Blk.below H16.out hSw (Blk.lt H16.out)) Tryd.underlying77 rfl HID2.out <;> rfl
          (try simp only [Act.put, List.setIfInBounds_toArray, List.set_cons_zero, List.set_cons_succ])
          refine wpAnyH_take (i := 44) (oi := { dst := some 109, op := Go.Op.binOp Go.BinOp.eql 65 (Go.Operand.tmp 107) (Go.Operand.tmp 108) 65, type := 4, pos := "law.go:73", after := #[{ on := 42, ground := Go.Ground.data }, { on := 43, ground := Go.Ground.data }, { on := 41, ground := Go.Ground.guard }], guard := some (41, true) }) (v := ?_) rfl (by kernel_rfl) (by kernel_rfl) (by kernel_rfl) (fun _ _ _ h => h) (Or.inl ⟨by rfl, ?_⟩) (hS_9) ?_
          rotate_left
          · intro wS hSw
            refine exec_eqlM (r := 65) (x := .tmp 107) (y := .tmp 108) guard_h1 ?_ ?_ ?_ HEQD.out <;> rfl
          (try simp only [Act.put, List.setIfInBounds_toArray, List.set_cons_zero, List.set_cons_succ])
          refine wpAnyH_take (i := 45) (oi := { dst := some 110, op := Go.Op.pick (Go.Operand.tmp 106) (Go.Operand.tmp 109) (Go.Operand.const (Go.Value.bool false)), type := 4, pos := "law.go:73", after := #[{ on := 41, ground := Go.Ground.data }, { on := 44, ground := Go.Ground.data }], guard := none }) (v := ?_) rfl (by kernel_rfl) (by kernel_rfl) (by kernel_rfl) (fun _ _ _ h => h) (Or.inl ⟨by rfl, ?_⟩) (hS_9) ?_
          rotate_left
          · intro wS hSw
            (try dsimp only at hSw)
            go_simp
            (try with_reducible rfl)
          (try simp only [Act.put, List.setIfInBounds_toArray, List.set_cons_zero, List.set_cons_succ])
          refine wpAnyH_take (i := 46) (oi := { dst := some 111, op := Go.Op.move (Go.Operand.tmp 110), type := 4, pos := "law.go:73", after := #[{ on := 45, ground := Go.Ground.data }, { on := 41, ground := Go.Ground.chain }], guard := none }) (v := ?_) rfl (by kernel_rfl) (by kernel_rfl) (by kernel_rfl) (fun _ _ _ h => h) (Or.inl ⟨by rfl, ?_⟩) (hS_9) ?_
          rotate_left
          · intro wS hSw
            (try dsimp only at hSw)
            go_simp
            (try with_reducible rfl)
          (try simp only [Act.put, List.setIfInBounds_toArray, List.set_cons_zero, List.set_cons_succ])
          refine wpAnyH_take (i := 47) (oi := { dst := some 112, op := Go.Op.move (Go.Operand.tmp 15), type := 41, pos := "law.go:73", after := #[{ on := 46, ground := Go.Ground.guard }], guard := some (46, true) }) (v := ?_) rfl (by kernel_rfl) (by kernel_rfl) (by kernel_rfl) (fun _ _ _ h => h) (Or.inl ⟨by rfl, ?_⟩) (hS_9) ?_
          rotate_left
          · intro wS hSw
            (try dsimp only at hSw)
            go_simp
            (try with_reducible rfl)
          (try simp only [Act.put, List.setIfInBounds_toArray, List.set_cons_zero, List.set_cons_succ])
          refine wpAnyH_take (i := 49) (oi := { dst := some 114, op := Go.Op.move (Go.Operand.tmp 17), type := 3, pos := "law.go:73", after := #[{ on := 46, ground := Go.Ground.guard }], guard := some (46, true) }) (v := ?_) rfl (by kernel_rfl) (by kernel_rfl) (by kernel_rfl) (fun _ _ _ h => h) (Or.inl ⟨by rfl, ?_⟩) (hS_9) ?_
          rotate_left
          · intro wS hSw
            (try dsimp only at hSw)
            go_simp
            (try with_reducible rfl)
          (try simp only [Act.put, List.setIfInBounds_toArray, List.set_cons_zero, List.set_cons_succ])
          (repeat clear hHeld)
          (try clear ho2)
          (try clear hE1_0)
          (try clear hE1_1)
          (try clear hE1_2)
          (try clear hE1_3)
          (try clear hE1_4)
          (try clear hE1_5)
          (try clear hE1_6)
          (try clear hE1_7)
          (try clear hE1_8)
          (try clear hE1_9)
          (try clear hE1_10)
          (try clear hE1_11)
          (try clear hE1_12)
          (try clear hE1_13)
          (try clear hE1_14)
          (try clear hE1_15)
          (try clear hE1_16)
          (try clear hE1_17)
          (try clear hE1_18)
          (try clear hE1_19)
          (try clear hE1_20)
          (try clear hE1_21)
          (try clear hE1_22)
          (try clear hE1_23)
          (try clear hE1_24)
          (try clear hE1_25)
          (try clear hE1_26)
          (try clear hE1_27)
          (try clear hE1_28)
          (try clear hE1_29)
          (try clear hE1_30)
          (try clear hE1_31)
          (try clear hE1_32)
          (try clear hE1_33)
          (try clear hE1_34)
          (try clear hE1_35)
          (try clear hE1_36)
          (try clear hE1_37)
          (try clear hE1_38)
          (try clear hE1_39)
          (try clear hE1_40)
          (try clear hE1_41)
          (try clear hE1_42)
          (try clear hE1_43)
          (try clear hE1_44)
          (try clear hE1_45)
          (try clear hE1_46)
          (try clear hE1_47)
          (try clear hE1_48)
          (try clear hE1_49)
          (try clear hE1_50)
          (try clear hE1_51)
          (try clear hE1_52)
          (try clear hE1_53)
          (try clear hE1_54)
          (try clear hE1_55)
          (try clear hE1_56)
          (try clear hE1_57)
          (try clear hE1_58)
          (try clear hE1_59)
          (try clear hE1_60)
          (try clear hE1_61)
          (try clear hE1_62)
          (try clear hE1_63)
          (try clear hE1_64)
          (try clear hE1_65)
          (try clear hE1_66)
          (try clear hE1_67)
          (try clear hE1_68)
          (try clear hE1_69)
          (try clear hE1_70)
          (try clear hE1_71)
          (try clear hE1_72)
          (try clear hE1_73)
          (try clear hE1_74)
          (try clear hE1_75)
          (try clear hE1_76)
          (try clear hE1_77)
          (try clear hE1_78)
          (try clear hE1_79)
          (try clear hE2_0)
          (try clear hE2_1)
          (try clear hE2_2)
          (try clear hE2_3)
          (try clear hE2_4)
          (try clear hE2_5)
          (try clear hE2_6)
          (try clear hE2_7)
          (try clear hE2_8)
          (try clear hE2_9)
          (try clear hE2_10)
          (try clear hE2_11)
          (try clear hE2_12)
          (try clear hE2_13)
          (try clear hE2_14)
          (try clear hE2_15)
          (try clear hE2_16)
          (try clear hE2_17)
          (try clear hE2_18)
          (try clear hE2_19)
          (try clear hE2_20)
          (try clear hE2_21)
          (try clear hE2_22)
          (try clear hE2_23)
          (try clear hE2_24)
          (try clear hE2_25)
          (try clear hE2_26)
          (try clear hE2_27)
          (try clear hE2_28)
          (try clear hE2_29)
          (try clear hE2_30)
          (try clear hE2_31)
          (try clear hE2_32)
          (try clear hE2_33)
          (try clear hE2_34)
          (try clear hE2_35)
          (try clear hE2_36)
          (try clear hE2_37)
          (try clear hE2_38)
          (try clear hE2_39)
          (try clear hE2_40)
          (try clear hE2_41)
          (try clear hE2_42)
          (try clear hE2_43)
          (try clear hE2_44)
          (try clear hE2_45)
          (try clear hE2_46)
          (try clear hE2_47)
          (try clear hE2_48)
          (try clear hE2_49)
          (try clear hE2_50)
          (try clear hE2_51)
          (try clear hE2_52)
          (try clear hE2_53)
          (try clear hE2_54)
          (try clear hE2_55)
          (try clear hE2_56)
          (try clear hE2_57)
          (try clear hE2_58)
          (try clear hE2_59)
          (try clear hE2_60)
          (try clear hE2_61)
          (try clear hE2_62)
          (try clear hE2_63)
          (try clear hE2_64)
          (try clear hE2_65)
          (try clear hE2_66)
          (try clear hE2_67)
          (try clear hE2_68)
          (try clear hE2_69)
          (try clear hE2_70)
          (try clear hE2_71)
          (try clear hE2_72)
          (try clear hE2_73)
          (try clear hE2_74)
          (try clear hE2_75)
          (try clear hE2_76)
          (try clear hE2_77)
          (try clear hE2_78)
          (try clear hE2_79)
          revert hS_9
          revert c2
          revert o2
          revert v_9
          exact key0
        · intro W_J0 o2 c2 hS_J0
          refine wpAnyH_ready (rs := [48]) (by kernel_rfl) (by simp) ?_
          refine AllReadyH.cons (o := { dst := some 113, op := Go.Op.call { callee := Go.Callee.value (Go.Operand.func 45), args := #[Go.Operand.tmp 112], argTypes := #[41] }, type := 3, pos := "law.go:73", after := #[{ on := 47, ground := Go.Ground.data }, { on := 46, ground := Go.Ground.chain }, { on := 46, ground := Go.Ground.guard }], guard := some (46, true) }) rfl (fun K hK => ?_) AllReadyH.nil
          go_simp
          (refine (er_any34 v15 DE _ HV15.out (HCG.out _ hS_J0).1).mono ?_; rintro e v_14 ⟨rfl, hb⟩; have hS_14 := hS_J0.trans (hb.mono hS_J0.size); (try clear hb); (try clear hS_J0); skip)
          (try go_wp2_with fail)
          refine hK.out _ _ ?_ (fun hHeld => ?_)
          · (try dsimp only)
            exact hS_14
          clear hK K
          (try simp only [Act.put, List.setIfInBounds_toArray, List.set_cons_zero, List.set_cons_succ])
          refine wpAnyH_take (i := 50) (oi := { dst := some 115, op := Go.Op.binOp Go.BinOp.eql 3 (Go.Operand.tmp 113) (Go.Operand.tmp 114) 3, type := 4, pos := "law.go:73", after := #[{ on := 48, ground := Go.Ground.data }, { on := 49, ground := Go.Ground.data }, { on := 46, ground := Go.Ground.guard }], guard := some (46, true) }) (v := ?_) rfl (by kernel_rfl) (by kernel_rfl) (by kernel_rfl) (fun _ _ _ h => h) (Or.inl ⟨by rfl, ?_⟩) (hS_14) ?_
          rotate_left
          · intro wS hSw
            (try dsimp only at hSw)
            go_simp
            (try with_reducible rfl)
          (try simp only [Act.put, List.setIfInBounds_toArray, List.set_cons_zero, List.set_cons_succ])
          refine wpAnyH_take (i := 51) (oi := { dst := some 116, op := Go.Op.pick (Go.Operand.tmp 111) (Go.Operand.tmp 115) (Go.Operand.const (Go.Value.bool false)), type := 4, pos := "law.go:73", after := #[{ on := 46, ground := Go.Ground.data }, { on := 50, ground := Go.Ground.data }], guard := none }) (v := ?_) rfl (by kernel_rfl) (by kernel_rfl) (by kernel_rfl) (fun _ _ _ h => h) (Or.inl ⟨by rfl, ?_⟩) (hS_14) ?_
          rotate_left
          · intro wS hSw
            (try dsimp only at hSw)
            go_simp
            (try with_reducible rfl)
          (try simp only [Act.put, List.setIfInBounds_toArray, List.set_cons_zero, List.set_cons_succ])
          refine wpAnyH_take (i := 52) (oi := { dst := some 117, op := Go.Op.move (Go.Operand.tmp 116), type := 4, pos := "law.go:73", after := #[{ on := 51, ground := Go.Ground.data }, { on := 48, ground := Go.Ground.chain }], guard := none }) (v := ?_) rfl (by kernel_rfl) (by kernel_rfl) (by kernel_rfl) (fun _ _ _ h => h) (Or.inl ⟨by rfl, ?_⟩) (hS_14) ?_
          rotate_left
          · intro wS hSw
            (try dsimp only at hSw)
            go_simp
            (try with_reducible rfl)
          (try simp only [Act.put, List.setIfInBounds_toArray, List.set_cons_zero, List.set_cons_succ])
          refine wpAnyH_ready (rs := [53]) (by kernel_rfl) (by simp) ?_
          refine AllReadyH.cons (o := { dst := some 118, op := Go.Op.call { callee := Go.Callee.value (Go.Operand.func 34), args := #[], argTypes := #[] }, type := 4, pos := "law.go:73", after := #[{ on := 52, ground := Go.Ground.chain }, { on := 52, ground := Go.Ground.guard }], guard := some (52, true) }) rfl (fun K hK => ?_) AllReadyH.nil
          go_simp
          (refine (chain_sure _ (HCG.out _ hS_14)).mono ?_; rintro e v_15 ⟨rfl, hb⟩; have hS_15 := hS_14.trans (hb.mono hS_14.size); (try clear hb); (try clear hS_14); skip)
          (try go_wp2_with fail)
          refine hK.out _ _ ?_ (fun hHeld => ?_)
          · (try dsimp only)
            exact hS_15
          clear hK K
          (try simp only [Act.put, List.setIfInBounds_toArray, List.set_cons_zero, List.set_cons_succ])
          refine wpAnyH_take (i := 54) (oi := { dst := some 119, op := Go.Op.pick (Go.Operand.tmp 117) (Go.Operand.tmp 118) (Go.Operand.const (Go.Value.bool false)), type := 4, pos := "law.go:73", after := #[{ on := 52, ground := Go.Ground.data }, { on := 53, ground := Go.Ground.data }], guard := none }) (v := ?_) rfl (by kernel_rfl) (by kernel_rfl) (by kernel_rfl) (fun _ _ _ h => h) (Or.inl ⟨by rfl, ?_⟩) (hS_15) ?_
          rotate_left
          · intro wS hSw
            (try dsimp only at hSw)
            go_simp
            (try with_reducible rfl)
          (try simp only [Act.put, List.setIfInBounds_toArray, List.set_cons_zero, List.set_cons_succ])
          refine wpAnyH_take (i := 55) (oi := { dst := some 6, op := Go.Op.assign (Go.Operand.tmp 119), type := 4, pos := "law.go:73", after := #[{ on := 54, ground := Go.Ground.data }, { on := 53, ground := Go.Ground.chain }, { on := 0, ground := Go.Ground.phase }, { on := 1, ground := Go.Ground.phase }, { on := 2, ground := Go.Ground.phase }, { on := 3, ground := Go.Ground.phase }, { on := 4, ground := Go.Ground.phase }, { on := 5, ground := Go.Ground.phase }, { on := 6, ground := Go.Ground.phase }, { on := 7, ground := Go.Ground.phase }, { on := 8, ground := Go.Ground.phase }, { on := 9, ground := Go.Ground.phase }, { on := 10, ground := Go.Ground.phase }, { on := 11, ground := Go.Ground.phase }, { on := 12, ground := Go.Ground.phase }, { on := 13, ground := Go.Ground.phase }, { on := 14, ground := Go.Ground.phase }, { on := 15, ground := Go.Ground.phase }, { on := 16, ground := Go.Ground.phase }, { on := 17, ground := Go.Ground.phase }, { on := 18, ground := Go.Ground.phase }, { on := 19, ground := Go.Ground.phase }, { on := 20, ground := Go.Ground.phase }, { on := 21, ground := Go.Ground.phase }, { on := 22, ground := Go.Ground.phase }, { on := 23, ground := Go.Ground.phase }, { on := 24, ground := Go.Ground.phase }, { on := 25, ground := Go.Ground.phase }, { on := 26, ground := Go.Ground.phase }, { on := 27, ground := Go.Ground.phase }, { on := 28, ground := Go.Ground.phase }, { on := 29, ground := Go.Ground.phase }, { on := 30, ground := Go.Ground.phase }, { on := 31, ground := Go.Ground.phase }, { on := 32, ground := Go.Ground.phase }, { on := 33, ground := Go.Ground.phase }, { on := 34, ground := Go.Ground.phase }, { on := 35, ground := Go.Ground.phase }, { on := 36, ground := Go.Ground.phase }, { on := 37, ground := Go.Ground.phase }, { on := 38, ground := Go.Ground.phase }, { on := 39, ground := Go.Ground.phase }, { on := 40, ground := Go.Ground.phase }, { on := 41, ground := Go.Ground.phase }, { on := 42, ground := Go.Ground.phase }, { on := 43, ground := Go.Ground.phase }, { on := 44, ground := Go.Ground.phase }, { on := 45, ground := Go.Ground.phase }, { on := 46, ground := Go.Ground.phase }, { on := 47, ground := Go.Ground.phase }, { on := 48, ground := Go.Ground.phase }, { on := 49, ground := Go.Ground.phase }, { on := 50, ground := Go.Ground.phase }, { on := 51, ground := Go.Ground.phase }, { on := 52, ground := Go.Ground.phase }, { on := 53, ground := Go.Ground.phase }, { on := 54, ground := Go.Ground.phase }], guard := none }) (v := ?_) rfl (by kernel_rfl) (by kernel_rfl) (by kernel_rfl) (fun _ _ _ h => h) (Or.inl ⟨by rfl, ?_⟩) (hS_15) ?_
          rotate_left
          · intro wS hSw
            (try dsimp only at hSw)
            go_simp
            (try with_reducible rfl)
          (try simp only [Act.put, List.setIfInBounds_toArray, List.set_cons_zero, List.set_cons_succ])
          refine wpAnyH_done (by kernel_rfl) ?_ _
          go_wp2_with fail
          go_ret
          exact ⟨rfl, HBO.out _ hS_15⟩
end Go.Proofs.YtmabhjifldafaaaDoor
