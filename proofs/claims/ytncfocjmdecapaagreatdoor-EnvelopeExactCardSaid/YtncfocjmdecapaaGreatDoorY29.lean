/- Part of the proof: what stands here serves the walks of the functions that the statement calls. -/
import Derived.LaidHandle
import Derived.Test.YtncfocjmdecapaaGreatDoorY28
namespace Go.Proofs.YtncfocjmdecapaaGreatDoor
set_option linter.unusedVariables false
set_option linter.unusedSimpArgs false
open Go.RowKit
set_option maxRecDepth 100000
set_option maxHeartbeats 16000000
theorem exact_any (nA cA nB cB nX cX x n cl : Nat) (oA oB oX ol : Option Addr) (A B Q : Nat → Nat) (N : Nat → Nat) (S : Nat → Nat → Nat) (w : World) (hg : GH w) (hA : Bytes w oA nA A) (hB : Bytes w oB nB B) (hX : Bytes w oX nX Q) (hT : TL w ol n N S) (hN : ∀ i, N i < 4294967296) (hS : ∀ i j, S i j < 256)
  (lA : nA ≤ cA) (lB : nB ≤ cB) (mB : cB ≤ maxLen) (lX : nX ≤ cX) (mX : cX ≤ maxLen) (hx : x < 4294967296) (bA : nA < 9223372036854775808) (bB : nB < 9223372036854775808) (bX : nX < 9223372036854775808) (bn : n < 9223372036854775808) :
  Calls Tryz.prog 4 #[.agg #[.slice oA nA cA, .slice oB nB cB, .int .u32 (x : Int), .slice oX nX cX], .slice ol n cl] w fun e w' => e = .returned (.bool true) ∧ Below w.heap.size w w' := by
 obtain ⟨b2, hb2⟩ := zX w.heap.size
 obtain ⟨w0, hw0⟩ := zX (w.alloc (.cells #[.slice oA nA cA, .slice oB nB cB, .int .u32 (x : Int), .slice oX nX cX] 43))
 have hb0 : Below w.heap.size w w0 := by rw [← hw0]; exact zA
 have hB2 : Blk w0 b2 #[.slice oA nA cA, .slice oB nB cB, .int .u32 (x : Int), .slice oX nX cX] 43 := by rw [← hw0, ← hb2]; exact Blk.new _ _ _
 have HG := zh hg
 have HW := zh hb0
 have HB2 := zh hB2
 have HA := zh (hA.later hb0)
 have HBB := zh (hB.later hb0)
 have HX := zh (hX.later hb0)
 have HT := zh (hT.later hb0)
 have HNB := zh (And.intro hN hS)
 have HLE := zh (And.intro lA (And.intro lB (And.intro mB (And.intro lX mX))))
 have HXX := zh hx
 have e0 : w0.cell? ⟨b2, 0, none⟩ = some (.slice oA nA cA) := by rw [Blk.cell HB2.out]; rfl
 have e1 : w0.cell? ⟨b2, 1, none⟩ = some (.slice oB nB cB) := by rw [Blk.cell HB2.out]; rfl
 have e2 : w0.cell? ⟨b2, 2, none⟩ = some (.int .u32 (x : Int)) := by rw [Blk.cell HB2.out]; rfl
 have e3 : w0.cell? ⟨b2, 3, none⟩ = some (.slice oX nX cX) := by rw [Blk.cell HB2.out]; rfl
 clear hg hb0 hB2 hA hB hX hT hN hS lA lB mB lX mX hx
 by_cases g1 : 100 < nA
 ·skip
  have a1 : (100 : Int) < (nA : Int) := by omega
  have a2 : decide ((100 : Int) < (nA : Int)) = true := decide_eq_true a1
  have a7 : 100 < nA := by omega
  have a8 : decide (100 < nA) = true := decide_eq_true a7
  go_enter Tryz.func4, Tryz.ntmps4
  go_wp2_with fail
  refine (sure22 w0 (HG.out.later HW.out)).mono ?_
  rintro e w5 ⟨rfl, hb⟩
  go_wp2_with fail
  go_ret
  exact ⟨rfl, HW.out.trans (hb.mono HW.out.size)⟩
 have a1 : ¬ (100 : Int) < (nA : Int) := by omega
 have a2 : decide ((100 : Int) < (nA : Int)) = false := decide_eq_false a1
 have a7 : ¬ 100 < nA := by omega
 have a8 : decide (100 < nA) = false := decide_eq_false a7
 by_cases g2 : 100 < nB
 ·skip
  have bb1 : (100 : Int) < (nB : Int) := by omega
  have bb2 : decide ((100 : Int) < (nB : Int)) = true := decide_eq_true bb1
  have bb7 : 100 < nB := by omega
  have bb8 : decide (100 < nB) = true := decide_eq_true bb7
  go_enter Tryz.func4, Tryz.ntmps4
  go_wp2_with fail
  refine (sure22 w0 (HG.out.later HW.out)).mono ?_
  rintro e w5 ⟨rfl, hb⟩
  go_wp2_with fail
  go_ret
  exact ⟨rfl, HW.out.trans (hb.mono HW.out.size)⟩
 have bb1 : ¬ (100 : Int) < (nB : Int) := by omega
 have bb2 : decide ((100 : Int) < (nB : Int)) = false := decide_eq_false bb1
 have bb7 : ¬ 100 < nB := by omega
 have bb8 : decide (100 < nB) = false := decide_eq_false bb7
 by_cases g3 : 700 < nX
 ·skip
  have c1 : (700 : Int) < (nX : Int) := by omega
  have c2 : decide ((700 : Int) < (nX : Int)) = true := decide_eq_true c1
  have c7 : 700 < nX := by omega
  have c8 : decide (700 < nX) = true := decide_eq_true c7
  go_enter Tryz.func4, Tryz.ntmps4
  go_wp2_with fail
  refine (sure22 w0 (HG.out.later HW.out)).mono ?_
  rintro e w5 ⟨rfl, hb⟩
  go_wp2_with fail
  go_ret
  exact ⟨rfl, HW.out.trans (hb.mono HW.out.size)⟩
 have c1 : ¬ (700 : Int) < (nX : Int) := by omega
 have c2 : decide ((700 : Int) < (nX : Int)) = false := decide_eq_false c1
 have c7 : ¬ 700 < nX := by omega
 have c8 : decide (700 < nX) = false := decide_eq_false c7
 by_cases g4 : 20 < n
 ·skip
  have d1 : (20 : Int) < (n : Int) := by omega
  have d2 : decide ((20 : Int) < (n : Int)) = true := decide_eq_true d1
  have d7 : 20 < n := by omega
  have d8 : decide (20 < n) = true := decide_eq_true d7
  go_enter Tryz.func4, Tryz.ntmps4
  go_wp2_with fail
  refine (sure22 w0 (HG.out.later HW.out)).mono ?_
  rintro e w5 ⟨rfl, hb⟩
  go_wp2_with fail
  go_ret
  exact ⟨rfl, HW.out.trans (hb.mono HW.out.size)⟩
 have d1 : ¬ (20 : Int) < (n : Int) := by omega
 have d2 : decide ((20 : Int) < (n : Int)) = false := decide_eq_false d1
 have d7 : ¬ 20 < n := by omega
 have d8 : decide (20 < n) = false := decide_eq_false d7
 have HN40 := zh (show n ≤ 40 by omega)
 obtain ⟨Z5, q6, v6, hE6, hS1, hS2⟩ := seal_pr nA nB x A B HXX.out
 obtain ⟨Z9, q10, v10, hE10, hO1, hO2⟩ := open_pr nA nX x A Q HXX.out
 obtain ⟨Z13, q14, v14, hE14, hR1, hR2⟩ := sring_pr nA n A N S HNB.out.1 HNB.out.2 HN40.out
 obtain ⟨k17, M17, U17, q18, v18, hk17, hE18, hQ1, hQ2⟩ := oring_pr nA nX A Q (by omega)
 have HE6 := zh hE6
 have HE10 := zh hE10
 have HE14 := zh hE14
 have HE18 := zh hE18
 have HS1 := zh hS1
 have HS2 := zh hS2
 have HO1 := zh hO1
 have HO2 := zh hO2
 have HR1 := zh hR1
 have HR2 := zh hR2
 have HQ1 := zh hQ1
 have HQ2 := zh hQ2
 have HK17 := zh hk17
 clear hE6 hE10 hE14 hE18 hS1 hS2 hO1 hO2 hR1 hR2 hQ1 hQ2 hk17 g1 g2 g3 g4
 go_enter Tryz.func4, Tryz.ntmps4
 go_wp2_with fail
 clear e0 e1 e2 e3 a1 a2 a7 a8 bb1 bb2 bb7 bb8 c1 c2 c7 c8 d1 d2 d7 d8 bA bB bX bn
 refine (HS1.out oA cA oB cB w0 HA.out HBB.out HLE.out.1 HLE.out.2.1 HLE.out.2.2.1 (HG.out.later HW.out).1).mono ?_
 rintro e w1 ⟨o5, k5, c5, rfl, hC, hb⟩
 replace HW := zh (HW.out.trans (hb.mono HW.out.size))
 replace HB2 := zh (Blk.below HB2.out hb (Blk.lt HB2.out))
 replace HA := zh (HA.out.later hb)
 replace HBB := zh (HBB.out.later hb)
 replace HX := zh (HX.out.later hb)
 replace HT := zh (HT.out.later hb)
 have HC5 := zh hC
 clear hb hC
 have e0 : w1.cell? ⟨b2, 0, none⟩ = some (.slice oA nA cA) := by rw [Blk.cell HB2.out]; rfl
 have e1 : w1.cell? ⟨b2, 1, none⟩ = some (.slice oB nB cB) := by rw [Blk.cell HB2.out]; rfl
 have e2 : w1.cell? ⟨b2, 2, none⟩ = some (.int .u32 (x : Int)) := by rw [Blk.cell HB2.out]; rfl
 have e3 : w1.cell? ⟨b2, 3, none⟩ = some (.slice oX nX cX) := by rw [Blk.cell HB2.out]; rfl
 go_wp2_with fail
 clear e0 e1 e2 e3
 refine (HS2.out oA cA oB cB w1 HA.out HBB.out).mono ?_
 rintro e w2 ⟨o7, k7, c7, rfl, hC, hb⟩
 replace HW := zh (HW.out.trans (hb.mono HW.out.size))
 replace HB2 := zh (Blk.below HB2.out hb (Blk.lt HB2.out))
 replace HA := zh (HA.out.later hb)
 replace HBB := zh (HBB.out.later hb)
 replace HX := zh (HX.out.later hb)
 replace HT := zh (HT.out.later hb)
 replace HC5 := zh (HC5.out.later hb)
 have HC7 := zh hC
 clear hb hC
 have e0 : w2.cell? ⟨b2, 0, none⟩ = some (.slice oA nA cA) := by rw [Blk.cell HB2.out]; rfl
 have e1 : w2.cell? ⟨b2, 1, none⟩ = some (.slice oB nB cB) := by rw [Blk.cell HB2.out]; rfl
 have e2 : w2.cell? ⟨b2, 2, none⟩ = some (.int .u32 (x : Int)) := by rw [Blk.cell HB2.out]; rfl
 have e3 : w2.cell? ⟨b2, 3, none⟩ = some (.slice oX nX cX) := by rw [Blk.cell HB2.out]; rfl
 go_wp2_with fail
 clear e0 e1 e2 e3
 refine (HO1.out oA cA oX cX w2 HA.out HX.out HLE.out.1 HLE.out.2.2.2.1 HLE.out.2.2.2.2 (HG.out.later HW.out).1).mono ?_
 rintro e w3 ⟨o9, k9, c9, rfl, hC, hb⟩
 replace HW := zh (HW.out.trans (hb.mono HW.out.size))
 replace HB2 := zh (Blk.below HB2.out hb (Blk.lt HB2.out))
 replace HA := zh (HA.out.later hb)
 replace HBB := zh (HBB.out.later hb)
 replace HX := zh (HX.out.later hb)
 replace HT := zh (HT.out.later hb)
 replace HC5 := zh (HC5.out.later hb)
 replace HC7 := zh (HC7.out.later hb)
 have HC9 := zh hC
 clear hb hC
 have e0 : w3.cell? ⟨b2, 0, none⟩ = some (.slice oA nA cA) := by rw [Blk.cell HB2.out]; rfl
 have e1 : w3.cell? ⟨b2, 1, none⟩ = some (.slice oB nB cB) := by rw [Blk.cell HB2.out]; rfl
 have e2 : w3.cell? ⟨b2, 2, none⟩ = some (.int .u32 (x : Int)) := by rw [Blk.cell HB2.out]; rfl
 have e3 : w3.cell? ⟨b2, 3, none⟩ = some (.slice oX nX cX) := by rw [Blk.cell HB2.out]; rfl
 go_wp2_with fail
 clear e0 e1 e2 e3
 refine (HO2.out oA cA oX cX w3 HA.out HX.out HLE.out.2.2.2.1 HLE.out.2.2.2.2).mono ?_
 rintro e w4 ⟨o11, k11, c11, rfl, hC, hb⟩
 replace HW := zh (HW.out.trans (hb.mono HW.out.size))
 replace HB2 := zh (Blk.below HB2.out hb (Blk.lt HB2.out))
 replace HA := zh (HA.out.later hb)
 replace HBB := zh (HBB.out.later hb)
 replace HX := zh (HX.out.later hb)
 replace HT := zh (HT.out.later hb)
 replace HC5 := zh (HC5.out.later hb)
 replace HC7 := zh (HC7.out.later hb)
 replace HC9 := zh (HC9.out.later hb)
 have HC11 := zh hC
 clear hb hC
 have e0 : w4.cell? ⟨b2, 0, none⟩ = some (.slice oA nA cA) := by rw [Blk.cell HB2.out]; rfl
 have e1 : w4.cell? ⟨b2, 1, none⟩ = some (.slice oB nB cB) := by rw [Blk.cell HB2.out]; rfl
 have e2 : w4.cell? ⟨b2, 2, none⟩ = some (.int .u32 (x : Int)) := by rw [Blk.cell HB2.out]; rfl
 have e3 : w4.cell? ⟨b2, 3, none⟩ = some (.slice oX nX cX) := by rw [Blk.cell HB2.out]; rfl
 go_upto_region 7 with fail
 clear e0 e1 e2 e3
 have hb : Below w4.heap.size w4 w4.drew := (Below.refl _ _).drew
 replace HW := zh (HW.out.trans (hb.mono HW.out.size))
 replace HB2 := zh (Blk.below HB2.out hb (Blk.lt HB2.out))
 replace HA := zh (HA.out.later hb)
 replace HBB := zh (HBB.out.later hb)
 replace HX := zh (HX.out.later hb)
 replace HT := zh (HT.out.later hb)
 replace HC5 := zh (HC5.out.later hb)
 replace HC7 := zh (HC7.out.later hb)
 replace HC9 := zh (HC9.out.later hb)
 replace HC11 := zh (HC11.out.later hb)
 clear hb
 have hSW0 : w4.drew.cell? ⟨b2, 0, none⟩ = some (.slice oA nA cA) := by rw [Blk.cell HB2.out]; rfl
 refine wp_region_held_drew (S := (fun X => X.cell? ⟨b2, 0, none⟩ = some (.slice oA nA cA))) (by kernel_rfl) ?_ (fun hHeld => ?_)
 ·(try dsimp only)
  (first | assumption | (dsimp only; assumption))
 generalize w4.drew = W0 at *
 refine wT 0 ?_ rfl ?_ ?_
 rotate_left
 ·intro wS hSw
  (try dsimp only at hSw)
  go_simp
  (try with_reducible rfl)
 (try simp only [Act.put, zS])
 refine wT 1 ?_ rfl ?_ ?_
 rotate_left
 ·intro wS hSw
  (have c := hSw; go_simp; (try with_reducible rfl))
 (try simp only [Act.put, zS])
 refine wT 2 ?_ rfl ?_ ?_
 rotate_left
 ·intro wS hSw
  (try dsimp only at hSw)
  go_simp
  (try with_reducible rfl)
 (try simp only [Act.put, zS])
 refine wR [3] ?_
 refine aN rfl fun K hK => ?_
 go_simp
 (refine (give_any n cl ol N S W0 HT.out HN40.out).mono ?_; rintro e w5 ⟨og, cg, rfl, hTg, -, -, hb⟩; have HTG := zh (And.intro hTg hb); have hSW5 : w5.cell? ⟨b2, 0, none⟩ = some (.slice oA nA cA) := (by rw [Blk.cell (Blk.below HB2.out hb (Blk.lt HB2.out))]; rfl); clear hTg hb; skip)
 (try go_wp2_with fail)
 refine hK.out _ _ ?_ fun hHeld => ?_
 ·(try dsimp only)
  (first | assumption | (dsimp only; assumption))
 clear hK K
 (try simp only [Act.put, zS])
 refine wR [4] ?_
 refine aN rfl fun K hK => ?_
 go_simp
 (refine (HR1.out oA cA og cg w5 (HA.out.later HTG.out.2) HTG.out.1 HLE.out.1 (HG.out.later (HW.out.trans (HTG.out.2.mono HW.out.size))).1).mono ?_; rintro e w6 ⟨o13, k13, c13, rfl, hC, hb⟩; have HC13 := zh hC; have HB6 := zh (HTG.out.2.trans (hb.mono HTG.out.2.size)); have hSW6 : w6.cell? ⟨b2, 0, none⟩ = some (.slice oA nA cA) := (by rw [Blk.cell (Blk.below HB2.out HB6.out (Blk.lt HB2.out))]; rfl); clear hC hb; skip)
 (try go_wp2_with fail)
 refine hK.out _ _ ?_ fun hHeld => ?_
 ·(try dsimp only)
  (first | assumption | (dsimp only; assumption))
 clear hK K
 (try simp only [Act.put, zS])
 refine wT 5 ?_ rfl ?_ ?_
 rotate_left
 ·intro wS hSw
  (try dsimp only at hSw)
  go_simp
  (try with_reducible rfl)
 (try simp only [Act.put, zS])
 refine wT 6 ?_ rfl ?_ ?_
 rotate_left
 ·intro wS hSw
  (try dsimp only at hSw)
  go_simp
  (try with_reducible rfl)
 (try simp only [Act.put, zS])
 refine wT 7 ?_ rfl ?_ ?_
 rotate_left
 ·intro wS hSw
  (try dsimp only at hSw)
  go_simp
  (try with_reducible rfl)
 (try simp only [Act.put, zS])
 refine wT 8 ?_ rfl ?_ ?_
 rotate_left
 ·intro wS hSw
  (try dsimp only at hSw)
  go_simp
  (try with_reducible rfl)
 (try simp only [Act.put, zS])
 refine wT 9 ?_ rfl ?_ ?_
 rotate_left
 ·intro wS hSw
  (try dsimp only at hSw)
  go_simp
  (try with_reducible rfl)
 (try simp only [Act.put, zS])
 refine wpAnyH_done (by kernel_rfl) ?_ _
 have hb := HB6.out
 replace HW := zh (HW.out.trans (hb.mono HW.out.size))
 replace HB2 := zh (Blk.below HB2.out hb (Blk.lt HB2.out))
 replace HA := zh (HA.out.later hb)
 replace HBB := zh (HBB.out.later hb)
 replace HX := zh (HX.out.later hb)
 replace HT := zh (HT.out.later hb)
 replace HC5 := zh (HC5.out.later hb)
 replace HC7 := zh (HC7.out.later hb)
 replace HC9 := zh (HC9.out.later hb)
 replace HC11 := zh (HC11.out.later hb)
 clear hb hSW0 hSW5 hSW6
 have e0 : w6.cell? ⟨b2, 0, none⟩ = some (.slice oA nA cA) := by rw [Blk.cell HB2.out]; rfl
 have e1 : w6.cell? ⟨b2, 1, none⟩ = some (.slice oB nB cB) := by rw [Blk.cell HB2.out]; rfl
 have e2 : w6.cell? ⟨b2, 2, none⟩ = some (.int .u32 (x : Int)) := by rw [Blk.cell HB2.out]; rfl
 have e3 : w6.cell? ⟨b2, 3, none⟩ = some (.slice oX nX cX) := by rw [Blk.cell HB2.out]; rfl
 go_wp2_with fail
 clear e0 e1 e2 e3
 refine (HR2.out oA cA ol cl w6 HA.out HT.out).mono ?_
 rintro e w7 ⟨o15, k15, c15, rfl, hC, hb⟩
 replace HW := zh (HW.out.trans (hb.mono HW.out.size))
 replace HB2 := zh (Blk.below HB2.out hb (Blk.lt HB2.out))
 replace HA := zh (HA.out.later hb)
 replace HBB := zh (HBB.out.later hb)
 replace HX := zh (HX.out.later hb)
 replace HT := zh (HT.out.later hb)
 replace HC5 := zh (HC5.out.later hb)
 replace HC7 := zh (HC7.out.later hb)
 replace HC9 := zh (HC9.out.later hb)
 replace HC11 := zh (HC11.out.later hb)
 replace HC13 := zh (HC13.out.later hb)
 have HC15 := zh hC
 clear hb hC
 have e0 : w7.cell? ⟨b2, 0, none⟩ = some (.slice oA nA cA) := by rw [Blk.cell HB2.out]; rfl
 have e1 : w7.cell? ⟨b2, 1, none⟩ = some (.slice oB nB cB) := by rw [Blk.cell HB2.out]; rfl
 have e2 : w7.cell? ⟨b2, 2, none⟩ = some (.int .u32 (x : Int)) := by rw [Blk.cell HB2.out]; rfl
 have e3 : w7.cell? ⟨b2, 3, none⟩ = some (.slice oX nX cX) := by rw [Blk.cell HB2.out]; rfl
 go_wp2_with fail
 clear e0 e1 e2 e3
 refine (HQ1.out oA cA oX cX w7 HA.out HX.out HLE.out.1 HLE.out.2.2.2.1 HLE.out.2.2.2.2 (HG.out.later HW.out).1).mono ?_
 rintro e w8 ⟨o17, c17, rfl, hT17, hb⟩
 replace HW := zh (HW.out.trans (hb.mono HW.out.size))
 replace HB2 := zh (Blk.below HB2.out hb (Blk.lt HB2.out))
 replace HA := zh (HA.out.later hb)
 replace HBB := zh (HBB.out.later hb)
 replace HX := zh (HX.out.later hb)
 replace HT := zh (HT.out.later hb)
 replace HC5 := zh (HC5.out.later hb)
 replace HC7 := zh (HC7.out.later hb)
 replace HC9 := zh (HC9.out.later hb)
 replace HC11 := zh (HC11.out.later hb)
 replace HC13 := zh (HC13.out.later hb)
 replace HC15 := zh (HC15.out.later hb)
 have HT17 := zh hT17
 clear hb hT17
 obtain ⟨b17, hq17⟩ := zX w8.heap.size
 obtain ⟨w9, hw9⟩ := zX (w8.alloc (.cells #[.slice o17 k17 c17] 32))
 have hb : Below w8.heap.size w8 w9 := by rw [← hw9]; exact zA
 have h9 : Blk w9 b17 #[.slice o17 k17 c17] 32 := by rw [← hw9, ← hq17]; exact Blk.new _ _ _
 replace HW := zh (HW.out.trans (hb.mono HW.out.size))
 replace HB2 := zh (Blk.below HB2.out hb (Blk.lt HB2.out))
 replace HA := zh (HA.out.later hb)
 replace HBB := zh (HBB.out.later hb)
 replace HX := zh (HX.out.later hb)
 replace HT := zh (HT.out.later hb)
 replace HC5 := zh (HC5.out.later hb)
 replace HC7 := zh (HC7.out.later hb)
 replace HC9 := zh (HC9.out.later hb)
 replace HC11 := zh (HC11.out.later hb)
 replace HC13 := zh (HC13.out.later hb)
 replace HC15 := zh (HC15.out.later hb)
 replace HT17 := zh (HT17.out.later hb)
 have HB17 := zh h9
 clear hb h9
 have e0 : w9.cell? ⟨b2, 0, none⟩ = some (.slice oA nA cA) := by rw [Blk.cell HB2.out]; rfl
 have e1 : w9.cell? ⟨b2, 1, none⟩ = some (.slice oB nB cB) := by rw [Blk.cell HB2.out]; rfl
 have e2 : w9.cell? ⟨b2, 2, none⟩ = some (.int .u32 (x : Int)) := by rw [Blk.cell HB2.out]; rfl
 have e3 : w9.cell? ⟨b2, 3, none⟩ = some (.slice oX nX cX) := by rw [Blk.cell HB2.out]; rfl
 go_wp2_with fail
 clear e0 e1 e2 e3
 refine (HQ2.out oA cA oX cX w9 HA.out HX.out HLE.out.2.2.2.1 HLE.out.2.2.2.2).mono ?_
 rintro e w10 ⟨o19, c19, rfl, hT19, hb⟩
 replace HW := zh (HW.out.trans (hb.mono HW.out.size))
 replace HB2 := zh (Blk.below HB2.out hb (Blk.lt HB2.out))
 replace HA := zh (HA.out.later hb)
 replace HBB := zh (HBB.out.later hb)
 replace HX := zh (HX.out.later hb)
 replace HT := zh (HT.out.later hb)
 replace HC5 := zh (HC5.out.later hb)
 replace HC7 := zh (HC7.out.later hb)
 replace HC9 := zh (HC9.out.later hb)
 replace HC11 := zh (HC11.out.later hb)
 replace HC13 := zh (HC13.out.later hb)
 replace HC15 := zh (HC15.out.later hb)
 replace HT17 := zh (HT17.out.later hb)
 replace HB17 := zh (Blk.below HB17.out hb (Blk.lt HB17.out))
 have HT19 := zh hT19
 clear hb hT19
 go_wp2_with (first | (refine wpList_valueG (by rfl) (exec_convO (x := .tmp 114) rfl rfl HC5.out.conv) ?_) | (refine wpList_valueG (by rfl) (exec_convO (x := .tmp 116) rfl rfl HC7.out.conv) ?_))
 refine (num_ern w10 HE6.out (HG.out.later HW.out).2).mono ?_
 rintro e w11 ⟨rfl, hb⟩
 replace HW := zh (HW.out.trans (hb.mono HW.out.size))
 replace HB2 := zh (Blk.below HB2.out hb (Blk.lt HB2.out))
 replace HA := zh (HA.out.later hb)
 replace HBB := zh (HBB.out.later hb)
 replace HX := zh (HX.out.later hb)
 replace HT := zh (HT.out.later hb)
 replace HC5 := zh (HC5.out.later hb)
 replace HC7 := zh (HC7.out.later hb)
 replace HC9 := zh (HC9.out.later hb)
 replace HC11 := zh (HC11.out.later hb)
 replace HC13 := zh (HC13.out.later hb)
 replace HC15 := zh (HC15.out.later hb)
 replace HT17 := zh (HT17.out.later hb)
 replace HB17 := zh (Blk.below HB17.out hb (Blk.lt HB17.out))
 replace HT19 := zh (HT19.out.later hb)
 clear hb 
 go_wp2_with (first | (refine wpList_valueG (by rfl) (exec_convO (x := .tmp 126) rfl rfl HC9.out.conv) ?_) | (refine wpList_valueG (by rfl) (exec_convO (x := .tmp 128) rfl rfl HC11.out.conv) ?_))
 refine (num_ern w11 HE10.out (HG.out.later HW.out).2).mono ?_
 rintro e w12 ⟨rfl, hb⟩
 replace HW := zh (HW.out.trans (hb.mono HW.out.size))
 replace HB2 := zh (Blk.below HB2.out hb (Blk.lt HB2.out))
 replace HA := zh (HA.out.later hb)
 replace HBB := zh (HBB.out.later hb)
 replace HX := zh (HX.out.later hb)
 replace HT := zh (HT.out.later hb)
 replace HC5 := zh (HC5.out.later hb)
 replace HC7 := zh (HC7.out.later hb)
 replace HC9 := zh (HC9.out.later hb)
 replace HC11 := zh (HC11.out.later hb)
 replace HC13 := zh (HC13.out.later hb)
 replace HC15 := zh (HC15.out.later hb)
 replace HT17 := zh (HT17.out.later hb)
 replace HB17 := zh (Blk.below HB17.out hb (Blk.lt HB17.out))
 replace HT19 := zh (HT19.out.later hb)
 clear hb 
 go_wp2_with (first | (refine wpList_valueG (by rfl) (exec_convO (x := .tmp 139) rfl rfl HC13.out.conv) ?_) | (refine wpList_valueG (by rfl) (exec_convO (x := .tmp 141) rfl rfl HC15.out.conv) ?_))
 refine (num_ern w12 HE14.out (HG.out.later HW.out).2).mono ?_
 rintro e w13 ⟨rfl, hb⟩
 replace HW := zh (HW.out.trans (hb.mono HW.out.size))
 replace HB2 := zh (Blk.below HB2.out hb (Blk.lt HB2.out))
 replace HA := zh (HA.out.later hb)
 replace HBB := zh (HBB.out.later hb)
 replace HX := zh (HX.out.later hb)
 replace HT := zh (HT.out.later hb)
 replace HC5 := zh (HC5.out.later hb)
 replace HC7 := zh (HC7.out.later hb)
 replace HC9 := zh (HC9.out.later hb)
 replace HC11 := zh (HC11.out.later hb)
 replace HC13 := zh (HC13.out.later hb)
 replace HC15 := zh (HC15.out.later hb)
 replace HT17 := zh (HT17.out.later hb)
 replace HB17 := zh (Blk.below HB17.out hb (Blk.lt HB17.out))
 replace HT19 := zh (HT19.out.later hb)
 clear hb 
 have e17 : w13.cell? ⟨b17, 0, none⟩ = some (.slice o17 k17 c17) := by rw [Blk.cell HB17.out]; rfl
 go_wp2_with fail
 clear e17
 refine (isring_any k17 c17 c19 o17 o19 M17 U17 w13 HT17.out HT19.out HK17.out).mono ?_
 rintro e w14 ⟨rfl, hb⟩
 replace HW := zh (HW.out.trans (hb.mono HW.out.size))
 replace HB2 := zh (Blk.below HB2.out hb (Blk.lt HB2.out))
 replace HA := zh (HA.out.later hb)
 replace HBB := zh (HBB.out.later hb)
 replace HX := zh (HX.out.later hb)
 replace HT := zh (HT.out.later hb)
 replace HC5 := zh (HC5.out.later hb)
 replace HC7 := zh (HC7.out.later hb)
 replace HC9 := zh (HC9.out.later hb)
 replace HC11 := zh (HC11.out.later hb)
 replace HC13 := zh (HC13.out.later hb)
 replace HC15 := zh (HC15.out.later hb)
 replace HT17 := zh (HT17.out.later hb)
 replace HB17 := zh (Blk.below HB17.out hb (Blk.lt HB17.out))
 replace HT19 := zh (HT19.out.later hb)
 clear hb 
 go_wp2_with fail
 refine (num_ern w14 HE18.out (HG.out.later HW.out).2).mono ?_
 rintro e w15 ⟨rfl, hb⟩
 replace HW := zh (HW.out.trans (hb.mono HW.out.size))
 replace HB2 := zh (Blk.below HB2.out hb (Blk.lt HB2.out))
 replace HA := zh (HA.out.later hb)
 replace HBB := zh (HBB.out.later hb)
 replace HX := zh (HX.out.later hb)
 replace HT := zh (HT.out.later hb)
 replace HC5 := zh (HC5.out.later hb)
 replace HC7 := zh (HC7.out.later hb)
 replace HC9 := zh (HC9.out.later hb)
 replace HC11 := zh (HC11.out.later hb)
 replace HC13 := zh (HC13.out.later hb)
 replace HC15 := zh (HC15.out.later hb)
 replace HT17 := zh (HT17.out.later hb)
 replace HB17 := zh (Blk.below HB17.out hb (Blk.lt HB17.out))
 replace HT19 := zh (HT19.out.later hb)
 clear hb 
 go_wp2_with fail
 refine (sure22 w15 (HG.out.later HW.out)).mono ?_
 rintro e w16 ⟨rfl, hb⟩
 replace HW := zh (HW.out.trans (hb.mono HW.out.size))
 replace HB2 := zh (Blk.below HB2.out hb (Blk.lt HB2.out))
 replace HA := zh (HA.out.later hb)
 replace HBB := zh (HBB.out.later hb)
 replace HX := zh (HX.out.later hb)
 replace HT := zh (HT.out.later hb)
 replace HC5 := zh (HC5.out.later hb)
 replace HC7 := zh (HC7.out.later hb)
 replace HC9 := zh (HC9.out.later hb)
 replace HC11 := zh (HC11.out.later hb)
 replace HC13 := zh (HC13.out.later hb)
 replace HC15 := zh (HC15.out.later hb)
 replace HT17 := zh (HT17.out.later hb)
 replace HB17 := zh (Blk.below HB17.out hb (Blk.lt HB17.out))
 replace HT19 := zh (HT19.out.later hb)
 clear hb 
 go_wp2_with fail
 go_ret
 exact ⟨rfl, HW.out⟩
set_option maxRecDepth 512
set_option maxHeartbeats 200000
section
open Go.Deep Go.ChangeShapes Go.WideShapes Go.ChangeAt Go.RowKit
theorem Tryz.et : Tryz.prog.globalNamed "errors.errorType" = some 0 := by kernel_rfl
theorem Tryz.rt : (Tryz.prog.cutTypes.find? (·.1 == "internal/reflectlite.rtype")).map (·.2) = some 131 := by kernel_rfl
theorem Tryz.oneRow : ((List.range 250).filter fun t => Tryz.prog.rowNamed t [101, 114, 114, 111, 114]) = [26] := by kernel_rfl
theorem Tryz.size : Tryz.prog.types.size = 250 := by kernel_rfl
def laidH : List (String × DataW Unit) := [("bursary/sha.first", Rows.laid_bursary_sha_first), ("bursary/sha.added", Rows.laid_bursary_sha_added), ("errors.errorType", Rows.laid_errors_errorType)]
theorem gh_of_laid {W : World} (h : laidMetH Tryz.prog laidH W) : GH W := by
 have h' : laidMet Tryz.prog laidL W ∧ handlesMet Tryz.prog [("errors.errorType", Rows.laid_errors_errorType)] W := h
 refine ⟨gv_of_laid (by rw [MakeChecks.laidMetH_plain _ _ _ (by kernel_rfl)]; exact h'.1), ?_⟩
 obtain ⟨name, u, ty, e1, e2, e3, e4, e5⟩ := h'.2 _ (List.mem_singleton.2 rfl)
 have en : name = [101, 114, 114, 111, 114] := (Option.some.inj e1).symm
 subst en
 obtain rfl := Option.some.inj (Tryz.rt.symm.trans e2)
 have hm : ty ∈ (List.range 250).filter fun t => Tryz.prog.rowNamed t [101, 114, 114, 111, 114] := List.mem_filter.2 ⟨List.mem_range.2 (by rw [← Tryz.size]; exact e3), e4⟩
 rw [Tryz.oneRow] at hm
 obtain rfl := List.mem_singleton.1 hm
 have hh : typeHandle Tryz.prog 26 = .pointer (some ⟨3, 26, none⟩) := by kernel_rfl
 rw [hh] at e5
 exact Handle.of (by simpa using World.var?_cell Tryz.et e5 0)
noncomputable def laidWorld0 (os : Os) : World :=
 let w0 := World.holding Tryz.prog os ⟨#[], #[], []⟩
 { w0 with heap := w0.heap.modify 0 fun
   | .cells _ t frozen => .cells #[.iface 131 (.agg #[.pointer (some ⟨3, 26, none⟩)])] t frozen
   | o => o }
noncomputable def laidWorldH (os : Os) : World := (laidWorld0 os).layVars Tryz.prog laidL
theorem laidWorldH_os (os : Os) : (laidWorldH os).os = os := World.layVars_os _ _ _
theorem laidWorldH_data (os : Os) : laidMet Tryz.prog laidL (laidWorldH os) := by
 have e1 : (laidL.filter fun x => (laidL.map (·.1)).contains x.1) = laidL := List.filter_eq_self.2 fun x hx => List.contains_iff_mem.2 (List.mem_map.2 ⟨x, hx, rfl⟩)
 have e2 : (laidL.filter fun x => !(laidL.map (·.1)).contains x.1) = [] := List.filter_eq_nil_iff.2 fun x hx => by rw [List.contains_iff_mem.2 (List.mem_map.2 ⟨x, hx, rfl⟩)]; simp
 exact laidMet_layVars (w0 := laidWorld0 os) (laidL.map (·.1)) [] (by rw [e1]; rfl) (by rw [e1]; kernel_rfl) (by rw [e1]; kernel_rfl) (by rw [e2]; exact LaidIn.none)
theorem laidWorldH_met (os : Os) (args : Array Value) : laidMetH Tryz.prog laidH ((laidWorldH os).forCall (fun _ _ => 0) ⟨#[], args, []⟩).memory :=
 laidMetH_of_parts (show laidMet Tryz.prog laidL _ from (laidWorldH_data os).of_heap (by simp [World.memory, World.forCall, Input.heap])) (by kernel_rfl)
end
end Go.Proofs.YtncfocjmdecapaaGreatDoor
