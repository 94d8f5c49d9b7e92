/- What must always come. -/
import Derived.Test.YtncfocjmdecapaaGreatDoorZB0
import Derived.Test.YtncfocjmdecapaaGreatDoorZS1
import Derived.Test.YtncfocjmdecapaaGreatDoorZS2
import Derived.Test.YtncfocjmdecapaaGreatDoorZSh4
import Derived.Test.YtncfocjmdecapaaGreatDoorZA0
import Derived.Test.YtncfocjmdecapaaGreatDoorZS5
import Derived.Test.YtncfocjmdecapaaGreatDoorZSh7
import Derived.Test.YtncfocjmdecapaaGreatDoorZS8
import Derived.Test.YtncfocjmdecapaaGreatDoorZHm2
import Derived.Test.YtncfocjmdecapaaGreatDoorZAs
import Derived.Test.YtncfocjmdecapaaGreatDoorZR0
import Derived.Test.YtncfocjmdecapaaGreatDoorZK0
import Derived.Test.YtncfocjmdecapaaGreatDoorZK1
import Derived.Test.YtncfocjmdecapaaGreatDoorZK4
import Derived.Test.YtncfocjmdecapaaGreatDoorZKr5
import Derived.Test.YtncfocjmdecapaaGreatDoorZF1
import Derived.Test.YtncfocjmdecapaaGreatDoorZF2
import Derived.Test.YtncfocjmdecapaaGreatDoorZB16
import Derived.Test.YtncfocjmdecapaaGreatDoorZAe4
import Derived.Test.YtncfocjmdecapaaGreatDoorZC0
import Derived.Test.YtncfocjmdecapaaGreatDoorZC2
import Derived.Test.YtncfocjmdecapaaGreatDoorZGc5
import Derived.Test.YtncfocjmdecapaaGreatDoorZV1
import Derived.Test.YtncfocjmdecapaaGreatDoorZK6
import Derived.Test.YtncfocjmdecapaaGreatDoorZEv2
import Derived.Test.YtncfocjmdecapaaGreatDoorZEv3
import Derived.Test.YtncfocjmdecapaaGreatDoorZEv4
namespace Go.Proofs.YtncfocjmdecapaaGreatDoor
set_option linter.unusedVariables false
set_option linter.unusedSimpArgs false
open Go.RowKit
theorem eopen_len (oa ob : Option Addr) (cn m cm x : Nat) (w : World) (hm : m ≠ 48) :
    Calls Tryz.prog 6 #[.slice oa 32 cn, .slice ob m cm, .int .u32 (x : Int)] w fun e w' => e = .returned (.tuple #[.slice none 0 0, .iface 53 (.int .i64 13)]) ∧ Below w.heap.size w w' := by
  have a1 : ¬ (m : Int) = 48 := by omega
  have a2 : decide ((m : Int) = 48) = false := decide_eq_false a1
  have a3 : ((m : Int) == 48) = false := by simp only [beq_eq_false_iff_ne]; exact a1
  have a4 : decide (m = 48) = false := decide_eq_false (by omega)
  have a5 : (m == 48) = false := by simp only [beq_eq_false_iff_ne]; omega
  have a6 : ¬ m = 48 := by omega
  go_enter Tryz.func6, Tryz.ntmps6
  go_wp2_with fail
  refine bodyPost_ret (v := .tuple #[.slice none 0 0, .iface 53 (.int .i64 13)]) ?_ rfl ⟨rfl, Below.refl _ _⟩
  exact results_tmp2 (t := 6) (u := 7) Tryz.results6 _ _ _
def rF : Nat → Nat := fun i => [48, 49, 50, 51, 52, 53, 54, 55, 56, 57, 97, 98, 99, 100, 101, 102, 48, 49, 50, 51, 52, 53, 54, 55, 56, 57, 97, 98, 99, 100, 101, 102].getD i 0
theorem rF_lt : ∀ i, i < 32 → rF i < 256 := fun i hi => by
  have : ∀ k : Fin 32, rF k.1 < 256 := by decide
  exact this ⟨i, hi⟩
theorem bs_rf (w : World) : Blk (w.alloc (.cells #[.int .u8 48, .int .u8 49, .int .u8 50, .int .u8 51, .int .u8 52, .int .u8 53, .int .u8 54, .int .u8 55, .int .u8 56, .int .u8 57, .int .u8 97, .int .u8 98, .int .u8 99, .int .u8 100, .int .u8 101, .int .u8 102, .int .u8 48, .int .u8 49, .int .u8 50, .int .u8 51, .int .u8 52, .int .u8 53, .int .u8 54, .int .u8 55, .int .u8 56, .int .u8 57, .int .u8 97, .int .u8 98, .int .u8 99, .int .u8 100, .int .u8 101, .int .u8 102] 5)) w.heap.size (rowC 32 rF).toArray 5 := Blk.new w _ _
def kF4 : Nat → Nat := fun i => if i = 0 then 4 else 0
theorem kF4_lt (i : Nat) : kF4 i < 256 := by unfold kF4; split <;> omega
theorem build_k4 (w : World) : (Instr.build 22 #[(0, .int .u8 4)]).run Tryz.prog w = .ok (.agg (rowC 32 kF4).toArray) w := run_build w 22 _ _ (by kernel_rfl)
theorem ok1 : OkT 1 (fun _ => 1) := ⟨by decide, by decide, fun i hi => by show 1 = i + 1; omega⟩
theorem enc_key {f : Nat → Nat} (j : Nat) (hj : j < 32) : encF 1 (fun _ => f) (3 + 32 * 0 + j) = f j := by
  unfold encF
  rw [if_neg (by omega), if_neg (by omega), if_neg (by omega), show (3 + 32 * 0 + j - 3) % 32 = j by omega]
theorem TL.congr32 {w : World} {oa : Option Addr} {n : Nat} {N : Nat → Nat} {S U : Nat → Nat → Nat} (h : TL w oa n N S) (he : ∀ i j, i < n → j < 32 → S i j = U i j) : TL w oa n N U := fun i hi => by
  obtain ⟨b, off, e, hr⟩ := h i hi
  rw [tmL_congr fun j hj => he i j hi hj] at hr
  exact ⟨b, off, e, hr⟩
theorem ekn_lt (x : Nat) (hx : x < 4294967296) : ∀ i, i < 12 → nbF x 0 i < 256 := nbF_lt hx (by decide)
theorem ebF_lt {K R : Nat → Nat} {x : Nat} (_hK : ∀ i, i < 32 → K i < 256) (hR : ∀ i, i < 32 → R i < 256) (hx : x < 4294967296) : ∀ i, i < 48 → ebF K R x i < 256 := boxF_lt (ekn_lt x hx) hR
theorem rnF_lt (K : Nat → Nat) (m : Nat) (G : Nat → Nat) (i : Nat) : rnF K m G i < 256 := hmN_lt _ _ _ _ i
theorem rbF_lt {K G : Nat → Nat} {m : Nat} (_hm : 0 < m) (hG : ∀ i, i < m → G i < 256) : ∀ i, i < 12 + (m + 16) → rbF K m G i < 256 := catF_b (fun i _ => rnF_lt K m G i) (boxF_lt (fun i _ => rnF_lt K m G i) hG)
set_option maxRecDepth 100000 in
set_option maxHeartbeats 16000000 in
theorem sure22 (w : World) (hg : GH w) : Calls Tryz.prog 11 #[] w fun e w' => e = .returned (.bool true) ∧ Below w.heap.size w w' := by
  obtain ⟨F4, hF4⟩ : ∃ q, (rowC 32 kF4).toArray = q := ⟨_, rfl⟩
  have HK4 : Hid (∀ w, (Instr.build 22 #[(0, .int .u8 4)]).run Tryz.prog w = .ok (.agg F4) w) := Lib.hid (by rw [← hF4]; exact build_k4)
  have HFI : Hid (∀ w, Calls Tryz.prog 8 #[.agg F4] w fun e w' => ∃ g, e = .returned (.agg #[.slice (some ⟨g, 0, none⟩) 1 1]) ∧ TL w' (some ⟨g, 0, none⟩) 1 (fun _ => 1) (fun _ => kF4) ∧ Below w.heap.size w w') := Lib.hid fun w => by rw [← hF4]; exact first_any _ w
  obtain ⟨gk, hgk⟩ : ∃ q, w.heap.size = q := ⟨_, rfl⟩
  obtain ⟨wa, hwa⟩ : ∃ q, w.alloc (.cells (rowC 32 (fun _ => 0)).toArray 5) = q := ⟨_, rfl⟩
  obtain ⟨gr, hgr⟩ : ∃ q, wa.heap.size = q := ⟨_, rfl⟩
  obtain ⟨wb, hwb⟩ : ∃ q, wa.alloc (.cells #[.int .u8 48, .int .u8 49, .int .u8 50, .int .u8 51, .int .u8 52, .int .u8 53, .int .u8 54, .int .u8 55, .int .u8 56, .int .u8 57, .int .u8 97, .int .u8 98, .int .u8 99, .int .u8 100, .int .u8 101, .int .u8 102, .int .u8 48, .int .u8 49, .int .u8 50, .int .u8 51, .int .u8 52, .int .u8 53, .int .u8 54, .int .u8 55, .int .u8 56, .int .u8 57, .int .u8 97, .int .u8 98, .int .u8 99, .int .u8 100, .int .u8 101, .int .u8 102] 5) = q := ⟨_, rfl⟩
  obtain ⟨wc, hwc⟩ : ∃ q, wb.freeze ⟨gr, 32, none⟩ 1 = q := ⟨_, rfl⟩
  have hBa : Blk wa gk (rowC 32 (fun _ => 0)).toArray 5 := by rw [← hwa, ← hgk]; exact Blk.new _ _ _
  have hBb : Blk wb gr (rowC 32 rF).toArray 5 := by rw [← hwb, ← hgr]; exact bs_rf wa
  have hba : Below w.heap.size w wa := by rw [← hwa]; exact (Below.refl _ _).alloc (Nat.le_refl _) _
  have hbb : Below wa.heap.size wa wb := by rw [← hwb]; exact (Below.refl _ _).alloc (Nat.le_refl _) _
  have hbc : Below wa.heap.size wa wc := hbb.trans (by rw [← hwc]; exact (Own.frz _ _ _ _).below (Nat.le_of_eq hgr) hbb.size)
  have HSH : Hid (Shp wb gr 32) := Lib.hid (Shp.blk hBb)
  have HK : Hid (Bytes wc (some ⟨gk, 0, none⟩) 32 (fun _ => 0)) := Lib.hid ((be_bytes hBa (fun _ _ => by show (0 : Nat) < 256; decide)).later hbc)
  have HR : Hid (Bytes wc (some ⟨gr, 0, none⟩) 32 rF) := Lib.hid (by rw [← hwc]; exact (be_bytes hBb rF_lt).frz _ _)
  have HW : Hid (Below w.heap.size w wc) := Lib.hid (hba.trans (hbc.mono hba.size))
  have HG := Lib.hid hg
  clear hBa hBb hba hbb hbc hg hF4
  go_enter Tryz.func11, Tryz.ntmps11
  go_wp2_with (first | (refine wpList_mk rfl _ _ rfl 32 rfl rfl (by decide) ?_; rw [hwa, hgk]) | (refine wpList_convB rfl (.tmp 14) rfl gr 32 32 32 rfl HSH.out ?_; rw [hwc]))
  refine (eseal_any (some ⟨gk, 0, none⟩) (some ⟨gr, 0, none⟩) 32 32 3 (fun _ => 0) rF wc HK.out HR.out (by decide) (by decide) (by unfold maxLen; omega) (by decide) (HG.out.later HW.out).1).mono ?_
  rintro e w1 ⟨v1, B1, rfl, hG1, hB1, hb⟩
  replace HW := Lib.hid (HW.out.trans (hb.mono HW.out.size))
  replace HK := Lib.hid (HK.out.later hb)
  replace HR := Lib.hid (HR.out.later hb)
  clear hb 
  obtain ⟨g1, p1, rfl, -, hQ1, hp1, hm1⟩ := hG1.someN (by decide) (ebF_lt (fun i _ => by show (0 : Nat) < 256; decide) rF_lt (by decide))
  have HQ := Lib.hid hQ1
  have HP1 := Lib.hid (And.intro hp1 hm1)
  clear hG1 hB1 hQ1 hp1 hm1
  go_wp2_with fail
  refine (eopen_any (some ⟨gk, 0, none⟩) g1 0 32 p1 3 (fun _ => 0) (ebF (fun _ => 0) rF 3) w1 HK.out HQ.out (by decide) HP1.out.1 HP1.out.2 (by decide) (HG.out.later HW.out).1).mono ?_
  rintro e w2 ⟨hb, ⟨_, v2, B2, rfl, hG2, _⟩ | ⟨hq, _⟩⟩
  rotate_left
  · exact absurd ((box_tag _ _ _ _ _ _).symm.trans hq) (by decide)
  replace HW := Lib.hid (HW.out.trans (hb.mono HW.out.size))
  replace HK := Lib.hid (HK.out.later hb)
  replace HR := Lib.hid (HR.out.later hb)
  replace HQ := Lib.hid (HQ.out.later hb)
  obtain ⟨g2, p2, rfl, -, hQ2, _, _⟩ := (hG2.congr (box_open _ _ _ _ _ _)).someN (by decide) rF_lt
  have HO2 := Lib.hid hQ2
  clear hG2 hQ2 hb
  go_wp2_with (first | (refine wpList_value rfl (exec_buildM (parts := #[(0, .const (.int .u8 4))]) (ps := #[(0, .int .u8 4)]) (C := F4) rfl (by first | rfl | (simp [Act.eval]; done) | go_simp) HK4.out) ?_))
  refine (HFI.out w2).mono ?_
  rintro e w3 ⟨gt, rfl, hT3, hb⟩
  replace HW := Lib.hid (HW.out.trans (hb.mono HW.out.size))
  replace HK := Lib.hid (HK.out.later hb)
  replace HR := Lib.hid (HR.out.later hb)
  replace HQ := Lib.hid (HQ.out.later hb)
  replace HO2 := Lib.hid (HO2.out.later hb)
  have HT3 := Lib.hid hT3
  clear hb hT3
  go_wp2_with fail
  refine (esealring_ok (some ⟨gr, 0, none⟩) (some ⟨gt, 0, none⟩) 32 1 1 rF (fun _ => 1) (fun _ => kF4) w3 HR.out HT3.out ok1 (fun _ j _ _ => kF4_lt j) (by decide) (HG.out.later HW.out).1).mono ?_
  rintro e w4 ⟨v4, B4, rfl, hG4, _, hb⟩
  replace HW := Lib.hid (HW.out.trans (hb.mono HW.out.size))
  replace HK := Lib.hid (HK.out.later hb)
  replace HR := Lib.hid (HR.out.later hb)
  replace HQ := Lib.hid (HQ.out.later hb)
  replace HO2 := Lib.hid (HO2.out.later hb)
  replace HT3 := Lib.hid (HT3.out.later hb)
  obtain ⟨g4, p4, rfl, -, hQ4, hp4, hm4⟩ := hG4.someN (by decide) (rbF_lt (by decide) (fun i hi => enc_lt (by decide) (fun _ j _ _ => kF4_lt j) i hi))
  have HQ4 := Lib.hid hQ4
  have HP4 := Lib.hid (And.intro hp4 hm4)
  clear hG4 hQ4 hp4 hm4 hb
  go_wp2_with fail
  refine (openring_any (some ⟨gr, 0, none⟩) g4 0 32 63 p4 35 rF (rbF rF 35 (encF 1 (fun _ => kF4))) w4 HR.out HQ4.out (by decide) rfl HP4.out.1 HP4.out.2 (by decide) (HG.out.later HW.out).1).mono ?_
  rintro e w5 ⟨hb, ⟨_, o5, p5, rfl, hT5⟩ | ⟨hno, _⟩⟩
  rotate_left
  · exact absurd ⟨rt_ok _ _ _, (enc_isring 1 (fun _ => kF4) (by decide)).congr (rd_ok _ _ _)⟩ hno
  replace HW := Lib.hid (HW.out.trans (hb.mono HW.out.size))
  replace HK := Lib.hid (HK.out.later hb)
  replace HR := Lib.hid (HR.out.later hb)
  replace HQ := Lib.hid (HQ.out.later hb)
  replace HO2 := Lib.hid (HO2.out.later hb)
  replace HT3 := Lib.hid (HT3.out.later hb)
  replace HQ4 := Lib.hid (HQ4.out.later hb)
  have hD2 : rdF rF (rbF rF 35 (encF 1 (fun _ => kF4))) 2 = 1 := (rd_ok rF 35 (encF 1 (fun _ => kF4)) 2 (by decide)).trans rfl
  rw [hD2] at hT5 ⊢
  have hT6 := hT5.congr32 (U := fun _ => kF4) (fun i j hi hj => by obtain rfl : i = 0 := (by omega); show rdF rF (rbF rF 35 (encF 1 (fun _ => kF4))) (3 + 32 * 0 + j) = kF4 j; rw [rd_ok _ _ _ _ (by omega)]; exact enc_key j hj)
  have HT6 := Lib.hid hT6
  clear hT5 hT6 hb hD2
  obtain ⟨b9, hq9⟩ : ∃ q, w5.heap.size = q := ⟨_, rfl⟩
  obtain ⟨w6, hw6⟩ : ∃ q, w5.alloc (.cells #[.slice o5 1 p5] 32) = q := ⟨_, rfl⟩
  have hb : Below w5.heap.size w5 w6 := by rw [← hw6]; exact (Below.refl _ _).alloc (Nat.le_refl _) _
  have h9 : Blk w6 b9 #[.slice o5 1 p5] 32 := by rw [← hw6, ← hq9]; exact Blk.new _ _ _
  replace HW := Lib.hid (HW.out.trans (hb.mono HW.out.size))
  replace HK := Lib.hid (HK.out.later hb)
  replace HR := Lib.hid (HR.out.later hb)
  replace HQ := Lib.hid (HQ.out.later hb)
  replace HO2 := Lib.hid (HO2.out.later hb)
  replace HT3 := Lib.hid (HT3.out.later hb)
  replace HQ4 := Lib.hid (HQ4.out.later hb)
  replace HT6 := Lib.hid (HT6.out.later hb)
  have HB9 := Lib.hid h9
  clear hb h9
  have k47 : (47 : Int) ≤ (p1 : Int) := by have := HP1.out.1; omega
  go_wp2_with fail
  refine (eopen_len (some ⟨gk, 0, none⟩) (some ⟨g1, 0, none⟩) 32 47 p1 3 w6 (by decide)).mono ?_
  rintro e w7 ⟨rfl, hb⟩
  replace HW := Lib.hid (HW.out.trans (hb.mono HW.out.size))
  replace HK := Lib.hid (HK.out.later hb)
  replace HR := Lib.hid (HR.out.later hb)
  replace HQ := Lib.hid (HQ.out.later hb)
  replace HO2 := Lib.hid (HO2.out.later hb)
  replace HT3 := Lib.hid (HT3.out.later hb)
  replace HQ4 := Lib.hid (HQ4.out.later hb)
  replace HT6 := Lib.hid (HT6.out.later hb)
  replace HB9 := Lib.hid (Blk.below HB9.out hb (Blk.lt HB9.out))
  clear hb 
  clear k47
  have c9 : w7.cell? ⟨b9, 0, none⟩ = some (.slice o5 1 p5) := by rw [Blk.cell HB9.out]; rfl
  obtain ⟨bt, ft, et, hrt⟩ := HT6.out 0 (by decide)
  subst et
  have c4 : w7.cell? ⟨bt, ft + 1, none⟩ = some (.int .u8 4) := by have h9 := hrt 1 _ rfl; rw [Nat.zero_mul, Nat.add_zero] at h9; exact h9
  clear hrt
  go_wp2_with (first | (refine wpList_valueG (by rfl) (exec_convO (x := .tmp 71) rfl rfl (conv_any HO2.out (fun e => by cases e))) ?_) | (refine wpList_valueG (by rfl) (exec_convO (x := .tmp 73) rfl rfl (conv_any HR.out (fun e => by cases e))) ?_))
  refine (num_err 13 w7 (HG.out.later HW.out).2).mono ?_
  rintro e w8 ⟨rfl, hb⟩
  replace HW := Lib.hid (HW.out.trans (hb.mono HW.out.size))
  replace HK := Lib.hid (HK.out.later hb)
  replace HR := Lib.hid (HR.out.later hb)
  replace HQ := Lib.hid (HQ.out.later hb)
  replace HO2 := Lib.hid (HO2.out.later hb)
  replace HT3 := Lib.hid (HT3.out.later hb)
  replace HQ4 := Lib.hid (HQ4.out.later hb)
  replace HT6 := Lib.hid (HT6.out.later hb)
  replace HB9 := Lib.hid (Blk.below HB9.out hb (Blk.lt HB9.out))
  clear hb 
  go_wp2_with fail
  go_ret
  exact ⟨rfl, HW.out⟩
end Go.Proofs.YtncfocjmdecapaaGreatDoor
