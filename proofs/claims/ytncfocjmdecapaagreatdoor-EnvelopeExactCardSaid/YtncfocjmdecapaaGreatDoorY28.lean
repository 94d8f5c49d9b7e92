/- Part of the proof: what stands here serves the walks of the functions that the statement calls. -/
import Derived.Test.YtncfocjmdecapaaGreatDoorY27
namespace Go.Proofs.YtncfocjmdecapaaGreatDoor
set_option linter.unusedVariables false
set_option linter.unusedSimpArgs false
open Go.RowKit
set_option maxHeartbeats 400000
theorem num_nil (w : World) :
  Calls Tryz.prog 10 #[.nilIface] w fun e w' => e = .returned (.int .i64 0) ∧ Below w.heap.size w w' := by
 go_enter Tryz.func10, Tryz.ntmps10
 go_wp2
 go_ret
 exact ⟨rfl, (Below.refl _ _).alloc (Nat.le_refl _) _⟩
theorem num_err (n : Int) (w : World) (h : Handle w) :
  Calls Tryz.prog 10 #[.iface 53 (.int .i64 n)] w fun e w' => e = .returned (.int .i64 n) ∧ Below w.heap.size w w' := by
 have hA := as_hit n ⟨w.heap.size, 0, none⟩ (.int .i64 0) (w.alloc (.cells #[.int .i64 0] 53)) (h.alloc _).1 (by simp) (by simp)
 go_enter Tryz.func10, Tryz.ntmps10
 go_wp2_with fail
 refine hA.mono ?_
 rintro e w' ⟨rfl, rfl⟩
 go_wp2
 go_ret
 refine ⟨rfl, ?_⟩
 exact (((((Below.refl _ _).alloc (Nat.le_refl _) _).alloc (by simp) _).alloc (by simp; omega) _).alloc (by simp; omega) _).alloc (by simp; omega) _
set_option maxHeartbeats 200000
theorem ctrB_congr {f g : Nat → Nat} (h : ∀ i, i < 12 → f i = g i) (c : Nat) : ctrB f c = ctrB g c := by
 funext i
 unfold ctrB
 by_cases e : i < 12
 ·rw [if_pos e, if_pos e, h i e]
 ·rw [if_neg e, if_neg e]
theorem cW_congr {f g : Nat → Nat} (h : ∀ i, i < 12 → f i = g i) (W : Nat → Nat) (c : Nat) : cW W f c = cW W g c := by unfold cW; rw [ctrB_congr h]
theorem cph_nn {f g : Nat → Nat} (h : ∀ i, i < 12 → f i = g i) (W p : Nat → Nat) : cphF W f p = cphF W g p := by
 funext i; unfold cphF; rw [cW_congr h]
theorem tg_nn {f g : Nat → Nat} (h : ∀ i, i < 12 → f i = g i) (W a : Nat → Nat) (an : Nat) (c : Nat → Nat) (cn : Nat) : tgF W f a an c cn = tgF W g a an c cn := by unfold tgF; rw [cW_congr h]
theorem box_tag (W nn p : Nat → Nat) (n : Nat) (a : Nat → Nat) (an : Nat) : eqF (tgF W nn a an (boxF W nn p n a an) n) (fun i => boxF W nn p n a an (n + i)) = true := by
 refine eqF_iff.2 fun i _ => ?_
 rw [tgF_congr (d := cphF W nn p) (fun j hj => by unfold boxF catF; rw [if_pos hj])]
 show _ = boxF W nn p n a an (n + i)
 unfold boxF catF
 rw [if_neg (by omega), Nat.add_sub_cancel_left]
theorem box_open (W nn p : Nat → Nat) (n : Nat) (a : Nat → Nat) (an : Nat) (i : Nat) (hi : i < n) : cphF W nn (boxF W nn p n a an) i = p i := by
 rw [cphF_congr (q := cphF W nn p) (by unfold boxF catF; rw [if_pos hi]), cphF_back]
theorem ring_behind (K : Nat → Nat) (m : Nat) (G : Nat → Nat) : (fun i => rbF K m G (12 + i)) = boxF (ekW K sR 0) (rnF K m G) G m beR 9 := by
 funext i
 unfold rbF catF
 rw [if_neg (by omega), Nat.add_sub_cancel_left]
theorem ring_first (K : Nat → Nat) (m : Nat) (G : Nat → Nat) : ∀ i, i < 12 → rbF K m G i = rnF K m G i := fun i hi => by
 unfold rbF catF
 rw [if_pos hi]
theorem rt_ok (K : Nat → Nat) (m : Nat) (G : Nat → Nat) : rtB K (rbF K m G) m = true := by
 unfold rtB
 rw [tg_nn (ring_first K m G), ring_behind]
 have h : (fun i => rbF K m G (12 + (m + i))) = fun i => boxF (ekW K sR 0) (rnF K m G) G m beR 9 (m + i) := by
  funext i
  exact congrFun (ring_behind K m G) (m + i)
 rw [h]
 exact box_tag _ _ _ _ _ _
theorem rd_ok (K : Nat → Nat) (m : Nat) (G : Nat → Nat) (i : Nat) (hi : i < m) : rdF K (rbF K m G) i = G i := by
 unfold rdF
 rw [cph_nn (ring_first K m G), ring_behind]
 exact box_open _ _ _ _ _ _ _ hi
theorem IsRing.congr {m : Nat} {B D : Nat → Nat} (h : IsRing m B) (he : ∀ i, i < m → D i = B i) : IsRing m D := by
 obtain ⟨h0, h1, h2, h3, h4, h5⟩ := h
 exact ⟨h0, by rw [he 0 (by omega)]; exact h1, by rw [he 1 (by omega)]; exact h2, by rw [he 2 (by omega)]; exact h3, by rw [he 2 (by omega)]; exact h4, by rw [he 2 (by omega)]; exact h5⟩
theorem enc_isring (n : Nat) (S : Nat → Nat → Nat) (h : 1 ≤ n ∧ n ≤ 16) : IsRing (3 + 32 * n) (encF n S) := ⟨by omega, rfl, rfl, by show 1 ≤ n; exact h.1, by show n ≤ 16; exact h.2, by show 3 + 32 * n = 3 + 32 * n; rfl⟩
set_option maxRecDepth 100000
set_option maxHeartbeats 16000000
theorem eopen_len (oa ob : Option Addr) (cn m cm x : Nat) (w : World) (hm : m ≠ 48) :
  Calls Tryz.prog 6 #[.slice oa 32 cn, .slice ob m cm, .int .u32 (x : Int)] w fun e w' => e = .returned (.tuple #[.slice none 0 0, .iface 53 (.int .i64 13)]) ∧ Below w.heap.size w w' := by
 have a1 : ¬ (m : Int) = 48 := by omega
 have a2 : decide ((m : Int) = 48) = false := decide_eq_false a1
 have a3 : ((m : Int) == 48) = false := by simp only [beq_eq_false_iff_ne]; exact a1
 have a4 : decide (m = 48) = false := decide_eq_false (by omega)
 have a5 : (m == 48) = false := by simp only [beq_eq_false_iff_ne]; omega
 have a6 : ¬ m = 48 := by omega
 go_enter Tryz.func6, Tryz.ntmps6
 go_wp2_with fail
 refine bodyPost_ret (v := .tuple #[.slice none 0 0, .iface 53 (.int .i64 13)]) ?_ rfl ⟨rfl, Below.refl _ _⟩
 exact results_tmp2 (t := 6) (u := 7) Tryz.results6 _ _ _
def rF : Nat → Nat := fun i => [48, 49, 50, 51, 52, 53, 54, 55, 56, 57, 97, 98, 99, 100, 101, 102, 48, 49, 50, 51, 52, 53, 54, 55, 56, 57, 97, 98, 99, 100, 101, 102].getD i 0
theorem rF_lt : ∀ i, i < 32 → rF i < 256 := fun i hi => by
 have : ∀ k : Fin 32, rF k.1 < 256 := by decide
 exact this ⟨i, hi⟩
theorem bs_rf (w : World) : Blk (w.alloc (.cells #[.int .u8 48, .int .u8 49, .int .u8 50, .int .u8 51, .int .u8 52, .int .u8 53, .int .u8 54, .int .u8 55, .int .u8 56, .int .u8 57, .int .u8 97, .int .u8 98, .int .u8 99, .int .u8 100, .int .u8 101, .int .u8 102, .int .u8 48, .int .u8 49, .int .u8 50, .int .u8 51, .int .u8 52, .int .u8 53, .int .u8 54, .int .u8 55, .int .u8 56, .int .u8 57, .int .u8 97, .int .u8 98, .int .u8 99, .int .u8 100, .int .u8 101, .int .u8 102] 5)) w.heap.size (rowC 32 rF).toArray 5 := Blk.new w _ _
def kF4 : Nat → Nat := fun i => if i = 0 then 4 else 0
theorem kF4_lt (i : Nat) : kF4 i < 256 := by unfold kF4; split <;> omega
theorem build_k4 (w : World) : (Instr.build 22 #[(0, .int .u8 4)]).run Tryz.prog w = .ok (.agg (rowC 32 kF4).toArray) w := run_build w 22 _ _ (by kernel_rfl)
theorem ok1 : OkT 1 (fun _ => 1) := ⟨by decide, by decide, fun i hi => by show 1 = i + 1; omega⟩
theorem enc_key {f : Nat → Nat} (j : Nat) (hj : j < 32) : encF 1 (fun _ => f) (3 + 32 * 0 + j) = f j := by
 unfold encF
 rw [if_neg (by omega), if_neg (by omega), if_neg (by omega), show (3 + 32 * 0 + j - 3) % 32 = j by omega]
theorem TL.congr32 {w : World} {oa : Option Addr} {n : Nat} {N : Nat → Nat} {S U : Nat → Nat → Nat} (h : TL w oa n N S) (he : ∀ i j, i < n → j < 32 → S i j = U i j) : TL w oa n N U := fun i hi => by
 obtain ⟨b, off, e, hr⟩ := h i hi
 rw [tmL_congr fun j hj => he i j hi hj] at hr
 exact ⟨b, off, e, hr⟩
theorem ekn_lt (x : Nat) (hx : x < 4294967296) : ∀ i, i < 12 → nbF x 0 i < 256 := nbF_lt hx (by decide)
theorem ebF_lt {K R : Nat → Nat} {x : Nat} (_hK : ∀ i, i < 32 → K i < 256) (hR : ∀ i, i < 32 → R i < 256) (hx : x < 4294967296) : ∀ i, i < 48 → ebF K R x i < 256 := boxF_lt (ekn_lt x hx) hR
theorem rnF_lt (K : Nat → Nat) (m : Nat) (G : Nat → Nat) (i : Nat) : rnF K m G i < 256 := hmN_lt _ _ _ _ i
theorem rbF_lt {K G : Nat → Nat} {m : Nat} (_hm : 0 < m) (hG : ∀ i, i < m → G i < 256) : ∀ i, i < 12 + (m + 16) → rbF K m G i < 256 := catF_b (fun i _ => rnF_lt K m G i) (boxF_lt (fun i _ => rnF_lt K m G i) hG)
theorem sure22 (w : World) (hg : GH w) : Calls Tryz.prog 11 #[] w fun e w' => e = .returned (.bool true) ∧ Below w.heap.size w w' := by
 obtain ⟨F4, hF4⟩ := zX ((rowC 32 kF4).toArray)
 have HK4 : Hid (∀ w, (Instr.build 22 #[(0, .int .u8 4)]).run Tryz.prog w = .ok (.agg F4) w) := zh (by rw [← hF4]; exact build_k4)
 have HFI : Hid (∀ w, Calls Tryz.prog 8 #[.agg F4] w fun e w' => ∃ g, e = .returned (.agg #[.slice (some ⟨g, 0, none⟩) 1 1]) ∧ TL w' (some ⟨g, 0, none⟩) 1 (fun _ => 1) (fun _ => kF4) ∧ Below w.heap.size w w') := zh fun w => by rw [← hF4]; exact first_any _ w
 obtain ⟨gk, hgk⟩ := zX w.heap.size
 obtain ⟨wa, hwa⟩ := zX (w.alloc (.cells (rowC 32 (fun _ => 0)).toArray 5))
 obtain ⟨gr, hgr⟩ := zX wa.heap.size
 obtain ⟨wb, hwb⟩ := zX (wa.alloc (.cells #[.int .u8 48, .int .u8 49, .int .u8 50, .int .u8 51, .int .u8 52, .int .u8 53, .int .u8 54, .int .u8 55, .int .u8 56, .int .u8 57, .int .u8 97, .int .u8 98, .int .u8 99, .int .u8 100, .int .u8 101, .int .u8 102, .int .u8 48, .int .u8 49, .int .u8 50, .int .u8 51, .int .u8 52, .int .u8 53, .int .u8 54, .int .u8 55, .int .u8 56, .int .u8 57, .int .u8 97, .int .u8 98, .int .u8 99, .int .u8 100, .int .u8 101, .int .u8 102] 5))
 obtain ⟨wc, hwc⟩ := zX (wb.freeze ⟨gr, 32, none⟩ 1)
 have hBa : Blk wa gk (rowC 32 (fun _ => 0)).toArray 5 := by rw [← hwa, ← hgk]; exact Blk.new _ _ _
 have hBb : Blk wb gr (rowC 32 rF).toArray 5 := by rw [← hwb, ← hgr]; exact bs_rf wa
 have hba : Below w.heap.size w wa := by rw [← hwa]; exact zA
 have hbb : Below wa.heap.size wa wb := by rw [← hwb]; exact zA
 have hbc : Below wa.heap.size wa wc := hbb.trans (by rw [← hwc]; exact (Own.frz _ _ _ _).below (Nat.le_of_eq hgr) hbb.size)
 have HSH : Hid (Shp wb gr 32) := zh (Shp.blk hBb)
 have HK : Hid (Bytes wc (some ⟨gk, 0, none⟩) 32 (fun _ => 0)) := zh ((be_bytes hBa (fun _ _ => by show (0 : Nat) < 256; decide)).later hbc)
 have HR : Hid (Bytes wc (some ⟨gr, 0, none⟩) 32 rF) := zh (by rw [← hwc]; exact (be_bytes hBb rF_lt).frz _ _)
 have HW : Hid (Below w.heap.size w wc) := zh (hba.trans (hbc.mono hba.size))
 have HG := zh hg
 clear hBa hBb hba hbb hbc hg hF4
 go_enter Tryz.func11, Tryz.ntmps11
 go_wp2_with (first | (refine wpList_mk rfl _ _ rfl 32 rfl rfl (by decide) ?_; rw [hwa, hgk]) | (refine wpList_convB rfl (.tmp 14) rfl gr 32 32 32 rfl HSH.out ?_; rw [hwc]))
 refine (eseal_any (some ⟨gk, 0, none⟩) (some ⟨gr, 0, none⟩) 32 32 3 (fun _ => 0) rF wc HK.out HR.out (by decide) (by decide) (by unfold maxLen; omega) (by decide) (HG.out.later HW.out).1).mono ?_
 rintro e w1 ⟨v1, B1, rfl, hG1, hB1, hb⟩
 replace HW := zh (HW.out.trans (hb.mono HW.out.size))
 replace HK := zh (HK.out.later hb)
 replace HR := zh (HR.out.later hb)
 clear hb 
 obtain ⟨g1, p1, rfl, -, hQ1, hp1, hm1⟩ := hG1.someN (by decide) (ebF_lt (fun i _ => by show (0 : Nat) < 256; decide) rF_lt (by decide))
 have HQ := zh hQ1
 have HP1 := zh (And.intro hp1 hm1)
 clear hG1 hB1 hQ1 hp1 hm1
 go_wp2_with fail
 refine (eopen_any (some ⟨gk, 0, none⟩) g1 0 32 p1 3 (fun _ => 0) (ebF (fun _ => 0) rF 3) w1 HK.out HQ.out (by decide) HP1.out.1 HP1.out.2 (by decide) (HG.out.later HW.out).1).mono ?_
 rintro e w2 ⟨hb, ⟨_, v2, B2, rfl, hG2, _⟩ | ⟨hq, _⟩⟩
 rotate_left
 ·exact absurd ((box_tag _ _ _ _ _ _).symm.trans hq) (by decide)
 replace HW := zh (HW.out.trans (hb.mono HW.out.size))
 replace HK := zh (HK.out.later hb)
 replace HR := zh (HR.out.later hb)
 replace HQ := zh (HQ.out.later hb)
 obtain ⟨g2, p2, rfl, -, hQ2, _, _⟩ := (hG2.congr (box_open _ _ _ _ _ _)).someN (by decide) rF_lt
 have HO2 := zh hQ2
 clear hG2 hQ2 hb
 go_wp2_with (first | (refine wpList_value rfl (exec_buildM (parts := #[(0, .const (.int .u8 4))]) (ps := #[(0, .int .u8 4)]) (C := F4) rfl (by first | rfl | (simp [Act.eval]; done) | go_simp) HK4.out) ?_))
 refine (HFI.out w2).mono ?_
 rintro e w3 ⟨gt, rfl, hT3, hb⟩
 replace HW := zh (HW.out.trans (hb.mono HW.out.size))
 replace HK := zh (HK.out.later hb)
 replace HR := zh (HR.out.later hb)
 replace HQ := zh (HQ.out.later hb)
 replace HO2 := zh (HO2.out.later hb)
 have HT3 := zh hT3
 clear hb hT3
 go_wp2_with fail
 refine (esealring_ok (some ⟨gr, 0, none⟩) (some ⟨gt, 0, none⟩) 32 1 1 rF (fun _ => 1) (fun _ => kF4) w3 HR.out HT3.out ok1 (fun _ j _ _ => kF4_lt j) (by decide) (HG.out.later HW.out).1).mono ?_
 rintro e w4 ⟨v4, B4, rfl, hG4, _, hb⟩
 replace HW := zh (HW.out.trans (hb.mono HW.out.size))
 replace HK := zh (HK.out.later hb)
 replace HR := zh (HR.out.later hb)
 replace HQ := zh (HQ.out.later hb)
 replace HO2 := zh (HO2.out.later hb)
 replace HT3 := zh (HT3.out.later hb)
 obtain ⟨g4, p4, rfl, -, hQ4, hp4, hm4⟩ := hG4.someN (by decide) (rbF_lt (by decide) (fun i hi => enc_lt (by decide) (fun _ j _ _ => kF4_lt j) i hi))
 have HQ4 := zh hQ4
 have HP4 := zh (And.intro hp4 hm4)
 clear hG4 hQ4 hp4 hm4 hb
 go_wp2_with fail
 refine (openring_any (some ⟨gr, 0, none⟩) g4 0 32 63 p4 35 rF (rbF rF 35 (encF 1 (fun _ => kF4))) w4 HR.out HQ4.out (by decide) rfl HP4.out.1 HP4.out.2 (by decide) (HG.out.later HW.out).1).mono ?_
 rintro e w5 ⟨hb, ⟨_, o5, p5, rfl, hT5⟩ | ⟨hno, _⟩⟩
 rotate_left
 ·exact absurd ⟨rt_ok _ _ _, (enc_isring 1 (fun _ => kF4) (by decide)).congr (rd_ok _ _ _)⟩ hno
 replace HW := zh (HW.out.trans (hb.mono HW.out.size))
 replace HK := zh (HK.out.later hb)
 replace HR := zh (HR.out.later hb)
 replace HQ := zh (HQ.out.later hb)
 replace HO2 := zh (HO2.out.later hb)
 replace HT3 := zh (HT3.out.later hb)
 replace HQ4 := zh (HQ4.out.later hb)
 have hD2 : rdF rF (rbF rF 35 (encF 1 (fun _ => kF4))) 2 = 1 := (rd_ok rF 35 (encF 1 (fun _ => kF4)) 2 (by decide)).trans rfl
 rw [hD2] at hT5 ⊢
 have hT6 := hT5.congr32 (U := fun _ => kF4) (fun i j hi hj => by obtain rfl : i = 0 := (by omega); show rdF rF (rbF rF 35 (encF 1 (fun _ => kF4))) (3 + 32 * 0 + j) = kF4 j; rw [rd_ok _ _ _ _ (by omega)]; exact enc_key j hj)
 have HT6 := zh hT6
 clear hT5 hT6 hb hD2
 obtain ⟨b9, hq9⟩ := zX w5.heap.size
 obtain ⟨w6, hw6⟩ := zX (w5.alloc (.cells #[.slice o5 1 p5] 32))
 have hb : Below w5.heap.size w5 w6 := by rw [← hw6]; exact zA
 have h9 : Blk w6 b9 #[.slice o5 1 p5] 32 := by rw [← hw6, ← hq9]; exact Blk.new _ _ _
 replace HW := zh (HW.out.trans (hb.mono HW.out.size))
 replace HK := zh (HK.out.later hb)
 replace HR := zh (HR.out.later hb)
 replace HQ := zh (HQ.out.later hb)
 replace HO2 := zh (HO2.out.later hb)
 replace HT3 := zh (HT3.out.later hb)
 replace HQ4 := zh (HQ4.out.later hb)
 replace HT6 := zh (HT6.out.later hb)
 have HB9 := zh h9
 clear hb h9
 have k47 : (47 : Int) ≤ (p1 : Int) := by have := HP1.out.1; omega
 go_wp2_with fail
 refine (eopen_len (some ⟨gk, 0, none⟩) (some ⟨g1, 0, none⟩) 32 47 p1 3 w6 (by decide)).mono ?_
 rintro e w7 ⟨rfl, hb⟩
 replace HW := zh (HW.out.trans (hb.mono HW.out.size))
 replace HK := zh (HK.out.later hb)
 replace HR := zh (HR.out.later hb)
 replace HQ := zh (HQ.out.later hb)
 replace HO2 := zh (HO2.out.later hb)
 replace HT3 := zh (HT3.out.later hb)
 replace HQ4 := zh (HQ4.out.later hb)
 replace HT6 := zh (HT6.out.later hb)
 replace HB9 := zh (Blk.below HB9.out hb (Blk.lt HB9.out))
 clear hb 
 clear k47
 have c9 : w7.cell? ⟨b9, 0, none⟩ = some (.slice o5 1 p5) := by rw [Blk.cell HB9.out]; rfl
 obtain ⟨bt, ft, et, hrt⟩ := HT6.out 0 (by decide)
 subst et
 have c4 : w7.cell? ⟨bt, ft + 1, none⟩ = some (.int .u8 4) := by have h9 := hrt 1 _ rfl; rw [Nat.zero_mul, Nat.add_zero] at h9; exact h9
 clear hrt
 go_wp2_with (first | (refine wpList_valueG (by rfl) (exec_convO (x := .tmp 71) rfl rfl (conv_any HO2.out (fun e => by cases e))) ?_) | (refine wpList_valueG (by rfl) (exec_convO (x := .tmp 73) rfl rfl (conv_any HR.out (fun e => by cases e))) ?_))
 refine (num_err 13 w7 (HG.out.later HW.out).2).mono ?_
 rintro e w8 ⟨rfl, hb⟩
 replace HW := zh (HW.out.trans (hb.mono HW.out.size))
 replace HK := zh (HK.out.later hb)
 replace HR := zh (HR.out.later hb)
 replace HQ := zh (HQ.out.later hb)
 replace HO2 := zh (HO2.out.later hb)
 replace HT3 := zh (HT3.out.later hb)
 replace HQ4 := zh (HQ4.out.later hb)
 replace HT6 := zh (HT6.out.later hb)
 replace HB9 := zh (Blk.below HB9.out hb (Blk.lt HB9.out))
 clear hb 
 go_wp2_with fail
 go_ret
 exact ⟨rfl, HW.out⟩
set_option maxHeartbeats 4000000
theorem rsealring_ok (oa ot : Option Addr) (cn n cs : Nat) (K : Nat → Nat) (N : Nat → Nat) (S : Nat → Nat → Nat) (w : World) (hb : Bytes w oa 32 K) (hT : TL w ot n N S) (h : OkT n N) (hS : ∀ i j, S i j < 256) :
  Calls Tryz.prog 15 #[.slice oa 32 cn, .slice ot n cs] w fun e w' => ∃ v B, e = .returned (.tuple #[v, .int .i64 0]) ∧ Grow w' B v (12 + (3 + 32 * n + 16)) (rbF K (3 + 32 * n) (encF n S)) ∧ w.heap.size ≤ B ∧ Below w.heap.size w w' := by
 have HEN := zh (rencode_any n cs ot N S w hT (fun i hi => by have := h.2.2 i hi; have := h.2.1; omega) hS (by have := h.2.1; omega))
 have HOK := zh h
 have HS := zh hS
 have HKB := zh hb
 obtain ⟨m, hm⟩ := zX (3 + 32 * n)
 obtain ⟨G, hGG⟩ := zX (encF n S)
 rw [hm, hGG]
 obtain ⟨KC, hKC⟩ := zX (kyC (ekW K sR 0))
 have HKY : Hid (∀ A, Below w.heap.size w A → Calls Tryz.prog 28 #[.slice oa 32 cn, .string sR, .int .u32 0] A fun e w' => e = .returned (.agg KC) ∧ Below A.heap.size A w') := zh fun A hA => by
  rw [← hKC]; exact rkey22_any oa cn K sR 0 A (hb.later hA) (by decide) (by decide) (by decide)
 have HKC := zh hKC
 clear hb hT h hS hKC
 go_enter Tryz.func15, Tryz.ntmps15
 go_wp2_with fail
 refine HEN.out.mono ?_
 rintro e w1 ⟨hb1, ⟨h1, _⟩ | ⟨_, v, rfl, hGb⟩⟩
 ·exact absurd HOK.out h1
 have hml : m ≤ 515 ∧ 35 ≤ m := by have := HOK.out.2.1; have := HOK.out.1; omega
 obtain ⟨op, cp, rfl, hBp, hcp, hcm, hno⟩ := hGb.bytesM (fun i hi => enc_lt (by have := HOK.out.2.1; omega) (fun i j _ _ => HS.out i j) i hi)
 rw [hm, hGG] at hBp
 rw [hm] at hcp hno ⊢
 have HP := zh hBp
 have HML2 := zh (And.intro hml hcp)
 have HPN : Hid (op = none → m = 0) := zh hno
 have HB1 := zh hb1
 clear hb1 hGb hBp hcp hcm hml hno HEN HS HOK
 go_wp2_with fail
 refine (rkey_any oa cn K sN 0 w1 (HKB.out.later HB1.out) (by decide) (by decide) (by decide)).mono ?_
 rintro e w2 ⟨ok, ck, rfl, hBk, hbk⟩
 have HB2 := zh (HB1.out.trans (hbk.mono HB1.out.size))
 have HBK := zh hBk
 have HP2 := zh (HP.out.later hbk)
 clear hBk hbk
 go_wp2_with fail
 refine (rmac_any ok op 32 ck m cp (exF 32 K (sN.size + 5) (kiF sN 0)) G w2 HBK.out (fun e => by obtain ⟨_, b, off, e2, _⟩ := HBK.out 0 (by decide); rw [e] at e2; cases e2) (by decide) HP2.out HPN.out (by have := HML2.out; omega)).mono ?_
 rintro e w3 ⟨rfl, hb3⟩
 obtain ⟨M, hM⟩ := zX (rnF K m G)
 have hM' : hmN 32 (exF 32 K (sN.size + 5) (kiF sN 0)) m G = M := hM
 rw [hM']
 obtain ⟨C, hC⟩ := zX ((rowC 32 M).toArray)
 rw [hC]
 have HCC := zh hC
 have HMM := zh hM
 have HIC : Hid ((Tryz.prog.info? 22).map (·.size) = some C.size) := zh (by rw [← hC, List.size_toArray, rowC_len]; exact info_a32)
 have HZC : Hid (C.size = 32) := zh (by rw [← hC, List.size_toArray, rowC_len])
 have HOC : Hid (C.all (·.oneCell') = true) := zh (by rw [← hC]; exact all_oneCell_toArray (rowC_one _ _))
 have HML : Hid (∀ i, M i < 256) := zh fun i => by rw [← hM']; exact hmN_lt _ _ _ _ i
 have HB3 := zh (HB2.out.trans (hb3.mono HB2.out.size))
 have HSZ3 := zh hb3
 clear hM hM' hC hb3
 obtain ⟨b10, hqb10⟩ := zX w3.heap.size
 obtain ⟨wz, hwz⟩ := zX (w3.alloc (.cells zeroA 22))
 have hbz : Below w3.heap.size w3 wz := by rw [← hwz]; exact zA
 have hXz : Blk wz b10 zeroA 22 := by rw [← hwz, ← hqb10]; exact Blk.new _ _ _
 have HTZb10 : Hid (wz.there b10 0 C.size) := zh (hXz.there (by rw [zeroA_size, HZC.out]; exact Nat.le_refl _))
 obtain ⟨w4, hw5⟩ := zX (wz.setCells b10 0 C.toList)
 have hOz : Own b10 wz w4 := by rw [← hw5]; exact Own.setCells _ _ _
 have HBw4 : Hid (Below w3.heap.size w3 w4) := zh (hbz.trans (hOz.below (by omega) hbz.size))
 have HNw4 : Hid (Blk w4 b10 C 22) := zh (by rw [← hw5]; exact Blk.setCells hXz C.toList (by rw [zeroA_size, Array.length_toList]; exact HZC.out))
 have HWw4 := zh hw5
 clear hbz hXz hOz hw5
 have HW4 := zh (HB3.out.trans (HBw4.out.mono HB3.out.size))
 have HBM : Hid (Bytes w4 (some ⟨b10, 0, none⟩) 12 M) := zh (by
  have h9 := HNw4.out
  rw [← HCC.out] at h9
  have h8 := be_bytes h9 (fun i _ => HML.out i)
  exact fun k hk => h8 k (by omega))
 have HP4 := zh ((HP2.out.later HSZ3.out).later HBw4.out)
 have HSE : Hid (∀ A (g5 : Nat), Bytes A (some ⟨b10, 0, none⟩) 12 M → Bytes A op m G → Bytes A (some ⟨g5, 0, none⟩) 9 beR → Calls Tryz.prog 27 #[.agg KC, .slice (some ⟨b10, 0, none⟩) 12 32, .slice op m cp, .slice (some ⟨g5, 0, none⟩) 9 9] A fun e w' => ∃ v, e = .returned (.tuple #[v, .int .i64 0]) ∧ Grow w' A.heap.size v (m + 16) (boxF (ekW K sR 0) M G m beR 9) ∧ Below A.heap.size A w') := zh fun A g5 h1 h2 h3 => by
  rw [← HKC.out]; exact rseal_ok (ekW K sR 0) M G beR m 9 _ op _ 32 cp 9 A h1 h2 h3 (by have := HML2.out; omega) (by decide)
 go_upto_region 6 with (first | (refine wpList_zero rfl rfl zero_a32 ?_; rw [hwz, hqb10]; (try simp only [Act.put, zS])) | (refine wpList_store_mid rfl 22 (.tmp 10) (.tmp 33) rfl b10 0 C rfl rfl HTZb10.out HIC.out HOC.out ?_; rw [HWw4.out]))
 have hvW0 : Below w4.heap.size w4 w4.drew := (Below.refl _ _).drew
 refine wp_region_held_drew (S := (fun _ => True)) (by kernel_rfl) ?_ (fun hHeld => ?_)
 ·(try dsimp only)
  (try trivial)
 generalize w4.drew = W0 at *
 refine wT 0 ?_ rfl ?_ ?_
 rotate_left
 ·intro wS hSw
  (try dsimp only at hSw)
  go_simp
  (try with_reducible rfl)
 (try simp only [Act.put, zS])
 refine wT 2 ?_ rfl ?_ ?_
 rotate_left
 ·intro wS hSw
  (try dsimp only at hSw)
  go_simp
  (try with_reducible rfl)
 (try simp only [Act.put, zS])
 refine wT 3 ?_ rfl ?_ ?_
 rotate_left
 ·intro wS hSw
  (try dsimp only at hSw)
  go_simp
  (try with_reducible rfl)
 (try simp only [Act.put, zS])
 refine wR [1, 4] ?_
 refine aC rfl (fun K hK => ?_) ?_
 ·skip
  go_simp
  (refine (HKY.out W0 (HW4.out.trans (Below.mono hvW0 HW4.out.size))).mono ?_; rintro e WKx1 ⟨rfl, hb⟩; have hvWKx1 := Below.trans hvW0 (hb.mono (Below.size hvW0)); clear hb; skip)
  (try go_wp2_with fail)
  refine hK.out _ _ ?_ fun hHeld => ?_
  ·(try dsimp only)
   (try trivial)
  clear hK K
  (try simp only [Act.put, zS])
  refine wR [4] ?_
  refine aN rfl fun K hK => ?_
  (refine step_bsN (by rfl) #[(0, .const (.int .u8 99)), (1, .const (.int .u8 111)), (2, .const (.int .u8 114)), (3, .const (.int .u8 101)), (4, .const (.int .u8 47)), (5, .const (.int .u8 114)), (6, .const (.int .u8 105)), (7, .const (.int .u8 110)), (8, .const (.int .u8 103))] #[(0, .int .u8 99), (1, .int .u8 111), (2, .int .u8 114), (3, .int .u8 101), (4, .int .u8 47), (5, .int .u8 114), (6, .int .u8 105), (7, .int .u8 110), (8, .int .u8 103)] (rowC 9 beR).toArray rfl (by first | (simp [Act.eval]; done) | (go_simp; done)) bs9_run ?_; obtain ⟨g5, hq5⟩ := zX WKx1.heap.size; obtain ⟨WBx1, hw1⟩ := zX (WKx1.alloc (.cells (rowC 9 beR).toArray 5)); rw [hw1, hq5]; have hBWBx1 : Blk WBx1 g5 (rowC 9 beR).toArray 5 := (by rw [← hw1, ← hq5]; exact Blk.new _ _ _); have hvWBx1 : Below w4.heap.size w4 WBx1 := Below.trans hvWKx1 (by rw [← hw1]; exact (Below.refl _ _).alloc (Below.size hvWKx1) _); have hge : w4.heap.size ≤ g5 := (by rw [← hq5]; exact Below.size hvWKx1); clear hw1 hq5; skip)
  refine hK.out _ _ ?_ fun hHeld => ?_
  ·(try dsimp only)
   (try trivial)
  clear hK K
  (try simp only [Act.put, zS])
  refine wR [5] ?_
  refine aN rfl fun K hK => ?_
  (refine step_convB (by rfl) (.tmp 39) rfl g5 9 9 9 rfl (Shp.blk hBWBx1) ?_; obtain ⟨WCx1, hw2⟩ := zX (WBx1.freeze ⟨g5, 9, none⟩ 1); rw [hw2]; have hAWCx1 : Bytes WCx1 (some ⟨g5, 0, none⟩) 9 beR := (by rw [← hw2]; exact (be_bytes hBWBx1 beR_lt).frz _ _); have hvWCx1 : Below w4.heap.size w4 WCx1 := Below.trans hvWBx1 (by rw [← hw2]; exact (Own.frz _ _ _ _).below hge (Below.size hvWBx1)); clear hw2; skip)
  refine hK.out _ _ ?_ fun hHeld => ?_
  ·(try dsimp only)
   (try trivial)
  clear hK K
  (try simp only [Act.put, zS])
  refine wR [6] ?_
  refine aN rfl fun K hK => ?_
  go_simp
  (refine (HSE.out WCx1 g5 (HBM.out.later hvWCx1) (HP4.out.later hvWCx1) hAWCx1).mono ?_; rintro e W9 ⟨v, rfl, hG, hb⟩; have HV9 := zh (And.intro hG (And.intro (Below.trans hvWCx1 (hb.mono (Below.size hvWCx1))) (Below.size hvWCx1))); clear hG hb; skip)
  (try go_wp2_with fail)
  refine hK.out _ _ ?_ fun hHeld => ?_
  ·(try dsimp only)
   (try trivial)
  clear hK K
  (try simp only [Act.put, zS])
  refine wT 7 ?_ rfl ?_ ?_
  rotate_left
  ·intro wS hSw
   (try dsimp only at hSw)
   go_simp
   (try with_reducible rfl)
  (try simp only [Act.put, zS])
  refine wT 8 ?_ rfl ?_ ?_
  rotate_left
  ·intro wS hSw
   (try dsimp only at hSw)
   go_simp
   (try with_reducible rfl)
  (try simp only [Act.put, zS])
  refine wT 9 ?_ rfl ?_ ?_
  rotate_left
  ·intro wS hSw
   (try dsimp only at hSw)
   go_simp
   (try with_reducible rfl)
  (try simp only [Act.put, zS])
  refine wT 10 ?_ rfl ?_ ?_
  rotate_left
  ·intro wS hSw
   (try dsimp only at hSw)
   go_simp
   (try with_reducible rfl)
  (try simp only [Act.put, zS])
  refine wT 11 ?_ rfl ?_ ?_
  rotate_left
  ·intro wS hSw
   (try dsimp only at hSw)
   go_simp
   (try with_reducible rfl)
  (try simp only [Act.put, zS])
  refine wpAnyH_done (by kernel_rfl) ?_ _
  obtain ⟨ob, cb, rfl, hBb, hcb, _, hnob⟩ := HV9.out.1.bytesM (boxF_lt (fun i _ => HML.out i) (fun i hi => (HP4.out i hi).1))
  obtain ⟨ad, rfl⟩ : ∃ ad, ob = some ad := by
   cases ob with
   | none => exact absurd (hnob rfl) (by omega)
   | some ad => exact ⟨ad, rfl⟩
  have HBB := zh hBb
  have HBM9 := zh (HBM.out.later HV9.out.2.1)
  have HNIL : Hid (Grow W9 W9.heap.size (.slice none 0 0) 0 M) := zh (Grow.nil _ _ _)
  clear hBb hcb hnob
  go_wp2_with (first | (refine wpList_appA rfl (.tmp 44) (.tmp 45) rfl W9.heap.size (.slice none 0 0) 0 12 32 ⟨b10, 0, none⟩ M M W9 rfl HNIL.out rfl HBM9.out (by decide) (Nat.le_refl _) ?_; intro v5 W5 hG5 hb5; have HG5 := zh (And.intro (Grow.congr hG5 (g := M) (fun i hi => by unfold catF; rw [if_neg (Nat.not_lt_zero _), Nat.sub_zero])) hb5); have HBB5 := zh (HBB.out.later hb5); clear hG5 hb5) | (refine wpList_appA rfl (.tmp 47) (.tmp 48) rfl W9.heap.size v5 (0 + 12) (m + 16) cb ad M (boxF (ekW K sR 0) M G m beR 9) W5 rfl HG5.out.1 rfl HBB5.out (by have := HML2.out; omega) HG5.out.2.size ?_; intro v6 W6 hG6 hb6; have HG6 := zh (And.intro hG6 hb6); clear hG6 hb6))
  refine bodyPost_ret (v := .tuple #[v6, .int .i64 0]) ?_ rfl ⟨v6, W9.heap.size, rfl, by unfold rbF; rw [HMM.out]; exact HG6.out.1, Nat.le_trans HW4.out.size HV9.out.2.1.size, (HW4.out.trans (HV9.out.2.1.mono HW4.out.size)).trans ((HG5.out.2.trans HG6.out.2).mono (Nat.le_trans HW4.out.size HV9.out.2.1.size))⟩
  exact results_tmp2 (t := 4) (u := 5) Tryz.results15 _ _ _
 refine aN rfl fun K hK => ?_
 (refine step_bsN (by rfl) #[(0, .const (.int .u8 99)), (1, .const (.int .u8 111)), (2, .const (.int .u8 114)), (3, .const (.int .u8 101)), (4, .const (.int .u8 47)), (5, .const (.int .u8 114)), (6, .const (.int .u8 105)), (7, .const (.int .u8 110)), (8, .const (.int .u8 103))] #[(0, .int .u8 99), (1, .int .u8 111), (2, .int .u8 114), (3, .int .u8 101), (4, .int .u8 47), (5, .int .u8 114), (6, .int .u8 105), (7, .int .u8 110), (8, .int .u8 103)] (rowC 9 beR).toArray rfl (by first | (simp [Act.eval]; done) | (go_simp; done)) bs9_run ?_; obtain ⟨g5, hq5⟩ := zX W0.heap.size; obtain ⟨WBx4, hw1⟩ := zX (W0.alloc (.cells (rowC 9 beR).toArray 5)); rw [hw1, hq5]; have hBWBx4 : Blk WBx4 g5 (rowC 9 beR).toArray 5 := (by rw [← hw1, ← hq5]; exact Blk.new _ _ _); have hvWBx4 : Below w4.heap.size w4 WBx4 := Below.trans hvW0 (by rw [← hw1]; exact (Below.refl _ _).alloc (Below.size hvW0) _); have hge : w4.heap.size ≤ g5 := (by rw [← hq5]; exact Below.size hvW0); clear hw1 hq5; skip)
 refine hK.out _ _ ?_ fun hHeld => ?_
 ·(try dsimp only)
  (try trivial)
 clear hK K
 (try simp only [Act.put, zS])
 refine wR [1, 5] ?_
 refine aC rfl (fun K hK => ?_) ?_
 ·skip
  go_simp
  (refine (HKY.out WBx4 (HW4.out.trans (Below.mono hvWBx4 HW4.out.size))).mono ?_; rintro e WKx4x1 ⟨rfl, hb⟩; have hvWKx4x1 := Below.trans hvWBx4 (hb.mono (Below.size hvWBx4)); have hBWKx4x1 := Blk.below hBWBx4 hb (Blk.lt hBWBx4); clear hb; skip)
  (try go_wp2_with fail)
  refine hK.out _ _ ?_ fun hHeld => ?_
  ·(try dsimp only)
   (try trivial)
  clear hK K
  (try simp only [Act.put, zS])
  refine wR [5] ?_
  refine aN rfl fun K hK => ?_
  (refine step_convB (by rfl) (.tmp 39) rfl g5 9 9 9 rfl (Shp.blk hBWKx4x1) ?_; obtain ⟨WCx4x1, hw2⟩ := zX (WKx4x1.freeze ⟨g5, 9, none⟩ 1); rw [hw2]; have hAWCx4x1 : Bytes WCx4x1 (some ⟨g5, 0, none⟩) 9 beR := (by rw [← hw2]; exact (be_bytes hBWKx4x1 beR_lt).frz _ _); have hvWCx4x1 : Below w4.heap.size w4 WCx4x1 := Below.trans hvWKx4x1 (by rw [← hw2]; exact (Own.frz _ _ _ _).below hge (Below.size hvWKx4x1)); clear hw2; skip)
  refine hK.out _ _ ?_ fun hHeld => ?_
  ·(try dsimp only)
   (try trivial)
  clear hK K
  (try simp only [Act.put, zS])
  refine wR [6] ?_
  refine aN rfl fun K hK => ?_
  go_simp
  (refine (HSE.out WCx4x1 g5 (HBM.out.later hvWCx4x1) (HP4.out.later hvWCx4x1) hAWCx4x1).mono ?_; rintro e W9 ⟨v, rfl, hG, hb⟩; have HV9 := zh (And.intro hG (And.intro (Below.trans hvWCx4x1 (hb.mono (Below.size hvWCx4x1))) (Below.size hvWCx4x1))); clear hG hb; skip)
  (try go_wp2_with fail)
  refine hK.out _ _ ?_ fun hHeld => ?_
  ·(try dsimp only)
   (try trivial)
  clear hK K
  (try simp only [Act.put, zS])
  refine wT 7 ?_ rfl ?_ ?_
  rotate_left
  ·intro wS hSw
   (try dsimp only at hSw)
   go_simp
   (try with_reducible rfl)
  (try simp only [Act.put, zS])
  refine wT 8 ?_ rfl ?_ ?_
  rotate_left
  ·intro wS hSw
   (try dsimp only at hSw)
   go_simp
   (try with_reducible rfl)
  (try simp only [Act.put, zS])
  refine wT 9 ?_ rfl ?_ ?_
  rotate_left
  ·intro wS hSw
   (try dsimp only at hSw)
   go_simp
   (try with_reducible rfl)
  (try simp only [Act.put, zS])
  refine wT 10 ?_ rfl ?_ ?_
  rotate_left
  ·intro wS hSw
   (try dsimp only at hSw)
   go_simp
   (try with_reducible rfl)
  (try simp only [Act.put, zS])
  refine wT 11 ?_ rfl ?_ ?_
  rotate_left
  ·intro wS hSw
   (try dsimp only at hSw)
   go_simp
   (try with_reducible rfl)
  (try simp only [Act.put, zS])
  refine wpAnyH_done (by kernel_rfl) ?_ _
  obtain ⟨ob, cb, rfl, hBb, hcb, _, hnob⟩ := HV9.out.1.bytesM (boxF_lt (fun i _ => HML.out i) (fun i hi => (HP4.out i hi).1))
  obtain ⟨ad, rfl⟩ : ∃ ad, ob = some ad := by
   cases ob with
   | none => exact absurd (hnob rfl) (by omega)
   | some ad => exact ⟨ad, rfl⟩
  have HBB := zh hBb
  have HBM9 := zh (HBM.out.later HV9.out.2.1)
  have HNIL : Hid (Grow W9 W9.heap.size (.slice none 0 0) 0 M) := zh (Grow.nil _ _ _)
  clear hBb hcb hnob
  go_wp2_with (first | (refine wpList_appA rfl (.tmp 44) (.tmp 45) rfl W9.heap.size (.slice none 0 0) 0 12 32 ⟨b10, 0, none⟩ M M W9 rfl HNIL.out rfl HBM9.out (by decide) (Nat.le_refl _) ?_; intro v5 W5 hG5 hb5; have HG5 := zh (And.intro (Grow.congr hG5 (g := M) (fun i hi => by unfold catF; rw [if_neg (Nat.not_lt_zero _), Nat.sub_zero])) hb5); have HBB5 := zh (HBB.out.later hb5); clear hG5 hb5) | (refine wpList_appA rfl (.tmp 47) (.tmp 48) rfl W9.heap.size v5 (0 + 12) (m + 16) cb ad M (boxF (ekW K sR 0) M G m beR 9) W5 rfl HG5.out.1 rfl HBB5.out (by have := HML2.out; omega) HG5.out.2.size ?_; intro v6 W6 hG6 hb6; have HG6 := zh (And.intro hG6 hb6); clear hG6 hb6))
  refine bodyPost_ret (v := .tuple #[v6, .int .i64 0]) ?_ rfl ⟨v6, W9.heap.size, rfl, by unfold rbF; rw [HMM.out]; exact HG6.out.1, Nat.le_trans HW4.out.size HV9.out.2.1.size, (HW4.out.trans (HV9.out.2.1.mono HW4.out.size)).trans ((HG5.out.2.trans HG6.out.2).mono (Nat.le_trans HW4.out.size HV9.out.2.1.size))⟩
  exact results_tmp2 (t := 4) (u := 5) Tryz.results15 _ _ _
 refine aN rfl fun K hK => ?_
 (refine step_convB (by rfl) (.tmp 39) rfl g5 9 9 9 rfl (Shp.blk hBWBx4) ?_; obtain ⟨WCx4x5, hw2⟩ := zX (WBx4.freeze ⟨g5, 9, none⟩ 1); rw [hw2]; have hAWCx4x5 : Bytes WCx4x5 (some ⟨g5, 0, none⟩) 9 beR := (by rw [← hw2]; exact (be_bytes hBWBx4 beR_lt).frz _ _); have hvWCx4x5 : Below w4.heap.size w4 WCx4x5 := Below.trans hvWBx4 (by rw [← hw2]; exact (Own.frz _ _ _ _).below hge (Below.size hvWBx4)); clear hw2; skip)
 refine hK.out _ _ ?_ fun hHeld => ?_
 ·(try dsimp only)
  (try trivial)
 clear hK K
 (try simp only [Act.put, zS])
 refine wR [1] ?_
 refine aN rfl fun K hK => ?_
 go_simp
 (refine (HKY.out WCx4x5 (HW4.out.trans (Below.mono hvWCx4x5 HW4.out.size))).mono ?_; rintro e WKx4x5 ⟨rfl, hb⟩; have hvWKx4x5 := Below.trans hvWCx4x5 (hb.mono (Below.size hvWCx4x5)); have hAWKx4x5 := Bytes.later hAWCx4x5 hb; clear hb; skip)
 (try go_wp2_with fail)
 refine hK.out _ _ ?_ fun hHeld => ?_
 ·(try dsimp only)
  (try trivial)
 clear hK K
 (try simp only [Act.put, zS])
 refine wR [6] ?_
 refine aN rfl fun K hK => ?_
 go_simp
 (refine (HSE.out WKx4x5 g5 (HBM.out.later hvWKx4x5) (HP4.out.later hvWKx4x5) hAWKx4x5).mono ?_; rintro e W9 ⟨v, rfl, hG, hb⟩; have HV9 := zh (And.intro hG (And.intro (Below.trans hvWKx4x5 (hb.mono (Below.size hvWKx4x5))) (Below.size hvWKx4x5))); clear hG hb; skip)
 (try go_wp2_with fail)
 refine hK.out _ _ ?_ fun hHeld => ?_
 ·(try dsimp only)
  (try trivial)
 clear hK K
 (try simp only [Act.put, zS])
 refine wT 7 ?_ rfl ?_ ?_
 rotate_left
 ·intro wS hSw
  (try dsimp only at hSw)
  go_simp
  (try with_reducible rfl)
 (try simp only [Act.put, zS])
 refine wT 8 ?_ rfl ?_ ?_
 rotate_left
 ·intro wS hSw
  (try dsimp only at hSw)
  go_simp
  (try with_reducible rfl)
 (try simp only [Act.put, zS])
 refine wT 9 ?_ rfl ?_ ?_
 rotate_left
 ·intro wS hSw
  (try dsimp only at hSw)
  go_simp
  (try with_reducible rfl)
 (try simp only [Act.put, zS])
 refine wT 10 ?_ rfl ?_ ?_
 rotate_left
 ·intro wS hSw
  (try dsimp only at hSw)
  go_simp
  (try with_reducible rfl)
 (try simp only [Act.put, zS])
 refine wT 11 ?_ rfl ?_ ?_
 rotate_left
 ·intro wS hSw
  (try dsimp only at hSw)
  go_simp
  (try with_reducible rfl)
 (try simp only [Act.put, zS])
 refine wpAnyH_done (by kernel_rfl) ?_ _
 obtain ⟨ob, cb, rfl, hBb, hcb, _, hnob⟩ := HV9.out.1.bytesM (boxF_lt (fun i _ => HML.out i) (fun i hi => (HP4.out i hi).1))
 obtain ⟨ad, rfl⟩ : ∃ ad, ob = some ad := by
  cases ob with
  | none => exact absurd (hnob rfl) (by omega)
  | some ad => exact ⟨ad, rfl⟩
 have HBB := zh hBb
 have HBM9 := zh (HBM.out.later HV9.out.2.1)
 have HNIL : Hid (Grow W9 W9.heap.size (.slice none 0 0) 0 M) := zh (Grow.nil _ _ _)
 clear hBb hcb hnob
 go_wp2_with (first | (refine wpList_appA rfl (.tmp 44) (.tmp 45) rfl W9.heap.size (.slice none 0 0) 0 12 32 ⟨b10, 0, none⟩ M M W9 rfl HNIL.out rfl HBM9.out (by decide) (Nat.le_refl _) ?_; intro v5 W5 hG5 hb5; have HG5 := zh (And.intro (Grow.congr hG5 (g := M) (fun i hi => by unfold catF; rw [if_neg (Nat.not_lt_zero _), Nat.sub_zero])) hb5); have HBB5 := zh (HBB.out.later hb5); clear hG5 hb5) | (refine wpList_appA rfl (.tmp 47) (.tmp 48) rfl W9.heap.size v5 (0 + 12) (m + 16) cb ad M (boxF (ekW K sR 0) M G m beR 9) W5 rfl HG5.out.1 rfl HBB5.out (by have := HML2.out; omega) HG5.out.2.size ?_; intro v6 W6 hG6 hb6; have HG6 := zh (And.intro hG6 hb6); clear hG6 hb6))
 refine bodyPost_ret (v := .tuple #[v6, .int .i64 0]) ?_ rfl ⟨v6, W9.heap.size, rfl, by unfold rbF; rw [HMM.out]; exact HG6.out.1, Nat.le_trans HW4.out.size HV9.out.2.1.size, (HW4.out.trans (HV9.out.2.1.mono HW4.out.size)).trans ((HG5.out.2.trans HG6.out.2).mono (Nat.le_trans HW4.out.size HV9.out.2.1.size))⟩
 exact results_tmp2 (t := 4) (u := 5) Tryz.results15 _ _ _
set_option maxHeartbeats 200000
theorem eseal_k (oa ob : Option Addr) (n cn m cm : Nat) (x : Value) (w : World) (h : n ≠ 32) :
  Calls Tryz.prog 5 #[.slice oa n cn, .slice ob m cm, x] w fun e w' => e = .returned (.tuple #[.slice none 0 0, .iface 53 (.int .i64 1)]) ∧ Below w.heap.size w w' := by
 have a1 : ¬ (n : Int) = 32 := by omega
 have a2 : decide ((n : Int) = 32) = false := decide_eq_false a1
 have a3 : ((n : Int) == 32) = false := by simp only [beq_eq_false_iff_ne]; exact a1
 have a4 : decide (n = 32) = false := decide_eq_false (by omega)
 have a5 : (n == 32) = false := by simp only [beq_eq_false_iff_ne]; omega
 have a6 : ¬ n = 32 := by omega
 go_enter Tryz.func5, Tryz.ntmps5
 go_wp2_with fail
 refine bodyPost_ret (v := .tuple #[.slice none 0 0, .iface 53 (.int .i64 1)]) ?_ rfl ⟨rfl, Below.refl _ _⟩
 exact results_tmp2 (t := 6) (u := 7) Tryz.results5 _ _ _
theorem rseal_k (oa ob : Option Addr) (n cn m cm : Nat) (x : Value) (w : World) (h : n ≠ 32) :
  Calls Tryz.prog 12 #[.slice oa n cn, .slice ob m cm, x] w fun e w' => e = .returned (.tuple #[.slice none 0 0, .int .i64 1]) ∧ Below w.heap.size w w' := by
 have a1 : ¬ (n : Int) = 32 := by omega
 have a2 : decide ((n : Int) = 32) = false := decide_eq_false a1
 have a3 : ((n : Int) == 32) = false := by simp only [beq_eq_false_iff_ne]; exact a1
 have a4 : decide (n = 32) = false := decide_eq_false (by omega)
 have a5 : (n == 32) = false := by simp only [beq_eq_false_iff_ne]; omega
 have a6 : ¬ n = 32 := by omega
 go_enter Tryz.func12, Tryz.ntmps12
 go_wp2_with fail
 refine bodyPost_ret (v := .tuple #[.slice none 0 0, .int .i64 1]) ?_ rfl ⟨rfl, Below.refl _ _⟩
 exact results_tmp2 (t := 6) (u := 7) Tryz.results12 _ _ _
theorem eseal_r (oa ob : Option Addr) (cn m cm : Nat) (x : Value) (w : World) (h : m ≠ 32) :
  Calls Tryz.prog 5 #[.slice oa 32 cn, .slice ob m cm, x] w fun e w' => e = .returned (.tuple #[.slice none 0 0, .iface 53 (.int .i64 1)]) ∧ Below w.heap.size w w' := by
 have a1 : ¬ (m : Int) = 32 := by omega
 have a2 : decide ((m : Int) = 32) = false := decide_eq_false a1
 have a3 : ((m : Int) == 32) = false := by simp only [beq_eq_false_iff_ne]; exact a1
 have a4 : decide (m = 32) = false := decide_eq_false (by omega)
 have a5 : (m == 32) = false := by simp only [beq_eq_false_iff_ne]; omega
 have a6 : ¬ m = 32 := by omega
 go_enter Tryz.func5, Tryz.ntmps5
 go_wp2_with fail
 refine bodyPost_ret (v := .tuple #[.slice none 0 0, .iface 53 (.int .i64 1)]) ?_ rfl ⟨rfl, Below.refl _ _⟩
 exact results_tmp2 (t := 6) (u := 7) Tryz.results5 _ _ _
theorem rseal_r (oa ob : Option Addr) (cn m cm : Nat) (x : Value) (w : World) (h : m ≠ 32) :
  Calls Tryz.prog 12 #[.slice oa 32 cn, .slice ob m cm, x] w fun e w' => e = .returned (.tuple #[.slice none 0 0, .int .i64 1]) ∧ Below w.heap.size w w' := by
 have a1 : ¬ (m : Int) = 32 := by omega
 have a2 : decide ((m : Int) = 32) = false := decide_eq_false a1
 have a3 : ((m : Int) == 32) = false := by simp only [beq_eq_false_iff_ne]; exact a1
 have a4 : decide (m = 32) = false := decide_eq_false (by omega)
 have a5 : (m == 32) = false := by simp only [beq_eq_false_iff_ne]; omega
 have a6 : ¬ m = 32 := by omega
 go_enter Tryz.func12, Tryz.ntmps12
 go_wp2_with fail
 refine bodyPost_ret (v := .tuple #[.slice none 0 0, .int .i64 1]) ?_ rfl ⟨rfl, Below.refl _ _⟩
 exact results_tmp2 (t := 6) (u := 7) Tryz.results12 _ _ _
theorem eopen_k (oa ob : Option Addr) (n cn m cm : Nat) (x : Value) (w : World) (h : n ≠ 32) :
  Calls Tryz.prog 6 #[.slice oa n cn, .slice ob m cm, x] w fun e w' => e = .returned (.tuple #[.slice none 0 0, .iface 53 (.int .i64 1)]) ∧ Below w.heap.size w w' := by
 have a1 : ¬ (n : Int) = 32 := by omega
 have a2 : decide ((n : Int) = 32) = false := decide_eq_false a1
 have a3 : ((n : Int) == 32) = false := by simp only [beq_eq_false_iff_ne]; exact a1
 have a4 : decide (n = 32) = false := decide_eq_false (by omega)
 have a5 : (n == 32) = false := by simp only [beq_eq_false_iff_ne]; omega
 have a6 : ¬ n = 32 := by omega
 go_enter Tryz.func6, Tryz.ntmps6
 go_wp2_with fail
 refine bodyPost_ret (v := .tuple #[.slice none 0 0, .iface 53 (.int .i64 1)]) ?_ rfl ⟨rfl, Below.refl _ _⟩
 exact results_tmp2 (t := 6) (u := 7) Tryz.results6 _ _ _
theorem ropen_k (oa ob : Option Addr) (n cn m cm : Nat) (x : Value) (w : World) (h : n ≠ 32) :
  Calls Tryz.prog 13 #[.slice oa n cn, .slice ob m cm, x] w fun e w' => e = .returned (.tuple #[.slice none 0 0, .int .i64 1]) ∧ Below w.heap.size w w' := by
 have a1 : ¬ (n : Int) = 32 := by omega
 have a2 : decide ((n : Int) = 32) = false := decide_eq_false a1
 have a3 : ((n : Int) == 32) = false := by simp only [beq_eq_false_iff_ne]; exact a1
 have a4 : decide (n = 32) = false := decide_eq_false (by omega)
 have a5 : (n == 32) = false := by simp only [beq_eq_false_iff_ne]; omega
 have a6 : ¬ n = 32 := by omega
 go_enter Tryz.func13, Tryz.ntmps13
 go_wp2_with fail
 refine bodyPost_ret (v := .tuple #[.slice none 0 0, .int .i64 1]) ?_ rfl ⟨rfl, Below.refl _ _⟩
 exact results_tmp2 (t := 6) (u := 7) Tryz.results13 _ _ _
theorem ropen_len (oa ob : Option Addr) (cn m cm : Nat) (x : Value) (w : World) (h : m ≠ 48) :
  Calls Tryz.prog 13 #[.slice oa 32 cn, .slice ob m cm, x] w fun e w' => e = .returned (.tuple #[.slice none 0 0, .int .i64 13]) ∧ Below w.heap.size w w' := by
 have a1 : ¬ (m : Int) = 48 := by omega
 have a2 : decide ((m : Int) = 48) = false := decide_eq_false a1
 have a3 : ((m : Int) == 48) = false := by simp only [beq_eq_false_iff_ne]; exact a1
 have a4 : decide (m = 48) = false := decide_eq_false (by omega)
 have a5 : (m == 48) = false := by simp only [beq_eq_false_iff_ne]; omega
 have a6 : ¬ m = 48 := by omega
 go_enter Tryz.func13, Tryz.ntmps13
 go_wp2_with fail
 refine bodyPost_ret (v := .tuple #[.slice none 0 0, .int .i64 13]) ?_ rfl ⟨rfl, Below.refl _ _⟩
 exact results_tmp2 (t := 6) (u := 7) Tryz.results13 _ _ _
theorem rring_k (oa ob : Option Addr) (n cn m cm : Nat) (w : World) (h : n ≠ 32) :
  Calls Tryz.prog 16 #[.slice oa n cn, .slice ob m cm] w fun e w' => e = .returned (.tuple #[.slice none 0 0, .int .i64 1]) ∧ Below w.heap.size w w' := by
 have a1 : ¬ (n : Int) = 32 := by omega
 have a2 : decide ((n : Int) = 32) = false := decide_eq_false a1
 have a3 : ((n : Int) == 32) = false := by simp only [beq_eq_false_iff_ne]; exact a1
 have a4 : decide (n = 32) = false := decide_eq_false (by omega)
 have a5 : (n == 32) = false := by simp only [beq_eq_false_iff_ne]; omega
 have a6 : ¬ n = 32 := by omega
 go_enter Tryz.func16, Tryz.ntmps16
 go_wp2_with fail
 refine bodyPost_ret (v := .tuple #[.slice none 0 0, .int .i64 1]) ?_ rfl ⟨rfl, Below.refl _ _⟩
 exact results_tmp2 (t := 4) (u := 5) Tryz.results16 _ _ _
theorem rring_s (oa ob : Option Addr) (cn m cm : Nat) (w : World) (h : m < 28) :
  Calls Tryz.prog 16 #[.slice oa 32 cn, .slice ob m cm] w fun e w' => e = .returned (.tuple #[.slice none 0 0, .int .i64 11]) ∧ Below w.heap.size w w' := by
 have a1 : (m : Int) < (28 : Int) := by omega
 have a2 : decide ((m : Int) < (28 : Int)) = true := decide_eq_true a1
 have a7 : m < 28 := by omega
 have a8 : decide (m < 28) = true := decide_eq_true a7
 go_enter Tryz.func16, Tryz.ntmps16
 go_wp2_with fail
 refine bodyPost_ret (v := .tuple #[.slice none 0 0, .int .i64 11]) ?_ rfl ⟨rfl, Below.refl _ _⟩
 exact results_tmp2 (t := 4) (u := 5) Tryz.results16 _ _ _
theorem ering_k (oa ob : Option Addr) (n cn m cm : Nat) (w : World) (h : n ≠ 32) :
  Calls Tryz.prog 9 #[.slice oa n cn, .slice ob m cm] w fun e w' => e = .returned (.tuple #[.agg #[.slice none 0 0], .iface 53 (.int .i64 1)]) ∧ Below w.heap.size w w' := by
 obtain ⟨b4, hb4⟩ := zX w.heap.size
 obtain ⟨w0, hw0⟩ := zX (w.alloc (.cells #[.slice none 0 0] 32))
 have hb0 : Below w.heap.size w w0 := by rw [← hw0]; exact zA
 have hZ0 : Blk w0 b4 #[.slice none 0 0] 32 := by rw [← hw0, ← hb4]; exact Blk.new _ _ _
 have c4 : w0.cell? ⟨b4, 0, none⟩ = some (.slice none 0 0) := by rw [Blk.cell hZ0]; rfl
 have f4 : w0.frozen? ⟨b4, 0, none⟩ = false := Blk.free hZ0 0
 have HX : Hid (Blk (w0.setCell ⟨b4, 0, none⟩ (.slice none 0 0)) b4 #[.slice none 0 0] 32) := zh (hZ0.set 0 _)
 have HBX : Hid (Below w.heap.size w (w0.setCell ⟨b4, 0, none⟩ (.slice none 0 0))) := zh (hb0.trans (((Own.refl b4 w0).set 0 _).below (Nat.le_of_eq hb4) hb0.size))
 have a1 : ¬ (n : Int) = 32 := by omega
 have a2 : decide ((n : Int) = 32) = false := decide_eq_false a1
 have a3 : ((n : Int) == 32) = false := by simp only [beq_eq_false_iff_ne]; exact a1
 have a4 : decide (n = 32) = false := decide_eq_false (by omega)
 have a5 : (n == 32) = false := by simp only [beq_eq_false_iff_ne]; omega
 have a6 : ¬ n = 32 := by omega
 clear hb0 hZ0
 go_enter Tryz.func9, Tryz.ntmps9
 go_wp2_with fail
 refine bodyPost_ret (v := .tuple #[.agg #[.slice none 0 0], .iface 53 (.int .i64 1)]) ?_ rfl ⟨rfl, HBX.out⟩
 exact results_cell_tmp1 (q := 5) Tryz.results9 _ _ b4 32 #[.slice none 0 0] (0, 0) _ rfl HX.out Tryz.underlying32 rfl (info_rg _)
theorem ering_s (oa ob : Option Addr) (cn m cm : Nat) (w : World) (h : m < 28) :
  Calls Tryz.prog 9 #[.slice oa 32 cn, .slice ob m cm] w fun e w' => e = .returned (.tuple #[.agg #[.slice none 0 0], .iface 53 (.int .i64 11)]) ∧ Below w.heap.size w w' := by
 obtain ⟨b4, hb4⟩ := zX w.heap.size
 obtain ⟨w0, hw0⟩ := zX (w.alloc (.cells #[.slice none 0 0] 32))
 have hb0 : Below w.heap.size w w0 := by rw [← hw0]; exact zA
 have hZ0 : Blk w0 b4 #[.slice none 0 0] 32 := by rw [← hw0, ← hb4]; exact Blk.new _ _ _
 have c4 : w0.cell? ⟨b4, 0, none⟩ = some (.slice none 0 0) := by rw [Blk.cell hZ0]; rfl
 have f4 : w0.frozen? ⟨b4, 0, none⟩ = false := Blk.free hZ0 0
 have HX : Hid (Blk (w0.setCell ⟨b4, 0, none⟩ (.slice none 0 0)) b4 #[.slice none 0 0] 32) := zh (hZ0.set 0 _)
 have HBX : Hid (Below w.heap.size w (w0.setCell ⟨b4, 0, none⟩ (.slice none 0 0))) := zh (hb0.trans (((Own.refl b4 w0).set 0 _).below (Nat.le_of_eq hb4) hb0.size))
 have a1 : (m : Int) < (28 : Int) := by omega
 have a2 : decide ((m : Int) < (28 : Int)) = true := decide_eq_true a1
 have a7 : m < 28 := by omega
 have a8 : decide (m < 28) = true := decide_eq_true a7
 clear hb0 hZ0
 go_enter Tryz.func9, Tryz.ntmps9
 go_wp2_with fail
 refine bodyPost_ret (v := .tuple #[.agg #[.slice none 0 0], .iface 53 (.int .i64 11)]) ?_ rfl ⟨rfl, HBX.out⟩
 exact results_cell_tmp1 (q := 5) Tryz.results9 _ _ b4 32 #[.slice none 0 0] (0, 0) _ rfl HX.out Tryz.underlying32 rfl (info_rg _)
theorem esr_no (oa ot : Option Addr) (q cn n cs : Nat) (N : Nat → Nat) (S : Nat → Nat → Nat) (w : World) (hT : TL w ot n N S) (hN : ∀ i, N i < 4294967296) (hS : ∀ i j, S i j < 256) (hn : n ≤ 40) (hh : ¬ (q = 32 ∧ OkT n N)) :
  Calls Tryz.prog 7 #[.slice oa q cn, .agg #[.slice ot n cs]] w fun e w' => e = .returned (.tuple #[.slice none 0 0, .iface 53 (.int .i64 1)]) ∧ Below w.heap.size w w' := by
 have HH := zh hh
 obtain ⟨w0, hw0⟩ := zX (w.alloc (.cells #[.slice ot n cs] 32))
 have hb0 : Below w.heap.size w w0 := by rw [← hw0]; exact zA
 have hB0 : Blk w0 w.heap.size #[.slice ot n cs] 32 := by rw [← hw0]; exact Blk.new _ _ _
 have c0 : w0.cell? ⟨w.heap.size, 0, none⟩ = some (.slice ot n cs) := by rw [Blk.cell hB0]; rfl
 have HEN := zh (encode_any n cs ot N S w0 (hT.later hb0) (fun i _ => hN i) (fun i j _ _ => hS i j) (by omega))
 have HB0 := zh hb0
 clear hb0 hB0
 clear hT hN hS hn hh
 by_cases hq : q = 32
 ·subst hq
  have HNO : Hid (¬ OkT n N) := zh fun h => HH.out ⟨rfl, h⟩
  clear HH
  go_enter Tryz.func7, Tryz.ntmps7
  go_wp2_with fail
  refine HEN.out.mono ?_
  rintro e w1 ⟨hb1, ⟨rfl, hno⟩ | ⟨hok, v, rfl, hG⟩⟩
  ·skip
   go_wp2_with fail
   refine bodyPost_ret (v := .tuple #[.slice none 0 0, .iface 53 (.int .i64 1)]) ?_ rfl ⟨rfl, HB0.out.trans (hb1.mono HB0.out.size)⟩
   exact results_tmp2 (t := 4) (u := 5) Tryz.results7 _ _ _
  ·exact absurd hok HNO.out
 ·skip
  have a1 : ¬ (q : Int) = 32 := by omega
  have a2 : decide ((q : Int) = 32) = false := decide_eq_false a1
  have a3 : ((q : Int) == 32) = false := by simp only [beq_eq_false_iff_ne]; exact a1
  have a4 : decide (q = 32) = false := decide_eq_false (by omega)
  have a5 : (q == 32) = false := by simp only [beq_eq_false_iff_ne]; omega
  have a6 : ¬ q = 32 := by omega
  clear hq
  go_enter Tryz.func7, Tryz.ntmps7
  go_wp2_with fail
  refine HEN.out.mono ?_
  rintro e w1 ⟨hb1, ⟨rfl, hno⟩ | ⟨hok, v, rfl, hG⟩⟩
  ·skip
   go_wp2_with fail
   refine bodyPost_ret (v := .tuple #[.slice none 0 0, .iface 53 (.int .i64 1)]) ?_ rfl ⟨rfl, HB0.out.trans (hb1.mono HB0.out.size)⟩
   exact results_tmp2 (t := 4) (u := 5) Tryz.results7 _ _ _
  ·skip
   go_wp2_with fail
   refine bodyPost_ret (v := .tuple #[.slice none 0 0, .iface 53 (.int .i64 1)]) ?_ rfl ⟨rfl, HB0.out.trans (hb1.mono HB0.out.size)⟩
   exact results_tmp2 (t := 4) (u := 5) Tryz.results7 _ _ _
theorem rsr_no (oa ot : Option Addr) (q cn n cs : Nat) (N : Nat → Nat) (S : Nat → Nat → Nat) (w : World) (hT : TL w ot n N S) (hN : ∀ i, N i < 4294967296) (hS : ∀ i j, S i j < 256) (hn : n ≤ 40) (hh : ¬ (q = 32 ∧ OkT n N)) :
  Calls Tryz.prog 15 #[.slice oa q cn, .slice ot n cs] w fun e w' => e = .returned (.tuple #[.slice none 0 0, .int .i64 1]) ∧ Below w.heap.size w w' := by
 have HH := zh hh
 have HEN := zh (rencode_any n cs ot N S w hT (fun i _ => hN i) hS (by omega))
 have HB0 : Hid (Below w.heap.size w w) := zh (Below.refl _ _)
 clear hT hN hS hn hh
 by_cases hq : q = 32
 ·subst hq
  have HNO : Hid (¬ OkT n N) := zh fun h => HH.out ⟨rfl, h⟩
  clear HH
  go_enter Tryz.func15, Tryz.ntmps15
  go_wp2_with fail
  refine HEN.out.mono ?_
  rintro e w1 ⟨hb1, ⟨hno, rfl⟩ | ⟨hok, v, rfl, hG⟩⟩
  ·skip
   go_wp2_with fail
   refine bodyPost_ret (v := .tuple #[.slice none 0 0, .int .i64 1]) ?_ rfl ⟨rfl, HB0.out.trans (hb1.mono HB0.out.size)⟩
   exact results_tmp2 (t := 4) (u := 5) Tryz.results15 _ _ _
  ·exact absurd hok HNO.out
 ·skip
  have a1 : ¬ (q : Int) = 32 := by omega
  have a2 : decide ((q : Int) = 32) = false := decide_eq_false a1
  have a3 : ((q : Int) == 32) = false := by simp only [beq_eq_false_iff_ne]; exact a1
  have a4 : decide (q = 32) = false := decide_eq_false (by omega)
  have a5 : (q == 32) = false := by simp only [beq_eq_false_iff_ne]; omega
  have a6 : ¬ q = 32 := by omega
  clear hq
  go_enter Tryz.func15, Tryz.ntmps15
  go_wp2_with fail
  refine HEN.out.mono ?_
  rintro e w1 ⟨hb1, ⟨hno, rfl⟩ | ⟨hok, v, rfl, hG⟩⟩
  ·skip
   go_wp2_with fail
   refine bodyPost_ret (v := .tuple #[.slice none 0 0, .int .i64 1]) ?_ rfl ⟨rfl, HB0.out.trans (hb1.mono HB0.out.size)⟩
   exact results_tmp2 (t := 4) (u := 5) Tryz.results15 _ _ _
  ·skip
   go_wp2_with fail
   refine bodyPost_ret (v := .tuple #[.slice none 0 0, .int .i64 1]) ?_ rfl ⟨rfl, HB0.out.trans (hb1.mono HB0.out.size)⟩
   exact results_tmp2 (t := 4) (u := 5) Tryz.results15 _ _ _
def ErN (v : Value) (q : Nat) : Prop := (v = .nilIface ∧ q = 0) ∨ ∃ k : Nat, v = .iface 53 (.int .i64 (k : Int)) ∧ q = k
theorem ErN.nil : ErN .nilIface 0 := .inl ⟨rfl, rfl⟩
theorem ErN.err (k : Nat) : ErN (.iface 53 (.int .i64 (k : Int))) k := .inr ⟨k, rfl, rfl⟩
theorem num_ern {v : Value} {q : Nat} (w : World) (h : ErN v q) (hh : Handle w) : Calls Tryz.prog 10 #[v] w fun e w' => e = .returned (.int .i64 (q : Int)) ∧ Below w.heap.size w w' := by
 rcases h with ⟨rfl, rfl⟩ | ⟨k, rfl, rfl⟩
 ·exact num_nil w
 ·exact num_err _ w hh
theorem CV.grow {w : World} {B n : Nat} {v : Value} {f : Nat → Nat} (h : Grow w B v n f) (hf : ∀ i, i < n → f i < 256) : ∃ o c, v = .slice o n c ∧ CV w o n (strF n f) := by
 obtain ⟨o, c, hv, hB, _, _, hno⟩ := h.bytesM hf
 exact ⟨o, c, hv, f, hB, hno, rfl⟩
theorem seal_pr (n m x : Nat) (A B : Nat → Nat) (hx : x < 4294967296) : ∃ (Z : ByteArray) (q : Nat) (ev : Value), ErN ev q ∧
  (∀ oa ca ob cb w, Bytes w oa n A → Bytes w ob m B → n ≤ ca → m ≤ cb → cb ≤ maxLen → GV w → Calls Tryz.prog 5 #[.slice oa n ca, .slice ob m cb, .int .u32 (x : Int)] w fun e w' => ∃ o k c, e = .returned (.tuple #[.slice o k c, ev]) ∧ CV w' o k Z ∧ Below w.heap.size w w') ∧
  (∀ oa ca ob cb w, Bytes w oa n A → Bytes w ob m B → Calls Tryz.prog 12 #[.slice oa n ca, .slice ob m cb, .int .u32 (x : Int)] w fun e w' => ∃ o k c, e = .returned (.tuple #[.slice o k c, .int .i64 (q : Int)]) ∧ CV w' o k Z ∧ Below w.heap.size w w') := by
 by_cases hn : n = 32
 ·subst hn
  by_cases hm : m = 32
  ·subst hm
   refine ⟨strF 48 (ebF A B x), 0, _, ErN.nil, fun oa ca ob cb w ha hb h1 h2 h3 hg => ?_, fun oa ca ob cb w ha hb => ?_⟩
   ·refine (eseal_any oa ob ca cb x A B w ha hb h1 h2 h3 hx hg).mono ?_
    rintro e w' ⟨v, _, rfl, hG, _, hbb⟩
    obtain ⟨o, c, rfl, hc⟩ := CV.grow hG (ebF_lt (fun i hi => (ha i hi).1) (fun i hi => (hb i hi).1) hx)
    exact ⟨o, _, c, rfl, hc, hbb⟩
   ·refine (rseal22_any oa ob ca cb x A B w ha hb hx).mono ?_
    rintro e w' ⟨v, _, rfl, hG, _, hbb⟩
    obtain ⟨o, c, rfl, hc⟩ := CV.grow hG (ebF_lt (fun i hi => (ha i hi).1) (fun i hi => (hb i hi).1) hx)
    exact ⟨o, _, c, rfl, hc, hbb⟩
  ·refine ⟨⟨#[]⟩, 1, _, ErN.err 1, fun oa ca ob cb w _ _ _ _ _ _ => ?_, fun oa ca ob cb w _ _ => ?_⟩
   ·refine (eseal_r oa ob ca m cb _ w hm).mono ?_
    rintro e w' ⟨rfl, hbb⟩
    exact ⟨none, 0, 0, rfl, CV.none _, hbb⟩
   ·refine (rseal_r oa ob ca m cb _ w hm).mono ?_
    rintro e w' ⟨rfl, hbb⟩
    exact ⟨none, 0, 0, rfl, CV.none _, hbb⟩
 ·refine ⟨⟨#[]⟩, 1, _, ErN.err 1, fun oa ca ob cb w _ _ _ _ _ _ => ?_, fun oa ca ob cb w _ _ => ?_⟩
  ·refine (eseal_k oa ob n ca m cb _ w hn).mono ?_
   rintro e w' ⟨rfl, hbb⟩
   exact ⟨none, 0, 0, rfl, CV.none _, hbb⟩
  ·refine (rseal_k oa ob n ca m cb _ w hn).mono ?_
   rintro e w' ⟨rfl, hbb⟩
   exact ⟨none, 0, 0, rfl, CV.none _, hbb⟩
theorem open_pr (n m x : Nat) (A Q : Nat → Nat) (hx : x < 4294967296) : ∃ (Z : ByteArray) (q : Nat) (ev : Value), ErN ev q ∧
  (∀ oa ca ob cb w, Bytes w oa n A → Bytes w ob m Q → n ≤ ca → m ≤ cb → cb ≤ maxLen → GV w → Calls Tryz.prog 6 #[.slice oa n ca, .slice ob m cb, .int .u32 (x : Int)] w fun e w' => ∃ o k c, e = .returned (.tuple #[.slice o k c, ev]) ∧ CV w' o k Z ∧ Below w.heap.size w w') ∧
  (∀ oa ca ob cb w, Bytes w oa n A → Bytes w ob m Q → m ≤ cb → cb ≤ maxLen → Calls Tryz.prog 13 #[.slice oa n ca, .slice ob m cb, .int .u32 (x : Int)] w fun e w' => ∃ o k c, e = .returned (.tuple #[.slice o k c, .int .i64 (q : Int)]) ∧ CV w' o k Z ∧ Below w.heap.size w w') := by
 by_cases hn : n = 32
 ·subst hn
  by_cases hm : m = 48
  ·subst hm
   cases ht : eqF (tgF (ekW A sE x) (nbF x 0) beE 13 Q 32) (fun i => Q (32 + i)) with
   | true =>
    refine ⟨strF 32 (cphF (ekW A sE x) (nbF x 0) Q), 0, _, ErN.nil, fun oa ca ob cb w ha hb h1 h2 h3 hg => ?_, fun oa ca ob cb w ha hb h2 h3 => ?_⟩
    ·obtain ⟨_, bo, oo, rfl, _⟩ := hb 0 (by decide)
     have hl := cphF_lt (n := 32) (W := ekW A sE x) (nn := nbF x 0) (nbF_lt hx (by decide)) (fun i hi => (hb i (by omega)).1)
     refine (eopen_any oa bo oo ca cb x A Q w ha hb h1 h2 h3 hx hg).mono ?_
     rintro e w' ⟨hbb, ⟨_, v, B, rfl, hG, _⟩ | ⟨hf, _⟩⟩
     ·obtain ⟨o, c, rfl, hc⟩ := CV.grow hG hl
      exact ⟨o, _, c, rfl, hc, hbb⟩
     ·rw [ht] at hf; cases hf
    ·obtain ⟨_, bo, oo, rfl, _⟩ := hb 0 (by decide)
     have hl := cphF_lt (n := 32) (W := ekW A sE x) (nn := nbF x 0) (nbF_lt hx (by decide)) (fun i hi => (hb i (by omega)).1)
     refine (ropen22_any oa bo oo ca cb x A Q w ha hb h2 h3 hx).mono ?_
     rintro e w' ⟨hbb, ⟨_, v, B, rfl, hG⟩ | ⟨hf, _⟩⟩
     ·obtain ⟨o, c, rfl, hc⟩ := CV.grow hG hl
      exact ⟨o, _, c, rfl, hc, hbb⟩
     ·rw [ht] at hf; cases hf
   | false =>
    refine ⟨⟨#[]⟩, 13, _, ErN.err 13, fun oa ca ob cb w ha hb h1 h2 h3 hg => ?_, fun oa ca ob cb w ha hb h2 h3 => ?_⟩
    ·obtain ⟨_, bo, oo, rfl, _⟩ := hb 0 (by decide)
     refine (eopen_any oa bo oo ca cb x A Q w ha hb h1 h2 h3 hx hg).mono ?_
     rintro e w' ⟨hbb, ⟨hf, _⟩ | ⟨_, rfl⟩⟩
     ·rw [ht] at hf; cases hf
     ·exact ⟨none, 0, 0, rfl, CV.none _, hbb⟩
    ·obtain ⟨_, bo, oo, rfl, _⟩ := hb 0 (by decide)
     refine (ropen22_any oa bo oo ca cb x A Q w ha hb h2 h3 hx).mono ?_
     rintro e w' ⟨hbb, ⟨hf, _⟩ | ⟨_, rfl⟩⟩
     ·rw [ht] at hf; cases hf
     ·exact ⟨none, 0, 0, rfl, CV.none _, hbb⟩
  ·refine ⟨⟨#[]⟩, 13, _, ErN.err 13, fun oa ca ob cb w _ _ _ _ _ _ => ?_, fun oa ca ob cb w _ _ _ _ => ?_⟩
   ·refine (eopen_len oa ob ca m cb x w hm).mono ?_
    rintro e w' ⟨rfl, hbb⟩
    exact ⟨none, 0, 0, rfl, CV.none _, hbb⟩
   ·refine (ropen_len oa ob ca m cb _ w hm).mono ?_
    rintro e w' ⟨rfl, hbb⟩
    exact ⟨none, 0, 0, rfl, CV.none _, hbb⟩
 ·refine ⟨⟨#[]⟩, 1, _, ErN.err 1, fun oa ca ob cb w _ _ _ _ _ _ => ?_, fun oa ca ob cb w _ _ _ _ => ?_⟩
  ·refine (eopen_k oa ob n ca m cb _ w hn).mono ?_
   rintro e w' ⟨rfl, hbb⟩
   exact ⟨none, 0, 0, rfl, CV.none _, hbb⟩
  ·refine (ropen_k oa ob n ca m cb _ w hn).mono ?_
   rintro e w' ⟨rfl, hbb⟩
   exact ⟨none, 0, 0, rfl, CV.none _, hbb⟩
theorem sring_pr (q n : Nat) (K : Nat → Nat) (N : Nat → Nat) (S : Nat → Nat → Nat) (hN : ∀ i, N i < 4294967296) (hS : ∀ i j, S i j < 256) (hn : n ≤ 40) : ∃ (Z : ByteArray) (r : Nat) (ev : Value), ErN ev r ∧
  (∀ oa ca ot cs w, Bytes w oa q K → TL w ot n N S → q ≤ ca → GV w → Calls Tryz.prog 7 #[.slice oa q ca, .agg #[.slice ot n cs]] w fun e w' => ∃ o k c, e = .returned (.tuple #[.slice o k c, ev]) ∧ CV w' o k Z ∧ Below w.heap.size w w') ∧
  (∀ oa ca ot cs w, Bytes w oa q K → TL w ot n N S → Calls Tryz.prog 15 #[.slice oa q ca, .slice ot n cs] w fun e w' => ∃ o k c, e = .returned (.tuple #[.slice o k c, .int .i64 (r : Int)]) ∧ CV w' o k Z ∧ Below w.heap.size w w') := by
 by_cases hh : q = 32 ∧ OkT n N
 ·obtain ⟨hq, hok⟩ := hh
  subst hq
  have hl : ∀ i, i < 12 + (3 + 32 * n + 16) → rbF K (3 + 32 * n) (encF n S) i < 256 := rbF_lt (by omega) (fun i hi => enc_lt (by omega) (fun i j _ _ => hS i j) i hi)
  refine ⟨strF (12 + (3 + 32 * n + 16)) (rbF K (3 + 32 * n) (encF n S)), 0, _, ErN.nil, fun oa ca ot cs w ha hT h1 hg => ?_, fun oa ca ot cs w ha hT => ?_⟩
  ·refine (esealring_ok oa ot ca n cs K N S w ha hT hok (fun i j _ _ => hS i j) h1 hg).mono ?_
   rintro e w' ⟨v, _, rfl, hG, _, hbb⟩
   obtain ⟨o, c, rfl, hc⟩ := CV.grow hG hl
   exact ⟨o, _, c, rfl, hc, hbb⟩
  ·refine (rsealring_ok oa ot ca n cs K N S w ha hT hok hS).mono ?_
   rintro e w' ⟨v, _, rfl, hG, _, hbb⟩
   obtain ⟨o, c, rfl, hc⟩ := CV.grow hG hl
   exact ⟨o, _, c, rfl, hc, hbb⟩
 ·refine ⟨⟨#[]⟩, 1, _, ErN.err 1, fun oa ca ot cs w _ hT _ _ => ?_, fun oa ca ot cs w _ hT => ?_⟩
  ·refine (esr_no oa ot q ca n cs N S w hT hN hS hn hh).mono ?_
   rintro e w' ⟨rfl, hbb⟩
   exact ⟨none, 0, 0, rfl, CV.none _, hbb⟩
  ·refine (rsr_no oa ot q ca n cs N S w hT hN hS hn hh).mono ?_
   rintro e w' ⟨rfl, hbb⟩
   exact ⟨none, 0, 0, rfl, CV.none _, hbb⟩
theorem oring_pr (n m : Nat) (K Q : Nat → Nat) (hm : m ≤ 700) : ∃ (k : Nat) (M : Nat → Nat) (U : Nat → Nat → Nat) (r : Nat) (ev : Value), k < 1000000 ∧ ErN ev r ∧
  (∀ oa ca ob cb w, Bytes w oa n K → Bytes w ob m Q → n ≤ ca → m ≤ cb → cb ≤ maxLen → GV w → Calls Tryz.prog 9 #[.slice oa n ca, .slice ob m cb] w fun e w' => ∃ o c, e = .returned (.tuple #[.agg #[.slice o k c], ev]) ∧ TL w' o k M U ∧ Below w.heap.size w w') ∧
  (∀ oa ca ob cb w, Bytes w oa n K → Bytes w ob m Q → m ≤ cb → cb ≤ maxLen → Calls Tryz.prog 16 #[.slice oa n ca, .slice ob m cb] w fun e w' => ∃ o c, e = .returned (.tuple #[.slice o k c, .int .i64 (r : Int)]) ∧ TL w' o k M U ∧ Below w.heap.size w w') := by
 by_cases hn : n = 32
 ·subst hn
  by_cases hs : m < 28
  ·refine ⟨0, fun _ => 0, fun _ _ => 0, 11, _, by omega, ErN.err 11, fun oa ca ob cb w _ _ _ _ _ _ => ?_, fun oa ca ob cb w _ _ _ _ => ?_⟩
   ·refine (ering_s oa ob ca m cb w hs).mono ?_
    rintro e w' ⟨rfl, hbb⟩
    exact ⟨none, 0, rfl, TL.nil _ _ _ _, hbb⟩
   ·refine (rring_s oa ob ca m cb w hs).mono ?_
    rintro e w' ⟨rfl, hbb⟩
    exact ⟨none, 0, rfl, TL.nil _ _ _ _, hbb⟩
  ·obtain ⟨en, hen⟩ : ∃ en, m = 12 + (en + 16) := ⟨m - 28, by omega⟩
   by_cases hr : rtB K Q en = true ∧ IsRing en (rdF K Q)
   ·refine ⟨rdF K Q 2, fun i => i + 1, fun i j => rdF K Q (3 + 32 * i + j), 0, _, by have := hr.2.2.2.2.2.1; omega, ErN.nil, fun oa ca ob cb w ha hb h1 h2 h3 hg => ?_, fun oa ca ob cb w ha hb h2 h3 => ?_⟩
    ·obtain ⟨_, bo, oo, rfl, _⟩ := hb 0 (by omega)
     refine (openring_any oa bo oo ca m cb en K Q w ha hb h1 hen h2 h3 (by omega) hg).mono ?_
     rintro e w' ⟨hbb, ⟨_, o, c, rfl, hT⟩ | ⟨hf, _⟩⟩
     ·exact ⟨o, c, rfl, hT, hbb⟩
     ·exact absurd hr hf
    ·obtain ⟨_, bo, oo, rfl, _⟩ := hb 0 (by omega)
     refine (ropenring_any oa bo oo ca m cb en K Q w ha hb hen h2 h3 (by omega)).mono ?_
     rintro e w' ⟨hbb, ⟨_, o, c, rfl, hT⟩ | ⟨hf, _⟩⟩
     ·exact ⟨o, c, rfl, hT, hbb⟩
     ·exact absurd hr hf
   ·refine ⟨0, fun _ => 0, fun _ _ => 0, 11, _, by omega, ErN.err 11, fun oa ca ob cb w ha hb h1 h2 h3 hg => ?_, fun oa ca ob cb w ha hb h2 h3 => ?_⟩
    ·obtain ⟨_, bo, oo, rfl, _⟩ := hb 0 (by omega)
     refine (openring_any oa bo oo ca m cb en K Q w ha hb h1 hen h2 h3 (by omega) hg).mono ?_
     rintro e w' ⟨hbb, ⟨hf, _⟩ | ⟨_, rfl⟩⟩
     ·exact absurd hf hr
     ·exact ⟨none, 0, rfl, TL.nil _ _ _ _, hbb⟩
    ·obtain ⟨_, bo, oo, rfl, _⟩ := hb 0 (by omega)
     refine (ropenring_any oa bo oo ca m cb en K Q w ha hb hen h2 h3 (by omega)).mono ?_
     rintro e w' ⟨hbb, ⟨hf, _⟩ | ⟨_, rfl⟩⟩
     ·exact absurd hf hr
     ·exact ⟨none, 0, rfl, TL.nil _ _ _ _, hbb⟩
 ·refine ⟨0, fun _ => 0, fun _ _ => 0, 1, _, by omega, ErN.err 1, fun oa ca ob cb w _ _ _ _ _ _ => ?_, fun oa ca ob cb w _ _ _ _ => ?_⟩
  ·refine (ering_k oa ob n ca m cb w hn).mono ?_
   rintro e w' ⟨rfl, hbb⟩
   exact ⟨none, 0, rfl, TL.nil _ _ _ _, hbb⟩
  ·refine (rring_k oa ob n ca m cb w hn).mono ?_
   rintro e w' ⟨rfl, hbb⟩
   exact ⟨none, 0, rfl, TL.nil _ _ _ _, hbb⟩
end Go.Proofs.YtncfocjmdecapaaGreatDoor
