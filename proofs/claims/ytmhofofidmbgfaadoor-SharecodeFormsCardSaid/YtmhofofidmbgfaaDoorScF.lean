/- SharecodeForms. -/
import Derived.Test.YtmhofofidmbgfaaDoorScE
namespace Go.Proofs.YtmhofofidmbgfaaDoor
set_option linter.unusedVariables false
set_option linter.unusedSimpArgs false
open Go.RowKit

set_option maxRecDepth 100000 in
set_option maxHeartbeats 16000000 in
theorem forms_any (ix gen n cap m cm : Nat) (oa ob : Option Addr) (f F : Nat → Nat) (t : ByteArray) (w : World) (hg : Handle w) (hix : ix < 256) (hgen : gen < 4294967296) (hB : Bytes w oa n f) (hnc : n ≤ cap) (hcm : cap ≤ maxLen) (hno : oa = none → n = 0) (hBb : Bytes w ob m F) (hmc : m ≤ cm) (hmm : cm ≤ maxLen) (hno2 : ob = none → m = 0) :
    Calls Tryd.prog 8 #[.agg #[.int .u8 (ix : Int), .int .u32 (gen : Int), .slice oa n cap], .slice ob m cm, .string t] w fun e w' => e = .returned (.bool true) ∧ Below w.heap.size w w' := by
  have hn9 : n < 9223372036854775808 := by unfold maxLen at hcm; omega
  have hm9 : m < 9223372036854775808 := by unfold maxLen at hmm; omega
  obtain ⟨w0, hw0⟩ : ∃ y, w.alloc (.cells #[.int .u8 (ix : Int), .int .u32 (gen : Int), .slice oa n cap] 46) = y := ⟨_, rfl⟩
  obtain ⟨b3, hb3⟩ : ∃ y, w.heap.size = y := ⟨_, rfl⟩
  have HW0 : Hid (Below w.heap.size w w0) := Lib.hid (by rw [← hw0]; exact (Below.refl _ _).alloc (Nat.le_refl _) _)
  have HBX : Hid (Blk w0 b3 #[.int .u8 (ix : Int), .int .u32 (gen : Int), .slice oa n cap] 46) := Lib.hid (by rw [← hw0, ← hb3]; exact Blk.new _ _ _)
  have c0 : w0.cell? ⟨b3, 0, none⟩ = some (.int .u8 (ix : Int)) := by rw [Blk.cell HBX.out]; rfl
  have c1 : w0.cell? ⟨b3, 1, none⟩ = some (.int .u32 (gen : Int)) := by rw [Blk.cell HBX.out]; rfl
  have c2 : w0.cell? ⟨b3, 2, none⟩ = some (.slice oa n cap) := by rw [Blk.cell HBX.out]; rfl
  have HG := Lib.hid (show ∀ w', Below w.heap.size w w' → Handle w' from fun w' h => hg.below h hg.2)
  have HS : Hid (∀ w', Below w.heap.size w w' → Bytes w' oa n f) := Lib.hid fun w' h => hB.later h
  have HBB : Hid (∀ w', Below w.heap.size w w' → Bytes w' ob m F) := Lib.hid fun w' h => hBb.later h
  have HIX : Hid (ix < 256 ∧ gen < 4294967296 ∧ m ≤ cm) := Lib.hid ⟨hix, hgen, hmc⟩
  have HSU : Hid (∀ w', Below w.heap.size w w' → Calls Tryd.prog 27 #[] w' fun e w2 => e = .returned (.bool true) ∧ Below w'.heap.size w' w2) := Lib.hid fun w' h => sure04 w' (HG.out w' h)
  clear hg hix hgen hB hnc hcm hno hBb hmc hmm hno2
  by_cases ha : 300 < n
  · have q : (300 : Int) < (n : Int) := by omega
    clear ha
    go_enter Tryd.func8, Tryd.ntmps8
    rw [hb3]
    go_wp2_with fail
    refine (HSU.out w0 HW0.out).mono ?_
    rintro e w9 ⟨rfl, hb⟩
    have HBF := Lib.hid (HW0.out.trans (hb.mono HW0.out.size))
    clear hb
    go_wp2_with fail
    go_ret
    exact ⟨rfl, hb3 ▸ HBF.out⟩
  have q : decide ((300 : Int) < (n : Int)) = false := decide_eq_false (by omega)
  by_cases ha2 : 1000 < m
  · have q2 : (1000 : Int) < (m : Int) := by omega
    clear ha ha2
    go_enter Tryd.func8, Tryd.ntmps8
    rw [hb3]
    go_wp2_with fail
    refine (HSU.out w0 HW0.out).mono ?_
    rintro e w9 ⟨rfl, hb⟩
    have HBF := Lib.hid (HW0.out.trans (hb.mono HW0.out.size))
    clear hb
    go_wp2_with fail
    go_ret
    exact ⟨rfl, hb3 ▸ HBF.out⟩
  have q2 : decide ((1000 : Int) < (m : Int)) = false := decide_eq_false (by omega)
  by_cases ha3 : 1000 < t.size
  · have q3 : (1000 : Int) < (t.size : Int) := by omega
    clear ha ha2 ha3
    go_enter Tryd.func8, Tryd.ntmps8
    rw [hb3]
    go_wp2_with fail
    refine (HSU.out w0 HW0.out).mono ?_
    rintro e w9 ⟨rfl, hb⟩
    have HBF := Lib.hid (HW0.out.trans (hb.mono HW0.out.size))
    clear hb
    go_wp2_with fail
    go_ret
    exact ⟨rfl, hb3 ▸ HBF.out⟩
  have q3 : decide ((1000 : Int) < (t.size : Int)) = false := decide_eq_false (by omega)
  obtain ⟨E1, S1, U1, ev1, h11, h12, h13, h14⟩ := enc_side ix gen n cap oa f HIX.out.1 HIX.out.2.1 (by omega)
  obtain ⟨E2, x2, g2, S2, ev2, h21, h22, h23⟩ := dec_side m cm ob F HIX.out.2.2 (by omega)
  obtain ⟨E3, x3, g3, S3, ev3, h31, h32, h33⟩ := parse_side t (by omega)
  have K11 := Lib.hid h11
  have K12 := Lib.hid h12
  have K13 := Lib.hid h13
  have K14 := Lib.hid h14
  have K21 := Lib.hid h21
  have K22 := Lib.hid h22
  have K23 := Lib.hid h23
  have K31 := Lib.hid h31
  have K32 := Lib.hid h32
  have K33 := Lib.hid h33
  clear h11 h12 h13 h14 h21 h22 h23 h31 h32 h33 ha ha2 ha3
  obtain ⟨w1, hw1⟩ : ∃ y, w0.alloc (.cells #[.int .u8 (ix : Int), .int .u32 (gen : Int), .slice oa n cap] 52) = y := ⟨_, rfl⟩
  have hb : Below w0.heap.size w0 w1 := by rw [← hw1]; exact (Below.refl _ _).alloc (Nat.le_refl _) _
  have B1 : Hid (Blk w1 w0.heap.size #[.int .u8 (ix : Int), .int .u32 (gen : Int), .slice oa n cap] 52) := Lib.hid (by rw [← hw1]; exact Blk.new _ _ _)
  have H1 := Lib.hid hb
  have HW1 := Lib.hid (HW0.out.trans (hb.mono HW0.out.size))
  clear hb
  have hx := B1.out
  have d0 : w1.cell? ⟨w0.heap.size, 0, none⟩ = some (.int .u8 (ix : Int)) := by rw [Blk.cell hx]; rfl
  have d1 : w1.cell? ⟨w0.heap.size, 1, none⟩ = some (.int .u32 (gen : Int)) := by rw [Blk.cell hx]; rfl
  have d2 : w1.cell? ⟨w0.heap.size, 2, none⟩ = some (.slice oa n cap) := by rw [Blk.cell hx]; rfl
  clear hx
  go_enter Tryd.func8, Tryd.ntmps8
  rw [hb3]
  go_wp2_with fail
  refine (K11.out w1 (HS.out w1 HW1.out)).mono ?_
  rintro e w2 ⟨o1, l1, r1, rfl, hc, hb⟩
  have V1 := Lib.hid hc
  clear hc
  have H2 := Lib.hid hb
  have HW2 := Lib.hid (HW1.out.trans (hb.mono HW1.out.size))
  clear hb
  clear c0 c1 c2 d0 d1 d2
  have hx := Blk.below HBX.out (H1.out.trans (H2.out.mono H1.out.size)) (Blk.lt HBX.out)
  have c0 : w2.cell? ⟨b3, 0, none⟩ = some (.int .u8 (ix : Int)) := by rw [Blk.cell hx]; rfl
  have c1 : w2.cell? ⟨b3, 1, none⟩ = some (.int .u32 (gen : Int)) := by rw [Blk.cell hx]; rfl
  have c2 : w2.cell? ⟨b3, 2, none⟩ = some (.slice oa n cap) := by rw [Blk.cell hx]; rfl
  clear hx
  go_wp2_with fail
  refine (K12.out w2 (HS.out w2 HW2.out)).mono ?_
  rintro e w3 ⟨o2, l2, r2, rfl, hc, hh, hb⟩
  have V2 := Lib.hid hc
  have VH := Lib.hid hh
  clear hc hh
  have H3 := Lib.hid hb
  have HW3 := Lib.hid (HW2.out.trans (hb.mono HW2.out.size))
  clear hb
  clear c0 c1 c2
  have hx := Blk.below B1.out (H2.out.trans (H3.out.mono H2.out.size)) (Blk.lt B1.out)
  have d0 : w3.cell? ⟨w0.heap.size, 0, none⟩ = some (.int .u8 (ix : Int)) := by rw [Blk.cell hx]; rfl
  have d1 : w3.cell? ⟨w0.heap.size, 1, none⟩ = some (.int .u32 (gen : Int)) := by rw [Blk.cell hx]; rfl
  have d2 : w3.cell? ⟨w0.heap.size, 2, none⟩ = some (.slice oa n cap) := by rw [Blk.cell hx]; rfl
  clear hx
  go_wp2_with fail
  refine (K13.out w3 (HS.out w3 HW3.out)).mono ?_
  rintro e w4 ⟨rfl, hb⟩
  have H4 := Lib.hid hb
  have HW4 := Lib.hid (HW3.out.trans (hb.mono HW3.out.size))
  clear hb
  clear d0 d1 d2
  go_wp2_with fail
  refine (K21.out w4 (HBB.out w4 HW4.out)).mono ?_
  rintro e w5 ⟨o3, l3, r3, rfl, hc, hb⟩
  have V3 := Lib.hid hc
  clear hc
  have H5 := Lib.hid hb
  have HW5 := Lib.hid (HW4.out.trans (hb.mono HW4.out.size))
  clear hb
  obtain ⟨w6, hw6⟩ : ∃ y, w5.alloc (.cells #[.int .u8 (x2 : Int), .int .u32 (g2 : Int), .slice o3 l3 r3] 52) = y := ⟨_, rfl⟩
  have hb : Below w5.heap.size w5 w6 := by rw [← hw6]; exact (Below.refl _ _).alloc (Nat.le_refl _) _
  have B6 : Hid (Blk w6 w5.heap.size #[.int .u8 (x2 : Int), .int .u32 (g2 : Int), .slice o3 l3 r3] 52) := Lib.hid (by rw [← hw6]; exact Blk.new _ _ _)
  have H6 := Lib.hid hb
  have HW6 := Lib.hid (HW5.out.trans (hb.mono HW5.out.size))
  clear hb
  go_wp2_with fail
  refine (K22.out w6 (HBB.out w6 HW6.out)).mono ?_
  rintro e w7 ⟨o4, l4, r4, rfl, hc, hb⟩
  have V4 := Lib.hid hc
  clear hc
  have H7 := Lib.hid hb
  have HW7 := Lib.hid (HW6.out.trans (hb.mono HW6.out.size))
  clear hb
  obtain ⟨w8, hw8⟩ : ∃ y, w7.alloc (.cells #[.int .u8 (x2 : Int), .int .u32 (g2 : Int), .slice o4 l4 r4] 46) = y := ⟨_, rfl⟩
  have hb : Below w7.heap.size w7 w8 := by rw [← hw8]; exact (Below.refl _ _).alloc (Nat.le_refl _) _
  have B8 : Hid (Blk w8 w7.heap.size #[.int .u8 (x2 : Int), .int .u32 (g2 : Int), .slice o4 l4 r4] 46) := Lib.hid (by rw [← hw8]; exact Blk.new _ _ _)
  have H8 := Lib.hid hb
  have HW8 := Lib.hid (HW7.out.trans (hb.mono HW7.out.size))
  clear hb
  go_wp2_with fail
  refine (K31.out w8).mono ?_
  rintro e w9 ⟨o5, l5, r5, rfl, hc, hb⟩
  have V5 := Lib.hid hc
  clear hc
  have H9 := Lib.hid hb
  have HW9 := Lib.hid (HW8.out.trans (hb.mono HW8.out.size))
  clear hb
  obtain ⟨w10, hw10⟩ : ∃ y, w9.alloc (.cells #[.int .u8 (x3 : Int), .int .u32 (g3 : Int), .slice o5 l5 r5] 52) = y := ⟨_, rfl⟩
  have hb : Below w9.heap.size w9 w10 := by rw [← hw10]; exact (Below.refl _ _).alloc (Nat.le_refl _) _
  have B10 : Hid (Blk w10 w9.heap.size #[.int .u8 (x3 : Int), .int .u32 (g3 : Int), .slice o5 l5 r5] 52) := Lib.hid (by rw [← hw10]; exact Blk.new _ _ _)
  have H10 := Lib.hid hb
  have HW10 := Lib.hid (HW9.out.trans (hb.mono HW9.out.size))
  clear hb
  go_wp2_with fail
  refine (K32.out w10).mono ?_
  rintro e w11 ⟨o6, l6, r6, rfl, hc, hb⟩
  have V6 := Lib.hid hc
  clear hc
  have H11 := Lib.hid hb
  have HW11 := Lib.hid (HW10.out.trans (hb.mono HW10.out.size))
  clear hb
  obtain ⟨w12, hw12⟩ : ∃ y, w11.alloc (.cells #[.int .u8 (x3 : Int), .int .u32 (g3 : Int), .slice o6 l6 r6] 46) = y := ⟨_, rfl⟩
  have hb : Below w11.heap.size w11 w12 := by rw [← hw12]; exact (Below.refl _ _).alloc (Nat.le_refl _) _
  have B12 : Hid (Blk w12 w11.heap.size #[.int .u8 (x3 : Int), .int .u32 (g3 : Int), .slice o6 l6 r6] 46) := Lib.hid (by rw [← hw12]; exact Blk.new _ _ _)
  have H12 := Lib.hid hb
  have HW12 := Lib.hid (HW11.out.trans (hb.mono HW11.out.size))
  clear hb
  have s1 := V1.out w12 (H3.out.trans ((H4.out.trans ((H5.out.trans ((H6.out.trans ((H7.out.trans ((H8.out.trans ((H9.out.trans ((H10.out.trans ((H11.out.trans (H12.out.mono H11.out.size)).mono H10.out.size)).mono H9.out.size)).mono H8.out.size)).mono H7.out.size)).mono H6.out.size)).mono H5.out.size)).mono H4.out.size)).mono H3.out.size))
  have s2 := V2.out w12 (H4.out.trans ((H5.out.trans ((H6.out.trans ((H7.out.trans ((H8.out.trans ((H9.out.trans ((H10.out.trans ((H11.out.trans (H12.out.mono H11.out.size)).mono H10.out.size)).mono H9.out.size)).mono H8.out.size)).mono H7.out.size)).mono H6.out.size)).mono H5.out.size)).mono H4.out.size))
  have j1 : (S1.toList == S1.toList) = true := by simp
  clear hw6 hw8 hw10
  go_wp2_with (first
    | (refine wpList_value rfl (exec_convO (x := .tmp 73) rfl rfl s1) ?_)
    | (refine wpList_value rfl (exec_convO (x := .tmp 75) rfl rfl s2) ?_)
    | (go_at_call 35; refine (K14.out w12 (HG.out w12 HW12.out)).mono ?_; refine Hid.out ?_))
  refine Lib.hid ?_
  rintro e w13 ⟨rfl, hb⟩
  clear s1 s2 hw12
  have H13 := Lib.hid hb
  have HW13 := Lib.hid (HW12.out.trans (hb.mono HW12.out.size))
  clear hb
  go_wp2_with (first
    | (go_at_call 36; refine (VH.out w13 (H4.out.trans ((H5.out.trans ((H6.out.trans ((H7.out.trans ((H8.out.trans ((H9.out.trans ((H10.out.trans ((H11.out.trans ((H12.out.trans (H13.out.mono H12.out.size)).mono H11.out.size)).mono H10.out.size)).mono H9.out.size)).mono H8.out.size)).mono H7.out.size)).mono H6.out.size)).mono H5.out.size)).mono H4.out.size))).mono ?_; refine Hid.out ?_))
  refine Lib.hid ?_
  rintro e w14 ⟨rfl, hb⟩
  have H14 := Lib.hid hb
  have HW14 := Lib.hid (HW13.out.trans (hb.mono HW13.out.size))
  clear hb
  have j2 : (U1.toList == U1.toList) = true := by simp
  go_wp2_with (first
    | (go_at_call 35; refine (K14.out w14 (HG.out w14 HW14.out)).mono ?_; refine Hid.out ?_))
  refine Lib.hid ?_
  rintro e w15 ⟨rfl, hb⟩
  have H15 := Lib.hid hb
  have HW15 := Lib.hid (HW14.out.trans (hb.mono HW14.out.size))
  clear hb
  have hx := Blk.below B6.out (H7.out.trans ((H8.out.trans ((H9.out.trans ((H10.out.trans ((H11.out.trans ((H12.out.trans ((H13.out.trans ((H14.out.trans (H15.out.mono H14.out.size)).mono H13.out.size)).mono H12.out.size)).mono H11.out.size)).mono H10.out.size)).mono H9.out.size)).mono H8.out.size)).mono H7.out.size)) (Blk.lt B6.out)
  have c0 : w15.cell? ⟨w5.heap.size, 0, none⟩ = some (.int .u8 (x2 : Int)) := by rw [Blk.cell hx]; rfl
  have c1 : w15.cell? ⟨w5.heap.size, 1, none⟩ = some (.int .u32 (g2 : Int)) := by rw [Blk.cell hx]; rfl
  have c2 : w15.cell? ⟨w5.heap.size, 2, none⟩ = some (.slice o3 l3 r3) := by rw [Blk.cell hx]; rfl
  clear hx
  have hx := Blk.below B8.out (H9.out.trans ((H10.out.trans ((H11.out.trans ((H12.out.trans ((H13.out.trans ((H14.out.trans (H15.out.mono H14.out.size)).mono H13.out.size)).mono H12.out.size)).mono H11.out.size)).mono H10.out.size)).mono H9.out.size)) (Blk.lt B8.out)
  have d0 : w15.cell? ⟨w7.heap.size, 0, none⟩ = some (.int .u8 (x2 : Int)) := by rw [Blk.cell hx]; rfl
  have d1 : w15.cell? ⟨w7.heap.size, 1, none⟩ = some (.int .u32 (g2 : Int)) := by rw [Blk.cell hx]; rfl
  have d2 : w15.cell? ⟨w7.heap.size, 2, none⟩ = some (.slice o4 l4 r4) := by rw [Blk.cell hx]; rfl
  clear hx
  go_wp2_with (first
    | (go_at_call 37; refine (isshare_any x2 g2 l3 l4 r3 r4 o3 o4 S2 w15 (V3.out.later (H6.out.trans ((H7.out.trans ((H8.out.trans ((H9.out.trans ((H10.out.trans ((H11.out.trans ((H12.out.trans ((H13.out.trans ((H14.out.trans (H15.out.mono H14.out.size)).mono H13.out.size)).mono H12.out.size)).mono H11.out.size)).mono H10.out.size)).mono H9.out.size)).mono H8.out.size)).mono H7.out.size)).mono H6.out.size))) (V4.out.later (H8.out.trans ((H9.out.trans ((H10.out.trans ((H11.out.trans ((H12.out.trans ((H13.out.trans ((H14.out.trans (H15.out.mono H14.out.size)).mono H13.out.size)).mono H12.out.size)).mono H11.out.size)).mono H10.out.size)).mono H9.out.size)).mono H8.out.size)))).mono ?_; refine Hid.out ?_))
  refine Lib.hid ?_
  rintro e w16 ⟨rfl, hb⟩
  clear c0 c1 c2 d0 d1 d2
  have H16 := Lib.hid hb
  have HW16 := Lib.hid (HW15.out.trans (hb.mono HW15.out.size))
  clear hb
  go_wp2_with (first
    | (go_at_call 35; refine (K23.out w16 (HG.out w16 HW16.out)).mono ?_; refine Hid.out ?_))
  refine Lib.hid ?_
  rintro e w17 ⟨rfl, hb⟩
  have H17 := Lib.hid hb
  have HW17 := Lib.hid (HW16.out.trans (hb.mono HW16.out.size))
  clear hb
  have hx := Blk.below B10.out (H11.out.trans ((H12.out.trans ((H13.out.trans ((H14.out.trans ((H15.out.trans ((H16.out.trans (H17.out.mono H16.out.size)).mono H15.out.size)).mono H14.out.size)).mono H13.out.size)).mono H12.out.size)).mono H11.out.size)) (Blk.lt B10.out)
  have c0 : w17.cell? ⟨w9.heap.size, 0, none⟩ = some (.int .u8 (x3 : Int)) := by rw [Blk.cell hx]; rfl
  have c1 : w17.cell? ⟨w9.heap.size, 1, none⟩ = some (.int .u32 (g3 : Int)) := by rw [Blk.cell hx]; rfl
  have c2 : w17.cell? ⟨w9.heap.size, 2, none⟩ = some (.slice o5 l5 r5) := by rw [Blk.cell hx]; rfl
  clear hx
  have hx := Blk.below B12.out (H13.out.trans ((H14.out.trans ((H15.out.trans ((H16.out.trans (H17.out.mono H16.out.size)).mono H15.out.size)).mono H14.out.size)).mono H13.out.size)) (Blk.lt B12.out)
  have d0 : w17.cell? ⟨w11.heap.size, 0, none⟩ = some (.int .u8 (x3 : Int)) := by rw [Blk.cell hx]; rfl
  have d1 : w17.cell? ⟨w11.heap.size, 1, none⟩ = some (.int .u32 (g3 : Int)) := by rw [Blk.cell hx]; rfl
  have d2 : w17.cell? ⟨w11.heap.size, 2, none⟩ = some (.slice o6 l6 r6) := by rw [Blk.cell hx]; rfl
  clear hx
  go_wp2_with (first
    | (go_at_call 37; refine (isshare_any x3 g3 l5 l6 r5 r6 o5 o6 S3 w17 (V5.out.later (H10.out.trans ((H11.out.trans ((H12.out.trans ((H13.out.trans ((H14.out.trans ((H15.out.trans ((H16.out.trans (H17.out.mono H16.out.size)).mono H15.out.size)).mono H14.out.size)).mono H13.out.size)).mono H12.out.size)).mono H11.out.size)).mono H10.out.size))) (V6.out.later (H12.out.trans ((H13.out.trans ((H14.out.trans ((H15.out.trans ((H16.out.trans (H17.out.mono H16.out.size)).mono H15.out.size)).mono H14.out.size)).mono H13.out.size)).mono H12.out.size)))).mono ?_; refine Hid.out ?_))
  refine Lib.hid ?_
  rintro e w18 ⟨rfl, hb⟩
  clear c0 c1 c2 d0 d1 d2
  have H18 := Lib.hid hb
  have HW18 := Lib.hid (HW17.out.trans (hb.mono HW17.out.size))
  clear hb
  go_wp2_with (first
    | (go_at_call 35; refine (K33.out w18 (HG.out w18 HW18.out)).mono ?_; refine Hid.out ?_))
  refine Lib.hid ?_
  rintro e w19 ⟨rfl, hb⟩
  have H19 := Lib.hid hb
  have HW19 := Lib.hid (HW18.out.trans (hb.mono HW18.out.size))
  clear hb
  go_wp2_with (first
    | (go_at_call 27; refine (HSU.out w19 HW19.out).mono ?_; refine Hid.out ?_))
  refine Lib.hid ?_
  rintro e w20 ⟨rfl, hb⟩
  have H20 := Lib.hid hb
  have HW20 := Lib.hid (HW19.out.trans (hb.mono HW19.out.size))
  clear hb
  go_wp2_with fail
  go_ret
  exact ⟨rfl, hb3 ▸ HW20.out⟩
end Go.Proofs.YtmhofofidmbgfaaDoor
