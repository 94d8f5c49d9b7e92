/- FrameForms walked: the program and the document, side by side. -/
import Derived.Test.YtfbbnffinlebbaaDoorFrA
namespace Go.Proofs.YtfbbnffinlebbaaDoor
set_option linter.unusedVariables false
set_option linter.unusedSimpArgs false
open Go.RowKit

theorem split_pair (s n : Nat) (ob : Option Addr) (cb : Nat) (B : Nat → Nat) (hs : s < 4294967296) (hno : ob = none → n = 0) (hnc : n ≤ cb) (hcb : cb ≤ maxLen) :
    ∃ (N K : Nat) (F : Nat → Nat → Nat), N ≤ 255 ∧ ∀ w, Bytes w ob n B →
      (Calls Tryd.prog 8 #[.int .u32 (s : Int), .slice ob n cb] w fun e w' => ∃ o c ev, e = .returned (.tuple #[.slice o N c, ev]) ∧ Er ev K ∧ LBs w' o N (fun _ => 64) F ∧ Below w.heap.size w w') ∧
      (Calls Tryd.prog 9 #[.int .u32 (s : Int), .slice ob n cb] w fun e w' => ∃ o c, e = .returned (.tuple #[.slice o N c, .int .i64 (K : Nat)]) ∧ LBs w' o N (fun _ => 64) F ∧ Below w.heap.size w w') := by
  by_cases h : s = 0 ∨ 14280 < n
  · refine ⟨0, 1, fun _ _ => 0, by decide, fun w hB => ⟨?_, ?_⟩⟩
    · refine (split_err s n ob cb w (Nat.le_trans hnc hcb) h).mono ?_
      rintro e w' ⟨rfl, rfl⟩
      exact ⟨none, 0, _, rfl, .inr ⟨rfl, by decide⟩, LBs.zero _ _ _ _, Below.refl _ _⟩
    · refine (rsplit_err s n ob cb w (Nat.le_trans hnc hcb) h).mono ?_
      rintro e w' ⟨rfl, hb⟩
      exact ⟨none, 0, rfl, LBs.zero _ _ _ _, hb⟩
  · have h0 : s ≠ 0 := fun e => h (.inl e)
    have hn : n ≤ 14280 := by omega
    refine ⟨secN n, 0, frF s n B, secN_le hn, fun w hB => ⟨?_, ?_⟩⟩
    · refine (split_any s n ob cb B w h0 hs hB hno hnc hn).mono ?_
      rintro e w' ⟨g, rfl, hl, hb, _⟩
      exact ⟨_, _, _, rfl, .inl ⟨rfl, rfl⟩, hl, hb⟩
    · refine (rsplit_any s n ob cb B w h0 hs hB hno hnc hn).mono ?_
      rintro e w' ⟨o, c, rfl, hl, hb⟩
      exact ⟨o, c, rfl, hl, hb⟩
theorem join_pair (op : Option Addr) (q cq : Nat) (L : Nat → Nat) (G : Nat → Nat → Nat) (hqc : q ≤ cq) (hcm : cq ≤ maxLen) :
    ∃ (A C K M : Nat) (SP : ByteArray), ∀ w, LBs w op q L G →
      (Calls Tryd.prog 10 #[.slice op q cq] w fun e w' => ∃ o c ev, e = .returned (.tuple #[.int .u32 (A : Nat), .slice o M c, .int .i64 (C : Nat), ev]) ∧ CV w' o M SP ∧ Er ev K ∧ Below w.heap.size w w') ∧
      (Calls Tryd.prog 11 #[.slice op q cq] w fun e w' => ∃ o c, e = .returned (.tuple #[.int .u32 (A : Nat), .slice o M c, .int .i64 (C : Nat), .int .i64 (K : Nat)]) ∧ CV w' o M SP ∧ Below w.heap.size w w') := by
  by_cases h : JoinP q L G
  · refine ⟨seqF (G 0), G 0 5, 0, szF (G 0), strF (szF (G 0)) (bodyF G), fun w hL => ⟨?_, ?_⟩⟩
    · refine (join_any op q cq L G w hL hqc hcm).mono ?_
      rintro e w' ⟨hb, (⟨_, g, rfl, hB⟩ | ⟨h2, _⟩)⟩
      · exact ⟨_, _, _, rfl, ⟨_, hB, (fun e => by cases e), rfl⟩, .inl ⟨rfl, rfl⟩, hb⟩
      · exact absurd h h2
    · refine (rjoin_any op q cq L G w hL hqc hcm).mono ?_
      rintro e w' ⟨hb, (⟨_, o, c, rfl, hB, hn⟩ | ⟨h2, _⟩)⟩
      · exact ⟨_, _, rfl, ⟨_, hB, hn, rfl⟩, hb⟩
      · exact absurd h h2
  · refine ⟨0, 0, 4, 0, ⟨#[]⟩, fun w hL => ⟨?_, ?_⟩⟩
    · refine (join_any op q cq L G w hL hqc hcm).mono ?_
      rintro e w' ⟨hb, (⟨h2, _⟩ | ⟨_, rfl⟩)⟩
      · exact absurd h2 h
      · exact ⟨_, _, _, rfl, CV.none _, .inr ⟨rfl, by decide⟩, hb⟩
    · refine (rjoin_any op q cq L G w hL hqc hcm).mono ?_
      rintro e w' ⟨hb, (⟨h2, _⟩ | ⟨_, rfl⟩)⟩
      · exact absurd h2 h
      · exact ⟨_, _, rfl, CV.none _, hb⟩
theorem seq_pair (o : Option Addr) (m c : Nat) (F : Nat → Nat) (hm : m ≤ maxLen) :
    ∃ (A K : Nat), ∀ w, Bytes w o m F →
      (Calls Tryd.prog 12 #[.slice o m c] w fun e w' => ∃ ev, e = .returned (.tuple #[.int .u32 (A : Nat), ev]) ∧ Er ev K ∧ Below w.heap.size w w') ∧
      (Calls Tryd.prog 13 #[.slice o m c] w fun e w' => e = .returned (.tuple #[.int .u32 (A : Nat), .int .i64 (K : Nat)]) ∧ Below w.heap.size w w') := by
  by_cases h : m = 64
  · refine ⟨seqF F, 0, fun w hB => ⟨?_, ?_⟩⟩
    · refine (seq_any o m c F w hB hm).mono ?_
      rintro e w' ⟨(⟨_, rfl⟩ | ⟨h2, _⟩), hb⟩
      · exact ⟨_, rfl, .inl ⟨rfl, rfl⟩, hb⟩
      · exact absurd h h2
    · refine (rseq_any o m c F w hB hm).mono ?_
      rintro e w' ⟨(⟨_, rfl⟩ | ⟨h2, _⟩), hb⟩
      · exact ⟨rfl, hb⟩
      · exact absurd h h2
  · refine ⟨0, 4, fun w hB => ⟨?_, ?_⟩⟩
    · refine (seq_any o m c F w hB hm).mono ?_
      rintro e w' ⟨(⟨h2, _⟩ | ⟨_, rfl⟩), hb⟩
      · exact absurd h2 h
      · exact ⟨_, rfl, .inr ⟨rfl, by decide⟩, hb⟩
    · refine (rseq_any o m c F w hB hm).mono ?_
      rintro e w' ⟨(⟨h2, _⟩ | ⟨_, rfl⟩), hb⟩
      · exact absurd h2 h
      · exact ⟨rfl, hb⟩
theorem sec_pair (x : Int) (h : x ≤ 9223372036854775807) :
    ∃ K : Int, ∀ w, (Calls Tryd.prog 16 #[.int .i64 x] w fun e w' => e = .returned (.int .i64 K) ∧ Below w.heap.size w w') ∧
      (Calls Tryd.prog 17 #[.int .i64 x] w fun e w' => e = .returned (.int .i64 K) ∧ Below w.heap.size w w') := by
  by_cases h0 : x < 0
  · refine ⟨0, fun w => ⟨?_, rsectors_neg x w h0⟩⟩
    refine (sectors_neg x w h0).mono ?_
    rintro e w' ⟨rfl, rfl⟩
    exact ⟨rfl, Below.refl _ _⟩
  · obtain ⟨n, rfl⟩ := Int.eq_ofNat_of_zero_le (show 0 ≤ x by omega)
    refine ⟨(secO n : Nat), fun w => ⟨?_, rsectors_any n w (by omega)⟩⟩
    refine (sectors_any n w (by omega)).mono ?_
    rintro e w' ⟨rfl, rfl⟩
    exact ⟨rfl, Below.refl _ _⟩
set_option maxRecDepth 100000 in
set_option maxHeartbeats 16000000 in
theorem forms_any (s n cb m cm : Nat) (ob om : Option Addr) (B : Nat → Nat) (LM : Nat → Nat) (GM : Nat → Nat → Nat) (w : World) (hg : Handle w) (hs : s < 4294967296) (hB : Bytes w ob n B) (hno : ob = none → n = 0) (hnc : n ≤ cb) (hcb : cb ≤ maxLen)
    (hM : LBs w om m LM GM) (hmn : om = none → m = 0) (hmc : m ≤ cm) (hcm : cm ≤ maxLen) :
    Calls Tryd.prog 3 #[.int .u32 (s : Int), .slice ob n cb, .slice om m cm] w fun e w' => e = .returned (.bool true) ∧ Below w.heap.size w w' := by
  have HSU : Hid (∀ w', Below w.heap.size w w' → Calls Tryd.prog 7 #[] w' fun e w'' => e = .returned (.bool true) ∧ Below w'.heap.size w' w'') := Lib.hid fun w' hb => sure14 w' (hg.below hb hg.2)
  have HG := Lib.hid hg
  obtain ⟨N, K1, FF, hN255, hs1⟩ := split_pair s n ob cb B hs hno hnc hcb
  obtain ⟨A, C, K2, M, SP, hj1⟩ := join_pair om m cm LM GM hmc hcm
  have HS1 := Lib.hid hs1
  have HJ1 := Lib.hid hj1
  have HN255 := Lib.hid hN255
  have HNM := Lib.hid (show n ≤ cb ∧ cb ≤ maxLen ∧ m ≤ cm ∧ cm ≤ maxLen ∧ m ≤ maxLen from ⟨hnc, hcb, hmc, hcm, Nat.le_trans hmc hcm⟩)
  have HBY : Hid (∀ w', Below w.heap.size w w' → Bytes w' ob n B) := Lib.hid fun w' h => hB.later h
  have HML : Hid (∀ w', Below w.heap.size w w' → LBs w' om m LM GM) := Lib.hid fun w' h => hM.later h
  have n0 : (n : Int) ≤ 9223372036854775807 := by unfold maxLen at hcb; omega
  have m0 : (m : Int) ≤ 9223372036854775807 := by unfold maxLen at hcm; omega
  obtain ⟨X, hX⟩ : ∃ x, (s : Int) - 100 = x := ⟨_, rfl⟩
  have x1 : IntKind.i64.wrap (s : Int) = (s : Int) := IntWalk.i64_in _ (by omega)
  have x2 : IntKind.i64.wrap X = X := IntWalk.i64_in _ (by omega)
  obtain ⟨KS, hsc⟩ := sec_pair X (by omega)
  have HSC := Lib.hid hsc
  have HSM := Lib.hid (small_any om m cm LM GM w (HML.out _ (Below.refl _ _)) (Nat.le_trans hmc hcm))
  clear hg hs hno hnc hcb hB hM hmn hmc hcm hs1 hj1 hN255 hsc
  by_cases h9 : 900 < n
  · have z2 : (900 : Int) < (n : Int) := by omega
    by_cases h8 : n ≤ 14280
    · have z3 : (n : Int) ≤ 14280 := by omega
      clear h8 h9
      go_enter Tryd.func3, Tryd.ntmps3
      go_wp2_with fail
      refine (HSU.out w (Below.refl w.heap.size w)).mono ?_
      rintro e ws ⟨rfl, hbs⟩
      have HBS := Lib.hid (((Below.refl w.heap.size w)).trans (hbs.mono ((Below.refl w.heap.size w)).size))
      clear hbs
      go_wp2_with fail
      go_ret
      exact ⟨rfl, HBS.out⟩
    · have z3 : ¬ (n : Int) ≤ 14280 := by omega
      have z4 : decide ((n : Int) ≤ 14280) = false := decide_eq_false z3
      clear h8 h9
      go_enter Tryd.func3, Tryd.ntmps3
      go_wp2_with fail
      refine HSM.out.mono ?_
      rintro e w1 ⟨(⟨rfl, hm30, _⟩ | rfl), hb1⟩
      rotate_left
      · have HB1 := Lib.hid hb1
        clear hb1 HSM
        go_wp2_with fail
        refine (HSU.out w1 HB1.out).mono ?_
        rintro e ws ⟨rfl, hbs⟩
        have HBS := Lib.hid ((HB1.out).trans (hbs.mono (HB1.out).size))
        clear hbs
        go_wp2_with fail
        go_ret
        exact ⟨rfl, HBS.out⟩
      have H1 := Lib.hid hb1
      clear hb1 hm30 HSM
      go_wp2_with fail
      refine (HS1.out w1 (HBY.out _ H1.out)).1.mono ?_
      rintro e w2 ⟨o1, c1, e1, rfl, her1, hl1, hb⟩
      have H2 := Lib.hid (H1.out.trans (hb.mono H1.out.size))
      have HE1 := Lib.hid her1
      have HX2 := Lib.hid hl1
      clear hb her1 hl1
      go_wp2_with fail
      refine (HS1.out w2 (HBY.out _ H2.out)).2.mono ?_
      rintro e w3 ⟨o2, c2, rfl, hl2, hb⟩
      have H3 := Lib.hid (H2.out.trans (hb.mono H2.out.size))
      have HX3 := Lib.hid (HX2.out.later hb)
      have HY3 := Lib.hid hl2
      clear hb hl2 HX2
      go_wp2_with fail
      refine (HJ1.out w3 (HML.out _ H3.out)).1.mono ?_
      rintro e w4 ⟨o3, c3, e3, rfl, hcv, her3, hb⟩
      have H4 := Lib.hid (H3.out.trans (hb.mono H3.out.size))
      have HX4 := Lib.hid (HX3.out.later hb)
      have HY4 := Lib.hid (HY3.out.later hb)
      have HE3 := Lib.hid her3
      have HC4 := Lib.hid hcv
      clear hb hcv her3 HX3 HY3
      go_wp2_with fail
      refine (HJ1.out w4 (HML.out _ H4.out)).2.mono ?_
      rintro e w5 ⟨o4, c4, rfl, hcv, hb⟩
      have H5 := Lib.hid (H4.out.trans (hb.mono H4.out.size))
      have HX5 := Lib.hid (HX4.out.later hb)
      have HY5 := Lib.hid (HY4.out.later hb)
      have HC5 := Lib.hid (HC4.out.later hb)
      have HD5 := Lib.hid hcv
      clear hb hcv HX4 HY4 HC4
      go_wp2_with fail
      go_loopw [19] (fun x wr => ∃ i : Nat, i ≤ m ∧ x = .int .i64 (i : Int) ∧ Below w5.heap.size w5 wr) (fun x _ => m - (intOf x).toNat)
      case atStart => exact ⟨0, Nat.zero_le _, rfl, Below.refl _ _⟩
      case round =>
        obtain ⟨i, hi, rfl, hX⟩ := hrel
        have HW := Lib.hid hX
        have HWW := Lib.hid (H5.out.trans (hX.mono H5.out.size))
        clear hX
        by_cases hlt : i < m
        · as_aux_lemma =>
          have i1 : (i : Int) < (m : Int) := by omega
          have i0 : (0 : Int) ≤ (i : Int) := by omega
          have HI := Lib.hid hlt
          have k4 : IntKind.i64.wrap ((i : Int) + 1) = ((i + 1 : Nat) : Int) := by have := HNM.out.2.2.2.2; unfold maxLen at this; rw [IntWalk.i64_in _ (by omega)]; omega
          obtain ⟨b, off, od, cp, rfl, ci, hlc, hbd, hod, hcp⟩ := HML.out w (Below.refl _ _) i hlt
          have HBD : Hid (∀ w', Below w.heap.size w w' → Bytes w' od (LM i) (GM i)) := Lib.hid fun w' h => hbd.later h
          obtain ⟨A, K, hsp⟩ := seq_pair od (LM i) cp (GM i) (Nat.le_trans hlc hcp)
          have HSP := Lib.hid hsp
          have d1 : wr.cell? ⟨b, off + i, none⟩ = some (.slice od (LM i) cp) := cell_below HWW.out ci
          have HCI := Lib.hid ci
          clear hlc hbd hod hcp hsp ci hlt hi
          go_wp2_with fail
          refine (HSP.out wr (HBD.out _ HWW.out)).1.mono ?_
          rintro e w6 ⟨ev, rfl, her, hb⟩
          have H6 := Lib.hid (HW.out.trans (hb.mono HW.out.size))
          have HW6 := Lib.hid (HWW.out.trans (hb.mono HWW.out.size))
          have HER := Lib.hid her
          have d1 : w6.cell? ⟨b, off + i, none⟩ = some (.slice od (LM i) cp) := cell_below HW6.out HCI.out
          clear hb her
          go_wp2_with fail
          refine (HSP.out w6 (HBD.out _ HW6.out)).2.mono ?_
          rintro e w7 ⟨rfl, hb⟩
          have H7 := Lib.hid (H6.out.trans (hb.mono H6.out.size))
          have HW7 := Lib.hid (HW6.out.trans (hb.mono HW6.out.size))
          have HNU := Lib.hid (er_any ev K w7 HER.out (HG.out.below HW7.out HG.out.2))
          clear hb d1
          go_wp2_with fail
          refine HNU.out.mono ?_
          rintro e w8 ⟨rfl, hb⟩
          have H8 := Lib.hid (H7.out.trans (hb.mono H7.out.size))
          clear hb HNU
          go_wp2_with fail
          go_roundw
          case rel => exact ⟨i + 1, HI.out, by first | rfl | go_num, H8.out⟩
          case measure => have := HI.out; simp [intOf]; omega
        · obtain rfl : i = m := by omega
          have i1 : ¬ (i : Int) < (i : Int) := by omega
          have HL6 := Lib.hid (lists_any o1 o2 N c1 c2 (fun _ => 64) FF wr (HX5.out.later HW.out) (HY5.out.later HW.out) (by have := HN255.out; unfold maxLen; omega))
          clear hlt hi
          go_wp2_with fail
          refine HL6.out.mono ?_
          rintro e w6 ⟨rfl, hb⟩
          have H6 := Lib.hid (HW.out.trans (hb.mono HW.out.size))
          have HW6 := Lib.hid (HWW.out.trans (hb.mono HWW.out.size))
          have HNU := Lib.hid (er_any e1 K1 w6 HE1.out (HG.out.below HW6.out HG.out.2))
          clear hb HL6
          go_wp2_with fail
          refine HNU.out.mono ?_
          rintro e w7 ⟨rfl, hb⟩
          have H7 := Lib.hid (H6.out.trans (hb.mono H6.out.size))
          have HW7 := Lib.hid (HW6.out.trans (hb.mono HW6.out.size))
          have g1 : (convert 23 9 (.slice o3 M c3)).run Tryd.prog w7 = .ok (.string SP) w7 := (HC5.out.later H7.out).conv
          have g2 : (convert 23 9 (.slice o4 M c4)).run Tryd.prog w7 = .ok (.string SP) w7 := (HD5.out.later H7.out).conv
          have HNV := Lib.hid (er_any e3 K2 w7 HE3.out (HG.out.below HW7.out HG.out.2))
          clear hb HNU
          go_wp2_with fail
          refine HNV.out.mono ?_
          rintro e w8 ⟨rfl, hb⟩
          have HW8 := Lib.hid (HW7.out.trans (hb.mono HW7.out.size))
          clear hb HNV g1 g2
          go_wp2_with fail
          refine (HSC.out w8).1.mono ?_
          rintro e w9 ⟨rfl, hb⟩
          have HW9 := Lib.hid (HW8.out.trans (hb.mono HW8.out.size))
          clear hb
          go_wp2_with fail
          refine (HSC.out w9).2.mono ?_
          rintro e w10 ⟨rfl, hb⟩
          have HW10 := Lib.hid (HW9.out.trans (hb.mono HW9.out.size))
          clear hb
          go_wp2_with fail
          refine (HSU.out w10 HW10.out).mono ?_
          rintro e ws ⟨rfl, hbs⟩
          have HBS := Lib.hid ((HW10.out).trans (hbs.mono (HW10.out).size))
          clear hbs
          go_wp2_with fail
          go_ret
          exact ⟨rfl, HBS.out⟩
  · have z2 : ¬ (900 : Int) < (n : Int) := by omega
    have z4 : decide ((900 : Int) < (n : Int)) = false := decide_eq_false z2
    clear h9
    go_enter Tryd.func3, Tryd.ntmps3
    go_wp2_with fail
    refine HSM.out.mono ?_
    rintro e w1 ⟨(⟨rfl, hm30, _⟩ | rfl), hb1⟩
    rotate_left
    · have HB1 := Lib.hid hb1
      clear hb1 HSM
      go_wp2_with fail
      refine (HSU.out w1 HB1.out).mono ?_
      rintro e ws ⟨rfl, hbs⟩
      have HBS := Lib.hid ((HB1.out).trans (hbs.mono (HB1.out).size))
      clear hbs
      go_wp2_with fail
      go_ret
      exact ⟨rfl, HBS.out⟩
    have H1 := Lib.hid hb1
    clear hb1 hm30 HSM
    go_wp2_with fail
    refine (HS1.out w1 (HBY.out _ H1.out)).1.mono ?_
    rintro e w2 ⟨o1, c1, e1, rfl, her1, hl1, hb⟩
    have H2 := Lib.hid (H1.out.trans (hb.mono H1.out.size))
    have HE1 := Lib.hid her1
    have HX2 := Lib.hid hl1
    clear hb her1 hl1
    go_wp2_with fail
    refine (HS1.out w2 (HBY.out _ H2.out)).2.mono ?_
    rintro e w3 ⟨o2, c2, rfl, hl2, hb⟩
    have H3 := Lib.hid (H2.out.trans (hb.mono H2.out.size))
    have HX3 := Lib.hid (HX2.out.later hb)
    have HY3 := Lib.hid hl2
    clear hb hl2 HX2
    go_wp2_with fail
    refine (HJ1.out w3 (HML.out _ H3.out)).1.mono ?_
    rintro e w4 ⟨o3, c3, e3, rfl, hcv, her3, hb⟩
    have H4 := Lib.hid (H3.out.trans (hb.mono H3.out.size))
    have HX4 := Lib.hid (HX3.out.later hb)
    have HY4 := Lib.hid (HY3.out.later hb)
    have HE3 := Lib.hid her3
    have HC4 := Lib.hid hcv
    clear hb hcv her3 HX3 HY3
    go_wp2_with fail
    refine (HJ1.out w4 (HML.out _ H4.out)).2.mono ?_
    rintro e w5 ⟨o4, c4, rfl, hcv, hb⟩
    have H5 := Lib.hid (H4.out.trans (hb.mono H4.out.size))
    have HX5 := Lib.hid (HX4.out.later hb)
    have HY5 := Lib.hid (HY4.out.later hb)
    have HC5 := Lib.hid (HC4.out.later hb)
    have HD5 := Lib.hid hcv
    clear hb hcv HX4 HY4 HC4
    go_wp2_with fail
    go_loopw [19] (fun x wr => ∃ i : Nat, i ≤ m ∧ x = .int .i64 (i : Int) ∧ Below w5.heap.size w5 wr) (fun x _ => m - (intOf x).toNat)
    case atStart => exact ⟨0, Nat.zero_le _, rfl, Below.refl _ _⟩
    case round =>
      obtain ⟨i, hi, rfl, hX⟩ := hrel
      have HW := Lib.hid hX
      have HWW := Lib.hid (H5.out.trans (hX.mono H5.out.size))
      clear hX
      by_cases hlt : i < m
      · as_aux_lemma =>
        have i1 : (i : Int) < (m : Int) := by omega
        have i0 : (0 : Int) ≤ (i : Int) := by omega
        have HI := Lib.hid hlt
        have k4 : IntKind.i64.wrap ((i : Int) + 1) = ((i + 1 : Nat) : Int) := by have := HNM.out.2.2.2.2; unfold maxLen at this; rw [IntWalk.i64_in _ (by omega)]; omega
        obtain ⟨b, off, od, cp, rfl, ci, hlc, hbd, hod, hcp⟩ := HML.out w (Below.refl _ _) i hlt
        have HBD : Hid (∀ w', Below w.heap.size w w' → Bytes w' od (LM i) (GM i)) := Lib.hid fun w' h => hbd.later h
        obtain ⟨A, K, hsp⟩ := seq_pair od (LM i) cp (GM i) (Nat.le_trans hlc hcp)
        have HSP := Lib.hid hsp
        have d1 : wr.cell? ⟨b, off + i, none⟩ = some (.slice od (LM i) cp) := cell_below HWW.out ci
        have HCI := Lib.hid ci
        clear hlc hbd hod hcp hsp ci hlt hi
        go_wp2_with fail
        refine (HSP.out wr (HBD.out _ HWW.out)).1.mono ?_
        rintro e w6 ⟨ev, rfl, her, hb⟩
        have H6 := Lib.hid (HW.out.trans (hb.mono HW.out.size))
        have HW6 := Lib.hid (HWW.out.trans (hb.mono HWW.out.size))
        have HER := Lib.hid her
        have d1 : w6.cell? ⟨b, off + i, none⟩ = some (.slice od (LM i) cp) := cell_below HW6.out HCI.out
        clear hb her
        go_wp2_with fail
        refine (HSP.out w6 (HBD.out _ HW6.out)).2.mono ?_
        rintro e w7 ⟨rfl, hb⟩
        have H7 := Lib.hid (H6.out.trans (hb.mono H6.out.size))
        have HW7 := Lib.hid (HW6.out.trans (hb.mono HW6.out.size))
        have HNU := Lib.hid (er_any ev K w7 HER.out (HG.out.below HW7.out HG.out.2))
        clear hb d1
        go_wp2_with fail
        refine HNU.out.mono ?_
        rintro e w8 ⟨rfl, hb⟩
        have H8 := Lib.hid (H7.out.trans (hb.mono H7.out.size))
        clear hb HNU
        go_wp2_with fail
        go_roundw
        case rel => exact ⟨i + 1, HI.out, by first | rfl | go_num, H8.out⟩
        case measure => have := HI.out; simp [intOf]; omega
      · obtain rfl : i = m := by omega
        have i1 : ¬ (i : Int) < (i : Int) := by omega
        have HL6 := Lib.hid (lists_any o1 o2 N c1 c2 (fun _ => 64) FF wr (HX5.out.later HW.out) (HY5.out.later HW.out) (by have := HN255.out; unfold maxLen; omega))
        clear hlt hi
        go_wp2_with fail
        refine HL6.out.mono ?_
        rintro e w6 ⟨rfl, hb⟩
        have H6 := Lib.hid (HW.out.trans (hb.mono HW.out.size))
        have HW6 := Lib.hid (HWW.out.trans (hb.mono HWW.out.size))
        have HNU := Lib.hid (er_any e1 K1 w6 HE1.out (HG.out.below HW6.out HG.out.2))
        clear hb HL6
        go_wp2_with fail
        refine HNU.out.mono ?_
        rintro e w7 ⟨rfl, hb⟩
        have H7 := Lib.hid (H6.out.trans (hb.mono H6.out.size))
        have HW7 := Lib.hid (HW6.out.trans (hb.mono HW6.out.size))
        have g1 : (convert 23 9 (.slice o3 M c3)).run Tryd.prog w7 = .ok (.string SP) w7 := (HC5.out.later H7.out).conv
        have g2 : (convert 23 9 (.slice o4 M c4)).run Tryd.prog w7 = .ok (.string SP) w7 := (HD5.out.later H7.out).conv
        have HNV := Lib.hid (er_any e3 K2 w7 HE3.out (HG.out.below HW7.out HG.out.2))
        clear hb HNU
        go_wp2_with fail
        refine HNV.out.mono ?_
        rintro e w8 ⟨rfl, hb⟩
        have HW8 := Lib.hid (HW7.out.trans (hb.mono HW7.out.size))
        clear hb HNV g1 g2
        go_wp2_with fail
        refine (HSC.out w8).1.mono ?_
        rintro e w9 ⟨rfl, hb⟩
        have HW9 := Lib.hid (HW8.out.trans (hb.mono HW8.out.size))
        clear hb
        go_wp2_with fail
        refine (HSC.out w9).2.mono ?_
        rintro e w10 ⟨rfl, hb⟩
        have HW10 := Lib.hid (HW9.out.trans (hb.mono HW9.out.size))
        clear hb
        go_wp2_with fail
        refine (HSU.out w10 HW10.out).mono ?_
        rintro e ws ⟨rfl, hbs⟩
        have HBS := Lib.hid ((HW10.out).trans (hbs.mono (HW10.out).size))
        clear hbs
        go_wp2_with fail
        go_ret
        exact ⟨rfl, HBS.out⟩
end Go.Proofs.YtfbbnffinlebbaaDoor
