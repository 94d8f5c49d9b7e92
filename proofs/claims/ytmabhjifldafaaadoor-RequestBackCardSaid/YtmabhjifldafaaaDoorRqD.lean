/- RequestBack walked. -/
import Derived.Test.YtmabhjifldafaaaDoorRqB
import Derived.Test.YtmabhjifldafaaaDoorRqC
namespace Go.Proofs.YtmabhjifldafaaaDoor
set_option linter.unusedVariables false
set_option linter.unusedSimpArgs false
open Go.RowKit

set_option maxRecDepth 100000 in
set_option maxHeartbeats 8000000 in
theorem reqback_any (z : Int) (ot : Option Addr) (nt ct : Nat) (T : Nat → Nat) (S : ByteArray) (oa : Option Addr) (q ca : Nat) (L : Nat → Nat) (G : Nat → Nat → Nat) (zs : Int) (os : Option Addr) (qs cs : Nat) (Ls : Nat → Nat) (Gs : Nat → Nat → Nat) (ob : Option Addr) (n cn : Nat) (B : Nat → Nat) (w : World)
    (h1 : -9223372036854775808 ≤ z) (h2 : z ≤ 9223372036854775807) (h3 : -9223372036854775808 ≤ zs) (h4 : zs ≤ 9223372036854775807)
    (hT : Bytes w ot nt T) (hnt : nt ≤ ct) (hct : ct ≤ maxLen) (hno : ot = none → nt = 0) (hL : LBs w oa q L G) (hq : q ≤ ca) (hca : ca ≤ maxLen) (hqo : oa = none → q = 0) (hS : S.size ≤ maxLen)
    (hLs : LBs w os qs Ls Gs) (hqs : qs ≤ cs) (hcs : cs ≤ maxLen) (hqso : os = none → qs = 0) (hB : Bytes w ob n B) (hbo : ob = none → n = 0) (hn : n ≤ cn) (hcn : cn ≤ maxLen) (hg : HNV w) :
    Calls Tryd.prog 5 #[.agg #[.int .i64 z, .slice ot nt ct, .string S, .slice oa q ca], .agg #[.int .i64 zs, .slice os qs cs], .slice ob n cn] w fun e w' => e = .returned (.bool true) ∧ Below w.heap.size w w' := by
  obtain ⟨zq, hzq⟩ : ∃ x, qz n B = x := ⟨_, rfl⟩
  obtain ⟨nq, hnq⟩ : ∃ x, qn n B = x := ⟨_, rfl⟩
  obtain ⟨Sq, hSq⟩ : ∃ x, qS n B = x := ⟨_, rfl⟩
  obtain ⟨qr, hqr⟩ : ∃ x, qq n B = x := ⟨_, rfl⟩
  obtain ⟨kq, hkq⟩ : ∃ x, dqE n B = x := ⟨_, rfl⟩
  obtain ⟨Tq, hTq⟩ : ∃ x, dG B 1 = x := ⟨_, rfl⟩
  obtain ⟨Lq, hLq⟩ : ∃ x : Nat → Nat, (fun i => fl B (3 + i)) = x := ⟨_, rfl⟩
  obtain ⟨Gq, hGq⟩ : ∃ x : Nat → Nat → Nat, (fun i => dG B (3 + i)) = x := ⟨_, rfl⟩
  have HD1 : Hid (∀ w, Bytes w ob n B → Calls Tryd.prog 24 #[.slice ob n cn] w fun e w' => ∃ r v, e = .returned (.tuple #[r, v]) ∧ QV w' r zq nq Tq Sq qr Lq Gq ∧ Er v kq ∧ Below w.heap.size w w') := Lib.hid fun w h => by
    have h1 := dec_q ob n cn B w h hn hcn
    rw [hzq, hnq, hSq, hqr, hkq, hTq, hLq, hGq] at h1; exact h1
  have HZQ : Hid ((-9223372036854775808 : Int) ≤ (zq : Int) ∧ (zq : Int) ≤ 9223372036854775807 ∧ (∀ i, i < qr → Lq i ≤ 100000) ∧ Sq.size ≤ maxLen) := Lib.hid (by
    have hb256 : ∀ k, k < n → B k < 256 := fun k hk => (hB k hk).1
    by_cases hd : DQ n B
    · have hbl : ∀ i, i < B 0 → fl B i ≤ 1024 := fun i hi => by have h1 := hd.1.at hi; have := hd.1.2.1; omega
      have h0 : zq < 256 := by rw [← hzq]; unfold qz; rw [if_pos hd]; exact hb256 _ (by have h1 := hd.1.at (i := 0) (by have := hd.2.1; omega); have := hd.2.2.1; omega)
      refine ⟨by omega, by omega, fun i hi => ?_, ?_⟩
      · rw [← hqr] at hi; unfold qq at hi; rw [if_pos hd] at hi; rw [← hLq]; have := hbl (3 + i) (by omega); show fl B (3 + i) ≤ _; omega
      · rw [← hSq]; unfold qS; rw [if_pos hd, strF_size]; have := hbl 2 (by have := hd.2.1; omega); unfold maxLen; omega
    · have e1 : zq = 0 := by rw [← hzq]; exact if_neg hd
      have e2 : qr = 0 := by rw [← hqr]; exact if_neg hd
      have e3 : Sq = ⟨#[]⟩ := by rw [← hSq]; exact if_neg hd
      subst e1 e2 e3
      exact ⟨by omega, by omega, fun i hi => absurd hi (Nat.not_lt_zero _), Nat.zero_le _⟩)
  have HTQ : Hid ((kq = 0 ∧ rqS zq nq Tq Sq qr Lq Gq = strF n B ∧ rqK zq nq Sq qr Lq = 0) ∨ (kq ≠ 0 ∧ zq = 0)) := Lib.hid (by
    by_cases h0 : kq = 0
    · have h1 := told_q (B := B) (n := n) (fun k hk => (hB k hk).1) (by rw [hkq]; exact h0)
      rw [hzq, hnq, hSq, hqr, hTq, hLq, hGq] at h1
      exact .inl ⟨h0, h1.1, h1.2⟩
    · exact .inr ⟨h0, by rw [← hzq]; exact not_dq (by rw [hkq]; exact h0)⟩)
  clear hzq hnq hSq hqr hkq hTq hLq hGq
  have HBO := Lib.hid hbo
  have HG := Lib.hid hg
  have HT : Hid (∀ w', Below w.heap.size w w' → Bytes w' ot nt T) := Lib.hid fun w' h => hT.later h
  have HL : Hid (∀ w', Below w.heap.size w w' → LBs w' oa q L G) := Lib.hid fun w' h => hL.later h
  have HLs : Hid (∀ w', Below w.heap.size w w' → LBs w' os qs Ls Gs) := Lib.hid fun w' h => hLs.later h
  have HB : Hid (∀ w', Below w.heap.size w w' → Bytes w' ob n B) := Lib.hid fun w' h => hB.later h
  have HN : Hid (nt ≤ ct ∧ ct ≤ maxLen ∧ (ot = none → nt = 0) ∧ q ≤ ca ∧ ca ≤ maxLen ∧ (oa = none → q = 0) ∧ qs ≤ cs ∧ cs ≤ maxLen ∧ (os = none → qs = 0) ∧ n ≤ cn ∧ cn ≤ maxLen ∧ S.size ≤ maxLen) := Lib.hid ⟨hnt, hct, hno, hq, hca, hqo, hqs, hcs, hqso, hn, hcn, hS⟩
  have HZ : Hid (-9223372036854775808 ≤ z ∧ z ≤ 9223372036854775807 ∧ -9223372036854775808 ≤ zs ∧ zs ≤ 9223372036854775807) := Lib.hid ⟨h1, h2, h3, h4⟩
  have n0 : (nt : Int) ≤ 9223372036854775807 := by unfold maxLen at hct; omega
  have n1 : (S.size : Int) ≤ 9223372036854775807 := by unfold maxLen at hS; omega
  have n2 : (n : Int) ≤ 9223372036854775807 := by unfold maxLen at hcn; omega
  obtain ⟨wa, hwa⟩ : ∃ x, w.alloc (.cells #[.int .i64 z, .slice ot nt ct, .string S, .slice oa q ca] 36) = x := ⟨_, rfl⟩
  obtain ⟨wb, hwb⟩ : ∃ x, wa.alloc (.cells #[.int .i64 zs, .slice os qs cs] 38) = x := ⟨_, rfl⟩
  have hba : Below w.heap.size w wa := by rw [← hwa]; exact (Below.refl _ _).alloc (Nat.le_refl _) _
  have hbb : Below wa.heap.size wa wb := by rw [← hwb]; exact (Below.refl _ _).alloc (Nat.le_refl _) _
  have hB3 : Blk wa w.heap.size #[.int .i64 z, .slice ot nt ct, .string S, .slice oa q ca] 36 := by rw [← hwa]; exact Blk.new _ _ _
  have hB4 : Blk wb wa.heap.size #[.int .i64 zs, .slice os qs cs] 38 := by rw [← hwb]; exact Blk.new _ _ _
  have K1 : Hid (Blk wb w.heap.size #[.int .i64 z, .slice ot nt ct, .string S, .slice oa q ca] 36 ∧ Blk wb wa.heap.size #[.int .i64 zs, .slice os qs cs] 38 ∧ Below w.heap.size w wb) := Lib.hid ⟨Blk.below hB3 hbb (Blk.lt hB3), hB4, hba.trans (hbb.mono hba.size)⟩
  clear hba hbb hB3 hB4 hT hL hLs hB hnt hct hno hq hca hqo hqs hcs hqso hn hcn hS hg h1 h2 h3 h4
  have a33 : wb.cell? ⟨w.heap.size, 3, none⟩ = some (.slice oa q ca) := by rw [Blk.cell (K1.out.1)]; rfl
  go_enter Tryd.func5, Tryd.ntmps5
  go_wp2_with fail
  refine (big_any32 oa q ca L G wb (HL.out _ (K1.out.2.2)) (by have := HN.out; omega)).mono ?_
  rintro e w1 ⟨hb1, hr1⟩
  have K2 : Hid (Blk w1 w.heap.size #[.int .i64 z, .slice ot nt ct, .string S, .slice oa q ca] 36 ∧ Blk w1 wa.heap.size #[.int .i64 zs, .slice os qs cs] 38 ∧ Below w.heap.size w w1) := Lib.hid ⟨Blk.below (K1.out.1) hb1 (Blk.lt (K1.out.1)), Blk.below (K1.out.2.1) hb1 (Blk.lt (K1.out.2.1)), (K1.out.2.2).trans (hb1.mono (K1.out.2.2).size)⟩
  clear K1
  clear hb1 a33 hwa hwb
  rcases hr1 with rfl | ⟨rfl, hq40, hl3⟩
  · have h0 : True := trivial
    go_wp2_with fail
    refine (req_sure w1 (HG.out.later (K2.out.2.2))).mono ?_
    rintro e we ⟨rfl, hbe⟩
    have HO := Lib.hid ((K2.out.2.2).trans (hbe.mono (K2.out.2.2).size))
    clear hbe
    go_wp2_with fail
    go_ret
    exact ⟨rfl, HO.out⟩
  · skip
    have a41 : w1.cell? ⟨wa.heap.size, 1, none⟩ = some (.slice os qs cs) := by rw [Blk.cell (K2.out.2.1)]; rfl
    have HQ : Hid (q ≤ 40 ∧ ∀ i, i < q → L i ≤ 100000) := Lib.hid ⟨hq40, fun i hi => by have := hl3 i hi; omega⟩
    have HQ3 : Hid (∀ i, i < q → L i ≤ 60000) := Lib.hid fun i hi => by have := hl3 i hi; omega
    clear hq40 hl3
    go_wp2_with fail
    refine (big_any32 os qs cs Ls Gs w1 (HLs.out _ (K2.out.2.2)) (by have := HN.out; omega)).mono ?_
    rintro e w2 ⟨hb2, hr2⟩
    have K3 : Hid (Blk w2 w.heap.size #[.int .i64 z, .slice ot nt ct, .string S, .slice oa q ca] 36 ∧ Blk w2 wa.heap.size #[.int .i64 zs, .slice os qs cs] 38 ∧ Below w.heap.size w w2) := Lib.hid ⟨Blk.below (K2.out.1) hb2 (Blk.lt (K2.out.1)), Blk.below (K2.out.2.1) hb2 (Blk.lt (K2.out.2.1)), (K2.out.2.2).trans (hb2.mono (K2.out.2.2).size)⟩
    clear K2
    clear hb2 a41
    rcases hr2 with rfl | ⟨rfl, hq40, hl3⟩
    · have h0 : True := trivial
      go_wp2_with fail
      refine (req_sure w2 (HG.out.later (K3.out.2.2))).mono ?_
      rintro e we ⟨rfl, hbe⟩
      have HO := Lib.hid ((K3.out.2.2).trans (hbe.mono (K3.out.2.2).size))
      clear hbe
      go_wp2_with fail
      go_ret
      exact ⟨rfl, HO.out⟩
    · skip
      have a31 : w2.cell? ⟨w.heap.size, 1, none⟩ = some (.slice ot nt ct) := by rw [Blk.cell (K3.out.1)]; rfl
      have a32 : w2.cell? ⟨w.heap.size, 2, none⟩ = some (.string S) := by rw [Blk.cell (K3.out.1)]; rfl
      have HQs : Hid (qs ≤ 1000 ∧ ∀ i, i < qs → Ls i ≤ 100000) := Lib.hid ⟨by omega, fun i hi => by have := hl3 i hi; omega⟩
      have HQs3 : Hid (∀ i, i < qs → Ls i ≤ 60000) := Lib.hid fun i hi => by have := hl3 i hi; omega
      clear hq40 hl3
      have hcs : (200 : Int) < (nt : Int) ∨ (¬ (200 : Int) < (nt : Int) ∧ (200 : Int) < (S.size : Int)) ∨ (¬ (200 : Int) < (nt : Int) ∧ ¬ (200 : Int) < (S.size : Int) ∧ (3000 : Int) < (n : Int)) ∨ (¬ (200 : Int) < (nt : Int) ∧ ¬ (200 : Int) < (S.size : Int) ∧ ¬ (3000 : Int) < (n : Int)) := by omega
      rcases hcs with g1 | ⟨g1, g2⟩ | ⟨g1, g2, g3⟩ | ⟨g1, g2, g3⟩
      · have h0 : True := trivial
        go_wp2_with fail
        refine (req_sure w2 (HG.out.later (K3.out.2.2))).mono ?_
        rintro e we ⟨rfl, hbe⟩
        have HO := Lib.hid ((K3.out.2.2).trans (hbe.mono (K3.out.2.2).size))
        clear hbe
        go_wp2_with fail
        go_ret
        exact ⟨rfl, HO.out⟩
      · have h0 : True := trivial
        go_wp2_with fail
        refine (req_sure w2 (HG.out.later (K3.out.2.2))).mono ?_
        rintro e we ⟨rfl, hbe⟩
        have HO := Lib.hid ((K3.out.2.2).trans (hbe.mono (K3.out.2.2).size))
        clear hbe
        go_wp2_with fail
        go_ret
        exact ⟨rfl, HO.out⟩
      · have h0 : True := trivial
        go_wp2_with fail
        refine (req_sure w2 (HG.out.later (K3.out.2.2))).mono ?_
        rintro e we ⟨rfl, hbe⟩
        have HO := Lib.hid ((K3.out.2.2).trans (hbe.mono (K3.out.2.2).size))
        clear hbe
        go_wp2_with fail
        go_ret
        exact ⟨rfl, HO.out⟩
      · skip
        go_wp2_with (first | (refine wpList_load_row rfl 36 (.tmp 3) rfl w.heap.size rfl 36 #[.int .i64 z, .slice ot nt ct, .string S, .slice oa q ca] (0, 0) _ (K3.out.1) Tryd.underlying36 rfl (infoR2 _ rfl) ?_))
        refine (rq_enc z ot oa nt ct q ca S T L G w2 HZ.out.1 HZ.out.2.1 (HT.out _ (K3.out.2.2)) HN.out.1 HN.out.2.1 HN.out.2.2.1 (HL.out _ (K3.out.2.2)) HN.out.2.2.2.1 HN.out.2.2.2.2.1 HN.out.2.2.2.2.2.1 HQ.out.2 HN.out.2.2.2.2.2.2.2.2.2.2.2).mono ?_
        rintro e w3 ⟨o7, m7, c7, v8, rfl, x7, xm7, xc7, hr8, hb3⟩
        have K4 : Hid (Blk w3 w.heap.size #[.int .i64 z, .slice ot nt ct, .string S, .slice oa q ca] 36 ∧ Blk w3 wa.heap.size #[.int .i64 zs, .slice os qs cs] 38 ∧ Below w.heap.size w w3 ∧ CV w3 o7 m7 (rqS z nt T S q L G)) := Lib.hid ⟨Blk.below (K3.out.1) hb3 (Blk.lt (K3.out.1)), Blk.below (K3.out.2.1) hb3 (Blk.lt (K3.out.2.1)), (K3.out.2.2).trans (hb3.mono (K3.out.2.2).size), x7⟩
        clear K3
        clear hb3
        have HV8 : Hid (m7 ≤ c7 ∧ c7 ≤ maxLen) := Lib.hid ⟨xm7, xc7⟩
        have HE8 := Lib.hid hr8
        clear hr8 x7 xm7 xc7 a31 a32
        go_wp2_with (first | (refine wpList_load_row rfl 38 (.tmp 4) rfl wa.heap.size rfl 38 #[.int .i64 zs, .slice os qs cs] (0, 0) _ (K4.out.2.1) Tryd.underlying38 rfl (infoP2 _ rfl) ?_))
        refine (rp_ans zs os qs cs Ls Gs w3 HZ.out.2.2.1 HZ.out.2.2.2 (HLs.out _ (K4.out.2.2.1)) HN.out.2.2.2.2.2.2.1 HN.out.2.2.2.2.2.2.2.1 HN.out.2.2.2.2.2.2.2.2.1 HQs.out.1 HQs.out.2).mono ?_
        rintro e w4 ⟨o9, m9, c9, v10, rfl, x9, xm9, xc9, hr10, hb4⟩
        have K5 : Hid (Blk w4 w.heap.size #[.int .i64 z, .slice ot nt ct, .string S, .slice oa q ca] 36 ∧ Blk w4 wa.heap.size #[.int .i64 zs, .slice os qs cs] 38 ∧ Below w.heap.size w w4 ∧ CV w4 o7 m7 (rqS z nt T S q L G) ∧ CV w4 o9 m9 (rpS zs qs Ls Gs)) := Lib.hid ⟨Blk.below (K4.out.1) hb4 (Blk.lt (K4.out.1)), Blk.below (K4.out.2.1) hb4 (Blk.lt (K4.out.2.1)), (K4.out.2.2.1).trans (hb4.mono (K4.out.2.2.1).size), (K4.out.2.2.2).later hb4, x9⟩
        clear K4
        clear hb4
        have HV10 : Hid (m9 ≤ c9 ∧ c9 ≤ maxLen) := Lib.hid ⟨xm9, xc9⟩
        have HE10 := Lib.hid hr10
        clear hr10 x9 xm9 xc9
        by_cases hkE : rqK z nt S q L = 0
        · have hv8 := HE8.out.nil hkE
          subst hv8
          obtain ⟨N, W, e1, e0, e3, e4, e5, e6, e7, e8, e9, e10⟩ := back_q (T := T) (G := G) hkE (fun k hk => (HT.out _ (K5.out.2.2.1) k hk).1) HQ3.out (HL.out _ (K5.out.2.2.1)).lt256
          have hrow : CV w4 o7 m7 (strF N W) := e1 ▸ K5.out.2.2.2.1
          obtain ⟨x1, x2⟩ := hrow.row e0
          subst x1
          have HD : Hid (Calls Tryd.prog 24 #[.slice o7 m7 c7] w4 fun e w' => ∃ r v, e = .returned (.tuple #[r, v]) ∧ QV w' r z nt T S q L G ∧ v = .nilIface ∧ Below w4.heap.size w4 w') := Lib.hid (by
            refine (dec_q o7 m7 c7 W w4 x2 HV8.out.1 HV8.out.2).mono ?_
            rintro e w' ⟨r, v, h1, h2, h3, h4⟩
            rw [e4, e5, e7, e8] at h2
            exact ⟨r, v, h1, h2.congr e6 e9 (fun i hi k hk => e10 i hi k (by rw [← e9 i hi]; exact hk)), h3.nil e3, h4⟩)
          clear e1 e0 e3 e4 e5 e6 e7 e8 e9 e10 hrow x2
          go_wp2_with fail
          refine (HD.out).mono ?_
          rintro e y11 ⟨_, _, rfl, ⟨oty11, cty11, oay11, cay11, rfl, x1⟩, rfl, hby11⟩
          have K6 : Hid (Blk y11 w.heap.size #[.int .i64 z, .slice ot nt ct, .string S, .slice oa q ca] 36 ∧ Blk y11 wa.heap.size #[.int .i64 zs, .slice os qs cs] 38 ∧ Below w.heap.size w y11 ∧ CV y11 o7 m7 (rqS z nt T S q L G) ∧ CV y11 o9 m9 (rpS zs qs Ls Gs) ∧ QV y11 (.agg #[.int .i64 z, .slice oty11 nt cty11, .string S, .slice oay11 q cay11]) z nt T S q L G) := Lib.hid ⟨Blk.below (K5.out.1) hby11 (Blk.lt (K5.out.1)), Blk.below (K5.out.2.1) hby11 (Blk.lt (K5.out.2.1)), (K5.out.2.2.1).trans (hby11.mono (K5.out.2.2.1).size), (K5.out.2.2.2.1).later hby11, (K5.out.2.2.2.2).later hby11, ⟨oty11, cty11, oay11, cay11, rfl, x1⟩⟩
          clear K5
          clear hby11 x1 HD
          have hlA := laidS y11 zeroR #[.int .i64 z, .slice oty11 nt cty11, .string S, .slice oay11 q cay11] 44 rfl
          obtain ⟨y12, hnA⟩ : ∃ x, (y11.alloc (.cells zeroR 44)).setCells y11.heap.size 0 (#[.int .i64 z, .slice oty11 nt cty11, .string S, .slice oay11 q cay11] : Array Value).toList = x := ⟨_, rfl⟩
          rw [hnA] at hlA
          have HTHA := Lib.hid hlA.2.2
          have hzA := zeroR_run
          have K7 : Hid (Blk y12 w.heap.size #[.int .i64 z, .slice ot nt ct, .string S, .slice oa q ca] 36 ∧ Blk y12 wa.heap.size #[.int .i64 zs, .slice os qs cs] 38 ∧ Below w.heap.size w y12 ∧ CV y12 o7 m7 (rqS z nt T S q L G) ∧ CV y12 o9 m9 (rpS zs qs Ls Gs) ∧ QV y12 (.agg #[.int .i64 z, .slice oty11 nt cty11, .string S, .slice oay11 q cay11]) z nt T S q L G ∧ Blk y12 y11.heap.size #[.int .i64 z, .slice oty11 nt cty11, .string S, .slice oay11 q cay11] 44) := Lib.hid ⟨Blk.below (K6.out.1) hlA.2.1 (Blk.lt (K6.out.1)), Blk.below (K6.out.2.1) hlA.2.1 (Blk.lt (K6.out.2.1)), (K6.out.2.2.1).trans (hlA.2.1.mono (K6.out.2.2.1).size), (K6.out.2.2.2.1).later hlA.2.1, (K6.out.2.2.2.2.1).later hlA.2.1, (K6.out.2.2.2.2.2).later hlA.2.1, hlA.1⟩
          clear K6
          clear hlA
          go_wp2_with (first | (refine wpList_store_mid rfl 44 (.tmp 11) (.tmp 60) rfl y11.heap.size 0 #[.int .i64 z, .slice oty11 nt cty11, .string S, .slice oay11 q cay11] rfl rfl HTHA.out (infoR _ rfl) (one4 _ _ _ _ ⟨rfl, rfl, rfl, rfl⟩) ?_; rw [hnA]) | (refine wpList_valueG (by kernel_rfl) (exec_loadW (C := #[.int .i64 z, .slice oty11 nt cty11, .string S, .slice oay11 q cay11]) rfl rfl (K7.out.2.2.2.2.2.2) Tryd.underlying44 rfl (infoR _ rfl)) ?_) | (refine wpList_valueG (by kernel_rfl) (exec_loadW (C := #[.int .i64 z, .slice ot nt ct, .string S, .slice oa q ca]) rfl rfl (K7.out.1) Tryd.underlying36 rfl (infoR2 _ rfl)) ?_))
          refine (isreq_any _ _ z nt T S q L G y12 (K7.out.2.2.2.2.2.1) ⟨ot, ct, oa, ca, rfl, HT.out _ (K7.out.2.2.1), HN.out.2.2.1, HN.out.1, HN.out.2.1, HL.out _ (K7.out.2.2.1), HN.out.2.2.2.2.2.1, HN.out.2.2.2.1, HN.out.2.2.2.2.1⟩).mono ?_
          rintro e y13 ⟨rfl, hcy11⟩
          have K8 : Hid (Blk y13 w.heap.size #[.int .i64 z, .slice ot nt ct, .string S, .slice oa q ca] 36 ∧ Blk y13 wa.heap.size #[.int .i64 zs, .slice os qs cs] 38 ∧ Below w.heap.size w y13 ∧ CV y13 o7 m7 (rqS z nt T S q L G) ∧ CV y13 o9 m9 (rpS zs qs Ls Gs)) := Lib.hid ⟨Blk.below (K7.out.1) hcy11 (Blk.lt (K7.out.1)), Blk.below (K7.out.2.1) hcy11 (Blk.lt (K7.out.2.1)), (K7.out.2.2.1).trans (hcy11.mono (K7.out.2.2.1).size), (K7.out.2.2.2.1).later hcy11, (K7.out.2.2.2.2.1).later hcy11⟩
          clear K7
          clear hcy11 hzA HTHA hnA
          clear hkE
          by_cases hkA : rpK zs qs Ls = 0
          · have hv10 := HE10.out.nil hkA
            subst hv10
            obtain ⟨N, W, e1, e0, e3, e4, e8, e9, e10⟩ := back_p (G := Gs) hkA HQs3.out (HLs.out _ (K8.out.2.2.1)).lt256
            have hrow : CV y13 o9 m9 (strF N W) := e1 ▸ K8.out.2.2.2.2
            obtain ⟨x1, x2⟩ := hrow.row e0
            subst x1
            have HD : Hid (Calls Tryd.prog 28 #[.slice o9 m9 c9] y13 fun e w' => ∃ r v, e = .returned (.tuple #[r, v]) ∧ PV w' r zs qs Ls Gs ∧ v = .nilIface ∧ Below y13.heap.size y13 w') := Lib.hid (by
              refine (dec_p o9 m9 c9 W y13 x2 HV10.out.1 HV10.out.2).mono ?_
              rintro e w' ⟨r, v, h1, h2, h3, h4⟩
              rw [e4, e8] at h2
              exact ⟨r, v, h1, h2.congr e9 (fun i hi k hk => e10 i hi k (by rw [← e9 i hi]; exact hk)), h3.nil e3, h4⟩)
            clear e1 e0 e3 e4 e8 e9 e10 hrow x2
            go_wp2_with fail
            refine (HD.out).mono ?_
            rintro e y14 ⟨_, _, rfl, ⟨oay14, cay14, rfl, x1⟩, rfl, hby14⟩
            have K9 : Hid (Blk y14 w.heap.size #[.int .i64 z, .slice ot nt ct, .string S, .slice oa q ca] 36 ∧ Blk y14 wa.heap.size #[.int .i64 zs, .slice os qs cs] 38 ∧ Below w.heap.size w y14 ∧ CV y14 o7 m7 (rqS z nt T S q L G) ∧ CV y14 o9 m9 (rpS zs qs Ls Gs) ∧ PV y14 (.agg #[.int .i64 zs, .slice oay14 qs cay14]) zs qs Ls Gs) := Lib.hid ⟨Blk.below (K8.out.1) hby14 (Blk.lt (K8.out.1)), Blk.below (K8.out.2.1) hby14 (Blk.lt (K8.out.2.1)), (K8.out.2.2.1).trans (hby14.mono (K8.out.2.2.1).size), (K8.out.2.2.2.1).later hby14, (K8.out.2.2.2.2).later hby14, ⟨oay14, cay14, rfl, x1⟩⟩
            clear K8
            clear hby14 x1 HD
            have hlB := laidS y14 zeroP #[.int .i64 zs, .slice oay14 qs cay14] 52 rfl
            obtain ⟨y15, hnB⟩ : ∃ x, (y14.alloc (.cells zeroP 52)).setCells y14.heap.size 0 (#[.int .i64 zs, .slice oay14 qs cay14] : Array Value).toList = x := ⟨_, rfl⟩
            rw [hnB] at hlB
            have HTHB := Lib.hid hlB.2.2
            have hzB := zeroP_run
            have K10 : Hid (Blk y15 w.heap.size #[.int .i64 z, .slice ot nt ct, .string S, .slice oa q ca] 36 ∧ Blk y15 wa.heap.size #[.int .i64 zs, .slice os qs cs] 38 ∧ Below w.heap.size w y15 ∧ CV y15 o7 m7 (rqS z nt T S q L G) ∧ CV y15 o9 m9 (rpS zs qs Ls Gs) ∧ PV y15 (.agg #[.int .i64 zs, .slice oay14 qs cay14]) zs qs Ls Gs ∧ Blk y15 y14.heap.size #[.int .i64 zs, .slice oay14 qs cay14] 52) := Lib.hid ⟨Blk.below (K9.out.1) hlB.2.1 (Blk.lt (K9.out.1)), Blk.below (K9.out.2.1) hlB.2.1 (Blk.lt (K9.out.2.1)), (K9.out.2.2.1).trans (hlB.2.1.mono (K9.out.2.2.1).size), (K9.out.2.2.2.1).later hlB.2.1, (K9.out.2.2.2.2.1).later hlB.2.1, (K9.out.2.2.2.2.2).later hlB.2.1, hlB.1⟩
            clear K9
            clear hlB
            go_wp2_with (first | (refine wpList_store_mid rfl 52 (.tmp 13) (.tmp 75) rfl y14.heap.size 0 #[.int .i64 zs, .slice oay14 qs cay14] rfl rfl HTHB.out (infoP _ rfl) (one2 _ _ ⟨rfl, rfl⟩) ?_; rw [hnB]) | (refine wpList_valueG (by kernel_rfl) (exec_loadW (C := #[.int .i64 zs, .slice oay14 qs cay14]) rfl rfl (K10.out.2.2.2.2.2.2) Tryd.underlying52 rfl (infoP _ rfl)) ?_) | (refine wpList_valueG (by kernel_rfl) (exec_loadW (C := #[.int .i64 zs, .slice os qs cs]) rfl rfl (K10.out.2.1) Tryd.underlying38 rfl (infoP2 _ rfl)) ?_))
            refine (isresp_any _ _ zs qs Ls Gs y15 (K10.out.2.2.2.2.2.1) ⟨os, cs, rfl, HLs.out _ (K10.out.2.2.1), HN.out.2.2.2.2.2.2.2.2.1, HN.out.2.2.2.2.2.2.1, HN.out.2.2.2.2.2.2.2.1⟩).mono ?_
            rintro e y16 ⟨rfl, hcy14⟩
            have K11 : Hid (Blk y16 w.heap.size #[.int .i64 z, .slice ot nt ct, .string S, .slice oa q ca] 36 ∧ Blk y16 wa.heap.size #[.int .i64 zs, .slice os qs cs] 38 ∧ Below w.heap.size w y16 ∧ CV y16 o7 m7 (rqS z nt T S q L G) ∧ CV y16 o9 m9 (rpS zs qs Ls Gs)) := Lib.hid ⟨Blk.below (K10.out.1) hcy14 (Blk.lt (K10.out.1)), Blk.below (K10.out.2.1) hcy14 (Blk.lt (K10.out.2.1)), (K10.out.2.2.1).trans (hcy14.mono (K10.out.2.2.1).size), (K10.out.2.2.2.1).later hcy14, (K10.out.2.2.2.2.1).later hcy14⟩
            clear K10
            clear hcy14 hzB HTHB hnB
            clear hkA
            as_aux_lemma =>
              go_wp2_with fail
              refine (HD1.out y16 (HB.out _ (K11.out.2.2.1))).mono ?_
              rintro e y17 ⟨_, vx, rfl, ⟨oty17, cty17, oay17, cay17, rfl, x1⟩, hrx, hby17⟩
              have K12 : Hid (Blk y17 w.heap.size #[.int .i64 z, .slice ot nt ct, .string S, .slice oa q ca] 36 ∧ Blk y17 wa.heap.size #[.int .i64 zs, .slice os qs cs] 38 ∧ Below w.heap.size w y17 ∧ CV y17 o7 m7 (rqS z nt T S q L G) ∧ CV y17 o9 m9 (rpS zs qs Ls Gs) ∧ QV y17 (.agg #[.int .i64 (zq : Int), .slice oty17 nq cty17, .string Sq, .slice oay17 qr cay17]) zq nq Tq Sq qr Lq Gq) := Lib.hid ⟨Blk.below (K11.out.1) hby17 (Blk.lt (K11.out.1)), Blk.below (K11.out.2.1) hby17 (Blk.lt (K11.out.2.1)), (K11.out.2.2.1).trans (hby17.mono (K11.out.2.2.1).size), (K11.out.2.2.2.1).later hby17, (K11.out.2.2.2.2).later hby17, ⟨oty17, cty17, oay17, cay17, rfl, x1⟩⟩
              clear K11
              clear hby17 x1
              have hlT := laidS y17 zeroR #[.int .i64 (zq : Int), .slice oty17 nq cty17, .string Sq, .slice oay17 qr cay17] 44 rfl
              obtain ⟨y18, hnT⟩ : ∃ x, (y17.alloc (.cells zeroR 44)).setCells y17.heap.size 0 (#[.int .i64 (zq : Int), .slice oty17 nq cty17, .string Sq, .slice oay17 qr cay17] : Array Value).toList = x := ⟨_, rfl⟩
              rw [hnT] at hlT
              have HTHT := Lib.hid hlT.2.2
              have hzT := zeroR_run
              have K13 : Hid (Blk y18 w.heap.size #[.int .i64 z, .slice ot nt ct, .string S, .slice oa q ca] 36 ∧ Blk y18 wa.heap.size #[.int .i64 zs, .slice os qs cs] 38 ∧ Below w.heap.size w y18 ∧ CV y18 o7 m7 (rqS z nt T S q L G) ∧ CV y18 o9 m9 (rpS zs qs Ls Gs) ∧ QV y18 (.agg #[.int .i64 (zq : Int), .slice oty17 nq cty17, .string Sq, .slice oay17 qr cay17]) zq nq Tq Sq qr Lq Gq ∧ Blk y18 y17.heap.size #[.int .i64 (zq : Int), .slice oty17 nq cty17, .string Sq, .slice oay17 qr cay17] 44) := Lib.hid ⟨Blk.below (K12.out.1) hlT.2.1 (Blk.lt (K12.out.1)), Blk.below (K12.out.2.1) hlT.2.1 (Blk.lt (K12.out.2.1)), (K12.out.2.2.1).trans (hlT.2.1.mono (K12.out.2.2.1).size), (K12.out.2.2.2.1).later hlT.2.1, (K12.out.2.2.2.2.1).later hlT.2.1, (K12.out.2.2.2.2.2).later hlT.2.1, hlT.1⟩
              clear K12
              clear hlT
              have d0 : y18.cell? ⟨y17.heap.size, 0, none⟩ = some (.int .i64 (zq : Int)) := by rw [Blk.cell (K13.out.2.2.2.2.2.2)]; rfl
              rcases HTQ.out with ⟨hk0, hS0, hK0⟩ | ⟨hk0, hz0⟩
              · have hvx := hrx.nil hk0
                subst hvx
                obtain ⟨p1, p2, p3, p4, hpe, p5, p6, p7, p8, p9, p10, p11, p12⟩ := K13.out.2.2.2.2.2.1
                cases hpe
                have HEN : Hid (Calls Tryd.prog 22 #[.agg #[.int .i64 (zq : Int), .slice oty17 nq cty17, .string Sq, .slice oay17 qr cay17]] y18 fun e w' => ∃ o m c, e = .returned (.tuple #[.slice o m c, .nilIface]) ∧ CV w' o m (strF n B) ∧ Below y18.heap.size y18 w') := Lib.hid (by
                  refine (rq_enc zq oty17 oay17 nq cty17 qr cay17 Sq Tq Lq Gq y18 HZQ.out.1 HZQ.out.2.1 p5 p7 p8 p6 p9 p11 p12 p10 HZQ.out.2.2.1 HZQ.out.2.2.2).mono ?_
                  rintro e w' ⟨o, m, c, v, h1, h2, _, _, h3, h4⟩
                  rw [hS0] at h2
                  have := h3.nil hK0
                  subst this
                  exact ⟨o, m, c, h1, h2, h4⟩)
                clear hk0 hS0 hK0 p5 p6 p7 p8 p9 p10 p11 p12 hrx
                go_wp2_with (first | (refine wpList_store_mid rfl 44 (.tmp 15) (.tmp 88) rfl y17.heap.size 0 #[.int .i64 (zq : Int), .slice oty17 nq cty17, .string Sq, .slice oay17 qr cay17] rfl rfl HTHT.out (infoR _ rfl) (one4 _ _ _ _ ⟨rfl, rfl, rfl, rfl⟩) ?_; rw [hnT]) | (refine wpList_load_row rfl 44 (.tmp 15) rfl y17.heap.size rfl 44 #[.int .i64 (zq : Int), .slice oty17 nq cty17, .string Sq, .slice oay17 qr cay17] (0, 0) _ (K13.out.2.2.2.2.2.2) Tryd.underlying44 rfl (infoR _ rfl) ?_))
                refine HEN.out.mono ?_
                clear HEN hzT HTHT hnT d0
                rintro e y19 ⟨o17, m17, c17, rfl, x17, hcy17⟩
                have K14 : Hid (Blk y19 w.heap.size #[.int .i64 z, .slice ot nt ct, .string S, .slice oa q ca] 36 ∧ Blk y19 wa.heap.size #[.int .i64 zs, .slice os qs cs] 38 ∧ Below w.heap.size w y19 ∧ CV y19 o7 m7 (rqS z nt T S q L G) ∧ CV y19 o9 m9 (rpS zs qs Ls Gs) ∧ QV y19 (.agg #[.int .i64 (zq : Int), .slice oty17 nq cty17, .string Sq, .slice oay17 qr cay17]) zq nq Tq Sq qr Lq Gq ∧ Blk y19 y17.heap.size #[.int .i64 (zq : Int), .slice oty17 nq cty17, .string Sq, .slice oay17 qr cay17] 44 ∧ CV y19 o17 m17 (strF n B)) := Lib.hid ⟨Blk.below (K13.out.1) hcy17 (Blk.lt (K13.out.1)), Blk.below (K13.out.2.1) hcy17 (Blk.lt (K13.out.2.1)), (K13.out.2.2.1).trans (hcy17.mono (K13.out.2.2.1).size), (K13.out.2.2.2.1).later hcy17, (K13.out.2.2.2.2.1).later hcy17, (K13.out.2.2.2.2.2.1).later hcy17, Blk.below (K13.out.2.2.2.2.2.2) hcy17 (Blk.lt (K13.out.2.2.2.2.2.2)), x17⟩
                clear K13
                clear hcy17 x17
                have HCB : Hid (CV y19 ob n (strF n B)) := Lib.hid ⟨B, HB.out _ (K14.out.2.2.1), HBO.out, rfl⟩
                generalize strF n B = SB at *
                go_wp2_with (first
                  | (refine wpList_valueG (by kernel_rfl) (exec_convO (x := .tmp 106) rfl rfl (CV.conv (K14.out.2.2.2.2.2.2.2))) ?_)
                  | (refine wpList_valueG (by kernel_rfl) (exec_convO (x := .tmp 108) rfl rfl HCB.out.conv) ?_))
                refine (req_sure y19 (HG.out.later (K14.out.2.2.1))).mono ?_
                rintro e y20 ⟨rfl, hey17⟩
                have HO := Lib.hid ((K14.out.2.2.1).trans (hey17.mono (K14.out.2.2.1).size))
                clear hey17
                go_wp2_with fail
                go_ret
                exact ⟨rfl, HO.out⟩
              · have hvx := hrx.some (Nat.pos_of_ne_zero hk0)
                subst hvx
                rw [hz0] at d0
                have d1 : y18.cell? ⟨y17.heap.size, 0, none⟩ = some (.int .i64 0) := d0
                clear hk0 hrx hz0 d0
                go_wp2_with (first | (refine wpList_store_mid rfl 44 (.tmp 15) (.tmp 88) rfl y17.heap.size 0 #[.int .i64 (zq : Int), .slice oty17 nq cty17, .string Sq, .slice oay17 qr cay17] rfl rfl HTHT.out (infoR _ rfl) (one4 _ _ _ _ ⟨rfl, rfl, rfl, rfl⟩) ?_; rw [hnT]))
                refine (req_sure y18 (HG.out.later (K13.out.2.2.1))).mono ?_
                rintro e y20 ⟨rfl, hey17⟩
                have HO := Lib.hid ((K13.out.2.2.1).trans (hey17.mono (K13.out.2.2.1).size))
                clear hey17
                go_wp2_with fail
                go_ret
                exact ⟨rfl, HO.out⟩
          · have hv10 := HE10.out.some (Nat.pos_of_ne_zero hkA)
            subst hv10
            clear hkA
            as_aux_lemma =>
              go_wp2_with fail
              refine (HD1.out y13 (HB.out _ (K8.out.2.2.1))).mono ?_
              rintro e y21 ⟨_, vx, rfl, ⟨oty21, cty21, oay21, cay21, rfl, x1⟩, hrx, hby21⟩
              have K9 : Hid (Blk y21 w.heap.size #[.int .i64 z, .slice ot nt ct, .string S, .slice oa q ca] 36 ∧ Blk y21 wa.heap.size #[.int .i64 zs, .slice os qs cs] 38 ∧ Below w.heap.size w y21 ∧ CV y21 o7 m7 (rqS z nt T S q L G) ∧ CV y21 o9 m9 (rpS zs qs Ls Gs) ∧ QV y21 (.agg #[.int .i64 (zq : Int), .slice oty21 nq cty21, .string Sq, .slice oay21 qr cay21]) zq nq Tq Sq qr Lq Gq) := Lib.hid ⟨Blk.below (K8.out.1) hby21 (Blk.lt (K8.out.1)), Blk.below (K8.out.2.1) hby21 (Blk.lt (K8.out.2.1)), (K8.out.2.2.1).trans (hby21.mono (K8.out.2.2.1).size), (K8.out.2.2.2.1).later hby21, (K8.out.2.2.2.2).later hby21, ⟨oty21, cty21, oay21, cay21, rfl, x1⟩⟩
              clear K8
              clear hby21 x1
              have hlT := laidS y21 zeroR #[.int .i64 (zq : Int), .slice oty21 nq cty21, .string Sq, .slice oay21 qr cay21] 44 rfl
              obtain ⟨y22, hnT⟩ : ∃ x, (y21.alloc (.cells zeroR 44)).setCells y21.heap.size 0 (#[.int .i64 (zq : Int), .slice oty21 nq cty21, .string Sq, .slice oay21 qr cay21] : Array Value).toList = x := ⟨_, rfl⟩
              rw [hnT] at hlT
              have HTHT := Lib.hid hlT.2.2
              have hzT := zeroR_run
              have K10 : Hid (Blk y22 w.heap.size #[.int .i64 z, .slice ot nt ct, .string S, .slice oa q ca] 36 ∧ Blk y22 wa.heap.size #[.int .i64 zs, .slice os qs cs] 38 ∧ Below w.heap.size w y22 ∧ CV y22 o7 m7 (rqS z nt T S q L G) ∧ CV y22 o9 m9 (rpS zs qs Ls Gs) ∧ QV y22 (.agg #[.int .i64 (zq : Int), .slice oty21 nq cty21, .string Sq, .slice oay21 qr cay21]) zq nq Tq Sq qr Lq Gq ∧ Blk y22 y21.heap.size #[.int .i64 (zq : Int), .slice oty21 nq cty21, .string Sq, .slice oay21 qr cay21] 44) := Lib.hid ⟨Blk.below (K9.out.1) hlT.2.1 (Blk.lt (K9.out.1)), Blk.below (K9.out.2.1) hlT.2.1 (Blk.lt (K9.out.2.1)), (K9.out.2.2.1).trans (hlT.2.1.mono (K9.out.2.2.1).size), (K9.out.2.2.2.1).later hlT.2.1, (K9.out.2.2.2.2.1).later hlT.2.1, (K9.out.2.2.2.2.2).later hlT.2.1, hlT.1⟩
              clear K9
              clear hlT
              have d0 : y22.cell? ⟨y21.heap.size, 0, none⟩ = some (.int .i64 (zq : Int)) := by rw [Blk.cell (K10.out.2.2.2.2.2.2)]; rfl
              rcases HTQ.out with ⟨hk0, hS0, hK0⟩ | ⟨hk0, hz0⟩
              · have hvx := hrx.nil hk0
                subst hvx
                obtain ⟨p1, p2, p3, p4, hpe, p5, p6, p7, p8, p9, p10, p11, p12⟩ := K10.out.2.2.2.2.2.1
                cases hpe
                have HEN : Hid (Calls Tryd.prog 22 #[.agg #[.int .i64 (zq : Int), .slice oty21 nq cty21, .string Sq, .slice oay21 qr cay21]] y22 fun e w' => ∃ o m c, e = .returned (.tuple #[.slice o m c, .nilIface]) ∧ CV w' o m (strF n B) ∧ Below y22.heap.size y22 w') := Lib.hid (by
                  refine (rq_enc zq oty21 oay21 nq cty21 qr cay21 Sq Tq Lq Gq y22 HZQ.out.1 HZQ.out.2.1 p5 p7 p8 p6 p9 p11 p12 p10 HZQ.out.2.2.1 HZQ.out.2.2.2).mono ?_
                  rintro e w' ⟨o, m, c, v, h1, h2, _, _, h3, h4⟩
                  rw [hS0] at h2
                  have := h3.nil hK0
                  subst this
                  exact ⟨o, m, c, h1, h2, h4⟩)
                clear hk0 hS0 hK0 p5 p6 p7 p8 p9 p10 p11 p12 hrx
                go_wp2_with (first | (refine wpList_store_mid rfl 44 (.tmp 15) (.tmp 88) rfl y21.heap.size 0 #[.int .i64 (zq : Int), .slice oty21 nq cty21, .string Sq, .slice oay21 qr cay21] rfl rfl HTHT.out (infoR _ rfl) (one4 _ _ _ _ ⟨rfl, rfl, rfl, rfl⟩) ?_; rw [hnT]) | (refine wpList_load_row rfl 44 (.tmp 15) rfl y21.heap.size rfl 44 #[.int .i64 (zq : Int), .slice oty21 nq cty21, .string Sq, .slice oay21 qr cay21] (0, 0) _ (K10.out.2.2.2.2.2.2) Tryd.underlying44 rfl (infoR _ rfl) ?_))
                refine HEN.out.mono ?_
                clear HEN hzT HTHT hnT d0
                rintro e y23 ⟨o17, m17, c17, rfl, x17, hcy21⟩
                have K11 : Hid (Blk y23 w.heap.size #[.int .i64 z, .slice ot nt ct, .string S, .slice oa q ca] 36 ∧ Blk y23 wa.heap.size #[.int .i64 zs, .slice os qs cs] 38 ∧ Below w.heap.size w y23 ∧ CV y23 o7 m7 (rqS z nt T S q L G) ∧ CV y23 o9 m9 (rpS zs qs Ls Gs) ∧ QV y23 (.agg #[.int .i64 (zq : Int), .slice oty21 nq cty21, .string Sq, .slice oay21 qr cay21]) zq nq Tq Sq qr Lq Gq ∧ Blk y23 y21.heap.size #[.int .i64 (zq : Int), .slice oty21 nq cty21, .string Sq, .slice oay21 qr cay21] 44 ∧ CV y23 o17 m17 (strF n B)) := Lib.hid ⟨Blk.below (K10.out.1) hcy21 (Blk.lt (K10.out.1)), Blk.below (K10.out.2.1) hcy21 (Blk.lt (K10.out.2.1)), (K10.out.2.2.1).trans (hcy21.mono (K10.out.2.2.1).size), (K10.out.2.2.2.1).later hcy21, (K10.out.2.2.2.2.1).later hcy21, (K10.out.2.2.2.2.2.1).later hcy21, Blk.below (K10.out.2.2.2.2.2.2) hcy21 (Blk.lt (K10.out.2.2.2.2.2.2)), x17⟩
                clear K10
                clear hcy21 x17
                have HCB : Hid (CV y23 ob n (strF n B)) := Lib.hid ⟨B, HB.out _ (K11.out.2.2.1), HBO.out, rfl⟩
                generalize strF n B = SB at *
                go_wp2_with (first
                  | (refine wpList_valueG (by kernel_rfl) (exec_convO (x := .tmp 106) rfl rfl (CV.conv (K11.out.2.2.2.2.2.2.2))) ?_)
                  | (refine wpList_valueG (by kernel_rfl) (exec_convO (x := .tmp 108) rfl rfl HCB.out.conv) ?_))
                refine (req_sure y23 (HG.out.later (K11.out.2.2.1))).mono ?_
                rintro e y24 ⟨rfl, hey21⟩
                have HO := Lib.hid ((K11.out.2.2.1).trans (hey21.mono (K11.out.2.2.1).size))
                clear hey21
                go_wp2_with fail
                go_ret
                exact ⟨rfl, HO.out⟩
              · have hvx := hrx.some (Nat.pos_of_ne_zero hk0)
                subst hvx
                rw [hz0] at d0
                have d1 : y22.cell? ⟨y21.heap.size, 0, none⟩ = some (.int .i64 0) := d0
                clear hk0 hrx hz0 d0
                go_wp2_with (first | (refine wpList_store_mid rfl 44 (.tmp 15) (.tmp 88) rfl y21.heap.size 0 #[.int .i64 (zq : Int), .slice oty21 nq cty21, .string Sq, .slice oay21 qr cay21] rfl rfl HTHT.out (infoR _ rfl) (one4 _ _ _ _ ⟨rfl, rfl, rfl, rfl⟩) ?_; rw [hnT]))
                refine (req_sure y22 (HG.out.later (K10.out.2.2.1))).mono ?_
                rintro e y24 ⟨rfl, hey21⟩
                have HO := Lib.hid ((K10.out.2.2.1).trans (hey21.mono (K10.out.2.2.1).size))
                clear hey21
                go_wp2_with fail
                go_ret
                exact ⟨rfl, HO.out⟩
        · have hv8 := HE8.out.some (Nat.pos_of_ne_zero hkE)
          subst hv8
          clear hkE
          by_cases hkA : rpK zs qs Ls = 0
          · have hv10 := HE10.out.nil hkA
            subst hv10
            obtain ⟨N, W, e1, e0, e3, e4, e8, e9, e10⟩ := back_p (G := Gs) hkA HQs3.out (HLs.out _ (K5.out.2.2.1)).lt256
            have hrow : CV w4 o9 m9 (strF N W) := e1 ▸ K5.out.2.2.2.2
            obtain ⟨x1, x2⟩ := hrow.row e0
            subst x1
            have HD : Hid (Calls Tryd.prog 28 #[.slice o9 m9 c9] w4 fun e w' => ∃ r v, e = .returned (.tuple #[r, v]) ∧ PV w' r zs qs Ls Gs ∧ v = .nilIface ∧ Below w4.heap.size w4 w') := Lib.hid (by
              refine (dec_p o9 m9 c9 W w4 x2 HV10.out.1 HV10.out.2).mono ?_
              rintro e w' ⟨r, v, h1, h2, h3, h4⟩
              rw [e4, e8] at h2
              exact ⟨r, v, h1, h2.congr e9 (fun i hi k hk => e10 i hi k (by rw [← e9 i hi]; exact hk)), h3.nil e3, h4⟩)
            clear e1 e0 e3 e4 e8 e9 e10 hrow x2
            go_wp2_with fail
            refine (HD.out).mono ?_
            rintro e y25 ⟨_, _, rfl, ⟨oay25, cay25, rfl, x1⟩, rfl, hby25⟩
            have K6 : Hid (Blk y25 w.heap.size #[.int .i64 z, .slice ot nt ct, .string S, .slice oa q ca] 36 ∧ Blk y25 wa.heap.size #[.int .i64 zs, .slice os qs cs] 38 ∧ Below w.heap.size w y25 ∧ CV y25 o7 m7 (rqS z nt T S q L G) ∧ CV y25 o9 m9 (rpS zs qs Ls Gs) ∧ PV y25 (.agg #[.int .i64 zs, .slice oay25 qs cay25]) zs qs Ls Gs) := Lib.hid ⟨Blk.below (K5.out.1) hby25 (Blk.lt (K5.out.1)), Blk.below (K5.out.2.1) hby25 (Blk.lt (K5.out.2.1)), (K5.out.2.2.1).trans (hby25.mono (K5.out.2.2.1).size), (K5.out.2.2.2.1).later hby25, (K5.out.2.2.2.2).later hby25, ⟨oay25, cay25, rfl, x1⟩⟩
            clear K5
            clear hby25 x1 HD
            have hlB := laidS y25 zeroP #[.int .i64 zs, .slice oay25 qs cay25] 52 rfl
            obtain ⟨y26, hnB⟩ : ∃ x, (y25.alloc (.cells zeroP 52)).setCells y25.heap.size 0 (#[.int .i64 zs, .slice oay25 qs cay25] : Array Value).toList = x := ⟨_, rfl⟩
            rw [hnB] at hlB
            have HTHB := Lib.hid hlB.2.2
            have hzB := zeroP_run
            have K7 : Hid (Blk y26 w.heap.size #[.int .i64 z, .slice ot nt ct, .string S, .slice oa q ca] 36 ∧ Blk y26 wa.heap.size #[.int .i64 zs, .slice os qs cs] 38 ∧ Below w.heap.size w y26 ∧ CV y26 o7 m7 (rqS z nt T S q L G) ∧ CV y26 o9 m9 (rpS zs qs Ls Gs) ∧ PV y26 (.agg #[.int .i64 zs, .slice oay25 qs cay25]) zs qs Ls Gs ∧ Blk y26 y25.heap.size #[.int .i64 zs, .slice oay25 qs cay25] 52) := Lib.hid ⟨Blk.below (K6.out.1) hlB.2.1 (Blk.lt (K6.out.1)), Blk.below (K6.out.2.1) hlB.2.1 (Blk.lt (K6.out.2.1)), (K6.out.2.2.1).trans (hlB.2.1.mono (K6.out.2.2.1).size), (K6.out.2.2.2.1).later hlB.2.1, (K6.out.2.2.2.2.1).later hlB.2.1, (K6.out.2.2.2.2.2).later hlB.2.1, hlB.1⟩
            clear K6
            clear hlB
            go_wp2_with (first | (refine wpList_store_mid rfl 52 (.tmp 13) (.tmp 75) rfl y25.heap.size 0 #[.int .i64 zs, .slice oay25 qs cay25] rfl rfl HTHB.out (infoP _ rfl) (one2 _ _ ⟨rfl, rfl⟩) ?_; rw [hnB]) | (refine wpList_valueG (by kernel_rfl) (exec_loadW (C := #[.int .i64 zs, .slice oay25 qs cay25]) rfl rfl (K7.out.2.2.2.2.2.2) Tryd.underlying52 rfl (infoP _ rfl)) ?_) | (refine wpList_valueG (by kernel_rfl) (exec_loadW (C := #[.int .i64 zs, .slice os qs cs]) rfl rfl (K7.out.2.1) Tryd.underlying38 rfl (infoP2 _ rfl)) ?_))
            refine (isresp_any _ _ zs qs Ls Gs y26 (K7.out.2.2.2.2.2.1) ⟨os, cs, rfl, HLs.out _ (K7.out.2.2.1), HN.out.2.2.2.2.2.2.2.2.1, HN.out.2.2.2.2.2.2.1, HN.out.2.2.2.2.2.2.2.1⟩).mono ?_
            rintro e y27 ⟨rfl, hcy25⟩
            have K8 : Hid (Blk y27 w.heap.size #[.int .i64 z, .slice ot nt ct, .string S, .slice oa q ca] 36 ∧ Blk y27 wa.heap.size #[.int .i64 zs, .slice os qs cs] 38 ∧ Below w.heap.size w y27 ∧ CV y27 o7 m7 (rqS z nt T S q L G) ∧ CV y27 o9 m9 (rpS zs qs Ls Gs)) := Lib.hid ⟨Blk.below (K7.out.1) hcy25 (Blk.lt (K7.out.1)), Blk.below (K7.out.2.1) hcy25 (Blk.lt (K7.out.2.1)), (K7.out.2.2.1).trans (hcy25.mono (K7.out.2.2.1).size), (K7.out.2.2.2.1).later hcy25, (K7.out.2.2.2.2.1).later hcy25⟩
            clear K7
            clear hcy25 hzB HTHB hnB
            clear hkA
            as_aux_lemma =>
              go_wp2_with fail
              refine (HD1.out y27 (HB.out _ (K8.out.2.2.1))).mono ?_
              rintro e y28 ⟨_, vx, rfl, ⟨oty28, cty28, oay28, cay28, rfl, x1⟩, hrx, hby28⟩
              have K9 : Hid (Blk y28 w.heap.size #[.int .i64 z, .slice ot nt ct, .string S, .slice oa q ca] 36 ∧ Blk y28 wa.heap.size #[.int .i64 zs, .slice os qs cs] 38 ∧ Below w.heap.size w y28 ∧ CV y28 o7 m7 (rqS z nt T S q L G) ∧ CV y28 o9 m9 (rpS zs qs Ls Gs) ∧ QV y28 (.agg #[.int .i64 (zq : Int), .slice oty28 nq cty28, .string Sq, .slice oay28 qr cay28]) zq nq Tq Sq qr Lq Gq) := Lib.hid ⟨Blk.below (K8.out.1) hby28 (Blk.lt (K8.out.1)), Blk.below (K8.out.2.1) hby28 (Blk.lt (K8.out.2.1)), (K8.out.2.2.1).trans (hby28.mono (K8.out.2.2.1).size), (K8.out.2.2.2.1).later hby28, (K8.out.2.2.2.2).later hby28, ⟨oty28, cty28, oay28, cay28, rfl, x1⟩⟩
              clear K8
              clear hby28 x1
              have hlT := laidS y28 zeroR #[.int .i64 (zq : Int), .slice oty28 nq cty28, .string Sq, .slice oay28 qr cay28] 44 rfl
              obtain ⟨y29, hnT⟩ : ∃ x, (y28.alloc (.cells zeroR 44)).setCells y28.heap.size 0 (#[.int .i64 (zq : Int), .slice oty28 nq cty28, .string Sq, .slice oay28 qr cay28] : Array Value).toList = x := ⟨_, rfl⟩
              rw [hnT] at hlT
              have HTHT := Lib.hid hlT.2.2
              have hzT := zeroR_run
              have K10 : Hid (Blk y29 w.heap.size #[.int .i64 z, .slice ot nt ct, .string S, .slice oa q ca] 36 ∧ Blk y29 wa.heap.size #[.int .i64 zs, .slice os qs cs] 38 ∧ Below w.heap.size w y29 ∧ CV y29 o7 m7 (rqS z nt T S q L G) ∧ CV y29 o9 m9 (rpS zs qs Ls Gs) ∧ QV y29 (.agg #[.int .i64 (zq : Int), .slice oty28 nq cty28, .string Sq, .slice oay28 qr cay28]) zq nq Tq Sq qr Lq Gq ∧ Blk y29 y28.heap.size #[.int .i64 (zq : Int), .slice oty28 nq cty28, .string Sq, .slice oay28 qr cay28] 44) := Lib.hid ⟨Blk.below (K9.out.1) hlT.2.1 (Blk.lt (K9.out.1)), Blk.below (K9.out.2.1) hlT.2.1 (Blk.lt (K9.out.2.1)), (K9.out.2.2.1).trans (hlT.2.1.mono (K9.out.2.2.1).size), (K9.out.2.2.2.1).later hlT.2.1, (K9.out.2.2.2.2.1).later hlT.2.1, (K9.out.2.2.2.2.2).later hlT.2.1, hlT.1⟩
              clear K9
              clear hlT
              have d0 : y29.cell? ⟨y28.heap.size, 0, none⟩ = some (.int .i64 (zq : Int)) := by rw [Blk.cell (K10.out.2.2.2.2.2.2)]; rfl
              rcases HTQ.out with ⟨hk0, hS0, hK0⟩ | ⟨hk0, hz0⟩
              · have hvx := hrx.nil hk0
                subst hvx
                obtain ⟨p1, p2, p3, p4, hpe, p5, p6, p7, p8, p9, p10, p11, p12⟩ := K10.out.2.2.2.2.2.1
                cases hpe
                have HEN : Hid (Calls Tryd.prog 22 #[.agg #[.int .i64 (zq : Int), .slice oty28 nq cty28, .string Sq, .slice oay28 qr cay28]] y29 fun e w' => ∃ o m c, e = .returned (.tuple #[.slice o m c, .nilIface]) ∧ CV w' o m (strF n B) ∧ Below y29.heap.size y29 w') := Lib.hid (by
                  refine (rq_enc zq oty28 oay28 nq cty28 qr cay28 Sq Tq Lq Gq y29 HZQ.out.1 HZQ.out.2.1 p5 p7 p8 p6 p9 p11 p12 p10 HZQ.out.2.2.1 HZQ.out.2.2.2).mono ?_
                  rintro e w' ⟨o, m, c, v, h1, h2, _, _, h3, h4⟩
                  rw [hS0] at h2
                  have := h3.nil hK0
                  subst this
                  exact ⟨o, m, c, h1, h2, h4⟩)
                clear hk0 hS0 hK0 p5 p6 p7 p8 p9 p10 p11 p12 hrx
                go_wp2_with (first | (refine wpList_store_mid rfl 44 (.tmp 15) (.tmp 88) rfl y28.heap.size 0 #[.int .i64 (zq : Int), .slice oty28 nq cty28, .string Sq, .slice oay28 qr cay28] rfl rfl HTHT.out (infoR _ rfl) (one4 _ _ _ _ ⟨rfl, rfl, rfl, rfl⟩) ?_; rw [hnT]) | (refine wpList_load_row rfl 44 (.tmp 15) rfl y28.heap.size rfl 44 #[.int .i64 (zq : Int), .slice oty28 nq cty28, .string Sq, .slice oay28 qr cay28] (0, 0) _ (K10.out.2.2.2.2.2.2) Tryd.underlying44 rfl (infoR _ rfl) ?_))
                refine HEN.out.mono ?_
                clear HEN hzT HTHT hnT d0
                rintro e y30 ⟨o17, m17, c17, rfl, x17, hcy28⟩
                have K11 : Hid (Blk y30 w.heap.size #[.int .i64 z, .slice ot nt ct, .string S, .slice oa q ca] 36 ∧ Blk y30 wa.heap.size #[.int .i64 zs, .slice os qs cs] 38 ∧ Below w.heap.size w y30 ∧ CV y30 o7 m7 (rqS z nt T S q L G) ∧ CV y30 o9 m9 (rpS zs qs Ls Gs) ∧ QV y30 (.agg #[.int .i64 (zq : Int), .slice oty28 nq cty28, .string Sq, .slice oay28 qr cay28]) zq nq Tq Sq qr Lq Gq ∧ Blk y30 y28.heap.size #[.int .i64 (zq : Int), .slice oty28 nq cty28, .string Sq, .slice oay28 qr cay28] 44 ∧ CV y30 o17 m17 (strF n B)) := Lib.hid ⟨Blk.below (K10.out.1) hcy28 (Blk.lt (K10.out.1)), Blk.below (K10.out.2.1) hcy28 (Blk.lt (K10.out.2.1)), (K10.out.2.2.1).trans (hcy28.mono (K10.out.2.2.1).size), (K10.out.2.2.2.1).later hcy28, (K10.out.2.2.2.2.1).later hcy28, (K10.out.2.2.2.2.2.1).later hcy28, Blk.below (K10.out.2.2.2.2.2.2) hcy28 (Blk.lt (K10.out.2.2.2.2.2.2)), x17⟩
                clear K10
                clear hcy28 x17
                have HCB : Hid (CV y30 ob n (strF n B)) := Lib.hid ⟨B, HB.out _ (K11.out.2.2.1), HBO.out, rfl⟩
                generalize strF n B = SB at *
                go_wp2_with (first
                  | (refine wpList_valueG (by kernel_rfl) (exec_convO (x := .tmp 106) rfl rfl (CV.conv (K11.out.2.2.2.2.2.2.2))) ?_)
                  | (refine wpList_valueG (by kernel_rfl) (exec_convO (x := .tmp 108) rfl rfl HCB.out.conv) ?_))
                refine (req_sure y30 (HG.out.later (K11.out.2.2.1))).mono ?_
                rintro e y31 ⟨rfl, hey28⟩
                have HO := Lib.hid ((K11.out.2.2.1).trans (hey28.mono (K11.out.2.2.1).size))
                clear hey28
                go_wp2_with fail
                go_ret
                exact ⟨rfl, HO.out⟩
              · have hvx := hrx.some (Nat.pos_of_ne_zero hk0)
                subst hvx
                rw [hz0] at d0
                have d1 : y29.cell? ⟨y28.heap.size, 0, none⟩ = some (.int .i64 0) := d0
                clear hk0 hrx hz0 d0
                go_wp2_with (first | (refine wpList_store_mid rfl 44 (.tmp 15) (.tmp 88) rfl y28.heap.size 0 #[.int .i64 (zq : Int), .slice oty28 nq cty28, .string Sq, .slice oay28 qr cay28] rfl rfl HTHT.out (infoR _ rfl) (one4 _ _ _ _ ⟨rfl, rfl, rfl, rfl⟩) ?_; rw [hnT]))
                refine (req_sure y29 (HG.out.later (K10.out.2.2.1))).mono ?_
                rintro e y31 ⟨rfl, hey28⟩
                have HO := Lib.hid ((K10.out.2.2.1).trans (hey28.mono (K10.out.2.2.1).size))
                clear hey28
                go_wp2_with fail
                go_ret
                exact ⟨rfl, HO.out⟩
          · have hv10 := HE10.out.some (Nat.pos_of_ne_zero hkA)
            subst hv10
            clear hkA
            as_aux_lemma =>
              go_wp2_with fail
              refine (HD1.out w4 (HB.out _ (K5.out.2.2.1))).mono ?_
              rintro e y32 ⟨_, vx, rfl, ⟨oty32, cty32, oay32, cay32, rfl, x1⟩, hrx, hby32⟩
              have K6 : Hid (Blk y32 w.heap.size #[.int .i64 z, .slice ot nt ct, .string S, .slice oa q ca] 36 ∧ Blk y32 wa.heap.size #[.int .i64 zs, .slice os qs cs] 38 ∧ Below w.heap.size w y32 ∧ CV y32 o7 m7 (rqS z nt T S q L G) ∧ CV y32 o9 m9 (rpS zs qs Ls Gs) ∧ QV y32 (.agg #[.int .i64 (zq : Int), .slice oty32 nq cty32, .string Sq, .slice oay32 qr cay32]) zq nq Tq Sq qr Lq Gq) := Lib.hid ⟨Blk.below (K5.out.1) hby32 (Blk.lt (K5.out.1)), Blk.below (K5.out.2.1) hby32 (Blk.lt (K5.out.2.1)), (K5.out.2.2.1).trans (hby32.mono (K5.out.2.2.1).size), (K5.out.2.2.2.1).later hby32, (K5.out.2.2.2.2).later hby32, ⟨oty32, cty32, oay32, cay32, rfl, x1⟩⟩
              clear K5
              clear hby32 x1
              have hlT := laidS y32 zeroR #[.int .i64 (zq : Int), .slice oty32 nq cty32, .string Sq, .slice oay32 qr cay32] 44 rfl
              obtain ⟨y33, hnT⟩ : ∃ x, (y32.alloc (.cells zeroR 44)).setCells y32.heap.size 0 (#[.int .i64 (zq : Int), .slice oty32 nq cty32, .string Sq, .slice oay32 qr cay32] : Array Value).toList = x := ⟨_, rfl⟩
              rw [hnT] at hlT
              have HTHT := Lib.hid hlT.2.2
              have hzT := zeroR_run
              have K7 : Hid (Blk y33 w.heap.size #[.int .i64 z, .slice ot nt ct, .string S, .slice oa q ca] 36 ∧ Blk y33 wa.heap.size #[.int .i64 zs, .slice os qs cs] 38 ∧ Below w.heap.size w y33 ∧ CV y33 o7 m7 (rqS z nt T S q L G) ∧ CV y33 o9 m9 (rpS zs qs Ls Gs) ∧ QV y33 (.agg #[.int .i64 (zq : Int), .slice oty32 nq cty32, .string Sq, .slice oay32 qr cay32]) zq nq Tq Sq qr Lq Gq ∧ Blk y33 y32.heap.size #[.int .i64 (zq : Int), .slice oty32 nq cty32, .string Sq, .slice oay32 qr cay32] 44) := Lib.hid ⟨Blk.below (K6.out.1) hlT.2.1 (Blk.lt (K6.out.1)), Blk.below (K6.out.2.1) hlT.2.1 (Blk.lt (K6.out.2.1)), (K6.out.2.2.1).trans (hlT.2.1.mono (K6.out.2.2.1).size), (K6.out.2.2.2.1).later hlT.2.1, (K6.out.2.2.2.2.1).later hlT.2.1, (K6.out.2.2.2.2.2).later hlT.2.1, hlT.1⟩
              clear K6
              clear hlT
              have d0 : y33.cell? ⟨y32.heap.size, 0, none⟩ = some (.int .i64 (zq : Int)) := by rw [Blk.cell (K7.out.2.2.2.2.2.2)]; rfl
              rcases HTQ.out with ⟨hk0, hS0, hK0⟩ | ⟨hk0, hz0⟩
              · have hvx := hrx.nil hk0
                subst hvx
                obtain ⟨p1, p2, p3, p4, hpe, p5, p6, p7, p8, p9, p10, p11, p12⟩ := K7.out.2.2.2.2.2.1
                cases hpe
                have HEN : Hid (Calls Tryd.prog 22 #[.agg #[.int .i64 (zq : Int), .slice oty32 nq cty32, .string Sq, .slice oay32 qr cay32]] y33 fun e w' => ∃ o m c, e = .returned (.tuple #[.slice o m c, .nilIface]) ∧ CV w' o m (strF n B) ∧ Below y33.heap.size y33 w') := Lib.hid (by
                  refine (rq_enc zq oty32 oay32 nq cty32 qr cay32 Sq Tq Lq Gq y33 HZQ.out.1 HZQ.out.2.1 p5 p7 p8 p6 p9 p11 p12 p10 HZQ.out.2.2.1 HZQ.out.2.2.2).mono ?_
                  rintro e w' ⟨o, m, c, v, h1, h2, _, _, h3, h4⟩
                  rw [hS0] at h2
                  have := h3.nil hK0
                  subst this
                  exact ⟨o, m, c, h1, h2, h4⟩)
                clear hk0 hS0 hK0 p5 p6 p7 p8 p9 p10 p11 p12 hrx
                go_wp2_with (first | (refine wpList_store_mid rfl 44 (.tmp 15) (.tmp 88) rfl y32.heap.size 0 #[.int .i64 (zq : Int), .slice oty32 nq cty32, .string Sq, .slice oay32 qr cay32] rfl rfl HTHT.out (infoR _ rfl) (one4 _ _ _ _ ⟨rfl, rfl, rfl, rfl⟩) ?_; rw [hnT]) | (refine wpList_load_row rfl 44 (.tmp 15) rfl y32.heap.size rfl 44 #[.int .i64 (zq : Int), .slice oty32 nq cty32, .string Sq, .slice oay32 qr cay32] (0, 0) _ (K7.out.2.2.2.2.2.2) Tryd.underlying44 rfl (infoR _ rfl) ?_))
                refine HEN.out.mono ?_
                clear HEN hzT HTHT hnT d0
                rintro e y34 ⟨o17, m17, c17, rfl, x17, hcy32⟩
                have K8 : Hid (Blk y34 w.heap.size #[.int .i64 z, .slice ot nt ct, .string S, .slice oa q ca] 36 ∧ Blk y34 wa.heap.size #[.int .i64 zs, .slice os qs cs] 38 ∧ Below w.heap.size w y34 ∧ CV y34 o7 m7 (rqS z nt T S q L G) ∧ CV y34 o9 m9 (rpS zs qs Ls Gs) ∧ QV y34 (.agg #[.int .i64 (zq : Int), .slice oty32 nq cty32, .string Sq, .slice oay32 qr cay32]) zq nq Tq Sq qr Lq Gq ∧ Blk y34 y32.heap.size #[.int .i64 (zq : Int), .slice oty32 nq cty32, .string Sq, .slice oay32 qr cay32] 44 ∧ CV y34 o17 m17 (strF n B)) := Lib.hid ⟨Blk.below (K7.out.1) hcy32 (Blk.lt (K7.out.1)), Blk.below (K7.out.2.1) hcy32 (Blk.lt (K7.out.2.1)), (K7.out.2.2.1).trans (hcy32.mono (K7.out.2.2.1).size), (K7.out.2.2.2.1).later hcy32, (K7.out.2.2.2.2.1).later hcy32, (K7.out.2.2.2.2.2.1).later hcy32, Blk.below (K7.out.2.2.2.2.2.2) hcy32 (Blk.lt (K7.out.2.2.2.2.2.2)), x17⟩
                clear K7
                clear hcy32 x17
                have HCB : Hid (CV y34 ob n (strF n B)) := Lib.hid ⟨B, HB.out _ (K8.out.2.2.1), HBO.out, rfl⟩
                generalize strF n B = SB at *
                go_wp2_with (first
                  | (refine wpList_valueG (by kernel_rfl) (exec_convO (x := .tmp 106) rfl rfl (CV.conv (K8.out.2.2.2.2.2.2.2))) ?_)
                  | (refine wpList_valueG (by kernel_rfl) (exec_convO (x := .tmp 108) rfl rfl HCB.out.conv) ?_))
                refine (req_sure y34 (HG.out.later (K8.out.2.2.1))).mono ?_
                rintro e y35 ⟨rfl, hey32⟩
                have HO := Lib.hid ((K8.out.2.2.1).trans (hey32.mono (K8.out.2.2.1).size))
                clear hey32
                go_wp2_with fail
                go_ret
                exact ⟨rfl, HO.out⟩
              · have hvx := hrx.some (Nat.pos_of_ne_zero hk0)
                subst hvx
                rw [hz0] at d0
                have d1 : y33.cell? ⟨y32.heap.size, 0, none⟩ = some (.int .i64 0) := d0
                clear hk0 hrx hz0 d0
                go_wp2_with (first | (refine wpList_store_mid rfl 44 (.tmp 15) (.tmp 88) rfl y32.heap.size 0 #[.int .i64 (zq : Int), .slice oty32 nq cty32, .string Sq, .slice oay32 qr cay32] rfl rfl HTHT.out (infoR _ rfl) (one4 _ _ _ _ ⟨rfl, rfl, rfl, rfl⟩) ?_; rw [hnT]))
                refine (req_sure y33 (HG.out.later (K7.out.2.2.1))).mono ?_
                rintro e y35 ⟨rfl, hey32⟩
                have HO := Lib.hid ((K7.out.2.2.1).trans (hey32.mono (K7.out.2.2.1).size))
                clear hey32
                go_wp2_with fail
                go_ret
                exact ⟨rfl, HO.out⟩
end Go.Proofs.YtmabhjifldafaaaDoor
