/- RequestForms walked. -/
import Derived.Test.YtmabhjifldafaaaDoorRqA
namespace Go.Proofs.YtmabhjifldafaaaDoor
set_option linter.unusedVariables false
set_option linter.unusedSimpArgs false
open Go.RowKit

/-- The program and the document, side by side. -/
theorem decq_pair (ob : Option Addr) (n cn : Nat) (B : Nat → Nat) (hn : n ≤ cn) (hcn : cn ≤ maxLen) : ∃ (zq nq : Nat) (T : Nat → Nat) (S : ByteArray) (q : Nat) (L : Nat → Nat) (G : Nat → Nat → Nat) (k : Nat),
    (∀ w, Bytes w ob n B → Calls Tryd.prog 24 #[.slice ob n cn] w fun e w' => ∃ r v, e = .returned (.tuple #[r, v]) ∧ QV w' r zq nq T S q L G ∧ Er v k ∧ Below w.heap.size w w') ∧
    (∀ w, Bytes w ob n B → Calls Tryd.prog 25 #[.slice ob n cn] w fun e w' => ∃ r, e = .returned (.tuple #[r, .int .i64 (k : Nat)]) ∧ QV w' r zq nq T S q L G ∧ Below w.heap.size w w') :=
  ⟨_, _, _, _, _, _, _, _, fun w h => dec_q ob n cn B w h hn hcn, fun w h => rdec_q ob n cn B w h hn hcn⟩
theorem decp_pair (ob : Option Addr) (n cn : Nat) (B : Nat → Nat) (hn : n ≤ cn) (hcn : cn ≤ maxLen) : ∃ (zq : Nat) (q : Nat) (L : Nat → Nat) (G : Nat → Nat → Nat) (k : Nat),
    (∀ w, Bytes w ob n B → Calls Tryd.prog 28 #[.slice ob n cn] w fun e w' => ∃ r v, e = .returned (.tuple #[r, v]) ∧ PV w' r zq q L G ∧ Er v k ∧ Below w.heap.size w w') ∧
    (∀ w, Bytes w ob n B → Calls Tryd.prog 29 #[.slice ob n cn] w fun e w' => ∃ r, e = .returned (.tuple #[r, .int .i64 (k : Nat)]) ∧ PV w' r zq q L G ∧ Below w.heap.size w w') :=
  ⟨_, _, _, _, _, fun w h => dec_p ob n cn B w h hn hcn, fun w h => rdec_p ob n cn B w h hn hcn⟩
theorem exec_loadW {o : Oper} {a : Act} {w : World} {ty : TypeId} {x : Operand} {g : Nat} {C : Array Value} {d : TypeDesc} (ho : o.op = .load ty x) (hx : a.eval x = .pointer (some ⟨g, 0, none⟩)) (hB : Blk w g C ty) (hu : Tryd.prog.underlying ty = some d) (hd : d.isRow = true) (hi : (Tryd.prog.info? ty).map (·.size) = some C.size) :
    (execOp a.eval o).run Tryd.prog w = .ok (.value (.agg C)) w := by
  have h := exec_loadM (cs := C.toList) (f := 0) ho hx (Blk.range (C := C.toList) (by simpa using hB)) hu hd (by simpa using hi)
  simpa using h
/-- A struct's block, made and stored. -/
theorem laidS (w : World) (Z C : Array Value) (T : TypeId) (hs : C.size = Z.size) : Blk ((w.alloc (.cells Z T)).setCells w.heap.size 0 C.toList) w.heap.size C T ∧ Below w.heap.size w ((w.alloc (.cells Z T)).setCells w.heap.size 0 C.toList) ∧ (w.alloc (.cells Z T)).there w.heap.size 0 C.size := by
  have h1 : Blk (w.alloc (.cells Z T)) w.heap.size Z T := Blk.new _ _ _
  have h2 : Below w.heap.size w (w.alloc (.cells Z T)) := (Below.refl _ _).alloc (Nat.le_refl _) _
  exact ⟨Blk.whole h1 hs, h2.trans ((Own.setCells _ 0 _).below (Nat.le_refl _) h2.size), Blk.thereAll h1 _ (Nat.le_of_eq hs)⟩
set_option maxRecDepth 100000 in
set_option maxHeartbeats 8000000 in
theorem reqforms_any (z : Int) (ot : Option Addr) (nt ct : Nat) (T : Nat → Nat) (S : ByteArray) (oa : Option Addr) (q ca : Nat) (L : Nat → Nat) (G : Nat → Nat → Nat) (zs : Int) (os : Option Addr) (qs cs : Nat) (Ls : Nat → Nat) (Gs : Nat → Nat → Nat) (ob : Option Addr) (n cn : Nat) (B : Nat → Nat) (w : World)
    (h1 : -9223372036854775808 ≤ z) (h2 : z ≤ 9223372036854775807) (h3 : -9223372036854775808 ≤ zs) (h4 : zs ≤ 9223372036854775807)
    (hT : Bytes w ot nt T) (hnt : nt ≤ ct) (hct : ct ≤ maxLen) (hno : ot = none → nt = 0) (hL : LBs w oa q L G) (hq : q ≤ ca) (hca : ca ≤ maxLen) (hqo : oa = none → q = 0) (hS : S.size ≤ maxLen)
    (hLs : LBs w os qs Ls Gs) (hqs : qs ≤ cs) (hcs : cs ≤ maxLen) (hqso : os = none → qs = 0) (hB : Bytes w ob n B) (hbo : ob = none → n = 0) (hn : n ≤ cn) (hcn : cn ≤ maxLen) (hg : HNV w) :
    Calls Tryd.prog 4 #[.agg #[.int .i64 z, .slice ot nt ct, .string S, .slice oa q ca], .agg #[.int .i64 zs, .slice os qs cs], .slice ob n cn] w fun e w' => e = .returned (.bool true) ∧ Below w.heap.size w w' := by
  obtain ⟨zq, nq, Tq, Sq, qr, Lq, Gq, kq, hD1, hD2⟩ := decq_pair ob n cn B hn hcn
  have HD1 := Lib.hid hD1
  have HD2 := Lib.hid hD2
  obtain ⟨zp, qp, Lp, Gp, kp, hP1, hP2⟩ := decp_pair ob n cn B hn hcn
  have HP1 := Lib.hid hP1
  have HP2 := Lib.hid hP2
  clear hD1 hD2 hP1 hP2
  have HG := Lib.hid hg
  have HT : Hid (∀ w', Below w.heap.size w w' → Bytes w' ot nt T) := Lib.hid fun w' h => hT.later h
  have HL : Hid (∀ w', Below w.heap.size w w' → LBs w' oa q L G) := Lib.hid fun w' h => hL.later h
  have HLs : Hid (∀ w', Below w.heap.size w w' → LBs w' os qs Ls Gs) := Lib.hid fun w' h => hLs.later h
  have HB : Hid (∀ w', Below w.heap.size w w' → Bytes w' ob n B) := Lib.hid fun w' h => hB.later h
  have HN : Hid (nt ≤ ct ∧ ct ≤ maxLen ∧ (ot = none → nt = 0) ∧ q ≤ ca ∧ ca ≤ maxLen ∧ (oa = none → q = 0) ∧ qs ≤ cs ∧ cs ≤ maxLen ∧ (os = none → qs = 0) ∧ n ≤ cn ∧ cn ≤ maxLen ∧ S.size ≤ maxLen) := Lib.hid ⟨hnt, hct, hno, hq, hca, hqo, hqs, hcs, hqso, hn, hcn, hS⟩
  have HZ : Hid (-9223372036854775808 ≤ z ∧ z ≤ 9223372036854775807 ∧ -9223372036854775808 ≤ zs ∧ zs ≤ 9223372036854775807) := Lib.hid ⟨h1, h2, h3, h4⟩
  have n0 : (nt : Int) ≤ 9223372036854775807 := by unfold maxLen at hct; omega
  have n1 : (S.size : Int) ≤ 9223372036854775807 := by unfold maxLen at hS; omega
  have n2 : (n : Int) ≤ 9223372036854775807 := by unfold maxLen at hcn; omega
  obtain ⟨wa, hwa⟩ : ∃ x, w.alloc (.cells #[.int .i64 z, .slice ot nt ct, .string S, .slice oa q ca] 36) = x := ⟨_, rfl⟩
  obtain ⟨wb, hwb⟩ : ∃ x, wa.alloc (.cells #[.int .i64 zs, .slice os qs cs] 38) = x := ⟨_, rfl⟩
  have hba : Below w.heap.size w wa := by rw [← hwa]; exact (Below.refl _ _).alloc (Nat.le_refl _) _
  have hbb : Below wa.heap.size wa wb := by rw [← hwb]; exact (Below.refl _ _).alloc (Nat.le_refl _) _
  have hB3 : Blk wa w.heap.size #[.int .i64 z, .slice ot nt ct, .string S, .slice oa q ca] 36 := by rw [← hwa]; exact Blk.new _ _ _
  have hB4 : Blk wb wa.heap.size #[.int .i64 zs, .slice os qs cs] 38 := by rw [← hwb]; exact Blk.new _ _ _
  have K1 : Hid (Blk wb w.heap.size #[.int .i64 z, .slice ot nt ct, .string S, .slice oa q ca] 36 ∧ Blk wb wa.heap.size #[.int .i64 zs, .slice os qs cs] 38 ∧ Below w.heap.size w wb) := Lib.hid ⟨Blk.below hB3 hbb (Blk.lt hB3), hB4, hba.trans (hbb.mono hba.size)⟩
  clear hba hbb hB3 hB4 hT hL hLs hB hnt hct hno hq hca hqo hqs hcs hqso hn hcn hS hg h1 h2 h3 h4
  have a33 : wb.cell? ⟨w.heap.size, 3, none⟩ = some (.slice oa q ca) := by rw [Blk.cell (K1.out.1)]; rfl
  go_enter Tryd.func4, Tryd.ntmps4
  go_wp2_with fail
  refine (big_any32 oa q ca L G wb (HL.out _ (K1.out.2.2)) (by have := HN.out; omega)).mono ?_
  rintro e w1 ⟨hb1, hr1⟩
  have K2 : Hid (Blk w1 w.heap.size #[.int .i64 z, .slice ot nt ct, .string S, .slice oa q ca] 36 ∧ Blk w1 wa.heap.size #[.int .i64 zs, .slice os qs cs] 38 ∧ Below w.heap.size w w1) := Lib.hid ⟨Blk.below (K1.out.1) hb1 (Blk.lt (K1.out.1)), Blk.below (K1.out.2.1) hb1 (Blk.lt (K1.out.2.1)), (K1.out.2.2).trans (hb1.mono (K1.out.2.2).size)⟩
  clear K1
  clear hb1 a33 hwa hwb
  rcases hr1 with rfl | ⟨rfl, hq40, hl3⟩
  · have h0 : True := trivial
    go_wp2_with fail
    refine (req_sure w1 (HG.out.later (K2.out.2.2))).mono ?_
    rintro e we ⟨rfl, hbe⟩
    have HO := Lib.hid ((K2.out.2.2).trans (hbe.mono (K2.out.2.2).size))
    clear hbe
    go_wp2_with fail
    go_ret
    exact ⟨rfl, HO.out⟩
  · skip
    have a41 : w1.cell? ⟨wa.heap.size, 1, none⟩ = some (.slice os qs cs) := by rw [Blk.cell (K2.out.2.1)]; rfl
    have HQ : Hid (q ≤ 40 ∧ ∀ i, i < q → L i ≤ 100000) := Lib.hid ⟨hq40, fun i hi => by have := hl3 i hi; omega⟩
    have HQ3 : Hid (∀ i, i < q → L i ≤ 60000) := Lib.hid fun i hi => by have := hl3 i hi; omega
    clear hq40 hl3
    go_wp2_with fail
    refine (big_any32 os qs cs Ls Gs w1 (HLs.out _ (K2.out.2.2)) (by have := HN.out; omega)).mono ?_
    rintro e w2 ⟨hb2, hr2⟩
    have K3 : Hid (Blk w2 w.heap.size #[.int .i64 z, .slice ot nt ct, .string S, .slice oa q ca] 36 ∧ Blk w2 wa.heap.size #[.int .i64 zs, .slice os qs cs] 38 ∧ Below w.heap.size w w2) := Lib.hid ⟨Blk.below (K2.out.1) hb2 (Blk.lt (K2.out.1)), Blk.below (K2.out.2.1) hb2 (Blk.lt (K2.out.2.1)), (K2.out.2.2).trans (hb2.mono (K2.out.2.2).size)⟩
    clear K2
    clear hb2 a41
    rcases hr2 with rfl | ⟨rfl, hq40, hl3⟩
    · have h0 : True := trivial
      go_wp2_with fail
      refine (req_sure w2 (HG.out.later (K3.out.2.2))).mono ?_
      rintro e we ⟨rfl, hbe⟩
      have HO := Lib.hid ((K3.out.2.2).trans (hbe.mono (K3.out.2.2).size))
      clear hbe
      go_wp2_with fail
      go_ret
      exact ⟨rfl, HO.out⟩
    · skip
      have a31 : w2.cell? ⟨w.heap.size, 1, none⟩ = some (.slice ot nt ct) := by rw [Blk.cell (K3.out.1)]; rfl
      have a32 : w2.cell? ⟨w.heap.size, 2, none⟩ = some (.string S) := by rw [Blk.cell (K3.out.1)]; rfl
      have HQs : Hid (qs ≤ 1000 ∧ ∀ i, i < qs → Ls i ≤ 100000) := Lib.hid ⟨by omega, fun i hi => by have := hl3 i hi; omega⟩
      have HQs3 : Hid (∀ i, i < qs → Ls i ≤ 60000) := Lib.hid fun i hi => by have := hl3 i hi; omega
      clear hq40 hl3
      have hcs : (200 : Int) < (nt : Int) ∨ (¬ (200 : Int) < (nt : Int) ∧ (200 : Int) < (S.size : Int)) ∨ (¬ (200 : Int) < (nt : Int) ∧ ¬ (200 : Int) < (S.size : Int) ∧ (3000 : Int) < (n : Int)) ∨ (¬ (200 : Int) < (nt : Int) ∧ ¬ (200 : Int) < (S.size : Int) ∧ ¬ (3000 : Int) < (n : Int)) := by omega
      rcases hcs with g1 | ⟨g1, g2⟩ | ⟨g1, g2, g3⟩ | ⟨g1, g2, g3⟩
      · have h0 : True := trivial
        go_wp2_with fail
        refine (req_sure w2 (HG.out.later (K3.out.2.2))).mono ?_
        rintro e we ⟨rfl, hbe⟩
        have HO := Lib.hid ((K3.out.2.2).trans (hbe.mono (K3.out.2.2).size))
        clear hbe
        go_wp2_with fail
        go_ret
        exact ⟨rfl, HO.out⟩
      · have h0 : True := trivial
        go_wp2_with fail
        refine (req_sure w2 (HG.out.later (K3.out.2.2))).mono ?_
        rintro e we ⟨rfl, hbe⟩
        have HO := Lib.hid ((K3.out.2.2).trans (hbe.mono (K3.out.2.2).size))
        clear hbe
        go_wp2_with fail
        go_ret
        exact ⟨rfl, HO.out⟩
      · have h0 : True := trivial
        go_wp2_with fail
        refine (req_sure w2 (HG.out.later (K3.out.2.2))).mono ?_
        rintro e we ⟨rfl, hbe⟩
        have HO := Lib.hid ((K3.out.2.2).trans (hbe.mono (K3.out.2.2).size))
        clear hbe
        go_wp2_with fail
        go_ret
        exact ⟨rfl, HO.out⟩
      · skip
        go_wp2_with (first | (refine wpList_load_row rfl 36 (.tmp 3) rfl w.heap.size rfl 36 #[.int .i64 z, .slice ot nt ct, .string S, .slice oa q ca] (0, 0) _ (K3.out.1) Tryd.underlying36 rfl (infoR2 _ rfl) ?_))
        refine (rq_enc z ot oa nt ct q ca S T L G w2 HZ.out.1 HZ.out.2.1 (HT.out _ (K3.out.2.2)) HN.out.1 HN.out.2.1 HN.out.2.2.1 (HL.out _ (K3.out.2.2)) HN.out.2.2.2.1 HN.out.2.2.2.2.1 HN.out.2.2.2.2.2.1 HQ.out.2 HN.out.2.2.2.2.2.2.2.2.2.2.2).mono ?_
        rintro e w3 ⟨o7, m7, c7, v8, rfl, x7, _, _, hr8, hb3⟩
        have K4 : Hid (Blk w3 w.heap.size #[.int .i64 z, .slice ot nt ct, .string S, .slice oa q ca] 36 ∧ Blk w3 wa.heap.size #[.int .i64 zs, .slice os qs cs] 38 ∧ Below w.heap.size w w3 ∧ CV w3 o7 m7 (rqS z nt T S q L G)) := Lib.hid ⟨Blk.below (K3.out.1) hb3 (Blk.lt (K3.out.1)), Blk.below (K3.out.2.1) hb3 (Blk.lt (K3.out.2.1)), (K3.out.2.2).trans (hb3.mono (K3.out.2.2).size), x7⟩
        clear K3
        clear hb3
        have HV8 := Lib.hid hr8
        clear hr8 x7 a31 a32
        go_wp2_with (first | (refine wpList_load_row rfl 36 (.tmp 3) rfl w.heap.size rfl 36 #[.int .i64 z, .slice ot nt ct, .string S, .slice oa q ca] (0, 0) _ (K4.out.1) Tryd.underlying36 rfl (infoR2 _ rfl) ?_))
        refine (rrq_enc z ot oa nt ct q ca S T L G w3 HZ.out.1 HZ.out.2.1 (HT.out _ (K4.out.2.2.1)) HN.out.1 HN.out.2.1 HN.out.2.2.1 (HL.out _ (K4.out.2.2.1)) HN.out.2.2.2.1 HN.out.2.2.2.2.1 HN.out.2.2.2.2.2.1 HQ.out.2 HN.out.2.2.2.2.2.2.2.2.2.2.2).mono ?_
        rintro e w4 ⟨o9, m9, c9, rfl, x9, hb4⟩
        have K5 : Hid (Blk w4 w.heap.size #[.int .i64 z, .slice ot nt ct, .string S, .slice oa q ca] 36 ∧ Blk w4 wa.heap.size #[.int .i64 zs, .slice os qs cs] 38 ∧ Below w.heap.size w w4 ∧ CV w4 o7 m7 (rqS z nt T S q L G) ∧ CV w4 o9 m9 (rqS z nt T S q L G)) := Lib.hid ⟨Blk.below (K4.out.1) hb4 (Blk.lt (K4.out.1)), Blk.below (K4.out.2.1) hb4 (Blk.lt (K4.out.2.1)), (K4.out.2.2.1).trans (hb4.mono (K4.out.2.2.1).size), (K4.out.2.2.2).later hb4, x9⟩
        clear K4
        clear hb4
        clear x9
        obtain ⟨kE, hkE⟩ : ∃ x, rqK z nt S q L = x := ⟨_, rfl⟩
        rw [hkE]
        rw [hkE] at HV8
        clear hkE
        go_wp2_with fail
        refine (HD1.out w4 (HB.out _ (K5.out.2.2.1))).mono ?_
        rintro e w5 ⟨_, v12, rfl, ⟨ot1, ct1, oa1, ca1, rfl, x1⟩, hr12, hb5⟩
        have K6 : Hid (Blk w5 w.heap.size #[.int .i64 z, .slice ot nt ct, .string S, .slice oa q ca] 36 ∧ Blk w5 wa.heap.size #[.int .i64 zs, .slice os qs cs] 38 ∧ Below w.heap.size w w5 ∧ CV w5 o7 m7 (rqS z nt T S q L G) ∧ CV w5 o9 m9 (rqS z nt T S q L G) ∧ QV w5 (.agg #[.int .i64 (zq : Int), .slice ot1 nq ct1, .string Sq, .slice oa1 qr ca1]) zq nq Tq Sq qr Lq Gq) := Lib.hid ⟨Blk.below (K5.out.1) hb5 (Blk.lt (K5.out.1)), Blk.below (K5.out.2.1) hb5 (Blk.lt (K5.out.2.1)), (K5.out.2.2.1).trans (hb5.mono (K5.out.2.2.1).size), (K5.out.2.2.2.1).later hb5, (K5.out.2.2.2.2).later hb5, ⟨ot1, ct1, oa1, ca1, rfl, x1⟩⟩
        clear K5
        clear hb5 x1
        have hl1 := laidS w5 zeroR #[.int .i64 (zq : Int), .slice ot1 nq ct1, .string Sq, .slice oa1 qr ca1] 44 rfl
        obtain ⟨w6, hn1⟩ : ∃ x, (w5.alloc (.cells zeroR 44)).setCells w5.heap.size 0 (#[.int .i64 (zq : Int), .slice ot1 nq ct1, .string Sq, .slice oa1 qr ca1] : Array Value).toList = x := ⟨_, rfl⟩
        rw [hn1] at hl1
        have HTH1 := Lib.hid hl1.2.2
        have hz1 := zeroR_run
        have K7 : Hid (Blk w6 w.heap.size #[.int .i64 z, .slice ot nt ct, .string S, .slice oa q ca] 36 ∧ Blk w6 wa.heap.size #[.int .i64 zs, .slice os qs cs] 38 ∧ Below w.heap.size w w6 ∧ CV w6 o7 m7 (rqS z nt T S q L G) ∧ CV w6 o9 m9 (rqS z nt T S q L G) ∧ QV w6 (.agg #[.int .i64 (zq : Int), .slice ot1 nq ct1, .string Sq, .slice oa1 qr ca1]) zq nq Tq Sq qr Lq Gq ∧ Blk w6 w5.heap.size #[.int .i64 (zq : Int), .slice ot1 nq ct1, .string Sq, .slice oa1 qr ca1] 44) := Lib.hid ⟨Blk.below (K6.out.1) hl1.2.1 (Blk.lt (K6.out.1)), Blk.below (K6.out.2.1) hl1.2.1 (Blk.lt (K6.out.2.1)), (K6.out.2.2.1).trans (hl1.2.1.mono (K6.out.2.2.1).size), (K6.out.2.2.2.1).later hl1.2.1, (K6.out.2.2.2.2.1).later hl1.2.1, (K6.out.2.2.2.2.2).later hl1.2.1, hl1.1⟩
        clear K6
        clear hl1
        have HV12 := Lib.hid hr12
        clear hr12
        go_wp2_with (first | (refine wpList_store_mid rfl 44 (.tmp 11) (.tmp 62) rfl w5.heap.size 0 #[.int .i64 (zq : Int), .slice ot1 nq ct1, .string Sq, .slice oa1 qr ca1] rfl rfl HTH1.out (infoR _ rfl) (one4 _ _ _ _ ⟨rfl, rfl, rfl, rfl⟩) ?_; rw [hn1]))
        clear hz1 HTH1 hn1
        refine (HD2.out w6 (HB.out _ (K7.out.2.2.1))).mono ?_
        rintro e w7 ⟨_, rfl, ⟨ot2, ct2, oa2, ca2, rfl, x1⟩, hb7⟩
        have K8 : Hid (Blk w7 w.heap.size #[.int .i64 z, .slice ot nt ct, .string S, .slice oa q ca] 36 ∧ Blk w7 wa.heap.size #[.int .i64 zs, .slice os qs cs] 38 ∧ Below w.heap.size w w7 ∧ CV w7 o7 m7 (rqS z nt T S q L G) ∧ CV w7 o9 m9 (rqS z nt T S q L G) ∧ QV w7 (.agg #[.int .i64 (zq : Int), .slice ot1 nq ct1, .string Sq, .slice oa1 qr ca1]) zq nq Tq Sq qr Lq Gq ∧ Blk w7 w5.heap.size #[.int .i64 (zq : Int), .slice ot1 nq ct1, .string Sq, .slice oa1 qr ca1] 44 ∧ QV w7 (.agg #[.int .i64 (zq : Int), .slice ot2 nq ct2, .string Sq, .slice oa2 qr ca2]) zq nq Tq Sq qr Lq Gq) := Lib.hid ⟨Blk.below (K7.out.1) hb7 (Blk.lt (K7.out.1)), Blk.below (K7.out.2.1) hb7 (Blk.lt (K7.out.2.1)), (K7.out.2.2.1).trans (hb7.mono (K7.out.2.2.1).size), (K7.out.2.2.2.1).later hb7, (K7.out.2.2.2.2.1).later hb7, (K7.out.2.2.2.2.2.1).later hb7, Blk.below (K7.out.2.2.2.2.2.2) hb7 (Blk.lt (K7.out.2.2.2.2.2.2)), ⟨ot2, ct2, oa2, ca2, rfl, x1⟩⟩
        clear K7
        clear hb7 x1
        have hl2 := laidS w7 zeroR #[.int .i64 (zq : Int), .slice ot2 nq ct2, .string Sq, .slice oa2 qr ca2] 36 rfl
        obtain ⟨w8, hn2⟩ : ∃ x, (w7.alloc (.cells zeroR 36)).setCells w7.heap.size 0 (#[.int .i64 (zq : Int), .slice ot2 nq ct2, .string Sq, .slice oa2 qr ca2] : Array Value).toList = x := ⟨_, rfl⟩
        rw [hn2] at hl2
        have HTH2 := Lib.hid hl2.2.2
        have hz2 := zeroR_run2
        have K9 : Hid (Blk w8 w.heap.size #[.int .i64 z, .slice ot nt ct, .string S, .slice oa q ca] 36 ∧ Blk w8 wa.heap.size #[.int .i64 zs, .slice os qs cs] 38 ∧ Below w.heap.size w w8 ∧ CV w8 o7 m7 (rqS z nt T S q L G) ∧ CV w8 o9 m9 (rqS z nt T S q L G) ∧ QV w8 (.agg #[.int .i64 (zq : Int), .slice ot1 nq ct1, .string Sq, .slice oa1 qr ca1]) zq nq Tq Sq qr Lq Gq ∧ Blk w8 w5.heap.size #[.int .i64 (zq : Int), .slice ot1 nq ct1, .string Sq, .slice oa1 qr ca1] 44 ∧ QV w8 (.agg #[.int .i64 (zq : Int), .slice ot2 nq ct2, .string Sq, .slice oa2 qr ca2]) zq nq Tq Sq qr Lq Gq ∧ Blk w8 w7.heap.size #[.int .i64 (zq : Int), .slice ot2 nq ct2, .string Sq, .slice oa2 qr ca2] 36) := Lib.hid ⟨Blk.below (K8.out.1) hl2.2.1 (Blk.lt (K8.out.1)), Blk.below (K8.out.2.1) hl2.2.1 (Blk.lt (K8.out.2.1)), (K8.out.2.2.1).trans (hl2.2.1.mono (K8.out.2.2.1).size), (K8.out.2.2.2.1).later hl2.2.1, (K8.out.2.2.2.2.1).later hl2.2.1, (K8.out.2.2.2.2.2.1).later hl2.2.1, Blk.below (K8.out.2.2.2.2.2.2.1) hl2.2.1 (Blk.lt (K8.out.2.2.2.2.2.2.1)), (K8.out.2.2.2.2.2.2.2).later hl2.2.1, hl2.1⟩
        clear K8
        clear hl2
        go_wp2_with (first | (refine wpList_store_mid rfl 36 (.tmp 13) (.tmp 67) rfl w7.heap.size 0 #[.int .i64 (zq : Int), .slice ot2 nq ct2, .string Sq, .slice oa2 qr ca2] rfl rfl HTH2.out (infoR2 _ rfl) (one4 _ _ _ _ ⟨rfl, rfl, rfl, rfl⟩) ?_; rw [hn2]) | (refine wpList_load_row rfl 38 (.tmp 4) rfl wa.heap.size rfl 38 #[.int .i64 zs, .slice os qs cs] (0, 0) _ (K9.out.2.1) Tryd.underlying38 rfl (infoP2 _ rfl) ?_))
        refine (rp_ans zs os qs cs Ls Gs w8 HZ.out.2.2.1 HZ.out.2.2.2 (HLs.out _ (K9.out.2.2.1)) HN.out.2.2.2.2.2.2.1 HN.out.2.2.2.2.2.2.2.1 HN.out.2.2.2.2.2.2.2.2.1 HQs.out.1 HQs.out.2).mono ?_
        rintro e w9 ⟨o15, m15, c15, v16, rfl, x15, _, _, hr16, hb9⟩
        have K10 : Hid (Blk w9 w.heap.size #[.int .i64 z, .slice ot nt ct, .string S, .slice oa q ca] 36 ∧ Blk w9 wa.heap.size #[.int .i64 zs, .slice os qs cs] 38 ∧ Below w.heap.size w w9 ∧ CV w9 o7 m7 (rqS z nt T S q L G) ∧ CV w9 o9 m9 (rqS z nt T S q L G) ∧ QV w9 (.agg #[.int .i64 (zq : Int), .slice ot1 nq ct1, .string Sq, .slice oa1 qr ca1]) zq nq Tq Sq qr Lq Gq ∧ Blk w9 w5.heap.size #[.int .i64 (zq : Int), .slice ot1 nq ct1, .string Sq, .slice oa1 qr ca1] 44 ∧ QV w9 (.agg #[.int .i64 (zq : Int), .slice ot2 nq ct2, .string Sq, .slice oa2 qr ca2]) zq nq Tq Sq qr Lq Gq ∧ Blk w9 w7.heap.size #[.int .i64 (zq : Int), .slice ot2 nq ct2, .string Sq, .slice oa2 qr ca2] 36 ∧ CV w9 o15 m15 (rpS zs qs Ls Gs)) := Lib.hid ⟨Blk.below (K9.out.1) hb9 (Blk.lt (K9.out.1)), Blk.below (K9.out.2.1) hb9 (Blk.lt (K9.out.2.1)), (K9.out.2.2.1).trans (hb9.mono (K9.out.2.2.1).size), (K9.out.2.2.2.1).later hb9, (K9.out.2.2.2.2.1).later hb9, (K9.out.2.2.2.2.2.1).later hb9, Blk.below (K9.out.2.2.2.2.2.2.1) hb9 (Blk.lt (K9.out.2.2.2.2.2.2.1)), (K9.out.2.2.2.2.2.2.2.1).later hb9, Blk.below (K9.out.2.2.2.2.2.2.2.2) hb9 (Blk.lt (K9.out.2.2.2.2.2.2.2.2)), x15⟩
        clear K9
        clear hb9
        have HV16 := Lib.hid hr16
        clear hr16 x15 hz2 HTH2 hn2
        go_wp2_with (first | (refine wpList_load_row rfl 38 (.tmp 4) rfl wa.heap.size rfl 38 #[.int .i64 zs, .slice os qs cs] (0, 0) _ (K10.out.2.1) Tryd.underlying38 rfl (infoP2 _ rfl) ?_))
        refine (rrp_ans zs os qs cs Ls Gs w9 HZ.out.2.2.1 HZ.out.2.2.2 (HLs.out _ (K10.out.2.2.1)) HN.out.2.2.2.2.2.2.1 HN.out.2.2.2.2.2.2.2.1 HN.out.2.2.2.2.2.2.2.2.1 HQs.out.1 HQs.out.2).mono ?_
        rintro e wc ⟨o17, m17, c17, rfl, x17, hb10⟩
        have K11 : Hid (Blk wc w.heap.size #[.int .i64 z, .slice ot nt ct, .string S, .slice oa q ca] 36 ∧ Blk wc wa.heap.size #[.int .i64 zs, .slice os qs cs] 38 ∧ Below w.heap.size w wc ∧ CV wc o7 m7 (rqS z nt T S q L G) ∧ CV wc o9 m9 (rqS z nt T S q L G) ∧ QV wc (.agg #[.int .i64 (zq : Int), .slice ot1 nq ct1, .string Sq, .slice oa1 qr ca1]) zq nq Tq Sq qr Lq Gq ∧ Blk wc w5.heap.size #[.int .i64 (zq : Int), .slice ot1 nq ct1, .string Sq, .slice oa1 qr ca1] 44 ∧ QV wc (.agg #[.int .i64 (zq : Int), .slice ot2 nq ct2, .string Sq, .slice oa2 qr ca2]) zq nq Tq Sq qr Lq Gq ∧ Blk wc w7.heap.size #[.int .i64 (zq : Int), .slice ot2 nq ct2, .string Sq, .slice oa2 qr ca2] 36 ∧ CV wc o15 m15 (rpS zs qs Ls Gs) ∧ CV wc o17 m17 (rpS zs qs Ls Gs)) := Lib.hid ⟨Blk.below (K10.out.1) hb10 (Blk.lt (K10.out.1)), Blk.below (K10.out.2.1) hb10 (Blk.lt (K10.out.2.1)), (K10.out.2.2.1).trans (hb10.mono (K10.out.2.2.1).size), (K10.out.2.2.2.1).later hb10, (K10.out.2.2.2.2.1).later hb10, (K10.out.2.2.2.2.2.1).later hb10, Blk.below (K10.out.2.2.2.2.2.2.1) hb10 (Blk.lt (K10.out.2.2.2.2.2.2.1)), (K10.out.2.2.2.2.2.2.2.1).later hb10, Blk.below (K10.out.2.2.2.2.2.2.2.2.1) hb10 (Blk.lt (K10.out.2.2.2.2.2.2.2.2.1)), (K10.out.2.2.2.2.2.2.2.2.2).later hb10, x17⟩
        clear K10
        clear hb10
        clear x17
        obtain ⟨kA, hkA⟩ : ∃ x, rpK zs qs Ls = x := ⟨_, rfl⟩
        rw [hkA]
        rw [hkA] at HV16
        clear hkA
        go_wp2_with fail
        refine (HP1.out wc (HB.out _ (K11.out.2.2.1))).mono ?_
        rintro e wd ⟨_, v20, rfl, ⟨oa3, ca3, rfl, x1⟩, hr20, hb11⟩
        have K12 : Hid (Blk wd w.heap.size #[.int .i64 z, .slice ot nt ct, .string S, .slice oa q ca] 36 ∧ Blk wd wa.heap.size #[.int .i64 zs, .slice os qs cs] 38 ∧ Below w.heap.size w wd ∧ CV wd o7 m7 (rqS z nt T S q L G) ∧ CV wd o9 m9 (rqS z nt T S q L G) ∧ QV wd (.agg #[.int .i64 (zq : Int), .slice ot1 nq ct1, .string Sq, .slice oa1 qr ca1]) zq nq Tq Sq qr Lq Gq ∧ Blk wd w5.heap.size #[.int .i64 (zq : Int), .slice ot1 nq ct1, .string Sq, .slice oa1 qr ca1] 44 ∧ QV wd (.agg #[.int .i64 (zq : Int), .slice ot2 nq ct2, .string Sq, .slice oa2 qr ca2]) zq nq Tq Sq qr Lq Gq ∧ Blk wd w7.heap.size #[.int .i64 (zq : Int), .slice ot2 nq ct2, .string Sq, .slice oa2 qr ca2] 36 ∧ CV wd o15 m15 (rpS zs qs Ls Gs) ∧ CV wd o17 m17 (rpS zs qs Ls Gs) ∧ PV wd (.agg #[.int .i64 (zp : Int), .slice oa3 qp ca3]) zp qp Lp Gp) := Lib.hid ⟨Blk.below (K11.out.1) hb11 (Blk.lt (K11.out.1)), Blk.below (K11.out.2.1) hb11 (Blk.lt (K11.out.2.1)), (K11.out.2.2.1).trans (hb11.mono (K11.out.2.2.1).size), (K11.out.2.2.2.1).later hb11, (K11.out.2.2.2.2.1).later hb11, (K11.out.2.2.2.2.2.1).later hb11, Blk.below (K11.out.2.2.2.2.2.2.1) hb11 (Blk.lt (K11.out.2.2.2.2.2.2.1)), (K11.out.2.2.2.2.2.2.2.1).later hb11, Blk.below (K11.out.2.2.2.2.2.2.2.2.1) hb11 (Blk.lt (K11.out.2.2.2.2.2.2.2.2.1)), (K11.out.2.2.2.2.2.2.2.2.2.1).later hb11, (K11.out.2.2.2.2.2.2.2.2.2.2).later hb11, ⟨oa3, ca3, rfl, x1⟩⟩
        clear K11
        clear hb11 x1
        have hl5 := laidS wd zeroP #[.int .i64 (zp : Int), .slice oa3 qp ca3] 52 rfl
        obtain ⟨we, hn5⟩ : ∃ x, (wd.alloc (.cells zeroP 52)).setCells wd.heap.size 0 (#[.int .i64 (zp : Int), .slice oa3 qp ca3] : Array Value).toList = x := ⟨_, rfl⟩
        rw [hn5] at hl5
        have HTH5 := Lib.hid hl5.2.2
        have hz5 := zeroP_run
        have K13 : Hid (Blk we w.heap.size #[.int .i64 z, .slice ot nt ct, .string S, .slice oa q ca] 36 ∧ Blk we wa.heap.size #[.int .i64 zs, .slice os qs cs] 38 ∧ Below w.heap.size w we ∧ CV we o7 m7 (rqS z nt T S q L G) ∧ CV we o9 m9 (rqS z nt T S q L G) ∧ QV we (.agg #[.int .i64 (zq : Int), .slice ot1 nq ct1, .string Sq, .slice oa1 qr ca1]) zq nq Tq Sq qr Lq Gq ∧ Blk we w5.heap.size #[.int .i64 (zq : Int), .slice ot1 nq ct1, .string Sq, .slice oa1 qr ca1] 44 ∧ QV we (.agg #[.int .i64 (zq : Int), .slice ot2 nq ct2, .string Sq, .slice oa2 qr ca2]) zq nq Tq Sq qr Lq Gq ∧ Blk we w7.heap.size #[.int .i64 (zq : Int), .slice ot2 nq ct2, .string Sq, .slice oa2 qr ca2] 36 ∧ CV we o15 m15 (rpS zs qs Ls Gs) ∧ CV we o17 m17 (rpS zs qs Ls Gs) ∧ PV we (.agg #[.int .i64 (zp : Int), .slice oa3 qp ca3]) zp qp Lp Gp ∧ Blk we wd.heap.size #[.int .i64 (zp : Int), .slice oa3 qp ca3] 52) := Lib.hid ⟨Blk.below (K12.out.1) hl5.2.1 (Blk.lt (K12.out.1)), Blk.below (K12.out.2.1) hl5.2.1 (Blk.lt (K12.out.2.1)), (K12.out.2.2.1).trans (hl5.2.1.mono (K12.out.2.2.1).size), (K12.out.2.2.2.1).later hl5.2.1, (K12.out.2.2.2.2.1).later hl5.2.1, (K12.out.2.2.2.2.2.1).later hl5.2.1, Blk.below (K12.out.2.2.2.2.2.2.1) hl5.2.1 (Blk.lt (K12.out.2.2.2.2.2.2.1)), (K12.out.2.2.2.2.2.2.2.1).later hl5.2.1, Blk.below (K12.out.2.2.2.2.2.2.2.2.1) hl5.2.1 (Blk.lt (K12.out.2.2.2.2.2.2.2.2.1)), (K12.out.2.2.2.2.2.2.2.2.2.1).later hl5.2.1, (K12.out.2.2.2.2.2.2.2.2.2.2.1).later hl5.2.1, (K12.out.2.2.2.2.2.2.2.2.2.2.2).later hl5.2.1, hl5.1⟩
        clear K12
        clear hl5
        have HV20 := Lib.hid hr20
        clear hr20
        go_wp2_with (first | (refine wpList_store_mid rfl 52 (.tmp 19) (.tmp 82) rfl wd.heap.size 0 #[.int .i64 (zp : Int), .slice oa3 qp ca3] rfl rfl HTH5.out (infoP _ rfl) (one2 _ _ ⟨rfl, rfl⟩) ?_; rw [hn5]))
        clear hz5 HTH5 hn5
        refine (HP2.out we (HB.out _ (K13.out.2.2.1))).mono ?_
        rintro e wf ⟨_, rfl, ⟨oa4, ca4, rfl, x1⟩, hb12⟩
        have K14 : Hid (Blk wf w.heap.size #[.int .i64 z, .slice ot nt ct, .string S, .slice oa q ca] 36 ∧ Blk wf wa.heap.size #[.int .i64 zs, .slice os qs cs] 38 ∧ Below w.heap.size w wf ∧ CV wf o7 m7 (rqS z nt T S q L G) ∧ CV wf o9 m9 (rqS z nt T S q L G) ∧ QV wf (.agg #[.int .i64 (zq : Int), .slice ot1 nq ct1, .string Sq, .slice oa1 qr ca1]) zq nq Tq Sq qr Lq Gq ∧ Blk wf w5.heap.size #[.int .i64 (zq : Int), .slice ot1 nq ct1, .string Sq, .slice oa1 qr ca1] 44 ∧ QV wf (.agg #[.int .i64 (zq : Int), .slice ot2 nq ct2, .string Sq, .slice oa2 qr ca2]) zq nq Tq Sq qr Lq Gq ∧ Blk wf w7.heap.size #[.int .i64 (zq : Int), .slice ot2 nq ct2, .string Sq, .slice oa2 qr ca2] 36 ∧ CV wf o15 m15 (rpS zs qs Ls Gs) ∧ CV wf o17 m17 (rpS zs qs Ls Gs) ∧ PV wf (.agg #[.int .i64 (zp : Int), .slice oa3 qp ca3]) zp qp Lp Gp ∧ Blk wf wd.heap.size #[.int .i64 (zp : Int), .slice oa3 qp ca3] 52 ∧ PV wf (.agg #[.int .i64 (zp : Int), .slice oa4 qp ca4]) zp qp Lp Gp) := Lib.hid ⟨Blk.below (K13.out.1) hb12 (Blk.lt (K13.out.1)), Blk.below (K13.out.2.1) hb12 (Blk.lt (K13.out.2.1)), (K13.out.2.2.1).trans (hb12.mono (K13.out.2.2.1).size), (K13.out.2.2.2.1).later hb12, (K13.out.2.2.2.2.1).later hb12, (K13.out.2.2.2.2.2.1).later hb12, Blk.below (K13.out.2.2.2.2.2.2.1) hb12 (Blk.lt (K13.out.2.2.2.2.2.2.1)), (K13.out.2.2.2.2.2.2.2.1).later hb12, Blk.below (K13.out.2.2.2.2.2.2.2.2.1) hb12 (Blk.lt (K13.out.2.2.2.2.2.2.2.2.1)), (K13.out.2.2.2.2.2.2.2.2.2.1).later hb12, (K13.out.2.2.2.2.2.2.2.2.2.2.1).later hb12, (K13.out.2.2.2.2.2.2.2.2.2.2.2.1).later hb12, Blk.below (K13.out.2.2.2.2.2.2.2.2.2.2.2.2) hb12 (Blk.lt (K13.out.2.2.2.2.2.2.2.2.2.2.2.2)), ⟨oa4, ca4, rfl, x1⟩⟩
        clear K13
        clear hb12 x1
        have hl6 := laidS wf zeroP #[.int .i64 (zp : Int), .slice oa4 qp ca4] 38 rfl
        obtain ⟨wg, hn6⟩ : ∃ x, (wf.alloc (.cells zeroP 38)).setCells wf.heap.size 0 (#[.int .i64 (zp : Int), .slice oa4 qp ca4] : Array Value).toList = x := ⟨_, rfl⟩
        rw [hn6] at hl6
        have HTH6 := Lib.hid hl6.2.2
        have hz6 := zeroP_run2
        have K15 : Hid (Blk wg w.heap.size #[.int .i64 z, .slice ot nt ct, .string S, .slice oa q ca] 36 ∧ Blk wg wa.heap.size #[.int .i64 zs, .slice os qs cs] 38 ∧ Below w.heap.size w wg ∧ CV wg o7 m7 (rqS z nt T S q L G) ∧ CV wg o9 m9 (rqS z nt T S q L G) ∧ QV wg (.agg #[.int .i64 (zq : Int), .slice ot1 nq ct1, .string Sq, .slice oa1 qr ca1]) zq nq Tq Sq qr Lq Gq ∧ Blk wg w5.heap.size #[.int .i64 (zq : Int), .slice ot1 nq ct1, .string Sq, .slice oa1 qr ca1] 44 ∧ QV wg (.agg #[.int .i64 (zq : Int), .slice ot2 nq ct2, .string Sq, .slice oa2 qr ca2]) zq nq Tq Sq qr Lq Gq ∧ Blk wg w7.heap.size #[.int .i64 (zq : Int), .slice ot2 nq ct2, .string Sq, .slice oa2 qr ca2] 36 ∧ CV wg o15 m15 (rpS zs qs Ls Gs) ∧ CV wg o17 m17 (rpS zs qs Ls Gs) ∧ PV wg (.agg #[.int .i64 (zp : Int), .slice oa3 qp ca3]) zp qp Lp Gp ∧ Blk wg wd.heap.size #[.int .i64 (zp : Int), .slice oa3 qp ca3] 52 ∧ PV wg (.agg #[.int .i64 (zp : Int), .slice oa4 qp ca4]) zp qp Lp Gp ∧ Blk wg wf.heap.size #[.int .i64 (zp : Int), .slice oa4 qp ca4] 38) := Lib.hid ⟨Blk.below (K14.out.1) hl6.2.1 (Blk.lt (K14.out.1)), Blk.below (K14.out.2.1) hl6.2.1 (Blk.lt (K14.out.2.1)), (K14.out.2.2.1).trans (hl6.2.1.mono (K14.out.2.2.1).size), (K14.out.2.2.2.1).later hl6.2.1, (K14.out.2.2.2.2.1).later hl6.2.1, (K14.out.2.2.2.2.2.1).later hl6.2.1, Blk.below (K14.out.2.2.2.2.2.2.1) hl6.2.1 (Blk.lt (K14.out.2.2.2.2.2.2.1)), (K14.out.2.2.2.2.2.2.2.1).later hl6.2.1, Blk.below (K14.out.2.2.2.2.2.2.2.2.1) hl6.2.1 (Blk.lt (K14.out.2.2.2.2.2.2.2.2.1)), (K14.out.2.2.2.2.2.2.2.2.2.1).later hl6.2.1, (K14.out.2.2.2.2.2.2.2.2.2.2.1).later hl6.2.1, (K14.out.2.2.2.2.2.2.2.2.2.2.2.1).later hl6.2.1, Blk.below (K14.out.2.2.2.2.2.2.2.2.2.2.2.2.1) hl6.2.1 (Blk.lt (K14.out.2.2.2.2.2.2.2.2.2.2.2.2.1)), (K14.out.2.2.2.2.2.2.2.2.2.2.2.2.2).later hl6.2.1, hl6.1⟩
        clear K14
        clear hl6
        go_wp2_with (first | (refine wpList_store_mid rfl 38 (.tmp 21) (.tmp 87) rfl wf.heap.size 0 #[.int .i64 (zp : Int), .slice oa4 qp ca4] rfl rfl HTH6.out (infoP2 _ rfl) (one2 _ _ ⟨rfl, rfl⟩) ?_; rw [hn6]) | (refine wpList_valueG (by kernel_rfl) (exec_convO (x := .tmp 89) rfl rfl (CV.conv (K15.out.2.2.2.1))) ?_) | (refine wpList_valueG (by kernel_rfl) (exec_convO (x := .tmp 91) rfl rfl (CV.conv (K15.out.2.2.2.2.1))) ?_))
        refine (er_any32 v8 kE wg HV8.out (HG.out.later (K15.out.2.2.1)).1).mono ?_
        rintro e y1 ⟨rfl, hc1⟩
        have K16 : Hid (Blk y1 w.heap.size #[.int .i64 z, .slice ot nt ct, .string S, .slice oa q ca] 36 ∧ Blk y1 wa.heap.size #[.int .i64 zs, .slice os qs cs] 38 ∧ Below w.heap.size w y1 ∧ CV y1 o7 m7 (rqS z nt T S q L G) ∧ CV y1 o9 m9 (rqS z nt T S q L G) ∧ QV y1 (.agg #[.int .i64 (zq : Int), .slice ot1 nq ct1, .string Sq, .slice oa1 qr ca1]) zq nq Tq Sq qr Lq Gq ∧ Blk y1 w5.heap.size #[.int .i64 (zq : Int), .slice ot1 nq ct1, .string Sq, .slice oa1 qr ca1] 44 ∧ QV y1 (.agg #[.int .i64 (zq : Int), .slice ot2 nq ct2, .string Sq, .slice oa2 qr ca2]) zq nq Tq Sq qr Lq Gq ∧ Blk y1 w7.heap.size #[.int .i64 (zq : Int), .slice ot2 nq ct2, .string Sq, .slice oa2 qr ca2] 36 ∧ CV y1 o15 m15 (rpS zs qs Ls Gs) ∧ CV y1 o17 m17 (rpS zs qs Ls Gs) ∧ PV y1 (.agg #[.int .i64 (zp : Int), .slice oa3 qp ca3]) zp qp Lp Gp ∧ Blk y1 wd.heap.size #[.int .i64 (zp : Int), .slice oa3 qp ca3] 52 ∧ PV y1 (.agg #[.int .i64 (zp : Int), .slice oa4 qp ca4]) zp qp Lp Gp ∧ Blk y1 wf.heap.size #[.int .i64 (zp : Int), .slice oa4 qp ca4] 38) := Lib.hid ⟨Blk.below (K15.out.1) hc1 (Blk.lt (K15.out.1)), Blk.below (K15.out.2.1) hc1 (Blk.lt (K15.out.2.1)), (K15.out.2.2.1).trans (hc1.mono (K15.out.2.2.1).size), (K15.out.2.2.2.1).later hc1, (K15.out.2.2.2.2.1).later hc1, (K15.out.2.2.2.2.2.1).later hc1, Blk.below (K15.out.2.2.2.2.2.2.1) hc1 (Blk.lt (K15.out.2.2.2.2.2.2.1)), (K15.out.2.2.2.2.2.2.2.1).later hc1, Blk.below (K15.out.2.2.2.2.2.2.2.2.1) hc1 (Blk.lt (K15.out.2.2.2.2.2.2.2.2.1)), (K15.out.2.2.2.2.2.2.2.2.2.1).later hc1, (K15.out.2.2.2.2.2.2.2.2.2.2.1).later hc1, (K15.out.2.2.2.2.2.2.2.2.2.2.2.1).later hc1, Blk.below (K15.out.2.2.2.2.2.2.2.2.2.2.2.2.1) hc1 (Blk.lt (K15.out.2.2.2.2.2.2.2.2.2.2.2.2.1)), (K15.out.2.2.2.2.2.2.2.2.2.2.2.2.2.1).later hc1, Blk.below (K15.out.2.2.2.2.2.2.2.2.2.2.2.2.2.2) hc1 (Blk.lt (K15.out.2.2.2.2.2.2.2.2.2.2.2.2.2.2))⟩
        clear K15
        clear hc1
        clear hz6 HTH6 hn6
        go_wp2_with (first | (refine wpList_valueG (by kernel_rfl) (exec_loadW (C := #[.int .i64 (zq : Int), .slice ot1 nq ct1, .string Sq, .slice oa1 qr ca1]) rfl rfl (K16.out.2.2.2.2.2.2.1) Tryd.underlying44 rfl (infoR _ rfl)) ?_) | (refine wpList_valueG (by kernel_rfl) (exec_loadW (C := #[.int .i64 (zq : Int), .slice ot2 nq ct2, .string Sq, .slice oa2 qr ca2]) rfl rfl (K16.out.2.2.2.2.2.2.2.2.1) Tryd.underlying36 rfl (infoR2 _ rfl)) ?_))
        refine (isreq_any _ _ zq nq Tq Sq qr Lq Gq y1 (K16.out.2.2.2.2.2.1) (K16.out.2.2.2.2.2.2.2.1)).mono ?_
        rintro e y2 ⟨rfl, hc2⟩
        have K17 : Hid (Blk y2 w.heap.size #[.int .i64 z, .slice ot nt ct, .string S, .slice oa q ca] 36 ∧ Blk y2 wa.heap.size #[.int .i64 zs, .slice os qs cs] 38 ∧ Below w.heap.size w y2 ∧ CV y2 o7 m7 (rqS z nt T S q L G) ∧ CV y2 o9 m9 (rqS z nt T S q L G) ∧ QV y2 (.agg #[.int .i64 (zq : Int), .slice ot1 nq ct1, .string Sq, .slice oa1 qr ca1]) zq nq Tq Sq qr Lq Gq ∧ Blk y2 w5.heap.size #[.int .i64 (zq : Int), .slice ot1 nq ct1, .string Sq, .slice oa1 qr ca1] 44 ∧ QV y2 (.agg #[.int .i64 (zq : Int), .slice ot2 nq ct2, .string Sq, .slice oa2 qr ca2]) zq nq Tq Sq qr Lq Gq ∧ Blk y2 w7.heap.size #[.int .i64 (zq : Int), .slice ot2 nq ct2, .string Sq, .slice oa2 qr ca2] 36 ∧ CV y2 o15 m15 (rpS zs qs Ls Gs) ∧ CV y2 o17 m17 (rpS zs qs Ls Gs) ∧ PV y2 (.agg #[.int .i64 (zp : Int), .slice oa3 qp ca3]) zp qp Lp Gp ∧ Blk y2 wd.heap.size #[.int .i64 (zp : Int), .slice oa3 qp ca3] 52 ∧ PV y2 (.agg #[.int .i64 (zp : Int), .slice oa4 qp ca4]) zp qp Lp Gp ∧ Blk y2 wf.heap.size #[.int .i64 (zp : Int), .slice oa4 qp ca4] 38) := Lib.hid ⟨Blk.below (K16.out.1) hc2 (Blk.lt (K16.out.1)), Blk.below (K16.out.2.1) hc2 (Blk.lt (K16.out.2.1)), (K16.out.2.2.1).trans (hc2.mono (K16.out.2.2.1).size), (K16.out.2.2.2.1).later hc2, (K16.out.2.2.2.2.1).later hc2, (K16.out.2.2.2.2.2.1).later hc2, Blk.below (K16.out.2.2.2.2.2.2.1) hc2 (Blk.lt (K16.out.2.2.2.2.2.2.1)), (K16.out.2.2.2.2.2.2.2.1).later hc2, Blk.below (K16.out.2.2.2.2.2.2.2.2.1) hc2 (Blk.lt (K16.out.2.2.2.2.2.2.2.2.1)), (K16.out.2.2.2.2.2.2.2.2.2.1).later hc2, (K16.out.2.2.2.2.2.2.2.2.2.2.1).later hc2, (K16.out.2.2.2.2.2.2.2.2.2.2.2.1).later hc2, Blk.below (K16.out.2.2.2.2.2.2.2.2.2.2.2.2.1) hc2 (Blk.lt (K16.out.2.2.2.2.2.2.2.2.2.2.2.2.1)), (K16.out.2.2.2.2.2.2.2.2.2.2.2.2.2.1).later hc2, Blk.below (K16.out.2.2.2.2.2.2.2.2.2.2.2.2.2.2) hc2 (Blk.lt (K16.out.2.2.2.2.2.2.2.2.2.2.2.2.2.2))⟩
        clear K16
        clear hc2
        go_wp2_with (first | fail)
        refine (er_any32 v12 kq y2 HV12.out (HG.out.later (K17.out.2.2.1)).1).mono ?_
        rintro e y3 ⟨rfl, hc3⟩
        have K18 : Hid (Blk y3 w.heap.size #[.int .i64 z, .slice ot nt ct, .string S, .slice oa q ca] 36 ∧ Blk y3 wa.heap.size #[.int .i64 zs, .slice os qs cs] 38 ∧ Below w.heap.size w y3 ∧ CV y3 o7 m7 (rqS z nt T S q L G) ∧ CV y3 o9 m9 (rqS z nt T S q L G) ∧ QV y3 (.agg #[.int .i64 (zq : Int), .slice ot1 nq ct1, .string Sq, .slice oa1 qr ca1]) zq nq Tq Sq qr Lq Gq ∧ Blk y3 w5.heap.size #[.int .i64 (zq : Int), .slice ot1 nq ct1, .string Sq, .slice oa1 qr ca1] 44 ∧ QV y3 (.agg #[.int .i64 (zq : Int), .slice ot2 nq ct2, .string Sq, .slice oa2 qr ca2]) zq nq Tq Sq qr Lq Gq ∧ Blk y3 w7.heap.size #[.int .i64 (zq : Int), .slice ot2 nq ct2, .string Sq, .slice oa2 qr ca2] 36 ∧ CV y3 o15 m15 (rpS zs qs Ls Gs) ∧ CV y3 o17 m17 (rpS zs qs Ls Gs) ∧ PV y3 (.agg #[.int .i64 (zp : Int), .slice oa3 qp ca3]) zp qp Lp Gp ∧ Blk y3 wd.heap.size #[.int .i64 (zp : Int), .slice oa3 qp ca3] 52 ∧ PV y3 (.agg #[.int .i64 (zp : Int), .slice oa4 qp ca4]) zp qp Lp Gp ∧ Blk y3 wf.heap.size #[.int .i64 (zp : Int), .slice oa4 qp ca4] 38) := Lib.hid ⟨Blk.below (K17.out.1) hc3 (Blk.lt (K17.out.1)), Blk.below (K17.out.2.1) hc3 (Blk.lt (K17.out.2.1)), (K17.out.2.2.1).trans (hc3.mono (K17.out.2.2.1).size), (K17.out.2.2.2.1).later hc3, (K17.out.2.2.2.2.1).later hc3, (K17.out.2.2.2.2.2.1).later hc3, Blk.below (K17.out.2.2.2.2.2.2.1) hc3 (Blk.lt (K17.out.2.2.2.2.2.2.1)), (K17.out.2.2.2.2.2.2.2.1).later hc3, Blk.below (K17.out.2.2.2.2.2.2.2.2.1) hc3 (Blk.lt (K17.out.2.2.2.2.2.2.2.2.1)), (K17.out.2.2.2.2.2.2.2.2.2.1).later hc3, (K17.out.2.2.2.2.2.2.2.2.2.2.1).later hc3, (K17.out.2.2.2.2.2.2.2.2.2.2.2.1).later hc3, Blk.below (K17.out.2.2.2.2.2.2.2.2.2.2.2.2.1) hc3 (Blk.lt (K17.out.2.2.2.2.2.2.2.2.2.2.2.2.1)), (K17.out.2.2.2.2.2.2.2.2.2.2.2.2.2.1).later hc3, Blk.below (K17.out.2.2.2.2.2.2.2.2.2.2.2.2.2.2) hc3 (Blk.lt (K17.out.2.2.2.2.2.2.2.2.2.2.2.2.2.2))⟩
        clear K17
        clear hc3
        go_wp2_with (first | (refine wpList_valueG (by kernel_rfl) (exec_convO (x := .tmp 112) rfl rfl (CV.conv (K18.out.2.2.2.2.2.2.2.2.2.1))) ?_) | (refine wpList_valueG (by kernel_rfl) (exec_convO (x := .tmp 114) rfl rfl (CV.conv (K18.out.2.2.2.2.2.2.2.2.2.2.1))) ?_))
        refine (er_any32 v16 kA y3 HV16.out (HG.out.later (K18.out.2.2.1)).1).mono ?_
        rintro e y4 ⟨rfl, hc4⟩
        have K19 : Hid (Blk y4 w.heap.size #[.int .i64 z, .slice ot nt ct, .string S, .slice oa q ca] 36 ∧ Blk y4 wa.heap.size #[.int .i64 zs, .slice os qs cs] 38 ∧ Below w.heap.size w y4 ∧ CV y4 o7 m7 (rqS z nt T S q L G) ∧ CV y4 o9 m9 (rqS z nt T S q L G) ∧ QV y4 (.agg #[.int .i64 (zq : Int), .slice ot1 nq ct1, .string Sq, .slice oa1 qr ca1]) zq nq Tq Sq qr Lq Gq ∧ Blk y4 w5.heap.size #[.int .i64 (zq : Int), .slice ot1 nq ct1, .string Sq, .slice oa1 qr ca1] 44 ∧ QV y4 (.agg #[.int .i64 (zq : Int), .slice ot2 nq ct2, .string Sq, .slice oa2 qr ca2]) zq nq Tq Sq qr Lq Gq ∧ Blk y4 w7.heap.size #[.int .i64 (zq : Int), .slice ot2 nq ct2, .string Sq, .slice oa2 qr ca2] 36 ∧ CV y4 o15 m15 (rpS zs qs Ls Gs) ∧ CV y4 o17 m17 (rpS zs qs Ls Gs) ∧ PV y4 (.agg #[.int .i64 (zp : Int), .slice oa3 qp ca3]) zp qp Lp Gp ∧ Blk y4 wd.heap.size #[.int .i64 (zp : Int), .slice oa3 qp ca3] 52 ∧ PV y4 (.agg #[.int .i64 (zp : Int), .slice oa4 qp ca4]) zp qp Lp Gp ∧ Blk y4 wf.heap.size #[.int .i64 (zp : Int), .slice oa4 qp ca4] 38) := Lib.hid ⟨Blk.below (K18.out.1) hc4 (Blk.lt (K18.out.1)), Blk.below (K18.out.2.1) hc4 (Blk.lt (K18.out.2.1)), (K18.out.2.2.1).trans (hc4.mono (K18.out.2.2.1).size), (K18.out.2.2.2.1).later hc4, (K18.out.2.2.2.2.1).later hc4, (K18.out.2.2.2.2.2.1).later hc4, Blk.below (K18.out.2.2.2.2.2.2.1) hc4 (Blk.lt (K18.out.2.2.2.2.2.2.1)), (K18.out.2.2.2.2.2.2.2.1).later hc4, Blk.below (K18.out.2.2.2.2.2.2.2.2.1) hc4 (Blk.lt (K18.out.2.2.2.2.2.2.2.2.1)), (K18.out.2.2.2.2.2.2.2.2.2.1).later hc4, (K18.out.2.2.2.2.2.2.2.2.2.2.1).later hc4, (K18.out.2.2.2.2.2.2.2.2.2.2.2.1).later hc4, Blk.below (K18.out.2.2.2.2.2.2.2.2.2.2.2.2.1) hc4 (Blk.lt (K18.out.2.2.2.2.2.2.2.2.2.2.2.2.1)), (K18.out.2.2.2.2.2.2.2.2.2.2.2.2.2.1).later hc4, Blk.below (K18.out.2.2.2.2.2.2.2.2.2.2.2.2.2.2) hc4 (Blk.lt (K18.out.2.2.2.2.2.2.2.2.2.2.2.2.2.2))⟩
        clear K18
        clear hc4
        go_wp2_with (first | (refine wpList_valueG (by kernel_rfl) (exec_loadW (C := #[.int .i64 (zp : Int), .slice oa3 qp ca3]) rfl rfl (K19.out.2.2.2.2.2.2.2.2.2.2.2.2.1) Tryd.underlying52 rfl (infoP _ rfl)) ?_) | (refine wpList_valueG (by kernel_rfl) (exec_loadW (C := #[.int .i64 (zp : Int), .slice oa4 qp ca4]) rfl rfl (K19.out.2.2.2.2.2.2.2.2.2.2.2.2.2.2) Tryd.underlying38 rfl (infoP2 _ rfl)) ?_))
        refine (isresp_any _ _ zp qp Lp Gp y4 (K19.out.2.2.2.2.2.2.2.2.2.2.2.1) (K19.out.2.2.2.2.2.2.2.2.2.2.2.2.2.1)).mono ?_
        rintro e y5 ⟨rfl, hc5⟩
        have K20 : Hid (Blk y5 w.heap.size #[.int .i64 z, .slice ot nt ct, .string S, .slice oa q ca] 36 ∧ Blk y5 wa.heap.size #[.int .i64 zs, .slice os qs cs] 38 ∧ Below w.heap.size w y5 ∧ CV y5 o7 m7 (rqS z nt T S q L G) ∧ CV y5 o9 m9 (rqS z nt T S q L G) ∧ QV y5 (.agg #[.int .i64 (zq : Int), .slice ot1 nq ct1, .string Sq, .slice oa1 qr ca1]) zq nq Tq Sq qr Lq Gq ∧ Blk y5 w5.heap.size #[.int .i64 (zq : Int), .slice ot1 nq ct1, .string Sq, .slice oa1 qr ca1] 44 ∧ QV y5 (.agg #[.int .i64 (zq : Int), .slice ot2 nq ct2, .string Sq, .slice oa2 qr ca2]) zq nq Tq Sq qr Lq Gq ∧ Blk y5 w7.heap.size #[.int .i64 (zq : Int), .slice ot2 nq ct2, .string Sq, .slice oa2 qr ca2] 36 ∧ CV y5 o15 m15 (rpS zs qs Ls Gs) ∧ CV y5 o17 m17 (rpS zs qs Ls Gs) ∧ PV y5 (.agg #[.int .i64 (zp : Int), .slice oa3 qp ca3]) zp qp Lp Gp ∧ Blk y5 wd.heap.size #[.int .i64 (zp : Int), .slice oa3 qp ca3] 52 ∧ PV y5 (.agg #[.int .i64 (zp : Int), .slice oa4 qp ca4]) zp qp Lp Gp ∧ Blk y5 wf.heap.size #[.int .i64 (zp : Int), .slice oa4 qp ca4] 38) := Lib.hid ⟨Blk.below (K19.out.1) hc5 (Blk.lt (K19.out.1)), Blk.below (K19.out.2.1) hc5 (Blk.lt (K19.out.2.1)), (K19.out.2.2.1).trans (hc5.mono (K19.out.2.2.1).size), (K19.out.2.2.2.1).later hc5, (K19.out.2.2.2.2.1).later hc5, (K19.out.2.2.2.2.2.1).later hc5, Blk.below (K19.out.2.2.2.2.2.2.1) hc5 (Blk.lt (K19.out.2.2.2.2.2.2.1)), (K19.out.2.2.2.2.2.2.2.1).later hc5, Blk.below (K19.out.2.2.2.2.2.2.2.2.1) hc5 (Blk.lt (K19.out.2.2.2.2.2.2.2.2.1)), (K19.out.2.2.2.2.2.2.2.2.2.1).later hc5, (K19.out.2.2.2.2.2.2.2.2.2.2.1).later hc5, (K19.out.2.2.2.2.2.2.2.2.2.2.2.1).later hc5, Blk.below (K19.out.2.2.2.2.2.2.2.2.2.2.2.2.1) hc5 (Blk.lt (K19.out.2.2.2.2.2.2.2.2.2.2.2.2.1)), (K19.out.2.2.2.2.2.2.2.2.2.2.2.2.2.1).later hc5, Blk.below (K19.out.2.2.2.2.2.2.2.2.2.2.2.2.2.2) hc5 (Blk.lt (K19.out.2.2.2.2.2.2.2.2.2.2.2.2.2.2))⟩
        clear K19
        clear hc5
        go_wp2_with (first | fail)
        refine (er_any32 v20 kp y5 HV20.out (HG.out.later (K20.out.2.2.1)).1).mono ?_
        rintro e y6 ⟨rfl, hc6⟩
        have K21 : Hid (Blk y6 w.heap.size #[.int .i64 z, .slice ot nt ct, .string S, .slice oa q ca] 36 ∧ Blk y6 wa.heap.size #[.int .i64 zs, .slice os qs cs] 38 ∧ Below w.heap.size w y6 ∧ CV y6 o7 m7 (rqS z nt T S q L G) ∧ CV y6 o9 m9 (rqS z nt T S q L G) ∧ QV y6 (.agg #[.int .i64 (zq : Int), .slice ot1 nq ct1, .string Sq, .slice oa1 qr ca1]) zq nq Tq Sq qr Lq Gq ∧ Blk y6 w5.heap.size #[.int .i64 (zq : Int), .slice ot1 nq ct1, .string Sq, .slice oa1 qr ca1] 44 ∧ QV y6 (.agg #[.int .i64 (zq : Int), .slice ot2 nq ct2, .string Sq, .slice oa2 qr ca2]) zq nq Tq Sq qr Lq Gq ∧ Blk y6 w7.heap.size #[.int .i64 (zq : Int), .slice ot2 nq ct2, .string Sq, .slice oa2 qr ca2] 36 ∧ CV y6 o15 m15 (rpS zs qs Ls Gs) ∧ CV y6 o17 m17 (rpS zs qs Ls Gs) ∧ PV y6 (.agg #[.int .i64 (zp : Int), .slice oa3 qp ca3]) zp qp Lp Gp ∧ Blk y6 wd.heap.size #[.int .i64 (zp : Int), .slice oa3 qp ca3] 52 ∧ PV y6 (.agg #[.int .i64 (zp : Int), .slice oa4 qp ca4]) zp qp Lp Gp ∧ Blk y6 wf.heap.size #[.int .i64 (zp : Int), .slice oa4 qp ca4] 38) := Lib.hid ⟨Blk.below (K20.out.1) hc6 (Blk.lt (K20.out.1)), Blk.below (K20.out.2.1) hc6 (Blk.lt (K20.out.2.1)), (K20.out.2.2.1).trans (hc6.mono (K20.out.2.2.1).size), (K20.out.2.2.2.1).later hc6, (K20.out.2.2.2.2.1).later hc6, (K20.out.2.2.2.2.2.1).later hc6, Blk.below (K20.out.2.2.2.2.2.2.1) hc6 (Blk.lt (K20.out.2.2.2.2.2.2.1)), (K20.out.2.2.2.2.2.2.2.1).later hc6, Blk.below (K20.out.2.2.2.2.2.2.2.2.1) hc6 (Blk.lt (K20.out.2.2.2.2.2.2.2.2.1)), (K20.out.2.2.2.2.2.2.2.2.2.1).later hc6, (K20.out.2.2.2.2.2.2.2.2.2.2.1).later hc6, (K20.out.2.2.2.2.2.2.2.2.2.2.2.1).later hc6, Blk.below (K20.out.2.2.2.2.2.2.2.2.2.2.2.2.1) hc6 (Blk.lt (K20.out.2.2.2.2.2.2.2.2.2.2.2.2.1)), (K20.out.2.2.2.2.2.2.2.2.2.2.2.2.2.1).later hc6, Blk.below (K20.out.2.2.2.2.2.2.2.2.2.2.2.2.2.2) hc6 (Blk.lt (K20.out.2.2.2.2.2.2.2.2.2.2.2.2.2.2))⟩
        clear K20
        clear hc6
        go_wp2_with (first | fail)
        refine (req_sure y6 (HG.out.later (K21.out.2.2.1))).mono ?_
        rintro e y7 ⟨rfl, hc7⟩
        have K22 : Hid (Blk y7 w.heap.size #[.int .i64 z, .slice ot nt ct, .string S, .slice oa q ca] 36 ∧ Blk y7 wa.heap.size #[.int .i64 zs, .slice os qs cs] 38 ∧ Below w.heap.size w y7 ∧ CV y7 o7 m7 (rqS z nt T S q L G) ∧ CV y7 o9 m9 (rqS z nt T S q L G) ∧ QV y7 (.agg #[.int .i64 (zq : Int), .slice ot1 nq ct1, .string Sq, .slice oa1 qr ca1]) zq nq Tq Sq qr Lq Gq ∧ Blk y7 w5.heap.size #[.int .i64 (zq : Int), .slice ot1 nq ct1, .string Sq, .slice oa1 qr ca1] 44 ∧ QV y7 (.agg #[.int .i64 (zq : Int), .slice ot2 nq ct2, .string Sq, .slice oa2 qr ca2]) zq nq Tq Sq qr Lq Gq ∧ Blk y7 w7.heap.size #[.int .i64 (zq : Int), .slice ot2 nq ct2, .string Sq, .slice oa2 qr ca2] 36 ∧ CV y7 o15 m15 (rpS zs qs Ls Gs) ∧ CV y7 o17 m17 (rpS zs qs Ls Gs) ∧ PV y7 (.agg #[.int .i64 (zp : Int), .slice oa3 qp ca3]) zp qp Lp Gp ∧ Blk y7 wd.heap.size #[.int .i64 (zp : Int), .slice oa3 qp ca3] 52 ∧ PV y7 (.agg #[.int .i64 (zp : Int), .slice oa4 qp ca4]) zp qp Lp Gp ∧ Blk y7 wf.heap.size #[.int .i64 (zp : Int), .slice oa4 qp ca4] 38) := Lib.hid ⟨Blk.below (K21.out.1) hc7 (Blk.lt (K21.out.1)), Blk.below (K21.out.2.1) hc7 (Blk.lt (K21.out.2.1)), (K21.out.2.2.1).trans (hc7.mono (K21.out.2.2.1).size), (K21.out.2.2.2.1).later hc7, (K21.out.2.2.2.2.1).later hc7, (K21.out.2.2.2.2.2.1).later hc7, Blk.below (K21.out.2.2.2.2.2.2.1) hc7 (Blk.lt (K21.out.2.2.2.2.2.2.1)), (K21.out.2.2.2.2.2.2.2.1).later hc7, Blk.below (K21.out.2.2.2.2.2.2.2.2.1) hc7 (Blk.lt (K21.out.2.2.2.2.2.2.2.2.1)), (K21.out.2.2.2.2.2.2.2.2.2.1).later hc7, (K21.out.2.2.2.2.2.2.2.2.2.2.1).later hc7, (K21.out.2.2.2.2.2.2.2.2.2.2.2.1).later hc7, Blk.below (K21.out.2.2.2.2.2.2.2.2.2.2.2.2.1) hc7 (Blk.lt (K21.out.2.2.2.2.2.2.2.2.2.2.2.2.1)), (K21.out.2.2.2.2.2.2.2.2.2.2.2.2.2.1).later hc7, Blk.below (K21.out.2.2.2.2.2.2.2.2.2.2.2.2.2.2) hc7 (Blk.lt (K21.out.2.2.2.2.2.2.2.2.2.2.2.2.2.2))⟩
        clear K21
        clear hc7
        have HO := Lib.hid (K22.out.2.2.1)
        clear K22
        go_wp2_with fail
        go_ret
        exact ⟨rfl, HO.out⟩
end Go.Proofs.YtmabhjifldafaaaDoor
