/- GcmStreams: two boxes of one nonce. -/
import Derived.Test.YtbighpacggbllaaDoorGcS
namespace Go.Proofs.YtbighpacggbllaaDoor
set_option linter.unusedVariables false
set_option linter.unusedSimpArgs false
set_option linter.unusedVariables false
set_option linter.unusedSimpArgs false
open Go.RowKit

set_option maxHeartbeats 8000000 in
set_option maxRecDepth 100000 in
theorem streams_any (nk ck nn cn na ca n cb m cq : Nat) (ok on oa ob oq : Option Addr) (K N A P Q : Nat → Nat) (w : World) (hg : Handle w) (hK : Bytes w ok nk K) (hN : Bytes w on nn N) (hA : Bytes w oa na A) (hP : Bytes w ob n P) (hQ : Bytes w oq m Q)
    (k1 : nk ≤ ck) (k2 : ck ≤ maxLen) (n1 : nn ≤ cn) (n2 : cn ≤ maxLen) (a1 : na ≤ ca) (a2 : ca ≤ maxLen) (p1 : n ≤ cb) (p2 : cb ≤ maxLen) (q1 : m ≤ cq) (q2 : cq ≤ maxLen) :
    Calls Tryd.prog 3 #[.agg #[.slice ok nk ck, .slice on nn cn, .slice oa na ca], .slice ob n cb, .slice oq m cq] w fun e w' => e = .returned (.bool true) ∧ Below w.heap.size w w' := by
  obtain ⟨w0, hw0⟩ : ∃ y, w.alloc (.cells #[.slice ok nk ck, .slice on nn cn, .slice oa na ca] 24) = y := ⟨_, rfl⟩
  have hb0 : Below w.heap.size w w0 := by rw [← hw0]; exact (Below.refl _ _).alloc (Nat.le_refl _) _
  have hB0 : Blk w0 w.heap.size #[.slice ok nk ck, .slice on nn cn, .slice oa na ca] 24 := by rw [← hw0]; exact Blk.new _ _ _
  have c0 : w0.cell? ⟨w.heap.size, 0, none⟩ = some (.slice ok nk ck) := by rw [Blk.cell hB0]; rfl
  have c1 : w0.cell? ⟨w.heap.size, 1, none⟩ = some (.slice on nn cn) := by rw [Blk.cell hB0]; rfl
  have c2 : w0.cell? ⟨w.heap.size, 2, none⟩ = some (.slice oa na ca) := by rw [Blk.cell hB0]; rfl
  have HSU : Hid (∀ w', Below w.heap.size w w' → Calls Tryd.prog 6 #[] w' fun e w'' => e = .returned (.bool true) ∧ Below w'.heap.size w' w'') := Lib.hid fun w' hb => sure11 w' (hg.below hb hg.2)
  have HB0 := Lib.hid hb0
  have HBK := Lib.hid hB0
  have HIN := Lib.hid (show Bytes w ok nk K ∧ Bytes w on nn N ∧ Bytes w oa na A ∧ Bytes w ob n P ∧ Bytes w oq m Q from ⟨hK, hN, hA, hP, hQ⟩)
  have HCP := Lib.hid (show nk ≤ ck ∧ nn ≤ cn ∧ na ≤ ca ∧ ca ≤ maxLen ∧ n ≤ cb ∧ cb ≤ maxLen ∧ m ≤ cq ∧ cq ≤ maxLen from ⟨k1, n1, a1, a2, p1, p2, q1, q2⟩)
  clear hg hK hN hA hP hQ k1 n1 a1 p1 hb0 hB0 a2 k2 n2 p2 q1 q2
  by_cases hk : nk = 32
  rotate_left
  · have h1 : ¬ (nk : Int) = 32 := by omega
    have h2 : decide ((nk : Int) = 32) = false := decide_eq_false h1
    go_enter Tryd.func3, Tryd.ntmps3
    go_wp2_with fail
    refine (HSU.out w0 HB0.out).mono ?_
    rintro e w1 ⟨rfl, hb1⟩
    have HB1 := Lib.hid (HB0.out.trans (hb1.mono HB0.out.size))
    clear hb1 c0 c1 c2
    go_wp2_with fail
    go_ret
    exact ⟨rfl, HB1.out⟩
  subst hk
  by_cases hn : nn = 12
  rotate_left
  · have h1 : ¬ (nn : Int) = 12 := by omega
    have h2 : decide ((nn : Int) = 12) = false := decide_eq_false h1
    go_enter Tryd.func3, Tryd.ntmps3
    go_wp2_with fail
    refine (HSU.out w0 HB0.out).mono ?_
    rintro e w1 ⟨rfl, hb1⟩
    have HB1 := Lib.hid (HB0.out.trans (hb1.mono HB0.out.size))
    clear hb1 c0 c1 c2
    go_wp2_with fail
    go_ret
    exact ⟨rfl, HB1.out⟩
  subst hn
  by_cases hp : n ≤ 200
  rotate_left
  · have h1 : (200 : Int) < (n : Int) := by omega
    go_enter Tryd.func3, Tryd.ntmps3
    go_wp2_with fail
    refine (HSU.out w0 HB0.out).mono ?_
    rintro e w1 ⟨rfl, hb1⟩
    have HB1 := Lib.hid (HB0.out.trans (hb1.mono HB0.out.size))
    clear hb1 c0 c1 c2
    go_wp2_with fail
    go_ret
    exact ⟨rfl, HB1.out⟩
  have g1 : ¬ ((200 : Int) < (n : Int)) := by omega
  have g2 : decide ((200 : Int) < (n : Int)) = false := decide_eq_false g1
  by_cases hm : m = n
  rotate_left
  · have h1 : ¬ (m : Int) = (n : Int) := by omega
    have h2 : decide ((m : Int) = (n : Int)) = false := decide_eq_false h1
    have h3 : ¬ m = n := hm
    go_enter Tryd.func3, Tryd.ntmps3
    go_wp2_with fail
    refine (HSU.out w0 HB0.out).mono ?_
    rintro e w1 ⟨rfl, hb1⟩
    have HB1 := Lib.hid (HB0.out.trans (hb1.mono HB0.out.size))
    clear hb1 c0 c1 c2
    go_wp2_with fail
    go_ret
    exact ⟨rfl, HB1.out⟩
  subst hm
  by_cases ha : na ≤ 300
  rotate_left
  · have h1 : (300 : Int) < (na : Int) := by omega
    go_enter Tryd.func3, Tryd.ntmps3
    go_wp2_with fail
    refine (HSU.out w0 HB0.out).mono ?_
    rintro e w1 ⟨rfl, hb1⟩
    have HB1 := Lib.hid (HB0.out.trans (hb1.mono HB0.out.size))
    clear hb1 c0 c1 c2
    go_wp2_with fail
    go_ret
    exact ⟨rfl, HB1.out⟩
  have g3 : ¬ ((300 : Int) < (na : Int)) := by omega
  have g4 : decide ((300 : Int) < (na : Int)) = false := decide_eq_false g3
  have HPA := Lib.hid (show m ≤ 200 ∧ na ≤ 300 from ⟨hp, ha⟩)
  have HNW := Lib.hid (gnew_any K ok ck w0 (HIN.out.1.later HB0.out))
  clear hp ha
  go_enter Tryd.func3, Tryd.ntmps3
  go_wp2_with fail
  refine HNW.out.mono ?_
  rintro e w1 ⟨g, kb, bx, rfl, hK1, hb1, hx1, -, -⟩
  clear c0 c1 c2 HNW hw0
  have hB1 := HB0.out.trans (hb1.mono HB0.out.size)
  have hk1 := Blk.below HBK.out hb1 (Blk.lt HBK.out)
  have c1 : w1.cell? ⟨w.heap.size, 1, none⟩ = some (.slice on 12 cn) := by rw [Blk.cell hk1]; rfl
  have c2 : w1.cell? ⟨w.heap.size, 2, none⟩ = some (.slice oa na ca) := by rw [Blk.cell hk1]; rfl
  have hwb := Blk.lt HBK.out
  have hlow : ∀ (o : Option Addr) (m : Nat) (F : Nat → Nat), Bytes w o m F → ∀ x, o = some x → 0 < m → x.block ≠ bx := fun o m F h x hx hm => by have := h.lt x hx hm; omega
  have HLO := Lib.hid hlow
  obtain ⟨W, hW⟩ : ∃ y, exK K 60 = y := ⟨_, rfl⟩
  rw [hW] at hK1
  have hnn : ∀ x, on = some x → x.block ≠ bx := fun x hx => hlow _ _ _ HIN.out.2.1 x hx (by decide)
  have HSE := Lib.hid (seal_any g kb bx W N P A m na on ob oa cn cb ca w1 hK1 (HIN.out.2.1.later hB1) hnn (HIN.out.2.2.2.1.later hB1) (hlow _ _ _ HIN.out.2.2.2.1) (HIN.out.2.2.1.later hB1) (hlow _ _ _ HIN.out.2.2.1) HCP.out.2.2.2.2.1 HCP.out.2.2.2.2.2.1 HCP.out.2.2.1 HCP.out.2.2.2.1 (by have := HPA.out; omega) (by have := HPA.out; omega))
  have HNN := Lib.hid hnn
  have HBL := Lib.hid (show KG w1 g kb bx W ∧ bx < w1.heap.size from ⟨hK1, hK1.lt.2.2⟩)
  have HB1 := Lib.hid (show Below w.heap.size w w1 ∧ Blk w1 w.heap.size #[.slice ok 32 ck, .slice on 12 cn, .slice oa na ca] 24 ∧ w0.heap.size ≤ bx ∧ w.heap.size < w0.heap.size from ⟨hB1, hk1, hx1, hwb⟩)
  clear hK1 hb1 hx1 hB1 hk1 hlow hW hnn hwb
  go_wp2_with fail
  refine HSE.out.mono ?_
  rintro e w2 ⟨v, rfl, hG2, hK2, hO2⟩
  have hNb : ∀ i, i < 12 → N i < 256 := fun i hi => (HIN.out.2.1 i hi).1
  have hBx : ∀ i, i < m + 16 → boxF W N P m A na i < 256 := boxF_lt hNb (fun i hi => (HIN.out.2.2.2.1 i hi).1)
  obtain ⟨gq, cp, hv, hge, hB2, hnc, hcm⟩ := hG2.someN (by omega) hBx
  subst hv
  have hk2 := hO2.blk HB1.out.2.1 (by have := HB1.out; omega)
  have c1 : w2.cell? ⟨w.heap.size, 1, none⟩ = some (.slice on 12 cn) := by rw [Blk.cell hk2]; rfl
  have hin2 : ∀ (o : Option Addr) (k : Nat) (F : Nat → Nat), Bytes w o k F → Bytes w2 o k F := fun o k F h => (h.later HB1.out.1).own hO2 (HLO.out o k F h)
  have HS3 := Lib.hid (seal_any g kb bx W N Q kF m 0 on oq none cn cq 0 w2 hK2 (hin2 _ _ _ HIN.out.2.1) HNN.out (hin2 _ _ _ HIN.out.2.2.2.2) (HLO.out _ _ _ HIN.out.2.2.2.2) (fun k hk => absurd hk (Nat.not_lt_zero _)) (fun x hx => by cases hx) HCP.out.2.2.2.2.2.2.1 HCP.out.2.2.2.2.2.2.2 (Nat.le_refl _) (by unfold maxLen; omega) (by have := HPA.out; omega) (by omega))
  have HX2 := Lib.hid (show Own bx w1 w2 ∧ w1.heap.size + 2 ≤ gq from ⟨hO2, hge⟩)
  have HB2 := Lib.hid hB2
  have HNB := Lib.hid hNb
  clear hG2 hK2 hO2 hNb hBx hge hB2 hnc hcm hk2 HSE hin2 c2
  go_wp2_with fail
  refine HS3.out.mono ?_
  rintro e w3 ⟨v, rfl, hG3, hK3, hO3⟩
  have hBx : ∀ i, i < m + 16 → boxF W N Q m kF 0 i < 256 := boxF_lt HNB.out (fun i hi => (HIN.out.2.2.2.2 i hi).1)
  obtain ⟨gr, cr, hv, hge, hB3, hnc, hcm⟩ := hG3.someN (by omega) hBx
  subst hv
  have hbl := HBL.out.2
  have HRows := Lib.hid (show Bytes w3 (some ⟨gq, 0, none⟩) (m + 16) (boxF W N P m A na) ∧ Bytes w3 (some ⟨gr, 0, none⟩) (m + 16) (boxF W N Q m kF 0) ∧ Bytes w3 ob m P ∧ Bytes w3 oq m Q from
    ⟨HB2.out.own hO3 (fun x hx _ => by cases hx; have := HX2.out.2; show gq ≠ bx; omega), hB3,
     ((HIN.out.2.2.2.1.later HB1.out.1).own HX2.out.1 (HLO.out _ _ _ HIN.out.2.2.2.1)).own hO3 (HLO.out _ _ _ HIN.out.2.2.2.1), ((HIN.out.2.2.2.2.later HB1.out.1).own HX2.out.1 (HLO.out _ _ _ HIN.out.2.2.2.2)).own hO3 (HLO.out _ _ _ HIN.out.2.2.2.2)⟩)
  have HW3 : Hid (Below w.heap.size w w3) := Lib.hid (by
    obtain ⟨a1, a2, a3, a4⟩ := HB1.out
    have := a1.size; have := HX2.out.1.size
    exact (a1.trans (HX2.out.1.below (by omega) (by omega))).trans (hO3.below (by omega) (by omega)))
  clear hG3 hK3 hO3 hBx hge hB3 hnc hcm hbl HS3 c1 HX2 HB2
  have s3 : IntKind.i64.wrap ((m : Int) + 16) = (m : Int) + 16 := by have := HPA.out; rw [IntWalk.i64_in _ (by omega)]
  go_wp2_with fail
  clear g1 g2 g3 g4 s3
  go_loopw [13] (fun y wr => ∃ i : Nat, i ≤ m ∧ y = .int .i64 (i : Int) ∧ Below w3.heap.size w3 wr) (fun y _ => m - (intOf y).toNat)
  case atStart => exact ⟨0, Nat.zero_le _, rfl, Below.refl _ _⟩
  case round =>
    obtain ⟨i, hi, rfl, hb⟩ := hrel
    have hm := HPA.out.1
    by_cases hlt : i < m
    · obtain ⟨r1, r2, r3, r4⟩ := HRows.out
      obtain ⟨l1, b1, o1, e1, x1⟩ := r1 i (by omega)
      obtain ⟨l2, b2, o2, e2, x2⟩ := r2 i (by omega)
      obtain ⟨l3, b3, o3, e3, x3⟩ := r3 i (by omega)
      obtain ⟨l4, b4, o4, e4, x4⟩ := r4 i (by omega)
      cases e1; cases e2; subst e3; subst e4
      rw [Nat.zero_add] at x1 x2
      have hbd : Below w3.heap.size w3 wr.drew := hb.drew
      have y1 := cell_below hbd x1
      have y2 := cell_below hbd x2
      have y3 := cell_below hbd x3
      have y4 := cell_below hbd x4
      have z1 : bits .xor .u8 (boxF W N P m A na i : Int) (boxF W N Q m kF 0 i : Nat) = ((P i ^^^ Q i : Nat) : Int) := by
        rw [u8_xor_nat _ _ l1 l2]
        congr 1
        unfold boxF catF
        rw [if_pos hlt, if_pos hlt]
        unfold cphF
        rw [Nat.xor_assoc, ← Nat.xor_assoc (cW W N (2 + i / 16) (i % 16)), Nat.xor_comm (cW W N (2 + i / 16) (i % 16)) (Q i), Nat.xor_assoc (Q i), Nat.xor_self, Nat.xor_zero]
      have z2 : bits .xor .u8 (P i : Int) (Q i : Nat) = ((P i ^^^ Q i : Nat) : Int) := u8_xor_nat _ _ l3 l4
      have HBD := Lib.hid hbd
      generalize boxF W N P m A na i = v1 at *
      generalize boxF W N Q m kF 0 i = v2 at *
      generalize P i ^^^ Q i = X at *
      generalize P i = v3 at *
      generalize Q i = v4 at *
      clear r1 r2 r3 r4 x1 x2 x3 x4 l1 l2 l3 l4 hb hbd
      have t1 : (i : Int) < (m : Int) := by omega
      have t2 : (i : Int) < (m : Int) + 16 := by omega
      have t3 : (0 : Int) ≤ (i : Int) := by omega
      have t4 : IntKind.i64.wrap ((i : Int) + 1) = ((i + 1 : Nat) : Int) := by rw [IntWalk.i64_in _ (by omega)]; omega
      go_upto_region 13 with fail
      refine still_lit (by kernel_rfl) (by kernel_rfl) ?_
      generalize wr.drew = W0 at *
      iterate 19 still_step
      refine wpStill_nil ?_
      go_wp2_with fail
      go_roundw
      case rel => exact ⟨i + 1, by omega, rfl, HBD.out⟩
      case measure => simp [intOf]; omega
    · obtain rfl : m = i := by omega
      have HBD := Lib.hid (HW3.out.trans (hb.mono HW3.out.size))
      clear hb
      go_wp2_with fail
      refine (HSU.out wr HBD.out).mono ?_
      rintro e w5 ⟨rfl, hb5⟩
      have HB5 := Lib.hid (HBD.out.trans (hb5.mono HBD.out.size))
      clear hb5
      go_wp2_with fail
      go_ret
      exact ⟨rfl, HB5.out⟩
end Go.Proofs.YtbighpacggbllaaDoor
