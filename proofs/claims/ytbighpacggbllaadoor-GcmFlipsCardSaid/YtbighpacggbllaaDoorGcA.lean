/- GcmFlips: a bit of the tag, turned. -/
import Derived.Test.YtbighpacggbllaaDoorGcS
namespace Go.Proofs.YtbighpacggbllaaDoor
set_option linter.unusedVariables false
set_option linter.unusedSimpArgs false
set_option linter.unusedVariables false
set_option linter.unusedSimpArgs false
open Go.RowKit

theorem small_wrap (r : Nat) (h : r < 1000) : wrap64 (r : Int) = (r : Int) := IntWalk.wrap64_in _ ⟨by omega, by omega⟩
theorem flip_at (n u : Nat) (hn : n ≤ 300) : ∃ q : Nat, q < 16 ∧ wrap64 ((n : Int) + wrap64 ((wrap64 (((u : Int)).tmod 128)).tdiv 8)) = ((n + q : Nat) : Int) := by
  have h1 : ((u : Int)).tmod 128 = ((u % 128 : Nat) : Int) := (Int.ofNat_tmod u 128).symm
  have hr : u % 128 < 128 := Nat.mod_lt _ (by decide)
  rw [h1]
  generalize u % 128 = r at *
  refine ⟨r / 8, by omega, ?_⟩
  have h3 : ((r : Int)).tdiv 8 = ((r / 8 : Nat) : Int) := (Int.ofNat_tdiv r 8).symm
  rw [small_wrap r (by omega), h3, small_wrap (r / 8) (by omega), ← Int.natCast_add, small_wrap _ (by omega)]
set_option maxHeartbeats 8000000 in
set_option maxRecDepth 100000 in
theorem flips_any (nk ck nn cn na ca n cb : Nat) (ok on oa ob : Option Addr) (K N A P : Nat → Nat) (z : Int) (w : World) (hg : Handle w) (hK : Bytes w ok nk K) (hN : Bytes w on nn N) (hA : Bytes w oa na A) (hP : Bytes w ob n P)
    (k1 : nk ≤ ck) (k2 : ck ≤ maxLen) (n1 : nn ≤ cn) (n2 : cn ≤ maxLen) (a1 : na ≤ ca) (a2 : ca ≤ maxLen) (p1 : n ≤ cb) (p2 : cb ≤ maxLen) :
    Calls Tryd.prog 4 #[.agg #[.slice ok nk ck, .slice on nn cn, .slice oa na ca], .slice ob n cb, .int .i64 z] w fun e w' => e = .returned (.bool true) ∧ Below w.heap.size w w' := by
  obtain ⟨w0, hw0⟩ : ∃ y, w.alloc (.cells #[.slice ok nk ck, .slice on nn cn, .slice oa na ca] 24) = y := ⟨_, rfl⟩
  have hb0 : Below w.heap.size w w0 := by rw [← hw0]; exact (Below.refl _ _).alloc (Nat.le_refl _) _
  have hB0 : Blk w0 w.heap.size #[.slice ok nk ck, .slice on nn cn, .slice oa na ca] 24 := by rw [← hw0]; exact Blk.new _ _ _
  have c0 : w0.cell? ⟨w.heap.size, 0, none⟩ = some (.slice ok nk ck) := by rw [Blk.cell hB0]; rfl
  have c1 : w0.cell? ⟨w.heap.size, 1, none⟩ = some (.slice on nn cn) := by rw [Blk.cell hB0]; rfl
  have c2 : w0.cell? ⟨w.heap.size, 2, none⟩ = some (.slice oa na ca) := by rw [Blk.cell hB0]; rfl
  have HSU : Hid (∀ w', Below w.heap.size w w' → Calls Tryd.prog 6 #[] w' fun e w'' => e = .returned (.bool true) ∧ Below w'.heap.size w' w'') := Lib.hid fun w' hb => sure11 w' (hg.below hb hg.2)
  have HB0 := Lib.hid hb0
  have HBK := Lib.hid hB0
  have HIN := Lib.hid (show Bytes w ok nk K ∧ Bytes w on nn N ∧ Bytes w oa na A ∧ Bytes w ob n P from ⟨hK, hN, hA, hP⟩)
  have HCP := Lib.hid (show nk ≤ ck ∧ nn ≤ cn ∧ na ≤ ca ∧ ca ≤ maxLen ∧ n ≤ cb ∧ cb ≤ maxLen from ⟨k1, n1, a1, a2, p1, p2⟩)
  clear hg hK hN hA hP k1 n1 a1 p1 hb0 hB0 a2 k2 n2 p2
  by_cases hk : nk = 32
  rotate_left
  · have h1 : ¬ (nk : Int) = 32 := by omega
    have h2 : decide ((nk : Int) = 32) = false := decide_eq_false h1
    go_enter Tryd.func4, Tryd.ntmps4
    go_wp2_with fail
    refine (HSU.out w0 HB0.out).mono ?_
    rintro e w1 ⟨rfl, hb1⟩
    have HB1 := Lib.hid (HB0.out.trans (hb1.mono HB0.out.size))
    clear hb1 c0 c1 c2
    go_wp2_with fail
    go_ret
    exact ⟨rfl, HB1.out⟩
  subst hk
  by_cases hn : nn = 12
  rotate_left
  · have h1 : ¬ (nn : Int) = 12 := by omega
    have h2 : decide ((nn : Int) = 12) = false := decide_eq_false h1
    go_enter Tryd.func4, Tryd.ntmps4
    go_wp2_with fail
    refine (HSU.out w0 HB0.out).mono ?_
    rintro e w1 ⟨rfl, hb1⟩
    have HB1 := Lib.hid (HB0.out.trans (hb1.mono HB0.out.size))
    clear hb1 c0 c1 c2
    go_wp2_with fail
    go_ret
    exact ⟨rfl, HB1.out⟩
  subst hn
  by_cases hp : n ≤ 300
  rotate_left
  · have h1 : (300 : Int) < (n : Int) := by omega
    go_enter Tryd.func4, Tryd.ntmps4
    go_wp2_with fail
    refine (HSU.out w0 HB0.out).mono ?_
    rintro e w1 ⟨rfl, hb1⟩
    have HB1 := Lib.hid (HB0.out.trans (hb1.mono HB0.out.size))
    clear hb1 c0 c1 c2
    go_wp2_with fail
    go_ret
    exact ⟨rfl, HB1.out⟩
  have g1 : ¬ ((300 : Int) < (n : Int)) := by omega
  have g2 : decide ((300 : Int) < (n : Int)) = false := decide_eq_false g1
  by_cases ha : na ≤ 300
  rotate_left
  · have h1 : (300 : Int) < (na : Int) := by omega
    go_enter Tryd.func4, Tryd.ntmps4
    go_wp2_with fail
    refine (HSU.out w0 HB0.out).mono ?_
    rintro e w1 ⟨rfl, hb1⟩
    have HB1 := Lib.hid (HB0.out.trans (hb1.mono HB0.out.size))
    clear hb1 c0 c1 c2
    go_wp2_with fail
    go_ret
    exact ⟨rfl, HB1.out⟩
  have g3 : ¬ ((300 : Int) < (na : Int)) := by omega
  have g4 : decide ((300 : Int) < (na : Int)) = false := decide_eq_false g3
  have HPA := Lib.hid (show n ≤ 300 ∧ na ≤ 300 from ⟨hp, ha⟩)
  have HNW := Lib.hid (gnew_any K ok ck w0 (HIN.out.1.later HB0.out))
  clear hp ha
  go_enter Tryd.func4, Tryd.ntmps4
  go_wp2_with fail
  refine HNW.out.mono ?_
  rintro e w1 ⟨g, kb, bx, rfl, hK1, hb1, hx1, -, -⟩
  clear c0 c1 c2 HNW hw0
  have hB1 := HB0.out.trans (hb1.mono HB0.out.size)
  have hk1 := Blk.below HBK.out hb1 (Blk.lt HBK.out)
  have c1 : w1.cell? ⟨w.heap.size, 1, none⟩ = some (.slice on 12 cn) := by rw [Blk.cell hk1]; rfl
  have c2 : w1.cell? ⟨w.heap.size, 2, none⟩ = some (.slice oa na ca) := by rw [Blk.cell hk1]; rfl
  have hwb := Blk.lt HBK.out
  have hlow : ∀ (o : Option Addr) (m : Nat) (F : Nat → Nat), Bytes w o m F → ∀ x, o = some x → 0 < m → x.block ≠ bx := fun o m F h x hx hm => by have := h.lt x hx hm; omega
  have HLO := Lib.hid hlow
  obtain ⟨W, hW⟩ : ∃ y, exK K 60 = y := ⟨_, rfl⟩
  rw [hW] at hK1
  have hnn : ∀ x, on = some x → x.block ≠ bx := fun x hx => hlow _ _ _ HIN.out.2.1 x hx (by decide)
  have HSE := Lib.hid (seal_any g kb bx W N P A n na on ob oa cn cb ca w1 hK1 (HIN.out.2.1.later hB1) hnn (HIN.out.2.2.2.later hB1) (hlow _ _ _ HIN.out.2.2.2) (HIN.out.2.2.1.later hB1) (hlow _ _ _ HIN.out.2.2.1) HCP.out.2.2.2.2.1 HCP.out.2.2.2.2.2 HCP.out.2.2.1 HCP.out.2.2.2.1 (by have := HPA.out; omega) (by have := HPA.out; omega))
  have HNN := Lib.hid hnn
  have HBL := Lib.hid (show KG w1 g kb bx W ∧ bx < w1.heap.size from ⟨hK1, hK1.lt.2.2⟩)
  have HB1 := Lib.hid (show Below w.heap.size w w1 ∧ Blk w1 w.heap.size #[.slice ok 32 ck, .slice on 12 cn, .slice oa na ca] 24 ∧ w0.heap.size ≤ bx ∧ w.heap.size < w0.heap.size from ⟨hB1, hk1, hx1, hwb⟩)
  clear hK1 hb1 hx1 hB1 hk1 hlow hW hnn hwb
  go_wp2_with fail
  refine HSE.out.mono ?_
  rintro e w2 ⟨v, rfl, hG2, hK2, hO2⟩
  have hNb : ∀ i, i < 12 → N i < 256 := fun i hi => (HIN.out.2.1 i hi).1
  have hBx : ∀ i, i < n + 16 → boxF W N P n A na i < 256 := boxF_lt hNb (fun i hi => (HIN.out.2.2.2 i hi).1)
  obtain ⟨gq, cp, hv, hge, hB2, hnc, hcm⟩ := hG2.someN (by omega) hBx
  subst hv
  have hk2 := hO2.blk HB1.out.2.1 (by have := HB1.out; omega)
  have c1 : w2.cell? ⟨w.heap.size, 1, none⟩ = some (.slice on 12 cn) := by rw [Blk.cell hk2]; rfl
  have c2 : w2.cell? ⟨w.heap.size, 2, none⟩ = some (.slice oa na ca) := by rw [Blk.cell hk2]; rfl
  have HS2 := Lib.hid (show KG w2 g kb bx W ∧ Own bx w1 w2 ∧ Grow w2 (w1.heap.size + 2) (.slice (some ⟨gq, 0, none⟩) (n + 16) cp) (n + 16) (boxF W N P n A na) ∧ w1.heap.size + 2 ≤ gq ∧ n + 16 ≤ cp ∧ cp ≤ maxLen ∧ Blk w2 w.heap.size #[.slice ok 32 ck, .slice on 12 cn, .slice oa na ca] 24 from ⟨hK2, hO2, hG2, hge, hnc, hcm, hk2⟩)
  have HB2 := Lib.hid hB2
  have HBX := Lib.hid hBx
  have HNB := Lib.hid hNb
  clear hG2 hK2 hO2 hNb hBx hge hB2 hnc hcm hk2 HSE
  have s1 : ¬ ((n : Int) + 16 < 16) := by omega
  have s2 : decide ((n : Int) + 16 < 16) = false := decide_eq_false s1
  have s3 : IntKind.i64.wrap ((n : Int) + 16 - 16) = (n : Int) := by have := HPA.out; rw [IntWalk.i64_in _ (by omega)]; omega
  go_upto_region 10 with fail
  obtain ⟨u, hu⟩ : ∃ u : Nat, IntKind.u64.wrap z = (u : Int) := Int.eq_ofNat_of_zero_le (by simp [IntKind.wrap, IntKind.bits, IntKind.signed]; exact Int.emod_nonneg _ (by decide))
  obtain ⟨q, hq, hX⟩ : ∃ q : Nat, q < 16 ∧ wrap64 ((n : Int) + wrap64 ((wrap64 ((IntKind.u64.wrap z).tmod 128)).tdiv 8)) = ((n + q : Nat) : Int)  := by
    rw [hu]; exact flip_at n u HPA.out.1
  have hs8 : (IntKind.u64.wrap z).tmod 8 = ((u % 8 : Nat) : Int) := by rw [hu]; exact (Int.ofNat_tmod u 8).symm
  obtain ⟨sh, hsh⟩ : ∃ y, u % 8 = y := ⟨_, rfl⟩
  have hsl : sh < 8 := by omega
  rw [hsh] at hs8
  rw [hX]
  obtain ⟨at_, hat⟩ : ∃ y, n + q = y := ⟨_, rfl⟩
  have HAT := Lib.hid (show n + q = at_ ∧ q < 16 ∧ sh < 8 from ⟨hat, hq, hsl⟩)
  rw [hat]
  obtain ⟨V, hV⟩ : ∃ y, boxF W N P n A na at_ = y := ⟨_, rfl⟩
  have hv8 : V < 256 := hV ▸ HBX.out at_ (by omega)
  have cv : w2.cell? ⟨gq, at_, none⟩ = some (.int .u8 (V : Int)) := by
    obtain ⟨_, b', o', e, h⟩ := HB2.out at_ (by omega)
    cases e
    rw [Nat.zero_add, hV] at h; exact h
  have fv : w2.frozen? ⟨gq, at_, none⟩ = false := by
    rcases HS2.out.2.2.1.2 with ⟨e1, _⟩ | ⟨g', cap', cur, e1, _, h3, _⟩
    · cases e1
    · cases e1; exact Blk.free (C := cur) (t := 5) h3 _
  have i0 : (0 : Int) ≤ (at_ : Int) := by omega
  have i1 : (at_ : Int) < (n : Int) + 16 := by omega
  have HV := Lib.hid hV
  have z0 : (0 : Int) ≤ (sh : Int) := by omega
  have z1 : (sh : Int) < 8 := by omega
  clear hu hX hsh hat hV s1 s2 s3 hq
  have hp2 : ((2 : Int) ^ sh) % 256 = ((2 ^ sh : Nat) : Int) := by
    rcases (by omega : sh = 0 ∨ sh = 1 ∨ sh = 2 ∨ sh = 3 ∨ sh = 4 ∨ sh = 5 ∨ sh = 6 ∨ sh = 7) with h | h | h | h | h | h | h | h <;> subst h <;> decide
  have hpl : 2 ^ sh < 256 ∧ 2 ^ sh ≠ 0 := by
    rcases (by omega : sh = 0 ∨ sh = 1 ∨ sh = 2 ∨ sh = 3 ∨ sh = 4 ∨ sh = 5 ∨ sh = 6 ∨ sh = 7) with h | h | h | h | h | h | h | h <;> subst h <;> decide
  obtain ⟨Y, hY⟩ : ∃ y, V ^^^ 2 ^ sh = y := ⟨_, rfl⟩
  have hYV : Y < 256 ∧ Y ≠ V := by
    refine ⟨hY ▸ xor_lt256 hv8 hpl.1, fun e => hpl.2 ?_⟩
    have : V ^^^ (V ^^^ 2 ^ sh) = V ^^^ V := by rw [hY, e]
    rw [← Nat.xor_assoc, Nat.xor_self, Nat.zero_xor] at this; exact this
  have HXY : Hid (bits .xor .u8 (V : Int) (((2 : Int) ^ sh) % 256) = (Y : Int)) := Lib.hid (by rw [hp2, ← hY]; exact u8_xor_nat _ _ hv8 hpl.1)
  have HYV := Lib.hid hYV
  clear hp2 hpl hY hYV hv8
  go_upto_region 11 with fail
  rw [HXY.out]
  have hO3 : Own gq w2 (w2.setCell ⟨gq, at_, none⟩ (.int .u8 (Y : Int))) := (Own.refl _ _).set _ _
  obtain ⟨hK2, hO2, hG2, hge, hnc, hcm, hk2⟩ := HS2.out
  obtain ⟨hB1, hk1, hx1, hwb⟩ := HB1.out
  obtain ⟨hat, hq, hsl⟩ := HAT.out
  obtain ⟨hK1, hbl⟩ := HBL.out
  have hP := HPA.out
  have hs1 := hB1.size
  have hs2 := hO2.size
  have hgb : gq ≠ bx := by omega
  have hb3 : Below w1.heap.size w2 (w2.setCell ⟨gq, at_, none⟩ (.int .u8 (Y : Int))) := hO3.below (by omega) hs2
  have hK3 := hK1.low hK2 hb3
  have hk3 := hO3.blk hk2 (by omega)
  have hB3 : Bytes (w2.setCell ⟨gq, at_, none⟩ (.int .u8 (Y : Int))) (some ⟨gq, 0, none⟩) (n + 16) (upd (boxF W N P n A na) at_ Y) := fun k hk => by
    refine ⟨?_, gq, 0, rfl, ?_⟩
    · unfold upd; split
      · exact HYV.out.1
      · exact HBX.out k hk
    rcases hG2.2 with ⟨e1, _⟩ | ⟨g', cap', cur, e1, _, h3, _⟩
    · cases e1
    cases e1
    have hC : Blk w2 gq cur 5 := h3
    have hl : at_ < cur.size := by
      rw [Blk.cell hC] at cv
      rcases Nat.lt_or_ge at_ cur.size with h | h
      · exact h
      · rw [Array.getElem?_eq_none h] at cv; cases cv
    have hC3 := Blk.set hC at_ (.int .u8 (Y : Int))
    rw [Nat.zero_add, Blk.cell hC3 k, Array.getElem?_setIfInBounds]
    by_cases e : at_ = k
    · subst e; simp [hl, upd]
    · rw [if_neg e]
      obtain ⟨_, b', o', e2, h⟩ := HB2.out k hk
      cases e2
      rw [Nat.zero_add, Blk.cell hC] at h
      rw [h]; unfold upd; rw [if_neg (fun h => e h.symm)]
  have hin : ∀ (o : Option Addr) (m : Nat) (F : Nat → Nat), Bytes w o m F → Bytes (w2.setCell ⟨gq, at_, none⟩ (.int .u8 (Y : Int))) o m F := fun o m F h =>
    ((h.later hB1).own hO2 (HLO.out o m F h)).own hO3 (fun x hx hm => by have := h.lt x hx hm; omega)
  have hne : eqF (tgF W N A na (upd (boxF W N P n A na) at_ Y) n) (fun i => upd (boxF W N P n A na) at_ Y (n + i)) = false := by
    cases h : eqF (tgF W N A na (upd (boxF W N P n A na) at_ Y) n) (fun i => upd (boxF W N P n A na) at_ Y (n + i)) with
    | false => rfl
    | true =>
      have h1 := eqF_iff.1 h q hq
      rw [tgF_congr (d := cphF W N P) (fun i hi => by unfold upd; rw [if_neg (by omega)]; unfold boxF catF; rw [if_pos hi])] at h1
      have h2 := HV.out
      unfold boxF catF at h2
      rw [if_neg (by omega), ← hat, Nat.add_sub_cancel_left] at h2
      rw [h2] at h1
      have h3 : upd (boxF W N P n A na) at_ Y (n + q) = Y := by unfold upd; rw [if_pos hat]
      exact absurd (h3.symm.trans h1.symm) HYV.out.2
  have HOP := Lib.hid (opens_any g kb bx W N (upd (boxF W N P n A na) at_ Y) A n na gq 0 on oa cn cp ca _ hK3 (hin _ _ _ HIN.out.2.1) HNN.out hB3 hgb (hin _ _ _ HIN.out.2.2.1) hnc hcm HCP.out.2.2.1 HCP.out.2.2.2.1 (by omega) (by omega))
  rw [hne] at HOP
  have c1 : (w2.setCell ⟨gq, at_, none⟩ (.int .u8 (Y : Int))).cell? ⟨w.heap.size, 1, none⟩ = some (.slice on 12 cn) := by rw [Blk.cell hk3]; rfl
  have c2 : (w2.setCell ⟨gq, at_, none⟩ (.int .u8 (Y : Int))).cell? ⟨w.heap.size, 2, none⟩ = some (.slice oa na ca) := by rw [Blk.cell hk3]; rfl
  have hB3w : Below w.heap.size w (w2.setCell ⟨gq, at_, none⟩ (.int .u8 (Y : Int))) := (hB1.trans (hO2.below (by omega) hs1)).trans (hO3.below (by omega) (by omega))
  have HB3 := Lib.hid (show Below w.heap.size w (w2.setCell ⟨gq, at_, none⟩ (.int .u8 (Y : Int))) ∧ w.heap.size ≤ bx from ⟨hB3w, by omega⟩)
  generalize w2.setCell ⟨gq, at_, none⟩ (.int .u8 (Y : Int)) = w3 at *
  clear hK2 hO2 hG2 hge hnc hcm hk2 hB1 hk1 hx1 hwb hat hq hsl hK1 hbl hP hs1 hs2 hgb hb3 hK3 hk3 hB3 hin hne hO3 hB3w cv fv
  go_wp2_with fail
  refine HOP.out.mono ?_
  rintro e w4 ⟨rfl, hK4, hO4⟩
  have HB4 := Lib.hid (HB3.out.1.trans (hO4.below HB3.out.2 HB3.out.1.size))
  clear hK4 hO4 c1 c2 HOP
  go_wp2_with fail
  refine (HSU.out w4 HB4.out).mono ?_
  rintro e w5 ⟨rfl, hb5⟩
  have HB5 := Lib.hid (HB4.out.trans (hb5.mono HB4.out.size))
  clear hb5
  go_wp2_with fail
  go_ret
  exact ⟨rfl, HB5.out⟩
end Go.Proofs.YtbighpacggbllaaDoor
