/- GcmBack: what was sealed is opened; nothing else. -/
import Derived.Test.YtbighpacggbllaaDoorGcS
namespace Go.Proofs.YtbighpacggbllaaDoor
set_option linter.unusedVariables false
set_option linter.unusedSimpArgs false
set_option linter.unusedVariables false
set_option linter.unusedSimpArgs false
open Go.RowKit

theorem KG.other {w w' : World} {g kb bx c : Nat} {W : Nat → Nat} (h : KG w g kb bx W) (hO : Own c w w') (h1 : g ≠ c) (h2 : kb ≠ c) (h3 : bx ≠ c) : KG w' g kb bx W := ⟨hO.blk h.me h1, hO.blk h.key h2, h.box.own hO h3, h.gne, h.kne⟩
set_option maxHeartbeats 8000000 in
set_option maxRecDepth 100000 in
theorem back_any (nk ck nn cn na ca n cb : Nat) (ok on oa ob : Option Addr) (K N A P T : Nat → Nat) (w : World) (hg : Handle w) (hK : Bytes w ok nk K) (hN : Bytes w on nn N) (hA : Bytes w oa na A) (hP : Bytes w ob n P) (hT : ∀ i, i < 16 → T i < 256) (hno : ob = none → n = 0)
    (k1 : nk ≤ ck) (k2 : ck ≤ maxLen) (n1 : nn ≤ cn) (n2 : cn ≤ maxLen) (a1 : na ≤ ca) (a2 : ca ≤ maxLen) (p1 : n ≤ cb) (p2 : cb ≤ maxLen) :
    Calls Tryd.prog 5 #[.agg #[.slice ok nk ck, .slice on nn cn, .slice oa na ca], .slice ob n cb, .agg (rowC 16 T).toArray] w fun e w' => e = .returned (.bool true) ∧ Below w.heap.size w w' := by
  obtain ⟨TA, hTA⟩ : ∃ y, (rowC 16 T).toArray = y := ⟨_, rfl⟩
  rw [hTA]
  obtain ⟨w0, hw0⟩ : ∃ y, (w.alloc (.cells #[.slice ok nk ck, .slice on nn cn, .slice oa na ca] 24)).alloc (.cells TA 37) = y := ⟨_, rfl⟩
  have hb0 : Below w.heap.size w w0 := by rw [← hw0]; exact ((Below.refl _ _).alloc (Nat.le_refl _) _).alloc (by simp) _
  have hB0 : Blk w0 w.heap.size #[.slice ok nk ck, .slice on nn cn, .slice oa na ca] 24 := by rw [← hw0]; exact (Blk.new w _ _).alloc _
  have c0 : w0.cell? ⟨w.heap.size, 0, none⟩ = some (.slice ok nk ck) := by rw [Blk.cell hB0]; rfl
  have c1 : w0.cell? ⟨w.heap.size, 1, none⟩ = some (.slice on nn cn) := by rw [Blk.cell hB0]; rfl
  have c2 : w0.cell? ⟨w.heap.size, 2, none⟩ = some (.slice oa na ca) := by rw [Blk.cell hB0]; rfl
  have hTB : Blk w0 (w.heap.size + 1) TA 37 := by rw [← hw0]; simpa using Blk.new (w.alloc (.cells #[.slice ok nk ck, .slice on nn cn, .slice oa na ca] 24)) TA 37
  have HTK := Lib.hid (show Blk w0 (w.heap.size + 1) TA 37 ∧ (rowC 16 T).toArray = TA ∧ (∀ i, i < 16 → T i < 256) ∧ (ob = none → n = 0) from ⟨hTB, hTA, hT, hno⟩)
  clear hTB hTA hT hno
  have HSU : Hid (∀ w', Below w.heap.size w w' → Calls Tryd.prog 6 #[] w' fun e w'' => e = .returned (.bool true) ∧ Below w'.heap.size w' w'') := Lib.hid fun w' hb => sure11 w' (hg.below hb hg.2)
  have HB0 := Lib.hid hb0
  have HBK := Lib.hid hB0
  have HIN := Lib.hid (show Bytes w ok nk K ∧ Bytes w on nn N ∧ Bytes w oa na A ∧ Bytes w ob n P from ⟨hK, hN, hA, hP⟩)
  have HCP := Lib.hid (show nk ≤ ck ∧ nn ≤ cn ∧ na ≤ ca ∧ ca ≤ maxLen ∧ n ≤ cb ∧ cb ≤ maxLen from ⟨k1, n1, a1, a2, p1, p2⟩)
  clear hg hK hN hA hP k1 n1 a1 p1 hb0 hB0 a2 k2 n2 p2
  by_cases hk : nk = 32
  rotate_left
  · have h1 : ¬ (nk : Int) = 32 := by omega
    have h2 : decide ((nk : Int) = 32) = false := decide_eq_false h1
    go_enter Tryd.func5, Tryd.ntmps5
    go_wp2_with fail
    refine (HSU.out w0 HB0.out).mono ?_
    rintro e w1 ⟨rfl, hb1⟩
    have HB1 := Lib.hid (HB0.out.trans (hb1.mono HB0.out.size))
    clear hb1 c0 c1 c2
    go_wp2_with fail
    go_ret
    exact ⟨rfl, HB1.out⟩
  subst hk
  by_cases hn : nn = 12
  rotate_left
  · have h1 : ¬ (nn : Int) = 12 := by omega
    have h2 : decide ((nn : Int) = 12) = false := decide_eq_false h1
    go_enter Tryd.func5, Tryd.ntmps5
    go_wp2_with fail
    refine (HSU.out w0 HB0.out).mono ?_
    rintro e w1 ⟨rfl, hb1⟩
    have HB1 := Lib.hid (HB0.out.trans (hb1.mono HB0.out.size))
    clear hb1 c0 c1 c2
    go_wp2_with fail
    go_ret
    exact ⟨rfl, HB1.out⟩
  subst hn
  by_cases hp : n ≤ 300
  rotate_left
  · have h1 : (300 : Int) < (n : Int) := by omega
    go_enter Tryd.func5, Tryd.ntmps5
    go_wp2_with fail
    refine (HSU.out w0 HB0.out).mono ?_
    rintro e w1 ⟨rfl, hb1⟩
    have HB1 := Lib.hid (HB0.out.trans (hb1.mono HB0.out.size))
    clear hb1 c0 c1 c2
    go_wp2_with fail
    go_ret
    exact ⟨rfl, HB1.out⟩
  have g1 : ¬ ((300 : Int) < (n : Int)) := by omega
  have g2 : decide ((300 : Int) < (n : Int)) = false := decide_eq_false g1
  by_cases ha : na ≤ 300
  rotate_left
  · have h1 : (300 : Int) < (na : Int) := by omega
    go_enter Tryd.func5, Tryd.ntmps5
    go_wp2_with fail
    refine (HSU.out w0 HB0.out).mono ?_
    rintro e w1 ⟨rfl, hb1⟩
    have HB1 := Lib.hid (HB0.out.trans (hb1.mono HB0.out.size))
    clear hb1 c0 c1 c2
    go_wp2_with fail
    go_ret
    exact ⟨rfl, HB1.out⟩
  have g3 : ¬ ((300 : Int) < (na : Int)) := by omega
  have g4 : decide ((300 : Int) < (na : Int)) = false := decide_eq_false g3
  have HPA := Lib.hid (show n ≤ 300 ∧ na ≤ 300 from ⟨hp, ha⟩)
  have HNW := Lib.hid (gnew_any K ok ck w0 (HIN.out.1.later HB0.out))
  clear hp ha
  go_enter Tryd.func5, Tryd.ntmps5
  go_wp2_with fail
  refine HNW.out.mono ?_
  rintro e w1 ⟨g, kb, bx, rfl, hK1, hb1, hx1, -, -⟩
  clear c1 c2 HNW hw0
  have hB1 := HB0.out.trans (hb1.mono HB0.out.size)
  have hk1 := Blk.below HBK.out hb1 (Blk.lt HBK.out)
  have c0 : w1.cell? ⟨w.heap.size, 0, none⟩ = some (.slice ok 32 ck) := by rw [Blk.cell hk1]; rfl
  have HNW := Lib.hid (gnew_any K ok ck w1 (HIN.out.1.later hB1))
  have HS1 := Lib.hid (show KG w1 g kb bx (exK K 60) ∧ Below w0.heap.size w0 w1 ∧ w0.heap.size ≤ bx from ⟨hK1, hb1, hx1⟩)
  clear hK1 hb1 hx1 hB1 hk1
  go_wp2_with fail
  refine HNW.out.mono ?_
  rintro e w2 ⟨g', kb', bx', rfl, hK2, hb2, hx2, hg2, hkb2⟩
  obtain ⟨hK1, hb1, hx1⟩ := HS1.out
  have hB1 := HB0.out.trans (hb1.mono HB0.out.size)
  have hk1 := Blk.below HBK.out hb1 (Blk.lt HBK.out)
  have hB2 := hB1.trans (hb2.mono hB1.size)
  have hk2 := Blk.below hk1 hb2 (Blk.lt hk1)
  have hwb := Blk.lt HBK.out
  obtain ⟨W, hW⟩ : ∃ y, exK K 60 = y := ⟨_, rfl⟩
  rw [hW] at hK1 hK2
  have c1 : w2.cell? ⟨w.heap.size, 1, none⟩ = some (.slice on 12 cn) := by rw [Blk.cell hk2]; rfl
  have c2 : w2.cell? ⟨w.heap.size, 2, none⟩ = some (.slice oa na ca) := by rw [Blk.cell hk2]; rfl
  have hlow : ∀ c, w0.heap.size ≤ c → ∀ (o : Option Addr) (m : Nat) (F : Nat → Nat), Bytes w o m F → ∀ x, o = some x → 0 < m → x.block ≠ c := fun c hc o m F h x hx hm => by have := h.lt x hx hm; omega
  have HLO := Lib.hid hlow
  have hnn : ∀ c, w0.heap.size ≤ c → ∀ x, on = some x → x.block ≠ c := fun c hc x hx => hlow c hc _ _ _ HIN.out.2.1 x hx (by decide)
  have hl1 := hK1.lt
  have HSE := Lib.hid (seal_any g kb bx W N P A n na on ob oa cn cb ca w2 (hK1.below hb2) (HIN.out.2.1.later hB2) (hnn bx hx1) (HIN.out.2.2.2.later hB2) (hlow bx hx1 _ _ _ HIN.out.2.2.2) (HIN.out.2.2.1.later hB2) (hlow bx hx1 _ _ _ HIN.out.2.2.1) HCP.out.2.2.2.2.1 HCP.out.2.2.2.2.2 HCP.out.2.2.1 HCP.out.2.2.2.1 (by have := HPA.out; omega) (by have := HPA.out; omega))
  have HNN := Lib.hid hnn
  have HGE := Lib.hid (show g' ≠ bx ∧ kb' ≠ bx by omega)
  have hT0 := Blk.lt HTK.out.1
  have hT1 := Blk.below HTK.out.1 hb1 hT0
  have HT2 := Lib.hid (show Blk w2 (w.heap.size + 1) TA 37 ∧ w.heap.size + 1 < w0.heap.size from ⟨Blk.below hT1 hb2 (Blk.lt hT1), hT0⟩)
  clear hT0 hT1
  have HS2 := Lib.hid (show KG w2 g' kb' bx' W ∧ Below w.heap.size w w2 ∧ Blk w2 w.heap.size #[.slice ok 32 ck, .slice on 12 cn, .slice oa na ca] 24 ∧ w0.heap.size ≤ bx ∧ w.heap.size < w0.heap.size ∧ bx < w1.heap.size ∧ w1.heap.size ≤ bx' ∧ w1.heap.size ≤ w2.heap.size ∧ w0.heap.size ≤ w1.heap.size from ⟨hK2, hB2, hk2, hx1, hwb, hl1.2.2, hx2, hb2.size, hb1.size⟩)
  clear hg2 hkb2 hK1 hb1 hx1 hB1 hk1 hB2 hk2 hwb hW hlow hnn hl1 hK2 hb2 hx2 c0 HNW
  have s3 : IntKind.i64.wrap ((n : Int) + 16) = (n : Int) + 16 := by have := HPA.out; rw [IntWalk.i64_in _ (by omega)]
  go_wp2_with fail
  refine HSE.out.mono ?_
  rintro e w3 ⟨v, rfl, hG3, hK3, hO3⟩
  have hNb : ∀ i, i < 12 → N i < 256 := fun i hi => (HIN.out.2.1 i hi).1
  have hBx : ∀ i, i < n + 16 → boxF W N P n A na i < 256 := boxF_lt hNb (fun i hi => (HIN.out.2.2.2 i hi).1)
  obtain ⟨gq, cp, hv, hge, hB3, hnc, hcm⟩ := hG3.someN (by omega) hBx
  subst hv
  obtain ⟨hK2, hB2, hk2, hx1, hwb, hbl, hx2, hs12, hs01⟩ := HS2.out
  have hl2 := hK2.lt
  have hs23 := hO3.size
  have hK3' := hK2.other hO3 HGE.out.1 HGE.out.2 (by omega)
  have hk3 := hO3.blk hk2 (by omega)
  have c1 : w3.cell? ⟨w.heap.size, 1, none⟩ = some (.slice on 12 cn) := by rw [Blk.cell hk3]; rfl
  have c2 : w3.cell? ⟨w.heap.size, 2, none⟩ = some (.slice oa na ca) := by rw [Blk.cell hk3]; rfl
  have hin3 : ∀ (o : Option Addr) (k : Nat) (F : Nat → Nat), Bytes w o k F → Bytes w3 o k F := fun o k F h => (h.later hB2).own hO3 (HLO.out bx hx1 o k F h)
  have hgq : gq ≠ bx ∧ gq ≠ bx' := by omega
  have HOP := Lib.hid (open_any g' kb' bx' W N (boxF W N P n A na) A n na gq 0 on oa cn cp ca w3 hK3' (hin3 _ _ _ HIN.out.2.1) (HNN.out bx' (by omega)) hB3 hgq.2 (hin3 _ _ _ HIN.out.2.2.1) hnc hcm HCP.out.2.2.1 HCP.out.2.2.2.1 (by have := HPA.out; omega) (by have := HPA.out; omega))
  have htg : eqF (tgF W N A na (boxF W N P n A na) n) (fun i => boxF W N P n A na (n + i)) = true := eqF_iff.2 fun i hi => by
    rw [tgF_congr (d := cphF W N P) (fun i hi => by unfold boxF catF; rw [if_pos hi])]
    unfold boxF catF
    rw [if_neg (by omega), Nat.add_sub_cancel_left]
  have HTG := Lib.hid htg
  have hbk : ∀ i, i < n → cphF W N (boxF W N P n A na) i = P i := fun i hi => by
    rw [cphF_congr (q := cphF W N P) (by unfold boxF catF; rw [if_pos hi]), cphF_back]
  have HBKP := Lib.hid hbk
  have HS3 := Lib.hid (show KG w3 g kb bx W ∧ Below w.heap.size w w3 ∧ Blk w3 w.heap.size #[.slice ok 32 ck, .slice on 12 cn, .slice oa na ca] 24 ∧ Bytes w3 (some ⟨gq, 0, none⟩) (n + 16) (boxF W N P n A na) ∧ gq ≠ bx ∧ gq ≠ bx' ∧ n + 16 ≤ cp ∧ cp ≤ maxLen from ⟨hK3, hB2.trans (hO3.below (by omega) hB2.size), hk3, hB3, hgq.1, hgq.2, hnc, hcm⟩)
  have HZ3 := Lib.hid (show w2.heap.size ≤ w3.heap.size from hs23)
  have HT3 := Lib.hid (show Blk w3 (w.heap.size + 1) TA 37 ∧ w.heap.size + 1 ≠ bx' from ⟨hO3.blk HT2.out.1 (by have := HT2.out.2; omega), by have := HT2.out.2; omega⟩)
  clear hG3 hK3 hO3 hge hnc hcm hB3 hK2 hB2 hk2 hx1 hwb hbl hx2 hs12 hs01 hl2 hs23 hK3' hk3 hin3 hgq htg hbk HSE
  go_wp2_with fail
  refine HOP.out.mono ?_
  rintro e w4 ⟨hK4, hO4, (⟨_, v, B, rfl, hG4, hB4⟩ | ⟨hf, _⟩)⟩
  rotate_left
  · rw [HTG.out] at hf; cases hf
  have hB4w : Bytes w4 (some ⟨gq, 0, none⟩) (n + 16) (boxF W N P n A na) := HS3.out.2.2.2.1.own hO4 (fun x hx _ => by cases hx; exact HS3.out.2.2.2.2.2.1)
  have hT4 : Blk w4 (w.heap.size + 1) TA 37 := hO4.blk HT3.out.1 HT3.out.2
  have hG4 := hG4.congr HBKP.out
  have HLT := Lib.hid (show bx < w4.heap.size ∧ bx < B ∧ w.heap.size ≠ bx ∧ w.heap.size ≤ bx ∧ w.heap.size ≠ bx' from by
    obtain ⟨a1, a2, a3, a4, a5, a6, a7, a8, a9⟩ := HS2.out
    have := HZ3.out; have := hO4.size; omega)
  have HK4 := Lib.hid (show KG w4 g kb bx W from HS3.out.1.other hO4 (by have := HS1.out.1.lt; have := HS2.out.2.2.2.2.2.2.1; omega) (by have := HS1.out.1.lt; have := HS2.out.2.2.2.2.2.2.1; omega) (by have := HS2.out.2.2.2.2.2.1; have := HS2.out.2.2.2.2.2.2.1; omega))
  have HBW4 := Lib.hid (show Below w.heap.size w w4 from HS3.out.2.1.trans (hO4.below (by have := HS2.out.2.2.2.2; omega) HS3.out.2.1.size))
  have HBC4 := Lib.hid (show Blk w4 w.heap.size #[.slice ok 32 ck, .slice on 12 cn, .slice oa na ca] 24 from hO4.blk HS3.out.2.2.1 HLT.out.2.2.2.2)
  obtain ⟨oo, co, hv, hBo, hnc, hcm, hno⟩ := hG4.bytesM (fun i hi => (HIN.out.2.2.2 i hi).1)
  subst hv
  have HBN : Hid (∀ A', Below w4.heap.size w4 A' → Bytes A' (some ⟨gq, 0, none⟩) n (boxF W N P n A na)) := Lib.hid fun A' hb k hk => (hB4w.later hb) k (by omega)
  have HTB : Hid (∀ A', Below w4.heap.size w4 A' → Bytes A' (some ⟨w.heap.size + 1, 0, none⟩) 16 T) := Lib.hid fun A' hb k hk => ⟨HTK.out.2.2.1 k hk, _, 0, rfl, by
    have := Blk.below hT4 hb (Blk.lt hT4)
    rw [Nat.zero_add, Blk.cell this, ← HTK.out.2.1, List.getElem?_toArray]; exact rowC_get T hk⟩
  have HG4 := Lib.hid hG4
  have HS4 := Lib.hid (show KG w4 g' kb' bx' W ∧ Own bx' w3 w4 ∧ Bytes w4 (some ⟨gq, 0, none⟩) (n + 16) (boxF W N P n A na) ∧ Bytes w4 oo n P ∧ (oo = none → n = 0) ∧ n ≤ co from ⟨hK4, hO4, hB4w, hBo, hno, hnc⟩)
  clear hK4 hO4 hG4 hB4 hB4w hT4 hBo hnc hcm hno c1 c2 HOP
  have i0 : (n : Int) ≤ (cp : Int) := by have := HS3.out.2.2.2.2.2.2.1; omega
  go_upto_region 11 with fail
  have hb0 : Below w4.heap.size w4 w4.drew := ⟨rfl, rfl, rfl, Nat.le_refl _, fun _ _ => rfl⟩
  refine wp_region_held_drew (S := (fun _ => True)) (by kernel_rfl) ?_ (fun hHeld => ?_)
  · (try dsimp only)
    all_goals trivial
  generalize w4.drew = W0 at *
  refine wpAnyH_take (i := 1) (oi := { dst := some 87, op := Go.Op.move (Go.Operand.tmp 11), type := 22, pos := "law.go:73", after := #[], guard := none }) (v := ?_) rfl (by kernel_rfl) (by kernel_rfl) (by kernel_rfl) (fun _ _ _ h => h) (Or.inl ⟨by rfl, ?_⟩) (by assumption) ?_
  rotate_left
  · intro wS hSw
    (try dsimp only at hSw)
    go_simp
    (try with_reducible rfl)
  (try simp only [Act.put, List.setIfInBounds_toArray, List.set_cons_zero, List.set_cons_succ])
  refine wpAnyH_take (i := 2) (oi := { dst := some 88, op := Go.Op.move (Go.Operand.tmp 1), type := 22, pos := "law.go:73", after := #[], guard := none }) (v := ?_) rfl (by kernel_rfl) (by kernel_rfl) (by kernel_rfl) (fun _ _ _ h => h) (Or.inl ⟨by rfl, ?_⟩) (by assumption) ?_
  rotate_left
  · intro wS hSw
    (try dsimp only at hSw)
    go_simp
    (try with_reducible rfl)
  (try simp only [Act.put, List.setIfInBounds_toArray, List.set_cons_zero, List.set_cons_succ])
  refine wpAnyH_take (i := 3) (oi := { dst := some 89, op := Go.Op.call { callee := Go.Callee.builtin Go.Builtin.len, args := #[Go.Operand.tmp 88], argTypes := #[22] }, type := 3, pos := "law.go:73", after := #[{ on := 2, ground := Go.Ground.data }], guard := none }) (v := ?_) rfl (by kernel_rfl) (by kernel_rfl) (by kernel_rfl) (fun _ _ _ h => h) (Or.inl ⟨by rfl, ?_⟩) (by assumption) ?_
  rotate_left
  · intro wS hSw
    (try dsimp only at hSw)
    go_simp
    (try with_reducible rfl)
  (try simp only [Act.put, List.setIfInBounds_toArray, List.set_cons_zero, List.set_cons_succ])
  refine wpAnyH_take (i := 4) (oi := { dst := some 90, op := Go.Op.slice 22 (Go.Operand.tmp 87) none (some (Go.Operand.tmp 89)) none, type := 22, pos := "law.go:73", after := #[{ on := 1, ground := Go.Ground.data }, { on := 3, ground := Go.Ground.data }], guard := none }) (v := ?_) rfl (by kernel_rfl) (by kernel_rfl) (by kernel_rfl) (fun _ _ _ h => h) (Or.inl ⟨by rfl, ?_⟩) (by assumption) ?_
  rotate_left
  · intro wS hSw
    (try dsimp only at hSw)
    go_simp
    (try with_reducible rfl)
  (try simp only [Act.put, List.setIfInBounds_toArray, List.set_cons_zero, List.set_cons_succ])
  refine wpAnyH_take (i := 6) (oi := { dst := some 92, op := Go.Op.slice 37 (Go.Operand.tmp 5) none none none, type := 22, pos := "law.go:73", after := #[], guard := none }) (v := ?_) rfl (by kernel_rfl) (by kernel_rfl) (by kernel_rfl) (fun _ _ _ h => h) (Or.inl ⟨by rfl, ?_⟩) (by assumption) ?_
  rotate_left
  · intro wS hSw
    (try dsimp only at hSw)
    go_simp
    (try with_reducible rfl)
  (try simp only [Act.put, List.setIfInBounds_toArray, List.set_cons_zero, List.set_cons_succ])
  refine wpAnyH_ready (rs := [0]) (by kernel_rfl) (by simp) ?_
  refine AllReadyH.cons (o := { dst := some 86, op := Go.Op.buildSlice 22 0 #[], type := 22, pos := "law.go:73", after := #[], guard := none }) rfl (fun K hK => ?_) AllReadyH.nil
  go_simp
  (obtain ⟨W1, hW1⟩ : ∃ q, W0.alloc (.cells #[] 5) = q := ⟨_, rfl⟩; rw [hW1]; have hE1 : Blk W1 W0.heap.size #[] 5 := (by rw [← hW1]; exact Blk.new _ _ _); have hb1 : Below w4.heap.size w4 W1 := (by rw [← hW1]; exact hb0.alloc hb0.size _); have hG1 := Grow.empty hE1 hb0.size (boxF W N P n A na); clear hE1 hb0 hW1; skip)
  (try go_wp2_with fail)
  refine hK.out _ _ ?_ (fun hHeld => ?_)
  · (try dsimp only)
    all_goals trivial
  clear hK K
  (try simp only [Act.put, List.setIfInBounds_toArray, List.set_cons_zero, List.set_cons_succ])
  refine wpAnyH_ready (rs := [5]) (by kernel_rfl) (by simp) ?_
  refine AllReadyH.cons (o := { dst := some 91, op := Go.Op.call { callee := Go.Callee.builtin Go.Builtin.append, args := #[Go.Operand.tmp 86, Go.Operand.tmp 90], argTypes := #[22, 22] }, type := 22, pos := "law.go:73", after := #[{ on := 0, ground := Go.Ground.data }, { on := 4, ground := Go.Ground.data }], guard := none }) rfl (fun K hK => ?_) AllReadyH.nil
  (refine step_appO rfl (.tmp 86) (.tmp 90) rfl w4.heap.size (.slice (some ⟨W0.heap.size, 0, none⟩) 0 0) 0 n cp (some ⟨gq, 0, none⟩) (boxF W N P n A na) (boxF W N P n A na) W1 rfl hG1 rfl (fun e => by cases e) (HBN.out _ hb1) (by have := HPA.out; omega) hb1.size ?_; intro v5 W2 hG2' hg2 ho2; have hb2 := hb1.trans (grow_bel hG1 hb1.size hg2); rw [Nat.zero_add] at hG2'; have hG2 := hG2'.congr (g := boxF W N P n A na) (fun i hi => by unfold catF; rw [if_neg (Nat.not_lt_zero _), Nat.sub_zero]); clear hG2' hg2 ho2 hG1 hb1; skip)
  refine hK.out _ _ ?_ (fun hHeld => ?_)
  · (try dsimp only)
    all_goals trivial
  clear hK K
  (try simp only [Act.put, List.setIfInBounds_toArray, List.set_cons_zero, List.set_cons_succ])
  refine wpAnyH_ready (rs := [7]) (by kernel_rfl) (by simp) ?_
  refine AllReadyH.cons (o := { dst := some 93, op := Go.Op.call { callee := Go.Callee.builtin Go.Builtin.append, args := #[Go.Operand.tmp 91, Go.Operand.tmp 92], argTypes := #[22, 22] }, type := 22, pos := "law.go:73", after := #[{ on := 5, ground := Go.Ground.data }, { on := 6, ground := Go.Ground.data }, { on := 5, ground := Go.Ground.chain }], guard := none }) rfl (fun K hK => ?_) AllReadyH.nil
  (refine step_appO rfl (.tmp 91) (.tmp 92) rfl w4.heap.size v5 n 16 16 (some ⟨w.heap.size + 1, 0, none⟩) (boxF W N P n A na) T W2 rfl hG2 rfl (fun e => by cases e) (HTB.out _ hb2) (by have := HPA.out; omega) hb2.size ?_; intro v6 W3 hG3 hg3 ho3; have hb3 := hb2.trans (grow_bel hG2 hb2.size hg3); clear hg3 ho3 hG2 hb2; skip)
  refine hK.out _ _ ?_ (fun hHeld => ?_)
  · (try dsimp only)
    all_goals trivial
  clear hK K
  (try simp only [Act.put, List.setIfInBounds_toArray, List.set_cons_zero, List.set_cons_succ])
  refine wpAnyH_take (i := 8) (oi := { dst := some 15, op := Go.Op.assign (Go.Operand.tmp 93), type := 22, pos := "law.go:73", after := #[{ on := 7, ground := Go.Ground.data }, { on := 7, ground := Go.Ground.chain }, { on := 0, ground := Go.Ground.phase }, { on := 1, ground := Go.Ground.phase }, { on := 2, ground := Go.Ground.phase }, { on := 3, ground := Go.Ground.phase }, { on := 4, ground := Go.Ground.phase }, { on := 5, ground := Go.Ground.phase }, { on := 6, ground := Go.Ground.phase }, { on := 7, ground := Go.Ground.phase }], guard := none }) (v := ?_) rfl (by kernel_rfl) (by kernel_rfl) (by kernel_rfl) (fun _ _ _ h => h) (Or.inl ⟨by rfl, ?_⟩) (by assumption) ?_
  rotate_left
  · intro wS hSw
    (try dsimp only at hSw)
    go_simp
    (try with_reducible rfl)
  (try simp only [Act.put, List.setIfInBounds_toArray, List.set_cons_zero, List.set_cons_succ])
  refine wpAnyH_done (by kernel_rfl) ?_ _
  obtain ⟨g6, c6, hv6, hge6, hB6, hc6, hm6⟩ := hG3.someN (by omega) (catF_b (fun i hi => (HS4.out.2.2.1 i (by omega)).1) HTK.out.2.2.1)
  subst hv6
  have hbd := hb3.drew
  have hB6d : Bytes W3.drew (some ⟨g6, 0, none⟩) (n + 16) (catF n (boxF W N P n A na) T) := hB6.later (Below.refl _ _).drew
  clear hB6 hG3 hb3
  obtain ⟨SP, hSP⟩ : ∃ y, strF n P = y := ⟨_, rfl⟩
  obtain ⟨SO, hSO⟩ : ∃ y, strF (n + 16) (catF n (boxF W N P n A na) T) = y := ⟨_, rfl⟩
  obtain ⟨SX, hSX⟩ : ∃ y, strF (n + 16) (boxF W N P n A na) = y := ⟨_, rfl⟩
  have HC4 : Hid (∀ A', Own bx W3.drew A' → (convert 22 9 (.slice oo n co)).run Tryd.prog A' = .ok (.string SP) A') := Lib.hid fun A' hA' => by
    rw [← hSP]; exact ((HG4.out.later hbd).own hA' HLT.out.2.1).conv
  have HC6 : Hid (∀ A', Own bx W3.drew A' → (convert 22 9 (.slice ob n cb)).run Tryd.prog A' = .ok (.string SP) A') := Lib.hid fun A' hA' => by
    rw [← hSP]; exact conv_any (((HIN.out.2.2.2.later HBW4.out).later hbd).own hA' (HLO.out bx HS2.out.2.2.2.1 _ _ _ HIN.out.2.2.2)) HTK.out.2.2.2
  have HC18 : Hid (∀ A', Own bx W3.drew A' → (convert 22 9 (.slice (some ⟨g6, 0, none⟩) (n + 16) c6)).run Tryd.prog A' = .ok (.string SO) A') := Lib.hid fun A' hA' => by
    rw [← hSO]; exact Bytes.conv (hB6d.own hA' (fun x hx _ => by cases hx; have := HLT.out; show g6 ≠ bx; omega))
  have HC20 : Hid (∀ A', Own bx W3.drew A' → (convert 22 9 (.slice (some ⟨gq, 0, none⟩) (n + 16) cp)).run Tryd.prog A' = .ok (.string SX) A') := Lib.hid fun A' hA' => by
    rw [← hSX]; exact Bytes.conv ((HS4.out.2.2.1.later hbd).own hA' (fun x hx _ => by cases hx; exact HS3.out.2.2.2.2.1))
  have HKB : Hid (∀ A', Own bx W3.drew A' → Blk A' w.heap.size #[.slice ok 32 ck, .slice on 12 cn, .slice oa na ca] 24) := Lib.hid fun A' hA' => hA'.blk (Blk.below HBC4.out hbd (Blk.lt HBC4.out)) HLT.out.2.2.1
  have HL : Hid (∀ A', Own bx W3.drew A' → A'.cell? ⟨w.heap.size, 1, none⟩ = some (.slice on 12 cn)) := Lib.hid fun A' hA' => by rw [Blk.cell (HKB.out A' hA')]; rfl
  have HM : Hid (∀ A', Own bx W3.drew A' → A'.cell? ⟨w.heap.size, 2, none⟩ = some (.slice oa na ca)) := Lib.hid fun A' hA' => by rw [Blk.cell (HKB.out A' hA')]; rfl
  have HBW : Hid (∀ A', Own bx W3.drew A' → Below w.heap.size w A') := Lib.hid fun A' hA' => by
    have h1 := HBW4.out.trans (hbd.mono HBW4.out.size)
    exact h1.trans (hA'.below HLT.out.2.2.2.1 h1.size)
  have hT1 : tgF W N A na (catF n (boxF W N P n A na) T) n = tgF W N A na (cphF W N P) n := tgF_congr (fun i hi => by unfold catF; rw [if_pos hi]; unfold boxF catF; rw [if_pos hi])
  have hT2 : ∀ i, catF n (boxF W N P n A na) T (n + i) = T i := fun i => by unfold catF; rw [if_neg (by omega), Nat.add_sub_cancel_left]
  have hT3 : ∀ i, boxF W N P n A na (n + i) = tgF W N A na (cphF W N P) n i := fun i => by unfold boxF catF; rw [if_neg (by omega), Nat.add_sub_cancel_left]
  have hOPS := opens_any g kb bx W N (catF n (boxF W N P n A na) T) A n na g6 0 on oa cn c6 ca W3.drew (HK4.out.below hbd) ((HIN.out.2.1.later HBW4.out).later hbd) (HNN.out bx HS2.out.2.2.2.1) hB6d (by have := HLT.out; omega) ((HIN.out.2.2.1.later HBW4.out).later hbd) hc6 hm6 HCP.out.2.2.1 HCP.out.2.2.2.1 (by have := HPA.out; omega) (by have := HPA.out; omega)
  by_cases hall : ∀ i, i < 16 → T i = boxF W N P n A na (n + i)
  · skip
    have hE : eqF (tgF W N A na (catF n (boxF W N P n A na) T) n) (fun i => catF n (boxF W N P n A na) T (n + i)) = true := eqF_iff.2 fun i hi => by
      show tgF W N A na (catF n (boxF W N P n A na) T) n i = catF n (boxF W N P n A na) T (n + i)
      rw [hT1, hT2, hall i hi, hT3]
    rw [hE] at hOPS
    have hse : SO = SX := by
      rw [← hSO, ← hSX]
      exact strF_congr fun i hi => by
        by_cases h : i < n
        · unfold catF; rw [if_pos h]
        · have h3 := hall (i - n) (by omega)
          have h4 := hT2 (i - n)
          rw [show n + (i - n) = i by omega] at h3 h4
          rw [h4, h3]
    subst hse
    have HOPS := Lib.hid hOPS
    clear hOPS hE hT1 hT2 hT3 hall hSP hSO hSX hB6d hbd hge6 hc6 hm6
    go_upto_region 12 with fail
    refine wp_region_held_drew (S := (Own bx W3.drew)) (by kernel_rfl) ?_ (fun hHeld => ?_)
    · (try dsimp only)
      (first | exact Own.refl _ _ | assumption)
    generalize W3.drew = WR at *
    refine wpAnyH_take (i := 0) (oi := { dst := some 94, op := Go.Op.move (Go.Operand.tmp 14), type := 28, pos := "law.go:74", after := #[], guard := none }) (v := ?_) rfl (by kernel_rfl) (by kernel_rfl) (by kernel_rfl) (fun _ _ _ h => h) (Or.inl ⟨by rfl, ?_⟩) (by assumption) ?_
    rotate_left
    · intro wS hSw
      (try dsimp only at hSw)
      go_simp
      (try with_reducible rfl)
    (try simp only [Act.put, List.setIfInBounds_toArray, List.set_cons_zero, List.set_cons_succ])
    refine wpAnyH_take (i := 1) (oi := { dst := some 95, op := Go.Op.binOp Go.BinOp.eql 28 (Go.Operand.tmp 94) (Go.Operand.const Go.Value.nilIface) 28, type := 4, pos := "law.go:74", after := #[{ on := 0, ground := Go.Ground.data }], guard := none }) (v := ?_) rfl (by kernel_rfl) (by kernel_rfl) (by kernel_rfl) (fun _ _ _ h => h) (Or.inl ⟨by rfl, ?_⟩) (by assumption) ?_
    rotate_left
    · intro wS hSw
      (try dsimp only at hSw)
      go_simp
      (try with_reducible rfl)
    (try simp only [Act.put, List.setIfInBounds_toArray, List.set_cons_zero, List.set_cons_succ])
    refine wpAnyH_take (i := 2) (oi := { dst := some 96, op := Go.Op.move (Go.Operand.tmp 95), type := 4, pos := "law.go:74", after := #[{ on := 1, ground := Go.Ground.data }], guard := none }) (v := ?_) rfl (by kernel_rfl) (by kernel_rfl) (by kernel_rfl) (fun _ _ _ h => h) (Or.inl ⟨by rfl, ?_⟩) (by assumption) ?_
    rotate_left
    · intro wS hSw
      (try dsimp only at hSw)
      go_simp
      (try with_reducible rfl)
    (try simp only [Act.put, List.setIfInBounds_toArray, List.set_cons_zero, List.set_cons_succ])
    refine wpAnyH_take (i := 3) (oi := { dst := some 97, op := Go.Op.move (Go.Operand.tmp 13), type := 22, pos := "law.go:74", after := #[{ on := 2, ground := Go.Ground.guard }], guard := some (2, true) }) (v := ?_) rfl (by kernel_rfl) (by kernel_rfl) (by kernel_rfl) (fun _ _ _ h => h) (Or.inl ⟨by rfl, ?_⟩) (by assumption) ?_
    rotate_left
    · intro wS hSw
      (try dsimp only at hSw)
      go_simp
      (try with_reducible rfl)
    (try simp only [Act.put, List.setIfInBounds_toArray, List.set_cons_zero, List.set_cons_succ])
    refine wpAnyH_take (i := 4) (oi := { dst := some 98, op := Go.Op.convert 22 9 (Go.Operand.tmp 97), type := 9, pos := "law.go:74", after := #[{ on := 3, ground := Go.Ground.data }, { on := 2, ground := Go.Ground.guard }], guard := some (2, true) }) (v := ?_) rfl (by kernel_rfl) (by kernel_rfl) (by kernel_rfl) (fun _ _ _ h => h) (Or.inl ⟨by rfl, ?_⟩) (by assumption) ?_
    rotate_left
    · intro wS hSw
      refine exec_convO (x := .tmp 97) ?_ ?_ (HC4.out _ hSw) <;> rfl
    (try simp only [Act.put, List.setIfInBounds_toArray, List.set_cons_zero, List.set_cons_succ])
    refine wpAnyH_take (i := 5) (oi := { dst := some 99, op := Go.Op.move (Go.Operand.tmp 1), type := 22, pos := "law.go:74", after := #[{ on := 2, ground := Go.Ground.guard }], guard := some (2, true) }) (v := ?_) rfl (by kernel_rfl) (by kernel_rfl) (by kernel_rfl) (fun _ _ _ h => h) (Or.inl ⟨by rfl, ?_⟩) (by assumption) ?_
    rotate_left
    · intro wS hSw
      (try dsimp only at hSw)
      go_simp
      (try with_reducible rfl)
    (try simp only [Act.put, List.setIfInBounds_toArray, List.set_cons_zero, List.set_cons_succ])
    refine wpAnyH_take (i := 6) (oi := { dst := some 100, op := Go.Op.convert 22 9 (Go.Operand.tmp 99), type := 9, pos := "law.go:74", after := #[{ on := 5, ground := Go.Ground.data }, { on := 2, ground := Go.Ground.guard }], guard := some (2, true) }) (v := ?_) rfl (by kernel_rfl) (by kernel_rfl) (by kernel_rfl) (fun _ _ _ h => h) (Or.inl ⟨by rfl, ?_⟩) (by assumption) ?_
    rotate_left
    · intro wS hSw
      refine exec_convO (x := .tmp 99) ?_ ?_ (HC6.out _ hSw) <;> rfl
    (try simp only [Act.put, List.setIfInBounds_toArray, List.set_cons_zero, List.set_cons_succ])
    refine wpAnyH_take (i := 7) (oi := { dst := some 101, op := Go.Op.binOp Go.BinOp.eql 9 (Go.Operand.tmp 98) (Go.Operand.tmp 100) 9, type := 4, pos := "law.go:74", after := #[{ on := 4, ground := Go.Ground.data }, { on := 6, ground := Go.Ground.data }, { on := 2, ground := Go.Ground.guard }], guard := some (2, true) }) (v := ?_) rfl (by kernel_rfl) (by kernel_rfl) (by kernel_rfl) (fun _ _ _ h => h) (Or.inl ⟨by rfl, ?_⟩) (by assumption) ?_
    rotate_left
    · intro wS hSw
      (try dsimp only at hSw)
      go_simp
      (try with_reducible rfl)
    (try simp only [Act.put, List.setIfInBounds_toArray, List.set_cons_zero, List.set_cons_succ])
    refine wpAnyH_take (i := 8) (oi := { dst := some 102, op := Go.Op.pick (Go.Operand.tmp 96) (Go.Operand.tmp 101) (Go.Operand.const (Go.Value.bool false)), type := 4, pos := "law.go:74", after := #[{ on := 2, ground := Go.Ground.data }, { on := 7, ground := Go.Ground.data }], guard := none }) (v := ?_) rfl (by kernel_rfl) (by kernel_rfl) (by kernel_rfl) (fun _ _ _ h => h) (Or.inl ⟨by rfl, ?_⟩) (by assumption) ?_
    rotate_left
    · intro wS hSw
      (try dsimp only at hSw)
      go_simp
      (try with_reducible rfl)
    (try simp only [Act.put, List.setIfInBounds_toArray, List.set_cons_zero, List.set_cons_succ])
    refine wpAnyH_take (i := 9) (oi := { dst := some 103, op := Go.Op.move (Go.Operand.tmp 102), type := 4, pos := "law.go:74", after := #[{ on := 8, ground := Go.Ground.data }, { on := 2, ground := Go.Ground.chain }], guard := none }) (v := ?_) rfl (by kernel_rfl) (by kernel_rfl) (by kernel_rfl) (fun _ _ _ h => h) (Or.inl ⟨by rfl, ?_⟩) (by assumption) ?_
    rotate_left
    · intro wS hSw
      (try dsimp only at hSw)
      go_simp
      (try with_reducible rfl)
    (try simp only [Act.put, List.setIfInBounds_toArray, List.set_cons_zero, List.set_cons_succ])
    refine wpAnyH_take (i := 10) (oi := { dst := some 104, op := Go.Op.move (Go.Operand.tmp 7), type := 26, pos := "law.go:74", after := #[{ on := 9, ground := Go.Ground.guard }], guard := some (9, true) }) (v := ?_) rfl (by kernel_rfl) (by kernel_rfl) (by kernel_rfl) (fun _ _ _ h => h) (Or.inl ⟨by rfl, ?_⟩) (by assumption) ?_
    rotate_left
    · intro wS hSw
      (try dsimp only at hSw)
      go_simp
      (try with_reducible rfl)
    (try simp only [Act.put, List.setIfInBounds_toArray, List.set_cons_zero, List.set_cons_succ])
    refine wpAnyH_take (i := 11) (oi := { dst := some 105, op := Go.Op.fieldAddr 24 (Go.Operand.tmp 3) 1, type := 0, pos := "law.go:74", after := #[{ on := 9, ground := Go.Ground.guard }], guard := some (9, true) }) (v := ?_) rfl (by kernel_rfl) (by kernel_rfl) (by kernel_rfl) (fun _ _ _ h => h) (Or.inl ⟨by rfl, ?_⟩) (by assumption) ?_
    rotate_left
    · intro wS hSw
      (try dsimp only at hSw)
      go_simp
      (try with_reducible rfl)
    (try simp only [Act.put, List.setIfInBounds_toArray, List.set_cons_zero, List.set_cons_succ])
    refine wpAnyH_take (i := 12) (oi := { dst := some 106, op := Go.Op.load 22 (Go.Operand.tmp 105), type := 22, pos := "law.go:74", after := #[{ on := 11, ground := Go.Ground.data }, { on := 9, ground := Go.Ground.guard }], guard := some (9, true) }) (v := ?_) rfl (by kernel_rfl) (by kernel_rfl) (by kernel_rfl) (fun _ _ _ h => h) (Or.inl ⟨by rfl, ?_⟩) (by assumption) ?_
    rotate_left
    · intro wS hSw
      have c1 := HL.out wS hSw
      go_simp
      (try with_reducible rfl)
    (try simp only [Act.put, List.setIfInBounds_toArray, List.set_cons_zero, List.set_cons_succ])
    refine wpAnyH_take (i := 13) (oi := { dst := some 107, op := Go.Op.move (Go.Operand.tmp 15), type := 22, pos := "law.go:74", after := #[{ on := 9, ground := Go.Ground.guard }], guard := some (9, true) }) (v := ?_) rfl (by kernel_rfl) (by kernel_rfl) (by kernel_rfl) (fun _ _ _ h => h) (Or.inl ⟨by rfl, ?_⟩) (by assumption) ?_
    rotate_left
    · intro wS hSw
      (try dsimp only at hSw)
      go_simp
      (try with_reducible rfl)
    (try simp only [Act.put, List.setIfInBounds_toArray, List.set_cons_zero, List.set_cons_succ])
    refine wpAnyH_take (i := 14) (oi := { dst := some 108, op := Go.Op.fieldAddr 24 (Go.Operand.tmp 3) 2, type := 0, pos := "law.go:74", after := #[{ on := 9, ground := Go.Ground.guard }], guard := some (9, true) }) (v := ?_) rfl (by kernel_rfl) (by kernel_rfl) (by kernel_rfl) (fun _ _ _ h => h) (Or.inl ⟨by rfl, ?_⟩) (by assumption) ?_
    rotate_left
    · intro wS hSw
      (try dsimp only at hSw)
      go_simp
      (try with_reducible rfl)
    (try simp only [Act.put, List.setIfInBounds_toArray, List.set_cons_zero, List.set_cons_succ])
    refine wpAnyH_take (i := 15) (oi := { dst := some 109, op := Go.Op.load 22 (Go.Operand.tmp 108), type := 22, pos := "law.go:74", after := #[{ on := 14, ground := Go.Ground.data }, { on := 9, ground := Go.Ground.guard }], guard := some (9, true) }) (v := ?_) rfl (by kernel_rfl) (by kernel_rfl) (by kernel_rfl) (fun _ _ _ h => h) (Or.inl ⟨by rfl, ?_⟩) (by assumption) ?_
    rotate_left
    · intro wS hSw
      have c2 := HM.out wS hSw
      go_simp
      (try with_reducible rfl)
    (try simp only [Act.put, List.setIfInBounds_toArray, List.set_cons_zero, List.set_cons_succ])
    refine wpAnyH_take (i := 17) (oi := { dst := some 111, op := Go.Op.move (Go.Operand.tmp 15), type := 22, pos := "law.go:74", after := #[{ on := 9, ground := Go.Ground.guard }], guard := some (9, true) }) (v := ?_) rfl (by kernel_rfl) (by kernel_rfl) (by kernel_rfl) (fun _ _ _ h => h) (Or.inl ⟨by rfl, ?_⟩) (by assumption) ?_
    rotate_left
    · intro wS hSw
      (try dsimp only at hSw)
      go_simp
      (try with_reducible rfl)
    (try simp only [Act.put, List.setIfInBounds_toArray, List.set_cons_zero, List.set_cons_succ])
    refine wpAnyH_take (i := 18) (oi := { dst := some 112, op := Go.Op.convert 22 9 (Go.Operand.tmp 111), type := 9, pos := "law.go:74", after := #[{ on := 17, ground := Go.Ground.data }, { on := 9, ground := Go.Ground.guard }], guard := some (9, true) }) (v := ?_) rfl (by kernel_rfl) (by kernel_rfl) (by kernel_rfl) (fun _ _ _ h => h) (Or.inl ⟨by rfl, ?_⟩) (by assumption) ?_
    rotate_left
    · intro wS hSw
      refine exec_convO (x := .tmp 111) ?_ ?_ (HC18.out _ hSw) <;> rfl
    (try simp only [Act.put, List.setIfInBounds_toArray, List.set_cons_zero, List.set_cons_succ])
    refine wpAnyH_take (i := 19) (oi := { dst := some 113, op := Go.Op.move (Go.Operand.tmp 11), type := 22, pos := "law.go:74", after := #[{ on := 9, ground := Go.Ground.guard }], guard := some (9, true) }) (v := ?_) rfl (by kernel_rfl) (by kernel_rfl) (by kernel_rfl) (fun _ _ _ h => h) (Or.inl ⟨by rfl, ?_⟩) (by assumption) ?_
    rotate_left
    · intro wS hSw
      (try dsimp only at hSw)
      go_simp
      (try with_reducible rfl)
    (try simp only [Act.put, List.setIfInBounds_toArray, List.set_cons_zero, List.set_cons_succ])
    refine wpAnyH_take (i := 20) (oi := { dst := some 114, op := Go.Op.convert 22 9 (Go.Operand.tmp 113), type := 9, pos := "law.go:74", after := #[{ on := 19, ground := Go.Ground.data }, { on := 9, ground := Go.Ground.guard }], guard := some (9, true) }) (v := ?_) rfl (by kernel_rfl) (by kernel_rfl) (by kernel_rfl) (fun _ _ _ h => h) (Or.inl ⟨by rfl, ?_⟩) (by assumption) ?_
    rotate_left
    · intro wS hSw
      refine exec_convO (x := .tmp 113) ?_ ?_ (HC20.out _ hSw) <;> rfl
    (try simp only [Act.put, List.setIfInBounds_toArray, List.set_cons_zero, List.set_cons_succ])
    refine wpAnyH_take (i := 21) (oi := { dst := some 115, op := Go.Op.binOp Go.BinOp.eql 9 (Go.Operand.tmp 112) (Go.Operand.tmp 114) 9, type := 4, pos := "law.go:74", after := #[{ on := 18, ground := Go.Ground.data }, { on := 20, ground := Go.Ground.data }, { on := 9, ground := Go.Ground.guard }], guard := some (9, true) }) (v := ?_) rfl (by kernel_rfl) (by kernel_rfl) (by kernel_rfl) (fun _ _ _ h => h) (Or.inl ⟨by rfl, ?_⟩) (by assumption) ?_
    rotate_left
    · intro wS hSw
      (try dsimp only at hSw)
      go_simp
      (try with_reducible rfl)
    (try simp only [Act.put, List.setIfInBounds_toArray, List.set_cons_zero, List.set_cons_succ])
    refine wpAnyH_ready (rs := [16]) (by kernel_rfl) (by simp) ?_
    refine AllReadyH.cons (o := { dst := some 110, op := Go.Op.call { callee := Go.Callee.value (Go.Operand.func 9), args := #[Go.Operand.tmp 104, Go.Operand.tmp 106, Go.Operand.tmp 107, Go.Operand.tmp 109], argTypes := #[26, 22, 22, 22] }, type := 4, pos := "law.go:74", after := #[{ on := 10, ground := Go.Ground.data }, { on := 12, ground := Go.Ground.data }, { on := 13, ground := Go.Ground.data }, { on := 15, ground := Go.Ground.data }, { on := 9, ground := Go.Ground.chain }, { on := 9, ground := Go.Ground.guard }], guard := some (9, true) }) rfl (fun K hK => ?_) AllReadyH.nil
    go_simp
    (refine HOPS.out.mono ?_; rintro e w7 ⟨rfl, hK7, hO7⟩; clear hK7; skip)
    (try go_wp2_with fail)
    refine hK.out _ _ ?_ (fun hHeld => ?_)
    · (try dsimp only)
      (first | exact Own.refl _ _ | assumption)
    clear hK K
    (try simp only [Act.put, List.setIfInBounds_toArray, List.set_cons_zero, List.set_cons_succ])
    refine wpAnyH_take (i := 22) (oi := { dst := some 116, op := Go.Op.binOp Go.BinOp.eql 4 (Go.Operand.tmp 110) (Go.Operand.tmp 115) 4, type := 4, pos := "law.go:74", after := #[{ on := 16, ground := Go.Ground.data }, { on := 21, ground := Go.Ground.data }, { on := 9, ground := Go.Ground.guard }], guard := some (9, true) }) (v := ?_) rfl (by kernel_rfl) (by kernel_rfl) (by kernel_rfl) (fun _ _ _ h => h) (Or.inl ⟨by rfl, ?_⟩) (by assumption) ?_
    rotate_left
    · intro wS hSw
      (try dsimp only at hSw)
      go_simp
      (try with_reducible rfl)
    (try simp only [Act.put, List.setIfInBounds_toArray, List.set_cons_zero, List.set_cons_succ])
    refine wpAnyH_take (i := 23) (oi := { dst := some 117, op := Go.Op.pick (Go.Operand.tmp 103) (Go.Operand.tmp 116) (Go.Operand.const (Go.Value.bool false)), type := 4, pos := "law.go:74", after := #[{ on := 9, ground := Go.Ground.data }, { on := 22, ground := Go.Ground.data }], guard := none }) (v := ?_) rfl (by kernel_rfl) (by kernel_rfl) (by kernel_rfl) (fun _ _ _ h => h) (Or.inl ⟨by rfl, ?_⟩) (by assumption) ?_
    rotate_left
    · intro wS hSw
      (try dsimp only at hSw)
      go_simp
      (try with_reducible rfl)
    (try simp only [Act.put, List.setIfInBounds_toArray, List.set_cons_zero, List.set_cons_succ])
    refine wpAnyH_take (i := 24) (oi := { dst := some 118, op := Go.Op.move (Go.Operand.tmp 117), type := 4, pos := "law.go:74", after := #[{ on := 23, ground := Go.Ground.data }, { on := 16, ground := Go.Ground.chain }], guard := none }) (v := ?_) rfl (by kernel_rfl) (by kernel_rfl) (by kernel_rfl) (fun _ _ _ h => h) (Or.inl ⟨by rfl, ?_⟩) (by assumption) ?_
    rotate_left
    · intro wS hSw
      (try dsimp only at hSw)
      go_simp
      (try with_reducible rfl)
    (try simp only [Act.put, List.setIfInBounds_toArray, List.set_cons_zero, List.set_cons_succ])
    refine wpAnyH_ready (rs := [25]) (by kernel_rfl) (by simp) ?_
    refine AllReadyH.cons (o := { dst := some 119, op := Go.Op.call { callee := Go.Callee.value (Go.Operand.func 6), args := #[], argTypes := #[] }, type := 4, pos := "law.go:74", after := #[{ on := 24, ground := Go.Ground.chain }, { on := 24, ground := Go.Ground.guard }], guard := some (24, true) }) rfl (fun K hK => ?_) AllReadyH.nil
    go_simp
    (refine (HSU.out _ (HBW.out _ hO7)).mono ?_; rintro e w8 ⟨rfl, hb8⟩; have hO8 := hO7.trans (Own.of_below hb8); clear hb8; skip)
    (try go_wp2_with fail)
    refine hK.out _ _ ?_ (fun hHeld => ?_)
    · (try dsimp only)
      (first | exact Own.refl _ _ | assumption)
    clear hK K
    (try simp only [Act.put, List.setIfInBounds_toArray, List.set_cons_zero, List.set_cons_succ])
    refine wpAnyH_take (i := 26) (oi := { dst := some 120, op := Go.Op.pick (Go.Operand.tmp 118) (Go.Operand.tmp 119) (Go.Operand.const (Go.Value.bool false)), type := 4, pos := "law.go:74", after := #[{ on := 24, ground := Go.Ground.data }, { on := 25, ground := Go.Ground.data }], guard := none }) (v := ?_) rfl (by kernel_rfl) (by kernel_rfl) (by kernel_rfl) (fun _ _ _ h => h) (Or.inl ⟨by rfl, ?_⟩) (by assumption) ?_
    rotate_left
    · intro wS hSw
      (try dsimp only at hSw)
      go_simp
      (try with_reducible rfl)
    (try simp only [Act.put, List.setIfInBounds_toArray, List.set_cons_zero, List.set_cons_succ])
    refine wpAnyH_take (i := 27) (oi := { dst := some 6, op := Go.Op.assign (Go.Operand.tmp 120), type := 4, pos := "law.go:74", after := #[{ on := 26, ground := Go.Ground.data }, { on := 25, ground := Go.Ground.chain }, { on := 0, ground := Go.Ground.phase }, { on := 1, ground := Go.Ground.phase }, { on := 2, ground := Go.Ground.phase }, { on := 3, ground := Go.Ground.phase }, { on := 4, ground := Go.Ground.phase }, { on := 5, ground := Go.Ground.phase }, { on := 6, ground := Go.Ground.phase }, { on := 7, ground := Go.Ground.phase }, { on := 8, ground := Go.Ground.phase }, { on := 9, ground := Go.Ground.phase }, { on := 10, ground := Go.Ground.phase }, { on := 11, ground := Go.Ground.phase }, { on := 12, ground := Go.Ground.phase }, { on := 13, ground := Go.Ground.phase }, { on := 14, ground := Go.Ground.phase }, { on := 15, ground := Go.Ground.phase }, { on := 16, ground := Go.Ground.phase }, { on := 17, ground := Go.Ground.phase }, { on := 18, ground := Go.Ground.phase }, { on := 19, ground := Go.Ground.phase }, { on := 20, ground := Go.Ground.phase }, { on := 21, ground := Go.Ground.phase }, { on := 22, ground := Go.Ground.phase }, { on := 23, ground := Go.Ground.phase }, { on := 24, ground := Go.Ground.phase }, { on := 25, ground := Go.Ground.phase }, { on := 26, ground := Go.Ground.phase }], guard := none }) (v := ?_) rfl (by kernel_rfl) (by kernel_rfl) (by kernel_rfl) (fun _ _ _ h => h) (Or.inl ⟨by rfl, ?_⟩) (by assumption) ?_
    rotate_left
    · intro wS hSw
      (try dsimp only at hSw)
      go_simp
      (try with_reducible rfl)
    (try simp only [Act.put, List.setIfInBounds_toArray, List.set_cons_zero, List.set_cons_succ])
    refine wpAnyH_done (by kernel_rfl) ?_ _
    have HO8 := Lib.hid (HBW.out _ hO8)
    clear hO8 hO7
    go_wp2_with fail
    go_ret
    exact ⟨rfl, HO8.out⟩
  · skip
    have hE : eqF (tgF W N A na (catF n (boxF W N P n A na) T) n) (fun i => catF n (boxF W N P n A na) T (n + i)) = false := by
      cases h : eqF (tgF W N A na (catF n (boxF W N P n A na) T) n) (fun i => catF n (boxF W N P n A na) T (n + i)) with
      | false => rfl
      | true => exact absurd (fun i hi => by
          have h5 : tgF W N A na (catF n (boxF W N P n A na) T) n i = catF n (boxF W N P n A na) T (n + i) := eqF_iff.1 h i hi
          rw [hT1, hT2] at h5; rw [hT3, h5]) hall
    rw [hE] at hOPS
    have hse : SO ≠ SX := by
      rw [← hSO, ← hSX]
      intro h
      have h6 := (strF_inj (fun i hi => (hB6d i hi).1) (fun i hi => (HS4.out.2.2.1 i hi).1) h).2
      exact hall fun i hi => by rw [← h6 (n + i) (by omega), hT2]
    have hs1 := str_ne hse
    have hs2 : (SO.toList == SX.toList) = false := by simpa using hs1
    have HOPS := Lib.hid hOPS
    clear hOPS hE hT1 hT2 hT3 hall hSP hSO hSX hB6d hbd hge6 hc6 hm6 hse
    go_upto_region 12 with fail
    refine wp_region_held_drew (S := (Own bx W3.drew)) (by kernel_rfl) ?_ (fun hHeld => ?_)
    · (try dsimp only)
      (first | exact Own.refl _ _ | assumption)
    generalize W3.drew = WR at *
    refine wpAnyH_take (i := 0) (oi := { dst := some 94, op := Go.Op.move (Go.Operand.tmp 14), type := 28, pos := "law.go:74", after := #[], guard := none }) (v := ?_) rfl (by kernel_rfl) (by kernel_rfl) (by kernel_rfl) (fun _ _ _ h => h) (Or.inl ⟨by rfl, ?_⟩) (by assumption) ?_
    rotate_left
    · intro wS hSw
      (try dsimp only at hSw)
      go_simp
      (try with_reducible rfl)
    (try simp only [Act.put, List.setIfInBounds_toArray, List.set_cons_zero, List.set_cons_succ])
    refine wpAnyH_take (i := 1) (oi := { dst := some 95, op := Go.Op.binOp Go.BinOp.eql 28 (Go.Operand.tmp 94) (Go.Operand.const Go.Value.nilIface) 28, type := 4, pos := "law.go:74", after := #[{ on := 0, ground := Go.Ground.data }], guard := none }) (v := ?_) rfl (by kernel_rfl) (by kernel_rfl) (by kernel_rfl) (fun _ _ _ h => h) (Or.inl ⟨by rfl, ?_⟩) (by assumption) ?_
    rotate_left
    · intro wS hSw
      (try dsimp only at hSw)
      go_simp
      (try with_reducible rfl)
    (try simp only [Act.put, List.setIfInBounds_toArray, List.set_cons_zero, List.set_cons_succ])
    refine wpAnyH_take (i := 2) (oi := { dst := some 96, op := Go.Op.move (Go.Operand.tmp 95), type := 4, pos := "law.go:74", after := #[{ on := 1, ground := Go.Ground.data }], guard := none }) (v := ?_) rfl (by kernel_rfl) (by kernel_rfl) (by kernel_rfl) (fun _ _ _ h => h) (Or.inl ⟨by rfl, ?_⟩) (by assumption) ?_
    rotate_left
    · intro wS hSw
      (try dsimp only at hSw)
      go_simp
      (try with_reducible rfl)
    (try simp only [Act.put, List.setIfInBounds_toArray, List.set_cons_zero, List.set_cons_succ])
    refine wpAnyH_take (i := 3) (oi := { dst := some 97, op := Go.Op.move (Go.Operand.tmp 13), type := 22, pos := "law.go:74", after := #[{ on := 2, ground := Go.Ground.guard }], guard := some (2, true) }) (v := ?_) rfl (by kernel_rfl) (by kernel_rfl) (by kernel_rfl) (fun _ _ _ h => h) (Or.inl ⟨by rfl, ?_⟩) (by assumption) ?_
    rotate_left
    · intro wS hSw
      (try dsimp only at hSw)
      go_simp
      (try with_reducible rfl)
    (try simp only [Act.put, List.setIfInBounds_toArray, List.set_cons_zero, List.set_cons_succ])
    refine wpAnyH_take (i := 4) (oi := { dst := some 98, op := Go.Op.convert 22 9 (Go.Operand.tmp 97), type := 9, pos := "law.go:74", after := #[{ on := 3, ground := Go.Ground.data }, { on := 2, ground := Go.Ground.guard }], guard := some (2, true) }) (v := ?_) rfl (by kernel_rfl) (by kernel_rfl) (by kernel_rfl) (fun _ _ _ h => h) (Or.inl ⟨by rfl, ?_⟩) (by assumption) ?_
    rotate_left
    · intro wS hSw
      refine exec_convO (x := .tmp 97) ?_ ?_ (HC4.out _ hSw) <;> rfl
    (try simp only [Act.put, List.setIfInBounds_toArray, List.set_cons_zero, List.set_cons_succ])
    refine wpAnyH_take (i := 5) (oi := { dst := some 99, op := Go.Op.move (Go.Operand.tmp 1), type := 22, pos := "law.go:74", after := #[{ on := 2, ground := Go.Ground.guard }], guard := some (2, true) }) (v := ?_) rfl (by kernel_rfl) (by kernel_rfl) (by kernel_rfl) (fun _ _ _ h => h) (Or.inl ⟨by rfl, ?_⟩) (by assumption) ?_
    rotate_left
    · intro wS hSw
      (try dsimp only at hSw)
      go_simp
      (try with_reducible rfl)
    (try simp only [Act.put, List.setIfInBounds_toArray, List.set_cons_zero, List.set_cons_succ])
    refine wpAnyH_take (i := 6) (oi := { dst := some 100, op := Go.Op.convert 22 9 (Go.Operand.tmp 99), type := 9, pos := "law.go:74", after := #[{ on := 5, ground := Go.Ground.data }, { on := 2, ground := Go.Ground.guard }], guard := some (2, true) }) (v := ?_) rfl (by kernel_rfl) (by kernel_rfl) (by kernel_rfl) (fun _ _ _ h => h) (Or.inl ⟨by rfl, ?_⟩) (by assumption) ?_
    rotate_left
    · intro wS hSw
      refine exec_convO (x := .tmp 99) ?_ ?_ (HC6.out _ hSw) <;> rfl
    (try simp only [Act.put, List.setIfInBounds_toArray, List.set_cons_zero, List.set_cons_succ])
    refine wpAnyH_take (i := 7) (oi := { dst := some 101, op := Go.Op.binOp Go.BinOp.eql 9 (Go.Operand.tmp 98) (Go.Operand.tmp 100) 9, type := 4, pos := "law.go:74", after := #[{ on := 4, ground := Go.Ground.data }, { on := 6, ground := Go.Ground.data }, { on := 2, ground := Go.Ground.guard }], guard := some (2, true) }) (v := ?_) rfl (by kernel_rfl) (by kernel_rfl) (by kernel_rfl) (fun _ _ _ h => h) (Or.inl ⟨by rfl, ?_⟩) (by assumption) ?_
    rotate_left
    · intro wS hSw
      (try dsimp only at hSw)
      go_simp
      (try with_reducible rfl)
    (try simp only [Act.put, List.setIfInBounds_toArray, List.set_cons_zero, List.set_cons_succ])
    refine wpAnyH_take (i := 8) (oi := { dst := some 102, op := Go.Op.pick (Go.Operand.tmp 96) (Go.Operand.tmp 101) (Go.Operand.const (Go.Value.bool false)), type := 4, pos := "law.go:74", after := #[{ on := 2, ground := Go.Ground.data }, { on := 7, ground := Go.Ground.data }], guard := none }) (v := ?_) rfl (by kernel_rfl) (by kernel_rfl) (by kernel_rfl) (fun _ _ _ h => h) (Or.inl ⟨by rfl, ?_⟩) (by assumption) ?_
    rotate_left
    · intro wS hSw
      (try dsimp only at hSw)
      go_simp
      (try with_reducible rfl)
    (try simp only [Act.put, List.setIfInBounds_toArray, List.set_cons_zero, List.set_cons_succ])
    refine wpAnyH_take (i := 9) (oi := { dst := some 103, op := Go.Op.move (Go.Operand.tmp 102), type := 4, pos := "law.go:74", after := #[{ on := 8, ground := Go.Ground.data }, { on := 2, ground := Go.Ground.chain }], guard := none }) (v := ?_) rfl (by kernel_rfl) (by kernel_rfl) (by kernel_rfl) (fun _ _ _ h => h) (Or.inl ⟨by rfl, ?_⟩) (by assumption) ?_
    rotate_left
    · intro wS hSw
      (try dsimp only at hSw)
      go_simp
      (try with_reducible rfl)
    (try simp only [Act.put, List.setIfInBounds_toArray, List.set_cons_zero, List.set_cons_succ])
    refine wpAnyH_take (i := 10) (oi := { dst := some 104, op := Go.Op.move (Go.Operand.tmp 7), type := 26, pos := "law.go:74", after := #[{ on := 9, ground := Go.Ground.guard }], guard := some (9, true) }) (v := ?_) rfl (by kernel_rfl) (by kernel_rfl) (by kernel_rfl) (fun _ _ _ h => h) (Or.inl ⟨by rfl, ?_⟩) (by assumption) ?_
    rotate_left
    · intro wS hSw
      (try dsimp only at hSw)
      go_simp
      (try with_reducible rfl)
    (try simp only [Act.put, List.setIfInBounds_toArray, List.set_cons_zero, List.set_cons_succ])
    refine wpAnyH_take (i := 11) (oi := { dst := some 105, op := Go.Op.fieldAddr 24 (Go.Operand.tmp 3) 1, type := 0, pos := "law.go:74", after := #[{ on := 9, ground := Go.Ground.guard }], guard := some (9, true) }) (v := ?_) rfl (by kernel_rfl) (by kernel_rfl) (by kernel_rfl) (fun _ _ _ h => h) (Or.inl ⟨by rfl, ?_⟩) (by assumption) ?_
    rotate_left
    · intro wS hSw
      (try dsimp only at hSw)
      go_simp
      (try with_reducible rfl)
    (try simp only [Act.put, List.setIfInBounds_toArray, List.set_cons_zero, List.set_cons_succ])
    refine wpAnyH_take (i := 12) (oi := { dst := some 106, op := Go.Op.load 22 (Go.Operand.tmp 105), type := 22, pos := "law.go:74", after := #[{ on := 11, ground := Go.Ground.data }, { on := 9, ground := Go.Ground.guard }], guard := some (9, true) }) (v := ?_) rfl (by kernel_rfl) (by kernel_rfl) (by kernel_rfl) (fun _ _ _ h => h) (Or.inl ⟨by rfl, ?_⟩) (by assumption) ?_
    rotate_left
    · intro wS hSw
      have c1 := HL.out wS hSw
      go_simp
      (try with_reducible rfl)
    (try simp only [Act.put, List.setIfInBounds_toArray, List.set_cons_zero, List.set_cons_succ])
    refine wpAnyH_take (i := 13) (oi := { dst := some 107, op := Go.Op.move (Go.Operand.tmp 15), type := 22, pos := "law.go:74", after := #[{ on := 9, ground := Go.Ground.guard }], guard := some (9, true) }) (v := ?_) rfl (by kernel_rfl) (by kernel_rfl) (by kernel_rfl) (fun _ _ _ h => h) (Or.inl ⟨by rfl, ?_⟩) (by assumption) ?_
    rotate_left
    · intro wS hSw
      (try dsimp only at hSw)
      go_simp
      (try with_reducible rfl)
    (try simp only [Act.put, List.setIfInBounds_toArray, List.set_cons_zero, List.set_cons_succ])
    refine wpAnyH_take (i := 14) (oi := { dst := some 108, op := Go.Op.fieldAddr 24 (Go.Operand.tmp 3) 2, type := 0, pos := "law.go:74", after := #[{ on := 9, ground := Go.Ground.guard }], guard := some (9, true) }) (v := ?_) rfl (by kernel_rfl) (by kernel_rfl) (by kernel_rfl) (fun _ _ _ h => h) (Or.inl ⟨by rfl, ?_⟩) (by assumption) ?_
    rotate_left
    · intro wS hSw
      (try dsimp only at hSw)
      go_simp
      (try with_reducible rfl)
    (try simp only [Act.put, List.setIfInBounds_toArray, List.set_cons_zero, List.set_cons_succ])
    refine wpAnyH_take (i := 15) (oi := { dst := some 109, op := Go.Op.load 22 (Go.Operand.tmp 108), type := 22, pos := "law.go:74", after := #[{ on := 14, ground := Go.Ground.data }, { on := 9, ground := Go.Ground.guard }], guard := some (9, true) }) (v := ?_) rfl (by kernel_rfl) (by kernel_rfl) (by kernel_rfl) (fun _ _ _ h => h) (Or.inl ⟨by rfl, ?_⟩) (by assumption) ?_
    rotate_left
    · intro wS hSw
      have c2 := HM.out wS hSw
      go_simp
      (try with_reducible rfl)
    (try simp only [Act.put, List.setIfInBounds_toArray, List.set_cons_zero, List.set_cons_succ])
    refine wpAnyH_take (i := 17) (oi := { dst := some 111, op := Go.Op.move (Go.Operand.tmp 15), type := 22, pos := "law.go:74", after := #[{ on := 9, ground := Go.Ground.guard }], guard := some (9, true) }) (v := ?_) rfl (by kernel_rfl) (by kernel_rfl) (by kernel_rfl) (fun _ _ _ h => h) (Or.inl ⟨by rfl, ?_⟩) (by assumption) ?_
    rotate_left
    · intro wS hSw
      (try dsimp only at hSw)
      go_simp
      (try with_reducible rfl)
    (try simp only [Act.put, List.setIfInBounds_toArray, List.set_cons_zero, List.set_cons_succ])
    refine wpAnyH_take (i := 18) (oi := { dst := some 112, op := Go.Op.convert 22 9 (Go.Operand.tmp 111), type := 9, pos := "law.go:74", after := #[{ on := 17, ground := Go.Ground.data }, { on := 9, ground := Go.Ground.guard }], guard := some (9, true) }) (v := ?_) rfl (by kernel_rfl) (by kernel_rfl) (by kernel_rfl) (fun _ _ _ h => h) (Or.inl ⟨by rfl, ?_⟩) (by assumption) ?_
    rotate_left
    · intro wS hSw
      refine exec_convO (x := .tmp 111) ?_ ?_ (HC18.out _ hSw) <;> rfl
    (try simp only [Act.put, List.setIfInBounds_toArray, List.set_cons_zero, List.set_cons_succ])
    refine wpAnyH_take (i := 19) (oi := { dst := some 113, op := Go.Op.move (Go.Operand.tmp 11), type := 22, pos := "law.go:74", after := #[{ on := 9, ground := Go.Ground.guard }], guard := some (9, true) }) (v := ?_) rfl (by kernel_rfl) (by kernel_rfl) (by kernel_rfl) (fun _ _ _ h => h) (Or.inl ⟨by rfl, ?_⟩) (by assumption) ?_
    rotate_left
    · intro wS hSw
      (try dsimp only at hSw)
      go_simp
      (try with_reducible rfl)
    (try simp only [Act.put, List.setIfInBounds_toArray, List.set_cons_zero, List.set_cons_succ])
    refine wpAnyH_take (i := 20) (oi := { dst := some 114, op := Go.Op.convert 22 9 (Go.Operand.tmp 113), type := 9, pos := "law.go:74", after := #[{ on := 19, ground := Go.Ground.data }, { on := 9, ground := Go.Ground.guard }], guard := some (9, true) }) (v := ?_) rfl (by kernel_rfl) (by kernel_rfl) (by kernel_rfl) (fun _ _ _ h => h) (Or.inl ⟨by rfl, ?_⟩) (by assumption) ?_
    rotate_left
    · intro wS hSw
      refine exec_convO (x := .tmp 113) ?_ ?_ (HC20.out _ hSw) <;> rfl
    (try simp only [Act.put, List.setIfInBounds_toArray, List.set_cons_zero, List.set_cons_succ])
    refine wpAnyH_take (i := 21) (oi := { dst := some 115, op := Go.Op.binOp Go.BinOp.eql 9 (Go.Operand.tmp 112) (Go.Operand.tmp 114) 9, type := 4, pos := "law.go:74", after := #[{ on := 18, ground := Go.Ground.data }, { on := 20, ground := Go.Ground.data }, { on := 9, ground := Go.Ground.guard }], guard := some (9, true) }) (v := ?_) rfl (by kernel_rfl) (by kernel_rfl) (by kernel_rfl) (fun _ _ _ h => h) (Or.inl ⟨by rfl, ?_⟩) (by assumption) ?_
    rotate_left
    · intro wS hSw
      (try dsimp only at hSw)
      go_simp
      (try with_reducible rfl)
    (try simp only [Act.put, List.setIfInBounds_toArray, List.set_cons_zero, List.set_cons_succ])
    refine wpAnyH_ready (rs := [16]) (by kernel_rfl) (by simp) ?_
    refine AllReadyH.cons (o := { dst := some 110, op := Go.Op.call { callee := Go.Callee.value (Go.Operand.func 9), args := #[Go.Operand.tmp 104, Go.Operand.tmp 106, Go.Operand.tmp 107, Go.Operand.tmp 109], argTypes := #[26, 22, 22, 22] }, type := 4, pos := "law.go:74", after := #[{ on := 10, ground := Go.Ground.data }, { on := 12, ground := Go.Ground.data }, { on := 13, ground := Go.Ground.data }, { on := 15, ground := Go.Ground.data }, { on := 9, ground := Go.Ground.chain }, { on := 9, ground := Go.Ground.guard }], guard := some (9, true) }) rfl (fun K hK => ?_) AllReadyH.nil
    go_simp
    (refine HOPS.out.mono ?_; rintro e w7 ⟨rfl, hK7, hO7⟩; clear hK7; skip)
    (try go_wp2_with fail)
    refine hK.out _ _ ?_ (fun hHeld => ?_)
    · (try dsimp only)
      (first | exact Own.refl _ _ | assumption)
    clear hK K
    (try simp only [Act.put, List.setIfInBounds_toArray, List.set_cons_zero, List.set_cons_succ])
    refine wpAnyH_take (i := 22) (oi := { dst := some 116, op := Go.Op.binOp Go.BinOp.eql 4 (Go.Operand.tmp 110) (Go.Operand.tmp 115) 4, type := 4, pos := "law.go:74", after := #[{ on := 16, ground := Go.Ground.data }, { on := 21, ground := Go.Ground.data }, { on := 9, ground := Go.Ground.guard }], guard := some (9, true) }) (v := ?_) rfl (by kernel_rfl) (by kernel_rfl) (by kernel_rfl) (fun _ _ _ h => h) (Or.inl ⟨by rfl, ?_⟩) (by assumption) ?_
    rotate_left
    · intro wS hSw
      (try dsimp only at hSw)
      go_simp
      (try with_reducible rfl)
    (try simp only [Act.put, List.setIfInBounds_toArray, List.set_cons_zero, List.set_cons_succ])
    refine wpAnyH_take (i := 23) (oi := { dst := some 117, op := Go.Op.pick (Go.Operand.tmp 103) (Go.Operand.tmp 116) (Go.Operand.const (Go.Value.bool false)), type := 4, pos := "law.go:74", after := #[{ on := 9, ground := Go.Ground.data }, { on := 22, ground := Go.Ground.data }], guard := none }) (v := ?_) rfl (by kernel_rfl) (by kernel_rfl) (by kernel_rfl) (fun _ _ _ h => h) (Or.inl ⟨by rfl, ?_⟩) (by assumption) ?_
    rotate_left
    · intro wS hSw
      (try dsimp only at hSw)
      go_simp
      (try with_reducible rfl)
    (try simp only [Act.put, List.setIfInBounds_toArray, List.set_cons_zero, List.set_cons_succ])
    refine wpAnyH_take (i := 24) (oi := { dst := some 118, op := Go.Op.move (Go.Operand.tmp 117), type := 4, pos := "law.go:74", after := #[{ on := 23, ground := Go.Ground.data }, { on := 16, ground := Go.Ground.chain }], guard := none }) (v := ?_) rfl (by kernel_rfl) (by kernel_rfl) (by kernel_rfl) (fun _ _ _ h => h) (Or.inl ⟨by rfl, ?_⟩) (by assumption) ?_
    rotate_left
    · intro wS hSw
      (try dsimp only at hSw)
      go_simp
      (try with_reducible rfl)
    (try simp only [Act.put, List.setIfInBounds_toArray, List.set_cons_zero, List.set_cons_succ])
    refine wpAnyH_ready (rs := [25]) (by kernel_rfl) (by simp) ?_
    refine AllReadyH.cons (o := { dst := some 119, op := Go.Op.call { callee := Go.Callee.value (Go.Operand.func 6), args := #[], argTypes := #[] }, type := 4, pos := "law.go:74", after := #[{ on := 24, ground := Go.Ground.chain }, { on := 24, ground := Go.Ground.guard }], guard := some (24, true) }) rfl (fun K hK => ?_) AllReadyH.nil
    go_simp
    (refine (HSU.out _ (HBW.out _ hO7)).mono ?_; rintro e w8 ⟨rfl, hb8⟩; have hO8 := hO7.trans (Own.of_below hb8); clear hb8; skip)
    (try go_wp2_with fail)
    refine hK.out _ _ ?_ (fun hHeld => ?_)
    · (try dsimp only)
      (first | exact Own.refl _ _ | assumption)
    clear hK K
    (try simp only [Act.put, List.setIfInBounds_toArray, List.set_cons_zero, List.set_cons_succ])
    refine wpAnyH_take (i := 26) (oi := { dst := some 120, op := Go.Op.pick (Go.Operand.tmp 118) (Go.Operand.tmp 119) (Go.Operand.const (Go.Value.bool false)), type := 4, pos := "law.go:74", after := #[{ on := 24, ground := Go.Ground.data }, { on := 25, ground := Go.Ground.data }], guard := none }) (v := ?_) rfl (by kernel_rfl) (by kernel_rfl) (by kernel_rfl) (fun _ _ _ h => h) (Or.inl ⟨by rfl, ?_⟩) (by assumption) ?_
    rotate_left
    · intro wS hSw
      (try dsimp only at hSw)
      go_simp
      (try with_reducible rfl)
    (try simp only [Act.put, List.setIfInBounds_toArray, List.set_cons_zero, List.set_cons_succ])
    refine wpAnyH_take (i := 27) (oi := { dst := some 6, op := Go.Op.assign (Go.Operand.tmp 120), type := 4, pos := "law.go:74", after := #[{ on := 26, ground := Go.Ground.data }, { on := 25, ground := Go.Ground.chain }, { on := 0, ground := Go.Ground.phase }, { on := 1, ground := Go.Ground.phase }, { on := 2, ground := Go.Ground.phase }, { on := 3, ground := Go.Ground.phase }, { on := 4, ground := Go.Ground.phase }, { on := 5, ground := Go.Ground.phase }, { on := 6, ground := Go.Ground.phase }, { on := 7, ground := Go.Ground.phase }, { on := 8, ground := Go.Ground.phase }, { on := 9, ground := Go.Ground.phase }, { on := 10, ground := Go.Ground.phase }, { on := 11, ground := Go.Ground.phase }, { on := 12, ground := Go.Ground.phase }, { on := 13, ground := Go.Ground.phase }, { on := 14, ground := Go.Ground.phase }, { on := 15, ground := Go.Ground.phase }, { on := 16, ground := Go.Ground.phase }, { on := 17, ground := Go.Ground.phase }, { on := 18, ground := Go.Ground.phase }, { on := 19, ground := Go.Ground.phase }, { on := 20, ground := Go.Ground.phase }, { on := 21, ground := Go.Ground.phase }, { on := 22, ground := Go.Ground.phase }, { on := 23, ground := Go.Ground.phase }, { on := 24, ground := Go.Ground.phase }, { on := 25, ground := Go.Ground.phase }, { on := 26, ground := Go.Ground.phase }], guard := none }) (v := ?_) rfl (by kernel_rfl) (by kernel_rfl) (by kernel_rfl) (fun _ _ _ h => h) (Or.inl ⟨by rfl, ?_⟩) (by assumption) ?_
    rotate_left
    · intro wS hSw
      (try dsimp only at hSw)
      go_simp
      (try with_reducible rfl)
    (try simp only [Act.put, List.setIfInBounds_toArray, List.set_cons_zero, List.set_cons_succ])
    refine wpAnyH_done (by kernel_rfl) ?_ _
    have HO8 := Lib.hid (HBW.out _ hO8)
    clear hO8 hO7
    go_wp2_with fail
    go_ret
    exact ⟨rfl, HO8.out⟩
end Go.Proofs.YtbighpacggbllaaDoor
