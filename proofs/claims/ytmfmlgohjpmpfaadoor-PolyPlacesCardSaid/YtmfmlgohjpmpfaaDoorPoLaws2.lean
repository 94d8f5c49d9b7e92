/- The walk of PolyPlaces. -/
import Derived.Test.YtmfmlgohjpmpfaaDoorPoRef2
namespace Go.Proofs.YtmfmlgohjpmpfaaDoor
set_option linter.unusedVariables false
set_option linter.unusedSimpArgs false
open Go.RowKit

set_option maxRecDepth 100000 in
set_option maxHeartbeats 400000 in
theorem places_mid (oa ob : Option Addr) (n cp m cq : Nat) (x : Int) (w : World) (hg : Handle w) (h1 : 24 < n) (h2 : n < 256) :
    Calls Tryd.prog 4 #[.slice oa n cp, .slice ob m cq, .int .u8 x] w fun e w' => e = .returned (.bool true) ∧ Below w.heap.size w w' := by
  have HS := Lib.hid (sure02 w hg)
  have g1 : (24 : Int) < (n : Int) := by omega
  have g2 : (n : Int) < 256 := by omega
  go_enter Tryd.func4, Tryd.ntmps4
  go_wp2_with fail
  refine HS.out.mono ?_
  rintro e w1 ⟨rfl, hb⟩
  go_wp2_with fail
  go_ret
  exact ⟨rfl, hb⟩

theorem guard_mid {n : Nat} (h : ¬ (24 < n ∧ n < 256)) : (decide ((24 : Int) < (n : Int)) && decide ((n : Int) < 256)) = false := by
  rw [Bool.and_eq_false_iff]
  by_cases h1 : 24 < n
  · exact .inr (decide_eq_false (by omega))
  · exact .inl (decide_eq_false (by omega))

set_option maxRecDepth 100000 in
set_option maxHeartbeats 2000000 in
theorem places_law_bad (oa ob : Option Addr) (n cp m cq : Nat) (f : Nat → Nat) (x : Nat) (w : World) (hg : Handle w) (hb : Bytes w oa n f) (hn : n ≤ maxLen) (hx : x < 256)
    (h : n ≤ 24 ∨ 256 ≤ n) (hp : placesB f n = false) :
    Calls Tryd.prog 4 #[.slice oa n cp, .slice ob m cq, .int .u8 x] w fun e w' => e = .returned (.bool true) ∧ Below w.heap.size w w' := by
  have HB : Hid _ := hb
  have HN : Hid _ := hn
  have HP : Hid _ := hp
  clear hb hn hp
  have main : ∀ P : Prop, P → P := fun _ h => h
  by_cases h24 : n ≤ 24
  all_goals
    first
      | have g1 : ¬ ((24 : Int) < (n : Int)) := by omega
      | have g1 : (24 : Int) < (n : Int) := by omega
        have g2 : ¬ ((n : Int) < 256) := by omega
    clear h h24
    go_enter Tryd.func4, Tryd.ntmps4
    go_wp2_with fail
    refine (gfnew_any _).mono ?_
    rintro e w0 ⟨rfl, hT0, hB0⟩
    have hS0 := St.new hg hT0 hB0
    clear hT0 hB0
    go_wp2_with fail
    refine (weights_bad _ oa n cp f x _ ?b1 HN.out HP.out).mono ?_
    case b1 => exact Bytes.later HB.out hS0.bel
    rintro e w1 ⟨rfl, hb1⟩
    have hS1 := hS0.later hb1
    clear hb1 hS0
    go_wp2_with fail
    refine (rweights_bad oa n cp f x _ ?b2 HN.out HP.out).mono ?_
    case b2 => exact Bytes.later HB.out hS1.bel
    rintro e w2 ⟨rfl, hb2⟩
    have hS2 := hS1.later hb2
    clear hb2 hS1
    go_wp2_with fail
    refine (interp_bad _ oa ob n cp m cq f x _ ?b3 HN.out HP.out).mono ?_
    case b3 => exact Bytes.later HB.out hS2.bel
    rintro e w3 ⟨rfl, hb3⟩
    have hS3 := hS2.later hb3
    clear hb3 hS2
    go_wp2_with fail
    refine (rinterp_bad oa ob n cp m cq f x _ ?b4 HN.out HP.out).mono ?_
    case b4 => exact Bytes.later HB.out hS3.bel
    rintro e w4 ⟨rfl, hb4⟩
    have hS4 := hS3.later hb4
    clear hb4 hS3
    go_wp2_with fail
    refine (weights_nil oa n cp x _).mono ?_
    rintro e w5 ⟨rfl, rfl⟩
    go_wp2_with fail
    refine (interp_nil oa ob n cp m cq x _).mono ?_
    rintro e w6 ⟨rfl, rfl⟩
    have hcv := conv_nil w4
    go_wp2_with fail
    refine (num_err02 1 _ hS4.handle).mono ?_
    rintro e w7 ⟨rfl, hb7⟩
    have hS7 := hS4.later hb7
    clear hb7 hS4 hcv
    go_wp2_with fail
    refine (num_err02 1 _ hS7.handle).mono ?_
    rintro e w8 ⟨rfl, hb8⟩
    have hS8 := hS7.later hb8
    clear hb8 hS7
    go_wp2_with fail
    refine (num_err02 1 _ hS8.handle).mono ?_
    rintro e w9 ⟨rfl, hb9⟩
    have hS9 := hS8.later hb9
    clear hb9 hS8
    go_wp2_with fail
    refine (num_err02 1 _ hS9.handle).mono ?_
    rintro e w10 ⟨rfl, hb10⟩
    have hS10 := hS9.later hb10
    clear hb10 hS9
    go_wp2_with fail
    refine (sure02 _ hS10.handle).mono ?_
    rintro e w11 ⟨rfl, hb11⟩
    go_wp2_with fail
    go_ret
    exact ⟨rfl, (hS10.later hb11).bel⟩

set_option maxRecDepth 100000 in
set_option maxHeartbeats 2000000 in
theorem places_law_len (oa ob : Option Addr) (n cp m cq : Nat) (f : Nat → Nat) (x : Nat) (w : World) (hg : Handle w) (hb : Bytes w oa n f) (hx : x < 256)
    (h24 : n ≤ 24) (hp : placesB f n = true) (hne : m ≠ n) :
    Calls Tryd.prog 4 #[.slice oa n cp, .slice ob m cq, .int .u8 x] w fun e w' => e = .returned (.bool true) ∧ Below w.heap.size w w' := by
  have HB : Hid _ := hb
  have HA : Hid _ := hb.apart
  have HN : Hid (n ≤ maxLen) := (by unfold maxLen; omega : n ≤ maxLen)
  have HP : Hid _ := hp
  have HNE : Hid _ := hne
  obtain ⟨s, hs⟩ : ∃ s, strF n (fun a => wF f a x n) = s := ⟨_, rfl⟩
  have Hs : Hid _ := hs
  have g1 : ¬ ((24 : Int) < (n : Int)) := by omega
  clear hb hp hne hs
  go_enter Tryd.func4, Tryd.ntmps4
  go_wp2_with fail
  refine (gfnew_any _).mono ?_
  rintro e w0 ⟨rfl, hT0, hB0⟩
  have hS0 := St.new hg hT0 hB0
  have htl := hS0.tab.lt
  clear hT0 hB0
  go_wp2_with fail
  refine (weights_any _ oa n cp f x _ ?t1 ?b1 HA.out HN.out hx HP.out).mono ?_
  case t1 => exact hS0.tab
  case b1 => exact Bytes.later HB.out hS0.bel
  rintro e w1 ⟨g, rfl, hgg, hR1, hL1⟩
  have hS1 := hS0.left hL1
  have hgt : g ≠ w.heap.size := by omega
  have htl1 := hS1.tab.lt
  clear hL1 hS0 htl hgg
  go_wp2_with fail
  refine (rweights_any oa n cp f x _ ?b2 HN.out hx HP.out).mono ?_
  case b2 => exact Bytes.later HB.out hS1.bel
  rintro e w2 ⟨v, rfl, hG2, hb2⟩
  have hS2 := hS1.later hb2
  have hR2 := hR1.later hb2
  clear hb2 hS1 hR1
  go_wp2_with fail
  refine (interp_len _ oa ob n cp m cq f x _ ?t3 ?b3 HA.out HN.out hx HP.out HNE.out).mono ?_
  case t3 => exact hS2.tab
  case b3 => exact Bytes.later HB.out hS2.bel
  rintro e w3 ⟨rfl, hL3⟩
  have hS3 := hS2.left hL3
  have hR3 := hR2.own hL3.2 hgt
  have hG3 := hG2.own hL3.2 htl1
  clear hL3 hS2 hR2 hG2
  go_wp2_with fail
  refine (rinterp_len oa ob n cp m cq f x _ ?b4 HN.out hx HP.out HNE.out).mono ?_
  case b4 => exact Bytes.later HB.out hS3.bel
  rintro e w4 ⟨rfl, hb4⟩
  have hS4 := hS3.later hb4
  have hR4 := hR3.later hb4
  have hG4 := hG3.later hb4
  clear hb4 hS3 hR3 hG3
  go_wp2_with fail
  refine (weights_nil oa n cp x _).mono ?_
  rintro e w5 ⟨rfl, rfl⟩
  go_wp2_with fail
  refine (interp_nil oa ob n cp m cq x _).mono ?_
  rintro e w6 ⟨rfl, rfl⟩
  have hc1 : (convert 22 9 (.slice (some ⟨g, 0, none⟩) n n)).run Tryd.prog w4 = .ok (.string s) w4 := Hs.out ▸ Bytes.conv (hR4.bytes fun i _ => wF_lt _ _ _ _)
  have hc2 : (convert 22 9 v).run Tryd.prog w4 = .ok (.string s) w4 := Hs.out ▸ hG4.conv
  clear hR4 hG4
  go_wp2_with fail
  refine (num_nil02 _).mono ?_
  rintro e w7 ⟨rfl, hb7⟩
  have hS7 := hS4.later hb7
  clear hb7 hS4 hc1 hc2
  go_wp2_with fail
  refine (num_err02 1 _ hS7.handle).mono ?_
  rintro e w8 ⟨rfl, hb8⟩
  have hS8 := hS7.later hb8
  clear hb8 hS7
  go_wp2_with fail
  refine (num_err02 1 _ hS8.handle).mono ?_
  rintro e w9 ⟨rfl, hb9⟩
  have hS9 := hS8.later hb9
  clear hb9 hS8
  go_wp2_with fail
  refine (num_err02 1 _ hS9.handle).mono ?_
  rintro e w10 ⟨rfl, hb10⟩
  have hS10 := hS9.later hb10
  clear hb10 hS9
  go_wp2_with fail
  refine (sure02 _ hS10.handle).mono ?_
  rintro e w11 ⟨rfl, hb11⟩
  go_wp2_with fail
  go_ret
  exact ⟨rfl, (hS10.later hb11).bel⟩

set_option maxRecDepth 100000 in
set_option maxHeartbeats 2000000 in
theorem places_law_all (oa ob : Option Addr) (n cp cq : Nat) (f y : Nat → Nat) (x : Nat) (w : World) (hg : Handle w) (hb : Bytes w oa n f) (hy : Bytes w ob n y) (hx : x < 256)
    (h24 : n ≤ 24) (hp : placesB f n = true) :
    Calls Tryd.prog 4 #[.slice oa n cp, .slice ob n cq, .int .u8 x] w fun e w' => e = .returned (.bool true) ∧ Below w.heap.size w w' := by
  have HB : Hid _ := hb
  have HA : Hid _ := hb.apart
  have HY : Hid _ := hy
  have HYA : Hid _ := hy.apart
  have HN : Hid (n ≤ maxLen) := (by unfold maxLen; omega : n ≤ maxLen)
  have HP : Hid _ := hp
  obtain ⟨s, hs⟩ : ∃ s, strF n (fun a => wF f a x n) = s := ⟨_, rfl⟩
  obtain ⟨iv, hiv⟩ : ∃ iv, intF f y x n n = iv := ⟨_, rfl⟩
  have Hs : Hid _ := hs
  have HIV : Hid _ := hiv
  have g1 : ¬ ((24 : Int) < (n : Int)) := by omega
  clear hb hp hs hy hiv
  go_enter Tryd.func4, Tryd.ntmps4
  go_wp2_with fail
  refine (gfnew_any _).mono ?_
  rintro e w0 ⟨rfl, hT0, hB0⟩
  have hS0 := St.new hg hT0 hB0
  have htl := hS0.tab.lt
  clear hT0 hB0
  go_wp2_with fail
  refine (weights_any _ oa n cp f x _ ?t1 ?b1 HA.out HN.out hx HP.out).mono ?_
  case t1 => exact hS0.tab
  case b1 => exact Bytes.later HB.out hS0.bel
  rintro e w1 ⟨g, rfl, hgg, hR1, hL1⟩
  have hS1 := hS0.left hL1
  have hgt : g ≠ w.heap.size := by omega
  have htl1 := hS1.tab.lt
  clear hL1 hS0 htl hgg
  go_wp2_with fail
  refine (rweights_any oa n cp f x _ ?b2 HN.out hx HP.out).mono ?_
  case b2 => exact Bytes.later HB.out hS1.bel
  rintro e w2 ⟨v, rfl, hG2, hb2⟩
  have hS2 := hS1.later hb2
  have hR2 := hR1.later hb2
  clear hb2 hS1 hR1
  go_wp2_with fail
  refine (interp_is (v := iv) _ ?t3 ?b3 HA.out ?y3 HYA.out HN.out hx HP.out HIV.out).mono ?_
  case t3 => exact hS2.tab
  case b3 => exact Bytes.later HB.out hS2.bel
  case y3 => exact Bytes.later HY.out hS2.bel
  rintro e w3 ⟨rfl, hL3⟩
  have hS3 := hS2.left hL3
  have hR3 := hR2.own hL3.2 hgt
  have hG3 := hG2.own hL3.2 htl1
  clear hL3 hS2 hR2 hG2
  go_wp2_with fail
  refine (rinterp_any oa ob n cp cq f y x iv _ ?b4 ?y4 HN.out hx HP.out HIV.out).mono ?_
  case b4 => exact Bytes.later HB.out hS3.bel
  case y4 => exact Bytes.later HY.out hS3.bel
  rintro e w4 ⟨rfl, hb4⟩
  have hS4 := hS3.later hb4
  have hR4 := hR3.later hb4
  have hG4 := hG3.later hb4
  clear hb4 hS3 hR3 hG3
  go_wp2_with fail
  refine (weights_nil oa n cp x _).mono ?_
  rintro e w5 ⟨rfl, rfl⟩
  go_wp2_with fail
  refine (interp_nil oa ob n cp n cq x _).mono ?_
  rintro e w6 ⟨rfl, rfl⟩
  have hc1 : (convert 22 9 (.slice (some ⟨g, 0, none⟩) n n)).run Tryd.prog w4 = .ok (.string s) w4 := Hs.out ▸ Bytes.conv (hR4.bytes fun i _ => wF_lt _ _ _ _)
  have hc2 : (convert 22 9 v).run Tryd.prog w4 = .ok (.string s) w4 := Hs.out ▸ hG4.conv
  clear hR4 hG4
  go_wp2_with fail
  refine (num_nil02 _).mono ?_
  rintro e w7 ⟨rfl, hb7⟩
  have hS7 := hS4.later hb7
  clear hb7 hS4 hc1 hc2
  go_wp2_with fail
  refine (num_nil02 _).mono ?_
  rintro e w8 ⟨rfl, hb8⟩
  have hS8 := hS7.later hb8
  clear hb8 hS7
  go_wp2_with fail
  refine (num_err02 1 _ hS8.handle).mono ?_
  rintro e w9 ⟨rfl, hb9⟩
  have hS9 := hS8.later hb9
  clear hb9 hS8
  go_wp2_with fail
  refine (num_err02 1 _ hS9.handle).mono ?_
  rintro e w10 ⟨rfl, hb10⟩
  have hS10 := hS9.later hb10
  clear hb10 hS9
  go_wp2_with fail
  refine (sure02 _ hS10.handle).mono ?_
  rintro e w11 ⟨rfl, hb11⟩
  go_wp2_with fail
  go_ret
  exact ⟨rfl, (hS10.later hb11).bel⟩

theorem places_law_any (oa ob : Option Addr) (n cp m cq : Nat) (f y : Nat → Nat) (x : Int) (w : World) (hg : Handle w) (hb : Bytes w oa n f) (hy : Bytes w ob m y) (hn : n ≤ maxLen) (hx : B8 x) :
    Calls Tryd.prog 4 #[.slice oa n cp, .slice ob m cq, .int .u8 x] w fun e w' => e = .returned (.bool true) ∧ Below w.heap.size w w' := by
  by_cases h : 24 < n ∧ n < 256
  · exact places_mid oa ob n cp m cq x w hg h.1 h.2
  · obtain ⟨k, hk, rfl⟩ := hx.nat
    rcases hp : placesB f n with _ | _
    · exact places_law_bad oa ob n cp m cq f k w hg hb hn hk (by omega) hp
    · have h255 := (placesB_iff.1 hp).2.2
      by_cases he : m = n
      · subst he; exact places_law_all oa ob m cp cq f y k w hg hb hy hk (by omega) hp
      · exact places_law_len oa ob n cp m cq f k w hg hb hk (by omega) hp he
end Go.Proofs.YtmfmlgohjpmpfaaDoor
