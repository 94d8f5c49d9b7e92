/- FrameBack walked. -/
import Derived.Test.YtfbbnffinlebbaaDoorFr5
import Derived.Test.YtfbbnffinlebbaaDoorRrs
namespace Go.Proofs.YtfbbnffinlebbaaDoor
set_option linter.unusedVariables false
set_option linter.unusedSimpArgs false
open Go.RowKit

theorem lbs_none {w : World} {op : Option Addr} {q : Nat} {L : Nat → Nat} {G : Nat → Nat → Nat} (h : LBs w op q L G) : op = none → q = 0 := fun e => by
  rcases Nat.eq_zero_or_pos q with h0 | h0
  · exact h0
  · obtain ⟨_, _, _, _, e2, _⟩ := h 0 h0
    rw [e] at e2; cases e2
set_option maxRecDepth 100000 in
set_option maxHeartbeats 8000000 in
theorem back_any (s n cb m cm : Nat) (ob om : Option Addr) (B : Nat → Nat) (LM : Nat → Nat) (GM : Nat → Nat → Nat) (w : World) (hg : Handle w) (hs : s < 4294967296) (hB : Bytes w ob n B) (hno : ob = none → n = 0) (hnc : n ≤ cb) (hcb : cb ≤ maxLen)
    (hM : LBs w om m LM GM) (hmn : om = none → m = 0) (hmc : m ≤ cm) (hcm : cm ≤ maxLen) :
    Calls Tryd.prog 4 #[.int .u32 (s : Int), .slice ob n cb, .slice om m cm] w fun e w' => e = .returned (.bool true) ∧ Below w.heap.size w w' := by
  have HSU : Hid (∀ w', Below w.heap.size w w' → Calls Tryd.prog 7 #[] w' fun e w'' => e = .returned (.bool true) ∧ Below w'.heap.size w' w'') := Lib.hid fun w' hb => sure14 w' (hg.below hb hg.2)
  have HG := Lib.hid hg
  have HNM := Lib.hid (show s < 4294967296 ∧ n ≤ cb ∧ (ob = none → n = 0) ∧ (om = none → m = 0) ∧ m ≤ cm ∧ cm ≤ maxLen from ⟨hs, hnc, hno, hmn, hmc, hcm⟩)
  have HBY : Hid (∀ w', Below w.heap.size w w' → Bytes w' ob n B) := Lib.hid fun w' h => hB.later h
  have HML : Hid (∀ w', Below w.heap.size w w' → LBs w' om m LM GM) := Lib.hid fun w' h => hM.later h
  have n0 : (n : Int) ≤ 9223372036854775807 := by unfold maxLen at hcb; omega
  clear hg hs hnc hno hmn hB hM
  by_cases h0 : s = 0
  · have z0 : (s : Int) = 0 := by omega
    subst h0
    go_enter Tryd.func4, Tryd.ntmps4
    go_wp2_with fail
    refine (HSU.out w (Below.refl w.heap.size w)).mono ?_
    rintro e ws ⟨rfl, hbs⟩
    have HBS := Lib.hid (((Below.refl w.heap.size w)).trans (hbs.mono ((Below.refl w.heap.size w)).size))
    clear hbs
    go_wp2_with fail
    go_ret
    exact ⟨rfl, HBS.out⟩
  have z0 : ¬ (s : Int) = 0 := by omega
  have z1 : decide ((s : Int) = 0) = false := decide_eq_false z0
  have HS0 := Lib.hid h0
  clear h0
  by_cases h9 : 900 < n
  · have z2 : (900 : Int) < (n : Int) := by omega
    clear h9
    go_enter Tryd.func4, Tryd.ntmps4
    go_wp2_with fail
    refine (HSU.out w (Below.refl w.heap.size w)).mono ?_
    rintro e ws ⟨rfl, hbs⟩
    have HBS := Lib.hid (((Below.refl w.heap.size w)).trans (hbs.mono ((Below.refl w.heap.size w)).size))
    clear hbs
    go_wp2_with fail
    go_ret
    exact ⟨rfl, HBS.out⟩
  have z2 : ¬ (900 : Int) < (n : Int) := by omega
  have HN9 : Hid (n ≤ 900) := Lib.hid (by omega)
  have HSM := Lib.hid (small_any om m cm LM GM w (HML.out _ (Below.refl _ _)) (Nat.le_trans hmc hcm))
  clear h9 hmc hcm hcb
  go_enter Tryd.func4, Tryd.ntmps4
  go_wp2_with fail
  refine HSM.out.mono ?_
  rintro e w1 ⟨(⟨rfl, hm30, _⟩ | rfl), hb1⟩
  rotate_left
  · have HB1 := Lib.hid hb1
    clear hb1 HSM
    go_wp2_with fail
    refine (HSU.out w1 HB1.out).mono ?_
    rintro e ws ⟨rfl, hbs⟩
    have HBS := Lib.hid ((HB1.out).trans (hbs.mono (HB1.out).size))
    clear hbs
    go_wp2_with fail
    go_ret
    exact ⟨rfl, HBS.out⟩
  have HB1 := Lib.hid hb1
  have HM30 := Lib.hid hm30
  have HSP := Lib.hid (split_any s n ob cb B w1 HS0.out HNM.out.1 (HBY.out _ hb1) HNM.out.2.2.1 HNM.out.2.1 (by have := HN9.out; omega))
  clear hb1 hm30 HSM
  go_wp2_with fail
  refine HSP.out.mono ?_
  rintro e w2 ⟨g, rfl, hLB, hb2, hgg⟩
  have HB2 := Lib.hid (HB1.out.trans (hb2.mono HB1.out.size))
  obtain ⟨x, hx⟩ : ∃ x, secN n = x := ⟨_, rfl⟩
  obtain ⟨y, hy⟩ : ∃ y, x - 1 = y := ⟨_, rfl⟩
  have HX := Lib.hid (show secN n = x ∧ 1 ≤ x ∧ x ≤ 255 ∧ x - 1 = y from ⟨hx, by rw [← hx]; exact secN_pos n, by rw [← hx]; exact secN_le (by have := HN9.out; omega), hy⟩)
  rw [hx] at hLB ⊢
  have HLB := Lib.hid hLB
  have x0 : ¬ (x : Int) = 0 := by have := HX.out; omega
  have x1 : decide ((x : Int) = 0) = false := decide_eq_false x0
  have x2 : (x : Int) - 1 = (y : Int) := by have := HX.out; omega
  have x3 : IntKind.i64.wrap (y : Int) = (y : Int) := by have := HX.out; rw [IntWalk.i64_in _ (by omega)]
  have x4 : (0 : Int) ≤ (y : Int) ∧ (y : Int) ≤ (x : Int) := by have := HX.out; omega
  have x5 : (y : Int) ≤ (x : Int) := x4.2
  have x6 : (0 : Int) ≤ (y : Int) := x4.1
  obtain ⟨GX, hGX⟩ : ∃ q, frF s n B = q := ⟨_, rfl⟩
  have HGX := Lib.hid hGX
  rw [hGX] at HLB
  have HE := Lib.hid (RL.empty w2 (fun _ => 64) GX)
  have HXL : Hid (LBx (w2.alloc (.cells #[] 23)) w2.heap.size (some ⟨g, 0, none⟩) x (fun _ => 64) GX) := Lib.hid ((LBs.x HLB.out).later ((Below.refl _ _).alloc (Nat.le_refl _) _))
  have HXM : Hid (LBx w2 w2.heap.size om m LM GM) := Lib.hid (LBs.x (HML.out _ HB2.out))
  have HX9 : Hid (0 + x < 1000000000000) := Lib.hid (by have := HX.out; omega)
  have HX8 : Hid (x + m < 1000000000000) := Lib.hid (by have := HX.out; have := HM30.out; omega)
  clear hx hy hLB hb2 hgg hGX x4 HSP
  go_wp2_with (at_builtin; refine wpList_appRs rfl (.tmp 44) (.tmp 45) rfl w2.heap.size (.slice (some ⟨w2.heap.size, 0, none⟩) 0 0) 0 x x (fun _ => 64) (fun _ => 64) GX GX (some ⟨g, 0, none⟩) (w2.alloc (.cells #[] 23)) rfl HE.out rfl HXL.out (fun e => by cases e) HX9.out ?c1 ?_)
  case c1 => simp
  intro v1 w3 hR3 hb3
  have hb23 : Below w2.heap.size w2 w3 := ((Below.refl _ _).alloc (Nat.le_refl _) (.cells #[] 23)).trans hb3
  have HXM3 := Lib.hid (HXM.out.later hb23)
  have HR3 := Lib.hid hR3
  have HS3 := Lib.hid hb23.size
  have HB23 := Lib.hid hb23
  clear hR3 hb3 hb23 HE HXL HXM HX9
  go_wp2_with (at_builtin; refine wpList_appRs rfl (.tmp 46) (.tmp 47) rfl w2.heap.size v1 x m cm (catL 0 (fun _ => 64) (fun _ => 64)) LM (catG 0 GX GX) GM om w3 rfl HR3.out rfl HXM3.out HNM.out.2.2.2.1 HX8.out HS3.out ?_)
  intro v2 w4 hR4 hb4
  obtain ⟨tot, ht⟩ : ∃ q, x + m = q := ⟨_, rfl⟩
  rw [ht] at hR4
  obtain ⟨oa, cap, rfl, hc1, hc2, hLB4, hno4⟩ := hR4.lbs
  have hb24 := HB23.out.trans hb4
  have HB4 := Lib.hid (HB2.out.trans (hb24.mono HB2.out.size))
  have HLB4 := Lib.hid (HLB.out.later hb24)
  have HJ1 := join_ok (s := s) (n := n) (B := B) hLB4 hc1 hc2 HNM.out.1 HS0.out (by have := HN9.out; omega) (by rw [HX.out.1, ← ht]; omega) (fun i hi => by rw [HX.out.1] at hi; unfold catL; rw [if_pos (by omega), if_neg (Nat.not_lt_zero _)]) (fun i hi k hk => by rw [HX.out.1] at hi; unfold catG; rw [if_pos (by omega), if_neg (Nat.not_lt_zero _), Nat.sub_zero, HGX.out])
  rw [HX.out.1] at HJ1
  have HJ1 := Lib.hid HJ1
  clear hR4 hb4 hc1 hc2 hLB4 hno4 hb24 HS3 HX8 ht HR3 HXM3
  go_wp2_with fail
  refine HJ1.out.mono ?_
  rintro e w5 ⟨hb5, g5, rfl, hB5⟩
  have HB5 := Lib.hid (HB4.out.trans (hb5.mono HB4.out.size))
  have HR5 := Lib.hid hB5
  have hL5 : LBs w5 (some ⟨g, 0, none⟩) y (fun _ => 64) GX := fun i hi => (HLB4.out.later hb5) i (by have := HX.out; omega)
  have HJ2 := Lib.hid (join_bad (cq := x) hL5 (by have := HX.out; omega) (by have := HX.out; unfold maxLen; omega) (fun h => by
    have h1 := h.some
    have h2 := h.enough
    have h3 : GX 0 5 = x := by rw [← HGX.out, frF_at5, HX.out.1]
    have := HX.out
    omega))
  clear hb5 hB5 hL5 HJ1 HLB4
  go_wp2_with fail
  refine HJ2.out.mono ?_
  rintro e w6 ⟨hb6, rfl⟩
  have HB6 := Lib.hid (HB5.out.trans (hb6.mono HB5.out.size))
  obtain ⟨SP, hSP⟩ : ∃ q, strF n B = q := ⟨_, rfl⟩
  have q1 : (convert 23 9 (.slice (some ⟨g5, 0, none⟩) n n)).run Tryd.prog w6 = .ok (.string SP) w6 := by rw [← hSP]; exact conv_any (HR5.out.later hb6) (fun e => by cases e)
  have q2 : (convert 23 9 (.slice ob n cb)).run Tryd.prog w6 = .ok (.string SP) w6 := by rw [← hSP]; exact conv_any (HBY.out _ HB6.out) HNM.out.2.2.1
  have HSE := sectors_any n w6 (by have := HN9.out; omega)
  rw [show secO n = x from by rw [← HX.out.1]; exact if_pos (by have := HN9.out; omega)] at HSE
  have HSE := Lib.hid HSE
  have HNU := Lib.hid (num_err 4 w6 (HG.out.below HB6.out HG.out.2))
  clear hb6 hSP HJ2 HR5
  go_wp2_with fail
  refine HSE.out.mono ?_
  rintro e w7 ⟨rfl, rfl⟩
  clear HSE q1 q2
  go_wp2_with fail
  refine HNU.out.mono ?_
  rintro e w8 ⟨rfl, hb8⟩
  have HB8 := Lib.hid (HB6.out.trans (hb8.mono HB6.out.size))
  clear hb8 HNU
  go_wp2_with fail
  refine (HSU.out w8 HB8.out).mono ?_
  rintro e ws ⟨rfl, hbs⟩
  have HBS := Lib.hid ((HB8.out).trans (hbs.mono (HB8.out).size))
  clear hbs
  go_wp2_with fail
  go_ret
  exact ⟨rfl, HBS.out⟩
end Go.Proofs.YtfbbnffinlebbaaDoor
