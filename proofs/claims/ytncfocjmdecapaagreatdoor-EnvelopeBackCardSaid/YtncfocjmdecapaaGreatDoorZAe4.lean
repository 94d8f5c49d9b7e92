/- AES: a block, ciphered; a word of a key. -/
import Derived.Test.YtncfocjmdecapaaGreatDoorZB0
import Derived.Test.YtncfocjmdecapaaGreatDoorZS1
import Derived.Test.YtncfocjmdecapaaGreatDoorZS2
import Derived.Test.YtncfocjmdecapaaGreatDoorZSh4
import Derived.Test.YtncfocjmdecapaaGreatDoorZA0
import Derived.Test.YtncfocjmdecapaaGreatDoorZS5
import Derived.Test.YtncfocjmdecapaaGreatDoorZSh7
import Derived.Test.YtncfocjmdecapaaGreatDoorZS8
import Derived.Test.YtncfocjmdecapaaGreatDoorZHm2
import Derived.Test.YtncfocjmdecapaaGreatDoorZAs
import Derived.Test.YtncfocjmdecapaaGreatDoorZR0
import Derived.Test.YtncfocjmdecapaaGreatDoorZF1
import Derived.Test.YtncfocjmdecapaaGreatDoorZF2
import Derived.Test.YtncfocjmdecapaaGreatDoorZB16
import Derived.Test.YtncfocjmdecapaaGreatDoorZAe1
import Derived.Test.YtncfocjmdecapaaGreatDoorZAe2
import Derived.Test.YtncfocjmdecapaaGreatDoorZAe3
namespace Go.Proofs.YtncfocjmdecapaaGreatDoor
set_option linter.unusedVariables false
set_option linter.unusedSimpArgs false
open Go.RowKit
/-- A block under work, and nought beside it; a table. -/
def ESG (w0 : World) (bx : Nat) (C : Array Value) (wr : World) : Prop := Blk wr w0.heap.size C 82 ∧ Blk wr (w0.heap.size + 1) zero16 82 ∧ BoxIn wr bx ∧ Own bx w0 wr ∧ bx < w0.heap.size
theorem ESG.call {w0 wr w1 : World} {bx : Nat} {C : Array Value} (h : ESG w0 bx C wr) (hB : BoxIn w1 bx) (hO : Own bx wr w1) : ESG w0 bx C w1 := by
  obtain ⟨h1, h2, _, h4, h5⟩ := h
  exact ⟨hO.blk h1 (by omega), hO.blk h2 (by omega), hB, h4.trans hO, h5⟩
theorem ESG.below {w0 wr w1 : World} {bx : Nat} {C : Array Value} (h : ESG w0 bx C wr) (hb : Below wr.heap.size wr w1) : ESG w0 bx C w1 :=
  h.call (h.2.2.1.below hb) (Own.of_below hb)
theorem ESG.store {w0 wr : World} {bx : Nat} {C D : Array Value} (h : ESG w0 bx C wr) (hC : ∃ f, C = (rowC 16 f).toArray) (hD : ∃ f, D = (rowC 16 f).toArray) : ESG w0 bx D (wr.setCells w0.heap.size 0 D.toList) := by
  obtain ⟨h1, h2, h3, h4, h5⟩ := h
  have hO : Own w0.heap.size wr (wr.setCells w0.heap.size 0 D.toList) := Own.setCells _ _ _
  exact ⟨Blk.store16 h1 hD hC, hO.blk h2 (by omega), h3.own hO (by omega), h4.two hO (Nat.le_refl _), h5⟩
theorem ESG.key {w0 wr : World} {bx kb : Nat} {C : Array Value} {W : Nat → Nat} (h : ESG w0 bx C wr) (hK : KeyB w0 kb W bx) (hn : kb ≠ bx) : KeyB wr kb W bx := h.2.2.2.1.blk hK hn
set_option maxRecDepth 100000 in
set_option maxHeartbeats 4000000 in
theorem enc_any (kb bx : Nat) (W f : Nat → Nat) (w : World) (hK : KeyB w kb W bx) (hB : BoxIn w bx) (hne : kb ≠ bx) (hf : ∀ i, i < 16 → f i < 256) :
    Calls Tryz.prog 55 #[.pointer (some ⟨kb, 0, none⟩), .agg (rowC 16 f).toArray] w fun e w' => e = .returned (.agg (rowC 16 (encK subN W f 14)).toArray) ∧ BoxIn w' bx ∧ Own bx w w' := by
  have hz := zero16_run
  obtain ⟨C, hC⟩ : ∃ C, (rowC 16 f).toArray = C := ⟨_, rfl⟩
  obtain ⟨E0, hE0⟩ : ∃ C, (rowC 16 (encK subN W f 0)).toArray = C := ⟨_, rfl⟩
  have hbx := hB.lt
  have HT : Hid (ESG w bx C ((w.alloc (.cells C 82)).alloc (.cells zero16 82))) := Lib.hid (by
    refine ⟨(Blk.new w C 82).alloc _, ?_, ?_, ((Own.refl bx w).alloc _).alloc _, hbx⟩
    · simpa using Blk.new (w.alloc (.cells C 82)) zero16 82
    · exact hB.below (((Below.refl _ _).alloc (Nat.le_refl _) _).alloc (by simp) _))
  have HCC : Hid (∃ f, C = (rowC 16 f).toArray) := Lib.hid ⟨_, hC.symm⟩
  have HCE : Hid (∃ f, E0 = (rowC 16 f).toArray) := Lib.hid ⟨_, hE0.symm⟩
  have HA0 : Hid (∀ w, KeyB w kb W bx → Calls Tryz.prog 78 #[.pointer (some ⟨kb, 0, none⟩), .agg C, .int .i64 0] w fun e w' => e = .returned (.agg E0) ∧ Below w.heap.size w w') := Lib.hid fun w hk => by
    rw [← hC, ← hE0]; exact added_any kb bx W 0 f w hk (by omega) hf
  have HS : ∀ x, subN x < 256 := subN_lt
  have HL : Hid (∀ r i, i < 16 → encK subN W f r i < 256) := Lib.hid (encK_lt HS hf)
  have HK := Lib.hid hK
  have HNE := Lib.hid hne
  have HE0 := Lib.hid hE0
  rw [hC]
  clear hf hC hE0 hK hB hne hbx HS
  obtain ⟨w1, hw1⟩ : ∃ q, (w.alloc (.cells C 82)).alloc (.cells zero16 82) = q := ⟨_, rfl⟩
  rw [hw1] at HT
  go_enter Tryz.func55, Tryz.ntmps55
  go_wp2_with (first | (refine wpList_load16 rfl (.tmp 3) rfl w.heap.size rfl C HT.out.1 HCC.out ?_))
  clear hw1 hz
  refine (HA0.out _ (HT.out.key HK.out HNE.out)).mono ?_
  rintro e w2 ⟨rfl, hb⟩
  have HT2 := Lib.hid (HT.out.below hb)
  clear hb HT
  obtain ⟨w3, hw3⟩ : ∃ q, w2.setCells w.heap.size 0 E0.toList = q := ⟨_, rfl⟩
  have HT3 := Lib.hid (HT2.out.store HCC.out HCE.out)
  rw [hw3] at HT3
  go_wp2_with (first | (refine wpList_store16 rfl (.tmp 3) (.tmp 11) rfl w.heap.size rfl E0 C rfl HT2.out.1 HCE.out HCC.out ?_))
  go_loopw [5] (fun v wr => ∃ (k : Nat) (D : Array Value), k ≤ 14 ∧ v = .int .i64 ((k : Int) + 1) ∧ (rowC 16 (encK subN W f k)).toArray = D ∧ ESG w bx D wr) (fun v _ => 15 - (intOf v).toNat)
  case atStart => exact ⟨0, E0, Nat.zero_le _, rfl, HE0.out, hw3 ▸ HT3.out⟩
  case round =>
    clear HT2 hw3 HT3 HA0 HE0 HCC HCE
    obtain ⟨k, D, hk, rfl, hD, hES⟩ := hrel
    have HES := Lib.hid hES
    clear hES
    by_cases hlt : k < 14
    · obtain ⟨M, hM⟩ : ∃ C, (rowC 16 (mvA subN (encK subN W f k))).toArray = C := ⟨_, rfl⟩
      obtain ⟨X, hX⟩ : ∃ C, (rowC 16 (mxA (mvA subN (encK subN W f k)))).toArray = C := ⟨_, rfl⟩
      obtain ⟨N, hN⟩ : ∃ C, (rowC 16 (encK subN W f (k + 1))).toArray = C := ⟨_, rfl⟩
      have HCD : Hid (∃ f, D = (rowC 16 f).toArray) := Lib.hid ⟨_, hD.symm⟩
      have HCM : Hid (∃ f, M = (rowC 16 f).toArray) := Lib.hid ⟨_, hM.symm⟩
      have HCX : Hid (∃ f, X = (rowC 16 f).toArray) := Lib.hid ⟨_, hX.symm⟩
      have HCN : Hid (∃ f, N = (rowC 16 f).toArray) := Lib.hid ⟨_, hN.symm⟩
      have HMV : Hid (∀ w', KeyB w' kb W bx → BoxIn w' bx → Calls Tryz.prog 79 #[.pointer (some ⟨kb, 0, none⟩), .agg D] w' fun e w'' => e = .returned (.agg M) ∧ BoxIn w'' bx ∧ Own bx w' w'') := Lib.hid fun w' hk' hb' => by
        rw [← hD, ← hM]; exact moved_any kb bx W _ w' hk' hb' HNE.out (HL.out k)
      have HMX : Hid (∀ w', Calls Tryz.prog 80 #[.agg M] w' fun e w'' => e = .returned (.agg X) ∧ Below w'.heap.size w' w'') := Lib.hid fun w' => by
        rw [← hM, ← hX]; exact mixed_anyG _ w' fun i _ => mvA_lt subN_lt i
      have k0 : (0 : Int) ≤ (k : Int) := by omega
      have k1 : (k : Int) < 14 := by omega
      have hN2 := hN
      have hk2 : encK subN W f (k + 1) = addK W (k + 1) (if k + 1 < 14 then mxA (mvA subN (encK subN W f k)) else mvA subN (encK subN W f k)) := rfl
      rw [hk2] at hN2
      obtain ⟨v1, hv1⟩ : ∃ q : Nat, k + 1 = q := ⟨_, rfl⟩
      have hki : (k : Int) + 1 = (v1 : Int) := by omega
      by_cases h14 : k + 1 < 14
      · rw [if_pos h14] at hN2
        have HAD : Hid (∀ w', KeyB w' kb W bx → Calls Tryz.prog 78 #[.pointer (some ⟨kb, 0, none⟩), .agg X, .int .i64 ((k : Int) + 1)] w' fun e w'' => e = .returned (.agg N) ∧ Below w'.heap.size w' w'') := Lib.hid fun w' hk' => by
          rw [← hX, ← hN2, show (k : Int) + 1 = ((k + 1 : Nat) : Int) by omega]; exact added_any kb bx W (k + 1) _ w' hk' (by omega) (mxA_lt fun i _ => mvA_lt subN_lt i)
        have HNN := Lib.hid hN
        have k2 : (k : Int) + 1 < 14 := by omega
        clear hD hM hX hN hN2 hk2 hv1 hki v1
        go_wp2_with (first | (refine wpList_load16 rfl (.tmp 3) rfl w.heap.size rfl D HES.out.1 HCD.out ?_))
        refine (HMV.out _ (HES.out.key HK.out HNE.out) HES.out.2.2.1).mono ?_
        rintro e w4 ⟨rfl, hb4, ho4⟩
        have H4 := Lib.hid (HES.out.call hb4 ho4)
        clear hb4 ho4 HES
        obtain ⟨w5, hw5⟩ : ∃ q, w4.setCells w.heap.size 0 M.toList = q := ⟨_, rfl⟩
        have H5 := Lib.hid (H4.out.store HCD.out HCM.out)
        rw [hw5] at H5
        go_wp2_with (first | (refine wpList_store16 rfl (.tmp 3) (.tmp 18) rfl w.heap.size rfl M D rfl H4.out.1 HCM.out HCD.out ?_) | (refine wpList_load16 rfl (.tmp 3) rfl w.heap.size rfl M H5.out.1 HCM.out ?_))
        clear H4 hw5
        refine (HMX.out _).mono ?_
        rintro e w6 ⟨rfl, hb6⟩
        have H6 := Lib.hid (H5.out.below hb6)
        clear hb6 H5
        obtain ⟨w7, hw7⟩ : ∃ q, w6.setCells w.heap.size 0 X.toList = q := ⟨_, rfl⟩
        have H7 := Lib.hid (H6.out.store HCM.out HCX.out)
        rw [hw7] at H7
        go_wp2_with (first | (refine wpList_store16 rfl (.tmp 3) (.tmp 22) rfl w.heap.size rfl X M rfl H6.out.1 HCX.out HCM.out ?_) | (refine wpList_load16 rfl (.tmp 3) rfl w.heap.size rfl X H7.out.1 HCX.out ?_))
        clear H6 hw7
        refine (HAD.out _ (H7.out.key HK.out HNE.out)).mono ?_
        rintro e w8 ⟨rfl, hb8⟩
        have H8 := Lib.hid (H7.out.below hb8)
        clear hb8 H7
        obtain ⟨w9, hw9⟩ : ∃ q, w8.setCells w.heap.size 0 N.toList = q := ⟨_, rfl⟩
        have H9 := Lib.hid (H8.out.store HCX.out HCN.out)
        rw [hw9] at H9
        go_wp2_with (first | (refine wpList_store16 rfl (.tmp 3) (.tmp 26) rfl w.heap.size rfl N X rfl H8.out.1 HCN.out HCX.out ?_))
        go_roundw
        case rel => exact ⟨k + 1, N, by omega, by go_num, HNN.out, hw9 ▸ H9.out⟩
        case measure => simp [intOf]; omega
      · rw [if_neg h14] at hN2
        have HAD : Hid (∀ w', KeyB w' kb W bx → Calls Tryz.prog 78 #[.pointer (some ⟨kb, 0, none⟩), .agg M, .int .i64 ((k : Int) + 1)] w' fun e w'' => e = .returned (.agg N) ∧ Below w'.heap.size w' w'') := Lib.hid fun w' hk' => by
          rw [← hM, ← hN2, show (k : Int) + 1 = ((k + 1 : Nat) : Int) by omega]; exact added_any kb bx W (k + 1) _ w' hk' (by omega) (fun i _ => mvA_lt subN_lt i)
        have HNN := Lib.hid hN
        have k2 : ¬ (k : Int) + 1 < 14 := by omega
        clear hD hM hX hN hN2 hk2 hv1 hki v1 HMX
        go_wp2_with (first | (refine wpList_load16 rfl (.tmp 3) rfl w.heap.size rfl D HES.out.1 HCD.out ?_))
        refine (HMV.out _ (HES.out.key HK.out HNE.out) HES.out.2.2.1).mono ?_
        rintro e w4 ⟨rfl, hb4, ho4⟩
        have H4 := Lib.hid (HES.out.call hb4 ho4)
        clear hb4 ho4 HES
        obtain ⟨w5, hw5⟩ : ∃ q, w4.setCells w.heap.size 0 M.toList = q := ⟨_, rfl⟩
        have H5 := Lib.hid (H4.out.store HCD.out HCM.out)
        rw [hw5] at H5
        go_wp2_with (first | (refine wpList_store16 rfl (.tmp 3) (.tmp 18) rfl w.heap.size rfl M D rfl H4.out.1 HCM.out HCD.out ?_) | (refine wpList_load16 rfl (.tmp 3) rfl w.heap.size rfl M H5.out.1 HCM.out ?_))
        clear H4 hw5
        refine (HAD.out _ (H5.out.key HK.out HNE.out)).mono ?_
        rintro e w8 ⟨rfl, hb8⟩
        have H8 := Lib.hid (H5.out.below hb8)
        clear hb8 H5
        obtain ⟨w9, hw9⟩ : ∃ q, w8.setCells w.heap.size 0 N.toList = q := ⟨_, rfl⟩
        have H9 := Lib.hid (H8.out.store HCM.out HCN.out)
        rw [hw9] at H9
        go_wp2_with (first | (refine wpList_store16 rfl (.tmp 3) (.tmp 26) rfl w.heap.size rfl N M rfl H8.out.1 HCN.out HCM.out ?_))
        go_roundw
        case rel => exact ⟨k + 1, N, by omega, by go_num, HNN.out, hw9 ▸ H9.out⟩
        case measure => simp [intOf]; omega
    · obtain rfl : k = 14 := by omega
      have HCD : Hid (∃ f, D = (rowC 16 f).toArray) := Lib.hid ⟨_, hD.symm⟩
      have HC0 : Hid (∃ f, zero16 = (rowC 16 f).toArray) := Lib.hid ⟨_, rfl⟩
      have HN : Hid (Blk (wr.setCells (w.heap.size + 1) 0 D.toList) (w.heap.size + 1) D 82) := Lib.hid (Blk.store16 HES.out.2.1 HCD.out HC0.out)
      have HO5 : Hid (BoxIn (wr.setCells (w.heap.size + 1) 0 D.toList) bx ∧ Own bx w (wr.setCells (w.heap.size + 1) 0 D.toList)) := Lib.hid ⟨HES.out.2.2.1.own (Own.setCells _ _ _) (by have := HES.out.2.2.2.2; omega), HES.out.2.2.2.1.two (Own.setCells _ _ _) (by omega)⟩
      have HD := Lib.hid hD
      clear hD hlt hk
      go_wp2_with (first
        | (refine wpList_load16 rfl (.tmp 3) rfl w.heap.size rfl D HES.out.1 HCD.out ?_)
        | (refine wpList_store16 rfl (.tmp 4) (.tmp 27) rfl (w.heap.size + 1) rfl D zero16 rfl HES.out.2.1 HCD.out HC0.out ?_))
      refine bodyPost_ret (v := .agg D) ?_ rfl ⟨by rw [HD.out], HO5.out⟩
      exact res16 Tryz.results55 _ _ (w.heap.size + 1) D rfl HN.out HCD.out
end Go.Proofs.YtncfocjmdecapaaGreatDoor
