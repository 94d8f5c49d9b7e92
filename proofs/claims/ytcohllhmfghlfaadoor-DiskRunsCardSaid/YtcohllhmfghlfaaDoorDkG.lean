/- A disk: slices.DeleteFunc of the writes. -/
import Derived.Test.YtcohllhmfghlfaaDoorDkF
namespace Go.Proofs.YtcohllhmfghlfaaDoor
set_option linter.unusedVariables false
set_option linter.unusedSimpArgs false
open Go.RowKit

def flC (A : Nat → Nat) (D : Nat → Nat → Nat) (i j : Nat) : Nat → List Value := fun t => wtC (A ((flI A i j).2 t)) (D ((flI A i j).2 t))
theorem flC_len (A : Nat → Nat) (D : Nat → Nat → Nat) (i j : Nat) : ∀ t, (flC A D i j t).length = 65 := fun t => wtC_len _ _
theorem blk_range {w : World} {g n k : Nat} {C : Nat → List Value} {X : List Value} {T : TypeId} (h : Blk w g (rws n C ++ X).toArray T) (hk : ∀ i, (C i).length = k) {j : Nat} (hj : j < n) : w.rangeAt g (j * k) (C j) := fun q u hu => by
  have hq : q < k := by have := (List.getElem?_eq_some_iff.1 hu).1; rw [hk] at this; exact this
  have h1 : (rws n C)[j * k + q]? = (C j)[q]? := rws_get (k := k) (fun i _ => hk i) hj hq
  have h2 : j * k + q < (rws n C).length := by
    rw [hu] at h1; exact (List.getElem?_eq_some_iff.1 h1).1
  rw [Blk.cell h, List.getElem?_toArray, List.getElem?_append_left h2, h1]
  exact hu
theorem rws_take {k : Nat} {C : Nat → List Value} (hk : ∀ i, (C i).length = k) (m : Nat) : ∀ (n : Nat), m ≤ n → (rws n C).take (m * k) = rws m C
  | 0, h => by obtain rfl : m = 0 := by omega
               rw [rws_zero]; exact List.take_nil
  | n + 1, h => by
    by_cases e : m = n + 1
    · subst e; exact List.take_of_length_le (Nat.le_of_eq (rws_len (k := k) fun i _ => hk i))
    · rw [rws_succ, List.take_append_of_le_length (by rw [rws_len (k := k) fun i _ => hk i]; exact Nat.mul_le_mul_right _ (by omega))]
      exact rws_take hk m n (by omega)
theorem blk_there {w : World} {g o m : Nat} {L : List Value} {T : TypeId} (h : Blk w g L.toArray T) (hl : o + m ≤ L.length) : w.there g o m := fun j hj => by
  rw [Blk.cell h, Blk.free h]
  refine ⟨?_, rfl⟩
  rw [List.getElem?_toArray, List.getElem?_eq_getElem (by omega)]; rfl
theorem flI_less {A : Nat → Nat} {i p : Nat} (hp : A p = i) : ∀ (j : Nat), p < j → (flI A i j).1 < j
  | 0, h => absurd h (Nat.not_lt_zero _)
  | j + 1, h => by
    by_cases e : A j = i
    · rw [flI_hit e]; have := flI_le (A := A) (i := i) j; omega
    · have h1 : p < j := by
        rcases Nat.lt_or_ge p j with h2 | h2
        · exact h2
        · exact absurd (by rw [show j = p by omega]; exact hp) e
      have := flI_less hp j h1
      rw [flI_miss e]; show (flI A i j).1 + 1 < j + 1; omega
set_option maxRecDepth 100000 in
set_option maxHeartbeats 8000000 in
theorem dfunc_any (B n cap bi i : Nat) (oa : Option Addr) (A : Nat → Nat) (D : Nat → Nat → Nat) (w : World) (hO : w.ownsRow B 70 65 (.slice oa n cap) n (rws n fun j => wtC (A j) (D j))) (hR : WRow w oa n A D) (hn : n < 100000000) (hb : w.cell? ⟨bi, 0, none⟩ = some (.int .i64 (i : Int))) (hne : (Value.slice oa n cap).ownBlock ≠ some bi) :
    Calls Tryd.prog 36 #[.slice oa n cap, .func (.func 37) #[] #[.pointer (some ⟨bi, 0, none⟩)]] w fun e w' => e = .returned (.slice oa (flI A i n).1 cap) ∧ w'.ownsRow B 70 65 (.slice oa (flI A i n).1 cap) (flI A i n).1 (rws (flI A i n).1 (flC A D i n)) ∧ w.grownBy w' (Value.slice oa n cap).ownBlock := by
  have hz := zW_run
  have HX := Lib.hid (index_any oa n cap bi i A D w hR hn hb)
  have HO := Lib.hid hO
  have HB := Lib.hid hb
  have HNE := Lib.hid hne
  have n0 : (n : Int) ≤ 9223372036854775807 := by omega
  have HN := Lib.hid hn
  clear hO hR hb hne hn
  go_enter Tryd.func36, Tryd.ntmps36
  go_wp2_with fail
  refine HX.out.mono ?_
  rintro e w1 ⟨x, rfl, hf, hb1⟩
  clear HX
  rcases hf with ⟨p, rfl, hp, hap, hno⟩ | ⟨rfl, hno⟩
  rotate_left
  · have hfl := flI_none n hno
    have HF := Lib.hid hfl
    have HB1 := Lib.hid hb1
    clear hno hfl hb1
    go_wp2_with fail
    go_ret
    refine ⟨by rw [HF.out]; rfl, ?_, HB1.out.os, HB1.out.tape, HB1.out.output, HB1.out.size, fun k hk _ => HB1.out.block k hk⟩
    unfold flC
    rw [HF.out]
    exact owns_later HO.out HB1.out
  · obtain ⟨g, X, rfl, hgB, hblk, hlen, hcap⟩ : ∃ g X, oa = some ⟨g, 0, none⟩ ∧ B ≤ g ∧ Blk w g ((rws n fun j => wtC (A j) (D j)) ++ X).toArray 70 ∧ n * 65 + X.length = cap * 65 ∧ n ≤ cap ∧ cap ≤ maxLen := by
      rcases HO.out.2 with ⟨e, h0⟩ | ⟨g, cap', cur, e, hg, hh, q1, q2, q3, q4⟩
      · omega
      · cases e
        refine ⟨g, cur.toList.drop (n * 65), rfl, hg, ?_, ?_, q1, q2⟩
        · unfold Blk; rw [hh, ← q4, List.take_append_drop]
        · have h5 : n * 65 ≤ cap * 65 := Nat.mul_le_mul_right _ q1
          rw [List.length_drop, Array.length_toList, q3]; omega
    have hgb : g ≠ bi := fun e => HNE.out (by rw [e]; rfl)
    have hfp : flI A i (p + 1) = (p, fun t => t) := by rw [flI_hit hap, flI_none p hno]
    have j0 : (p : Int) ≠ -1 := by omega
    have j1 : ((p : Int) == -1) = false := beq_false_of_ne j0
    have j2 : decide ((p : Int) = -1) = false := decide_eq_false j0
    have k0 : IntKind.i64.wrap ((p : Int) + 1) = ((p + 1 : Nat) : Int) := by have := HN.out; rw [IntWalk.i64_in _ (by omega)]; omega
    have HG := Lib.hid (show g < w.heap.size ∧ g ≠ bi ∧ n * 65 + X.length = cap * 65 ∧ n ≤ cap ∧ cap ≤ maxLen ∧ p < n ∧ A p = i ∧ B ≤ g from ⟨Blk.lt hblk, hgb, hlen, hcap.1, hcap.2, hp, hap, hgB⟩)
    have H0 := Lib.hid (show Blk w1 g (rws n (flC A D i (p + 1)) ++ X).toArray 70 ∧ Own g w w1 from ⟨by
      have e : flC A D i (p + 1) = fun j => wtC (A j) (D j) := by unfold flC; rw [hfp]
      rw [e]; exact Blk.below hblk hb1 (Blk.lt hblk), ⟨hb1.os, hb1.tape, hb1.output, hb1.size, fun k hk _ => hb1.block k hk⟩⟩)
    have HFP := Lib.hid hfp
    clear hno hb1 hblk hlen hcap hgb hfp hap hgB j0
    go_wp2_with fail
    go_loopw [5, 6, 7] (fun x y z wr => ∃ j : Nat, p + 1 ≤ j ∧ j ≤ n ∧ x = .int .i64 ((flI A i j).1 : Int) ∧ y = .int .i64 (j : Int) ∧ Blk wr g (rws n (flC A D i j) ++ X).toArray 70 ∧ Own g w wr) (fun x y z _ => n - (intOf y).toNat)
    case atStart => exact ⟨p + 1, Nat.le_refl _, hp, by rw [HFP.out], by first | rfl | go_num, H0.out⟩
    case round =>
      clear H0
      obtain ⟨j, hpj, hj, rfl, rfl, hbk, how⟩ := hrel
      obtain ⟨m, hm⟩ : ∃ m, (flI A i j).1 = m := ⟨_, rfl⟩
      rw [hm]
      have hmj : m ≤ j := by rw [← hm]; exact flI_le j
      have HM := Lib.hid hm
      have HBK := Lib.hid hbk
      have HOW := Lib.hid how
      clear hm hbk how
      by_cases hlt : j < n
      · as_aux_lemma =>
        have i1 : (j : Int) < (n : Int) := by omega
        have i0 : (0 : Int) ≤ (j : Int) := by omega
        have i2 : (m : Int) < (n : Int) := by omega
        have i3 : (0 : Int) ≤ (m : Int) := by omega
        have k4 : IntKind.i64.wrap ((j : Int) + 1) = ((j + 1 : Nat) : Int) := by have := HN.out; rw [IntWalk.i64_in _ (by omega)]; omega
        have k5 : IntKind.i64.wrap ((m : Int) + 1) = ((m + 1 : Nat) : Int) := by have := HN.out; rw [IntWalk.i64_in _ (by omega)]; omega
        obtain ⟨a, ha⟩ : ∃ x, A j = x := ⟨_, rfl⟩
        obtain ⟨f, hf⟩ : ∃ x, D j = x := ⟨_, rfl⟩
        have hrg := blk_range HBK.out (flC_len A D i j) hlt
        have hcj : flC A D i j j = wtC a f := by unfold flC; rw [flI_id j j (Nat.le_refl _), ha, hf]
        rw [hcj] at hrg
        have HRG := Lib.hid hrg
        have hl0 := laidBk wr zW (wtC a f).toArray 70 (by rw [zW_size, List.size_toArray, wtC_len])
        obtain ⟨w2, hw2⟩ : ∃ x, (wr.alloc (.cells zW 70)).setCells wr.heap.size 0 (wtC a f).toArray.toList = x := ⟨_, rfl⟩
        rw [hw2] at hl0
        obtain ⟨g2, hg2⟩ : ∃ x, wr.heap.size = x := ⟨_, rfl⟩
        have HTH := Lib.hid hl0.2.2
        have H2 := Lib.hid (show Blk w2 g2 (wtC a f).toArray 70 ∧ Below wr.heap.size wr w2 from ⟨by rw [← hg2]; exact hl0.1, hl0.2.1⟩)
        rw [hg2] at HTH hw2
        have HGG := Lib.hid hg2
        have HIW : Hid ((Tryd.prog.info? 70).map (·.size) = some (wtC a f).toArray.size) := Lib.hid (by rw [List.size_toArray]; exact info_write)
        have HON : Hid ((wtC a f).toArray.all (·.oneCell') = true) := Lib.hid (all_oneCell_toArray (wtC_one a f))
        have HR2 : Hid (w2.rangeAt g2 0 (wtC a f)) := Lib.hid fun q u hu => by rw [Blk.cell H2.out.1, Nat.zero_add, List.getElem?_toArray]; exact hu
        have HOW2 : Hid (Own g w w2) := Lib.hid (HOW.out.trans ⟨H2.out.2.os, H2.out.2.tape, H2.out.2.output, H2.out.2.size, fun k hk _ => H2.out.2.block k hk⟩)
        have HDL := Lib.hid (del_any a i bi f w2 (by
          have hlb := World.block_lt_of_cell? _ _ HB.out
          rw [World.cell?_of_block (HOW2.out.block bi hlb (Ne.symm HG.out.2.1))]; exact HB.out))
        have HI := Lib.hid (show A j = a ∧ D j = f ∧ j < n ∧ p + 1 ≤ j ∧ m ≤ j from ⟨ha, hf, hlt, hpj, hmj⟩)
        have HBK2 := Lib.hid (Blk.below HBK.out H2.out.2 (Blk.lt HBK.out))
        clear hlt hj hpj hmj ha hf hrg hcj hl0 hg2
        go_wp2_with (first
          | (refine wpList_load_mid rfl 70 (.tmp 24) rfl g (j * 65) rfl (wtC a f) _ HRG.out Tryd.underlying70 rfl info_write ?_)
          | (refine wpList_load_mid rfl 70 (.tmp 7) rfl g2 0 rfl (wtC a f) _ HR2.out Tryd.underlying70 rfl info_write ?_)
          | ((try rw [HGG.out]); refine wpList_store_mid rfl 70 (.tmp 7) (.tmp 25) rfl g2 0 (wtC a f).toArray rfl rfl HTH.out HIW.out HON.out ?_; rw [hw2]))
        refine HDL.out.mono ?_
        rintro e w3 ⟨rfl, hb3⟩
        have HB3 := Lib.hid hb3
        have HOW3 : Hid (Own g w w3) := Lib.hid (HOW2.out.trans ⟨hb3.os, hb3.tape, hb3.output, hb3.size, fun k hk _ => hb3.block k hk⟩)
        have HBK3 := Lib.hid (Blk.below HBK2.out hb3 (Blk.lt HBK2.out))
        have HR3 : Hid (w3.rangeAt g2 0 (wtC a f)) := Lib.hid fun q u hu => cell_below HB3.out (HR2.out q u hu)
        clear HDL hb3
        by_cases he : a = i
        · rw [decide_eq_true he]
          have hfl : flI A i (j + 1) = flI A i j := flI_hit (by rw [HI.out.1]; exact he)
          have HF := Lib.hid hfl
          clear he hfl
          go_wp2_with fail
          go_roundw
          case rel =>
            refine ⟨j + 1, by have := HI.out; omega, HI.out.2.2.1, by rw [HF.out, HM.out], by first | rfl | go_num, ?_, HOW3.out⟩
            unfold flC; rw [HF.out]; exact HBK3.out
          case measure => have := HI.out; simp [intOf]; omega
        · rw [decide_eq_false he]
          have hfl : flI A i (j + 1) = (m + 1, fun t => if t = m then j else (flI A i j).2 t) := by rw [flI_miss (by rw [HI.out.1]; exact he), HM.out]
          have HF := Lib.hid hfl
          have hset := Blk.setMid HBK3.out (m * 65) (wtC a f) (by
            rw [wtC_len, List.length_append, rws_len (k := 65) fun t _ => flC_len A D i j t]
            have := HI.out; omega)
          rw [splice_left (by rw [wtC_len, rws_len (k := 65) fun t _ => flC_len A D i j t]; have := HI.out; omega), rws_put (flC_len A D i j) (wtC_len _ _) (by decide) (by have := HI.out; omega)] at hset
          have HTG : Hid (w3.there g (m * 65) (wtC a f).toArray.size) := Lib.hid (by
            rw [List.size_toArray, wtC_len]
            refine blk_there HBK3.out ?_
            rw [List.length_append, rws_len (k := 65) fun t _ => flC_len A D i j t]
            have := HI.out; omega)
          have HOW4 : Hid (Own g w (w3.setCells g (m * 65) (wtC a f).toArray.toList)) := Lib.hid (HOW3.out.trans (Own.setCells _ _ _))
          obtain ⟨w4, hw4⟩ : ∃ x, w3.setCells g (m * 65) (wtC a f).toArray.toList = x := ⟨_, rfl⟩
          have HST : Hid (Blk w4 g ((rws n fun t => if t = m then wtC a f else flC A D i j t) ++ X).toArray 70) := Lib.hid (by rw [← hw4]; exact hset)
          rw [hw4] at HOW4
          clear he hfl hset
          go_wp2_with (first
            | (refine wpList_load_mid rfl 70 (.tmp 7) rfl g2 0 rfl (wtC a f) _ HR3.out Tryd.underlying70 rfl info_write ?_)
            | (refine wpList_store_mid rfl 70 (.tmp 33) (.tmp 32) rfl g (m * 65) (wtC a f).toArray rfl rfl HTG.out HIW.out HON.out ?_; rw [hw4]; clear hw4))
          go_roundw
          case rel =>
            refine ⟨j + 1, by have := HI.out; omega, HI.out.2.2.1, by rw [HF.out]; show Value.int .i64 _ = Value.int .i64 ((m + 1 : Nat) : Int); first | rfl | go_num, by first | rfl | go_num, ?_, HOW4.out⟩
            have e : flC A D i (j + 1) = fun t => if t = m then wtC a f else flC A D i j t := funext fun t => by
              unfold flC; rw [HF.out]
              show wtC (A (if t = m then j else (flI A i j).2 t)) (D (if t = m then j else (flI A i j).2 t)) = _
              by_cases h9 : t = m
              · rw [if_pos h9, if_pos h9, HI.out.1, HI.out.2.1]
              · rw [if_neg h9, if_neg h9]
            rw [e]; exact HST.out
          case measure => have := HI.out; simp [intOf]; omega
      · obtain rfl : j = n := by omega
        have i1 : ¬ (j : Int) < (j : Int) := by omega
        have hmn : m < j := by rw [← HM.out]; exact flI_less HG.out.2.2.2.2.2.2.1 j HG.out.2.2.2.2.2.1
        have hL : (rws j (flC A D i j) ++ X).length = cap * 65 := by
          rw [List.length_append, rws_len (k := 65) fun t _ => flC_len A D i j t]; exact HG.out.2.2.1
        have h65 : j * 65 ≤ cap * 65 := by have := HG.out.2.2.2.1; omega
        obtain ⟨Z, hZ, hcl⟩ := zc_run g (m * 65) (j - m) (cap - m) wr 0 (by omega) (fun t ht => (blk_there (o := m * 65) (m := (j - m) * 65) HBK.out (by rw [hL]; omega) t ht).1) (fun t => Blk.free HBK.out t)
        obtain ⟨w5, hw5⟩ : ∃ x, wr.setCells g (m * 65) Z = x := ⟨_, rfl⟩
        have hset := Blk.setMid HBK.out (m * 65) Z (by rw [hZ, hL]; omega)
        have hO5 : Own g wr (wr.setCells g (m * 65) Z) := Own.setCells _ _ _
        rw [hw5] at hcl hset hO5
        have hmc : m < cap := by have := HG.out.2.2.2.1; omega
        have hmc1 : ¬ m = cap := by omega
        have hmc2 : ¬ cap = m := by omega
        have hmc3 : ¬ cap - m = 0 := by omega
        have hmc4 : ¬ cap ≤ m := by omega
        have i2 : (m : Int) ≤ (j : Int) := by omega
        have i3 : (0 : Int) ≤ (m : Int) := by omega
        have i4 : (j : Int) ≤ (cap : Int) := by have := HG.out.2.2.2.1; omega
        have i5 : (m : Int) ≤ (cap : Int) := by omega
        have H5 := Lib.hid (show Blk w5 g (splice (rws j (flC A D i j) ++ X) (m * 65) Z).toArray 70 ∧ Own g w w5 ∧ m < j ∧ Z.length = (j - m) * 65 ∧ (rws j (flC A D i j) ++ X).length = cap * 65 ∧ m ≤ cap from ⟨hset, HOW.out.trans hO5, hmn, hZ, hL, by omega⟩)
        clear hlt hj hw5 hset hO5 hmn hZ hL h65
        go_wp2_with fail
        go_ret
        refine ⟨by rw [HM.out]; rfl, ?_, H5.out.2.1.os, H5.out.2.1.tape, H5.out.2.1.output, H5.out.2.1.size, fun k hk hne => H5.out.2.1.block k hk (fun e => hne (by rw [e]; rfl))⟩
        rw [HM.out]
        refine ⟨rws_len (k := 65) fun t _ => flC_len A D i j t, .inr ⟨g, cap, (splice (rws j (flC A D i j) ++ X) (m * 65) Z).toArray, rfl, HG.out.2.2.2.2.2.2.2, H5.out.1, H5.out.2.2.2.2.2, HG.out.2.2.2.2.1, ?_, ?_⟩⟩
        · rw [List.size_toArray, length_splice _ _ _ (by have := H5.out; have := HG.out; omega)]; exact H5.out.2.2.2.2.1
        · have h1 := H5.out.2.2.1
          unfold splice
          rw [List.take_append_of_le_length (by rw [List.length_take]; have := H5.out; have := HG.out; omega), List.take_take, Nat.min_self]
          rw [List.take_append_of_le_length (by rw [rws_len (k := 65) fun t _ => flC_len A D i j t]; omega)]
          exact rws_take (flC_len A D i j) _ _ (Nat.le_of_lt h1)
end Go.Proofs.YtcohllhmfghlfaaDoor
