/- Part of the proof: what stands here serves the walks of the functions that the statement calls. -/
import Derived.Test.YtncfocjmdecapaaGreatDoorY05
namespace Go.Proofs.YtncfocjmdecapaaGreatDoor
set_option linter.unusedVariables false
set_option linter.unusedSimpArgs false
open Go.RowKit
set_option maxRecDepth 100000
set_option maxHeartbeats 8000000
theorem wpList_mk {ops : Array Oper} {rest : List Oper} {o : Oper} {a : Act} {w : World} {Q : Exit → Act → World → Prop} (hgd : o.guard = none) (x y : Operand) (ho : o.op = .makeSlice 24 x y) (n : Nat) (hx : a.eval x = .int .i64 (n : Int)) (hy : a.eval y = .int .i64 (n : Int)) (hn : n < 1000000000000)
  (h : wpList Tryz.prog ops Q rest (a.put o.dst (.slice (some ⟨w.heap.size, 0, none⟩) n n)) (w.alloc (.cells (rowC n (fun _ => 0)).toArray 5))) : wpList Tryz.prog ops Q (o :: rest) a w := by
 refine wpList_plain hgd fun K hK => ?_
 have hrun := make_zeros n hn w
 unfold Oper.wp
 simp [execOp, ho, hx, hy, hrun, Result.andThen]
 exact hK _ _ h
theorem one_u8 {w : World} {x : Nat} {z : Int} (hz : z = (x : Int)) (hx : x < 256) : Bytes (w.alloc (.cells #[.int .u8 z] 5)) (some ⟨w.heap.size, 0, none⟩) 1 (fun _ => x) := by subst hz; exact one_byte hx
structure MA (w0 : World) (i : Nat) (W : Nat → Nat) (va vb : Value) (wr : World) : Prop where
 r : RB 22 32 w0.heap.size (fun _ => 0) wr
 k : RB 5 64 (w0.heap.size + 1) W wr
 a : Grow wr (w0.heap.size + 2) va i (xoK W 54)
 o : Below w0.heap.size w0 wr
 s : w0.heap.size + 2 ≤ wr.heap.size
structure MB (w0 : World) (i j : Nat) (W : Nat → Nat) (va vb : Value) (wr : World) : Prop where
 m : MA w0 i W va vb wr
 b : Grow wr (w0.heap.size + 2) vb j (xoK W 92)
 n : ∀ k, va.ownBlock = some k → vb.ownBlock ≠ some k
theorem MB.later {w0 wr w' : World} {i j : Nat} {W : Nat → Nat} {va vb : Value} (h : MB w0 i j W va vb wr) (hb : Below wr.heap.size wr w') : MB w0 i j W va vb w' :=
 ⟨⟨Blk.below h.m.r hb (Blk.lt h.m.r), Blk.below h.m.k hb (Blk.lt h.m.k), h.m.a.later hb, h.m.o.trans (hb.mono h.m.o.size), Nat.le_trans h.m.s hb.size⟩, h.b.later hb, h.n⟩
theorem own_ge {wr : World} {base n : Nat} {v : Value} {f : Nat → Nat} (h : Grow wr base v n f) (hs : base ≤ wr.heap.size) : base ≤ v.ownBlock.getD wr.heap.size := by
 cases e : v.ownBlock with
 | none => simp; exact hs
 | some b => simp; exact (h.lt b e).1
theorem ne_own {wr : World} {v : Value} {x : Nat} (hx : x < wr.heap.size) (hk : v.ownBlock ≠ some x) : x ≠ v.ownBlock.getD wr.heap.size := by
 cases e : v.ownBlock with
 | none => simp; omega
 | some b => simp; intro e2; exact hk (by rw [e, e2])
theorem MB.growA {w0 wr w' : World} {i j i' : Nat} {W : Nat → Nat} {va vb va' : Value} (h : MB w0 i j W va vb wr) (hg : wr.grownBy w' va.ownBlock) (hG : Grow w' (w0.heap.size + 2) va' i' (xoK W 54)) (hob : va'.ownBlock = va.ownBlock ∨ va'.ownBlock = some wr.heap.size) : MB w0 i' j W va' vb w' := by
 have hO := own_of_grown hg
 have hge := own_ge h.m.a h.m.s
 refine ⟨⟨hO.blk h.m.r (by omega), hO.blk h.m.k (by omega), hG, h.m.o.trans (hO.below (by omega) h.m.o.size), Nat.le_trans h.m.s hg.size⟩, h.b.ownN hO fun k hk => ne_own (h.b.lt k hk).2 fun e => h.n k e hk, fun k hk => ?_⟩
 rcases hob with e | e
 ·exact h.n k (by rw [← e]; exact hk)
 ·intro e2
  have := (h.b.lt k e2).2
  rw [e] at hk; cases hk; omega
theorem MB.growB {w0 wr w' : World} {i j j' : Nat} {W : Nat → Nat} {va vb vb' : Value} (h : MB w0 i j W va vb wr) (hg : wr.grownBy w' vb.ownBlock) (hG : Grow w' (w0.heap.size + 2) vb' j' (xoK W 92)) (hob : vb'.ownBlock = vb.ownBlock ∨ vb'.ownBlock = some wr.heap.size) : MB w0 i j' W va vb' w' := by
 have hO := own_of_grown hg
 have hge := own_ge h.b h.m.s
 refine ⟨⟨hO.blk h.m.r (by omega), hO.blk h.m.k (by omega), h.m.a.ownN hO fun k hk => ne_own (h.m.a.lt k hk).2 (h.n k hk), h.m.o.trans (hO.below (by omega) h.m.o.size), Nat.le_trans h.m.s hg.size⟩, hG, fun k hk => ?_⟩
 rcases hob with e | e
 ·rw [e]; exact h.n k hk
 ·rw [e]; intro e2
  have := (h.m.a.lt k hk).2
  cases e2; omega
theorem xo_step {W : Nat → Nat} {i x c : Nat} (hx : W i ^^^ c = x) : ∀ k, k < i + 1 → catF i (xoK W c) (fun _ => x) k = xoK W c k := cat1 (Pd := xoK W c) hx
theorem rmac_any (oa ob : Option Addr) (n cn m cm : Nat) (K G : Nat → Nat) (w : World) (hb : Bytes w oa n K) (hno : oa = none → n = 0) (hn : n < 800000000000) (hb2 : Bytes w ob m G) (hmo : ob = none → m = 0) (hm : m < 800000000000) :
    Calls Tryz.prog 33 #[.slice oa n cn, .slice ob m cm] w fun e w' => e = .returned (.agg (rowC 32 (hmN n K m G)).toArray) ∧ Below w.heap.size w w' := by
  have hz := zero32_run
  obtain ⟨wa, hwa⟩ := zX (w.alloc (.cells zero32 22))
  obtain ⟨wb, hwb⟩ := zX (wa.alloc (.cells (rowC 64 (fun _ => 0)).toArray 5))
  obtain ⟨W, hW⟩ := zX (whK n K)
  obtain ⟨M, hM⟩ := zX (hmK W m G)
  obtain ⟨D1, hD1⟩ := zX (shaN (64 + m) (catF 64 (xoK W 54) G))
  have hsz : wa.heap.size = w.heap.size + 1 := by rw [← hwa]; simp
  have hsz2 : wb.heap.size = w.heap.size + 2 := by rw [← hwb]; simp [hsz]
  have H0 : Hid (RB 22 32 w.heap.size (fun _ => 0) wb ∧ RB 5 64 (w.heap.size + 1) (fun _ => 0) wb ∧ Below w.heap.size w wb ∧ wb.heap.size = w.heap.size + 2) := zh (by
    have h1 : Below w.heap.size w wa := by rw [← hwa]; exact zA
    have h2 : RB 22 32 w.heap.size (fun _ => 0) wa := by rw [← hwa]; exact Blk.new w _ _
    refine ⟨by rw [← hwb]; exact Blk.alloc h2 _, ?_, by rw [← hwb]; exact h1.alloc h1.size _, hsz2⟩
    rw [← hwb, ← hsz]; exact Blk.new wa _ _)
  have HKB : Hid (∀ w', Below w.heap.size w w' → Bytes w' oa n K) := zh fun w' h => hb.later h
  have HGB : Hid (∀ w', Below w.heap.size w w' → Bytes w' ob m G) := zh fun w' h => hb2.later h
  have HNO := zh hno
  have HMO := zh hmo
  have HNN : Hid (n < 800000000000 ∧ m < 800000000000) := zh ⟨hn, hm⟩
  have HW8 : Hid (∀ i, W i < 256) := zh (hW ▸ whK_lt fun i hi => (hb i hi).1)
  have HWW := zh hW
  have HD1 := zh hD1
  have HMM := zh hM
  obtain ⟨CM, hCM⟩ := zX ((rowC 32 M).toArray)
  have HCM := zh hCM
  have HJ : Hid ((Tryz.prog.info? 22).map (·.size) = some CM.size) := zh (hCM ▸ info27 _)
  have HJ1 : Hid (CM.all (·.oneCell') = true) := zh (hCM ▸ one32 _)
  have hMM2 : hmN n K m G = M := by unfold hmN; rw [hW, hM]
  rw [hMM2, hCM]
  clear hb hno hn hb2 hmo hm hW hM hD1 hCM hMM2 hsz2
  go_enter Tryz.func33, Tryz.ntmps33
  by_cases h64 : 64 < n
  · have h1 : (64 : Int) < (n : Int) := by omega
    have HL := zh h64
    clear h64
    go_wp2_with (first | (refine wpList_mk rfl _ _ rfl 64 rfl rfl (by decide) ?_; rw [hwb, hsz]))
    clear hwa hwb hsz
    refine (rsum_any oa n cn K _ (HKB.out _ H0.out.2.2.1) HNO.out (by have := HNN.out; omega)).mono ?_
    rintro e w1 ⟨rfl, hb1⟩
    obtain ⟨D, hD⟩ := zX (shaN n K)
    obtain ⟨CD, hCD⟩ := zX ((rowC 32 D).toArray)
    have HD := zh hD
    have HCD := zh hCD
    have HI : Hid ((Tryz.prog.info? 22).map (·.size) = some CD.size) := zh (hCD ▸ info27 _)
    have HI1 : Hid (CD.all (·.oneCell') = true) := zh (hCD ▸ one32 _)
    rw [hD, hCD]
    obtain ⟨g1, hg1⟩ := zX w1.heap.size
    obtain ⟨wc, hwc⟩ := zX (w1.alloc (.cells zero32 22))
    obtain ⟨w2, hw2⟩ := zX (wc.setCells g1 0 CD.toList)
    have hl := lay32 w1 D hCD
    rw [hg1, hwc, hw2] at hl
    have HTH := zh hl.2.2
    have H2 : Hid (RB 22 32 w.heap.size (fun _ => 0) w2 ∧ RB 5 64 (w.heap.size + 1) (fun _ => 0) w2 ∧ Below w.heap.size w w2 ∧ w.heap.size + 2 ≤ w2.heap.size ∧ RB 22 32 g1 D w2) := zh (by
      obtain ⟨a1, a2, a3, a4⟩ := H0.out
      have h3 : Below wb.heap.size wb w2 := hb1.trans (hl.2.1.mono (by rw [← hg1]; exact hb1.size))
      have := h3.size
      exact ⟨Blk.below a1 h3 (Blk.lt a1), Blk.below a2 h3 (Blk.lt a2), a3.trans (h3.mono a3.size), by omega, hl.1⟩)
    clear hl hb1 hD hCD H0
    obtain ⟨CS, hCS⟩ := zX (rowC 32 D)
    have HCS : Hid (CS.length = 32 ∧ (∀ v ∈ CS, v.oneCell' = true) ∧ ∀ j v, CS[j]? = some v → w2.cell? ((⟨g1, 0, none⟩ : Addr).add j) = some v) := zh (by
      rw [← hCS]
      refine ⟨rowC_len _ _, rowC_one _ _, fun j v hv => ?_⟩
      have hj : j < 32 := by have := (List.getElem?_eq_some_iff.1 hv).1; rw [rowC_len] at this; exact this
      rw [rowC_get _ hj] at hv
      rw [Addr.add_mid, Nat.zero_add]
      exact (H2.out.2.2.2.2.cell hj).trans hv)
    have HSP : Hid (splice (rowC 64 (fun _ => 0)) 0 CS = rowC 64 W) := zh (by rw [← hCS, ← HD.out, ← HWW.out]; exact whole_large HL.out)
    clear hCS
    go_wp2_with (first
      | (refine wpList_store_mid rfl 22 (.tmp 6) (.tmp 16) rfl g1 0 CD rfl rfl HTH.out HI.out HI1.out ?_; rw [hw2])
      | (refine wpList_copy_splice rfl (.tmp 17) (.tmp 18) 24 24 rfl 5 Tryz.underlying24 info_u8s (some ⟨w.heap.size + 1, 0, none⟩) (some ⟨g1, 0, none⟩) 64 64 32 32 rfl rfl (w.heap.size + 1) 0 (rowC 64 (fun _ => 0)) 5 H2.out.2.1 CS (by rw [HCS.out.1]; rfl) (fun _ => ⟨rfl, _, rfl, HCS.out.2.2⟩) (by rw [HCS.out.1, rowC_len]; decide) HCS.out.2.1 (w.heap.size + 1) w2 (Below.refl _ _) (Nat.le_refl _) ?_
         intro w4 h4 hb4
         rw [HSP.out] at h4
         have H4 : Hid (MB w 0 0 W (.slice none 0 0) (.slice none 0 0) w4) := zh ⟨⟨Blk.below H2.out.1 hb4 (Nat.lt_succ_self _), h4.out, Grow.nil _ _ _, H2.out.2.2.1.trans (hb4.mono (Nat.le_succ _)), Nat.le_trans H2.out.2.2.2.1 hb4.size⟩, Grow.nil _ _ _, fun k hk => by cases hk⟩
         rw [HCS.out.1]
         clear h4 hb4))
    clear hw2 hwc hg1 HTH H2 HCS HSP HI HI1 HD HCD hz
    go_loopw [7, 8, 9] (fun x y v wr => ∃ (i : Nat) (va vb : Value), i ≤ 64 ∧ v = .int .i64 (i : Int) ∧ va = x ∧ vb = y ∧ MB w i i W va vb wr) (fun _ _ v _ => 64 - (intOf v).toNat)
    case atStart => exact ⟨0, _, _, Nat.zero_le _, rfl, rfl, rfl, H4.out⟩
    case round =>
      clear H4
      obtain ⟨i, va, vb, hi, rfl, rfl, rfl, hX⟩ := hrel
      have HX := zh hX
      clear hX
      by_cases hlt : i < 64
      · as_aux_lemma =>
        have i0 : (0 : Int) ≤ (i : Int) := by omega
        have i1 : (i : Int) < 64 := by omega
        have i2 : (i : Int) < ((64 : Nat) : Int) := by omega
        have HIL : Hid (i < 64) := zh hlt
        obtain ⟨y, hy⟩ := zX (W i)
        have hy8 : y < 256 := hy ▸ HW8.out i
        have ck := HX.out.m.k.val hlt hy
        have x1 : bits .xor .u8 (y : Nat) 54 = ((y ^^^ 54 : Nat) : Int) := u8_xor_nat y 54 hy8 (by decide)
        have x2 : bits .xor .u8 (y : Nat) 92 = ((y ^^^ 92 : Nat) : Int) := u8_xor_nat y 92 hy8 (by decide)
        obtain ⟨p, hp⟩ := zX (y ^^^ 54)
        obtain ⟨q, hq⟩ := zX (y ^^^ 92)
        rw [hp] at x1
        rw [hq] at x2
        have HPQ : Hid (p < 256 ∧ q < 256 ∧ W i ^^^ 54 = p ∧ W i ^^^ 92 = q) := zh ⟨hp ▸ xor8 hy8 (by decide), hq ▸ xor8 hy8 (by decide), by rw [hy]; exact hp, by rw [hy]; exact hq⟩
        have HA : Hid (MB w i i W va vb (wr.alloc (.cells #[.int .u8 (p : Nat)] 5))) := zh (HX.out.later (zA))
        have HYY : Hid (W i = y) := zh hy
        clear hy hy8 hp hq hi hlt
        go_wp2_with (first
          | (refine wpList_appO rfl (.tmp 27) (.tmp 33) rfl (w.heap.size + 2) va i 1 1 (some ⟨wr.heap.size, 0, none⟩) (xoK W 54) (fun _ => p) (wr.alloc (.cells #[.int .u8 (p : Nat)] 5)) rfl HA.out.m.a rfl (fun h => by cases h) (one_u8 rfl HPQ.out.1) (by have := HIL.out; omega) HA.out.m.s ?_; intro v6 w6 hG6 hg6 hob6; have H6 : Hid (MB w (i + 1) i W v6 vb w6) := zh (HA.out.growA hg6 (hG6.congr (xo_step HPQ.out.2.2.1)) hob6); have ck2 := H6.out.m.k.val HIL.out HYY.out; have HB : Hid (MB w (i + 1) i W v6 vb (w6.alloc (.cells #[.int .u8 (q : Nat)] 5))) := zh (H6.out.later (zA)); clear hG6 hg6 hob6 HA HX ck x1)
          | (refine wpList_appO rfl (.tmp 35) (.tmp 41) rfl (w.heap.size + 2) vb i 1 1 (some ⟨w6.heap.size, 0, none⟩) (xoK W 92) (fun _ => q) (w6.alloc (.cells #[.int .u8 (q : Nat)] 5)) rfl HB.out.b rfl (fun h => by cases h) (one_u8 rfl HPQ.out.2.1) (by have := HIL.out; omega) HB.out.m.s ?_; intro v7 w7 hG7 hg7 hob7; have H7 : Hid (MB w (i + 1) (i + 1) W v6 v7 w7) := zh (HB.out.growB hg7 (hG7.congr (xo_step HPQ.out.2.2.2)) hob7); clear hG7 hg7 hob7 HB H6 ck2 x2))
        have h64 := HIL.out
        go_roundw
        case rel => exact ⟨i + 1, _, _, by omega, by go_num, rfl, rfl, H7.out⟩
        case measure => simp [intOf] <;> omega
      · obtain rfl : i = 64 := by omega
        rw [show ((64 : Nat) : Int) = 64 from rfl]
        clear hi hlt
        have hz := zero32_run
        go_wp2_with (first
          | (refine wpList_appO rfl (.tmp 43) (.tmp 44) rfl (w.heap.size + 2) va 64 m cm ob (xoK W 54) G wr rfl HX.out.m.a rfl HMO.out (HGB.out _ HX.out.m.o) (by have := HNN.out; omega) HX.out.m.s ?_; intro v6 w6 hG6 hg6 hob6))
        have H6 : Hid (RB 22 32 w.heap.size (fun _ => 0) w6 ∧ Grow w6 (w.heap.size + 2) vb 64 (xoK W 92) ∧ Below w.heap.size w w6 ∧ w.heap.size + 2 ≤ w6.heap.size) := zh (by
          have hX := HX.out
          have hO := own_of_grown hg6
          have hge := own_ge hX.m.a hX.m.s
          exact ⟨hO.blk hX.m.r (by omega), hX.b.ownN hO fun k hk => ne_own (hX.b.lt k hk).2 fun e => hX.n k e hk, hX.m.o.trans (hO.below (by omega) hX.m.o.size), Nat.le_trans hX.m.s hg6.size⟩)
        obtain ⟨o6, c6, hv6, hB6, hc6, hn6⟩ := hG6.bytesC (by
          intro i hi
          unfold catF
          by_cases e : i < 64
          · rw [if_pos e]; exact xor8 (HW8.out i) (by decide)
          · rw [if_neg e]; exact ((HGB.out _ (Below.refl _ w)) _ (by omega)).1)
        subst hv6
        refine (rsum_any o6 (64 + m) c6 _ w6 hB6 hn6 (by have := HNN.out; omega)).mono ?_
        rintro e w7 ⟨rfl, hb7⟩
        rw [HD1.out]
        obtain ⟨CD, hCD⟩ := zX ((rowC 32 D1).toArray)
        have HI : Hid ((Tryz.prog.info? 22).map (·.size) = some CD.size) := zh (hCD ▸ info27 _)
        have HI1 : Hid (CD.all (·.oneCell') = true) := zh (hCD ▸ one32 _)
        obtain ⟨g1, hg1⟩ := zX w7.heap.size
        obtain ⟨wc, hwc⟩ := zX (w7.alloc (.cells zero32 22))
        obtain ⟨w8, hw8⟩ := zX (wc.setCells g1 0 CD.toList)
        have hl := lay32 w7 D1 hCD
        rw [hg1, hwc, hw8] at hl
        have HTH := zh hl.2.2
        have H8 : Hid (RB 22 32 w.heap.size (fun _ => 0) w8 ∧ Grow w8 (w.heap.size + 2) vb 64 (xoK W 92) ∧ Below w.heap.size w w8 ∧ w.heap.size + 2 ≤ w8.heap.size ∧ Bytes w8 (some ⟨g1, 0, none⟩) 32 D1) := zh (by
          obtain ⟨a1, a2, a3, a4⟩ := H6.out
          have h3 : Below w6.heap.size w6 w8 := hb7.trans (hl.2.1.mono (by rw [← hg1]; exact hb7.size))
          have := h3.size
          exact ⟨Blk.below a1 h3 (Blk.lt a1), a2.later h3, a3.trans (h3.mono a3.size), by omega, RB.bytes hl.1 fun i _ => by rw [← HD1.out]; exact shaN_lt _ _ _⟩)
        rw [hCD]
        clear hl hb7 hCD H6 HX hG6 hg6 hob6 hB6 hc6 hn6
        go_wp2_with (first
          | (refine wpList_store_mid rfl 22 (.tmp 10) (.tmp 46) rfl g1 0 CD rfl rfl HTH.out HI.out HI1.out ?_; rw [hw8])
          | (refine wpList_appO rfl (.tmp 47) (.tmp 48) rfl (w.heap.size + 2) vb 64 32 32 (some ⟨g1, 0, none⟩) (xoK W 92) D1 w8 rfl H8.out.2.1 rfl (fun h => by cases h) H8.out.2.2.2.2 (by decide) H8.out.2.2.2.1 ?_; intro v9 w9 hG9 hg9 hob9))
        have H9 : Hid (RB 22 32 w.heap.size (fun _ => 0) w9 ∧ Below w.heap.size w w9) := zh (by
          obtain ⟨a1, a2, a3, a4, _⟩ := H8.out
          have hO := own_of_grown hg9
          have hge := own_ge a2 a4
          exact ⟨hO.blk a1 (by omega), a3.trans (hO.below (by omega) a3.size)⟩)
        obtain ⟨o9, c9, hv9, hB9, hc9, hn9⟩ := hG9.bytesC (by
          intro i hi
          unfold catF
          by_cases e : i < 64
          · rw [if_pos e]; exact xor8 (HW8.out i) (by decide)
          · rw [if_neg e, ← HD1.out]; exact shaN_lt _ _ _)
        subst hv9
        clear hw8 hwc hg1 HTH H8 hG9 hg9 hob9 hz HI HI1
        refine (rsum_any o9 (64 + 32) c9 _ w9 hB9 hn9 (by decide)).mono ?_
        rintro e w10 ⟨rfl, hb10⟩
        have HMX : Hid (shaN (64 + 32) (catF 64 (xoK W 92) D1) = M) := zh (by rw [← HMM.out, ← HD1.out]; rfl)
        rw [HMX.out, HCM.out]
        have hR : RB 22 32 w.heap.size (fun _ => 0) w10 := Blk.below H9.out.1 hb10 (Blk.lt H9.out.1)
        have hO := H9.out.2.trans (hb10.mono H9.out.2.size)
        have HN : Hid (Blk (w10.setCells w.heap.size 0 CM.toList) w.heap.size CM 22) := zh (by rw [← HCM.out]; exact Blk.setCells hR (rowC 32 M) (by rw [rowC_size, rowC_len]))
        have HO : Hid (Below w.heap.size w (w10.setCells w.heap.size 0 CM.toList)) := zh (hO.trans ((Own.setCells _ 0 w10).below (Nat.le_refl _) hO.size))
        have HTH : Hid (w10.there w.heap.size 0 CM.size) := zh (by rw [← HCM.out]; exact Blk.there hR (by rw [rowC_size, rowC_size]; exact Nat.le_refl _))
        clear hR hO hb10 H9 hB9 hc9 hn9 HMX
        go_wp2_with (first
          | (refine wpList_store_mid rfl 22 (.tmp 4) (.tmp 50) rfl w.heap.size 0 CM rfl rfl HTH.out HJ.out HJ1.out ?_))
        refine bodyPost_ret (v := .agg CM) ?_ rfl ⟨rfl, HO.out⟩
        exact results_cell_row Tryz.results33 _ _ w.heap.size 22 CM (0, 0) _ rfl HN.out Tryz.underlying22 rfl HJ.out
  · have h1 : ¬ (64 : Int) < (n : Int) := by omega
    have HL := zh h64
    clear h64
    obtain ⟨CS, hCS⟩ := zX (rowC n K)
    have HCS : Hid (CS.length = n ∧ (∀ v ∈ CS, v.oneCell' = true) ∧ (0 < CS.length → ∃ ad, oa = some ad ∧ ∀ j v, CS[j]? = some v → wb.cell? (ad.add j) = some v)) := zh (by
      rw [← hCS]
      refine ⟨rowC_len _ _, rowC_one _ _, fun hp => ?_⟩
      rw [rowC_len] at hp
      have hKB := HKB.out _ H0.out.2.2.1
      obtain ⟨_, b, off, hoa, _⟩ := hKB 0 hp
      refine ⟨_, hoa, fun j v hv => ?_⟩
      have hj : j < n := by have := (List.getElem?_eq_some_iff.1 hv).1; rw [rowC_len] at this; exact this
      rw [rowC_get _ hj] at hv
      obtain ⟨_, b', off', hoa', hcell⟩ := hKB j hj
      rw [hoa] at hoa'; cases hoa'
      rw [Addr.add_mid]
      exact hcell.trans hv)
    have HSP : Hid (splice (rowC 64 (fun _ => 0)) 0 CS = rowC 64 W) := zh (by rw [← hCS, ← HWW.out]; exact whole_small (by have := HL.out; omega))
    clear hCS
    go_wp2_with (first
      | (refine wpList_mk rfl _ _ rfl 64 rfl rfl (by decide) ?_; rw [hwb, hsz])
      | (refine wpList_copy_splice rfl (.tmp 20) (.tmp 21) 24 24 rfl 5 Tryz.underlying24 info_u8s (some ⟨w.heap.size + 1, 0, none⟩) oa 64 64 n cn rfl rfl (w.heap.size + 1) 0 (rowC 64 (fun _ => 0)) 5 H0.out.2.1 CS (by rw [HCS.out.1]; have := HL.out; show n = min n 64; omega) (fun hp => ⟨rfl, HCS.out.2.2 hp⟩) (by rw [HCS.out.1, rowC_len]; have := HL.out; omega) HCS.out.2.1 (w.heap.size + 1) wb (Below.refl _ _) (Nat.le_refl _) ?_
         intro w4 h4 hb4
         rw [HSP.out] at h4
         have H4 : Hid (MB w 0 0 W (.slice none 0 0) (.slice none 0 0) w4) := zh ⟨⟨Blk.below H0.out.1 hb4 (Nat.lt_succ_self _), h4.out, Grow.nil _ _ _, H0.out.2.2.1.trans (hb4.mono (Nat.le_succ _)), Nat.le_trans (Nat.le_of_eq H0.out.2.2.2.symm) hb4.size⟩, Grow.nil _ _ _, fun k hk => by cases hk⟩
         rw [HCS.out.1]
         clear h4 hb4))
    clear hwa hwb hsz H0 HCS HSP hz
    go_loopw [7, 8, 9] (fun x y v wr => ∃ (i : Nat) (va vb : Value), i ≤ 64 ∧ v = .int .i64 (i : Int) ∧ va = x ∧ vb = y ∧ MB w i i W va vb wr) (fun _ _ v _ => 64 - (intOf v).toNat)
    case atStart => exact ⟨0, _, _, Nat.zero_le _, rfl, rfl, rfl, H4.out⟩
    case round =>
      clear H4
      obtain ⟨i, va, vb, hi, rfl, rfl, rfl, hX⟩ := hrel
      have HX := zh hX
      clear hX
      by_cases hlt : i < 64
      · as_aux_lemma =>
        have i0 : (0 : Int) ≤ (i : Int) := by omega
        have i1 : (i : Int) < 64 := by omega
        have i2 : (i : Int) < ((64 : Nat) : Int) := by omega
        have HIL : Hid (i < 64) := zh hlt
        obtain ⟨y, hy⟩ := zX (W i)
        have hy8 : y < 256 := hy ▸ HW8.out i
        have ck := HX.out.m.k.val hlt hy
        have x1 : bits .xor .u8 (y : Nat) 54 = ((y ^^^ 54 : Nat) : Int) := u8_xor_nat y 54 hy8 (by decide)
        have x2 : bits .xor .u8 (y : Nat) 92 = ((y ^^^ 92 : Nat) : Int) := u8_xor_nat y 92 hy8 (by decide)
        obtain ⟨p, hp⟩ := zX (y ^^^ 54)
        obtain ⟨q, hq⟩ := zX (y ^^^ 92)
        rw [hp] at x1
        rw [hq] at x2
        have HPQ : Hid (p < 256 ∧ q < 256 ∧ W i ^^^ 54 = p ∧ W i ^^^ 92 = q) := zh ⟨hp ▸ xor8 hy8 (by decide), hq ▸ xor8 hy8 (by decide), by rw [hy]; exact hp, by rw [hy]; exact hq⟩
        have HA : Hid (MB w i i W va vb (wr.alloc (.cells #[.int .u8 (p : Nat)] 5))) := zh (HX.out.later (zA))
        have HYY : Hid (W i = y) := zh hy
        clear hy hy8 hp hq hi hlt
        go_wp2_with (first
          | (refine wpList_appO rfl (.tmp 27) (.tmp 33) rfl (w.heap.size + 2) va i 1 1 (some ⟨wr.heap.size, 0, none⟩) (xoK W 54) (fun _ => p) (wr.alloc (.cells #[.int .u8 (p : Nat)] 5)) rfl HA.out.m.a rfl (fun h => by cases h) (one_u8 rfl HPQ.out.1) (by have := HIL.out; omega) HA.out.m.s ?_; intro v6 w6 hG6 hg6 hob6; have H6 : Hid (MB w (i + 1) i W v6 vb w6) := zh (HA.out.growA hg6 (hG6.congr (xo_step HPQ.out.2.2.1)) hob6); have ck2 := H6.out.m.k.val HIL.out HYY.out; have HB : Hid (MB w (i + 1) i W v6 vb (w6.alloc (.cells #[.int .u8 (q : Nat)] 5))) := zh (H6.out.later (zA)); clear hG6 hg6 hob6 HA HX ck x1)
          | (refine wpList_appO rfl (.tmp 35) (.tmp 41) rfl (w.heap.size + 2) vb i 1 1 (some ⟨w6.heap.size, 0, none⟩) (xoK W 92) (fun _ => q) (w6.alloc (.cells #[.int .u8 (q : Nat)] 5)) rfl HB.out.b rfl (fun h => by cases h) (one_u8 rfl HPQ.out.2.1) (by have := HIL.out; omega) HB.out.m.s ?_; intro v7 w7 hG7 hg7 hob7; have H7 : Hid (MB w (i + 1) (i + 1) W v6 v7 w7) := zh (HB.out.growB hg7 (hG7.congr (xo_step HPQ.out.2.2.2)) hob7); clear hG7 hg7 hob7 HB H6 ck2 x2))
        have h64 := HIL.out
        go_roundw
        case rel => exact ⟨i + 1, _, _, by omega, by go_num, rfl, rfl, H7.out⟩
        case measure => simp [intOf] <;> omega
      · obtain rfl : i = 64 := by omega
        rw [show ((64 : Nat) : Int) = 64 from rfl]
        clear hi hlt
        have hz := zero32_run
        go_wp2_with (first
          | (refine wpList_appO rfl (.tmp 43) (.tmp 44) rfl (w.heap.size + 2) va 64 m cm ob (xoK W 54) G wr rfl HX.out.m.a rfl HMO.out (HGB.out _ HX.out.m.o) (by have := HNN.out; omega) HX.out.m.s ?_; intro v6 w6 hG6 hg6 hob6))
        have H6 : Hid (RB 22 32 w.heap.size (fun _ => 0) w6 ∧ Grow w6 (w.heap.size + 2) vb 64 (xoK W 92) ∧ Below w.heap.size w w6 ∧ w.heap.size + 2 ≤ w6.heap.size) := zh (by
          have hX := HX.out
          have hO := own_of_grown hg6
          have hge := own_ge hX.m.a hX.m.s
          exact ⟨hO.blk hX.m.r (by omega), hX.b.ownN hO fun k hk => ne_own (hX.b.lt k hk).2 fun e => hX.n k e hk, hX.m.o.trans (hO.below (by omega) hX.m.o.size), Nat.le_trans hX.m.s hg6.size⟩)
        obtain ⟨o6, c6, hv6, hB6, hc6, hn6⟩ := hG6.bytesC (by
          intro i hi
          unfold catF
          by_cases e : i < 64
          · rw [if_pos e]; exact xor8 (HW8.out i) (by decide)
          · rw [if_neg e]; exact ((HGB.out _ (Below.refl _ w)) _ (by omega)).1)
        subst hv6
        refine (rsum_any o6 (64 + m) c6 _ w6 hB6 hn6 (by have := HNN.out; omega)).mono ?_
        rintro e w7 ⟨rfl, hb7⟩
        rw [HD1.out]
        obtain ⟨CD, hCD⟩ := zX ((rowC 32 D1).toArray)
        have HI : Hid ((Tryz.prog.info? 22).map (·.size) = some CD.size) := zh (hCD ▸ info27 _)
        have HI1 : Hid (CD.all (·.oneCell') = true) := zh (hCD ▸ one32 _)
        obtain ⟨g1, hg1⟩ := zX w7.heap.size
        obtain ⟨wc, hwc⟩ := zX (w7.alloc (.cells zero32 22))
        obtain ⟨w8, hw8⟩ := zX (wc.setCells g1 0 CD.toList)
        have hl := lay32 w7 D1 hCD
        rw [hg1, hwc, hw8] at hl
        have HTH := zh hl.2.2
        have H8 : Hid (RB 22 32 w.heap.size (fun _ => 0) w8 ∧ Grow w8 (w.heap.size + 2) vb 64 (xoK W 92) ∧ Below w.heap.size w w8 ∧ w.heap.size + 2 ≤ w8.heap.size ∧ Bytes w8 (some ⟨g1, 0, none⟩) 32 D1) := zh (by
          obtain ⟨a1, a2, a3, a4⟩ := H6.out
          have h3 : Below w6.heap.size w6 w8 := hb7.trans (hl.2.1.mono (by rw [← hg1]; exact hb7.size))
          have := h3.size
          exact ⟨Blk.below a1 h3 (Blk.lt a1), a2.later h3, a3.trans (h3.mono a3.size), by omega, RB.bytes hl.1 fun i _ => by rw [← HD1.out]; exact shaN_lt _ _ _⟩)
        rw [hCD]
        clear hl hb7 hCD H6 HX hG6 hg6 hob6 hB6 hc6 hn6
        go_wp2_with (first
          | (refine wpList_store_mid rfl 22 (.tmp 10) (.tmp 46) rfl g1 0 CD rfl rfl HTH.out HI.out HI1.out ?_; rw [hw8])
          | (refine wpList_appO rfl (.tmp 47) (.tmp 48) rfl (w.heap.size + 2) vb 64 32 32 (some ⟨g1, 0, none⟩) (xoK W 92) D1 w8 rfl H8.out.2.1 rfl (fun h => by cases h) H8.out.2.2.2.2 (by decide) H8.out.2.2.2.1 ?_; intro v9 w9 hG9 hg9 hob9))
        have H9 : Hid (RB 22 32 w.heap.size (fun _ => 0) w9 ∧ Below w.heap.size w w9) := zh (by
          obtain ⟨a1, a2, a3, a4, _⟩ := H8.out
          have hO := own_of_grown hg9
          have hge := own_ge a2 a4
          exact ⟨hO.blk a1 (by omega), a3.trans (hO.below (by omega) a3.size)⟩)
        obtain ⟨o9, c9, hv9, hB9, hc9, hn9⟩ := hG9.bytesC (by
          intro i hi
          unfold catF
          by_cases e : i < 64
          · rw [if_pos e]; exact xor8 (HW8.out i) (by decide)
          · rw [if_neg e, ← HD1.out]; exact shaN_lt _ _ _)
        subst hv9
        clear hw8 hwc hg1 HTH H8 hG9 hg9 hob9 hz HI HI1
        refine (rsum_any o9 (64 + 32) c9 _ w9 hB9 hn9 (by decide)).mono ?_
        rintro e w10 ⟨rfl, hb10⟩
        have HMX : Hid (shaN (64 + 32) (catF 64 (xoK W 92) D1) = M) := zh (by rw [← HMM.out, ← HD1.out]; rfl)
        rw [HMX.out, HCM.out]
        have hR : RB 22 32 w.heap.size (fun _ => 0) w10 := Blk.below H9.out.1 hb10 (Blk.lt H9.out.1)
        have hO := H9.out.2.trans (hb10.mono H9.out.2.size)
        have HN : Hid (Blk (w10.setCells w.heap.size 0 CM.toList) w.heap.size CM 22) := zh (by rw [← HCM.out]; exact Blk.setCells hR (rowC 32 M) (by rw [rowC_size, rowC_len]))
        have HO : Hid (Below w.heap.size w (w10.setCells w.heap.size 0 CM.toList)) := zh (hO.trans ((Own.setCells _ 0 w10).below (Nat.le_refl _) hO.size))
        have HTH : Hid (w10.there w.heap.size 0 CM.size) := zh (by rw [← HCM.out]; exact Blk.there hR (by rw [rowC_size, rowC_size]; exact Nat.le_refl _))
        clear hR hO hb10 H9 hB9 hc9 hn9 HMX
        go_wp2_with (first
          | (refine wpList_store_mid rfl 22 (.tmp 4) (.tmp 50) rfl w.heap.size 0 CM rfl rfl HTH.out HJ.out HJ1.out ?_))
        refine bodyPost_ret (v := .agg CM) ?_ rfl ⟨rfl, HO.out⟩
        exact results_cell_row Tryz.results33 _ _ w.heap.size 22 CM (0, 0) _ rfl HN.out Tryz.underlying22 rfl HJ.out
set_option maxRecDepth 512
set_option maxHeartbeats 200000
structure PS (w0 : World) (k gi go : Nat) (W : Nat → Nat) (m : Nat) (G : Nat → Nat) (wr : World) : Prop where
 h : KH wr k gi go W m G
 o : Below w0.heap.size w0 wr
 v : GV wr
 r : RB 22 32 w0.heap.size (fun _ => 0) wr
 n : w0.heap.size < gi
theorem PS.later {w0 : World} {k gi go m : Nat} {W G : Nat → Nat} {wr w' : World} (h : PS w0 k gi go W m G wr) (hb : Below wr.heap.size wr w') : PS w0 k gi go W m G w' :=
 ⟨h.h.later hb, h.o.trans (hb.mono h.o.size), h.v.later hb, Blk.below h.r hb (Blk.lt h.r), h.n⟩
structure JG (w0 : World) (v : Value) (n : Nat) (f : Nat → Nat) (w : World) : Prop where
 g : Grow w w0.heap.size v n f
 o : Below w0.heap.size w0 w
theorem JG.later {w0 w w' : World} {v : Value} {n : Nat} {f : Nat → Nat} (h : JG w0 v n f w) (hb : Below w.heap.size w w') : JG w0 v n f w' := ⟨h.g.later hb, h.o.trans (hb.mono h.o.size)⟩
theorem JG.grew {w0 w w' : World} {v v' : Value} {n n' : Nat} {f f' : Nat → Nat} (h : JG w0 v n f w) (hg : w.grownBy w' v.ownBlock) (hG : Grow w' w0.heap.size v' n' f') : JG w0 v' n' f' w' := ⟨hG, h.o.trans (grow_bel h.g h.o.size hg)⟩
theorem catF_b {n m : Nat} {f g : Nat → Nat} (hf : ∀ i, i < n → f i < 256) (hg : ∀ i, i < m → g i < 256) : ∀ i, i < n + m → catF n f g i < 256 := fun i hi => by
 unfold catF
 by_cases e : i < n
 ·rw [if_pos e]; exact hf i e
 ·rw [if_neg e]; exact hg _ (by omega)
end Go.Proofs.YtncfocjmdecapaaGreatDoor
