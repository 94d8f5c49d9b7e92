/- Part of the proof: what stands here serves the walks of the functions that the statement calls. -/
import Derived.Test.YtncfocjmdecapaaGreatDoorY22
namespace Go.Proofs.YtncfocjmdecapaaGreatDoor
set_option linter.unusedVariables false
set_option linter.unusedSimpArgs false
open Go.RowKit
set_option maxRecDepth 100000
set_option maxHeartbeats 8000000
def HS1 (w0 : World) (D F : Array Value) (v : Value) (wr : World) : Prop := ∃ g, v = .pointer (some ⟨g, 0, none⟩) ∧ w0.heap.size + 1 < g ∧ Blk wr g F 72 ∧ Blk wr w0.heap.size D 72 ∧ Blk wr (w0.heap.size + 1) zero16 72 ∧ Below w0.heap.size w0 wr
def HG1 (wc : World) (F : Nat → Nat) (k : Nat) (v : Value) (wr : World) : Prop := Grow wr wc.heap.size v k F ∧ Below wc.heap.size wc wr
theorem HG1.next {wc wr w' : World} {F : Nat → Nat} {k y : Nat} {v v' : Value} {z : Int} (h : HG1 wc F k v wr) (hy : y = F k)
  (hG : Grow w' wc.heap.size v' (k + 1) (catF k F (fun _ => y))) (hg : (wr.alloc (.cells #[.int .u8 z] 5)).grownBy w' v.ownBlock) : HG1 wc F (k + 1) v' w' := by
 refine ⟨hG.congr (catF_self fun i hi => by obtain rfl : i = 0 := (by omega); exact hy), ?_⟩
 have h1 : Below wc.heap.size wc (wr.alloc (.cells #[.int .u8 z] 5)) := h.2.alloc h.2.size _
 exact h1.grown hg h1.size (Grow.block h.1)
theorem hash_last (y f : Nat → Nat) (n : Nat) (g : Nat → Nat) (m : Nat) : thrF y (blkF (n * 8) (m * 8)) 16 (twoF y f n g m) ((16 + 15) / 16) = hashF y f n g m := by
 show mulF (addF (twoF y f n g m) (chF (blkF (n * 8) (m * 8)) 16 0)) y = mulF (addF (twoF y f n g m) (blkF (n * 8) (m * 8))) y
 rw [mulF_P, mulF_P]
 have e : wF (addF (twoF y f n g m) (chF (blkF (n * 8) (m * 8)) 16 0)) = wF (addF (twoF y f n g m) (blkF (n * 8) (m * 8))) := w_congr fun i hi => by
  show twoF y f n g m i ^^^ (if 16 * 0 + i < 16 then blkF (n * 8) (m * 8) (16 * 0 + i) else 0) = twoF y f n g m i ^^^ blkF (n * 8) (m * 8) i
  rw [if_pos (by omega), Nat.mul_zero, Nat.zero_add]
 rw [e]
theorem rhash_any (y f g : Nat → Nat) (oa ob : Option Addr) (n m cn cm : Nat) (w : World) (hy : ∀ i, i < 16 → y i < 256) (ha : Bytes w oa n f) (hb : Bytes w ob m g) (hn : n < 1000000) (hm : m < 1000000) :
  Calls Tryz.prog 71 #[.agg (rowC 16 y).toArray, .slice oa n cn, .slice ob m cm] w fun e w' => e = .returned (.agg (rowC 16 (hashF y f n g m)).toArray) ∧ Below w.heap.size w w' := by
 have hz := zero16a_run
 obtain ⟨D, hD⟩ := zX ((rowC 16 y).toArray)
 obtain ⟨T1, hT1⟩ := zX ((rowC 16 (thrF y f n (fun _ => 0) ((n + 15) / 16))).toArray)
 obtain ⟨T2, hT2⟩ := zX ((rowC 16 (twoF y f n g m)).toArray)
 obtain ⟨M, hM⟩ := zX ((rowC 16 (hashF y f n g m)).toArray)
 have hl0 : ∀ i, i < 16 → (fun _ => 0 : Nat → Nat) i < 256 := fun _ _ => Nat.zero_lt_succ _
 have HTH1 : Hid (∀ w', Below w.heap.size w w' → Calls Tryz.prog 86 #[.agg zero16, .agg D, .slice oa n cn] w' fun e w'' => e = .returned (.agg T1) ∧ Below w'.heap.size w' w'') := zh fun w' hb' => by
  rw [← hD, ← hT1]; exact take_any (fun _ => 0) y f oa n cn w' hl0 hy (ha.later hb') hn
 have HTH2 : Hid (∀ w', Below w.heap.size w w' → Calls Tryz.prog 86 #[.agg T1, .agg D, .slice ob m cm] w' fun e w'' => e = .returned (.agg T2) ∧ Below w'.heap.size w' w'') := zh fun w' hb' => by
  rw [← hD, ← hT1, ← hT2]; exact take_any _ y g ob m cm w' (thrF_lt hl0 _) hy (hb.later hb') hm
 have HTH3 : Hid (∀ w' oc cc, Bytes w' oc 16 (blkF (n * 8) (m * 8)) → Calls Tryz.prog 86 #[.agg T2, .agg D, .slice oc 16 cc] w' fun e w'' => e = .returned (.agg M) ∧ Below w'.heap.size w' w'') := zh fun w' oc cc hb' => by
  rw [← hD, ← hT2, ← hM, ← hash_last]; exact take_any _ y _ oc 16 cc w' (thrF_lt (thrF_lt hl0 _) _) hy hb' (by decide)
 have HID : Hid ((Tryz.prog.info? 72).map (·.size) = some D.size) := zh (hD ▸ info16a _)
 have HFC : Hid (∃ f, T2 = (rowC 16 f).toArray) := zh ⟨_, hT2.symm⟩
 have HDC : Hid (∃ f, D = (rowC 16 f).toArray) := zh ⟨_, hD.symm⟩
 have HMC : Hid (∃ f, M = (rowC 16 f).toArray) := zh ⟨_, hM.symm⟩
 have HZC : Hid (∃ f, zero16 = (rowC 16 f).toArray) := zh ⟨_, rfl⟩
 have HM := zh hM
 have n0 : (0 : Int) ≤ (n : Int) := by omega
 have n1 : (n : Int) < 1000000 := by omega
 have m0 : (0 : Int) ≤ (m : Int) := by omega
 have m1 : (m : Int) < 1000000 := by omega
 rw [hD]
 clear hy ha hb hD hT1 hT2 hM hl0
 go_enter Tryz.func71, Tryz.ntmps71
 go_upto_region 1 with fail
 obtain ⟨w0, hw0⟩ := zX ((w.alloc (.cells D 72)).alloc (.cells zero16 72))
 have B0 : Blk w0 w.heap.size D 72 := by rw [← hw0]; exact (Blk.new w _ 72).alloc _
 have B1 : Blk w0 (w.heap.size + 1) zero16 72 := by rw [← hw0]; simpa using Blk.new (w.alloc (.cells D 72)) zero16 72
 have O : Below w.heap.size w w0 := by rw [← hw0]; exact (zA).alloc (by simp) _
 rw [hw0]
 clear hw0
 go_cut [7] (HS1 w D T2)
 case first =>
  have hS_0 : SA [(w.heap.size, D)] w0.drew := SA.cons B0.drew (SA.nil _)
  have hZ_0 : Blk w0.drew (w.heap.size + 1) zero16 72 := B1.drew
  have hO_0 : Below w.heap.size w w0.drew := O.drew
  clear B0 B1 O
  refine wp_region_held_drew (S := (SA [(w.heap.size, D)])) (by kernel_rfl) ?_ (fun hHeld => ?_)
  ·(try dsimp only)
   first | assumption | (apply SA.drew; assumption)
  generalize w0.drew = W0 at *
  refine wT 0 ?_ rfl ?_ ?_
  rotate_left
  ·intro wS hSw
   refine exec_builda (C := zero16) (parts := #[]) (ps := #[]) ?_ ?_ build_nonea <;> first | rfl | simp
  (try simp only [Act.put, zS])
  refine wT 1 ?_ rfl ?_ ?_
  rotate_left
  ·intro wS hSw
   refine exec_load16a (x := .tmp 3) ?_ ?_ (ld16a hSw.h0 HID.out) <;> rfl
  (try simp only [Act.put, zS])
  refine wT 2 ?_ rfl ?_ ?_
  rotate_left
  ·intro wS hSw
   (try dsimp only at hSw)
   go_simp
   (try with_reducible rfl)
  (try simp only [Act.put, zS])
  refine wT 4 ?_ rfl ?_ ?_
  rotate_left
  ·intro wS hSw
   refine exec_load16a (x := .tmp 3) ?_ ?_ (ld16a hSw.h0 HID.out) <;> rfl
  (try simp only [Act.put, zS])
  refine wT 5 ?_ rfl ?_ ?_
  rotate_left
  ·intro wS hSw
   (try dsimp only at hSw)
   go_simp
   (try with_reducible rfl)
  (try simp only [Act.put, zS])
  refine wR [3, 7] ?_
  refine aC rfl (fun K hK => ?_) ?_
  ·skip
   go_simp
   (refine (HTH1.out _ hO_0).mono ?_; rintro e v_1 ⟨rfl, hb_1⟩; have hS_1 := SA.later hS_0 hb_1; have hZ_1 := Blk.below hZ_0 hb_1 (Blk.lt hZ_0); have hO_1 := Below.trans hO_0 (hb_1.mono hO_0.size); clear hS_0 hZ_0 hO_0; clear hb_1; skip)
   (try go_wp2_with fail)
   refine hK.out _ _ ?_ fun hHeld => ?_
   ·(try dsimp only)
    first | assumption | (apply SA.drew; assumption)
   clear hK K
   (try simp only [Act.put, zS])
   refine wR [6, 7] ?_
   refine aC rfl (fun K hK => ?_) ?_
   ·skip
    go_simp
    (refine (HTH2.out _ hO_1).mono ?_; rintro e v_2 ⟨rfl, hb_2⟩; have hS_2 := SA.later hS_1 hb_2; have hZ_2 := Blk.below hZ_1 hb_2 (Blk.lt hZ_1); have hO_2 := Below.trans hO_1 (hb_2.mono hO_1.size); clear hS_1 hZ_1 hO_1; clear hb_2; skip)
    (try go_wp2_with fail)
    refine hK.out _ _ ?_ fun hHeld => ?_
    ·(try dsimp only)
     first | assumption | (apply SA.drew; assumption)
    clear hK K
    (try simp only [Act.put, zS])
    refine wR [7] ?_
    refine aN rfl fun K hK => ?_
    go_simp
    (obtain ⟨v_3, hw_3⟩ := zX (v_2.alloc (.cells zero16 72)); rw [hw_3]; have hb_3 : Below v_2.heap.size v_2 v_3 := (by rw [← hw_3]; exact zA); have hS_3 := SA.later hS_2 hb_3; have hZ_3 := Blk.below hZ_2 hb_3 (Blk.lt hZ_2); have hO_3 := Below.trans hO_2 (hb_3.mono hO_2.size); have hG_3 : Blk v_3 v_2.heap.size zero16 72 := (by rw [← hw_3]; exact Blk.new _ _ _); have HGL := zh (show w.heap.size + 1 < v_2.heap.size from Blk.lt hZ_2); clear hS_2 hZ_2 hO_2; clear hb_3 hw_3; skip)
    (try go_wp2_with fail)
    refine hK.out _ _ ?_ fun hHeld => ?_
    ·(try dsimp only)
     first | assumption | (apply SA.drew; assumption)
    clear hK K
    (try simp only [Act.put, zS])
    refine wR [8] ?_
    refine aN rfl fun K hK => ?_
    (refine step_store16a rfl (.tmp 7) (.tmp 17) rfl v_2.heap.size rfl T2 zero16 rfl hG_3 HFC.out HZC.out ?_; have hG_4 := Blk.store16a hG_3 HFC.out HZC.out; have hS_4 := SA.set hS_3 (zh (show ∀ p ∈ [(w.heap.size, D)], p.1 ≠ v_2.heap.size by have h7 := HGL.out; intro p hp; rcases List.mem_cons.1 hp with rfl | hp; (show w.heap.size ≠ _; omega); cases hp)).out T2.toList; have hZ_4 := (Own.setCells T2.toList 0 v_3).blk hZ_3 (zh (show w.heap.size + 1 ≠ v_2.heap.size by have h7 := HGL.out; omega)).out; have hO_4 := Below.set16 (g := v_2.heap.size) hO_3 (by have h7 := HGL.out; omega) hO_3.size T2.toList; obtain ⟨v_4, hw_4⟩ := zX (v_3.setCells v_2.heap.size 0 T2.toList); rw [hw_4] at hG_4 hS_4 hZ_4 hO_4 ⊢; clear hG_3 hS_3 hZ_3 hO_3 hw_4; skip)
    refine hK.out _ _ ?_ fun hHeld => ?_
    ·(try dsimp only)
     first | assumption | (apply SA.drew; assumption)
    clear hK K
    (try simp only [Act.put, zS])
    refine wpAnyH_done (by kernel_rfl) ?_ _
    go_wp2_with fail
    go_meet
    exact ⟨_, rfl, HGL.out, hG_4, hS_4.h0, hZ_4, hO_4⟩
   refine aN rfl fun K hK => ?_
   go_simp
   (obtain ⟨v_5, hw_5⟩ := zX (v_1.alloc (.cells zero16 72)); rw [hw_5]; have hb_5 : Below v_1.heap.size v_1 v_5 := (by rw [← hw_5]; exact zA); have hS_5 := SA.later hS_1 hb_5; have hZ_5 := Blk.below hZ_1 hb_5 (Blk.lt hZ_1); have hO_5 := Below.trans hO_1 (hb_5.mono hO_1.size); have hG_5 : Blk v_5 v_1.heap.size zero16 72 := (by rw [← hw_5]; exact Blk.new _ _ _); have HGL := zh (show w.heap.size + 1 < v_1.heap.size from Blk.lt hZ_1); clear hS_1 hZ_1 hO_1; clear hb_5 hw_5; skip)
   (try go_wp2_with fail)
   refine hK.out _ _ ?_ fun hHeld => ?_
   ·(try dsimp only)
    first | assumption | (apply SA.drew; assumption)
   clear hK K
   (try simp only [Act.put, zS])
   refine wR [6] ?_
   refine aN rfl fun K hK => ?_
   go_simp
   (refine (HTH2.out _ hO_5).mono ?_; rintro e v_6 ⟨rfl, hb_6⟩; have hS_6 := SA.later hS_5 hb_6; have hZ_6 := Blk.below hZ_5 hb_6 (Blk.lt hZ_5); have hG_6 := Blk.below hG_5 hb_6 (Blk.lt hG_5); have hO_6 := Below.trans hO_5 (hb_6.mono hO_5.size); clear hS_5 hZ_5 hG_5 hO_5; clear hb_6; skip)
   (try go_wp2_with fail)
   refine hK.out _ _ ?_ fun hHeld => ?_
   ·(try dsimp only)
    first | assumption | (apply SA.drew; assumption)
   clear hK K
   (try simp only [Act.put, zS])
   refine wR [8] ?_
   refine aN rfl fun K hK => ?_
   (refine step_store16a rfl (.tmp 7) (.tmp 17) rfl v_1.heap.size rfl T2 zero16 rfl hG_6 HFC.out HZC.out ?_; have hG_7 := Blk.store16a hG_6 HFC.out HZC.out; have hS_7 := SA.set hS_6 (zh (show ∀ p ∈ [(w.heap.size, D)], p.1 ≠ v_1.heap.size by have h7 := HGL.out; intro p hp; rcases List.mem_cons.1 hp with rfl | hp; (show w.heap.size ≠ _; omega); cases hp)).out T2.toList; have hZ_7 := (Own.setCells T2.toList 0 v_6).blk hZ_6 (zh (show w.heap.size + 1 ≠ v_1.heap.size by have h7 := HGL.out; omega)).out; have hO_7 := Below.set16 (g := v_1.heap.size) hO_6 (by have h7 := HGL.out; omega) hO_6.size T2.toList; obtain ⟨v_7, hw_7⟩ := zX (v_6.setCells v_1.heap.size 0 T2.toList); rw [hw_7] at hG_7 hS_7 hZ_7 hO_7 ⊢; clear hG_6 hS_6 hZ_6 hO_6 hw_7; skip)
   refine hK.out _ _ ?_ fun hHeld => ?_
   ·(try dsimp only)
    first | assumption | (apply SA.drew; assumption)
   clear hK K
   (try simp only [Act.put, zS])
   refine wpAnyH_done (by kernel_rfl) ?_ _
   go_wp2_with fail
   go_meet
   exact ⟨_, rfl, HGL.out, hG_7, hS_7.h0, hZ_7, hO_7⟩
  refine aN rfl fun K hK => ?_
  go_simp
  (obtain ⟨v_8, hw_8⟩ := zX (W0.alloc (.cells zero16 72)); rw [hw_8]; have hb_8 : Below W0.heap.size W0 v_8 := (by rw [← hw_8]; exact zA); have hS_8 := SA.later hS_0 hb_8; have hZ_8 := Blk.below hZ_0 hb_8 (Blk.lt hZ_0); have hO_8 := Below.trans hO_0 (hb_8.mono hO_0.size); have hG_8 : Blk v_8 W0.heap.size zero16 72 := (by rw [← hw_8]; exact Blk.new _ _ _); have HGL := zh (show w.heap.size + 1 < W0.heap.size from Blk.lt hZ_0); clear hS_0 hZ_0 hO_0; clear hb_8 hw_8; skip)
  (try go_wp2_with fail)
  refine hK.out _ _ ?_ fun hHeld => ?_
  ·(try dsimp only)
   first | assumption | (apply SA.drew; assumption)
  clear hK K
  (try simp only [Act.put, zS])
  refine wR [3] ?_
  refine aN rfl fun K hK => ?_
  go_simp
  (refine (HTH1.out _ hO_8).mono ?_; rintro e v_9 ⟨rfl, hb_9⟩; have hS_9 := SA.later hS_8 hb_9; have hZ_9 := Blk.below hZ_8 hb_9 (Blk.lt hZ_8); have hG_9 := Blk.below hG_8 hb_9 (Blk.lt hG_8); have hO_9 := Below.trans hO_8 (hb_9.mono hO_8.size); clear hS_8 hZ_8 hG_8 hO_8; clear hb_9; skip)
  (try go_wp2_with fail)
  refine hK.out _ _ ?_ fun hHeld => ?_
  ·(try dsimp only)
   first | assumption | (apply SA.drew; assumption)
  clear hK K
  (try simp only [Act.put, zS])
  refine wR [6] ?_
  refine aN rfl fun K hK => ?_
  go_simp
  (refine (HTH2.out _ hO_9).mono ?_; rintro e v_10 ⟨rfl, hb_10⟩; have hS_10 := SA.later hS_9 hb_10; have hZ_10 := Blk.below hZ_9 hb_10 (Blk.lt hZ_9); have hG_10 := Blk.below hG_9 hb_10 (Blk.lt hG_9); have hO_10 := Below.trans hO_9 (hb_10.mono hO_9.size); clear hS_9 hZ_9 hG_9 hO_9; clear hb_10; skip)
  (try go_wp2_with fail)
  refine hK.out _ _ ?_ fun hHeld => ?_
  ·(try dsimp only)
   first | assumption | (apply SA.drew; assumption)
  clear hK K
  (try simp only [Act.put, zS])
  refine wR [8] ?_
  refine aN rfl fun K hK => ?_
  (refine step_store16a rfl (.tmp 7) (.tmp 17) rfl W0.heap.size rfl T2 zero16 rfl hG_10 HFC.out HZC.out ?_; have hG_11 := Blk.store16a hG_10 HFC.out HZC.out; have hS_11 := SA.set hS_10 (zh (show ∀ p ∈ [(w.heap.size, D)], p.1 ≠ W0.heap.size by have h7 := HGL.out; intro p hp; rcases List.mem_cons.1 hp with rfl | hp; (show w.heap.size ≠ _; omega); cases hp)).out T2.toList; have hZ_11 := (Own.setCells T2.toList 0 v_10).blk hZ_10 (zh (show w.heap.size + 1 ≠ W0.heap.size by have h7 := HGL.out; omega)).out; have hO_11 := Below.set16 (g := W0.heap.size) hO_10 (by have h7 := HGL.out; omega) hO_10.size T2.toList; obtain ⟨v_11, hw_11⟩ := zX (v_10.setCells W0.heap.size 0 T2.toList); rw [hw_11] at hG_11 hS_11 hZ_11 hO_11 ⊢; clear hG_10 hS_10 hZ_10 hO_10 hw_11; skip)
  refine hK.out _ _ ?_ fun hHeld => ?_
  ·(try dsimp only)
   first | assumption | (apply SA.drew; assumption)
  clear hK K
  (try simp only [Act.put, zS])
  refine wpAnyH_done (by kernel_rfl) ?_ _
  go_wp2_with fail
  go_meet
  exact ⟨_, rfl, HGL.out, hG_11, hS_11.h0, hZ_11, hO_11⟩
 case rest =>
  clear hz
  obtain ⟨q, rfl, hq, hF, hDD, hZ, hO⟩ := hcut
  have HF := zh hF
  have HDD := zh hDD
  have HZ := zh hZ
  have HO := zh hO
  have HQ := zh hq
  clear hF hDD hZ hO hq
  generalize he8 : (8 : Int) * (n : Int) = a8
  generalize hf8 : (8 : Int) * (m : Int) = b8
  have HA8 : Hid (∀ k, k < 8 → IntKind.u8.wrap (a8 / (2 : Int) ^ (56 - 8 * k)) = ((blkF (n * 8) (m * 8) k : Nat) : Int)) := zh fun k hk => by
   have h1 := numB_shift (n * 8) k hk
   rw [show ((n * 8 : Nat) : Int) = a8 by omega] at h1
   rw [h1]; unfold blkF; rw [if_pos hk]
  have HB8 : Hid (∀ k, k < 8 → IntKind.u8.wrap (b8 / (2 : Int) ^ (56 - 8 * k)) = ((blkF (n * 8) (m * 8) (8 + k) : Nat) : Int)) := zh fun k hk => by
   have h1 := numB_shift (m * 8) k hk
   rw [show ((m * 8 : Nat) : Int) = b8 by omega] at h1
   rw [h1]; unfold blkF; rw [if_neg (by omega), show 8 + k - 8 = k by omega]
  have HFL : Hid (∀ i, blkF (n * 8) (m * 8) i < 256) := zh (blkF_lt _ _)
  obtain ⟨G, hG⟩ := zX (blkF (n * 8) (m * 8))
  rw [hG] at HA8 HB8 HFL HTH3
  clear hG
  have HT0 : Hid (HG1 wc G 0 (.slice none 0 0) wc) := zh ⟨Grow.nil _ _ _, Below.refl _ _⟩
  go_wp2_with fail
  go_loopw [8, 9] (fun v i wr => ∃ (k : Nat) (z : Int), k ≤ 8 ∧ z = 56 - 8 * (k : Int) ∧ i = .int .i64 z ∧ HG1 wc G k v wr) (fun _ i _ => (intOf i + 8).toNat)
  case atStart => exact ⟨0, 56, by omega, rfl, rfl, HT0.out⟩
  case round =>
   clear HT0
   obtain ⟨k, z, hk, hz, rfl, hT⟩ := hrel
   have HT := zh hT
   clear hT
   rcases (show k = 0 ∨ k = 1 ∨ k = 2 ∨ k = 3 ∨ k = 4 ∨ k = 5 ∨ k = 6 ∨ k = 7 ∨ k = 8 by omega) with rfl | rfl | rfl | rfl | rfl | rfl | rfl | rfl | rfl
   ·obtain rfl : z = 56 := by omega
    have hcv : IntKind.u8.wrap (a8 / 72057594037927936) = ((G 0 : Nat) : Int) := by have := HA8.out 0 (by decide); simpa using this
    have HFk := zh (HFL.out 0)
    have HGk : Hid (G 0 = G 0) := zh rfl
    obtain ⟨u, hu⟩ := zX (G 0)
    rw [hu] at hcv HFk
    have HU := zh hu.symm
    clear hu HGk hk hz
    have HGr := zh (Grow.later HT.out.1 ((Below.refl _ wr).alloc (Nat.le_refl _) (.cells #[.int .u8 (u : Int)] 5)))
    have HB1 := zh (ob1 (w := wr) (z := (u : Int)) rfl HFk.out)
    have HLt : Hid (wc.heap.size ≤ (wr.alloc (.cells #[.int .u8 (u : Int)] 5)).heap.size) := zh (HT.out.2.alloc HT.out.2.size _).size
    go_wp2_with (at_builtin; refine wpList_appO rfl (.tmp 22) (.tmp 31) rfl wc.heap.size _ 0 1 1 (some ⟨wr.heap.size, 0, none⟩) G (fun _ => u) _ rfl HGr.out rfl (fun e => by cases e) HB1.out (by decide) HLt.out ?_)
    intro v3 w3 hG3 hg3 hat3
    have HN := zh (HG1.next HT.out HU.out hG3 hg3)
    clear hG3 hg3 hat3 HGr HB1 HLt hcv
    go_wp2_with fail
    go_roundw
    case rel => exact ⟨1, 48, by decide, by decide, rfl, HN.out⟩
    case measure => simp [intOf]
   ·obtain rfl : z = 48 := by omega
    have hcv : IntKind.u8.wrap (a8 / 281474976710656) = ((G 1 : Nat) : Int) := by have := HA8.out 1 (by decide); simpa using this
    have HFk := zh (HFL.out 1)
    have HGk : Hid (G 1 = G 1) := zh rfl
    obtain ⟨u, hu⟩ := zX (G 1)
    rw [hu] at hcv HFk
    have HU := zh hu.symm
    clear hu HGk hk hz
    have HGr := zh (Grow.later HT.out.1 ((Below.refl _ wr).alloc (Nat.le_refl _) (.cells #[.int .u8 (u : Int)] 5)))
    have HB1 := zh (ob1 (w := wr) (z := (u : Int)) rfl HFk.out)
    have HLt : Hid (wc.heap.size ≤ (wr.alloc (.cells #[.int .u8 (u : Int)] 5)).heap.size) := zh (HT.out.2.alloc HT.out.2.size _).size
    go_wp2_with (at_builtin; refine wpList_appO rfl (.tmp 22) (.tmp 31) rfl wc.heap.size _ 1 1 1 (some ⟨wr.heap.size, 0, none⟩) G (fun _ => u) _ rfl HGr.out rfl (fun e => by cases e) HB1.out (by decide) HLt.out ?_)
    intro v3 w3 hG3 hg3 hat3
    have HN := zh (HG1.next HT.out HU.out hG3 hg3)
    clear hG3 hg3 hat3 HGr HB1 HLt hcv
    go_wp2_with fail
    go_roundw
    case rel => exact ⟨2, 40, by decide, by decide, rfl, HN.out⟩
    case measure => simp [intOf]
   ·obtain rfl : z = 40 := by omega
    have hcv : IntKind.u8.wrap (a8 / 1099511627776) = ((G 2 : Nat) : Int) := by have := HA8.out 2 (by decide); simpa using this
    have HFk := zh (HFL.out 2)
    have HGk : Hid (G 2 = G 2) := zh rfl
    obtain ⟨u, hu⟩ := zX (G 2)
    rw [hu] at hcv HFk
    have HU := zh hu.symm
    clear hu HGk hk hz
    have HGr := zh (Grow.later HT.out.1 ((Below.refl _ wr).alloc (Nat.le_refl _) (.cells #[.int .u8 (u : Int)] 5)))
    have HB1 := zh (ob1 (w := wr) (z := (u : Int)) rfl HFk.out)
    have HLt : Hid (wc.heap.size ≤ (wr.alloc (.cells #[.int .u8 (u : Int)] 5)).heap.size) := zh (HT.out.2.alloc HT.out.2.size _).size
    go_wp2_with (at_builtin; refine wpList_appO rfl (.tmp 22) (.tmp 31) rfl wc.heap.size _ 2 1 1 (some ⟨wr.heap.size, 0, none⟩) G (fun _ => u) _ rfl HGr.out rfl (fun e => by cases e) HB1.out (by decide) HLt.out ?_)
    intro v3 w3 hG3 hg3 hat3
    have HN := zh (HG1.next HT.out HU.out hG3 hg3)
    clear hG3 hg3 hat3 HGr HB1 HLt hcv
    go_wp2_with fail
    go_roundw
    case rel => exact ⟨3, 32, by decide, by decide, rfl, HN.out⟩
    case measure => simp [intOf]
   ·obtain rfl : z = 32 := by omega
    have hcv : IntKind.u8.wrap (a8 / 4294967296) = ((G 3 : Nat) : Int) := by have := HA8.out 3 (by decide); simpa using this
    have HFk := zh (HFL.out 3)
    have HGk : Hid (G 3 = G 3) := zh rfl
    obtain ⟨u, hu⟩ := zX (G 3)
    rw [hu] at hcv HFk
    have HU := zh hu.symm
    clear hu HGk hk hz
    have HGr := zh (Grow.later HT.out.1 ((Below.refl _ wr).alloc (Nat.le_refl _) (.cells #[.int .u8 (u : Int)] 5)))
    have HB1 := zh (ob1 (w := wr) (z := (u : Int)) rfl HFk.out)
    have HLt : Hid (wc.heap.size ≤ (wr.alloc (.cells #[.int .u8 (u : Int)] 5)).heap.size) := zh (HT.out.2.alloc HT.out.2.size _).size
    go_wp2_with (at_builtin; refine wpList_appO rfl (.tmp 22) (.tmp 31) rfl wc.heap.size _ 3 1 1 (some ⟨wr.heap.size, 0, none⟩) G (fun _ => u) _ rfl HGr.out rfl (fun e => by cases e) HB1.out (by decide) HLt.out ?_)
    intro v3 w3 hG3 hg3 hat3
    have HN := zh (HG1.next HT.out HU.out hG3 hg3)
    clear hG3 hg3 hat3 HGr HB1 HLt hcv
    go_wp2_with fail
    go_roundw
    case rel => exact ⟨4, 24, by decide, by decide, rfl, HN.out⟩
    case measure => simp [intOf]
   ·obtain rfl : z = 24 := by omega
    have hcv : IntKind.u8.wrap (a8 / 16777216) = ((G 4 : Nat) : Int) := by have := HA8.out 4 (by decide); simpa using this
    have HFk := zh (HFL.out 4)
    have HGk : Hid (G 4 = G 4) := zh rfl
    obtain ⟨u, hu⟩ := zX (G 4)
    rw [hu] at hcv HFk
    have HU := zh hu.symm
    clear hu HGk hk hz
    have HGr := zh (Grow.later HT.out.1 ((Below.refl _ wr).alloc (Nat.le_refl _) (.cells #[.int .u8 (u : Int)] 5)))
    have HB1 := zh (ob1 (w := wr) (z := (u : Int)) rfl HFk.out)
    have HLt : Hid (wc.heap.size ≤ (wr.alloc (.cells #[.int .u8 (u : Int)] 5)).heap.size) := zh (HT.out.2.alloc HT.out.2.size _).size
    go_wp2_with (at_builtin; refine wpList_appO rfl (.tmp 22) (.tmp 31) rfl wc.heap.size _ 4 1 1 (some ⟨wr.heap.size, 0, none⟩) G (fun _ => u) _ rfl HGr.out rfl (fun e => by cases e) HB1.out (by decide) HLt.out ?_)
    intro v3 w3 hG3 hg3 hat3
    have HN := zh (HG1.next HT.out HU.out hG3 hg3)
    clear hG3 hg3 hat3 HGr HB1 HLt hcv
    go_wp2_with fail
    go_roundw
    case rel => exact ⟨5, 16, by decide, by decide, rfl, HN.out⟩
    case measure => simp [intOf]
   ·obtain rfl : z = 16 := by omega
    have hcv : IntKind.u8.wrap (a8 / 65536) = ((G 5 : Nat) : Int) := by have := HA8.out 5 (by decide); simpa using this
    have HFk := zh (HFL.out 5)
    have HGk : Hid (G 5 = G 5) := zh rfl
    obtain ⟨u, hu⟩ := zX (G 5)
    rw [hu] at hcv HFk
    have HU := zh hu.symm
    clear hu HGk hk hz
    have HGr := zh (Grow.later HT.out.1 ((Below.refl _ wr).alloc (Nat.le_refl _) (.cells #[.int .u8 (u : Int)] 5)))
    have HB1 := zh (ob1 (w := wr) (z := (u : Int)) rfl HFk.out)
    have HLt : Hid (wc.heap.size ≤ (wr.alloc (.cells #[.int .u8 (u : Int)] 5)).heap.size) := zh (HT.out.2.alloc HT.out.2.size _).size
    go_wp2_with (at_builtin; refine wpList_appO rfl (.tmp 22) (.tmp 31) rfl wc.heap.size _ 5 1 1 (some ⟨wr.heap.size, 0, none⟩) G (fun _ => u) _ rfl HGr.out rfl (fun e => by cases e) HB1.out (by decide) HLt.out ?_)
    intro v3 w3 hG3 hg3 hat3
    have HN := zh (HG1.next HT.out HU.out hG3 hg3)
    clear hG3 hg3 hat3 HGr HB1 HLt hcv
    go_wp2_with fail
    go_roundw
    case rel => exact ⟨6, 8, by decide, by decide, rfl, HN.out⟩
    case measure => simp [intOf]
   ·obtain rfl : z = 8 := by omega
    have hcv : IntKind.u8.wrap (a8 / 256) = ((G 6 : Nat) : Int) := by have := HA8.out 6 (by decide); simpa using this
    have HFk := zh (HFL.out 6)
    have HGk : Hid (G 6 = G 6) := zh rfl
    obtain ⟨u, hu⟩ := zX (G 6)
    rw [hu] at hcv HFk
    have HU := zh hu.symm
    clear hu HGk hk hz
    have HGr := zh (Grow.later HT.out.1 ((Below.refl _ wr).alloc (Nat.le_refl _) (.cells #[.int .u8 (u : Int)] 5)))
    have HB1 := zh (ob1 (w := wr) (z := (u : Int)) rfl HFk.out)
    have HLt : Hid (wc.heap.size ≤ (wr.alloc (.cells #[.int .u8 (u : Int)] 5)).heap.size) := zh (HT.out.2.alloc HT.out.2.size _).size
    go_wp2_with (at_builtin; refine wpList_appO rfl (.tmp 22) (.tmp 31) rfl wc.heap.size _ 6 1 1 (some ⟨wr.heap.size, 0, none⟩) G (fun _ => u) _ rfl HGr.out rfl (fun e => by cases e) HB1.out (by decide) HLt.out ?_)
    intro v3 w3 hG3 hg3 hat3
    have HN := zh (HG1.next HT.out HU.out hG3 hg3)
    clear hG3 hg3 hat3 HGr HB1 HLt hcv
    go_wp2_with fail
    go_roundw
    case rel => exact ⟨7, 0, by decide, by decide, rfl, HN.out⟩
    case measure => simp [intOf]
   ·obtain rfl : z = 0 := by omega
    have hcv : IntKind.u8.wrap (a8) = ((G 7 : Nat) : Int) := by have := HA8.out 7 (by decide); simpa using this
    have HFk := zh (HFL.out 7)
    have HGk : Hid (G 7 = G 7) := zh rfl
    obtain ⟨u, hu⟩ := zX (G 7)
    rw [hu] at hcv HFk
    have HU := zh hu.symm
    clear hu HGk hk hz
    have HGr := zh (Grow.later HT.out.1 ((Below.refl _ wr).alloc (Nat.le_refl _) (.cells #[.int .u8 (u : Int)] 5)))
    have HB1 := zh (ob1 (w := wr) (z := (u : Int)) rfl HFk.out)
    have HLt : Hid (wc.heap.size ≤ (wr.alloc (.cells #[.int .u8 (u : Int)] 5)).heap.size) := zh (HT.out.2.alloc HT.out.2.size _).size
    go_wp2_with (at_builtin; refine wpList_appO rfl (.tmp 22) (.tmp 31) rfl wc.heap.size _ 7 1 1 (some ⟨wr.heap.size, 0, none⟩) G (fun _ => u) _ rfl HGr.out rfl (fun e => by cases e) HB1.out (by decide) HLt.out ?_)
    intro v3 w3 hG3 hg3 hat3
    have HN := zh (HG1.next HT.out HU.out hG3 hg3)
    clear hG3 hg3 hat3 HGr HB1 HLt hcv
    go_wp2_with fail
    go_roundw
    case rel => exact ⟨8, -8, by decide, by decide, rfl, HN.out⟩
    case measure => simp [intOf]
   ·obtain rfl : z = -8 := by omega
    clear hk hz
    go_wp2_with fail
    go_loopw [8, 10] (fun v i wr => ∃ (k : Nat) (z : Int), k ≤ 8 ∧ z = 56 - 8 * (k : Int) ∧ i = .int .i64 z ∧ HG1 wc G (8 + k) v wr) (fun _ i _ => (intOf i + 8).toNat)
    case atStart => exact ⟨0, 56, by omega, rfl, rfl, HT.out⟩
    case round =>
     clear HT
     obtain ⟨k, z, hk, hz, rfl, hT⟩ := hrel
     have HT := zh hT
     clear hT
     rcases (show k = 0 ∨ k = 1 ∨ k = 2 ∨ k = 3 ∨ k = 4 ∨ k = 5 ∨ k = 6 ∨ k = 7 ∨ k = 8 by omega) with rfl | rfl | rfl | rfl | rfl | rfl | rfl | rfl | rfl
     ·obtain rfl : z = 56 := by omega
      have hcv : IntKind.u8.wrap (b8 / 72057594037927936) = ((G 8 : Nat) : Int) := by have := HB8.out 0 (by decide); simpa using this
      have HFk := zh (HFL.out 8)
      have HGk : Hid (G 8 = G 8) := zh rfl
      obtain ⟨u, hu⟩ := zX (G 8)
      rw [hu] at hcv HFk
      have HU := zh hu.symm
      clear hu HGk hk hz
      have HGr := zh (Grow.later HT.out.1 ((Below.refl _ wr).alloc (Nat.le_refl _) (.cells #[.int .u8 (u : Int)] 5)))
      have HB1 := zh (ob1 (w := wr) (z := (u : Int)) rfl HFk.out)
      have HLt : Hid (wc.heap.size ≤ (wr.alloc (.cells #[.int .u8 (u : Int)] 5)).heap.size) := zh (HT.out.2.alloc HT.out.2.size _).size
      go_wp2_with (at_builtin; refine wpList_appO rfl (.tmp 37) (.tmp 46) rfl wc.heap.size _ 8 1 1 (some ⟨wr.heap.size, 0, none⟩) G (fun _ => u) _ rfl HGr.out rfl (fun e => by cases e) HB1.out (by decide) HLt.out ?_)
      intro v3 w3 hG3 hg3 hat3
      have HN := zh (HG1.next HT.out HU.out hG3 hg3)
      clear hG3 hg3 hat3 HGr HB1 HLt hcv
      go_wp2_with fail
      go_roundw
      case rel => exact ⟨1, 48, by decide, by decide, rfl, HN.out⟩
      case measure => simp [intOf]
     ·obtain rfl : z = 48 := by omega
      have hcv : IntKind.u8.wrap (b8 / 281474976710656) = ((G 9 : Nat) : Int) := by have := HB8.out 1 (by decide); simpa using this
      have HFk := zh (HFL.out 9)
      have HGk : Hid (G 9 = G 9) := zh rfl
      obtain ⟨u, hu⟩ := zX (G 9)
      rw [hu] at hcv HFk
      have HU := zh hu.symm
      clear hu HGk hk hz
      have HGr := zh (Grow.later HT.out.1 ((Below.refl _ wr).alloc (Nat.le_refl _) (.cells #[.int .u8 (u : Int)] 5)))
      have HB1 := zh (ob1 (w := wr) (z := (u : Int)) rfl HFk.out)
      have HLt : Hid (wc.heap.size ≤ (wr.alloc (.cells #[.int .u8 (u : Int)] 5)).heap.size) := zh (HT.out.2.alloc HT.out.2.size _).size
      go_wp2_with (at_builtin; refine wpList_appO rfl (.tmp 37) (.tmp 46) rfl wc.heap.size _ 9 1 1 (some ⟨wr.heap.size, 0, none⟩) G (fun _ => u) _ rfl HGr.out rfl (fun e => by cases e) HB1.out (by decide) HLt.out ?_)
      intro v3 w3 hG3 hg3 hat3
      have HN := zh (HG1.next HT.out HU.out hG3 hg3)
      clear hG3 hg3 hat3 HGr HB1 HLt hcv
      go_wp2_with fail
      go_roundw
      case rel => exact ⟨2, 40, by decide, by decide, rfl, HN.out⟩
      case measure => simp [intOf]
     ·obtain rfl : z = 40 := by omega
      have hcv : IntKind.u8.wrap (b8 / 1099511627776) = ((G 10 : Nat) : Int) := by have := HB8.out 2 (by decide); simpa using this
      have HFk := zh (HFL.out 10)
      have HGk : Hid (G 10 = G 10) := zh rfl
      obtain ⟨u, hu⟩ := zX (G 10)
      rw [hu] at hcv HFk
      have HU := zh hu.symm
      clear hu HGk hk hz
      have HGr := zh (Grow.later HT.out.1 ((Below.refl _ wr).alloc (Nat.le_refl _) (.cells #[.int .u8 (u : Int)] 5)))
      have HB1 := zh (ob1 (w := wr) (z := (u : Int)) rfl HFk.out)
      have HLt : Hid (wc.heap.size ≤ (wr.alloc (.cells #[.int .u8 (u : Int)] 5)).heap.size) := zh (HT.out.2.alloc HT.out.2.size _).size
      go_wp2_with (at_builtin; refine wpList_appO rfl (.tmp 37) (.tmp 46) rfl wc.heap.size _ 10 1 1 (some ⟨wr.heap.size, 0, none⟩) G (fun _ => u) _ rfl HGr.out rfl (fun e => by cases e) HB1.out (by decide) HLt.out ?_)
      intro v3 w3 hG3 hg3 hat3
      have HN := zh (HG1.next HT.out HU.out hG3 hg3)
      clear hG3 hg3 hat3 HGr HB1 HLt hcv
      go_wp2_with fail
      go_roundw
      case rel => exact ⟨3, 32, by decide, by decide, rfl, HN.out⟩
      case measure => simp [intOf]
     ·obtain rfl : z = 32 := by omega
      have hcv : IntKind.u8.wrap (b8 / 4294967296) = ((G 11 : Nat) : Int) := by have := HB8.out 3 (by decide); simpa using this
      have HFk := zh (HFL.out 11)
      have HGk : Hid (G 11 = G 11) := zh rfl
      obtain ⟨u, hu⟩ := zX (G 11)
      rw [hu] at hcv HFk
      have HU := zh hu.symm
      clear hu HGk hk hz
      have HGr := zh (Grow.later HT.out.1 ((Below.refl _ wr).alloc (Nat.le_refl _) (.cells #[.int .u8 (u : Int)] 5)))
      have HB1 := zh (ob1 (w := wr) (z := (u : Int)) rfl HFk.out)
      have HLt : Hid (wc.heap.size ≤ (wr.alloc (.cells #[.int .u8 (u : Int)] 5)).heap.size) := zh (HT.out.2.alloc HT.out.2.size _).size
      go_wp2_with (at_builtin; refine wpList_appO rfl (.tmp 37) (.tmp 46) rfl wc.heap.size _ 11 1 1 (some ⟨wr.heap.size, 0, none⟩) G (fun _ => u) _ rfl HGr.out rfl (fun e => by cases e) HB1.out (by decide) HLt.out ?_)
      intro v3 w3 hG3 hg3 hat3
      have HN := zh (HG1.next HT.out HU.out hG3 hg3)
      clear hG3 hg3 hat3 HGr HB1 HLt hcv
      go_wp2_with fail
      go_roundw
      case rel => exact ⟨4, 24, by decide, by decide, rfl, HN.out⟩
      case measure => simp [intOf]
     ·obtain rfl : z = 24 := by omega
      have hcv : IntKind.u8.wrap (b8 / 16777216) = ((G 12 : Nat) : Int) := by have := HB8.out 4 (by decide); simpa using this
      have HFk := zh (HFL.out 12)
      have HGk : Hid (G 12 = G 12) := zh rfl
      obtain ⟨u, hu⟩ := zX (G 12)
      rw [hu] at hcv HFk
      have HU := zh hu.symm
      clear hu HGk hk hz
      have HGr := zh (Grow.later HT.out.1 ((Below.refl _ wr).alloc (Nat.le_refl _) (.cells #[.int .u8 (u : Int)] 5)))
      have HB1 := zh (ob1 (w := wr) (z := (u : Int)) rfl HFk.out)
      have HLt : Hid (wc.heap.size ≤ (wr.alloc (.cells #[.int .u8 (u : Int)] 5)).heap.size) := zh (HT.out.2.alloc HT.out.2.size _).size
      go_wp2_with (at_builtin; refine wpList_appO rfl (.tmp 37) (.tmp 46) rfl wc.heap.size _ 12 1 1 (some ⟨wr.heap.size, 0, none⟩) G (fun _ => u) _ rfl HGr.out rfl (fun e => by cases e) HB1.out (by decide) HLt.out ?_)
      intro v3 w3 hG3 hg3 hat3
      have HN := zh (HG1.next HT.out HU.out hG3 hg3)
      clear hG3 hg3 hat3 HGr HB1 HLt hcv
      go_wp2_with fail
      go_roundw
      case rel => exact ⟨5, 16, by decide, by decide, rfl, HN.out⟩
      case measure => simp [intOf]
     ·obtain rfl : z = 16 := by omega
      have hcv : IntKind.u8.wrap (b8 / 65536) = ((G 13 : Nat) : Int) := by have := HB8.out 5 (by decide); simpa using this
      have HFk := zh (HFL.out 13)
      have HGk : Hid (G 13 = G 13) := zh rfl
      obtain ⟨u, hu⟩ := zX (G 13)
      rw [hu] at hcv HFk
      have HU := zh hu.symm
      clear hu HGk hk hz
      have HGr := zh (Grow.later HT.out.1 ((Below.refl _ wr).alloc (Nat.le_refl _) (.cells #[.int .u8 (u : Int)] 5)))
      have HB1 := zh (ob1 (w := wr) (z := (u : Int)) rfl HFk.out)
      have HLt : Hid (wc.heap.size ≤ (wr.alloc (.cells #[.int .u8 (u : Int)] 5)).heap.size) := zh (HT.out.2.alloc HT.out.2.size _).size
      go_wp2_with (at_builtin; refine wpList_appO rfl (.tmp 37) (.tmp 46) rfl wc.heap.size _ 13 1 1 (some ⟨wr.heap.size, 0, none⟩) G (fun _ => u) _ rfl HGr.out rfl (fun e => by cases e) HB1.out (by decide) HLt.out ?_)
      intro v3 w3 hG3 hg3 hat3
      have HN := zh (HG1.next HT.out HU.out hG3 hg3)
      clear hG3 hg3 hat3 HGr HB1 HLt hcv
      go_wp2_with fail
      go_roundw
      case rel => exact ⟨6, 8, by decide, by decide, rfl, HN.out⟩
      case measure => simp [intOf]
     ·obtain rfl : z = 8 := by omega
      have hcv : IntKind.u8.wrap (b8 / 256) = ((G 14 : Nat) : Int) := by have := HB8.out 6 (by decide); simpa using this
      have HFk := zh (HFL.out 14)
      have HGk : Hid (G 14 = G 14) := zh rfl
      obtain ⟨u, hu⟩ := zX (G 14)
      rw [hu] at hcv HFk
      have HU := zh hu.symm
      clear hu HGk hk hz
      have HGr := zh (Grow.later HT.out.1 ((Below.refl _ wr).alloc (Nat.le_refl _) (.cells #[.int .u8 (u : Int)] 5)))
      have HB1 := zh (ob1 (w := wr) (z := (u : Int)) rfl HFk.out)
      have HLt : Hid (wc.heap.size ≤ (wr.alloc (.cells #[.int .u8 (u : Int)] 5)).heap.size) := zh (HT.out.2.alloc HT.out.2.size _).size
      go_wp2_with (at_builtin; refine wpList_appO rfl (.tmp 37) (.tmp 46) rfl wc.heap.size _ 14 1 1 (some ⟨wr.heap.size, 0, none⟩) G (fun _ => u) _ rfl HGr.out rfl (fun e => by cases e) HB1.out (by decide) HLt.out ?_)
      intro v3 w3 hG3 hg3 hat3
      have HN := zh (HG1.next HT.out HU.out hG3 hg3)
      clear hG3 hg3 hat3 HGr HB1 HLt hcv
      go_wp2_with fail
      go_roundw
      case rel => exact ⟨7, 0, by decide, by decide, rfl, HN.out⟩
      case measure => simp [intOf]
     ·obtain rfl : z = 0 := by omega
      have hcv : IntKind.u8.wrap (b8) = ((G 15 : Nat) : Int) := by have := HB8.out 7 (by decide); simpa using this
      have HFk := zh (HFL.out 15)
      have HGk : Hid (G 15 = G 15) := zh rfl
      obtain ⟨u, hu⟩ := zX (G 15)
      rw [hu] at hcv HFk
      have HU := zh hu.symm
      clear hu HGk hk hz
      have HGr := zh (Grow.later HT.out.1 ((Below.refl _ wr).alloc (Nat.le_refl _) (.cells #[.int .u8 (u : Int)] 5)))
      have HB1 := zh (ob1 (w := wr) (z := (u : Int)) rfl HFk.out)
      have HLt : Hid (wc.heap.size ≤ (wr.alloc (.cells #[.int .u8 (u : Int)] 5)).heap.size) := zh (HT.out.2.alloc HT.out.2.size _).size
      go_wp2_with (at_builtin; refine wpList_appO rfl (.tmp 37) (.tmp 46) rfl wc.heap.size _ 15 1 1 (some ⟨wr.heap.size, 0, none⟩) G (fun _ => u) _ rfl HGr.out rfl (fun e => by cases e) HB1.out (by decide) HLt.out ?_)
      intro v3 w3 hG3 hg3 hat3
      have HN := zh (HG1.next HT.out HU.out hG3 hg3)
      clear hG3 hg3 hat3 HGr HB1 HLt hcv
      go_wp2_with fail
      go_roundw
      case rel => exact ⟨8, -8, by decide, by decide, rfl, HN.out⟩
      case measure => simp [intOf]
     ·obtain rfl : z = -8 := by omega
      clear hk hz
      obtain ⟨oc, cc, rfl, hB, _⟩ := HT.out.1.bytes (fun i _ => HFL.out i)
      have hP := HT.out.2
      have HB16 : Hid (Bytes wr oc 16 G) := zh hB
      have HX7 : Hid (Blk wr q T2 72) := zh (Blk.below HF.out hP (Blk.lt HF.out))
      have HX3 : Hid (Blk wr w.heap.size D 72) := zh (Blk.below HDD.out hP (Blk.lt HDD.out))
      have HX6 : Hid (Blk wr (w.heap.size + 1) zero16 72) := zh (Blk.below HZ.out hP (Blk.lt HZ.out))
      have HXO : Hid (Below w.heap.size w wr) := zh (HO.out.trans (hP.mono HO.out.size))
      clear hB hP HT HF HDD HZ HO
      go_wp2_with (first
       | (refine wpList_load16a rfl (.tmp 7) rfl q rfl T2 HX7.out HFC.out ?_)
       | (refine wpList_load16a rfl (.tmp 3) rfl w.heap.size rfl D HX3.out HDC.out ?_))
      refine (HTH3.out _ _ _ HB16.out).mono ?_
      rintro e w4 ⟨rfl, hb4⟩
      have HX6' : Hid (Blk w4 (w.heap.size + 1) zero16 72) := zh (Blk.below HX6.out hb4 (Blk.lt HX6.out))
      have hO4 := HXO.out.trans (hb4.mono HXO.out.size)
      have HN : Hid (Blk (w4.setCells (w.heap.size + 1) 0 M.toList) (w.heap.size + 1) M 72) := zh (Blk.store16a HX6'.out HMC.out HZC.out)
      have HO5 : Hid (Below w.heap.size w (w4.setCells (w.heap.size + 1) 0 M.toList)) := zh (Below.set16 (g := w.heap.size + 1) hO4 (by omega) hO4.size _)
      clear hb4 hO4 HX6 HXO HX7 HX3
      go_wp2_with (first
       | (refine wpList_store16a rfl (.tmp 6) (.tmp 51) rfl (w.heap.size + 1) rfl M zero16 rfl HX6'.out HMC.out HZC.out ?_))
      refine bodyPost_ret (v := .agg M) ?_ rfl ⟨by rw [HM.out], HO5.out⟩
      exact res16a Tryz.results71 _ _ (w.heap.size + 1) M rfl HN.out HMC.out
end Go.Proofs.YtncfocjmdecapaaGreatDoor
