/- Part of the proof: what stands here serves the walks of the functions that the statement calls. -/
import Derived.Test.YtncfocjmdecapaaGreatDoorY14
namespace Go.Proofs.YtncfocjmdecapaaGreatDoor
set_option linter.unusedVariables false
set_option linter.unusedSimpArgs false
open Go.RowKit
set_option maxRecDepth 100000
set_option maxHeartbeats 4000000
def SBg (w0 : World) (C D : Array Value) (w' : World) : Prop := Blk w' w0.heap.size C 82 ∧ Blk w' (w0.heap.size + 1) D 82
theorem SBg.x {w0 : World} {C D : Array Value} {w' : World} (h : SBg w0 C D w') : Blk w' w0.heap.size C 82 := h.1
theorem SBg.y {w0 : World} {C D : Array Value} {w' : World} (h : SBg w0 C D w') : Blk w' (w0.heap.size + 1) D 82 := h.2
def MR (w0 : World) (C D Z : Array Value) (a b c d : Nat) (v5 v6 : Value) (wr : World) : Prop := ∃ g h, v5 = .pointer (some ⟨g, 0, none⟩) ∧ v6 = .pointer (some ⟨h, 0, none⟩) ∧ g ≠ h ∧ w0.heap.size + 1 + 1 < g ∧ w0.heap.size + 1 + 1 < h ∧ W2 wr g a b ∧ W2 wr h c d ∧ Blk wr (w0.heap.size + 1 + 1) Z 82 ∧ Below w0.heap.size w0 wr
def MIG (w0 : World) (Z : Array Value) (a b c d : Nat) (p q z k : Nat) (wr : World) : Prop := W2 wr p a b ∧ W2 wr q (vK c d k).1 (vK c d k).2 ∧ W2 wr z (zK a b c d k).1 (zK a b c d k).2 ∧ Blk wr (w0.heap.size + 1 + 1) Z 82 ∧ Below w0.heap.size w0 wr
theorem put2 {W X : World} {g : Nat} {a b : Value} (e : (W.setCell ⟨g, 0, none⟩ a).setCell ⟨g, 1, none⟩ b = X) :
  (∀ {k : Nat} {C : Array Value} {t : TypeId}, Blk W k C t → k ≠ g → Blk X k C t) ∧ (∀ {x y : Value} {t : TypeId}, Blk W g #[x, y] t → Blk X g #[a, b] t) ∧
   ∀ {n : Nat} {u : World}, Below n u W → n ≤ g → Below n u X := by
 subst e
 exact ⟨fun h hn => Blk.set_other (Blk.set_other h (a := ⟨g, 0, none⟩) hn a) (a := ⟨g, 1, none⟩) hn b, fun h => (h.set 0 a).set 1 b, fun h hn => (h.setCell hn _).setCell hn _⟩
theorem cells2 {W : World} {g : Nat} {a b : Value} {t : TypeId} (h : Blk W g #[a, b] t) :
  W.cell? ⟨g, 0, none⟩ = some a ∧ W.cell? ⟨g, 1, none⟩ = some b ∧ W.frozen? ⟨g, 0, none⟩ = false ∧ W.frozen? ⟨g, 1, none⟩ = false := ⟨h.cell 0, h.cell 1, h.free 0, h.free 1⟩
theorem gmul_any (f g : Nat → Nat) (w : World) (hf : ∀ i, i < 16 → f i < 256) (hg : ∀ i, i < 16 → g i < 256) :
  Calls Tryz.prog 83 #[.agg (rowC 16 f).toArray, .agg (rowC 16 g).toArray] w fun e w' => e = .returned (.agg (rowC 16 (mulF f g)).toArray) ∧ Below w.heap.size w w' := by
 have hz := zero16_run
 obtain ⟨a, ha⟩ := zX (hiW f)
 obtain ⟨b, hb⟩ := zX (loW f)
 obtain ⟨c, hc⟩ := zX (hiW g)
 obtain ⟨d, hd⟩ := zX (loW g)
 obtain ⟨C, hC⟩ := zX ((rowC 16 f).toArray)
 obtain ⟨D, hD⟩ := zX ((rowC 16 g).toArray)
 have HRX : Hid (∀ w, Calls Tryz.prog 94 #[.agg C] w fun e w' => e = .returned (.agg #[.int .u64 (a : Int), .int .u64 (b : Int)]) ∧ Below w.heap.size w w') := zh fun w => by
  rw [← hC, ← ha, ← hb]; exact gread_any f w hf
 have HRY : Hid (∀ w, Calls Tryz.prog 94 #[.agg D] w fun e w' => e = .returned (.agg #[.int .u64 (c : Int), .int .u64 (d : Int)]) ∧ Below w.heap.size w w') := zh fun w => by
  rw [← hD, ← hc, ← hd]; exact gread_any g w hg
 have HCS : Hid ((Tryz.prog.info? 82).map (·.size) = some C.size) := zh (hC ▸ info16 f)
 have HDS : Hid ((Tryz.prog.info? 82).map (·.size) = some D.size) := zh (hD ▸ info16 g)
 have HM : Hid (mulF f g = blkF (mulW a b c d).1 (mulW a b c d).2) := zh (by rw [← ha, ← hb, ← hc, ← hd]; rfl)
 have HA : Hid (a < 2 ^ 64 ∧ b < 2 ^ 64 ∧ c < 2 ^ 64 ∧ d < 2 ^ 64) := zh (by rw [← ha, ← hb, ← hc, ← hd]; exact ⟨hiW_lt hf, loW_lt hf, hiW_lt hg, loW_lt hg⟩)
 rw [hC, hD]
 clear hf hg ha hb hc hd hC hD
 go_enter Tryz.func83, Tryz.ntmps83
 go_upto_region 1 with fail
 obtain ⟨w0, hw0⟩ := zX (((w.alloc (.cells C 82)).alloc (.cells D 82)).alloc (.cells zero16 82))
 have B0 : Blk w0 w.heap.size C 82 := by rw [← hw0]; exact ((Blk.new w _ 82).alloc _).alloc _
 have B1 : Blk w0 (w.heap.size + 1) D 82 := by rw [← hw0]; simpa using (Blk.new (w.alloc (.cells C 82)) D 82).alloc (.cells zero16 82)
 have B2 : Blk w0 (w.heap.size + 1 + 1) zero16 82 := by rw [← hw0]; simpa using Blk.new ((w.alloc (.cells C 82)).alloc (.cells D 82)) zero16 82
 have O : Below w.heap.size w w0 := by rw [← hw0]; exact ((zA).alloc (by simp) _).alloc (by simp; omega) _
 rw [hw0]
 clear hw0 hz
 go_cut [5, 6] (MR w C D zero16 a b c d)
 case first =>
  have B0_0 : Blk w0.drew w.heap.size C 82 := Blk.drew B0
  have B1_0 : Blk w0.drew (w.heap.size + 1) D 82 := Blk.drew B1
  have B2_0 : Blk w0.drew (w.heap.size + 1 + 1) zero16 82 := Blk.drew B2
  have O_0 : Below w.heap.size w w0.drew := O.drew
  clear B0 B1 B2 O
  refine wp_region_held_drew (S := (SBg w C D)) (by kernel_rfl) ?_ (fun hHeld => ?_)
  ·(try dsimp only)
   exact ⟨by assumption, by assumption⟩
  generalize w0.drew = W0 at *
  refine wT 0 ?_ rfl ?_ ?_
  rotate_left
  ·intro w hSw
   refine exec_load16 (x := .tmp 2) ?_ ?_ (ld16 hSw.x HCS.out) <;> rfl
  (try simp only [Act.put, zS])
  refine wT 2 ?_ rfl ?_ ?_
  rotate_left
  ·intro w hSw
   refine exec_load16 (x := .tmp 3) ?_ ?_ (ld16 hSw.y HDS.out) <;> rfl
  (try simp only [Act.put, zS])
  refine wR [1, 4, 5] ?_
  refine aC rfl (fun K hK => ?_) ?_
  ·skip
   go_simp
   (refine (HRX.out _).mono ?_; rintro e v_1 ⟨rfl, hb_1⟩; have B0_1 := Blk.below B0_0 hb_1 (Blk.lt B0_0); have B1_1 := Blk.below B1_0 hb_1 (Blk.lt B1_0); have B2_1 := Blk.below B2_0 hb_1 (Blk.lt B2_0); have O_1 := Below.trans O_0 (hb_1.mono O_0.size); clear B0_0 B1_0 B2_0 O_0; clear hb_1; skip)
   (try go_wp2_with fail)
   refine hK.out _ _ ?_ fun hHeld => ?_
   ·(try dsimp only)
    exact ⟨by assumption, by assumption⟩
   clear hK K
   (try simp only [Act.put, zS])
   refine wR [3, 4, 5] ?_
   refine aC rfl (fun K hK => ?_) ?_
   ·skip
    go_simp
    (refine (HRY.out _).mono ?_; rintro e v_2 ⟨rfl, hb_2⟩; have B0_2 := Blk.below B0_1 hb_2 (Blk.lt B0_1); have B1_2 := Blk.below B1_1 hb_2 (Blk.lt B1_1); have B2_2 := Blk.below B2_1 hb_2 (Blk.lt B2_1); have O_2 := Below.trans O_1 (hb_2.mono O_1.size); clear B0_1 B1_1 B2_1 O_1; clear hb_2; skip)
    (try go_wp2_with fail)
    refine hK.out _ _ ?_ fun hHeld => ?_
    ·(try dsimp only)
     exact ⟨by assumption, by assumption⟩
    clear hK K
    (try simp only [Act.put, zS])
    refine wR [4, 5] ?_
    refine aC rfl (fun K hK => ?_) ?_
    ·skip
     go_simp
     (obtain ⟨v_3, hw_3⟩ := zX (v_2.alloc (.cells #[.int .u64 0, .int .u64 0] 184)); rw [hw_3]; have hb_3 : Below v_2.heap.size v_2 v_3 := (by rw [← hw_3]; exact zA); have B0_3 := Blk.below B0_2 hb_3 (Blk.lt B0_2); have B1_3 := Blk.below B1_2 hb_3 (Blk.lt B1_2); have B2_3 := Blk.below B2_2 hb_3 (Blk.lt B2_2); have O_3 := Below.trans O_2 (hb_3.mono O_2.size); have Q5_3 : Blk v_3 v_2.heap.size #[.int .u64 0, .int .u64 0] 184 := (by rw [← hw_3]; exact Blk.new _ _ _); have GL5 := zh (show w.heap.size + 1 + 1 < v_2.heap.size from Blk.lt B2_2); obtain ⟨y50_3, y51_3, f50_3, f51_3⟩ := cells2 Q5_3; clear B0_2 B1_2 B2_2 O_2; clear hb_3 hw_3; skip)
     (try go_wp2_with fail)
     refine hK.out _ _ ?_ fun hHeld => ?_
     ·(try dsimp only)
      exact ⟨by assumption, by assumption⟩
     clear hK K
     (try simp only [Act.put, zS])
     refine wR [5] ?_
     refine aN rfl fun K hK => ?_
     go_simp
     (obtain ⟨v_4, hw_4⟩ := zX (v_3.alloc (.cells #[.int .u64 0, .int .u64 0] 184)); rw [hw_4]; have hb_4 : Below v_3.heap.size v_3 v_4 := (by rw [← hw_4]; exact zA); have B0_4 := Blk.below B0_3 hb_4 (Blk.lt B0_3); have B1_4 := Blk.below B1_3 hb_4 (Blk.lt B1_3); have B2_4 := Blk.below B2_3 hb_4 (Blk.lt B2_3); have Q5_4 := Blk.below Q5_3 hb_4 (Blk.lt Q5_3); have O_4 := Below.trans O_3 (hb_4.mono O_3.size); have Q6_4 : Blk v_4 v_3.heap.size #[.int .u64 0, .int .u64 0] 184 := (by rw [← hw_4]; exact Blk.new _ _ _); have GL6 := zh (show w.heap.size + 1 + 1 < v_3.heap.size from Blk.lt B2_3); have NE := zh (show v_2.heap.size < v_3.heap.size from Blk.lt Q5_3); obtain ⟨y50_4, y51_4, f50_4, f51_4⟩ := cells2 Q5_4; obtain ⟨y60_4, y61_4, f60_4, f61_4⟩ := cells2 Q6_4; clear B0_3 B1_3 B2_3 O_3 Q5_3 y50_3 y51_3 f50_3 f51_3; clear hb_4 hw_4; skip)
     (try go_wp2_with fail)
     refine hK.out _ _ ?_ fun hHeld => ?_
     ·(try dsimp only)
      exact ⟨by assumption, by assumption⟩
     clear hK K
     (try simp only [Act.put, zS])
     refine wR [6] ?_
     refine aN rfl fun K hK => ?_
     go_simp
     (obtain ⟨v_5, hw_5⟩ := zX (((v_4.setCell ⟨v_2.heap.size, 0, none⟩ (.int .u64 (a : Int))).setCell ⟨v_2.heap.size, 1, none⟩ (.int .u64 (b : Int)))); rw [hw_5]; obtain ⟨p, r, s⟩ := put2 hw_5; have h2 := GL5.out; have B0_5 := p B0_4 (by omega); have B1_5 := p B1_4 (by omega); have B2_5 := p B2_4 (by omega); have Q6_5 := p Q6_4 (by have := NE.out; omega); have Q5_5 := r Q5_4; have O_5 := s O_4 (by omega); clear p r s h2; obtain ⟨y50_5, y51_5, f50_5, f51_5⟩ := cells2 Q5_5; obtain ⟨y60_5, y61_5, f60_5, f61_5⟩ := cells2 Q6_5; clear B0_4 B1_4 B2_4 O_4 Q5_4 y50_4 y51_4 f50_4 f51_4 Q6_4 y60_4 y61_4 f60_4 f61_4; clear hw_5; skip)
     (try go_wp2_with fail)
     refine hK.out _ _ ?_ fun hHeld => ?_
     ·(try dsimp only)
      exact ⟨by assumption, by assumption⟩
     clear hK K
     (try simp only [Act.put, zS])
     refine wR [7] ?_
     refine aN rfl fun K hK => ?_
     go_simp
     (obtain ⟨v_6, hw_6⟩ := zX (((v_5.setCell ⟨v_3.heap.size, 0, none⟩ (.int .u64 (c : Int))).setCell ⟨v_3.heap.size, 1, none⟩ (.int .u64 (d : Int)))); rw [hw_6]; obtain ⟨p, r, s⟩ := put2 hw_6; have h2 := GL6.out; have B0_6 := p B0_5 (by omega); have B1_6 := p B1_5 (by omega); have B2_6 := p B2_5 (by omega); have Q5_6 := p Q5_5 (by have := NE.out; omega); have Q6_6 := r Q6_5; have O_6 := s O_5 (by omega); clear p r s h2; obtain ⟨y50_6, y51_6, f50_6, f51_6⟩ := cells2 Q5_6; obtain ⟨y60_6, y61_6, f60_6, f61_6⟩ := cells2 Q6_6; clear B0_5 B1_5 B2_5 O_5 Q5_5 y50_5 y51_5 f50_5 f51_5 Q6_5 y60_5 y61_5 f60_5 f61_5; clear hw_6; skip)
     (try go_wp2_with fail)
     refine hK.out _ _ ?_ fun hHeld => ?_
     ·(try dsimp only)
      exact ⟨by assumption, by assumption⟩
     clear hK K
     (try simp only [Act.put, zS])
     refine wpAnyH_done (by kernel_rfl) ?_ _
     clear y50_6 f50_6 y51_6 f51_6 y60_6 f60_6 y61_6 f61_6
     go_wp2_with fail
     go_meet
     exact ⟨_, _, rfl, rfl, (by have := NE.out; omega), GL5.out, GL6.out, Q5_6, Q6_6, B2_6, O_6⟩
    refine aN rfl fun K hK => ?_
    go_simp
    (obtain ⟨v_7, hw_7⟩ := zX (v_2.alloc (.cells #[.int .u64 0, .int .u64 0] 184)); rw [hw_7]; have hb_7 : Below v_2.heap.size v_2 v_7 := (by rw [← hw_7]; exact zA); have B0_7 := Blk.below B0_2 hb_7 (Blk.lt B0_2); have B1_7 := Blk.below B1_2 hb_7 (Blk.lt B1_2); have B2_7 := Blk.below B2_2 hb_7 (Blk.lt B2_2); have O_7 := Below.trans O_2 (hb_7.mono O_2.size); have Q6_7 : Blk v_7 v_2.heap.size #[.int .u64 0, .int .u64 0] 184 := (by rw [← hw_7]; exact Blk.new _ _ _); have GL6 := zh (show w.heap.size + 1 + 1 < v_2.heap.size from Blk.lt B2_2); obtain ⟨y60_7, y61_7, f60_7, f61_7⟩ := cells2 Q6_7; clear B0_2 B1_2 B2_2 O_2; clear hb_7 hw_7; skip)
    (try go_wp2_with fail)
    refine hK.out _ _ ?_ fun hHeld => ?_
    ·(try dsimp only)
     exact ⟨by assumption, by assumption⟩
    clear hK K
    (try simp only [Act.put, zS])
    refine wR [4] ?_
    refine aN rfl fun K hK => ?_
    go_simp
    (obtain ⟨v_8, hw_8⟩ := zX (v_7.alloc (.cells #[.int .u64 0, .int .u64 0] 184)); rw [hw_8]; have hb_8 : Below v_7.heap.size v_7 v_8 := (by rw [← hw_8]; exact zA); have B0_8 := Blk.below B0_7 hb_8 (Blk.lt B0_7); have B1_8 := Blk.below B1_7 hb_8 (Blk.lt B1_7); have B2_8 := Blk.below B2_7 hb_8 (Blk.lt B2_7); have Q6_8 := Blk.below Q6_7 hb_8 (Blk.lt Q6_7); have O_8 := Below.trans O_7 (hb_8.mono O_7.size); have Q5_8 : Blk v_8 v_7.heap.size #[.int .u64 0, .int .u64 0] 184 := (by rw [← hw_8]; exact Blk.new _ _ _); have GL5 := zh (show w.heap.size + 1 + 1 < v_7.heap.size from Blk.lt B2_7); have NE := zh (show v_2.heap.size < v_7.heap.size from Blk.lt Q6_7); obtain ⟨y50_8, y51_8, f50_8, f51_8⟩ := cells2 Q5_8; obtain ⟨y60_8, y61_8, f60_8, f61_8⟩ := cells2 Q6_8; clear B0_7 B1_7 B2_7 O_7 Q6_7 y60_7 y61_7 f60_7 f61_7; clear hb_8 hw_8; skip)
    (try go_wp2_with fail)
    refine hK.out _ _ ?_ fun hHeld => ?_
    ·(try dsimp only)
     exact ⟨by assumption, by assumption⟩
    clear hK K
    (try simp only [Act.put, zS])
    refine wR [6] ?_
    refine aN rfl fun K hK => ?_
    go_simp
    (obtain ⟨v_9, hw_9⟩ := zX (((v_8.setCell ⟨v_7.heap.size, 0, none⟩ (.int .u64 (a : Int))).setCell ⟨v_7.heap.size, 1, none⟩ (.int .u64 (b : Int)))); rw [hw_9]; obtain ⟨p, r, s⟩ := put2 hw_9; have h2 := GL5.out; have B0_9 := p B0_8 (by omega); have B1_9 := p B1_8 (by omega); have B2_9 := p B2_8 (by omega); have Q6_9 := p Q6_8 (by have := NE.out; omega); have Q5_9 := r Q5_8; have O_9 := s O_8 (by omega); clear p r s h2; obtain ⟨y50_9, y51_9, f50_9, f51_9⟩ := cells2 Q5_9; obtain ⟨y60_9, y61_9, f60_9, f61_9⟩ := cells2 Q6_9; clear B0_8 B1_8 B2_8 O_8 Q5_8 y50_8 y51_8 f50_8 f51_8 Q6_8 y60_8 y61_8 f60_8 f61_8; clear hw_9; skip)
    (try go_wp2_with fail)
    refine hK.out _ _ ?_ fun hHeld => ?_
    ·(try dsimp only)
     exact ⟨by assumption, by assumption⟩
    clear hK K
    (try simp only [Act.put, zS])
    refine wR [7] ?_
    refine aN rfl fun K hK => ?_
    go_simp
    (obtain ⟨v_10, hw_10⟩ := zX (((v_9.setCell ⟨v_2.heap.size, 0, none⟩ (.int .u64 (c : Int))).setCell ⟨v_2.heap.size, 1, none⟩ (.int .u64 (d : Int)))); rw [hw_10]; obtain ⟨p, r, s⟩ := put2 hw_10; have h2 := GL6.out; have B0_10 := p B0_9 (by omega); have B1_10 := p B1_9 (by omega); have B2_10 := p B2_9 (by omega); have Q5_10 := p Q5_9 (by have := NE.out; omega); have Q6_10 := r Q6_9; have O_10 := s O_9 (by omega); clear p r s h2; obtain ⟨y50_10, y51_10, f50_10, f51_10⟩ := cells2 Q5_10; obtain ⟨y60_10, y61_10, f60_10, f61_10⟩ := cells2 Q6_10; clear B0_9 B1_9 B2_9 O_9 Q5_9 y50_9 y51_9 f50_9 f51_9 Q6_9 y60_9 y61_9 f60_9 f61_9; clear hw_10; skip)
    (try go_wp2_with fail)
    refine hK.out _ _ ?_ fun hHeld => ?_
    ·(try dsimp only)
     exact ⟨by assumption, by assumption⟩
    clear hK K
    (try simp only [Act.put, zS])
    refine wpAnyH_done (by kernel_rfl) ?_ _
    clear y50_10 f50_10 y51_10 f51_10 y60_10 f60_10 y61_10 f61_10
    go_wp2_with fail
    go_meet
    exact ⟨_, _, rfl, rfl, (by have := NE.out; omega), GL5.out, GL6.out, Q5_10, Q6_10, B2_10, O_10⟩
   refine aC rfl (fun K hK => ?_) ?_
   ·skip
    go_simp
    (obtain ⟨v_11, hw_11⟩ := zX (v_1.alloc (.cells #[.int .u64 0, .int .u64 0] 184)); rw [hw_11]; have hb_11 : Below v_1.heap.size v_1 v_11 := (by rw [← hw_11]; exact zA); have B0_11 := Blk.below B0_1 hb_11 (Blk.lt B0_1); have B1_11 := Blk.below B1_1 hb_11 (Blk.lt B1_1); have B2_11 := Blk.below B2_1 hb_11 (Blk.lt B2_1); have O_11 := Below.trans O_1 (hb_11.mono O_1.size); have Q5_11 : Blk v_11 v_1.heap.size #[.int .u64 0, .int .u64 0] 184 := (by rw [← hw_11]; exact Blk.new _ _ _); have GL5 := zh (show w.heap.size + 1 + 1 < v_1.heap.size from Blk.lt B2_1); obtain ⟨y50_11, y51_11, f50_11, f51_11⟩ := cells2 Q5_11; clear B0_1 B1_1 B2_1 O_1; clear hb_11 hw_11; skip)
    (try go_wp2_with fail)
    refine hK.out _ _ ?_ fun hHeld => ?_
    ·(try dsimp only)
     exact ⟨by assumption, by assumption⟩
    clear hK K
    (try simp only [Act.put, zS])
    refine wR [3, 5] ?_
    refine aC rfl (fun K hK => ?_) ?_
    ·skip
     go_simp
     (refine (HRY.out _).mono ?_; rintro e v_12 ⟨rfl, hb_12⟩; have B0_12 := Blk.below B0_11 hb_12 (Blk.lt B0_11); have B1_12 := Blk.below B1_11 hb_12 (Blk.lt B1_11); have B2_12 := Blk.below B2_11 hb_12 (Blk.lt B2_11); have Q5_12 := Blk.below Q5_11 hb_12 (Blk.lt Q5_11); have O_12 := Below.trans O_11 (hb_12.mono O_11.size); obtain ⟨y50_12, y51_12, f50_12, f51_12⟩ := cells2 Q5_12; clear B0_11 B1_11 B2_11 O_11 Q5_11 y50_11 y51_11 f50_11 f51_11; clear hb_12; skip)
     (try go_wp2_with fail)
     refine hK.out _ _ ?_ fun hHeld => ?_
     ·(try dsimp only)
      exact ⟨by assumption, by assumption⟩
     clear hK K
     (try simp only [Act.put, zS])
     refine wR [5] ?_
     refine aN rfl fun K hK => ?_
     go_simp
     (obtain ⟨v_13, hw_13⟩ := zX (v_12.alloc (.cells #[.int .u64 0, .int .u64 0] 184)); rw [hw_13]; have hb_13 : Below v_12.heap.size v_12 v_13 := (by rw [← hw_13]; exact zA); have B0_13 := Blk.below B0_12 hb_13 (Blk.lt B0_12); have B1_13 := Blk.below B1_12 hb_13 (Blk.lt B1_12); have B2_13 := Blk.below B2_12 hb_13 (Blk.lt B2_12); have Q5_13 := Blk.below Q5_12 hb_13 (Blk.lt Q5_12); have O_13 := Below.trans O_12 (hb_13.mono O_12.size); have Q6_13 : Blk v_13 v_12.heap.size #[.int .u64 0, .int .u64 0] 184 := (by rw [← hw_13]; exact Blk.new _ _ _); have GL6 := zh (show w.heap.size + 1 + 1 < v_12.heap.size from Blk.lt B2_12); have NE := zh (show v_1.heap.size < v_12.heap.size from Blk.lt Q5_12); obtain ⟨y50_13, y51_13, f50_13, f51_13⟩ := cells2 Q5_13; obtain ⟨y60_13, y61_13, f60_13, f61_13⟩ := cells2 Q6_13; clear B0_12 B1_12 B2_12 O_12 Q5_12 y50_12 y51_12 f50_12 f51_12; clear hb_13 hw_13; skip)
     (try go_wp2_with fail)
     refine hK.out _ _ ?_ fun hHeld => ?_
     ·(try dsimp only)
      exact ⟨by assumption, by assumption⟩
     clear hK K
     (try simp only [Act.put, zS])
     refine wR [6] ?_
     refine aN rfl fun K hK => ?_
     go_simp
     (obtain ⟨v_14, hw_14⟩ := zX (((v_13.setCell ⟨v_1.heap.size, 0, none⟩ (.int .u64 (a : Int))).setCell ⟨v_1.heap.size, 1, none⟩ (.int .u64 (b : Int)))); rw [hw_14]; obtain ⟨p, r, s⟩ := put2 hw_14; have h2 := GL5.out; have B0_14 := p B0_13 (by omega); have B1_14 := p B1_13 (by omega); have B2_14 := p B2_13 (by omega); have Q6_14 := p Q6_13 (by have := NE.out; omega); have Q5_14 := r Q5_13; have O_14 := s O_13 (by omega); clear p r s h2; obtain ⟨y50_14, y51_14, f50_14, f51_14⟩ := cells2 Q5_14; obtain ⟨y60_14, y61_14, f60_14, f61_14⟩ := cells2 Q6_14; clear B0_13 B1_13 B2_13 O_13 Q5_13 y50_13 y51_13 f50_13 f51_13 Q6_13 y60_13 y61_13 f60_13 f61_13; clear hw_14; skip)
     (try go_wp2_with fail)
     refine hK.out _ _ ?_ fun hHeld => ?_
     ·(try dsimp only)
      exact ⟨by assumption, by assumption⟩
     clear hK K
     (try simp only [Act.put, zS])
     refine wR [7] ?_
     refine aN rfl fun K hK => ?_
     go_simp
     (obtain ⟨v_15, hw_15⟩ := zX (((v_14.setCell ⟨v_12.heap.size, 0, none⟩ (.int .u64 (c : Int))).setCell ⟨v_12.heap.size, 1, none⟩ (.int .u64 (d : Int)))); rw [hw_15]; obtain ⟨p, r, s⟩ := put2 hw_15; have h2 := GL6.out; have B0_15 := p B0_14 (by omega); have B1_15 := p B1_14 (by omega); have B2_15 := p B2_14 (by omega); have Q5_15 := p Q5_14 (by have := NE.out; omega); have Q6_15 := r Q6_14; have O_15 := s O_14 (by omega); clear p r s h2; obtain ⟨y50_15, y51_15, f50_15, f51_15⟩ := cells2 Q5_15; obtain ⟨y60_15, y61_15, f60_15, f61_15⟩ := cells2 Q6_15; clear B0_14 B1_14 B2_14 O_14 Q5_14 y50_14 y51_14 f50_14 f51_14 Q6_14 y60_14 y61_14 f60_14 f61_14; clear hw_15; skip)
     (try go_wp2_with fail)
     refine hK.out _ _ ?_ fun hHeld => ?_
     ·(try dsimp only)
      exact ⟨by assumption, by assumption⟩
     clear hK K
     (try simp only [Act.put, zS])
     refine wpAnyH_done (by kernel_rfl) ?_ _
     clear y50_15 f50_15 y51_15 f51_15 y60_15 f60_15 y61_15 f61_15
     go_wp2_with fail
     go_meet
     exact ⟨_, _, rfl, rfl, (by have := NE.out; omega), GL5.out, GL6.out, Q5_15, Q6_15, B2_15, O_15⟩
    refine aN rfl fun K hK => ?_
    go_simp
    (obtain ⟨v_16, hw_16⟩ := zX (v_11.alloc (.cells #[.int .u64 0, .int .u64 0] 184)); rw [hw_16]; have hb_16 : Below v_11.heap.size v_11 v_16 := (by rw [← hw_16]; exact zA); have B0_16 := Blk.below B0_11 hb_16 (Blk.lt B0_11); have B1_16 := Blk.below B1_11 hb_16 (Blk.lt B1_11); have B2_16 := Blk.below B2_11 hb_16 (Blk.lt B2_11); have Q5_16 := Blk.below Q5_11 hb_16 (Blk.lt Q5_11); have O_16 := Below.trans O_11 (hb_16.mono O_11.size); have Q6_16 : Blk v_16 v_11.heap.size #[.int .u64 0, .int .u64 0] 184 := (by rw [← hw_16]; exact Blk.new _ _ _); have GL6 := zh (show w.heap.size + 1 + 1 < v_11.heap.size from Blk.lt B2_11); have NE := zh (show v_1.heap.size < v_11.heap.size from Blk.lt Q5_11); obtain ⟨y50_16, y51_16, f50_16, f51_16⟩ := cells2 Q5_16; obtain ⟨y60_16, y61_16, f60_16, f61_16⟩ := cells2 Q6_16; clear B0_11 B1_11 B2_11 O_11 Q5_11 y50_11 y51_11 f50_11 f51_11; clear hb_16 hw_16; skip)
    (try go_wp2_with fail)
    refine hK.out _ _ ?_ fun hHeld => ?_
    ·(try dsimp only)
     exact ⟨by assumption, by assumption⟩
    clear hK K
    (try simp only [Act.put, zS])
    refine wR [3] ?_
    refine aN rfl fun K hK => ?_
    go_simp
    (refine (HRY.out _).mono ?_; rintro e v_17 ⟨rfl, hb_17⟩; have B0_17 := Blk.below B0_16 hb_17 (Blk.lt B0_16); have B1_17 := Blk.below B1_16 hb_17 (Blk.lt B1_16); have B2_17 := Blk.below B2_16 hb_17 (Blk.lt B2_16); have Q5_17 := Blk.below Q5_16 hb_17 (Blk.lt Q5_16); have Q6_17 := Blk.below Q6_16 hb_17 (Blk.lt Q6_16); have O_17 := Below.trans O_16 (hb_17.mono O_16.size); obtain ⟨y50_17, y51_17, f50_17, f51_17⟩ := cells2 Q5_17; obtain ⟨y60_17, y61_17, f60_17, f61_17⟩ := cells2 Q6_17; clear B0_16 B1_16 B2_16 O_16 Q5_16 y50_16 y51_16 f50_16 f51_16 Q6_16 y60_16 y61_16 f60_16 f61_16; clear hb_17; skip)
    (try go_wp2_with fail)
    refine hK.out _ _ ?_ fun hHeld => ?_
    ·(try dsimp only)
     exact ⟨by assumption, by assumption⟩
    clear hK K
    (try simp only [Act.put, zS])
    refine wR [6] ?_
    refine aN rfl fun K hK => ?_
    go_simp
    (obtain ⟨v_18, hw_18⟩ := zX (((v_17.setCell ⟨v_1.heap.size, 0, none⟩ (.int .u64 (a : Int))).setCell ⟨v_1.heap.size, 1, none⟩ (.int .u64 (b : Int)))); rw [hw_18]; obtain ⟨p, r, s⟩ := put2 hw_18; have h2 := GL5.out; have B0_18 := p B0_17 (by omega); have B1_18 := p B1_17 (by omega); have B2_18 := p B2_17 (by omega); have Q6_18 := p Q6_17 (by have := NE.out; omega); have Q5_18 := r Q5_17; have O_18 := s O_17 (by omega); clear p r s h2; obtain ⟨y50_18, y51_18, f50_18, f51_18⟩ := cells2 Q5_18; obtain ⟨y60_18, y61_18, f60_18, f61_18⟩ := cells2 Q6_18; clear B0_17 B1_17 B2_17 O_17 Q5_17 y50_17 y51_17 f50_17 f51_17 Q6_17 y60_17 y61_17 f60_17 f61_17; clear hw_18; skip)
    (try go_wp2_with fail)
    refine hK.out _ _ ?_ fun hHeld => ?_
    ·(try dsimp only)
     exact ⟨by assumption, by assumption⟩
    clear hK K
    (try simp only [Act.put, zS])
    refine wR [7] ?_
    refine aN rfl fun K hK => ?_
    go_simp
    (obtain ⟨v_19, hw_19⟩ := zX (((v_18.setCell ⟨v_11.heap.size, 0, none⟩ (.int .u64 (c : Int))).setCell ⟨v_11.heap.size, 1, none⟩ (.int .u64 (d : Int)))); rw [hw_19]; obtain ⟨p, r, s⟩ := put2 hw_19; have h2 := GL6.out; have B0_19 := p B0_18 (by omega); have B1_19 := p B1_18 (by omega); have B2_19 := p B2_18 (by omega); have Q5_19 := p Q5_18 (by have := NE.out; omega); have Q6_19 := r Q6_18; have O_19 := s O_18 (by omega); clear p r s h2; obtain ⟨y50_19, y51_19, f50_19, f51_19⟩ := cells2 Q5_19; obtain ⟨y60_19, y61_19, f60_19, f61_19⟩ := cells2 Q6_19; clear B0_18 B1_18 B2_18 O_18 Q5_18 y50_18 y51_18 f50_18 f51_18 Q6_18 y60_18 y61_18 f60_18 f61_18; clear hw_19; skip)
    (try go_wp2_with fail)
    refine hK.out _ _ ?_ fun hHeld => ?_
    ·(try dsimp only)
     exact ⟨by assumption, by assumption⟩
    clear hK K
    (try simp only [Act.put, zS])
    refine wpAnyH_done (by kernel_rfl) ?_ _
    clear y50_19 f50_19 y51_19 f51_19 y60_19 f60_19 y61_19 f61_19
    go_wp2_with fail
    go_meet
    exact ⟨_, _, rfl, rfl, (by have := NE.out; omega), GL5.out, GL6.out, Q5_19, Q6_19, B2_19, O_19⟩
   refine aN rfl fun K hK => ?_
   go_simp
   (obtain ⟨v_20, hw_20⟩ := zX (v_1.alloc (.cells #[.int .u64 0, .int .u64 0] 184)); rw [hw_20]; have hb_20 : Below v_1.heap.size v_1 v_20 := (by rw [← hw_20]; exact zA); have B0_20 := Blk.below B0_1 hb_20 (Blk.lt B0_1); have B1_20 := Blk.below B1_1 hb_20 (Blk.lt B1_1); have B2_20 := Blk.below B2_1 hb_20 (Blk.lt B2_1); have O_20 := Below.trans O_1 (hb_20.mono O_1.size); have Q6_20 : Blk v_20 v_1.heap.size #[.int .u64 0, .int .u64 0] 184 := (by rw [← hw_20]; exact Blk.new _ _ _); have GL6 := zh (show w.heap.size + 1 + 1 < v_1.heap.size from Blk.lt B2_1); obtain ⟨y60_20, y61_20, f60_20, f61_20⟩ := cells2 Q6_20; clear B0_1 B1_1 B2_1 O_1; clear hb_20 hw_20; skip)
   (try go_wp2_with fail)
   refine hK.out _ _ ?_ fun hHeld => ?_
   ·(try dsimp only)
    exact ⟨by assumption, by assumption⟩
   clear hK K
   (try simp only [Act.put, zS])
   refine wR [3, 4] ?_
   refine aC rfl (fun K hK => ?_) ?_
   ·skip
    go_simp
    (refine (HRY.out _).mono ?_; rintro e v_21 ⟨rfl, hb_21⟩; have B0_21 := Blk.below B0_20 hb_21 (Blk.lt B0_20); have B1_21 := Blk.below B1_20 hb_21 (Blk.lt B1_20); have B2_21 := Blk.below B2_20 hb_21 (Blk.lt B2_20); have Q6_21 := Blk.below Q6_20 hb_21 (Blk.lt Q6_20); have O_21 := Below.trans O_20 (hb_21.mono O_20.size); obtain ⟨y60_21, y61_21, f60_21, f61_21⟩ := cells2 Q6_21; clear B0_20 B1_20 B2_20 O_20 Q6_20 y60_20 y61_20 f60_20 f61_20; clear hb_21; skip)
    (try go_wp2_with fail)
    refine hK.out _ _ ?_ fun hHeld => ?_
    ·(try dsimp only)
     exact ⟨by assumption, by assumption⟩
    clear hK K
    (try simp only [Act.put, zS])
    refine wR [4] ?_
    refine aN rfl fun K hK => ?_
    go_simp
    (obtain ⟨v_22, hw_22⟩ := zX (v_21.alloc (.cells #[.int .u64 0, .int .u64 0] 184)); rw [hw_22]; have hb_22 : Below v_21.heap.size v_21 v_22 := (by rw [← hw_22]; exact zA); have B0_22 := Blk.below B0_21 hb_22 (Blk.lt B0_21); have B1_22 := Blk.below B1_21 hb_22 (Blk.lt B1_21); have B2_22 := Blk.below B2_21 hb_22 (Blk.lt B2_21); have Q6_22 := Blk.below Q6_21 hb_22 (Blk.lt Q6_21); have O_22 := Below.trans O_21 (hb_22.mono O_21.size); have Q5_22 : Blk v_22 v_21.heap.size #[.int .u64 0, .int .u64 0] 184 := (by rw [← hw_22]; exact Blk.new _ _ _); have GL5 := zh (show w.heap.size + 1 + 1 < v_21.heap.size from Blk.lt B2_21); have NE := zh (show v_1.heap.size < v_21.heap.size from Blk.lt Q6_21); obtain ⟨y50_22, y51_22, f50_22, f51_22⟩ := cells2 Q5_22; obtain ⟨y60_22, y61_22, f60_22, f61_22⟩ := cells2 Q6_22; clear B0_21 B1_21 B2_21 O_21 Q6_21 y60_21 y61_21 f60_21 f61_21; clear hb_22 hw_22; skip)
    (try go_wp2_with fail)
    refine hK.out _ _ ?_ fun hHeld => ?_
    ·(try dsimp only)
     exact ⟨by assumption, by assumption⟩
    clear hK K
    (try simp only [Act.put, zS])
    refine wR [6] ?_
    refine aN rfl fun K hK => ?_
    go_simp
    (obtain ⟨v_23, hw_23⟩ := zX (((v_22.setCell ⟨v_21.heap.size, 0, none⟩ (.int .u64 (a : Int))).setCell ⟨v_21.heap.size, 1, none⟩ (.int .u64 (b : Int)))); rw [hw_23]; obtain ⟨p, r, s⟩ := put2 hw_23; have h2 := GL5.out; have B0_23 := p B0_22 (by omega); have B1_23 := p B1_22 (by omega); have B2_23 := p B2_22 (by omega); have Q6_23 := p Q6_22 (by have := NE.out; omega); have Q5_23 := r Q5_22; have O_23 := s O_22 (by omega); clear p r s h2; obtain ⟨y50_23, y51_23, f50_23, f51_23⟩ := cells2 Q5_23; obtain ⟨y60_23, y61_23, f60_23, f61_23⟩ := cells2 Q6_23; clear B0_22 B1_22 B2_22 O_22 Q5_22 y50_22 y51_22 f50_22 f51_22 Q6_22 y60_22 y61_22 f60_22 f61_22; clear hw_23; skip)
    (try go_wp2_with fail)
    refine hK.out _ _ ?_ fun hHeld => ?_
    ·(try dsimp only)
     exact ⟨by assumption, by assumption⟩
    clear hK K
    (try simp only [Act.put, zS])
    refine wR [7] ?_
    refine aN rfl fun K hK => ?_
    go_simp
    (obtain ⟨v_24, hw_24⟩ := zX (((v_23.setCell ⟨v_1.heap.size, 0, none⟩ (.int .u64 (c : Int))).setCell ⟨v_1.heap.size, 1, none⟩ (.int .u64 (d : Int)))); rw [hw_24]; obtain ⟨p, r, s⟩ := put2 hw_24; have h2 := GL6.out; have B0_24 := p B0_23 (by omega); have B1_24 := p B1_23 (by omega); have B2_24 := p B2_23 (by omega); have Q5_24 := p Q5_23 (by have := NE.out; omega); have Q6_24 := r Q6_23; have O_24 := s O_23 (by omega); clear p r s h2; obtain ⟨y50_24, y51_24, f50_24, f51_24⟩ := cells2 Q5_24; obtain ⟨y60_24, y61_24, f60_24, f61_24⟩ := cells2 Q6_24; clear B0_23 B1_23 B2_23 O_23 Q5_23 y50_23 y51_23 f50_23 f51_23 Q6_23 y60_23 y61_23 f60_23 f61_23; clear hw_24; skip)
    (try go_wp2_with fail)
    refine hK.out _ _ ?_ fun hHeld => ?_
    ·(try dsimp only)
     exact ⟨by assumption, by assumption⟩
    clear hK K
    (try simp only [Act.put, zS])
    refine wpAnyH_done (by kernel_rfl) ?_ _
    clear y50_24 f50_24 y51_24 f51_24 y60_24 f60_24 y61_24 f61_24
    go_wp2_with fail
    go_meet
    exact ⟨_, _, rfl, rfl, (by have := NE.out; omega), GL5.out, GL6.out, Q5_24, Q6_24, B2_24, O_24⟩
   refine aN rfl fun K hK => ?_
   go_simp
   (obtain ⟨v_25, hw_25⟩ := zX (v_20.alloc (.cells #[.int .u64 0, .int .u64 0] 184)); rw [hw_25]; have hb_25 : Below v_20.heap.size v_20 v_25 := (by rw [← hw_25]; exact zA); have B0_25 := Blk.below B0_20 hb_25 (Blk.lt B0_20); have B1_25 := Blk.below B1_20 hb_25 (Blk.lt B1_20); have B2_25 := Blk.below B2_20 hb_25 (Blk.lt B2_20); have Q6_25 := Blk.below Q6_20 hb_25 (Blk.lt Q6_20); have O_25 := Below.trans O_20 (hb_25.mono O_20.size); have Q5_25 : Blk v_25 v_20.heap.size #[.int .u64 0, .int .u64 0] 184 := (by rw [← hw_25]; exact Blk.new _ _ _); have GL5 := zh (show w.heap.size + 1 + 1 < v_20.heap.size from Blk.lt B2_20); have NE := zh (show v_1.heap.size < v_20.heap.size from Blk.lt Q6_20); obtain ⟨y50_25, y51_25, f50_25, f51_25⟩ := cells2 Q5_25; obtain ⟨y60_25, y61_25, f60_25, f61_25⟩ := cells2 Q6_25; clear B0_20 B1_20 B2_20 O_20 Q6_20 y60_20 y61_20 f60_20 f61_20; clear hb_25 hw_25; skip)
   (try go_wp2_with fail)
   refine hK.out _ _ ?_ fun hHeld => ?_
   ·(try dsimp only)
    exact ⟨by assumption, by assumption⟩
   clear hK K
   (try simp only [Act.put, zS])
   refine wR [3] ?_
   refine aN rfl fun K hK => ?_
   go_simp
   (refine (HRY.out _).mono ?_; rintro e v_26 ⟨rfl, hb_26⟩; have B0_26 := Blk.below B0_25 hb_26 (Blk.lt B0_25); have B1_26 := Blk.below B1_25 hb_26 (Blk.lt B1_25); have B2_26 := Blk.below B2_25 hb_26 (Blk.lt B2_25); have Q5_26 := Blk.below Q5_25 hb_26 (Blk.lt Q5_25); have Q6_26 := Blk.below Q6_25 hb_26 (Blk.lt Q6_25); have O_26 := Below.trans O_25 (hb_26.mono O_25.size); obtain ⟨y50_26, y51_26, f50_26, f51_26⟩ := cells2 Q5_26; obtain ⟨y60_26, y61_26, f60_26, f61_26⟩ := cells2 Q6_26; clear B0_25 B1_25 B2_25 O_25 Q5_25 y50_25 y51_25 f50_25 f51_25 Q6_25 y60_25 y61_25 f60_25 f61_25; clear hb_26; skip)
   (try go_wp2_with fail)
   refine hK.out _ _ ?_ fun hHeld => ?_
   ·(try dsimp only)
    exact ⟨by assumption, by assumption⟩
   clear hK K
   (try simp only [Act.put, zS])
   refine wR [6] ?_
   refine aN rfl fun K hK => ?_
   go_simp
   (obtain ⟨v_27, hw_27⟩ := zX (((v_26.setCell ⟨v_20.heap.size, 0, none⟩ (.int .u64 (a : Int))).setCell ⟨v_20.heap.size, 1, none⟩ (.int .u64 (b : Int)))); rw [hw_27]; obtain ⟨p, r, s⟩ := put2 hw_27; have h2 := GL5.out; have B0_27 := p B0_26 (by omega); have B1_27 := p B1_26 (by omega); have B2_27 := p B2_26 (by omega); have Q6_27 := p Q6_26 (by have := NE.out; omega); have Q5_27 := r Q5_26; have O_27 := s O_26 (by omega); clear p r s h2; obtain ⟨y50_27, y51_27, f50_27, f51_27⟩ := cells2 Q5_27; obtain ⟨y60_27, y61_27, f60_27, f61_27⟩ := cells2 Q6_27; clear B0_26 B1_26 B2_26 O_26 Q5_26 y50_26 y51_26 f50_26 f51_26 Q6_26 y60_26 y61_26 f60_26 f61_26; clear hw_27; skip)
   (try go_wp2_with fail)
   refine hK.out _ _ ?_ fun hHeld => ?_
   ·(try dsimp only)
    exact ⟨by assumption, by assumption⟩
   clear hK K
   (try simp only [Act.put, zS])
   refine wR [7] ?_
   refine aN rfl fun K hK => ?_
   go_simp
   (obtain ⟨v_28, hw_28⟩ := zX (((v_27.setCell ⟨v_1.heap.size, 0, none⟩ (.int .u64 (c : Int))).setCell ⟨v_1.heap.size, 1, none⟩ (.int .u64 (d : Int)))); rw [hw_28]; obtain ⟨p, r, s⟩ := put2 hw_28; have h2 := GL6.out; have B0_28 := p B0_27 (by omega); have B1_28 := p B1_27 (by omega); have B2_28 := p B2_27 (by omega); have Q5_28 := p Q5_27 (by have := NE.out; omega); have Q6_28 := r Q6_27; have O_28 := s O_27 (by omega); clear p r s h2; obtain ⟨y50_28, y51_28, f50_28, f51_28⟩ := cells2 Q5_28; obtain ⟨y60_28, y61_28, f60_28, f61_28⟩ := cells2 Q6_28; clear B0_27 B1_27 B2_27 O_27 Q5_27 y50_27 y51_27 f50_27 f51_27 Q6_27 y60_27 y61_27 f60_27 f61_27; clear hw_28; skip)
   (try go_wp2_with fail)
   refine hK.out _ _ ?_ fun hHeld => ?_
   ·(try dsimp only)
    exact ⟨by assumption, by assumption⟩
   clear hK K
   (try simp only [Act.put, zS])
   refine wpAnyH_done (by kernel_rfl) ?_ _
   clear y50_28 f50_28 y51_28 f51_28 y60_28 f60_28 y61_28 f61_28
   go_wp2_with fail
   go_meet
   exact ⟨_, _, rfl, rfl, (by have := NE.out; omega), GL5.out, GL6.out, Q5_28, Q6_28, B2_28, O_28⟩
  refine aC rfl (fun K hK => ?_) ?_
  ·skip
   go_simp
   (obtain ⟨v_29, hw_29⟩ := zX (W0.alloc (.cells #[.int .u64 0, .int .u64 0] 184)); rw [hw_29]; have hb_29 : Below W0.heap.size W0 v_29 := (by rw [← hw_29]; exact zA); have B0_29 := Blk.below B0_0 hb_29 (Blk.lt B0_0); have B1_29 := Blk.below B1_0 hb_29 (Blk.lt B1_0); have B2_29 := Blk.below B2_0 hb_29 (Blk.lt B2_0); have O_29 := Below.trans O_0 (hb_29.mono O_0.size); have Q5_29 : Blk v_29 W0.heap.size #[.int .u64 0, .int .u64 0] 184 := (by rw [← hw_29]; exact Blk.new _ _ _); have GL5 := zh (show w.heap.size + 1 + 1 < W0.heap.size from Blk.lt B2_0); obtain ⟨y50_29, y51_29, f50_29, f51_29⟩ := cells2 Q5_29; clear B0_0 B1_0 B2_0 O_0; clear hb_29 hw_29; skip)
   (try go_wp2_with fail)
   refine hK.out _ _ ?_ fun hHeld => ?_
   ·(try dsimp only)
    exact ⟨by assumption, by assumption⟩
   clear hK K
   (try simp only [Act.put, zS])
   refine wR [1, 5] ?_
   refine aC rfl (fun K hK => ?_) ?_
   ·skip
    go_simp
    (refine (HRX.out _).mono ?_; rintro e v_30 ⟨rfl, hb_30⟩; have B0_30 := Blk.below B0_29 hb_30 (Blk.lt B0_29); have B1_30 := Blk.below B1_29 hb_30 (Blk.lt B1_29); have B2_30 := Blk.below B2_29 hb_30 (Blk.lt B2_29); have Q5_30 := Blk.below Q5_29 hb_30 (Blk.lt Q5_29); have O_30 := Below.trans O_29 (hb_30.mono O_29.size); obtain ⟨y50_30, y51_30, f50_30, f51_30⟩ := cells2 Q5_30; clear B0_29 B1_29 B2_29 O_29 Q5_29 y50_29 y51_29 f50_29 f51_29; clear hb_30; skip)
    (try go_wp2_with fail)
    refine hK.out _ _ ?_ fun hHeld => ?_
    ·(try dsimp only)
     exact ⟨by assumption, by assumption⟩
    clear hK K
    (try simp only [Act.put, zS])
    refine wR [3, 5] ?_
    refine aC rfl (fun K hK => ?_) ?_
    ·skip
     go_simp
     (refine (HRY.out _).mono ?_; rintro e v_31 ⟨rfl, hb_31⟩; have B0_31 := Blk.below B0_30 hb_31 (Blk.lt B0_30); have B1_31 := Blk.below B1_30 hb_31 (Blk.lt B1_30); have B2_31 := Blk.below B2_30 hb_31 (Blk.lt B2_30); have Q5_31 := Blk.below Q5_30 hb_31 (Blk.lt Q5_30); have O_31 := Below.trans O_30 (hb_31.mono O_30.size); obtain ⟨y50_31, y51_31, f50_31, f51_31⟩ := cells2 Q5_31; clear B0_30 B1_30 B2_30 O_30 Q5_30 y50_30 y51_30 f50_30 f51_30; clear hb_31; skip)
     (try go_wp2_with fail)
     refine hK.out _ _ ?_ fun hHeld => ?_
     ·(try dsimp only)
      exact ⟨by assumption, by assumption⟩
     clear hK K
     (try simp only [Act.put, zS])
     refine wR [5] ?_
     refine aN rfl fun K hK => ?_
     go_simp
     (obtain ⟨v_32, hw_32⟩ := zX (v_31.alloc (.cells #[.int .u64 0, .int .u64 0] 184)); rw [hw_32]; have hb_32 : Below v_31.heap.size v_31 v_32 := (by rw [← hw_32]; exact zA); have B0_32 := Blk.below B0_31 hb_32 (Blk.lt B0_31); have B1_32 := Blk.below B1_31 hb_32 (Blk.lt B1_31); have B2_32 := Blk.below B2_31 hb_32 (Blk.lt B2_31); have Q5_32 := Blk.below Q5_31 hb_32 (Blk.lt Q5_31); have O_32 := Below.trans O_31 (hb_32.mono O_31.size); have Q6_32 : Blk v_32 v_31.heap.size #[.int .u64 0, .int .u64 0] 184 := (by rw [← hw_32]; exact Blk.new _ _ _); have GL6 := zh (show w.heap.size + 1 + 1 < v_31.heap.size from Blk.lt B2_31); have NE := zh (show W0.heap.size < v_31.heap.size from Blk.lt Q5_31); obtain ⟨y50_32, y51_32, f50_32, f51_32⟩ := cells2 Q5_32; obtain ⟨y60_32, y61_32, f60_32, f61_32⟩ := cells2 Q6_32; clear B0_31 B1_31 B2_31 O_31 Q5_31 y50_31 y51_31 f50_31 f51_31; clear hb_32 hw_32; skip)
     (try go_wp2_with fail)
     refine hK.out _ _ ?_ fun hHeld => ?_
     ·(try dsimp only)
      exact ⟨by assumption, by assumption⟩
     clear hK K
     (try simp only [Act.put, zS])
     refine wR [6] ?_
     refine aN rfl fun K hK => ?_
     go_simp
     (obtain ⟨v_33, hw_33⟩ := zX (((v_32.setCell ⟨W0.heap.size, 0, none⟩ (.int .u64 (a : Int))).setCell ⟨W0.heap.size, 1, none⟩ (.int .u64 (b : Int)))); rw [hw_33]; obtain ⟨p, r, s⟩ := put2 hw_33; have h2 := GL5.out; have B0_33 := p B0_32 (by omega); have B1_33 := p B1_32 (by omega); have B2_33 := p B2_32 (by omega); have Q6_33 := p Q6_32 (by have := NE.out; omega); have Q5_33 := r Q5_32; have O_33 := s O_32 (by omega); clear p r s h2; obtain ⟨y50_33, y51_33, f50_33, f51_33⟩ := cells2 Q5_33; obtain ⟨y60_33, y61_33, f60_33, f61_33⟩ := cells2 Q6_33; clear B0_32 B1_32 B2_32 O_32 Q5_32 y50_32 y51_32 f50_32 f51_32 Q6_32 y60_32 y61_32 f60_32 f61_32; clear hw_33; skip)
     (try go_wp2_with fail)
     refine hK.out _ _ ?_ fun hHeld => ?_
     ·(try dsimp only)
      exact ⟨by assumption, by assumption⟩
     clear hK K
     (try simp only [Act.put, zS])
     refine wR [7] ?_
     refine aN rfl fun K hK => ?_
     go_simp
     (obtain ⟨v_34, hw_34⟩ := zX (((v_33.setCell ⟨v_31.heap.size, 0, none⟩ (.int .u64 (c : Int))).setCell ⟨v_31.heap.size, 1, none⟩ (.int .u64 (d : Int)))); rw [hw_34]; obtain ⟨p, r, s⟩ := put2 hw_34; have h2 := GL6.out; have B0_34 := p B0_33 (by omega); have B1_34 := p B1_33 (by omega); have B2_34 := p B2_33 (by omega); have Q5_34 := p Q5_33 (by have := NE.out; omega); have Q6_34 := r Q6_33; have O_34 := s O_33 (by omega); clear p r s h2; obtain ⟨y50_34, y51_34, f50_34, f51_34⟩ := cells2 Q5_34; obtain ⟨y60_34, y61_34, f60_34, f61_34⟩ := cells2 Q6_34; clear B0_33 B1_33 B2_33 O_33 Q5_33 y50_33 y51_33 f50_33 f51_33 Q6_33 y60_33 y61_33 f60_33 f61_33; clear hw_34; skip)
     (try go_wp2_with fail)
     refine hK.out _ _ ?_ fun hHeld => ?_
     ·(try dsimp only)
      exact ⟨by assumption, by assumption⟩
     clear hK K
     (try simp only [Act.put, zS])
     refine wpAnyH_done (by kernel_rfl) ?_ _
     clear y50_34 f50_34 y51_34 f51_34 y60_34 f60_34 y61_34 f61_34
     go_wp2_with fail
     go_meet
     exact ⟨_, _, rfl, rfl, (by have := NE.out; omega), GL5.out, GL6.out, Q5_34, Q6_34, B2_34, O_34⟩
    refine aN rfl fun K hK => ?_
    go_simp
    (obtain ⟨v_35, hw_35⟩ := zX (v_30.alloc (.cells #[.int .u64 0, .int .u64 0] 184)); rw [hw_35]; have hb_35 : Below v_30.heap.size v_30 v_35 := (by rw [← hw_35]; exact zA); have B0_35 := Blk.below B0_30 hb_35 (Blk.lt B0_30); have B1_35 := Blk.below B1_30 hb_35 (Blk.lt B1_30); have B2_35 := Blk.below B2_30 hb_35 (Blk.lt B2_30); have Q5_35 := Blk.below Q5_30 hb_35 (Blk.lt Q5_30); have O_35 := Below.trans O_30 (hb_35.mono O_30.size); have Q6_35 : Blk v_35 v_30.heap.size #[.int .u64 0, .int .u64 0] 184 := (by rw [← hw_35]; exact Blk.new _ _ _); have GL6 := zh (show w.heap.size + 1 + 1 < v_30.heap.size from Blk.lt B2_30); have NE := zh (show W0.heap.size < v_30.heap.size from Blk.lt Q5_30); obtain ⟨y50_35, y51_35, f50_35, f51_35⟩ := cells2 Q5_35; obtain ⟨y60_35, y61_35, f60_35, f61_35⟩ := cells2 Q6_35; clear B0_30 B1_30 B2_30 O_30 Q5_30 y50_30 y51_30 f50_30 f51_30; clear hb_35 hw_35; skip)
    (try go_wp2_with fail)
    refine hK.out _ _ ?_ fun hHeld => ?_
    ·(try dsimp only)
     exact ⟨by assumption, by assumption⟩
    clear hK K
    (try simp only [Act.put, zS])
    refine wR [3] ?_
    refine aN rfl fun K hK => ?_
    go_simp
    (refine (HRY.out _).mono ?_; rintro e v_36 ⟨rfl, hb_36⟩; have B0_36 := Blk.below B0_35 hb_36 (Blk.lt B0_35); have B1_36 := Blk.below B1_35 hb_36 (Blk.lt B1_35); have B2_36 := Blk.below B2_35 hb_36 (Blk.lt B2_35); have Q5_36 := Blk.below Q5_35 hb_36 (Blk.lt Q5_35); have Q6_36 := Blk.below Q6_35 hb_36 (Blk.lt Q6_35); have O_36 := Below.trans O_35 (hb_36.mono O_35.size); obtain ⟨y50_36, y51_36, f50_36, f51_36⟩ := cells2 Q5_36; obtain ⟨y60_36, y61_36, f60_36, f61_36⟩ := cells2 Q6_36; clear B0_35 B1_35 B2_35 O_35 Q5_35 y50_35 y51_35 f50_35 f51_35 Q6_35 y60_35 y61_35 f60_35 f61_35; clear hb_36; skip)
    (try go_wp2_with fail)
    refine hK.out _ _ ?_ fun hHeld => ?_
    ·(try dsimp only)
     exact ⟨by assumption, by assumption⟩
    clear hK K
    (try simp only [Act.put, zS])
    refine wR [6] ?_
    refine aN rfl fun K hK => ?_
    go_simp
    (obtain ⟨v_37, hw_37⟩ := zX (((v_36.setCell ⟨W0.heap.size, 0, none⟩ (.int .u64 (a : Int))).setCell ⟨W0.heap.size, 1, none⟩ (.int .u64 (b : Int)))); rw [hw_37]; obtain ⟨p, r, s⟩ := put2 hw_37; have h2 := GL5.out; have B0_37 := p B0_36 (by omega); have B1_37 := p B1_36 (by omega); have B2_37 := p B2_36 (by omega); have Q6_37 := p Q6_36 (by have := NE.out; omega); have Q5_37 := r Q5_36; have O_37 := s O_36 (by omega); clear p r s h2; obtain ⟨y50_37, y51_37, f50_37, f51_37⟩ := cells2 Q5_37; obtain ⟨y60_37, y61_37, f60_37, f61_37⟩ := cells2 Q6_37; clear B0_36 B1_36 B2_36 O_36 Q5_36 y50_36 y51_36 f50_36 f51_36 Q6_36 y60_36 y61_36 f60_36 f61_36; clear hw_37; skip)
    (try go_wp2_with fail)
    refine hK.out _ _ ?_ fun hHeld => ?_
    ·(try dsimp only)
     exact ⟨by assumption, by assumption⟩
    clear hK K
    (try simp only [Act.put, zS])
    refine wR [7] ?_
    refine aN rfl fun K hK => ?_
    go_simp
    (obtain ⟨v_38, hw_38⟩ := zX (((v_37.setCell ⟨v_30.heap.size, 0, none⟩ (.int .u64 (c : Int))).setCell ⟨v_30.heap.size, 1, none⟩ (.int .u64 (d : Int)))); rw [hw_38]; obtain ⟨p, r, s⟩ := put2 hw_38; have h2 := GL6.out; have B0_38 := p B0_37 (by omega); have B1_38 := p B1_37 (by omega); have B2_38 := p B2_37 (by omega); have Q5_38 := p Q5_37 (by have := NE.out; omega); have Q6_38 := r Q6_37; have O_38 := s O_37 (by omega); clear p r s h2; obtain ⟨y50_38, y51_38, f50_38, f51_38⟩ := cells2 Q5_38; obtain ⟨y60_38, y61_38, f60_38, f61_38⟩ := cells2 Q6_38; clear B0_37 B1_37 B2_37 O_37 Q5_37 y50_37 y51_37 f50_37 f51_37 Q6_37 y60_37 y61_37 f60_37 f61_37; clear hw_38; skip)
    (try go_wp2_with fail)
    refine hK.out _ _ ?_ fun hHeld => ?_
    ·(try dsimp only)
     exact ⟨by assumption, by assumption⟩
    clear hK K
    (try simp only [Act.put, zS])
    refine wpAnyH_done (by kernel_rfl) ?_ _
    clear y50_38 f50_38 y51_38 f51_38 y60_38 f60_38 y61_38 f61_38
    go_wp2_with fail
    go_meet
    exact ⟨_, _, rfl, rfl, (by have := NE.out; omega), GL5.out, GL6.out, Q5_38, Q6_38, B2_38, O_38⟩
   refine aN rfl fun K hK => ?_
   go_simp
   (obtain ⟨v_39, hw_39⟩ := zX (v_29.alloc (.cells #[.int .u64 0, .int .u64 0] 184)); rw [hw_39]; have hb_39 : Below v_29.heap.size v_29 v_39 := (by rw [← hw_39]; exact zA); have B0_39 := Blk.below B0_29 hb_39 (Blk.lt B0_29); have B1_39 := Blk.below B1_29 hb_39 (Blk.lt B1_29); have B2_39 := Blk.below B2_29 hb_39 (Blk.lt B2_29); have Q5_39 := Blk.below Q5_29 hb_39 (Blk.lt Q5_29); have O_39 := Below.trans O_29 (hb_39.mono O_29.size); have Q6_39 : Blk v_39 v_29.heap.size #[.int .u64 0, .int .u64 0] 184 := (by rw [← hw_39]; exact Blk.new _ _ _); have GL6 := zh (show w.heap.size + 1 + 1 < v_29.heap.size from Blk.lt B2_29); have NE := zh (show W0.heap.size < v_29.heap.size from Blk.lt Q5_29); obtain ⟨y50_39, y51_39, f50_39, f51_39⟩ := cells2 Q5_39; obtain ⟨y60_39, y61_39, f60_39, f61_39⟩ := cells2 Q6_39; clear B0_29 B1_29 B2_29 O_29 Q5_29 y50_29 y51_29 f50_29 f51_29; clear hb_39 hw_39; skip)
   (try go_wp2_with fail)
   refine hK.out _ _ ?_ fun hHeld => ?_
   ·(try dsimp only)
    exact ⟨by assumption, by assumption⟩
   clear hK K
   (try simp only [Act.put, zS])
   refine wR [1] ?_
   refine aN rfl fun K hK => ?_
   go_simp
   (refine (HRX.out _).mono ?_; rintro e v_40 ⟨rfl, hb_40⟩; have B0_40 := Blk.below B0_39 hb_40 (Blk.lt B0_39); have B1_40 := Blk.below B1_39 hb_40 (Blk.lt B1_39); have B2_40 := Blk.below B2_39 hb_40 (Blk.lt B2_39); have Q5_40 := Blk.below Q5_39 hb_40 (Blk.lt Q5_39); have Q6_40 := Blk.below Q6_39 hb_40 (Blk.lt Q6_39); have O_40 := Below.trans O_39 (hb_40.mono O_39.size); obtain ⟨y50_40, y51_40, f50_40, f51_40⟩ := cells2 Q5_40; obtain ⟨y60_40, y61_40, f60_40, f61_40⟩ := cells2 Q6_40; clear B0_39 B1_39 B2_39 O_39 Q5_39 y50_39 y51_39 f50_39 f51_39 Q6_39 y60_39 y61_39 f60_39 f61_39; clear hb_40; skip)
   (try go_wp2_with fail)
   refine hK.out _ _ ?_ fun hHeld => ?_
   ·(try dsimp only)
    exact ⟨by assumption, by assumption⟩
   clear hK K
   (try simp only [Act.put, zS])
   refine wR [3] ?_
   refine aN rfl fun K hK => ?_
   go_simp
   (refine (HRY.out _).mono ?_; rintro e v_41 ⟨rfl, hb_41⟩; have B0_41 := Blk.below B0_40 hb_41 (Blk.lt B0_40); have B1_41 := Blk.below B1_40 hb_41 (Blk.lt B1_40); have B2_41 := Blk.below B2_40 hb_41 (Blk.lt B2_40); have Q5_41 := Blk.below Q5_40 hb_41 (Blk.lt Q5_40); have Q6_41 := Blk.below Q6_40 hb_41 (Blk.lt Q6_40); have O_41 := Below.trans O_40 (hb_41.mono O_40.size); obtain ⟨y50_41, y51_41, f50_41, f51_41⟩ := cells2 Q5_41; obtain ⟨y60_41, y61_41, f60_41, f61_41⟩ := cells2 Q6_41; clear B0_40 B1_40 B2_40 O_40 Q5_40 y50_40 y51_40 f50_40 f51_40 Q6_40 y60_40 y61_40 f60_40 f61_40; clear hb_41; skip)
   (try go_wp2_with fail)
   refine hK.out _ _ ?_ fun hHeld => ?_
   ·(try dsimp only)
    exact ⟨by assumption, by assumption⟩
   clear hK K
   (try simp only [Act.put, zS])
   refine wR [6] ?_
   refine aN rfl fun K hK => ?_
   go_simp
   (obtain ⟨v_42, hw_42⟩ := zX (((v_41.setCell ⟨W0.heap.size, 0, none⟩ (.int .u64 (a : Int))).setCell ⟨W0.heap.size, 1, none⟩ (.int .u64 (b : Int)))); rw [hw_42]; obtain ⟨p, r, s⟩ := put2 hw_42; have h2 := GL5.out; have B0_42 := p B0_41 (by omega); have B1_42 := p B1_41 (by omega); have B2_42 := p B2_41 (by omega); have Q6_42 := p Q6_41 (by have := NE.out; omega); have Q5_42 := r Q5_41; have O_42 := s O_41 (by omega); clear p r s h2; obtain ⟨y50_42, y51_42, f50_42, f51_42⟩ := cells2 Q5_42; obtain ⟨y60_42, y61_42, f60_42, f61_42⟩ := cells2 Q6_42; clear B0_41 B1_41 B2_41 O_41 Q5_41 y50_41 y51_41 f50_41 f51_41 Q6_41 y60_41 y61_41 f60_41 f61_41; clear hw_42; skip)
   (try go_wp2_with fail)
   refine hK.out _ _ ?_ fun hHeld => ?_
   ·(try dsimp only)
    exact ⟨by assumption, by assumption⟩
   clear hK K
   (try simp only [Act.put, zS])
   refine wR [7] ?_
   refine aN rfl fun K hK => ?_
   go_simp
   (obtain ⟨v_43, hw_43⟩ := zX (((v_42.setCell ⟨v_29.heap.size, 0, none⟩ (.int .u64 (c : Int))).setCell ⟨v_29.heap.size, 1, none⟩ (.int .u64 (d : Int)))); rw [hw_43]; obtain ⟨p, r, s⟩ := put2 hw_43; have h2 := GL6.out; have B0_43 := p B0_42 (by omega); have B1_43 := p B1_42 (by omega); have B2_43 := p B2_42 (by omega); have Q5_43 := p Q5_42 (by have := NE.out; omega); have Q6_43 := r Q6_42; have O_43 := s O_42 (by omega); clear p r s h2; obtain ⟨y50_43, y51_43, f50_43, f51_43⟩ := cells2 Q5_43; obtain ⟨y60_43, y61_43, f60_43, f61_43⟩ := cells2 Q6_43; clear B0_42 B1_42 B2_42 O_42 Q5_42 y50_42 y51_42 f50_42 f51_42 Q6_42 y60_42 y61_42 f60_42 f61_42; clear hw_43; skip)
   (try go_wp2_with fail)
   refine hK.out _ _ ?_ fun hHeld => ?_
   ·(try dsimp only)
    exact ⟨by assumption, by assumption⟩
   clear hK K
   (try simp only [Act.put, zS])
   refine wpAnyH_done (by kernel_rfl) ?_ _
   clear y50_43 f50_43 y51_43 f51_43 y60_43 f60_43 y61_43 f61_43
   go_wp2_with fail
   go_meet
   exact ⟨_, _, rfl, rfl, (by have := NE.out; omega), GL5.out, GL6.out, Q5_43, Q6_43, B2_43, O_43⟩
  refine aN rfl fun K hK => ?_
  go_simp
  (obtain ⟨v_44, hw_44⟩ := zX (W0.alloc (.cells #[.int .u64 0, .int .u64 0] 184)); rw [hw_44]; have hb_44 : Below W0.heap.size W0 v_44 := (by rw [← hw_44]; exact zA); have B0_44 := Blk.below B0_0 hb_44 (Blk.lt B0_0); have B1_44 := Blk.below B1_0 hb_44 (Blk.lt B1_0); have B2_44 := Blk.below B2_0 hb_44 (Blk.lt B2_0); have O_44 := Below.trans O_0 (hb_44.mono O_0.size); have Q6_44 : Blk v_44 W0.heap.size #[.int .u64 0, .int .u64 0] 184 := (by rw [← hw_44]; exact Blk.new _ _ _); have GL6 := zh (show w.heap.size + 1 + 1 < W0.heap.size from Blk.lt B2_0); obtain ⟨y60_44, y61_44, f60_44, f61_44⟩ := cells2 Q6_44; clear B0_0 B1_0 B2_0 O_0; clear hb_44 hw_44; skip)
  (try go_wp2_with fail)
  refine hK.out _ _ ?_ fun hHeld => ?_
  ·(try dsimp only)
   exact ⟨by assumption, by assumption⟩
  clear hK K
  (try simp only [Act.put, zS])
  refine wR [1, 4] ?_
  refine aC rfl (fun K hK => ?_) ?_
  ·skip
   go_simp
   (refine (HRX.out _).mono ?_; rintro e v_45 ⟨rfl, hb_45⟩; have B0_45 := Blk.below B0_44 hb_45 (Blk.lt B0_44); have B1_45 := Blk.below B1_44 hb_45 (Blk.lt B1_44); have B2_45 := Blk.below B2_44 hb_45 (Blk.lt B2_44); have Q6_45 := Blk.below Q6_44 hb_45 (Blk.lt Q6_44); have O_45 := Below.trans O_44 (hb_45.mono O_44.size); obtain ⟨y60_45, y61_45, f60_45, f61_45⟩ := cells2 Q6_45; clear B0_44 B1_44 B2_44 O_44 Q6_44 y60_44 y61_44 f60_44 f61_44; clear hb_45; skip)
   (try go_wp2_with fail)
   refine hK.out _ _ ?_ fun hHeld => ?_
   ·(try dsimp only)
    exact ⟨by assumption, by assumption⟩
   clear hK K
   (try simp only [Act.put, zS])
   refine wR [3, 4] ?_
   refine aC rfl (fun K hK => ?_) ?_
   ·skip
    go_simp
    (refine (HRY.out _).mono ?_; rintro e v_46 ⟨rfl, hb_46⟩; have B0_46 := Blk.below B0_45 hb_46 (Blk.lt B0_45); have B1_46 := Blk.below B1_45 hb_46 (Blk.lt B1_45); have B2_46 := Blk.below B2_45 hb_46 (Blk.lt B2_45); have Q6_46 := Blk.below Q6_45 hb_46 (Blk.lt Q6_45); have O_46 := Below.trans O_45 (hb_46.mono O_45.size); obtain ⟨y60_46, y61_46, f60_46, f61_46⟩ := cells2 Q6_46; clear B0_45 B1_45 B2_45 O_45 Q6_45 y60_45 y61_45 f60_45 f61_45; clear hb_46; skip)
    (try go_wp2_with fail)
    refine hK.out _ _ ?_ fun hHeld => ?_
    ·(try dsimp only)
     exact ⟨by assumption, by assumption⟩
    clear hK K
    (try simp only [Act.put, zS])
    refine wR [4] ?_
    refine aN rfl fun K hK => ?_
    go_simp
    (obtain ⟨v_47, hw_47⟩ := zX (v_46.alloc (.cells #[.int .u64 0, .int .u64 0] 184)); rw [hw_47]; have hb_47 : Below v_46.heap.size v_46 v_47 := (by rw [← hw_47]; exact zA); have B0_47 := Blk.below B0_46 hb_47 (Blk.lt B0_46); have B1_47 := Blk.below B1_46 hb_47 (Blk.lt B1_46); have B2_47 := Blk.below B2_46 hb_47 (Blk.lt B2_46); have Q6_47 := Blk.below Q6_46 hb_47 (Blk.lt Q6_46); have O_47 := Below.trans O_46 (hb_47.mono O_46.size); have Q5_47 : Blk v_47 v_46.heap.size #[.int .u64 0, .int .u64 0] 184 := (by rw [← hw_47]; exact Blk.new _ _ _); have GL5 := zh (show w.heap.size + 1 + 1 < v_46.heap.size from Blk.lt B2_46); have NE := zh (show W0.heap.size < v_46.heap.size from Blk.lt Q6_46); obtain ⟨y50_47, y51_47, f50_47, f51_47⟩ := cells2 Q5_47; obtain ⟨y60_47, y61_47, f60_47, f61_47⟩ := cells2 Q6_47; clear B0_46 B1_46 B2_46 O_46 Q6_46 y60_46 y61_46 f60_46 f61_46; clear hb_47 hw_47; skip)
    (try go_wp2_with fail)
    refine hK.out _ _ ?_ fun hHeld => ?_
    ·(try dsimp only)
     exact ⟨by assumption, by assumption⟩
    clear hK K
    (try simp only [Act.put, zS])
    refine wR [6] ?_
    refine aN rfl fun K hK => ?_
    go_simp
    (obtain ⟨v_48, hw_48⟩ := zX (((v_47.setCell ⟨v_46.heap.size, 0, none⟩ (.int .u64 (a : Int))).setCell ⟨v_46.heap.size, 1, none⟩ (.int .u64 (b : Int)))); rw [hw_48]; obtain ⟨p, r, s⟩ := put2 hw_48; have h2 := GL5.out; have B0_48 := p B0_47 (by omega); have B1_48 := p B1_47 (by omega); have B2_48 := p B2_47 (by omega); have Q6_48 := p Q6_47 (by have := NE.out; omega); have Q5_48 := r Q5_47; have O_48 := s O_47 (by omega); clear p r s h2; obtain ⟨y50_48, y51_48, f50_48, f51_48⟩ := cells2 Q5_48; obtain ⟨y60_48, y61_48, f60_48, f61_48⟩ := cells2 Q6_48; clear B0_47 B1_47 B2_47 O_47 Q5_47 y50_47 y51_47 f50_47 f51_47 Q6_47 y60_47 y61_47 f60_47 f61_47; clear hw_48; skip)
    (try go_wp2_with fail)
    refine hK.out _ _ ?_ fun hHeld => ?_
    ·(try dsimp only)
     exact ⟨by assumption, by assumption⟩
    clear hK K
    (try simp only [Act.put, zS])
    refine wR [7] ?_
    refine aN rfl fun K hK => ?_
    go_simp
    (obtain ⟨v_49, hw_49⟩ := zX (((v_48.setCell ⟨W0.heap.size, 0, none⟩ (.int .u64 (c : Int))).setCell ⟨W0.heap.size, 1, none⟩ (.int .u64 (d : Int)))); rw [hw_49]; obtain ⟨p, r, s⟩ := put2 hw_49; have h2 := GL6.out; have B0_49 := p B0_48 (by omega); have B1_49 := p B1_48 (by omega); have B2_49 := p B2_48 (by omega); have Q5_49 := p Q5_48 (by have := NE.out; omega); have Q6_49 := r Q6_48; have O_49 := s O_48 (by omega); clear p r s h2; obtain ⟨y50_49, y51_49, f50_49, f51_49⟩ := cells2 Q5_49; obtain ⟨y60_49, y61_49, f60_49, f61_49⟩ := cells2 Q6_49; clear B0_48 B1_48 B2_48 O_48 Q5_48 y50_48 y51_48 f50_48 f51_48 Q6_48 y60_48 y61_48 f60_48 f61_48; clear hw_49; skip)
    (try go_wp2_with fail)
    refine hK.out _ _ ?_ fun hHeld => ?_
    ·(try dsimp only)
     exact ⟨by assumption, by assumption⟩
    clear hK K
    (try simp only [Act.put, zS])
    refine wpAnyH_done (by kernel_rfl) ?_ _
    clear y50_49 f50_49 y51_49 f51_49 y60_49 f60_49 y61_49 f61_49
    go_wp2_with fail
    go_meet
    exact ⟨_, _, rfl, rfl, (by have := NE.out; omega), GL5.out, GL6.out, Q5_49, Q6_49, B2_49, O_49⟩
   refine aN rfl fun K hK => ?_
   go_simp
   (obtain ⟨v_50, hw_50⟩ := zX (v_45.alloc (.cells #[.int .u64 0, .int .u64 0] 184)); rw [hw_50]; have hb_50 : Below v_45.heap.size v_45 v_50 := (by rw [← hw_50]; exact zA); have B0_50 := Blk.below B0_45 hb_50 (Blk.lt B0_45); have B1_50 := Blk.below B1_45 hb_50 (Blk.lt B1_45); have B2_50 := Blk.below B2_45 hb_50 (Blk.lt B2_45); have Q6_50 := Blk.below Q6_45 hb_50 (Blk.lt Q6_45); have O_50 := Below.trans O_45 (hb_50.mono O_45.size); have Q5_50 : Blk v_50 v_45.heap.size #[.int .u64 0, .int .u64 0] 184 := (by rw [← hw_50]; exact Blk.new _ _ _); have GL5 := zh (show w.heap.size + 1 + 1 < v_45.heap.size from Blk.lt B2_45); have NE := zh (show W0.heap.size < v_45.heap.size from Blk.lt Q6_45); obtain ⟨y50_50, y51_50, f50_50, f51_50⟩ := cells2 Q5_50; obtain ⟨y60_50, y61_50, f60_50, f61_50⟩ := cells2 Q6_50; clear B0_45 B1_45 B2_45 O_45 Q6_45 y60_45 y61_45 f60_45 f61_45; clear hb_50 hw_50; skip)
   (try go_wp2_with fail)
   refine hK.out _ _ ?_ fun hHeld => ?_
   ·(try dsimp only)
    exact ⟨by assumption, by assumption⟩
   clear hK K
   (try simp only [Act.put, zS])
   refine wR [3] ?_
   refine aN rfl fun K hK => ?_
   go_simp
   (refine (HRY.out _).mono ?_; rintro e v_51 ⟨rfl, hb_51⟩; have B0_51 := Blk.below B0_50 hb_51 (Blk.lt B0_50); have B1_51 := Blk.below B1_50 hb_51 (Blk.lt B1_50); have B2_51 := Blk.below B2_50 hb_51 (Blk.lt B2_50); have Q5_51 := Blk.below Q5_50 hb_51 (Blk.lt Q5_50); have Q6_51 := Blk.below Q6_50 hb_51 (Blk.lt Q6_50); have O_51 := Below.trans O_50 (hb_51.mono O_50.size); obtain ⟨y50_51, y51_51, f50_51, f51_51⟩ := cells2 Q5_51; obtain ⟨y60_51, y61_51, f60_51, f61_51⟩ := cells2 Q6_51; clear B0_50 B1_50 B2_50 O_50 Q5_50 y50_50 y51_50 f50_50 f51_50 Q6_50 y60_50 y61_50 f60_50 f61_50; clear hb_51; skip)
   (try go_wp2_with fail)
   refine hK.out _ _ ?_ fun hHeld => ?_
   ·(try dsimp only)
    exact ⟨by assumption, by assumption⟩
   clear hK K
   (try simp only [Act.put, zS])
   refine wR [6] ?_
   refine aN rfl fun K hK => ?_
   go_simp
   (obtain ⟨v_52, hw_52⟩ := zX (((v_51.setCell ⟨v_45.heap.size, 0, none⟩ (.int .u64 (a : Int))).setCell ⟨v_45.heap.size, 1, none⟩ (.int .u64 (b : Int)))); rw [hw_52]; obtain ⟨p, r, s⟩ := put2 hw_52; have h2 := GL5.out; have B0_52 := p B0_51 (by omega); have B1_52 := p B1_51 (by omega); have B2_52 := p B2_51 (by omega); have Q6_52 := p Q6_51 (by have := NE.out; omega); have Q5_52 := r Q5_51; have O_52 := s O_51 (by omega); clear p r s h2; obtain ⟨y50_52, y51_52, f50_52, f51_52⟩ := cells2 Q5_52; obtain ⟨y60_52, y61_52, f60_52, f61_52⟩ := cells2 Q6_52; clear B0_51 B1_51 B2_51 O_51 Q5_51 y50_51 y51_51 f50_51 f51_51 Q6_51 y60_51 y61_51 f60_51 f61_51; clear hw_52; skip)
   (try go_wp2_with fail)
   refine hK.out _ _ ?_ fun hHeld => ?_
   ·(try dsimp only)
    exact ⟨by assumption, by assumption⟩
   clear hK K
   (try simp only [Act.put, zS])
   refine wR [7] ?_
   refine aN rfl fun K hK => ?_
   go_simp
   (obtain ⟨v_53, hw_53⟩ := zX (((v_52.setCell ⟨W0.heap.size, 0, none⟩ (.int .u64 (c : Int))).setCell ⟨W0.heap.size, 1, none⟩ (.int .u64 (d : Int)))); rw [hw_53]; obtain ⟨p, r, s⟩ := put2 hw_53; have h2 := GL6.out; have B0_53 := p B0_52 (by omega); have B1_53 := p B1_52 (by omega); have B2_53 := p B2_52 (by omega); have Q5_53 := p Q5_52 (by have := NE.out; omega); have Q6_53 := r Q6_52; have O_53 := s O_52 (by omega); clear p r s h2; obtain ⟨y50_53, y51_53, f50_53, f51_53⟩ := cells2 Q5_53; obtain ⟨y60_53, y61_53, f60_53, f61_53⟩ := cells2 Q6_53; clear B0_52 B1_52 B2_52 O_52 Q5_52 y50_52 y51_52 f50_52 f51_52 Q6_52 y60_52 y61_52 f60_52 f61_52; clear hw_53; skip)
   (try go_wp2_with fail)
   refine hK.out _ _ ?_ fun hHeld => ?_
   ·(try dsimp only)
    exact ⟨by assumption, by assumption⟩
   clear hK K
   (try simp only [Act.put, zS])
   refine wpAnyH_done (by kernel_rfl) ?_ _
   clear y50_53 f50_53 y51_53 f51_53 y60_53 f60_53 y61_53 f61_53
   go_wp2_with fail
   go_meet
   exact ⟨_, _, rfl, rfl, (by have := NE.out; omega), GL5.out, GL6.out, Q5_53, Q6_53, B2_53, O_53⟩
  refine aN rfl fun K hK => ?_
  go_simp
  (obtain ⟨v_54, hw_54⟩ := zX (v_44.alloc (.cells #[.int .u64 0, .int .u64 0] 184)); rw [hw_54]; have hb_54 : Below v_44.heap.size v_44 v_54 := (by rw [← hw_54]; exact zA); have B0_54 := Blk.below B0_44 hb_54 (Blk.lt B0_44); have B1_54 := Blk.below B1_44 hb_54 (Blk.lt B1_44); have B2_54 := Blk.below B2_44 hb_54 (Blk.lt B2_44); have Q6_54 := Blk.below Q6_44 hb_54 (Blk.lt Q6_44); have O_54 := Below.trans O_44 (hb_54.mono O_44.size); have Q5_54 : Blk v_54 v_44.heap.size #[.int .u64 0, .int .u64 0] 184 := (by rw [← hw_54]; exact Blk.new _ _ _); have GL5 := zh (show w.heap.size + 1 + 1 < v_44.heap.size from Blk.lt B2_44); have NE := zh (show W0.heap.size < v_44.heap.size from Blk.lt Q6_44); obtain ⟨y50_54, y51_54, f50_54, f51_54⟩ := cells2 Q5_54; obtain ⟨y60_54, y61_54, f60_54, f61_54⟩ := cells2 Q6_54; clear B0_44 B1_44 B2_44 O_44 Q6_44 y60_44 y61_44 f60_44 f61_44; clear hb_54 hw_54; skip)
  (try go_wp2_with fail)
  refine hK.out _ _ ?_ fun hHeld => ?_
  ·(try dsimp only)
   exact ⟨by assumption, by assumption⟩
  clear hK K
  (try simp only [Act.put, zS])
  refine wR [1] ?_
  refine aN rfl fun K hK => ?_
  go_simp
  (refine (HRX.out _).mono ?_; rintro e v_55 ⟨rfl, hb_55⟩; have B0_55 := Blk.below B0_54 hb_55 (Blk.lt B0_54); have B1_55 := Blk.below B1_54 hb_55 (Blk.lt B1_54); have B2_55 := Blk.below B2_54 hb_55 (Blk.lt B2_54); have Q5_55 := Blk.below Q5_54 hb_55 (Blk.lt Q5_54); have Q6_55 := Blk.below Q6_54 hb_55 (Blk.lt Q6_54); have O_55 := Below.trans O_54 (hb_55.mono O_54.size); obtain ⟨y50_55, y51_55, f50_55, f51_55⟩ := cells2 Q5_55; obtain ⟨y60_55, y61_55, f60_55, f61_55⟩ := cells2 Q6_55; clear B0_54 B1_54 B2_54 O_54 Q5_54 y50_54 y51_54 f50_54 f51_54 Q6_54 y60_54 y61_54 f60_54 f61_54; clear hb_55; skip)
  (try go_wp2_with fail)
  refine hK.out _ _ ?_ fun hHeld => ?_
  ·(try dsimp only)
   exact ⟨by assumption, by assumption⟩
  clear hK K
  (try simp only [Act.put, zS])
  refine wR [3] ?_
  refine aN rfl fun K hK => ?_
  go_simp
  (refine (HRY.out _).mono ?_; rintro e v_56 ⟨rfl, hb_56⟩; have B0_56 := Blk.below B0_55 hb_56 (Blk.lt B0_55); have B1_56 := Blk.below B1_55 hb_56 (Blk.lt B1_55); have B2_56 := Blk.below B2_55 hb_56 (Blk.lt B2_55); have Q5_56 := Blk.below Q5_55 hb_56 (Blk.lt Q5_55); have Q6_56 := Blk.below Q6_55 hb_56 (Blk.lt Q6_55); have O_56 := Below.trans O_55 (hb_56.mono O_55.size); obtain ⟨y50_56, y51_56, f50_56, f51_56⟩ := cells2 Q5_56; obtain ⟨y60_56, y61_56, f60_56, f61_56⟩ := cells2 Q6_56; clear B0_55 B1_55 B2_55 O_55 Q5_55 y50_55 y51_55 f50_55 f51_55 Q6_55 y60_55 y61_55 f60_55 f61_55; clear hb_56; skip)
  (try go_wp2_with fail)
  refine hK.out _ _ ?_ fun hHeld => ?_
  ·(try dsimp only)
   exact ⟨by assumption, by assumption⟩
  clear hK K
  (try simp only [Act.put, zS])
  refine wR [6] ?_
  refine aN rfl fun K hK => ?_
  go_simp
  (obtain ⟨v_57, hw_57⟩ := zX (((v_56.setCell ⟨v_44.heap.size, 0, none⟩ (.int .u64 (a : Int))).setCell ⟨v_44.heap.size, 1, none⟩ (.int .u64 (b : Int)))); rw [hw_57]; obtain ⟨p, r, s⟩ := put2 hw_57; have h2 := GL5.out; have B0_57 := p B0_56 (by omega); have B1_57 := p B1_56 (by omega); have B2_57 := p B2_56 (by omega); have Q6_57 := p Q6_56 (by have := NE.out; omega); have Q5_57 := r Q5_56; have O_57 := s O_56 (by omega); clear p r s h2; obtain ⟨y50_57, y51_57, f50_57, f51_57⟩ := cells2 Q5_57; obtain ⟨y60_57, y61_57, f60_57, f61_57⟩ := cells2 Q6_57; clear B0_56 B1_56 B2_56 O_56 Q5_56 y50_56 y51_56 f50_56 f51_56 Q6_56 y60_56 y61_56 f60_56 f61_56; clear hw_57; skip)
  (try go_wp2_with fail)
  refine hK.out _ _ ?_ fun hHeld => ?_
  ·(try dsimp only)
   exact ⟨by assumption, by assumption⟩
  clear hK K
  (try simp only [Act.put, zS])
  refine wR [7] ?_
  refine aN rfl fun K hK => ?_
  go_simp
  (obtain ⟨v_58, hw_58⟩ := zX (((v_57.setCell ⟨W0.heap.size, 0, none⟩ (.int .u64 (c : Int))).setCell ⟨W0.heap.size, 1, none⟩ (.int .u64 (d : Int)))); rw [hw_58]; obtain ⟨p, r, s⟩ := put2 hw_58; have h2 := GL6.out; have B0_58 := p B0_57 (by omega); have B1_58 := p B1_57 (by omega); have B2_58 := p B2_57 (by omega); have Q5_58 := p Q5_57 (by have := NE.out; omega); have Q6_58 := r Q6_57; have O_58 := s O_57 (by omega); clear p r s h2; obtain ⟨y50_58, y51_58, f50_58, f51_58⟩ := cells2 Q5_58; obtain ⟨y60_58, y61_58, f60_58, f61_58⟩ := cells2 Q6_58; clear B0_57 B1_57 B2_57 O_57 Q5_57 y50_57 y51_57 f50_57 f51_57 Q6_57 y60_57 y61_57 f60_57 f61_57; clear hw_58; skip)
  (try go_wp2_with fail)
  refine hK.out _ _ ?_ fun hHeld => ?_
  ·(try dsimp only)
   exact ⟨by assumption, by assumption⟩
  clear hK K
  (try simp only [Act.put, zS])
  refine wpAnyH_done (by kernel_rfl) ?_ _
  clear y50_58 f50_58 y51_58 f51_58 y60_58 f60_58 y61_58 f61_58
  go_wp2_with fail
  go_meet
  exact ⟨_, _, rfl, rfl, (by have := NE.out; omega), GL5.out, GL6.out, Q5_58, Q6_58, B2_58, O_58⟩
 case rest =>
  obtain ⟨p, q, rfl, rfl, hpq, hp, hq, hP, hQ, hZ, hO⟩ := hcut
  obtain ⟨z, hz⟩ := zX wc.heap.size
  have hpz : p < z := by rw [← hz]; exact Blk.lt hP
  have hqz : q < z := by rw [← hz]; exact Blk.lt hQ
  have HT := zh (show MIG w zero16 a b c d p q z 0 (wc.alloc (.cells #[.int .u64 0, .int .u64 0] 184)) from ⟨hP.alloc _, hQ.alloc _, by rw [← hz]; exact Blk.new _ _ _, hZ.alloc _, hO.alloc hO.size _⟩)
  clear hP hQ hZ hO
  go_wp2_with fail
  go_loopw [13] (fun i wr => ∃ k : Nat, k ≤ 128 ∧ i = .int .i64 (k : Int) ∧ MIG w zero16 a b c d p q z k wr) (fun i _ => 128 - (intOf i).toNat)
  case atStart => exact ⟨0, Nat.zero_le _, rfl, HT.out⟩
  case round =>
   obtain ⟨k, hk, rfl, hT⟩ := hrel
   by_cases hlt : k < 128
   ·obtain ⟨hP, hQ, hR, hZ, hO⟩ := hT
    have hv1 : vK c d (k + 1) = (nx1 (vK c d k).1 (vK c d k).2, nx2 (vK c d k).1 (vK c d k).2) := rfl
    have hz1 : zK a b c d (k + 1) = if hasN a b k then ((zK a b c d k).1 ^^^ (vK c d k).1, (zK a b c d k).2 ^^^ (vK c d k).2) else zK a b c d k := rfl
    obtain ⟨hA, hB, hC, hD⟩ := HA.out
    have hx := vK_lt hC hD k
    have hu := zK_lt (a := a) (b := b) hC hD k
    have hzp : zK a b c d k = ((zK a b c d k).1, (zK a b c d k).2) := rfl
    generalize (vK c d k).1 = x at *
    generalize (vK c d k).2 = y at *
    obtain ⟨u, hu0⟩ := zX ((zK a b c d k).1)
    obtain ⟨v, hv0⟩ := zX ((zK a b c d k).2)
    rw [hu0, hv0] at hR hz1 hu hzp
    rw [hzp] at hz1
    have k0 : (0 : Int) ≤ (k : Int) := by omega
    have k1 : (k : Int) < 128 := by omega
    have q0 : ¬ q = z := by omega
    have q1 : ¬ z = q := by omega
    have q2 : ¬ p = z := by omega
    have q3 : ¬ z = p := by omega
    have q4 : ¬ q = p := fun e => hpq e.symm
    have HZ1 := zh hz1
    have HV1 := zh hv1
    have HP := zh hP
    have HQ := zh hQ
    have HR := zh hR
    have HZ := zh hZ
    have HO := zh hO
    have HX := zh hx
    have HU := zh hu
    clear hz1 hv1 hQ hR hZ hO hx hu hu0 hv0 hzp hA hB hC hD
    have p0 : wr.cell? ⟨p, 0, none⟩ = some (.int .u64 (a : Int)) := Blk.cell hP 0
    have p1 : wr.cell? ⟨p, 1, none⟩ = some (.int .u64 (b : Int)) := Blk.cell hP 1
    have p2 : wr.frozen? ⟨p, 0, none⟩ = false := Blk.free hP 0
    have p3 : wr.frozen? ⟨p, 1, none⟩ = false := Blk.free hP 1
    clear hP
    go_wp2_with fail
    refine (has_any a b k _ hlt).mono ?_
    rintro e w1 ⟨rfl, hb⟩
    clear p0 p1 p2 p3
    have hP := Blk.below HP.out hb (Blk.lt HP.out)
    have hQ := Blk.below HQ.out hb (Blk.lt HQ.out)
    have hR := Blk.below HR.out hb (Blk.lt HR.out)
    have hZ := Blk.below HZ.out hb (Blk.lt HZ.out)
    have hO := HO.out.trans (hb.mono HO.out.size)
    have hz4 : w.heap.size ≤ q := by omega
    have hz5 : w.heap.size ≤ z := by omega
    clear hb HP HQ HR HZ HO
    by_cases hB : hasN a b k = true
    ·have e1 : bits .xor .u64 (u : Int) (x : Int) = ((u ^^^ x : Nat) : Int) := bits_xor_u64_nat u x HU.out.1 HX.out.1
     have e2 : bits .xor .u64 (v : Int) (y : Int) = ((v ^^^ y : Nat) : Int) := bits_xor_u64_nat v y HU.out.2 HX.out.2
     have hz6 := HZ1.out
     rw [if_pos hB] at hz6
     have HZ2 := zh hz6
     clear hz6 HZ1
     generalize u ^^^ x = r at *
     generalize v ^^^ y = s at *
     have q0 : w1.cell? ⟨q, 0, none⟩ = some (.int .u64 (x : Int)) := Blk.cell hQ 0
     have q1 : w1.cell? ⟨q, 1, none⟩ = some (.int .u64 (y : Int)) := Blk.cell hQ 1
     have q2 : w1.frozen? ⟨q, 0, none⟩ = false := Blk.free hQ 0
     have q3 : w1.frozen? ⟨q, 1, none⟩ = false := Blk.free hQ 1
     have r0 : w1.cell? ⟨z, 0, none⟩ = some (.int .u64 (u : Int)) := Blk.cell hR 0
     have r1 : w1.cell? ⟨z, 1, none⟩ = some (.int .u64 (v : Int)) := Blk.cell hR 1
     have r2 : w1.frozen? ⟨z, 0, none⟩ = false := Blk.free hR 0
     have r3 : w1.frozen? ⟨z, 1, none⟩ = false := Blk.free hR 1
     go_wp2_with fail
     obtain ⟨w1', hw⟩ := zX ((w1.setCell ⟨z, 0, none⟩ (.int .u64 (r : Int))).setCell ⟨z, 1, none⟩ (.int .u64 (s : Int)))
     rw [hw]
     have hP' : W2 w1' p a b := by rw [← hw]; exact Blk.set_other (Blk.set_other hP (by simp; omega) _) (by simp; omega) _
     have hQ' : W2 w1' q x y := by rw [← hw]; exact Blk.set_other (Blk.set_other hQ (by simp; omega) _) (by simp; omega) _
     have hR' : W2 w1' z r s := by rw [← hw]; exact (Blk.set hR 0 _).set 1 _
     have hZ' : Blk w1' (w.heap.size + 1 + 1) zero16 82 := by rw [← hw]; exact Blk.set_other (Blk.set_other hZ (by simp; omega) _) (by simp; omega) _
     have hO' : Below w.heap.size w w1' := by rw [← hw]; exact (hO.setCell (by simp; omega) _).setCell (by simp; omega) _
     clear q0 q1 q2 q3 r0 r1 r2 r3 hw hP hQ hR hZ hO
     refine (next_any x y _ HX.out.1 HX.out.2).mono ?_
     rintro e w2 ⟨rfl, hb2⟩
     have hP2 := Blk.below hP' hb2 (Blk.lt hP')
     have hQ2 := Blk.below hQ' hb2 (Blk.lt hQ')
     have hR2 := Blk.below hR' hb2 (Blk.lt hR')
     have hZ2 := Blk.below hZ' hb2 (Blk.lt hZ')
     have hO2 := hO'.trans (hb2.mono hO'.size)
     have HN := zh (show MIG w zero16 a b c d p q z (k + 1) ((w2.setCell ⟨q, 0, none⟩ (.int .u64 (nx1 x y : Int))).setCell ⟨q, 1, none⟩ (.int .u64 (nx2 x y : Int))) by
      refine ⟨Blk.set_other (Blk.set_other hP2 (by simp; omega) _) (by simp; omega) _, ?_, ?_, Blk.set_other (Blk.set_other hZ2 (by simp; omega) _) (by simp; omega) _, (hO2.setCell (by simp; omega) _).setCell (by simp; omega) _⟩
      ·rw [HV1.out]; exact (Blk.set hQ2 0 _).set 1 _
      ·rw [HZ2.out]; exact Blk.set_other (Blk.set_other hR2 (by simp; omega) _) (by simp; omega) _)
     clear hP2 hR2 hZ2 hO2
     have q0 : w2.cell? ⟨q, 0, none⟩ = some (.int .u64 (x : Int)) := Blk.cell hQ2 0
     have q1 : w2.cell? ⟨q, 1, none⟩ = some (.int .u64 (y : Int)) := Blk.cell hQ2 1
     have q2 : w2.frozen? ⟨q, 0, none⟩ = false := Blk.free hQ2 0
     have q3 : w2.frozen? ⟨q, 1, none⟩ = false := Blk.free hQ2 1
     generalize nx1 x y = n1 at *
     generalize nx2 x y = n2 at *
     go_wp2_with fail
     exact ⟨⟨k + 1, by omega, by go_num, HN.out⟩, by simp [intOf]; omega⟩
    ·have hz6 := HZ1.out
     rw [if_neg hB] at hz6
     have HZ2 := zh hz6
     have hB' : hasN a b k = false := by simpa using hB
     clear hz6 HZ1 hB
     have q0 : w1.cell? ⟨q, 0, none⟩ = some (.int .u64 (x : Int)) := Blk.cell hQ 0
     have q1 : w1.cell? ⟨q, 1, none⟩ = some (.int .u64 (y : Int)) := Blk.cell hQ 1
     have q2 : w1.frozen? ⟨q, 0, none⟩ = false := Blk.free hQ 0
     have q3 : w1.frozen? ⟨q, 1, none⟩ = false := Blk.free hQ 1
     go_wp2_with fail
     refine (next_any x y _ HX.out.1 HX.out.2).mono ?_
     rintro e w2 ⟨rfl, hb2⟩
     have hP2 := Blk.below hP hb2 (Blk.lt hP)
     have hQ2 := Blk.below hQ hb2 (Blk.lt hQ)
     have hR2 := Blk.below hR hb2 (Blk.lt hR)
     have hZ2 := Blk.below hZ hb2 (Blk.lt hZ)
     have hO2 := hO.trans (hb2.mono hO.size)
     have HN := zh (show MIG w zero16 a b c d p q z (k + 1) ((w2.setCell ⟨q, 0, none⟩ (.int .u64 (nx1 x y : Int))).setCell ⟨q, 1, none⟩ (.int .u64 (nx2 x y : Int))) by
      refine ⟨Blk.set_other (Blk.set_other hP2 (by simp; omega) _) (by simp; omega) _, ?_, ?_, Blk.set_other (Blk.set_other hZ2 (by simp; omega) _) (by simp; omega) _, (hO2.setCell (by simp; omega) _).setCell (by simp; omega) _⟩
      ·rw [HV1.out]; exact (Blk.set hQ2 0 _).set 1 _
      ·rw [HZ2.out]; exact Blk.set_other (Blk.set_other hR2 (by simp; omega) _) (by simp; omega) _)
     clear hP2 hR2 hZ2 hO2 q0 q1 q2 q3
     have q0 : w2.cell? ⟨q, 0, none⟩ = some (.int .u64 (x : Int)) := Blk.cell hQ2 0
     have q1 : w2.cell? ⟨q, 1, none⟩ = some (.int .u64 (y : Int)) := Blk.cell hQ2 1
     have q2 : w2.frozen? ⟨q, 0, none⟩ = false := Blk.free hQ2 0
     have q3 : w2.frozen? ⟨q, 1, none⟩ = false := Blk.free hQ2 1
     generalize nx1 x y = n1 at *
     generalize nx2 x y = n2 at *
     go_wp2_with fail
     exact ⟨⟨k + 1, by omega, by go_num, HN.out⟩, by simp [intOf]; omega⟩
   ·obtain rfl : k = 128 := by omega
    obtain ⟨hP, hQ, hR, hZ, hO⟩ := hT
    have hm : mulF f g = blkF (zK a b c d 128).1 (zK a b c d 128).2 := HM.out
    generalize (zK a b c d 128).1 = u at *
    generalize (zK a b c d 128).2 = v at *
    have hB : B16 wr (w.heap.size + 1 + 1) (fun _ => 0) := hZ
    have HM2 := zh hm
    have HB := zh hB
    have HO := zh hO
    have r0 : wr.cell? ⟨z, 0, none⟩ = some (.int .u64 (u : Int)) := Blk.cell hR 0
    have r1 : wr.cell? ⟨z, 1, none⟩ = some (.int .u64 (v : Int)) := Blk.cell hR 1
    have r2 : wr.frozen? ⟨z, 0, none⟩ = false := Blk.free hR 0
    have r3 : wr.frozen? ⟨z, 1, none⟩ = false := Blk.free hR 1
    clear hP hQ hR hZ hO hB hm
    go_wp2_with fail
    refine (block_any u v _).mono ?_
    rintro e w2 ⟨rfl, hb⟩
    clear r0 r1 r2 r3
    rw [← HM2.out]
    have hB2 : B16 w2 (w.heap.size + 1 + 1) (fun _ => 0) := Blk.below HB.out hb (Blk.lt HB.out)
    have hO2 := HO.out.trans (hb.mono HO.out.size)
    obtain ⟨E, hE⟩ := zX ((rowC 16 (mulF f g)).toArray)
    have HTh : Hid (w2.there (w.heap.size + 1 + 1) 0 E.size) := zh (hE ▸ hB2.there (mulF f g))
    have HI : Hid ((Tryz.prog.info? 82).map (·.size) = some E.size) := zh (hE ▸ info16 (mulF f g))
    have HON : Hid (E.all (·.oneCell') = true) := zh (hE ▸ one16 (mulF f g))
    have HN : Hid (Blk (w2.setCells (w.heap.size + 1 + 1) 0 E.toList) (w.heap.size + 1 + 1) E 82) := zh (hE ▸ hB2.store (mulF f g))
    have HOw : Hid (Own (w.heap.size + 1 + 1) w2 (w2.setCells (w.heap.size + 1 + 1) 0 E.toList)) := zh (Own.setCells _ _ _)
    have HO2 := zh hO2
    have HE := zh hE
    rw [hE]
    clear hB2 hO2 hE hlt hk HT
    go_wp2_with (first
     | (refine wpList_store_mid rfl 82 (.tmp 4) (.tmp 35) rfl (w.heap.size + 1 + 1) 0 E rfl rfl HTh.out HI.out HON.out ?_))
    refine bodyPost_ret (v := .agg E) ?_ rfl ⟨by rw [HE.out], ?_⟩
    ·exact results_cell_row Tryz.results83 _ _ (w.heap.size + 1 + 1) 82 E (0, 0) _ rfl HN.out Tryz.underlying82 rfl HI.out
    ·exact HO2.out.trans (HOw.out.below (by omega) HO2.out.size)
end Go.Proofs.YtncfocjmdecapaaGreatDoor
