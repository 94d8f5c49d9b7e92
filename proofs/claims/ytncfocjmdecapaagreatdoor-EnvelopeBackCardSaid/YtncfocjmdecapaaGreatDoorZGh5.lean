/- Products. -/
import Derived.Deep.RegionHeld3
import Derived.Deep.DeepCutAuto
import Derived.Test.YtncfocjmdecapaaGreatDoorZB0
import Derived.Test.YtncfocjmdecapaaGreatDoorZS1
import Derived.Test.YtncfocjmdecapaaGreatDoorZS2
import Derived.Test.YtncfocjmdecapaaGreatDoorZSh4
import Derived.Test.YtncfocjmdecapaaGreatDoorZA0
import Derived.Test.YtncfocjmdecapaaGreatDoorZS5
import Derived.Test.YtncfocjmdecapaaGreatDoorZSh7
import Derived.Test.YtncfocjmdecapaaGreatDoorZS8
import Derived.Test.YtncfocjmdecapaaGreatDoorZHm2
import Derived.Test.YtncfocjmdecapaaGreatDoorZAs
import Derived.Test.YtncfocjmdecapaaGreatDoorZR0
import Derived.Test.YtncfocjmdecapaaGreatDoorZB16
import Derived.Test.YtncfocjmdecapaaGreatDoorZQ0
import Derived.Test.YtncfocjmdecapaaGreatDoorZGh4
namespace Go.Proofs.YtncfocjmdecapaaGreatDoor
set_option linter.unusedVariables false
set_option linter.unusedSimpArgs false
open Go.RowKit
/-- Both blocks are there. -/
def SBg (w0 : World) (C D : Array Value) (w' : World) : Prop := Blk w' w0.heap.size C 82 ∧ Blk w' (w0.heap.size + 1) D 82
theorem SBg.x {w0 : World} {C D : Array Value} {w' : World} (h : SBg w0 C D w') : Blk w' w0.heap.size C 82 := h.1
theorem SBg.y {w0 : World} {C D : Array Value} {w' : World} (h : SBg w0 C D w') : Blk w' (w0.heap.size + 1) D 82 := h.2
/-- Behind the reading of both. -/
def MR (w0 : World) (C D Z : Array Value) (a b c d : Nat) (v5 v6 : Value) (wr : World) : Prop := ∃ g h, v5 = .pointer (some ⟨g, 0, none⟩) ∧ v6 = .pointer (some ⟨h, 0, none⟩) ∧ g ≠ h ∧ w0.heap.size + 1 + 1 < g ∧ w0.heap.size + 1 + 1 < h ∧ W2 wr g a b ∧ W2 wr h c d ∧ Blk wr (w0.heap.size + 1 + 1) Z 82 ∧ Below w0.heap.size w0 wr

/-- Behind k rounds of a product. -/
def MIG (w0 : World) (Z : Array Value) (a b c d : Nat) (p q z k : Nat) (wr : World) : Prop := W2 wr p a b ∧ W2 wr q (vK c d k).1 (vK c d k).2 ∧ W2 wr z (zK a b c d k).1 (zK a b c d k).2 ∧ Blk wr (w0.heap.size + 1 + 1) Z 82 ∧ Below w0.heap.size w0 wr
set_option maxRecDepth 100000 in
set_option maxHeartbeats 4000000 in
theorem gmul_any (f g : Nat → Nat) (w : World) (hf : ∀ i, i < 16 → f i < 256) (hg : ∀ i, i < 16 → g i < 256) :
    Calls Tryz.prog 83 #[.agg (rowC 16 f).toArray, .agg (rowC 16 g).toArray] w fun e w' => e = .returned (.agg (rowC 16 (mulF f g)).toArray) ∧ Below w.heap.size w w' := by
  have hz := zero16_run
  obtain ⟨a, ha⟩ : ∃ n, hiW f = n := ⟨_, rfl⟩
  obtain ⟨b, hb⟩ : ∃ n, loW f = n := ⟨_, rfl⟩
  obtain ⟨c, hc⟩ : ∃ n, hiW g = n := ⟨_, rfl⟩
  obtain ⟨d, hd⟩ : ∃ n, loW g = n := ⟨_, rfl⟩
  obtain ⟨C, hC⟩ : ∃ C, (rowC 16 f).toArray = C := ⟨_, rfl⟩
  obtain ⟨D, hD⟩ : ∃ C, (rowC 16 g).toArray = C := ⟨_, rfl⟩
  have HRX : Hid (∀ w, Calls Tryz.prog 94 #[.agg C] w fun e w' => e = .returned (.agg #[.int .u64 (a : Int), .int .u64 (b : Int)]) ∧ Below w.heap.size w w') := Lib.hid fun w => by
    rw [← hC, ← ha, ← hb]; exact gread_any f w hf
  have HRY : Hid (∀ w, Calls Tryz.prog 94 #[.agg D] w fun e w' => e = .returned (.agg #[.int .u64 (c : Int), .int .u64 (d : Int)]) ∧ Below w.heap.size w w') := Lib.hid fun w => by
    rw [← hD, ← hc, ← hd]; exact gread_any g w hg
  have HCS : Hid ((Tryz.prog.info? 82).map (·.size) = some C.size) := Lib.hid (hC ▸ info16 f)
  have HDS : Hid ((Tryz.prog.info? 82).map (·.size) = some D.size) := Lib.hid (hD ▸ info16 g)
  have HM : Hid (mulF f g = blkF (mulW a b c d).1 (mulW a b c d).2) := Lib.hid (by rw [← ha, ← hb, ← hc, ← hd]; rfl)
  have HA : Hid (a < 2 ^ 64 ∧ b < 2 ^ 64 ∧ c < 2 ^ 64 ∧ d < 2 ^ 64) := Lib.hid (by rw [← ha, ← hb, ← hc, ← hd]; exact ⟨hiW_lt hf, loW_lt hf, hiW_lt hg, loW_lt hg⟩)
  rw [hC, hD]
  clear hf hg ha hb hc hd hC hD
  go_enter Tryz.func83, Tryz.ntmps83
  go_upto_region 1 with fail
  obtain ⟨w0, hw0⟩ : ∃ q, ((w.alloc (.cells C 82)).alloc (.cells D 82)).alloc (.cells zero16 82) = q := ⟨_, rfl⟩
  have B0 : Blk w0 w.heap.size C 82 := by rw [← hw0]; exact ((Blk.new w _ 82).alloc _).alloc _
  have B1 : Blk w0 (w.heap.size + 1) D 82 := by rw [← hw0]; simpa using (Blk.new (w.alloc (.cells C 82)) D 82).alloc (.cells zero16 82)
  have B2 : Blk w0 (w.heap.size + 1 + 1) zero16 82 := by rw [← hw0]; simpa using Blk.new ((w.alloc (.cells C 82)).alloc (.cells D 82)) zero16 82
  have O : Below w.heap.size w w0 := by rw [← hw0]; exact (((Below.refl _ _).alloc (Nat.le_refl _) _).alloc (by simp) _).alloc (by simp; omega) _
  rw [hw0]
  clear hw0 hz
  go_cut [5, 6] (MR w C D zero16 a b c d)
  case first =>
    have B0_0 : Blk w0.drew w.heap.size C 82 := Blk.drew B0
    have B1_0 : Blk w0.drew (w.heap.size + 1) D 82 := Blk.drew B1
    have B2_0 : Blk w0.drew (w.heap.size + 1 + 1) zero16 82 := Blk.drew B2
    have O_0 : Below w.heap.size w w0.drew := O.drew
    clear B0 B1 B2 O
    refine wp_region_held_drew (S := (SBg w C D)) (by kernel_rfl) ?_ (fun hHeld => ?_)
    · (try dsimp only)
      exact ⟨by assumption, by assumption⟩
    generalize w0.drew = W0 at *
    refine wpAnyH_take (i := 0) (oi := { dst := some 9, op := Go.Op.load 82 (Go.Operand.tmp 2), type := 82, pos := "ghash.go:61", after := #[], guard := none }) (v := ?_) rfl (by kernel_rfl) (by kernel_rfl) (by kernel_rfl) (fun _ _ _ h => h) (Or.inl ⟨by rfl, ?_⟩) (by assumption) ?_
    rotate_left
    · intro w hSw
      refine exec_load16 (x := .tmp 2) ?_ ?_ (ld16 hSw.x HCS.out) <;> rfl
    (try simp only [Act.put, List.setIfInBounds_toArray, List.set_cons_zero, List.set_cons_succ])
    refine wpAnyH_take (i := 2) (oi := { dst := some 11, op := Go.Op.load 82 (Go.Operand.tmp 3), type := 82, pos := "ghash.go:61", after := #[], guard := none }) (v := ?_) rfl (by kernel_rfl) (by kernel_rfl) (by kernel_rfl) (fun _ _ _ h => h) (Or.inl ⟨by rfl, ?_⟩) (by assumption) ?_
    rotate_left
    · intro w hSw
      refine exec_load16 (x := .tmp 3) ?_ ?_ (ld16 hSw.y HDS.out) <;> rfl
    (try simp only [Act.put, List.setIfInBounds_toArray, List.set_cons_zero, List.set_cons_succ])
    refine wpAnyH_ready (rs := [1, 4, 5]) (by kernel_rfl) (by simp) ?_
    refine AllReadyH.cons (o := { dst := some 10, op := Go.Op.call { callee := Go.Callee.value (Go.Operand.func 94), args := #[Go.Operand.tmp 9], argTypes := #[82] }, type := 184, pos := "ghash.go:61", after := #[{ on := 0, ground := Go.Ground.data }], guard := none }) rfl (fun K hK => ?_) ?_
    · skip
      go_simp
      (refine (HRX.out _).mono ?_; rintro e v_1 ⟨rfl, hb_1⟩; have B0_1 := Blk.below B0_0 hb_1 (Blk.lt B0_0); have B1_1 := Blk.below B1_0 hb_1 (Blk.lt B1_0); have B2_1 := Blk.below B2_0 hb_1 (Blk.lt B2_0); have O_1 := Below.trans O_0 (hb_1.mono O_0.size); clear B0_0 B1_0 B2_0 O_0; clear hb_1; skip)
      (try go_wp2_with fail)
      refine hK.out _ _ ?_ (fun hHeld => ?_)
      · (try dsimp only)
        exact ⟨by assumption, by assumption⟩
      clear hK K
      (try simp only [Act.put, List.setIfInBounds_toArray, List.set_cons_zero, List.set_cons_succ])
      refine wpAnyH_ready (rs := [3, 4, 5]) (by kernel_rfl) (by simp) ?_
      refine AllReadyH.cons (o := { dst := some 12, op := Go.Op.call { callee := Go.Callee.value (Go.Operand.func 94), args := #[Go.Operand.tmp 11], argTypes := #[82] }, type := 184, pos := "ghash.go:61", after := #[{ on := 2, ground := Go.Ground.data }, { on := 1, ground := Go.Ground.chain }], guard := none }) rfl (fun K hK => ?_) ?_
      · skip
        go_simp
        (refine (HRY.out _).mono ?_; rintro e v_2 ⟨rfl, hb_2⟩; have B0_2 := Blk.below B0_1 hb_2 (Blk.lt B0_1); have B1_2 := Blk.below B1_1 hb_2 (Blk.lt B1_1); have B2_2 := Blk.below B2_1 hb_2 (Blk.lt B2_1); have O_2 := Below.trans O_1 (hb_2.mono O_1.size); clear B0_1 B1_1 B2_1 O_1; clear hb_2; skip)
        (try go_wp2_with fail)
        refine hK.out _ _ ?_ (fun hHeld => ?_)
        · (try dsimp only)
          exact ⟨by assumption, by assumption⟩
        clear hK K
        (try simp only [Act.put, List.setIfInBounds_toArray, List.set_cons_zero, List.set_cons_succ])
        refine wpAnyH_ready (rs := [4, 5]) (by kernel_rfl) (by simp) ?_
        refine AllReadyH.cons (o := { dst := some 5, op := Go.Op.alloc 184, type := 0, pos := "ghash.go:61", after := #[], guard := none }) rfl (fun K hK => ?_) ?_
        · skip
          go_simp
          (obtain ⟨v_3, hw_3⟩ : ∃ q, v_2.alloc (.cells #[.int .u64 0, .int .u64 0] 184) = q := ⟨_, rfl⟩; rw [hw_3]; have hb_3 : Below v_2.heap.size v_2 v_3 := (by rw [← hw_3]; exact (Below.refl _ _).alloc (Nat.le_refl _) _); have B0_3 := Blk.below B0_2 hb_3 (Blk.lt B0_2); have B1_3 := Blk.below B1_2 hb_3 (Blk.lt B1_2); have B2_3 := Blk.below B2_2 hb_3 (Blk.lt B2_2); have O_3 := Below.trans O_2 (hb_3.mono O_2.size); have Q5_3 : Blk v_3 v_2.heap.size #[.int .u64 0, .int .u64 0] 184 := (by rw [← hw_3]; exact Blk.new _ _ _); have GL5 := Lib.hid (show w.heap.size + 1 + 1 < v_2.heap.size from Blk.lt B2_2); have y50_3 : v_3.cell? ⟨v_2.heap.size, 0, none⟩ = some (.int .u64 0) := Blk.cell Q5_3 0; have y51_3 : v_3.cell? ⟨v_2.heap.size, 1, none⟩ = some (.int .u64 0) := Blk.cell Q5_3 1; have f50_3 : v_3.frozen? ⟨v_2.heap.size, 0, none⟩ = false := Blk.free Q5_3 0; have f51_3 : v_3.frozen? ⟨v_2.heap.size, 1, none⟩ = false := Blk.free Q5_3 1; clear B0_2 B1_2 B2_2 O_2; clear hb_3 hw_3; skip)
          (try go_wp2_with fail)
          refine hK.out _ _ ?_ (fun hHeld => ?_)
          · (try dsimp only)
            exact ⟨by assumption, by assumption⟩
          clear hK K
          (try simp only [Act.put, List.setIfInBounds_toArray, List.set_cons_zero, List.set_cons_succ])
          refine wpAnyH_ready (rs := [5]) (by kernel_rfl) (by simp) ?_
          refine AllReadyH.cons (o := { dst := some 6, op := Go.Op.alloc 184, type := 0, pos := "ghash.go:61", after := #[], guard := none }) rfl (fun K hK => ?_) AllReadyH.nil
          go_simp
          (obtain ⟨v_4, hw_4⟩ : ∃ q, v_3.alloc (.cells #[.int .u64 0, .int .u64 0] 184) = q := ⟨_, rfl⟩; rw [hw_4]; have hb_4 : Below v_3.heap.size v_3 v_4 := (by rw [← hw_4]; exact (Below.refl _ _).alloc (Nat.le_refl _) _); have B0_4 := Blk.below B0_3 hb_4 (Blk.lt B0_3); have B1_4 := Blk.below B1_3 hb_4 (Blk.lt B1_3); have B2_4 := Blk.below B2_3 hb_4 (Blk.lt B2_3); have Q5_4 := Blk.below Q5_3 hb_4 (Blk.lt Q5_3); have O_4 := Below.trans O_3 (hb_4.mono O_3.size); have Q6_4 : Blk v_4 v_3.heap.size #[.int .u64 0, .int .u64 0] 184 := (by rw [← hw_4]; exact Blk.new _ _ _); have GL6 := Lib.hid (show w.heap.size + 1 + 1 < v_3.heap.size from Blk.lt B2_3); have NE := Lib.hid (show v_2.heap.size < v_3.heap.size from Blk.lt Q5_3); have y50_4 : v_4.cell? ⟨v_2.heap.size, 0, none⟩ = some (.int .u64 0) := Blk.cell Q5_4 0; have y51_4 : v_4.cell? ⟨v_2.heap.size, 1, none⟩ = some (.int .u64 0) := Blk.cell Q5_4 1; have f50_4 : v_4.frozen? ⟨v_2.heap.size, 0, none⟩ = false := Blk.free Q5_4 0; have f51_4 : v_4.frozen? ⟨v_2.heap.size, 1, none⟩ = false := Blk.free Q5_4 1; have y60_4 : v_4.cell? ⟨v_3.heap.size, 0, none⟩ = some (.int .u64 0) := Blk.cell Q6_4 0; have y61_4 : v_4.cell? ⟨v_3.heap.size, 1, none⟩ = some (.int .u64 0) := Blk.cell Q6_4 1; have f60_4 : v_4.frozen? ⟨v_3.heap.size, 0, none⟩ = false := Blk.free Q6_4 0; have f61_4 : v_4.frozen? ⟨v_3.heap.size, 1, none⟩ = false := Blk.free Q6_4 1; clear B0_3 B1_3 B2_3 O_3 Q5_3 y50_3 y51_3 f50_3 f51_3; clear hb_4 hw_4; skip)
          (try go_wp2_with fail)
          refine hK.out _ _ ?_ (fun hHeld => ?_)
          · (try dsimp only)
            exact ⟨by assumption, by assumption⟩
          clear hK K
          (try simp only [Act.put, List.setIfInBounds_toArray, List.set_cons_zero, List.set_cons_succ])
          refine wpAnyH_ready (rs := [6]) (by kernel_rfl) (by simp) ?_
          refine AllReadyH.cons (o := { dst := none, op := Go.Op.store 184 (Go.Operand.tmp 5) (Go.Operand.tmp 10), type := 0, pos := "ghash.go:61", after := #[{ on := 4, ground := Go.Ground.data }, { on := 1, ground := Go.Ground.data }, { on := 3, ground := Go.Ground.chain }, { on := 0, ground := Go.Ground.phase }, { on := 1, ground := Go.Ground.phase }, { on := 2, ground := Go.Ground.textOnly Go.Departure.lateStores }, { on := 3, ground := Go.Ground.textOnly Go.Departure.lateStoresUnsure }, { on := 4, ground := Go.Ground.phase }, { on := 5, ground := Go.Ground.phase }], guard := none }) rfl (fun K hK => ?_) AllReadyH.nil
          go_simp
          (obtain ⟨v_5, hw_5⟩ : ∃ q, ((v_4.setCell ⟨v_2.heap.size, 0, none⟩ (.int .u64 (a : Int))).setCell ⟨v_2.heap.size, 1, none⟩ (.int .u64 (b : Int))) = q := ⟨_, rfl⟩; rw [hw_5]; have B0_5 := Blk.set_other (Blk.set_other B0_4 (a := ⟨v_2.heap.size, 0, none⟩) (by have h2 := GL5.out; simp; omega) (.int .u64 (a : Int))) (a := ⟨v_2.heap.size, 1, none⟩) (by have h2 := GL5.out; simp; omega) (.int .u64 (b : Int)); rw [hw_5] at B0_5; have B1_5 := Blk.set_other (Blk.set_other B1_4 (a := ⟨v_2.heap.size, 0, none⟩) (by have h2 := GL5.out; simp; omega) (.int .u64 (a : Int))) (a := ⟨v_2.heap.size, 1, none⟩) (by have h2 := GL5.out; simp; omega) (.int .u64 (b : Int)); rw [hw_5] at B1_5; have B2_5 := Blk.set_other (Blk.set_other B2_4 (a := ⟨v_2.heap.size, 0, none⟩) (by have h2 := GL5.out; simp; omega) (.int .u64 (a : Int))) (a := ⟨v_2.heap.size, 1, none⟩) (by have h2 := GL5.out; simp; omega) (.int .u64 (b : Int)); rw [hw_5] at B2_5; have Q6_5 := Blk.set_other (Blk.set_other Q6_4 (a := ⟨v_2.heap.size, 0, none⟩) (by have h2 := NE.out; simp; omega) (.int .u64 (a : Int))) (a := ⟨v_2.heap.size, 1, none⟩) (by have h2 := NE.out; simp; omega) (.int .u64 (b : Int)); rw [hw_5] at Q6_5; have Q5_5 : Blk v_5 v_2.heap.size #[.int .u64 (a : Int), .int .u64 (b : Int)] 184 := (by rw [← hw_5]; exact ((Q5_4).set 0 (.int .u64 (a : Int))).set 1 (.int .u64 (b : Int))); have O_5 : Below w.heap.size w v_5 := (by rw [← hw_5]; exact (O_4.setCell (by have h2 := GL5.out; simp; omega) _).setCell (by have h2 := GL5.out; simp; omega) _); have y50_5 : v_5.cell? ⟨v_2.heap.size, 0, none⟩ = some (.int .u64 (a : Int)) := Blk.cell Q5_5 0; have y51_5 : v_5.cell? ⟨v_2.heap.size, 1, none⟩ = some (.int .u64 (b : Int)) := Blk.cell Q5_5 1; have f50_5 : v_5.frozen? ⟨v_2.heap.size, 0, none⟩ = false := Blk.free Q5_5 0; have f51_5 : v_5.frozen? ⟨v_2.heap.size, 1, none⟩ = false := Blk.free Q5_5 1; have y60_5 : v_5.cell? ⟨v_3.heap.size, 0, none⟩ = some (.int .u64 0) := Blk.cell Q6_5 0; have y61_5 : v_5.cell? ⟨v_3.heap.size, 1, none⟩ = some (.int .u64 0) := Blk.cell Q6_5 1; have f60_5 : v_5.frozen? ⟨v_3.heap.size, 0, none⟩ = false := Blk.free Q6_5 0; have f61_5 : v_5.frozen? ⟨v_3.heap.size, 1, none⟩ = false := Blk.free Q6_5 1; clear B0_4 B1_4 B2_4 O_4 Q5_4 y50_4 y51_4 f50_4 f51_4 Q6_4 y60_4 y61_4 f60_4 f61_4; clear hw_5; skip)
          (try go_wp2_with fail)
          refine hK.out _ _ ?_ (fun hHeld => ?_)
          · (try dsimp only)
            exact ⟨by assumption, by assumption⟩
          clear hK K
          (try simp only [Act.put, List.setIfInBounds_toArray, List.set_cons_zero, List.set_cons_succ])
          refine wpAnyH_ready (rs := [7]) (by kernel_rfl) (by simp) ?_
          refine AllReadyH.cons (o := { dst := none, op := Go.Op.store 184 (Go.Operand.tmp 6) (Go.Operand.tmp 12), type := 0, pos := "ghash.go:61", after := #[{ on := 5, ground := Go.Ground.data }, { on := 3, ground := Go.Ground.data }, { on := 6, ground := Go.Ground.chain }, { on := 0, ground := Go.Ground.phase }, { on := 1, ground := Go.Ground.phase }, { on := 2, ground := Go.Ground.phase }, { on := 3, ground := Go.Ground.phase }, { on := 4, ground := Go.Ground.phase }, { on := 5, ground := Go.Ground.phase }, { on := 6, ground := Go.Ground.phase }], guard := none }) rfl (fun K hK => ?_) AllReadyH.nil
          go_simp
          (obtain ⟨v_6, hw_6⟩ : ∃ q, ((v_5.setCell ⟨v_3.heap.size, 0, none⟩ (.int .u64 (c : Int))).setCell ⟨v_3.heap.size, 1, none⟩ (.int .u64 (d : Int))) = q := ⟨_, rfl⟩; rw [hw_6]; have B0_6 := Blk.set_other (Blk.set_other B0_5 (a := ⟨v_3.heap.size, 0, none⟩) (by have h2 := GL6.out; simp; omega) (.int .u64 (c : Int))) (a := ⟨v_3.heap.size, 1, none⟩) (by have h2 := GL6.out; simp; omega) (.int .u64 (d : Int)); rw [hw_6] at B0_6; have B1_6 := Blk.set_other (Blk.set_other B1_5 (a := ⟨v_3.heap.size, 0, none⟩) (by have h2 := GL6.out; simp; omega) (.int .u64 (c : Int))) (a := ⟨v_3.heap.size, 1, none⟩) (by have h2 := GL6.out; simp; omega) (.int .u64 (d : Int)); rw [hw_6] at B1_6; have B2_6 := Blk.set_other (Blk.set_other B2_5 (a := ⟨v_3.heap.size, 0, none⟩) (by have h2 := GL6.out; simp; omega) (.int .u64 (c : Int))) (a := ⟨v_3.heap.size, 1, none⟩) (by have h2 := GL6.out; simp; omega) (.int .u64 (d : Int)); rw [hw_6] at B2_6; have Q5_6 := Blk.set_other (Blk.set_other Q5_5 (a := ⟨v_3.heap.size, 0, none⟩) (by have h2 := NE.out; simp; omega) (.int .u64 (c : Int))) (a := ⟨v_3.heap.size, 1, none⟩) (by have h2 := NE.out; simp; omega) (.int .u64 (d : Int)); rw [hw_6] at Q5_6; have Q6_6 : Blk v_6 v_3.heap.size #[.int .u64 (c : Int), .int .u64 (d : Int)] 184 := (by rw [← hw_6]; exact ((Q6_5).set 0 (.int .u64 (c : Int))).set 1 (.int .u64 (d : Int))); have O_6 : Below w.heap.size w v_6 := (by rw [← hw_6]; exact (O_5.setCell (by have h2 := GL6.out; simp; omega) _).setCell (by have h2 := GL6.out; simp; omega) _); have y50_6 : v_6.cell? ⟨v_2.heap.size, 0, none⟩ = some (.int .u64 (a : Int)) := Blk.cell Q5_6 0; have y51_6 : v_6.cell? ⟨v_2.heap.size, 1, none⟩ = some (.int .u64 (b : Int)) := Blk.cell Q5_6 1; have f50_6 : v_6.frozen? ⟨v_2.heap.size, 0, none⟩ = false := Blk.free Q5_6 0; have f51_6 : v_6.frozen? ⟨v_2.heap.size, 1, none⟩ = false := Blk.free Q5_6 1; have y60_6 : v_6.cell? ⟨v_3.heap.size, 0, none⟩ = some (.int .u64 (c : Int)) := Blk.cell Q6_6 0; have y61_6 : v_6.cell? ⟨v_3.heap.size, 1, none⟩ = some (.int .u64 (d : Int)) := Blk.cell Q6_6 1; have f60_6 : v_6.frozen? ⟨v_3.heap.size, 0, none⟩ = false := Blk.free Q6_6 0; have f61_6 : v_6.frozen? ⟨v_3.heap.size, 1, none⟩ = false := Blk.free Q6_6 1; clear B0_5 B1_5 B2_5 O_5 Q5_5 y50_5 y51_5 f50_5 f51_5 Q6_5 y60_5 y61_5 f60_5 f61_5; clear hw_6; skip)
          (try go_wp2_with fail)
          refine hK.out _ _ ?_ (fun hHeld => ?_)
          · (try dsimp only)
            exact ⟨by assumption, by assumption⟩
          clear hK K
          (try simp only [Act.put, List.setIfInBounds_toArray, List.set_cons_zero, List.set_cons_succ])
          refine wpAnyH_done (by kernel_rfl) ?_ _
          clear y50_6 f50_6 y51_6 f51_6 y60_6 f60_6 y61_6 f61_6
          go_wp2_with fail
          go_meet
          exact ⟨_, _, rfl, rfl, (by have := NE.out; omega), GL5.out, GL6.out, Q5_6, Q6_6, B2_6, O_6⟩
        refine AllReadyH.cons (o := { dst := some 6, op := Go.Op.alloc 184, type := 0, pos := "ghash.go:61", after := #[], guard := none }) rfl (fun K hK => ?_) AllReadyH.nil
        go_simp
        (obtain ⟨v_7, hw_7⟩ : ∃ q, v_2.alloc (.cells #[.int .u64 0, .int .u64 0] 184) = q := ⟨_, rfl⟩; rw [hw_7]; have hb_7 : Below v_2.heap.size v_2 v_7 := (by rw [← hw_7]; exact (Below.refl _ _).alloc (Nat.le_refl _) _); have B0_7 := Blk.below B0_2 hb_7 (Blk.lt B0_2); have B1_7 := Blk.below B1_2 hb_7 (Blk.lt B1_2); have B2_7 := Blk.below B2_2 hb_7 (Blk.lt B2_2); have O_7 := Below.trans O_2 (hb_7.mono O_2.size); have Q6_7 : Blk v_7 v_2.heap.size #[.int .u64 0, .int .u64 0] 184 := (by rw [← hw_7]; exact Blk.new _ _ _); have GL6 := Lib.hid (show w.heap.size + 1 + 1 < v_2.heap.size from Blk.lt B2_2); have y60_7 : v_7.cell? ⟨v_2.heap.size, 0, none⟩ = some (.int .u64 0) := Blk.cell Q6_7 0; have y61_7 : v_7.cell? ⟨v_2.heap.size, 1, none⟩ = some (.int .u64 0) := Blk.cell Q6_7 1; have f60_7 : v_7.frozen? ⟨v_2.heap.size, 0, none⟩ = false := Blk.free Q6_7 0; have f61_7 : v_7.frozen? ⟨v_2.heap.size, 1, none⟩ = false := Blk.free Q6_7 1; clear B0_2 B1_2 B2_2 O_2; clear hb_7 hw_7; skip)
        (try go_wp2_with fail)
        refine hK.out _ _ ?_ (fun hHeld => ?_)
        · (try dsimp only)
          exact ⟨by assumption, by assumption⟩
        clear hK K
        (try simp only [Act.put, List.setIfInBounds_toArray, List.set_cons_zero, List.set_cons_succ])
        refine wpAnyH_ready (rs := [4]) (by kernel_rfl) (by simp) ?_
        refine AllReadyH.cons (o := { dst := some 5, op := Go.Op.alloc 184, type := 0, pos := "ghash.go:61", after := #[], guard := none }) rfl (fun K hK => ?_) AllReadyH.nil
        go_simp
        (obtain ⟨v_8, hw_8⟩ : ∃ q, v_7.alloc (.cells #[.int .u64 0, .int .u64 0] 184) = q := ⟨_, rfl⟩; rw [hw_8]; have hb_8 : Below v_7.heap.size v_7 v_8 := (by rw [← hw_8]; exact (Below.refl _ _).alloc (Nat.le_refl _) _); have B0_8 := Blk.below B0_7 hb_8 (Blk.lt B0_7); have B1_8 := Blk.below B1_7 hb_8 (Blk.lt B1_7); have B2_8 := Blk.below B2_7 hb_8 (Blk.lt B2_7); have Q6_8 := Blk.below Q6_7 hb_8 (Blk.lt Q6_7); have O_8 := Below.trans O_7 (hb_8.mono O_7.size); have Q5_8 : Blk v_8 v_7.heap.size #[.int .u64 0, .int .u64 0] 184 := (by rw [← hw_8]; exact Blk.new _ _ _); have GL5 := Lib.hid (show w.heap.size + 1 + 1 < v_7.heap.size from Blk.lt B2_7); have NE := Lib.hid (show v_2.heap.size < v_7.heap.size from Blk.lt Q6_7); have y50_8 : v_8.cell? ⟨v_7.heap.size, 0, none⟩ = some (.int .u64 0) := Blk.cell Q5_8 0; have y51_8 : v_8.cell? ⟨v_7.heap.size, 1, none⟩ = some (.int .u64 0) := Blk.cell Q5_8 1; have f50_8 : v_8.frozen? ⟨v_7.heap.size, 0, none⟩ = false := Blk.free Q5_8 0; have f51_8 : v_8.frozen? ⟨v_7.heap.size, 1, none⟩ = false := Blk.free Q5_8 1; have y60_8 : v_8.cell? ⟨v_2.heap.size, 0, none⟩ = some (.int .u64 0) := Blk.cell Q6_8 0; have y61_8 : v_8.cell? ⟨v_2.heap.size, 1, none⟩ = some (.int .u64 0) := Blk.cell Q6_8 1; have f60_8 : v_8.frozen? ⟨v_2.heap.size, 0, none⟩ = false := Blk.free Q6_8 0; have f61_8 : v_8.frozen? ⟨v_2.heap.size, 1, none⟩ = false := Blk.free Q6_8 1; clear B0_7 B1_7 B2_7 O_7 Q6_7 y60_7 y61_7 f60_7 f61_7; clear hb_8 hw_8; skip)
        (try go_wp2_with fail)
        refine hK.out _ _ ?_ (fun hHeld => ?_)
        · (try dsimp only)
          exact ⟨by assumption, by assumption⟩
        clear hK K
        (try simp only [Act.put, List.setIfInBounds_toArray, List.set_cons_zero, List.set_cons_succ])
        refine wpAnyH_ready (rs := [6]) (by kernel_rfl) (by simp) ?_
        refine AllReadyH.cons (o := { dst := none, op := Go.Op.store 184 (Go.Operand.tmp 5) (Go.Operand.tmp 10), type := 0, pos := "ghash.go:61", after := #[{ on := 4, ground := Go.Ground.data }, { on := 1, ground := Go.Ground.data }, { on := 3, ground := Go.Ground.chain }, { on := 0, ground := Go.Ground.phase }, { on := 1, ground := Go.Ground.phase }, { on := 2, ground := Go.Ground.textOnly Go.Departure.lateStores }, { on := 3, ground := Go.Ground.textOnly Go.Departure.lateStoresUnsure }, { on := 4, ground := Go.Ground.phase }, { on := 5, ground := Go.Ground.phase }], guard := none }) rfl (fun K hK => ?_) AllReadyH.nil
        go_simp
        (obtain ⟨v_9, hw_9⟩ : ∃ q, ((v_8.setCell ⟨v_7.heap.size, 0, none⟩ (.int .u64 (a : Int))).setCell ⟨v_7.heap.size, 1, none⟩ (.int .u64 (b : Int))) = q := ⟨_, rfl⟩; rw [hw_9]; have B0_9 := Blk.set_other (Blk.set_other B0_8 (a := ⟨v_7.heap.size, 0, none⟩) (by have h2 := GL5.out; simp; omega) (.int .u64 (a : Int))) (a := ⟨v_7.heap.size, 1, none⟩) (by have h2 := GL5.out; simp; omega) (.int .u64 (b : Int)); rw [hw_9] at B0_9; have B1_9 := Blk.set_other (Blk.set_other B1_8 (a := ⟨v_7.heap.size, 0, none⟩) (by have h2 := GL5.out; simp; omega) (.int .u64 (a : Int))) (a := ⟨v_7.heap.size, 1, none⟩) (by have h2 := GL5.out; simp; omega) (.int .u64 (b : Int)); rw [hw_9] at B1_9; have B2_9 := Blk.set_other (Blk.set_other B2_8 (a := ⟨v_7.heap.size, 0, none⟩) (by have h2 := GL5.out; simp; omega) (.int .u64 (a : Int))) (a := ⟨v_7.heap.size, 1, none⟩) (by have h2 := GL5.out; simp; omega) (.int .u64 (b : Int)); rw [hw_9] at B2_9; have Q6_9 := Blk.set_other (Blk.set_other Q6_8 (a := ⟨v_7.heap.size, 0, none⟩) (by have h2 := NE.out; simp; omega) (.int .u64 (a : Int))) (a := ⟨v_7.heap.size, 1, none⟩) (by have h2 := NE.out; simp; omega) (.int .u64 (b : Int)); rw [hw_9] at Q6_9; have Q5_9 : Blk v_9 v_7.heap.size #[.int .u64 (a : Int), .int .u64 (b : Int)] 184 := (by rw [← hw_9]; exact ((Q5_8).set 0 (.int .u64 (a : Int))).set 1 (.int .u64 (b : Int))); have O_9 : Below w.heap.size w v_9 := (by rw [← hw_9]; exact (O_8.setCell (by have h2 := GL5.out; simp; omega) _).setCell (by have h2 := GL5.out; simp; omega) _); have y50_9 : v_9.cell? ⟨v_7.heap.size, 0, none⟩ = some (.int .u64 (a : Int)) := Blk.cell Q5_9 0; have y51_9 : v_9.cell? ⟨v_7.heap.size, 1, none⟩ = some (.int .u64 (b : Int)) := Blk.cell Q5_9 1; have f50_9 : v_9.frozen? ⟨v_7.heap.size, 0, none⟩ = false := Blk.free Q5_9 0; have f51_9 : v_9.frozen? ⟨v_7.heap.size, 1, none⟩ = false := Blk.free Q5_9 1; have y60_9 : v_9.cell? ⟨v_2.heap.size, 0, none⟩ = some (.int .u64 0) := Blk.cell Q6_9 0; have y61_9 : v_9.cell? ⟨v_2.heap.size, 1, none⟩ = some (.int .u64 0) := Blk.cell Q6_9 1; have f60_9 : v_9.frozen? ⟨v_2.heap.size, 0, none⟩ = false := Blk.free Q6_9 0; have f61_9 : v_9.frozen? ⟨v_2.heap.size, 1, none⟩ = false := Blk.free Q6_9 1; clear B0_8 B1_8 B2_8 O_8 Q5_8 y50_8 y51_8 f50_8 f51_8 Q6_8 y60_8 y61_8 f60_8 f61_8; clear hw_9; skip)
        (try go_wp2_with fail)
        refine hK.out _ _ ?_ (fun hHeld => ?_)
        · (try dsimp only)
          exact ⟨by assumption, by assumption⟩
        clear hK K
        (try simp only [Act.put, List.setIfInBounds_toArray, List.set_cons_zero, List.set_cons_succ])
        refine wpAnyH_ready (rs := [7]) (by kernel_rfl) (by simp) ?_
        refine AllReadyH.cons (o := { dst := none, op := Go.Op.store 184 (Go.Operand.tmp 6) (Go.Operand.tmp 12), type := 0, pos := "ghash.go:61", after := #[{ on := 5, ground := Go.Ground.data }, { on := 3, ground := Go.Ground.data }, { on := 6, ground := Go.Ground.chain }, { on := 0, ground := Go.Ground.phase }, { on := 1, ground := Go.Ground.phase }, { on := 2, ground := Go.Ground.phase }, { on := 3, ground := Go.Ground.phase }, { on := 4, ground := Go.Ground.phase }, { on := 5, ground := Go.Ground.phase }, { on := 6, ground := Go.Ground.phase }], guard := none }) rfl (fun K hK => ?_) AllReadyH.nil
        go_simp
        (obtain ⟨v_10, hw_10⟩ : ∃ q, ((v_9.setCell ⟨v_2.heap.size, 0, none⟩ (.int .u64 (c : Int))).setCell ⟨v_2.heap.size, 1, none⟩ (.int .u64 (d : Int))) = q := ⟨_, rfl⟩; rw [hw_10]; have B0_10 := Blk.set_other (Blk.set_other B0_9 (a := ⟨v_2.heap.size, 0, none⟩) (by have h2 := GL6.out; simp; omega) (.int .u64 (c : Int))) (a := ⟨v_2.heap.size, 1, none⟩) (by have h2 := GL6.out; simp; omega) (.int .u64 (d : Int)); rw [hw_10] at B0_10; have B1_10 := Blk.set_other (Blk.set_other B1_9 (a := ⟨v_2.heap.size, 0, none⟩) (by have h2 := GL6.out; simp; omega) (.int .u64 (c : Int))) (a := ⟨v_2.heap.size, 1, none⟩) (by have h2 := GL6.out; simp; omega) (.int .u64 (d : Int)); rw [hw_10] at B1_10; have B2_10 := Blk.set_other (Blk.set_other B2_9 (a := ⟨v_2.heap.size, 0, none⟩) (by have h2 := GL6.out; simp; omega) (.int .u64 (c : Int))) (a := ⟨v_2.heap.size, 1, none⟩) (by have h2 := GL6.out; simp; omega) (.int .u64 (d : Int)); rw [hw_10] at B2_10; have Q5_10 := Blk.set_other (Blk.set_other Q5_9 (a := ⟨v_2.heap.size, 0, none⟩) (by have h2 := NE.out; simp; omega) (.int .u64 (c : Int))) (a := ⟨v_2.heap.size, 1, none⟩) (by have h2 := NE.out; simp; omega) (.int .u64 (d : Int)); rw [hw_10] at Q5_10; have Q6_10 : Blk v_10 v_2.heap.size #[.int .u64 (c : Int), .int .u64 (d : Int)] 184 := (by rw [← hw_10]; exact ((Q6_9).set 0 (.int .u64 (c : Int))).set 1 (.int .u64 (d : Int))); have O_10 : Below w.heap.size w v_10 := (by rw [← hw_10]; exact (O_9.setCell (by have h2 := GL6.out; simp; omega) _).setCell (by have h2 := GL6.out; simp; omega) _); have y50_10 : v_10.cell? ⟨v_7.heap.size, 0, none⟩ = some (.int .u64 (a : Int)) := Blk.cell Q5_10 0; have y51_10 : v_10.cell? ⟨v_7.heap.size, 1, none⟩ = some (.int .u64 (b : Int)) := Blk.cell Q5_10 1; have f50_10 : v_10.frozen? ⟨v_7.heap.size, 0, none⟩ = false := Blk.free Q5_10 0; have f51_10 : v_10.frozen? ⟨v_7.heap.size, 1, none⟩ = false := Blk.free Q5_10 1; have y60_10 : v_10.cell? ⟨v_2.heap.size, 0, none⟩ = some (.int .u64 (c : Int)) := Blk.cell Q6_10 0; have y61_10 : v_10.cell? ⟨v_2.heap.size, 1, none⟩ = some (.int .u64 (d : Int)) := Blk.cell Q6_10 1; have f60_10 : v_10.frozen? ⟨v_2.heap.size, 0, none⟩ = false := Blk.free Q6_10 0; have f61_10 : v_10.frozen? ⟨v_2.heap.size, 1, none⟩ = false := Blk.free Q6_10 1; clear B0_9 B1_9 B2_9 O_9 Q5_9 y50_9 y51_9 f50_9 f51_9 Q6_9 y60_9 y61_9 f60_9 f61_9; clear hw_10; skip)
        (try go_wp2_with fail)
        refine hK.out _ _ ?_ (fun hHeld => ?_)
        · (try dsimp only)
          exact ⟨by assumption, by assumption⟩
        clear hK K
        (try simp only [Act.put, List.setIfInBounds_toArray, List.set_cons_zero, List.set_cons_succ])
        refine wpAnyH_done (by kernel_rfl) ?_ _
        clear y50_10 f50_10 y51_10 f51_10 y60_10 f60_10 y61_10 f61_10
        go_wp2_with fail
        go_meet
        exact ⟨_, _, rfl, rfl, (by have := NE.out; omega), GL5.out, GL6.out, Q5_10, Q6_10, B2_10, O_10⟩
      refine AllReadyH.cons (o := { dst := some 5, op := Go.Op.alloc 184, type := 0, pos := "ghash.go:61", after := #[], guard := none }) rfl (fun K hK => ?_) ?_
      · skip
        go_simp
        (obtain ⟨v_11, hw_11⟩ : ∃ q, v_1.alloc (.cells #[.int .u64 0, .int .u64 0] 184) = q := ⟨_, rfl⟩; rw [hw_11]; have hb_11 : Below v_1.heap.size v_1 v_11 := (by rw [← hw_11]; exact (Below.refl _ _).alloc (Nat.le_refl _) _); have B0_11 := Blk.below B0_1 hb_11 (Blk.lt B0_1); have B1_11 := Blk.below B1_1 hb_11 (Blk.lt B1_1); have B2_11 := Blk.below B2_1 hb_11 (Blk.lt B2_1); have O_11 := Below.trans O_1 (hb_11.mono O_1.size); have Q5_11 : Blk v_11 v_1.heap.size #[.int .u64 0, .int .u64 0] 184 := (by rw [← hw_11]; exact Blk.new _ _ _); have GL5 := Lib.hid (show w.heap.size + 1 + 1 < v_1.heap.size from Blk.lt B2_1); have y50_11 : v_11.cell? ⟨v_1.heap.size, 0, none⟩ = some (.int .u64 0) := Blk.cell Q5_11 0; have y51_11 : v_11.cell? ⟨v_1.heap.size, 1, none⟩ = some (.int .u64 0) := Blk.cell Q5_11 1; have f50_11 : v_11.frozen? ⟨v_1.heap.size, 0, none⟩ = false := Blk.free Q5_11 0; have f51_11 : v_11.frozen? ⟨v_1.heap.size, 1, none⟩ = false := Blk.free Q5_11 1; clear B0_1 B1_1 B2_1 O_1; clear hb_11 hw_11; skip)
        (try go_wp2_with fail)
        refine hK.out _ _ ?_ (fun hHeld => ?_)
        · (try dsimp only)
          exact ⟨by assumption, by assumption⟩
        clear hK K
        (try simp only [Act.put, List.setIfInBounds_toArray, List.set_cons_zero, List.set_cons_succ])
        refine wpAnyH_ready (rs := [3, 5]) (by kernel_rfl) (by simp) ?_
        refine AllReadyH.cons (o := { dst := some 12, op := Go.Op.call { callee := Go.Callee.value (Go.Operand.func 94), args := #[Go.Operand.tmp 11], argTypes := #[82] }, type := 184, pos := "ghash.go:61", after := #[{ on := 2, ground := Go.Ground.data }, { on := 1, ground := Go.Ground.chain }], guard := none }) rfl (fun K hK => ?_) ?_
        · skip
          go_simp
          (refine (HRY.out _).mono ?_; rintro e v_12 ⟨rfl, hb_12⟩; have B0_12 := Blk.below B0_11 hb_12 (Blk.lt B0_11); have B1_12 := Blk.below B1_11 hb_12 (Blk.lt B1_11); have B2_12 := Blk.below B2_11 hb_12 (Blk.lt B2_11); have Q5_12 := Blk.below Q5_11 hb_12 (Blk.lt Q5_11); have O_12 := Below.trans O_11 (hb_12.mono O_11.size); have y50_12 : v_12.cell? ⟨v_1.heap.size, 0, none⟩ = some (.int .u64 0) := Blk.cell Q5_12 0; have y51_12 : v_12.cell? ⟨v_1.heap.size, 1, none⟩ = some (.int .u64 0) := Blk.cell Q5_12 1; have f50_12 : v_12.frozen? ⟨v_1.heap.size, 0, none⟩ = false := Blk.free Q5_12 0; have f51_12 : v_12.frozen? ⟨v_1.heap.size, 1, none⟩ = false := Blk.free Q5_12 1; clear B0_11 B1_11 B2_11 O_11 Q5_11 y50_11 y51_11 f50_11 f51_11; clear hb_12; skip)
          (try go_wp2_with fail)
          refine hK.out _ _ ?_ (fun hHeld => ?_)
          · (try dsimp only)
            exact ⟨by assumption, by assumption⟩
          clear hK K
          (try simp only [Act.put, List.setIfInBounds_toArray, List.set_cons_zero, List.set_cons_succ])
          refine wpAnyH_ready (rs := [5]) (by kernel_rfl) (by simp) ?_
          refine AllReadyH.cons (o := { dst := some 6, op := Go.Op.alloc 184, type := 0, pos := "ghash.go:61", after := #[], guard := none }) rfl (fun K hK => ?_) AllReadyH.nil
          go_simp
          (obtain ⟨v_13, hw_13⟩ : ∃ q, v_12.alloc (.cells #[.int .u64 0, .int .u64 0] 184) = q := ⟨_, rfl⟩; rw [hw_13]; have hb_13 : Below v_12.heap.size v_12 v_13 := (by rw [← hw_13]; exact (Below.refl _ _).alloc (Nat.le_refl _) _); have B0_13 := Blk.below B0_12 hb_13 (Blk.lt B0_12); have B1_13 := Blk.below B1_12 hb_13 (Blk.lt B1_12); have B2_13 := Blk.below B2_12 hb_13 (Blk.lt B2_12); have Q5_13 := Blk.below Q5_12 hb_13 (Blk.lt Q5_12); have O_13 := Below.trans O_12 (hb_13.mono O_12.size); have Q6_13 : Blk v_13 v_12.heap.size #[.int .u64 0, .int .u64 0] 184 := (by rw [← hw_13]; exact Blk.new _ _ _); have GL6 := Lib.hid (show w.heap.size + 1 + 1 < v_12.heap.size from Blk.lt B2_12); have NE := Lib.hid (show v_1.heap.size < v_12.heap.size from Blk.lt Q5_12); have y50_13 : v_13.cell? ⟨v_1.heap.size, 0, none⟩ = some (.int .u64 0) := Blk.cell Q5_13 0; have y51_13 : v_13.cell? ⟨v_1.heap.size, 1, none⟩ = some (.int .u64 0) := Blk.cell Q5_13 1; have f50_13 : v_13.frozen? ⟨v_1.heap.size, 0, none⟩ = false := Blk.free Q5_13 0; have f51_13 : v_13.frozen? ⟨v_1.heap.size, 1, none⟩ = false := Blk.free Q5_13 1; have y60_13 : v_13.cell? ⟨v_12.heap.size, 0, none⟩ = some (.int .u64 0) := Blk.cell Q6_13 0; have y61_13 : v_13.cell? ⟨v_12.heap.size, 1, none⟩ = some (.int .u64 0) := Blk.cell Q6_13 1; have f60_13 : v_13.frozen? ⟨v_12.heap.size, 0, none⟩ = false := Blk.free Q6_13 0; have f61_13 : v_13.frozen? ⟨v_12.heap.size, 1, none⟩ = false := Blk.free Q6_13 1; clear B0_12 B1_12 B2_12 O_12 Q5_12 y50_12 y51_12 f50_12 f51_12; clear hb_13 hw_13; skip)
          (try go_wp2_with fail)
          refine hK.out _ _ ?_ (fun hHeld => ?_)
          · (try dsimp only)
            exact ⟨by assumption, by assumption⟩
          clear hK K
          (try simp only [Act.put, List.setIfInBounds_toArray, List.set_cons_zero, List.set_cons_succ])
          refine wpAnyH_ready (rs := [6]) (by kernel_rfl) (by simp) ?_
          refine AllReadyH.cons (o := { dst := none, op := Go.Op.store 184 (Go.Operand.tmp 5) (Go.Operand.tmp 10), type := 0, pos := "ghash.go:61", after := #[{ on := 4, ground := Go.Ground.data }, { on := 1, ground := Go.Ground.data }, { on := 3, ground := Go.Ground.chain }, { on := 0, ground := Go.Ground.phase }, { on := 1, ground := Go.Ground.phase }, { on := 2, ground := Go.Ground.textOnly Go.Departure.lateStores }, { on := 3, ground := Go.Ground.textOnly Go.Departure.lateStoresUnsure }, { on := 4, ground := Go.Ground.phase }, { on := 5, ground := Go.Ground.phase }], guard := none }) rfl (fun K hK => ?_) AllReadyH.nil
          go_simp
          (obtain ⟨v_14, hw_14⟩ : ∃ q, ((v_13.setCell ⟨v_1.heap.size, 0, none⟩ (.int .u64 (a : Int))).setCell ⟨v_1.heap.size, 1, none⟩ (.int .u64 (b : Int))) = q := ⟨_, rfl⟩; rw [hw_14]; have B0_14 := Blk.set_other (Blk.set_other B0_13 (a := ⟨v_1.heap.size, 0, none⟩) (by have h2 := GL5.out; simp; omega) (.int .u64 (a : Int))) (a := ⟨v_1.heap.size, 1, none⟩) (by have h2 := GL5.out; simp; omega) (.int .u64 (b : Int)); rw [hw_14] at B0_14; have B1_14 := Blk.set_other (Blk.set_other B1_13 (a := ⟨v_1.heap.size, 0, none⟩) (by have h2 := GL5.out; simp; omega) (.int .u64 (a : Int))) (a := ⟨v_1.heap.size, 1, none⟩) (by have h2 := GL5.out; simp; omega) (.int .u64 (b : Int)); rw [hw_14] at B1_14; have B2_14 := Blk.set_other (Blk.set_other B2_13 (a := ⟨v_1.heap.size, 0, none⟩) (by have h2 := GL5.out; simp; omega) (.int .u64 (a : Int))) (a := ⟨v_1.heap.size, 1, none⟩) (by have h2 := GL5.out; simp; omega) (.int .u64 (b : Int)); rw [hw_14] at B2_14; have Q6_14 := Blk.set_other (Blk.set_other Q6_13 (a := ⟨v_1.heap.size, 0, none⟩) (by have h2 := NE.out; simp; omega) (.int .u64 (a : Int))) (a := ⟨v_1.heap.size, 1, none⟩) (by have h2 := NE.out; simp; omega) (.int .u64 (b : Int)); rw [hw_14] at Q6_14; have Q5_14 : Blk v_14 v_1.heap.size #[.int .u64 (a : Int), .int .u64 (b : Int)] 184 := (by rw [← hw_14]; exact ((Q5_13).set 0 (.int .u64 (a : Int))).set 1 (.int .u64 (b : Int))); have O_14 : Below w.heap.size w v_14 := (by rw [← hw_14]; exact (O_13.setCell (by have h2 := GL5.out; simp; omega) _).setCell (by have h2 := GL5.out; simp; omega) _); have y50_14 : v_14.cell? ⟨v_1.heap.size, 0, none⟩ = some (.int .u64 (a : Int)) := Blk.cell Q5_14 0; have y51_14 : v_14.cell? ⟨v_1.heap.size, 1, none⟩ = some (.int .u64 (b : Int)) := Blk.cell Q5_14 1; have f50_14 : v_14.frozen? ⟨v_1.heap.size, 0, none⟩ = false := Blk.free Q5_14 0; have f51_14 : v_14.frozen? ⟨v_1.heap.size, 1, none⟩ = false := Blk.free Q5_14 1; have y60_14 : v_14.cell? ⟨v_12.heap.size, 0, none⟩ = some (.int .u64 0) := Blk.cell Q6_14 0; have y61_14 : v_14.cell? ⟨v_12.heap.size, 1, none⟩ = some (.int .u64 0) := Blk.cell Q6_14 1; have f60_14 : v_14.frozen? ⟨v_12.heap.size, 0, none⟩ = false := Blk.free Q6_14 0; have f61_14 : v_14.frozen? ⟨v_12.heap.size, 1, none⟩ = false := Blk.free Q6_14 1; clear B0_13 B1_13 B2_13 O_13 Q5_13 y50_13 y51_13 f50_13 f51_13 Q6_13 y60_13 y61_13 f60_13 f61_13; clear hw_14; skip)
          (try go_wp2_with fail)
          refine hK.out _ _ ?_ (fun hHeld => ?_)
          · (try dsimp only)
            exact ⟨by assumption, by assumption⟩
          clear hK K
          (try simp only [Act.put, List.setIfInBounds_toArray, List.set_cons_zero, List.set_cons_succ])
          refine wpAnyH_ready (rs := [7]) (by kernel_rfl) (by simp) ?_
          refine AllReadyH.cons (o := { dst := none, op := Go.Op.store 184 (Go.Operand.tmp 6) (Go.Operand.tmp 12), type := 0, pos := "ghash.go:61", after := #[{ on := 5, ground := Go.Ground.data }, { on := 3, ground := Go.Ground.data }, { on := 6, ground := Go.Ground.chain }, { on := 0, ground := Go.Ground.phase }, { on := 1, ground := Go.Ground.phase }, { on := 2, ground := Go.Ground.phase }, { on := 3, ground := Go.Ground.phase }, { on := 4, ground := Go.Ground.phase }, { on := 5, ground := Go.Ground.phase }, { on := 6, ground := Go.Ground.phase }], guard := none }) rfl (fun K hK => ?_) AllReadyH.nil
          go_simp
          (obtain ⟨v_15, hw_15⟩ : ∃ q, ((v_14.setCell ⟨v_12.heap.size, 0, none⟩ (.int .u64 (c : Int))).setCell ⟨v_12.heap.size, 1, none⟩ (.int .u64 (d : Int))) = q := ⟨_, rfl⟩; rw [hw_15]; have B0_15 := Blk.set_other (Blk.set_other B0_14 (a := ⟨v_12.heap.size, 0, none⟩) (by have h2 := GL6.out; simp; omega) (.int .u64 (c : Int))) (a := ⟨v_12.heap.size, 1, none⟩) (by have h2 := GL6.out; simp; omega) (.int .u64 (d : Int)); rw [hw_15] at B0_15; have B1_15 := Blk.set_other (Blk.set_other B1_14 (a := ⟨v_12.heap.size, 0, none⟩) (by have h2 := GL6.out; simp; omega) (.int .u64 (c : Int))) (a := ⟨v_12.heap.size, 1, none⟩) (by have h2 := GL6.out; simp; omega) (.int .u64 (d : Int)); rw [hw_15] at B1_15; have B2_15 := Blk.set_other (Blk.set_other B2_14 (a := ⟨v_12.heap.size, 0, none⟩) (by have h2 := GL6.out; simp; omega) (.int .u64 (c : Int))) (a := ⟨v_12.heap.size, 1, none⟩) (by have h2 := GL6.out; simp; omega) (.int .u64 (d : Int)); rw [hw_15] at B2_15; have Q5_15 := Blk.set_other (Blk.set_other Q5_14 (a := ⟨v_12.heap.size, 0, none⟩) (by have h2 := NE.out; simp; omega) (.int .u64 (c : Int))) (a := ⟨v_12.heap.size, 1, none⟩) (by have h2 := NE.out; simp; omega) (.int .u64 (d : Int)); rw [hw_15] at Q5_15; have Q6_15 : Blk v_15 v_12.heap.size #[.int .u64 (c : Int), .int .u64 (d : Int)] 184 := (by rw [← hw_15]; exact ((Q6_14).set 0 (.int .u64 (c : Int))).set 1 (.int .u64 (d : Int))); have O_15 : Below w.heap.size w v_15 := (by rw [← hw_15]; exact (O_14.setCell (by have h2 := GL6.out; simp; omega) _).setCell (by have h2 := GL6.out; simp; omega) _); have y50_15 : v_15.cell? ⟨v_1.heap.size, 0, none⟩ = some (.int .u64 (a : Int)) := Blk.cell Q5_15 0; have y51_15 : v_15.cell? ⟨v_1.heap.size, 1, none⟩ = some (.int .u64 (b : Int)) := Blk.cell Q5_15 1; have f50_15 : v_15.frozen? ⟨v_1.heap.size, 0, none⟩ = false := Blk.free Q5_15 0; have f51_15 : v_15.frozen? ⟨v_1.heap.size, 1, none⟩ = false := Blk.free Q5_15 1; have y60_15 : v_15.cell? ⟨v_12.heap.size, 0, none⟩ = some (.int .u64 (c : Int)) := Blk.cell Q6_15 0; have y61_15 : v_15.cell? ⟨v_12.heap.size, 1, none⟩ = some (.int .u64 (d : Int)) := Blk.cell Q6_15 1; have f60_15 : v_15.frozen? ⟨v_12.heap.size, 0, none⟩ = false := Blk.free Q6_15 0; have f61_15 : v_15.frozen? ⟨v_12.heap.size, 1, none⟩ = false := Blk.free Q6_15 1; clear B0_14 B1_14 B2_14 O_14 Q5_14 y50_14 y51_14 f50_14 f51_14 Q6_14 y60_14 y61_14 f60_14 f61_14; clear hw_15; skip)
          (try go_wp2_with fail)
          refine hK.out _ _ ?_ (fun hHeld => ?_)
          · (try dsimp only)
            exact ⟨by assumption, by assumption⟩
          clear hK K
          (try simp only [Act.put, List.setIfInBounds_toArray, List.set_cons_zero, List.set_cons_succ])
          refine wpAnyH_done (by kernel_rfl) ?_ _
          clear y50_15 f50_15 y51_15 f51_15 y60_15 f60_15 y61_15 f61_15
          go_wp2_with fail
          go_meet
          exact ⟨_, _, rfl, rfl, (by have := NE.out; omega), GL5.out, GL6.out, Q5_15, Q6_15, B2_15, O_15⟩
        refine AllReadyH.cons (o := { dst := some 6, op := Go.Op.alloc 184, type := 0, pos := "ghash.go:61", after := #[], guard := none }) rfl (fun K hK => ?_) AllReadyH.nil
        go_simp
        (obtain ⟨v_16, hw_16⟩ : ∃ q, v_11.alloc (.cells #[.int .u64 0, .int .u64 0] 184) = q := ⟨_, rfl⟩; rw [hw_16]; have hb_16 : Below v_11.heap.size v_11 v_16 := (by rw [← hw_16]; exact (Below.refl _ _).alloc (Nat.le_refl _) _); have B0_16 := Blk.below B0_11 hb_16 (Blk.lt B0_11); have B1_16 := Blk.below B1_11 hb_16 (Blk.lt B1_11); have B2_16 := Blk.below B2_11 hb_16 (Blk.lt B2_11); have Q5_16 := Blk.below Q5_11 hb_16 (Blk.lt Q5_11); have O_16 := Below.trans O_11 (hb_16.mono O_11.size); have Q6_16 : Blk v_16 v_11.heap.size #[.int .u64 0, .int .u64 0] 184 := (by rw [← hw_16]; exact Blk.new _ _ _); have GL6 := Lib.hid (show w.heap.size + 1 + 1 < v_11.heap.size from Blk.lt B2_11); have NE := Lib.hid (show v_1.heap.size < v_11.heap.size from Blk.lt Q5_11); have y50_16 : v_16.cell? ⟨v_1.heap.size, 0, none⟩ = some (.int .u64 0) := Blk.cell Q5_16 0; have y51_16 : v_16.cell? ⟨v_1.heap.size, 1, none⟩ = some (.int .u64 0) := Blk.cell Q5_16 1; have f50_16 : v_16.frozen? ⟨v_1.heap.size, 0, none⟩ = false := Blk.free Q5_16 0; have f51_16 : v_16.frozen? ⟨v_1.heap.size, 1, none⟩ = false := Blk.free Q5_16 1; have y60_16 : v_16.cell? ⟨v_11.heap.size, 0, none⟩ = some (.int .u64 0) := Blk.cell Q6_16 0; have y61_16 : v_16.cell? ⟨v_11.heap.size, 1, none⟩ = some (.int .u64 0) := Blk.cell Q6_16 1; have f60_16 : v_16.frozen? ⟨v_11.heap.size, 0, none⟩ = false := Blk.free Q6_16 0; have f61_16 : v_16.frozen? ⟨v_11.heap.size, 1, none⟩ = false := Blk.free Q6_16 1; clear B0_11 B1_11 B2_11 O_11 Q5_11 y50_11 y51_11 f50_11 f51_11; clear hb_16 hw_16; skip)
        (try go_wp2_with fail)
        refine hK.out _ _ ?_ (fun hHeld => ?_)
        · (try dsimp only)
          exact ⟨by assumption, by assumption⟩
        clear hK K
        (try simp only [Act.put, List.setIfInBounds_toArray, List.set_cons_zero, List.set_cons_succ])
        refine wpAnyH_ready (rs := [3]) (by kernel_rfl) (by simp) ?_
        refine AllReadyH.cons (o := { dst := some 12, op := Go.Op.call { callee := Go.Callee.value (Go.Operand.func 94), args := #[Go.Operand.tmp 11], argTypes := #[82] }, type := 184, pos := "ghash.go:61", after := #[{ on := 2, ground := Go.Ground.data }, { on := 1, ground := Go.Ground.chain }], guard := none }) rfl (fun K hK => ?_) AllReadyH.nil
        go_simp
        (refine (HRY.out _).mono ?_; rintro e v_17 ⟨rfl, hb_17⟩; have B0_17 := Blk.below B0_16 hb_17 (Blk.lt B0_16); have B1_17 := Blk.below B1_16 hb_17 (Blk.lt B1_16); have B2_17 := Blk.below B2_16 hb_17 (Blk.lt B2_16); have Q5_17 := Blk.below Q5_16 hb_17 (Blk.lt Q5_16); have Q6_17 := Blk.below Q6_16 hb_17 (Blk.lt Q6_16); have O_17 := Below.trans O_16 (hb_17.mono O_16.size); have y50_17 : v_17.cell? ⟨v_1.heap.size, 0, none⟩ = some (.int .u64 0) := Blk.cell Q5_17 0; have y51_17 : v_17.cell? ⟨v_1.heap.size, 1, none⟩ = some (.int .u64 0) := Blk.cell Q5_17 1; have f50_17 : v_17.frozen? ⟨v_1.heap.size, 0, none⟩ = false := Blk.free Q5_17 0; have f51_17 : v_17.frozen? ⟨v_1.heap.size, 1, none⟩ = false := Blk.free Q5_17 1; have y60_17 : v_17.cell? ⟨v_11.heap.size, 0, none⟩ = some (.int .u64 0) := Blk.cell Q6_17 0; have y61_17 : v_17.cell? ⟨v_11.heap.size, 1, none⟩ = some (.int .u64 0) := Blk.cell Q6_17 1; have f60_17 : v_17.frozen? ⟨v_11.heap.size, 0, none⟩ = false := Blk.free Q6_17 0; have f61_17 : v_17.frozen? ⟨v_11.heap.size, 1, none⟩ = false := Blk.free Q6_17 1; clear B0_16 B1_16 B2_16 O_16 Q5_16 y50_16 y51_16 f50_16 f51_16 Q6_16 y60_16 y61_16 f60_16 f61_16; clear hb_17; skip)
        (try go_wp2_with fail)
        refine hK.out _ _ ?_ (fun hHeld => ?_)
        · (try dsimp only)
          exact ⟨by assumption, by assumption⟩
        clear hK K
        (try simp only [Act.put, List.setIfInBounds_toArray, List.set_cons_zero, List.set_cons_succ])
        refine wpAnyH_ready (rs := [6]) (by kernel_rfl) (by simp) ?_
        refine AllReadyH.cons (o := { dst := none, op := Go.Op.store 184 (Go.Operand.tmp 5) (Go.Operand.tmp 10), type := 0, pos := "ghash.go:61", after := #[{ on := 4, ground := Go.Ground.data }, { on := 1, ground := Go.Ground.data }, { on := 3, ground := Go.Ground.chain }, { on := 0, ground := Go.Ground.phase }, { on := 1, ground := Go.Ground.phase }, { on := 2, ground := Go.Ground.textOnly Go.Departure.lateStores }, { on := 3, ground := Go.Ground.textOnly Go.Departure.lateStoresUnsure }, { on := 4, ground := Go.Ground.phase }, { on := 5, ground := Go.Ground.phase }], guard := none }) rfl (fun K hK => ?_) AllReadyH.nil
        go_simp
        (obtain ⟨v_18, hw_18⟩ : ∃ q, ((v_17.setCell ⟨v_1.heap.size, 0, none⟩ (.int .u64 (a : Int))).setCell ⟨v_1.heap.size, 1, none⟩ (.int .u64 (b : Int))) = q := ⟨_, rfl⟩; rw [hw_18]; have B0_18 := Blk.set_other (Blk.set_other B0_17 (a := ⟨v_1.heap.size, 0, none⟩) (by have h2 := GL5.out; simp; omega) (.int .u64 (a : Int))) (a := ⟨v_1.heap.size, 1, none⟩) (by have h2 := GL5.out; simp; omega) (.int .u64 (b : Int)); rw [hw_18] at B0_18; have B1_18 := Blk.set_other (Blk.set_other B1_17 (a := ⟨v_1.heap.size, 0, none⟩) (by have h2 := GL5.out; simp; omega) (.int .u64 (a : Int))) (a := ⟨v_1.heap.size, 1, none⟩) (by have h2 := GL5.out; simp; omega) (.int .u64 (b : Int)); rw [hw_18] at B1_18; have B2_18 := Blk.set_other (Blk.set_other B2_17 (a := ⟨v_1.heap.size, 0, none⟩) (by have h2 := GL5.out; simp; omega) (.int .u64 (a : Int))) (a := ⟨v_1.heap.size, 1, none⟩) (by have h2 := GL5.out; simp; omega) (.int .u64 (b : Int)); rw [hw_18] at B2_18; have Q6_18 := Blk.set_other (Blk.set_other Q6_17 (a := ⟨v_1.heap.size, 0, none⟩) (by have h2 := NE.out; simp; omega) (.int .u64 (a : Int))) (a := ⟨v_1.heap.size, 1, none⟩) (by have h2 := NE.out; simp; omega) (.int .u64 (b : Int)); rw [hw_18] at Q6_18; have Q5_18 : Blk v_18 v_1.heap.size #[.int .u64 (a : Int), .int .u64 (b : Int)] 184 := (by rw [← hw_18]; exact ((Q5_17).set 0 (.int .u64 (a : Int))).set 1 (.int .u64 (b : Int))); have O_18 : Below w.heap.size w v_18 := (by rw [← hw_18]; exact (O_17.setCell (by have h2 := GL5.out; simp; omega) _).setCell (by have h2 := GL5.out; simp; omega) _); have y50_18 : v_18.cell? ⟨v_1.heap.size, 0, none⟩ = some (.int .u64 (a : Int)) := Blk.cell Q5_18 0; have y51_18 : v_18.cell? ⟨v_1.heap.size, 1, none⟩ = some (.int .u64 (b : Int)) := Blk.cell Q5_18 1; have f50_18 : v_18.frozen? ⟨v_1.heap.size, 0, none⟩ = false := Blk.free Q5_18 0; have f51_18 : v_18.frozen? ⟨v_1.heap.size, 1, none⟩ = false := Blk.free Q5_18 1; have y60_18 : v_18.cell? ⟨v_11.heap.size, 0, none⟩ = some (.int .u64 0) := Blk.cell Q6_18 0; have y61_18 : v_18.cell? ⟨v_11.heap.size, 1, none⟩ = some (.int .u64 0) := Blk.cell Q6_18 1; have f60_18 : v_18.frozen? ⟨v_11.heap.size, 0, none⟩ = false := Blk.free Q6_18 0; have f61_18 : v_18.frozen? ⟨v_11.heap.size, 1, none⟩ = false := Blk.free Q6_18 1; clear B0_17 B1_17 B2_17 O_17 Q5_17 y50_17 y51_17 f50_17 f51_17 Q6_17 y60_17 y61_17 f60_17 f61_17; clear hw_18; skip)
        (try go_wp2_with fail)
        refine hK.out _ _ ?_ (fun hHeld => ?_)
        · (try dsimp only)
          exact ⟨by assumption, by assumption⟩
        clear hK K
        (try simp only [Act.put, List.setIfInBounds_toArray, List.set_cons_zero, List.set_cons_succ])
        refine wpAnyH_ready (rs := [7]) (by kernel_rfl) (by simp) ?_
        refine AllReadyH.cons (o := { dst := none, op := Go.Op.store 184 (Go.Operand.tmp 6) (Go.Operand.tmp 12), type := 0, pos := "ghash.go:61", after := #[{ on := 5, ground := Go.Ground.data }, { on := 3, ground := Go.Ground.data }, { on := 6, ground := Go.Ground.chain }, { on := 0, ground := Go.Ground.phase }, { on := 1, ground := Go.Ground.phase }, { on := 2, ground := Go.Ground.phase }, { on := 3, ground := Go.Ground.phase }, { on := 4, ground := Go.Ground.phase }, { on := 5, ground := Go.Ground.phase }, { on := 6, ground := Go.Ground.phase }], guard := none }) rfl (fun K hK => ?_) AllReadyH.nil
        go_simp
        (obtain ⟨v_19, hw_19⟩ : ∃ q, ((v_18.setCell ⟨v_11.heap.size, 0, none⟩ (.int .u64 (c : Int))).setCell ⟨v_11.heap.size, 1, none⟩ (.int .u64 (d : Int))) = q := ⟨_, rfl⟩; rw [hw_19]; have B0_19 := Blk.set_other (Blk.set_other B0_18 (a := ⟨v_11.heap.size, 0, none⟩) (by have h2 := GL6.out; simp; omega) (.int .u64 (c : Int))) (a := ⟨v_11.heap.size, 1, none⟩) (by have h2 := GL6.out; simp; omega) (.int .u64 (d : Int)); rw [hw_19] at B0_19; have B1_19 := Blk.set_other (Blk.set_other B1_18 (a := ⟨v_11.heap.size, 0, none⟩) (by have h2 := GL6.out; simp; omega) (.int .u64 (c : Int))) (a := ⟨v_11.heap.size, 1, none⟩) (by have h2 := GL6.out; simp; omega) (.int .u64 (d : Int)); rw [hw_19] at B1_19; have B2_19 := Blk.set_other (Blk.set_other B2_18 (a := ⟨v_11.heap.size, 0, none⟩) (by have h2 := GL6.out; simp; omega) (.int .u64 (c : Int))) (a := ⟨v_11.heap.size, 1, none⟩) (by have h2 := GL6.out; simp; omega) (.int .u64 (d : Int)); rw [hw_19] at B2_19; have Q5_19 := Blk.set_other (Blk.set_other Q5_18 (a := ⟨v_11.heap.size, 0, none⟩) (by have h2 := NE.out; simp; omega) (.int .u64 (c : Int))) (a := ⟨v_11.heap.size, 1, none⟩) (by have h2 := NE.out; simp; omega) (.int .u64 (d : Int)); rw [hw_19] at Q5_19; have Q6_19 : Blk v_19 v_11.heap.size #[.int .u64 (c : Int), .int .u64 (d : Int)] 184 := (by rw [← hw_19]; exact ((Q6_18).set 0 (.int .u64 (c : Int))).set 1 (.int .u64 (d : Int))); have O_19 : Below w.heap.size w v_19 := (by rw [← hw_19]; exact (O_18.setCell (by have h2 := GL6.out; simp; omega) _).setCell (by have h2 := GL6.out; simp; omega) _); have y50_19 : v_19.cell? ⟨v_1.heap.size, 0, none⟩ = some (.int .u64 (a : Int)) := Blk.cell Q5_19 0; have y51_19 : v_19.cell? ⟨v_1.heap.size, 1, none⟩ = some (.int .u64 (b : Int)) := Blk.cell Q5_19 1; have f50_19 : v_19.frozen? ⟨v_1.heap.size, 0, none⟩ = false := Blk.free Q5_19 0; have f51_19 : v_19.frozen? ⟨v_1.heap.size, 1, none⟩ = false := Blk.free Q5_19 1; have y60_19 : v_19.cell? ⟨v_11.heap.size, 0, none⟩ = some (.int .u64 (c : Int)) := Blk.cell Q6_19 0; have y61_19 : v_19.cell? ⟨v_11.heap.size, 1, none⟩ = some (.int .u64 (d : Int)) := Blk.cell Q6_19 1; have f60_19 : v_19.frozen? ⟨v_11.heap.size, 0, none⟩ = false := Blk.free Q6_19 0; have f61_19 : v_19.frozen? ⟨v_11.heap.size, 1, none⟩ = false := Blk.free Q6_19 1; clear B0_18 B1_18 B2_18 O_18 Q5_18 y50_18 y51_18 f50_18 f51_18 Q6_18 y60_18 y61_18 f60_18 f61_18; clear hw_19; skip)
        (try go_wp2_with fail)
        refine hK.out _ _ ?_ (fun hHeld => ?_)
        · (try dsimp only)
          exact ⟨by assumption, by assumption⟩
        clear hK K
        (try simp only [Act.put, List.setIfInBounds_toArray, List.set_cons_zero, List.set_cons_succ])
        refine wpAnyH_done (by kernel_rfl) ?_ _
        clear y50_19 f50_19 y51_19 f51_19 y60_19 f60_19 y61_19 f61_19
        go_wp2_with fail
        go_meet
        exact ⟨_, _, rfl, rfl, (by have := NE.out; omega), GL5.out, GL6.out, Q5_19, Q6_19, B2_19, O_19⟩
      refine AllReadyH.cons (o := { dst := some 6, op := Go.Op.alloc 184, type := 0, pos := "ghash.go:61", after := #[], guard := none }) rfl (fun K hK => ?_) AllReadyH.nil
      go_simp
      (obtain ⟨v_20, hw_20⟩ : ∃ q, v_1.alloc (.cells #[.int .u64 0, .int .u64 0] 184) = q := ⟨_, rfl⟩; rw [hw_20]; have hb_20 : Below v_1.heap.size v_1 v_20 := (by rw [← hw_20]; exact (Below.refl _ _).alloc (Nat.le_refl _) _); have B0_20 := Blk.below B0_1 hb_20 (Blk.lt B0_1); have B1_20 := Blk.below B1_1 hb_20 (Blk.lt B1_1); have B2_20 := Blk.below B2_1 hb_20 (Blk.lt B2_1); have O_20 := Below.trans O_1 (hb_20.mono O_1.size); have Q6_20 : Blk v_20 v_1.heap.size #[.int .u64 0, .int .u64 0] 184 := (by rw [← hw_20]; exact Blk.new _ _ _); have GL6 := Lib.hid (show w.heap.size + 1 + 1 < v_1.heap.size from Blk.lt B2_1); have y60_20 : v_20.cell? ⟨v_1.heap.size, 0, none⟩ = some (.int .u64 0) := Blk.cell Q6_20 0; have y61_20 : v_20.cell? ⟨v_1.heap.size, 1, none⟩ = some (.int .u64 0) := Blk.cell Q6_20 1; have f60_20 : v_20.frozen? ⟨v_1.heap.size, 0, none⟩ = false := Blk.free Q6_20 0; have f61_20 : v_20.frozen? ⟨v_1.heap.size, 1, none⟩ = false := Blk.free Q6_20 1; clear B0_1 B1_1 B2_1 O_1; clear hb_20 hw_20; skip)
      (try go_wp2_with fail)
      refine hK.out _ _ ?_ (fun hHeld => ?_)
      · (try dsimp only)
        exact ⟨by assumption, by assumption⟩
      clear hK K
      (try simp only [Act.put, List.setIfInBounds_toArray, List.set_cons_zero, List.set_cons_succ])
      refine wpAnyH_ready (rs := [3, 4]) (by kernel_rfl) (by simp) ?_
      refine AllReadyH.cons (o := { dst := some 12, op := Go.Op.call { callee := Go.Callee.value (Go.Operand.func 94), args := #[Go.Operand.tmp 11], argTypes := #[82] }, type := 184, pos := "ghash.go:61", after := #[{ on := 2, ground := Go.Ground.data }, { on := 1, ground := Go.Ground.chain }], guard := none }) rfl (fun K hK => ?_) ?_
      · skip
        go_simp
        (refine (HRY.out _).mono ?_; rintro e v_21 ⟨rfl, hb_21⟩; have B0_21 := Blk.below B0_20 hb_21 (Blk.lt B0_20); have B1_21 := Blk.below B1_20 hb_21 (Blk.lt B1_20); have B2_21 := Blk.below B2_20 hb_21 (Blk.lt B2_20); have Q6_21 := Blk.below Q6_20 hb_21 (Blk.lt Q6_20); have O_21 := Below.trans O_20 (hb_21.mono O_20.size); have y60_21 : v_21.cell? ⟨v_1.heap.size, 0, none⟩ = some (.int .u64 0) := Blk.cell Q6_21 0; have y61_21 : v_21.cell? ⟨v_1.heap.size, 1, none⟩ = some (.int .u64 0) := Blk.cell Q6_21 1; have f60_21 : v_21.frozen? ⟨v_1.heap.size, 0, none⟩ = false := Blk.free Q6_21 0; have f61_21 : v_21.frozen? ⟨v_1.heap.size, 1, none⟩ = false := Blk.free Q6_21 1; clear B0_20 B1_20 B2_20 O_20 Q6_20 y60_20 y61_20 f60_20 f61_20; clear hb_21; skip)
        (try go_wp2_with fail)
        refine hK.out _ _ ?_ (fun hHeld => ?_)
        · (try dsimp only)
          exact ⟨by assumption, by assumption⟩
        clear hK K
        (try simp only [Act.put, List.setIfInBounds_toArray, List.set_cons_zero, List.set_cons_succ])
        refine wpAnyH_ready (rs := [4]) (by kernel_rfl) (by simp) ?_
        refine AllReadyH.cons (o := { dst := some 5, op := Go.Op.alloc 184, type := 0, pos := "ghash.go:61", after := #[], guard := none }) rfl (fun K hK => ?_) AllReadyH.nil
        go_simp
        (obtain ⟨v_22, hw_22⟩ : ∃ q, v_21.alloc (.cells #[.int .u64 0, .int .u64 0] 184) = q := ⟨_, rfl⟩; rw [hw_22]; have hb_22 : Below v_21.heap.size v_21 v_22 := (by rw [← hw_22]; exact (Below.refl _ _).alloc (Nat.le_refl _) _); have B0_22 := Blk.below B0_21 hb_22 (Blk.lt B0_21); have B1_22 := Blk.below B1_21 hb_22 (Blk.lt B1_21); have B2_22 := Blk.below B2_21 hb_22 (Blk.lt B2_21); have Q6_22 := Blk.below Q6_21 hb_22 (Blk.lt Q6_21); have O_22 := Below.trans O_21 (hb_22.mono O_21.size); have Q5_22 : Blk v_22 v_21.heap.size #[.int .u64 0, .int .u64 0] 184 := (by rw [← hw_22]; exact Blk.new _ _ _); have GL5 := Lib.hid (show w.heap.size + 1 + 1 < v_21.heap.size from Blk.lt B2_21); have NE := Lib.hid (show v_1.heap.size < v_21.heap.size from Blk.lt Q6_21); have y50_22 : v_22.cell? ⟨v_21.heap.size, 0, none⟩ = some (.int .u64 0) := Blk.cell Q5_22 0; have y51_22 : v_22.cell? ⟨v_21.heap.size, 1, none⟩ = some (.int .u64 0) := Blk.cell Q5_22 1; have f50_22 : v_22.frozen? ⟨v_21.heap.size, 0, none⟩ = false := Blk.free Q5_22 0; have f51_22 : v_22.frozen? ⟨v_21.heap.size, 1, none⟩ = false := Blk.free Q5_22 1; have y60_22 : v_22.cell? ⟨v_1.heap.size, 0, none⟩ = some (.int .u64 0) := Blk.cell Q6_22 0; have y61_22 : v_22.cell? ⟨v_1.heap.size, 1, none⟩ = some (.int .u64 0) := Blk.cell Q6_22 1; have f60_22 : v_22.frozen? ⟨v_1.heap.size, 0, none⟩ = false := Blk.free Q6_22 0; have f61_22 : v_22.frozen? ⟨v_1.heap.size, 1, none⟩ = false := Blk.free Q6_22 1; clear B0_21 B1_21 B2_21 O_21 Q6_21 y60_21 y61_21 f60_21 f61_21; clear hb_22 hw_22; skip)
        (try go_wp2_with fail)
        refine hK.out _ _ ?_ (fun hHeld => ?_)
        · (try dsimp only)
          exact ⟨by assumption, by assumption⟩
        clear hK K
        (try simp only [Act.put, List.setIfInBounds_toArray, List.set_cons_zero, List.set_cons_succ])
        refine wpAnyH_ready (rs := [6]) (by kernel_rfl) (by simp) ?_
        refine AllReadyH.cons (o := { dst := none, op := Go.Op.store 184 (Go.Operand.tmp 5) (Go.Operand.tmp 10), type := 0, pos := "ghash.go:61", after := #[{ on := 4, ground := Go.Ground.data }, { on := 1, ground := Go.Ground.data }, { on := 3, ground := Go.Ground.chain }, { on := 0, ground := Go.Ground.phase }, { on := 1, ground := Go.Ground.phase }, { on := 2, ground := Go.Ground.textOnly Go.Departure.lateStores }, { on := 3, ground := Go.Ground.textOnly Go.Departure.lateStoresUnsure }, { on := 4, ground := Go.Ground.phase }, { on := 5, ground := Go.Ground.phase }], guard := none }) rfl (fun K hK => ?_) AllReadyH.nil
        go_simp
        (obtain ⟨v_23, hw_23⟩ : ∃ q, ((v_22.setCell ⟨v_21.heap.size, 0, none⟩ (.int .u64 (a : Int))).setCell ⟨v_21.heap.size, 1, none⟩ (.int .u64 (b : Int))) = q := ⟨_, rfl⟩; rw [hw_23]; have B0_23 := Blk.set_other (Blk.set_other B0_22 (a := ⟨v_21.heap.size, 0, none⟩) (by have h2 := GL5.out; simp; omega) (.int .u64 (a : Int))) (a := ⟨v_21.heap.size, 1, none⟩) (by have h2 := GL5.out; simp; omega) (.int .u64 (b : Int)); rw [hw_23] at B0_23; have B1_23 := Blk.set_other (Blk.set_other B1_22 (a := ⟨v_21.heap.size, 0, none⟩) (by have h2 := GL5.out; simp; omega) (.int .u64 (a : Int))) (a := ⟨v_21.heap.size, 1, none⟩) (by have h2 := GL5.out; simp; omega) (.int .u64 (b : Int)); rw [hw_23] at B1_23; have B2_23 := Blk.set_other (Blk.set_other B2_22 (a := ⟨v_21.heap.size, 0, none⟩) (by have h2 := GL5.out; simp; omega) (.int .u64 (a : Int))) (a := ⟨v_21.heap.size, 1, none⟩) (by have h2 := GL5.out; simp; omega) (.int .u64 (b : Int)); rw [hw_23] at B2_23; have Q6_23 := Blk.set_other (Blk.set_other Q6_22 (a := ⟨v_21.heap.size, 0, none⟩) (by have h2 := NE.out; simp; omega) (.int .u64 (a : Int))) (a := ⟨v_21.heap.size, 1, none⟩) (by have h2 := NE.out; simp; omega) (.int .u64 (b : Int)); rw [hw_23] at Q6_23; have Q5_23 : Blk v_23 v_21.heap.size #[.int .u64 (a : Int), .int .u64 (b : Int)] 184 := (by rw [← hw_23]; exact ((Q5_22).set 0 (.int .u64 (a : Int))).set 1 (.int .u64 (b : Int))); have O_23 : Below w.heap.size w v_23 := (by rw [← hw_23]; exact (O_22.setCell (by have h2 := GL5.out; simp; omega) _).setCell (by have h2 := GL5.out; simp; omega) _); have y50_23 : v_23.cell? ⟨v_21.heap.size, 0, none⟩ = some (.int .u64 (a : Int)) := Blk.cell Q5_23 0; have y51_23 : v_23.cell? ⟨v_21.heap.size, 1, none⟩ = some (.int .u64 (b : Int)) := Blk.cell Q5_23 1; have f50_23 : v_23.frozen? ⟨v_21.heap.size, 0, none⟩ = false := Blk.free Q5_23 0; have f51_23 : v_23.frozen? ⟨v_21.heap.size, 1, none⟩ = false := Blk.free Q5_23 1; have y60_23 : v_23.cell? ⟨v_1.heap.size, 0, none⟩ = some (.int .u64 0) := Blk.cell Q6_23 0; have y61_23 : v_23.cell? ⟨v_1.heap.size, 1, none⟩ = some (.int .u64 0) := Blk.cell Q6_23 1; have f60_23 : v_23.frozen? ⟨v_1.heap.size, 0, none⟩ = false := Blk.free Q6_23 0; have f61_23 : v_23.frozen? ⟨v_1.heap.size, 1, none⟩ = false := Blk.free Q6_23 1; clear B0_22 B1_22 B2_22 O_22 Q5_22 y50_22 y51_22 f50_22 f51_22 Q6_22 y60_22 y61_22 f60_22 f61_22; clear hw_23; skip)
        (try go_wp2_with fail)
        refine hK.out _ _ ?_ (fun hHeld => ?_)
        · (try dsimp only)
          exact ⟨by assumption, by assumption⟩
        clear hK K
        (try simp only [Act.put, List.setIfInBounds_toArray, List.set_cons_zero, List.set_cons_succ])
        refine wpAnyH_ready (rs := [7]) (by kernel_rfl) (by simp) ?_
        refine AllReadyH.cons (o := { dst := none, op := Go.Op.store 184 (Go.Operand.tmp 6) (Go.Operand.tmp 12), type := 0, pos := "ghash.go:61", after := #[{ on := 5, ground := Go.Ground.data }, { on := 3, ground := Go.Ground.data }, { on := 6, ground := Go.Ground.chain }, { on := 0, ground := Go.Ground.phase }, { on := 1, ground := Go.Ground.phase }, { on := 2, ground := Go.Ground.phase }, { on := 3, ground := Go.Ground.phase }, { on := 4, ground := Go.Ground.phase }, { on := 5, ground := Go.Ground.phase }, { on := 6, ground := Go.Ground.phase }], guard := none }) rfl (fun K hK => ?_) AllReadyH.nil
        go_simp
        (obtain ⟨v_24, hw_24⟩ : ∃ q, ((v_23.setCell ⟨v_1.heap.size, 0, none⟩ (.int .u64 (c : Int))).setCell ⟨v_1.heap.size, 1, none⟩ (.int .u64 (d : Int))) = q := ⟨_, rfl⟩; rw [hw_24]; have B0_24 := Blk.set_other (Blk.set_other B0_23 (a := ⟨v_1.heap.size, 0, none⟩) (by have h2 := GL6.out; simp; omega) (.int .u64 (c : Int))) (a := ⟨v_1.heap.size, 1, none⟩) (by have h2 := GL6.out; simp; omega) (.int .u64 (d : Int)); rw [hw_24] at B0_24; have B1_24 := Blk.set_other (Blk.set_other B1_23 (a := ⟨v_1.heap.size, 0, none⟩) (by have h2 := GL6.out; simp; omega) (.int .u64 (c : Int))) (a := ⟨v_1.heap.size, 1, none⟩) (by have h2 := GL6.out; simp; omega) (.int .u64 (d : Int)); rw [hw_24] at B1_24; have B2_24 := Blk.set_other (Blk.set_other B2_23 (a := ⟨v_1.heap.size, 0, none⟩) (by have h2 := GL6.out; simp; omega) (.int .u64 (c : Int))) (a := ⟨v_1.heap.size, 1, none⟩) (by have h2 := GL6.out; simp; omega) (.int .u64 (d : Int)); rw [hw_24] at B2_24; have Q5_24 := Blk.set_other (Blk.set_other Q5_23 (a := ⟨v_1.heap.size, 0, none⟩) (by have h2 := NE.out; simp; omega) (.int .u64 (c : Int))) (a := ⟨v_1.heap.size, 1, none⟩) (by have h2 := NE.out; simp; omega) (.int .u64 (d : Int)); rw [hw_24] at Q5_24; have Q6_24 : Blk v_24 v_1.heap.size #[.int .u64 (c : Int), .int .u64 (d : Int)] 184 := (by rw [← hw_24]; exact ((Q6_23).set 0 (.int .u64 (c : Int))).set 1 (.int .u64 (d : Int))); have O_24 : Below w.heap.size w v_24 := (by rw [← hw_24]; exact (O_23.setCell (by have h2 := GL6.out; simp; omega) _).setCell (by have h2 := GL6.out; simp; omega) _); have y50_24 : v_24.cell? ⟨v_21.heap.size, 0, none⟩ = some (.int .u64 (a : Int)) := Blk.cell Q5_24 0; have y51_24 : v_24.cell? ⟨v_21.heap.size, 1, none⟩ = some (.int .u64 (b : Int)) := Blk.cell Q5_24 1; have f50_24 : v_24.frozen? ⟨v_21.heap.size, 0, none⟩ = false := Blk.free Q5_24 0; have f51_24 : v_24.frozen? ⟨v_21.heap.size, 1, none⟩ = false := Blk.free Q5_24 1; have y60_24 : v_24.cell? ⟨v_1.heap.size, 0, none⟩ = some (.int .u64 (c : Int)) := Blk.cell Q6_24 0; have y61_24 : v_24.cell? ⟨v_1.heap.size, 1, none⟩ = some (.int .u64 (d : Int)) := Blk.cell Q6_24 1; have f60_24 : v_24.frozen? ⟨v_1.heap.size, 0, none⟩ = false := Blk.free Q6_24 0; have f61_24 : v_24.frozen? ⟨v_1.heap.size, 1, none⟩ = false := Blk.free Q6_24 1; clear B0_23 B1_23 B2_23 O_23 Q5_23 y50_23 y51_23 f50_23 f51_23 Q6_23 y60_23 y61_23 f60_23 f61_23; clear hw_24; skip)
        (try go_wp2_with fail)
        refine hK.out _ _ ?_ (fun hHeld => ?_)
        · (try dsimp only)
          exact ⟨by assumption, by assumption⟩
        clear hK K
        (try simp only [Act.put, List.setIfInBounds_toArray, List.set_cons_zero, List.set_cons_succ])
        refine wpAnyH_done (by kernel_rfl) ?_ _
        clear y50_24 f50_24 y51_24 f51_24 y60_24 f60_24 y61_24 f61_24
        go_wp2_with fail
        go_meet
        exact ⟨_, _, rfl, rfl, (by have := NE.out; omega), GL5.out, GL6.out, Q5_24, Q6_24, B2_24, O_24⟩
      refine AllReadyH.cons (o := { dst := some 5, op := Go.Op.alloc 184, type := 0, pos := "ghash.go:61", after := #[], guard := none }) rfl (fun K hK => ?_) AllReadyH.nil
      go_simp
      (obtain ⟨v_25, hw_25⟩ : ∃ q, v_20.alloc (.cells #[.int .u64 0, .int .u64 0] 184) = q := ⟨_, rfl⟩; rw [hw_25]; have hb_25 : Below v_20.heap.size v_20 v_25 := (by rw [← hw_25]; exact (Below.refl _ _).alloc (Nat.le_refl _) _); have B0_25 := Blk.below B0_20 hb_25 (Blk.lt B0_20); have B1_25 := Blk.below B1_20 hb_25 (Blk.lt B1_20); have B2_25 := Blk.below B2_20 hb_25 (Blk.lt B2_20); have Q6_25 := Blk.below Q6_20 hb_25 (Blk.lt Q6_20); have O_25 := Below.trans O_20 (hb_25.mono O_20.size); have Q5_25 : Blk v_25 v_20.heap.size #[.int .u64 0, .int .u64 0] 184 := (by rw [← hw_25]; exact Blk.new _ _ _); have GL5 := Lib.hid (show w.heap.size + 1 + 1 < v_20.heap.size from Blk.lt B2_20); have NE := Lib.hid (show v_1.heap.size < v_20.heap.size from Blk.lt Q6_20); have y50_25 : v_25.cell? ⟨v_20.heap.size, 0, none⟩ = some (.int .u64 0) := Blk.cell Q5_25 0; have y51_25 : v_25.cell? ⟨v_20.heap.size, 1, none⟩ = some (.int .u64 0) := Blk.cell Q5_25 1; have f50_25 : v_25.frozen? ⟨v_20.heap.size, 0, none⟩ = false := Blk.free Q5_25 0; have f51_25 : v_25.frozen? ⟨v_20.heap.size, 1, none⟩ = false := Blk.free Q5_25 1; have y60_25 : v_25.cell? ⟨v_1.heap.size, 0, none⟩ = some (.int .u64 0) := Blk.cell Q6_25 0; have y61_25 : v_25.cell? ⟨v_1.heap.size, 1, none⟩ = some (.int .u64 0) := Blk.cell Q6_25 1; have f60_25 : v_25.frozen? ⟨v_1.heap.size, 0, none⟩ = false := Blk.free Q6_25 0; have f61_25 : v_25.frozen? ⟨v_1.heap.size, 1, none⟩ = false := Blk.free Q6_25 1; clear B0_20 B1_20 B2_20 O_20 Q6_20 y60_20 y61_20 f60_20 f61_20; clear hb_25 hw_25; skip)
      (try go_wp2_with fail)
      refine hK.out _ _ ?_ (fun hHeld => ?_)
      · (try dsimp only)
        exact ⟨by assumption, by assumption⟩
      clear hK K
      (try simp only [Act.put, List.setIfInBounds_toArray, List.set_cons_zero, List.set_cons_succ])
      refine wpAnyH_ready (rs := [3]) (by kernel_rfl) (by simp) ?_
      refine AllReadyH.cons (o := { dst := some 12, op := Go.Op.call { callee := Go.Callee.value (Go.Operand.func 94), args := #[Go.Operand.tmp 11], argTypes := #[82] }, type := 184, pos := "ghash.go:61", after := #[{ on := 2, ground := Go.Ground.data }, { on := 1, ground := Go.Ground.chain }], guard := none }) rfl (fun K hK => ?_) AllReadyH.nil
      go_simp
      (refine (HRY.out _).mono ?_; rintro e v_26 ⟨rfl, hb_26⟩; have B0_26 := Blk.below B0_25 hb_26 (Blk.lt B0_25); have B1_26 := Blk.below B1_25 hb_26 (Blk.lt B1_25); have B2_26 := Blk.below B2_25 hb_26 (Blk.lt B2_25); have Q5_26 := Blk.below Q5_25 hb_26 (Blk.lt Q5_25); have Q6_26 := Blk.below Q6_25 hb_26 (Blk.lt Q6_25); have O_26 := Below.trans O_25 (hb_26.mono O_25.size); have y50_26 : v_26.cell? ⟨v_20.heap.size, 0, none⟩ = some (.int .u64 0) := Blk.cell Q5_26 0; have y51_26 : v_26.cell? ⟨v_20.heap.size, 1, none⟩ = some (.int .u64 0) := Blk.cell Q5_26 1; have f50_26 : v_26.frozen? ⟨v_20.heap.size, 0, none⟩ = false := Blk.free Q5_26 0; have f51_26 : v_26.frozen? ⟨v_20.heap.size, 1, none⟩ = false := Blk.free Q5_26 1; have y60_26 : v_26.cell? ⟨v_1.heap.size, 0, none⟩ = some (.int .u64 0) := Blk.cell Q6_26 0; have y61_26 : v_26.cell? ⟨v_1.heap.size, 1, none⟩ = some (.int .u64 0) := Blk.cell Q6_26 1; have f60_26 : v_26.frozen? ⟨v_1.heap.size, 0, none⟩ = false := Blk.free Q6_26 0; have f61_26 : v_26.frozen? ⟨v_1.heap.size, 1, none⟩ = false := Blk.free Q6_26 1; clear B0_25 B1_25 B2_25 O_25 Q5_25 y50_25 y51_25 f50_25 f51_25 Q6_25 y60_25 y61_25 f60_25 f61_25; clear hb_26; skip)
      (try go_wp2_with fail)
      refine hK.out _ _ ?_ (fun hHeld => ?_)
      · (try dsimp only)
        exact ⟨by assumption, by assumption⟩
      clear hK K
      (try simp only [Act.put, List.setIfInBounds_toArray, List.set_cons_zero, List.set_cons_succ])
      refine wpAnyH_ready (rs := [6]) (by kernel_rfl) (by simp) ?_
      refine AllReadyH.cons (o := { dst := none, op := Go.Op.store 184 (Go.Operand.tmp 5) (Go.Operand.tmp 10), type := 0, pos := "ghash.go:61", after := #[{ on := 4, ground := Go.Ground.data }, { on := 1, ground := Go.Ground.data }, { on := 3, ground := Go.Ground.chain }, { on := 0, ground := Go.Ground.phase }, { on := 1, ground := Go.Ground.phase }, { on := 2, ground := Go.Ground.textOnly Go.Departure.lateStores }, { on := 3, ground := Go.Ground.textOnly Go.Departure.lateStoresUnsure }, { on := 4, ground := Go.Ground.phase }, { on := 5, ground := Go.Ground.phase }], guard := none }) rfl (fun K hK => ?_) AllReadyH.nil
      go_simp
      (obtain ⟨v_27, hw_27⟩ : ∃ q, ((v_26.setCell ⟨v_20.heap.size, 0, none⟩ (.int .u64 (a : Int))).setCell ⟨v_20.heap.size, 1, none⟩ (.int .u64 (b : Int))) = q := ⟨_, rfl⟩; rw [hw_27]; have B0_27 := Blk.set_other (Blk.set_other B0_26 (a := ⟨v_20.heap.size, 0, none⟩) (by have h2 := GL5.out; simp; omega) (.int .u64 (a : Int))) (a := ⟨v_20.heap.size, 1, none⟩) (by have h2 := GL5.out; simp; omega) (.int .u64 (b : Int)); rw [hw_27] at B0_27; have B1_27 := Blk.set_other (Blk.set_other B1_26 (a := ⟨v_20.heap.size, 0, none⟩) (by have h2 := GL5.out; simp; omega) (.int .u64 (a : Int))) (a := ⟨v_20.heap.size, 1, none⟩) (by have h2 := GL5.out; simp; omega) (.int .u64 (b : Int)); rw [hw_27] at B1_27; have B2_27 := Blk.set_other (Blk.set_other B2_26 (a := ⟨v_20.heap.size, 0, none⟩) (by have h2 := GL5.out; simp; omega) (.int .u64 (a : Int))) (a := ⟨v_20.heap.size, 1, none⟩) (by have h2 := GL5.out; simp; omega) (.int .u64 (b : Int)); rw [hw_27] at B2_27; have Q6_27 := Blk.set_other (Blk.set_other Q6_26 (a := ⟨v_20.heap.size, 0, none⟩) (by have h2 := NE.out; simp; omega) (.int .u64 (a : Int))) (a := ⟨v_20.heap.size, 1, none⟩) (by have h2 := NE.out; simp; omega) (.int .u64 (b : Int)); rw [hw_27] at Q6_27; have Q5_27 : Blk v_27 v_20.heap.size #[.int .u64 (a : Int), .int .u64 (b : Int)] 184 := (by rw [← hw_27]; exact ((Q5_26).set 0 (.int .u64 (a : Int))).set 1 (.int .u64 (b : Int))); have O_27 : Below w.heap.size w v_27 := (by rw [← hw_27]; exact (O_26.setCell (by have h2 := GL5.out; simp; omega) _).setCell (by have h2 := GL5.out; simp; omega) _); have y50_27 : v_27.cell? ⟨v_20.heap.size, 0, none⟩ = some (.int .u64 (a : Int)) := Blk.cell Q5_27 0; have y51_27 : v_27.cell? ⟨v_20.heap.size, 1, none⟩ = some (.int .u64 (b : Int)) := Blk.cell Q5_27 1; have f50_27 : v_27.frozen? ⟨v_20.heap.size, 0, none⟩ = false := Blk.free Q5_27 0; have f51_27 : v_27.frozen? ⟨v_20.heap.size, 1, none⟩ = false := Blk.free Q5_27 1; have y60_27 : v_27.cell? ⟨v_1.heap.size, 0, none⟩ = some (.int .u64 0) := Blk.cell Q6_27 0; have y61_27 : v_27.cell? ⟨v_1.heap.size, 1, none⟩ = some (.int .u64 0) := Blk.cell Q6_27 1; have f60_27 : v_27.frozen? ⟨v_1.heap.size, 0, none⟩ = false := Blk.free Q6_27 0; have f61_27 : v_27.frozen? ⟨v_1.heap.size, 1, none⟩ = false := Blk.free Q6_27 1; clear B0_26 B1_26 B2_26 O_26 Q5_26 y50_26 y51_26 f50_26 f51_26 Q6_26 y60_26 y61_26 f60_26 f61_26; clear hw_27; skip)
      (try go_wp2_with fail)
      refine hK.out _ _ ?_ (fun hHeld => ?_)
      · (try dsimp only)
        exact ⟨by assumption, by assumption⟩
      clear hK K
      (try simp only [Act.put, List.setIfInBounds_toArray, List.set_cons_zero, List.set_cons_succ])
      refine wpAnyH_ready (rs := [7]) (by kernel_rfl) (by simp) ?_
      refine AllReadyH.cons (o := { dst := none, op := Go.Op.store 184 (Go.Operand.tmp 6) (Go.Operand.tmp 12), type := 0, pos := "ghash.go:61", after := #[{ on := 5, ground := Go.Ground.data }, { on := 3, ground := Go.Ground.data }, { on := 6, ground := Go.Ground.chain }, { on := 0, ground := Go.Ground.phase }, { on := 1, ground := Go.Ground.phase }, { on := 2, ground := Go.Ground.phase }, { on := 3, ground := Go.Ground.phase }, { on := 4, ground := Go.Ground.phase }, { on := 5, ground := Go.Ground.phase }, { on := 6, ground := Go.Ground.phase }], guard := none }) rfl (fun K hK => ?_) AllReadyH.nil
      go_simp
      (obtain ⟨v_28, hw_28⟩ : ∃ q, ((v_27.setCell ⟨v_1.heap.size, 0, none⟩ (.int .u64 (c : Int))).setCell ⟨v_1.heap.size, 1, none⟩ (.int .u64 (d : Int))) = q := ⟨_, rfl⟩; rw [hw_28]; have B0_28 := Blk.set_other (Blk.set_other B0_27 (a := ⟨v_1.heap.size, 0, none⟩) (by have h2 := GL6.out; simp; omega) (.int .u64 (c : Int))) (a := ⟨v_1.heap.size, 1, none⟩) (by have h2 := GL6.out; simp; omega) (.int .u64 (d : Int)); rw [hw_28] at B0_28; have B1_28 := Blk.set_other (Blk.set_other B1_27 (a := ⟨v_1.heap.size, 0, none⟩) (by have h2 := GL6.out; simp; omega) (.int .u64 (c : Int))) (a := ⟨v_1.heap.size, 1, none⟩) (by have h2 := GL6.out; simp; omega) (.int .u64 (d : Int)); rw [hw_28] at B1_28; have B2_28 := Blk.set_other (Blk.set_other B2_27 (a := ⟨v_1.heap.size, 0, none⟩) (by have h2 := GL6.out; simp; omega) (.int .u64 (c : Int))) (a := ⟨v_1.heap.size, 1, none⟩) (by have h2 := GL6.out; simp; omega) (.int .u64 (d : Int)); rw [hw_28] at B2_28; have Q5_28 := Blk.set_other (Blk.set_other Q5_27 (a := ⟨v_1.heap.size, 0, none⟩) (by have h2 := NE.out; simp; omega) (.int .u64 (c : Int))) (a := ⟨v_1.heap.size, 1, none⟩) (by have h2 := NE.out; simp; omega) (.int .u64 (d : Int)); rw [hw_28] at Q5_28; have Q6_28 : Blk v_28 v_1.heap.size #[.int .u64 (c : Int), .int .u64 (d : Int)] 184 := (by rw [← hw_28]; exact ((Q6_27).set 0 (.int .u64 (c : Int))).set 1 (.int .u64 (d : Int))); have O_28 : Below w.heap.size w v_28 := (by rw [← hw_28]; exact (O_27.setCell (by have h2 := GL6.out; simp; omega) _).setCell (by have h2 := GL6.out; simp; omega) _); have y50_28 : v_28.cell? ⟨v_20.heap.size, 0, none⟩ = some (.int .u64 (a : Int)) := Blk.cell Q5_28 0; have y51_28 : v_28.cell? ⟨v_20.heap.size, 1, none⟩ = some (.int .u64 (b : Int)) := Blk.cell Q5_28 1; have f50_28 : v_28.frozen? ⟨v_20.heap.size, 0, none⟩ = false := Blk.free Q5_28 0; have f51_28 : v_28.frozen? ⟨v_20.heap.size, 1, none⟩ = false := Blk.free Q5_28 1; have y60_28 : v_28.cell? ⟨v_1.heap.size, 0, none⟩ = some (.int .u64 (c : Int)) := Blk.cell Q6_28 0; have y61_28 : v_28.cell? ⟨v_1.heap.size, 1, none⟩ = some (.int .u64 (d : Int)) := Blk.cell Q6_28 1; have f60_28 : v_28.frozen? ⟨v_1.heap.size, 0, none⟩ = false := Blk.free Q6_28 0; have f61_28 : v_28.frozen? ⟨v_1.heap.size, 1, none⟩ = false := Blk.free Q6_28 1; clear B0_27 B1_27 B2_27 O_27 Q5_27 y50_27 y51_27 f50_27 f51_27 Q6_27 y60_27 y61_27 f60_27 f61_27; clear hw_28; skip)
      (try go_wp2_with fail)
      refine hK.out _ _ ?_ (fun hHeld => ?_)
      · (try dsimp only)
        exact ⟨by assumption, by assumption⟩
      clear hK K
      (try simp only [Act.put, List.setIfInBounds_toArray, List.set_cons_zero, List.set_cons_succ])
      refine wpAnyH_done (by kernel_rfl) ?_ _
      clear y50_28 f50_28 y51_28 f51_28 y60_28 f60_28 y61_28 f61_28
      go_wp2_with fail
      go_meet
      exact ⟨_, _, rfl, rfl, (by have := NE.out; omega), GL5.out, GL6.out, Q5_28, Q6_28, B2_28, O_28⟩
    refine AllReadyH.cons (o := { dst := some 5, op := Go.Op.alloc 184, type := 0, pos := "ghash.go:61", after := #[], guard := none }) rfl (fun K hK => ?_) ?_
    · skip
      go_simp
      (obtain ⟨v_29, hw_29⟩ : ∃ q, W0.alloc (.cells #[.int .u64 0, .int .u64 0] 184) = q := ⟨_, rfl⟩; rw [hw_29]; have hb_29 : Below W0.heap.size W0 v_29 := (by rw [← hw_29]; exact (Below.refl _ _).alloc (Nat.le_refl _) _); have B0_29 := Blk.below B0_0 hb_29 (Blk.lt B0_0); have B1_29 := Blk.below B1_0 hb_29 (Blk.lt B1_0); have B2_29 := Blk.below B2_0 hb_29 (Blk.lt B2_0); have O_29 := Below.trans O_0 (hb_29.mono O_0.size); have Q5_29 : Blk v_29 W0.heap.size #[.int .u64 0, .int .u64 0] 184 := (by rw [← hw_29]; exact Blk.new _ _ _); have GL5 := Lib.hid (show w.heap.size + 1 + 1 < W0.heap.size from Blk.lt B2_0); have y50_29 : v_29.cell? ⟨W0.heap.size, 0, none⟩ = some (.int .u64 0) := Blk.cell Q5_29 0; have y51_29 : v_29.cell? ⟨W0.heap.size, 1, none⟩ = some (.int .u64 0) := Blk.cell Q5_29 1; have f50_29 : v_29.frozen? ⟨W0.heap.size, 0, none⟩ = false := Blk.free Q5_29 0; have f51_29 : v_29.frozen? ⟨W0.heap.size, 1, none⟩ = false := Blk.free Q5_29 1; clear B0_0 B1_0 B2_0 O_0; clear hb_29 hw_29; skip)
      (try go_wp2_with fail)
      refine hK.out _ _ ?_ (fun hHeld => ?_)
      · (try dsimp only)
        exact ⟨by assumption, by assumption⟩
      clear hK K
      (try simp only [Act.put, List.setIfInBounds_toArray, List.set_cons_zero, List.set_cons_succ])
      refine wpAnyH_ready (rs := [1, 5]) (by kernel_rfl) (by simp) ?_
      refine AllReadyH.cons (o := { dst := some 10, op := Go.Op.call { callee := Go.Callee.value (Go.Operand.func 94), args := #[Go.Operand.tmp 9], argTypes := #[82] }, type := 184, pos := "ghash.go:61", after := #[{ on := 0, ground := Go.Ground.data }], guard := none }) rfl (fun K hK => ?_) ?_
      · skip
        go_simp
        (refine (HRX.out _).mono ?_; rintro e v_30 ⟨rfl, hb_30⟩; have B0_30 := Blk.below B0_29 hb_30 (Blk.lt B0_29); have B1_30 := Blk.below B1_29 hb_30 (Blk.lt B1_29); have B2_30 := Blk.below B2_29 hb_30 (Blk.lt B2_29); have Q5_30 := Blk.below Q5_29 hb_30 (Blk.lt Q5_29); have O_30 := Below.trans O_29 (hb_30.mono O_29.size); have y50_30 : v_30.cell? ⟨W0.heap.size, 0, none⟩ = some (.int .u64 0) := Blk.cell Q5_30 0; have y51_30 : v_30.cell? ⟨W0.heap.size, 1, none⟩ = some (.int .u64 0) := Blk.cell Q5_30 1; have f50_30 : v_30.frozen? ⟨W0.heap.size, 0, none⟩ = false := Blk.free Q5_30 0; have f51_30 : v_30.frozen? ⟨W0.heap.size, 1, none⟩ = false := Blk.free Q5_30 1; clear B0_29 B1_29 B2_29 O_29 Q5_29 y50_29 y51_29 f50_29 f51_29; clear hb_30; skip)
        (try go_wp2_with fail)
        refine hK.out _ _ ?_ (fun hHeld => ?_)
        · (try dsimp only)
          exact ⟨by assumption, by assumption⟩
        clear hK K
        (try simp only [Act.put, List.setIfInBounds_toArray, List.set_cons_zero, List.set_cons_succ])
        refine wpAnyH_ready (rs := [3, 5]) (by kernel_rfl) (by simp) ?_
        refine AllReadyH.cons (o := { dst := some 12, op := Go.Op.call { callee := Go.Callee.value (Go.Operand.func 94), args := #[Go.Operand.tmp 11], argTypes := #[82] }, type := 184, pos := "ghash.go:61", after := #[{ on := 2, ground := Go.Ground.data }, { on := 1, ground := Go.Ground.chain }], guard := none }) rfl (fun K hK => ?_) ?_
        · skip
          go_simp
          (refine (HRY.out _).mono ?_; rintro e v_31 ⟨rfl, hb_31⟩; have B0_31 := Blk.below B0_30 hb_31 (Blk.lt B0_30); have B1_31 := Blk.below B1_30 hb_31 (Blk.lt B1_30); have B2_31 := Blk.below B2_30 hb_31 (Blk.lt B2_30); have Q5_31 := Blk.below Q5_30 hb_31 (Blk.lt Q5_30); have O_31 := Below.trans O_30 (hb_31.mono O_30.size); have y50_31 : v_31.cell? ⟨W0.heap.size, 0, none⟩ = some (.int .u64 0) := Blk.cell Q5_31 0; have y51_31 : v_31.cell? ⟨W0.heap.size, 1, none⟩ = some (.int .u64 0) := Blk.cell Q5_31 1; have f50_31 : v_31.frozen? ⟨W0.heap.size, 0, none⟩ = false := Blk.free Q5_31 0; have f51_31 : v_31.frozen? ⟨W0.heap.size, 1, none⟩ = false := Blk.free Q5_31 1; clear B0_30 B1_30 B2_30 O_30 Q5_30 y50_30 y51_30 f50_30 f51_30; clear hb_31; skip)
          (try go_wp2_with fail)
          refine hK.out _ _ ?_ (fun hHeld => ?_)
          · (try dsimp only)
            exact ⟨by assumption, by assumption⟩
          clear hK K
          (try simp only [Act.put, List.setIfInBounds_toArray, List.set_cons_zero, List.set_cons_succ])
          refine wpAnyH_ready (rs := [5]) (by kernel_rfl) (by simp) ?_
          refine AllReadyH.cons (o := { dst := some 6, op := Go.Op.alloc 184, type := 0, pos := "ghash.go:61", after := #[], guard := none }) rfl (fun K hK => ?_) AllReadyH.nil
          go_simp
          (obtain ⟨v_32, hw_32⟩ : ∃ q, v_31.alloc (.cells #[.int .u64 0, .int .u64 0] 184) = q := ⟨_, rfl⟩; rw [hw_32]; have hb_32 : Below v_31.heap.size v_31 v_32 := (by rw [← hw_32]; exact (Below.refl _ _).alloc (Nat.le_refl _) _); have B0_32 := Blk.below B0_31 hb_32 (Blk.lt B0_31); have B1_32 := Blk.below B1_31 hb_32 (Blk.lt B1_31); have B2_32 := Blk.below B2_31 hb_32 (Blk.lt B2_31); have Q5_32 := Blk.below Q5_31 hb_32 (Blk.lt Q5_31); have O_32 := Below.trans O_31 (hb_32.mono O_31.size); have Q6_32 : Blk v_32 v_31.heap.size #[.int .u64 0, .int .u64 0] 184 := (by rw [← hw_32]; exact Blk.new _ _ _); have GL6 := Lib.hid (show w.heap.size + 1 + 1 < v_31.heap.size from Blk.lt B2_31); have NE := Lib.hid (show W0.heap.size < v_31.heap.size from Blk.lt Q5_31); have y50_32 : v_32.cell? ⟨W0.heap.size, 0, none⟩ = some (.int .u64 0) := Blk.cell Q5_32 0; have y51_32 : v_32.cell? ⟨W0.heap.size, 1, none⟩ = some (.int .u64 0) := Blk.cell Q5_32 1; have f50_32 : v_32.frozen? ⟨W0.heap.size, 0, none⟩ = false := Blk.free Q5_32 0; have f51_32 : v_32.frozen? ⟨W0.heap.size, 1, none⟩ = false := Blk.free Q5_32 1; have y60_32 : v_32.cell? ⟨v_31.heap.size, 0, none⟩ = some (.int .u64 0) := Blk.cell Q6_32 0; have y61_32 : v_32.cell? ⟨v_31.heap.size, 1, none⟩ = some (.int .u64 0) := Blk.cell Q6_32 1; have f60_32 : v_32.frozen? ⟨v_31.heap.size, 0, none⟩ = false := Blk.free Q6_32 0; have f61_32 : v_32.frozen? ⟨v_31.heap.size, 1, none⟩ = false := Blk.free Q6_32 1; clear B0_31 B1_31 B2_31 O_31 Q5_31 y50_31 y51_31 f50_31 f51_31; clear hb_32 hw_32; skip)
          (try go_wp2_with fail)
          refine hK.out _ _ ?_ (fun hHeld => ?_)
          · (try dsimp only)
            exact ⟨by assumption, by assumption⟩
          clear hK K
          (try simp only [Act.put, List.setIfInBounds_toArray, List.set_cons_zero, List.set_cons_succ])
          refine wpAnyH_ready (rs := [6]) (by kernel_rfl) (by simp) ?_
          refine AllReadyH.cons (o := { dst := none, op := Go.Op.store 184 (Go.Operand.tmp 5) (Go.Operand.tmp 10), type := 0, pos := "ghash.go:61", after := #[{ on := 4, ground := Go.Ground.data }, { on := 1, ground := Go.Ground.data }, { on := 3, ground := Go.Ground.chain }, { on := 0, ground := Go.Ground.phase }, { on := 1, ground := Go.Ground.phase }, { on := 2, ground := Go.Ground.textOnly Go.Departure.lateStores }, { on := 3, ground := Go.Ground.textOnly Go.Departure.lateStoresUnsure }, { on := 4, ground := Go.Ground.phase }, { on := 5, ground := Go.Ground.phase }], guard := none }) rfl (fun K hK => ?_) AllReadyH.nil
          go_simp
          (obtain ⟨v_33, hw_33⟩ : ∃ q, ((v_32.setCell ⟨W0.heap.size, 0, none⟩ (.int .u64 (a : Int))).setCell ⟨W0.heap.size, 1, none⟩ (.int .u64 (b : Int))) = q := ⟨_, rfl⟩; rw [hw_33]; have B0_33 := Blk.set_other (Blk.set_other B0_32 (a := ⟨W0.heap.size, 0, none⟩) (by have h2 := GL5.out; simp; omega) (.int .u64 (a : Int))) (a := ⟨W0.heap.size, 1, none⟩) (by have h2 := GL5.out; simp; omega) (.int .u64 (b : Int)); rw [hw_33] at B0_33; have B1_33 := Blk.set_other (Blk.set_other B1_32 (a := ⟨W0.heap.size, 0, none⟩) (by have h2 := GL5.out; simp; omega) (.int .u64 (a : Int))) (a := ⟨W0.heap.size, 1, none⟩) (by have h2 := GL5.out; simp; omega) (.int .u64 (b : Int)); rw [hw_33] at B1_33; have B2_33 := Blk.set_other (Blk.set_other B2_32 (a := ⟨W0.heap.size, 0, none⟩) (by have h2 := GL5.out; simp; omega) (.int .u64 (a : Int))) (a := ⟨W0.heap.size, 1, none⟩) (by have h2 := GL5.out; simp; omega) (.int .u64 (b : Int)); rw [hw_33] at B2_33; have Q6_33 := Blk.set_other (Blk.set_other Q6_32 (a := ⟨W0.heap.size, 0, none⟩) (by have h2 := NE.out; simp; omega) (.int .u64 (a : Int))) (a := ⟨W0.heap.size, 1, none⟩) (by have h2 := NE.out; simp; omega) (.int .u64 (b : Int)); rw [hw_33] at Q6_33; have Q5_33 : Blk v_33 W0.heap.size #[.int .u64 (a : Int), .int .u64 (b : Int)] 184 := (by rw [← hw_33]; exact ((Q5_32).set 0 (.int .u64 (a : Int))).set 1 (.int .u64 (b : Int))); have O_33 : Below w.heap.size w v_33 := (by rw [← hw_33]; exact (O_32.setCell (by have h2 := GL5.out; simp; omega) _).setCell (by have h2 := GL5.out; simp; omega) _); have y50_33 : v_33.cell? ⟨W0.heap.size, 0, none⟩ = some (.int .u64 (a : Int)) := Blk.cell Q5_33 0; have y51_33 : v_33.cell? ⟨W0.heap.size, 1, none⟩ = some (.int .u64 (b : Int)) := Blk.cell Q5_33 1; have f50_33 : v_33.frozen? ⟨W0.heap.size, 0, none⟩ = false := Blk.free Q5_33 0; have f51_33 : v_33.frozen? ⟨W0.heap.size, 1, none⟩ = false := Blk.free Q5_33 1; have y60_33 : v_33.cell? ⟨v_31.heap.size, 0, none⟩ = some (.int .u64 0) := Blk.cell Q6_33 0; have y61_33 : v_33.cell? ⟨v_31.heap.size, 1, none⟩ = some (.int .u64 0) := Blk.cell Q6_33 1; have f60_33 : v_33.frozen? ⟨v_31.heap.size, 0, none⟩ = false := Blk.free Q6_33 0; have f61_33 : v_33.frozen? ⟨v_31.heap.size, 1, none⟩ = false := Blk.free Q6_33 1; clear B0_32 B1_32 B2_32 O_32 Q5_32 y50_32 y51_32 f50_32 f51_32 Q6_32 y60_32 y61_32 f60_32 f61_32; clear hw_33; skip)
          (try go_wp2_with fail)
          refine hK.out _ _ ?_ (fun hHeld => ?_)
          · (try dsimp only)
            exact ⟨by assumption, by assumption⟩
          clear hK K
          (try simp only [Act.put, List.setIfInBounds_toArray, List.set_cons_zero, List.set_cons_succ])
          refine wpAnyH_ready (rs := [7]) (by kernel_rfl) (by simp) ?_
          refine AllReadyH.cons (o := { dst := none, op := Go.Op.store 184 (Go.Operand.tmp 6) (Go.Operand.tmp 12), type := 0, pos := "ghash.go:61", after := #[{ on := 5, ground := Go.Ground.data }, { on := 3, ground := Go.Ground.data }, { on := 6, ground := Go.Ground.chain }, { on := 0, ground := Go.Ground.phase }, { on := 1, ground := Go.Ground.phase }, { on := 2, ground := Go.Ground.phase }, { on := 3, ground := Go.Ground.phase }, { on := 4, ground := Go.Ground.phase }, { on := 5, ground := Go.Ground.phase }, { on := 6, ground := Go.Ground.phase }], guard := none }) rfl (fun K hK => ?_) AllReadyH.nil
          go_simp
          (obtain ⟨v_34, hw_34⟩ : ∃ q, ((v_33.setCell ⟨v_31.heap.size, 0, none⟩ (.int .u64 (c : Int))).setCell ⟨v_31.heap.size, 1, none⟩ (.int .u64 (d : Int))) = q := ⟨_, rfl⟩; rw [hw_34]; have B0_34 := Blk.set_other (Blk.set_other B0_33 (a := ⟨v_31.heap.size, 0, none⟩) (by have h2 := GL6.out; simp; omega) (.int .u64 (c : Int))) (a := ⟨v_31.heap.size, 1, none⟩) (by have h2 := GL6.out; simp; omega) (.int .u64 (d : Int)); rw [hw_34] at B0_34; have B1_34 := Blk.set_other (Blk.set_other B1_33 (a := ⟨v_31.heap.size, 0, none⟩) (by have h2 := GL6.out; simp; omega) (.int .u64 (c : Int))) (a := ⟨v_31.heap.size, 1, none⟩) (by have h2 := GL6.out; simp; omega) (.int .u64 (d : Int)); rw [hw_34] at B1_34; have B2_34 := Blk.set_other (Blk.set_other B2_33 (a := ⟨v_31.heap.size, 0, none⟩) (by have h2 := GL6.out; simp; omega) (.int .u64 (c : Int))) (a := ⟨v_31.heap.size, 1, none⟩) (by have h2 := GL6.out; simp; omega) (.int .u64 (d : Int)); rw [hw_34] at B2_34; have Q5_34 := Blk.set_other (Blk.set_other Q5_33 (a := ⟨v_31.heap.size, 0, none⟩) (by have h2 := NE.out; simp; omega) (.int .u64 (c : Int))) (a := ⟨v_31.heap.size, 1, none⟩) (by have h2 := NE.out; simp; omega) (.int .u64 (d : Int)); rw [hw_34] at Q5_34; have Q6_34 : Blk v_34 v_31.heap.size #[.int .u64 (c : Int), .int .u64 (d : Int)] 184 := (by rw [← hw_34]; exact ((Q6_33).set 0 (.int .u64 (c : Int))).set 1 (.int .u64 (d : Int))); have O_34 : Below w.heap.size w v_34 := (by rw [← hw_34]; exact (O_33.setCell (by have h2 := GL6.out; simp; omega) _).setCell (by have h2 := GL6.out; simp; omega) _); have y50_34 : v_34.cell? ⟨W0.heap.size, 0, none⟩ = some (.int .u64 (a : Int)) := Blk.cell Q5_34 0; have y51_34 : v_34.cell? ⟨W0.heap.size, 1, none⟩ = some (.int .u64 (b : Int)) := Blk.cell Q5_34 1; have f50_34 : v_34.frozen? ⟨W0.heap.size, 0, none⟩ = false := Blk.free Q5_34 0; have f51_34 : v_34.frozen? ⟨W0.heap.size, 1, none⟩ = false := Blk.free Q5_34 1; have y60_34 : v_34.cell? ⟨v_31.heap.size, 0, none⟩ = some (.int .u64 (c : Int)) := Blk.cell Q6_34 0; have y61_34 : v_34.cell? ⟨v_31.heap.size, 1, none⟩ = some (.int .u64 (d : Int)) := Blk.cell Q6_34 1; have f60_34 : v_34.frozen? ⟨v_31.heap.size, 0, none⟩ = false := Blk.free Q6_34 0; have f61_34 : v_34.frozen? ⟨v_31.heap.size, 1, none⟩ = false := Blk.free Q6_34 1; clear B0_33 B1_33 B2_33 O_33 Q5_33 y50_33 y51_33 f50_33 f51_33 Q6_33 y60_33 y61_33 f60_33 f61_33; clear hw_34; skip)
          (try go_wp2_with fail)
          refine hK.out _ _ ?_ (fun hHeld => ?_)
          · (try dsimp only)
            exact ⟨by assumption, by assumption⟩
          clear hK K
          (try simp only [Act.put, List.setIfInBounds_toArray, List.set_cons_zero, List.set_cons_succ])
          refine wpAnyH_done (by kernel_rfl) ?_ _
          clear y50_34 f50_34 y51_34 f51_34 y60_34 f60_34 y61_34 f61_34
          go_wp2_with fail
          go_meet
          exact ⟨_, _, rfl, rfl, (by have := NE.out; omega), GL5.out, GL6.out, Q5_34, Q6_34, B2_34, O_34⟩
        refine AllReadyH.cons (o := { dst := some 6, op := Go.Op.alloc 184, type := 0, pos := "ghash.go:61", after := #[], guard := none }) rfl (fun K hK => ?_) AllReadyH.nil
        go_simp
        (obtain ⟨v_35, hw_35⟩ : ∃ q, v_30.alloc (.cells #[.int .u64 0, .int .u64 0] 184) = q := ⟨_, rfl⟩; rw [hw_35]; have hb_35 : Below v_30.heap.size v_30 v_35 := (by rw [← hw_35]; exact (Below.refl _ _).alloc (Nat.le_refl _) _); have B0_35 := Blk.below B0_30 hb_35 (Blk.lt B0_30); have B1_35 := Blk.below B1_30 hb_35 (Blk.lt B1_30); have B2_35 := Blk.below B2_30 hb_35 (Blk.lt B2_30); have Q5_35 := Blk.below Q5_30 hb_35 (Blk.lt Q5_30); have O_35 := Below.trans O_30 (hb_35.mono O_30.size); have Q6_35 : Blk v_35 v_30.heap.size #[.int .u64 0, .int .u64 0] 184 := (by rw [← hw_35]; exact Blk.new _ _ _); have GL6 := Lib.hid (show w.heap.size + 1 + 1 < v_30.heap.size from Blk.lt B2_30); have NE := Lib.hid (show W0.heap.size < v_30.heap.size from Blk.lt Q5_30); have y50_35 : v_35.cell? ⟨W0.heap.size, 0, none⟩ = some (.int .u64 0) := Blk.cell Q5_35 0; have y51_35 : v_35.cell? ⟨W0.heap.size, 1, none⟩ = some (.int .u64 0) := Blk.cell Q5_35 1; have f50_35 : v_35.frozen? ⟨W0.heap.size, 0, none⟩ = false := Blk.free Q5_35 0; have f51_35 : v_35.frozen? ⟨W0.heap.size, 1, none⟩ = false := Blk.free Q5_35 1; have y60_35 : v_35.cell? ⟨v_30.heap.size, 0, none⟩ = some (.int .u64 0) := Blk.cell Q6_35 0; have y61_35 : v_35.cell? ⟨v_30.heap.size, 1, none⟩ = some (.int .u64 0) := Blk.cell Q6_35 1; have f60_35 : v_35.frozen? ⟨v_30.heap.size, 0, none⟩ = false := Blk.free Q6_35 0; have f61_35 : v_35.frozen? ⟨v_30.heap.size, 1, none⟩ = false := Blk.free Q6_35 1; clear B0_30 B1_30 B2_30 O_30 Q5_30 y50_30 y51_30 f50_30 f51_30; clear hb_35 hw_35; skip)
        (try go_wp2_with fail)
        refine hK.out _ _ ?_ (fun hHeld => ?_)
        · (try dsimp only)
          exact ⟨by assumption, by assumption⟩
        clear hK K
        (try simp only [Act.put, List.setIfInBounds_toArray, List.set_cons_zero, List.set_cons_succ])
        refine wpAnyH_ready (rs := [3]) (by kernel_rfl) (by simp) ?_
        refine AllReadyH.cons (o := { dst := some 12, op := Go.Op.call { callee := Go.Callee.value (Go.Operand.func 94), args := #[Go.Operand.tmp 11], argTypes := #[82] }, type := 184, pos := "ghash.go:61", after := #[{ on := 2, ground := Go.Ground.data }, { on := 1, ground := Go.Ground.chain }], guard := none }) rfl (fun K hK => ?_) AllReadyH.nil
        go_simp
        (refine (HRY.out _).mono ?_; rintro e v_36 ⟨rfl, hb_36⟩; have B0_36 := Blk.below B0_35 hb_36 (Blk.lt B0_35); have B1_36 := Blk.below B1_35 hb_36 (Blk.lt B1_35); have B2_36 := Blk.below B2_35 hb_36 (Blk.lt B2_35); have Q5_36 := Blk.below Q5_35 hb_36 (Blk.lt Q5_35); have Q6_36 := Blk.below Q6_35 hb_36 (Blk.lt Q6_35); have O_36 := Below.trans O_35 (hb_36.mono O_35.size); have y50_36 : v_36.cell? ⟨W0.heap.size, 0, none⟩ = some (.int .u64 0) := Blk.cell Q5_36 0; have y51_36 : v_36.cell? ⟨W0.heap.size, 1, none⟩ = some (.int .u64 0) := Blk.cell Q5_36 1; have f50_36 : v_36.frozen? ⟨W0.heap.size, 0, none⟩ = false := Blk.free Q5_36 0; have f51_36 : v_36.frozen? ⟨W0.heap.size, 1, none⟩ = false := Blk.free Q5_36 1; have y60_36 : v_36.cell? ⟨v_30.heap.size, 0, none⟩ = some (.int .u64 0) := Blk.cell Q6_36 0; have y61_36 : v_36.cell? ⟨v_30.heap.size, 1, none⟩ = some (.int .u64 0) := Blk.cell Q6_36 1; have f60_36 : v_36.frozen? ⟨v_30.heap.size, 0, none⟩ = false := Blk.free Q6_36 0; have f61_36 : v_36.frozen? ⟨v_30.heap.size, 1, none⟩ = false := Blk.free Q6_36 1; clear B0_35 B1_35 B2_35 O_35 Q5_35 y50_35 y51_35 f50_35 f51_35 Q6_35 y60_35 y61_35 f60_35 f61_35; clear hb_36; skip)
        (try go_wp2_with fail)
        refine hK.out _ _ ?_ (fun hHeld => ?_)
        · (try dsimp only)
          exact ⟨by assumption, by assumption⟩
        clear hK K
        (try simp only [Act.put, List.setIfInBounds_toArray, List.set_cons_zero, List.set_cons_succ])
        refine wpAnyH_ready (rs := [6]) (by kernel_rfl) (by simp) ?_
        refine AllReadyH.cons (o := { dst := none, op := Go.Op.store 184 (Go.Operand.tmp 5) (Go.Operand.tmp 10), type := 0, pos := "ghash.go:61", after := #[{ on := 4, ground := Go.Ground.data }, { on := 1, ground := Go.Ground.data }, { on := 3, ground := Go.Ground.chain }, { on := 0, ground := Go.Ground.phase }, { on := 1, ground := Go.Ground.phase }, { on := 2, ground := Go.Ground.textOnly Go.Departure.lateStores }, { on := 3, ground := Go.Ground.textOnly Go.Departure.lateStoresUnsure }, { on := 4, ground := Go.Ground.phase }, { on := 5, ground := Go.Ground.phase }], guard := none }) rfl (fun K hK => ?_) AllReadyH.nil
        go_simp
        (obtain ⟨v_37, hw_37⟩ : ∃ q, ((v_36.setCell ⟨W0.heap.size, 0, none⟩ (.int .u64 (a : Int))).setCell ⟨W0.heap.size, 1, none⟩ (.int .u64 (b : Int))) = q := ⟨_, rfl⟩; rw [hw_37]; have B0_37 := Blk.set_other (Blk.set_other B0_36 (a := ⟨W0.heap.size, 0, none⟩) (by have h2 := GL5.out; simp; omega) (.int .u64 (a : Int))) (a := ⟨W0.heap.size, 1, none⟩) (by have h2 := GL5.out; simp; omega) (.int .u64 (b : Int)); rw [hw_37] at B0_37; have B1_37 := Blk.set_other (Blk.set_other B1_36 (a := ⟨W0.heap.size, 0, none⟩) (by have h2 := GL5.out; simp; omega) (.int .u64 (a : Int))) (a := ⟨W0.heap.size, 1, none⟩) (by have h2 := GL5.out; simp; omega) (.int .u64 (b : Int)); rw [hw_37] at B1_37; have B2_37 := Blk.set_other (Blk.set_other B2_36 (a := ⟨W0.heap.size, 0, none⟩) (by have h2 := GL5.out; simp; omega) (.int .u64 (a : Int))) (a := ⟨W0.heap.size, 1, none⟩) (by have h2 := GL5.out; simp; omega) (.int .u64 (b : Int)); rw [hw_37] at B2_37; have Q6_37 := Blk.set_other (Blk.set_other Q6_36 (a := ⟨W0.heap.size, 0, none⟩) (by have h2 := NE.out; simp; omega) (.int .u64 (a : Int))) (a := ⟨W0.heap.size, 1, none⟩) (by have h2 := NE.out; simp; omega) (.int .u64 (b : Int)); rw [hw_37] at Q6_37; have Q5_37 : Blk v_37 W0.heap.size #[.int .u64 (a : Int), .int .u64 (b : Int)] 184 := (by rw [← hw_37]; exact ((Q5_36).set 0 (.int .u64 (a : Int))).set 1 (.int .u64 (b : Int))); have O_37 : Below w.heap.size w v_37 := (by rw [← hw_37]; exact (O_36.setCell (by have h2 := GL5.out; simp; omega) _).setCell (by have h2 := GL5.out; simp; omega) _); have y50_37 : v_37.cell? ⟨W0.heap.size, 0, none⟩ = some (.int .u64 (a : Int)) := Blk.cell Q5_37 0; have y51_37 : v_37.cell? ⟨W0.heap.size, 1, none⟩ = some (.int .u64 (b : Int)) := Blk.cell Q5_37 1; have f50_37 : v_37.frozen? ⟨W0.heap.size, 0, none⟩ = false := Blk.free Q5_37 0; have f51_37 : v_37.frozen? ⟨W0.heap.size, 1, none⟩ = false := Blk.free Q5_37 1; have y60_37 : v_37.cell? ⟨v_30.heap.size, 0, none⟩ = some (.int .u64 0) := Blk.cell Q6_37 0; have y61_37 : v_37.cell? ⟨v_30.heap.size, 1, none⟩ = some (.int .u64 0) := Blk.cell Q6_37 1; have f60_37 : v_37.frozen? ⟨v_30.heap.size, 0, none⟩ = false := Blk.free Q6_37 0; have f61_37 : v_37.frozen? ⟨v_30.heap.size, 1, none⟩ = false := Blk.free Q6_37 1; clear B0_36 B1_36 B2_36 O_36 Q5_36 y50_36 y51_36 f50_36 f51_36 Q6_36 y60_36 y61_36 f60_36 f61_36; clear hw_37; skip)
        (try go_wp2_with fail)
        refine hK.out _ _ ?_ (fun hHeld => ?_)
        · (try dsimp only)
          exact ⟨by assumption, by assumption⟩
        clear hK K
        (try simp only [Act.put, List.setIfInBounds_toArray, List.set_cons_zero, List.set_cons_succ])
        refine wpAnyH_ready (rs := [7]) (by kernel_rfl) (by simp) ?_
        refine AllReadyH.cons (o := { dst := none, op := Go.Op.store 184 (Go.Operand.tmp 6) (Go.Operand.tmp 12), type := 0, pos := "ghash.go:61", after := #[{ on := 5, ground := Go.Ground.data }, { on := 3, ground := Go.Ground.data }, { on := 6, ground := Go.Ground.chain }, { on := 0, ground := Go.Ground.phase }, { on := 1, ground := Go.Ground.phase }, { on := 2, ground := Go.Ground.phase }, { on := 3, ground := Go.Ground.phase }, { on := 4, ground := Go.Ground.phase }, { on := 5, ground := Go.Ground.phase }, { on := 6, ground := Go.Ground.phase }], guard := none }) rfl (fun K hK => ?_) AllReadyH.nil
        go_simp
        (obtain ⟨v_38, hw_38⟩ : ∃ q, ((v_37.setCell ⟨v_30.heap.size, 0, none⟩ (.int .u64 (c : Int))).setCell ⟨v_30.heap.size, 1, none⟩ (.int .u64 (d : Int))) = q := ⟨_, rfl⟩; rw [hw_38]; have B0_38 := Blk.set_other (Blk.set_other B0_37 (a := ⟨v_30.heap.size, 0, none⟩) (by have h2 := GL6.out; simp; omega) (.int .u64 (c : Int))) (a := ⟨v_30.heap.size, 1, none⟩) (by have h2 := GL6.out; simp; omega) (.int .u64 (d : Int)); rw [hw_38] at B0_38; have B1_38 := Blk.set_other (Blk.set_other B1_37 (a := ⟨v_30.heap.size, 0, none⟩) (by have h2 := GL6.out; simp; omega) (.int .u64 (c : Int))) (a := ⟨v_30.heap.size, 1, none⟩) (by have h2 := GL6.out; simp; omega) (.int .u64 (d : Int)); rw [hw_38] at B1_38; have B2_38 := Blk.set_other (Blk.set_other B2_37 (a := ⟨v_30.heap.size, 0, none⟩) (by have h2 := GL6.out; simp; omega) (.int .u64 (c : Int))) (a := ⟨v_30.heap.size, 1, none⟩) (by have h2 := GL6.out; simp; omega) (.int .u64 (d : Int)); rw [hw_38] at B2_38; have Q5_38 := Blk.set_other (Blk.set_other Q5_37 (a := ⟨v_30.heap.size, 0, none⟩) (by have h2 := NE.out; simp; omega) (.int .u64 (c : Int))) (a := ⟨v_30.heap.size, 1, none⟩) (by have h2 := NE.out; simp; omega) (.int .u64 (d : Int)); rw [hw_38] at Q5_38; have Q6_38 : Blk v_38 v_30.heap.size #[.int .u64 (c : Int), .int .u64 (d : Int)] 184 := (by rw [← hw_38]; exact ((Q6_37).set 0 (.int .u64 (c : Int))).set 1 (.int .u64 (d : Int))); have O_38 : Below w.heap.size w v_38 := (by rw [← hw_38]; exact (O_37.setCell (by have h2 := GL6.out; simp; omega) _).setCell (by have h2 := GL6.out; simp; omega) _); have y50_38 : v_38.cell? ⟨W0.heap.size, 0, none⟩ = some (.int .u64 (a : Int)) := Blk.cell Q5_38 0; have y51_38 : v_38.cell? ⟨W0.heap.size, 1, none⟩ = some (.int .u64 (b : Int)) := Blk.cell Q5_38 1; have f50_38 : v_38.frozen? ⟨W0.heap.size, 0, none⟩ = false := Blk.free Q5_38 0; have f51_38 : v_38.frozen? ⟨W0.heap.size, 1, none⟩ = false := Blk.free Q5_38 1; have y60_38 : v_38.cell? ⟨v_30.heap.size, 0, none⟩ = some (.int .u64 (c : Int)) := Blk.cell Q6_38 0; have y61_38 : v_38.cell? ⟨v_30.heap.size, 1, none⟩ = some (.int .u64 (d : Int)) := Blk.cell Q6_38 1; have f60_38 : v_38.frozen? ⟨v_30.heap.size, 0, none⟩ = false := Blk.free Q6_38 0; have f61_38 : v_38.frozen? ⟨v_30.heap.size, 1, none⟩ = false := Blk.free Q6_38 1; clear B0_37 B1_37 B2_37 O_37 Q5_37 y50_37 y51_37 f50_37 f51_37 Q6_37 y60_37 y61_37 f60_37 f61_37; clear hw_38; skip)
        (try go_wp2_with fail)
        refine hK.out _ _ ?_ (fun hHeld => ?_)
        · (try dsimp only)
          exact ⟨by assumption, by assumption⟩
        clear hK K
        (try simp only [Act.put, List.setIfInBounds_toArray, List.set_cons_zero, List.set_cons_succ])
        refine wpAnyH_done (by kernel_rfl) ?_ _
        clear y50_38 f50_38 y51_38 f51_38 y60_38 f60_38 y61_38 f61_38
        go_wp2_with fail
        go_meet
        exact ⟨_, _, rfl, rfl, (by have := NE.out; omega), GL5.out, GL6.out, Q5_38, Q6_38, B2_38, O_38⟩
      refine AllReadyH.cons (o := { dst := some 6, op := Go.Op.alloc 184, type := 0, pos := "ghash.go:61", after := #[], guard := none }) rfl (fun K hK => ?_) AllReadyH.nil
      go_simp
      (obtain ⟨v_39, hw_39⟩ : ∃ q, v_29.alloc (.cells #[.int .u64 0, .int .u64 0] 184) = q := ⟨_, rfl⟩; rw [hw_39]; have hb_39 : Below v_29.heap.size v_29 v_39 := (by rw [← hw_39]; exact (Below.refl _ _).alloc (Nat.le_refl _) _); have B0_39 := Blk.below B0_29 hb_39 (Blk.lt B0_29); have B1_39 := Blk.below B1_29 hb_39 (Blk.lt B1_29); have B2_39 := Blk.below B2_29 hb_39 (Blk.lt B2_29); have Q5_39 := Blk.below Q5_29 hb_39 (Blk.lt Q5_29); have O_39 := Below.trans O_29 (hb_39.mono O_29.size); have Q6_39 : Blk v_39 v_29.heap.size #[.int .u64 0, .int .u64 0] 184 := (by rw [← hw_39]; exact Blk.new _ _ _); have GL6 := Lib.hid (show w.heap.size + 1 + 1 < v_29.heap.size from Blk.lt B2_29); have NE := Lib.hid (show W0.heap.size < v_29.heap.size from Blk.lt Q5_29); have y50_39 : v_39.cell? ⟨W0.heap.size, 0, none⟩ = some (.int .u64 0) := Blk.cell Q5_39 0; have y51_39 : v_39.cell? ⟨W0.heap.size, 1, none⟩ = some (.int .u64 0) := Blk.cell Q5_39 1; have f50_39 : v_39.frozen? ⟨W0.heap.size, 0, none⟩ = false := Blk.free Q5_39 0; have f51_39 : v_39.frozen? ⟨W0.heap.size, 1, none⟩ = false := Blk.free Q5_39 1; have y60_39 : v_39.cell? ⟨v_29.heap.size, 0, none⟩ = some (.int .u64 0) := Blk.cell Q6_39 0; have y61_39 : v_39.cell? ⟨v_29.heap.size, 1, none⟩ = some (.int .u64 0) := Blk.cell Q6_39 1; have f60_39 : v_39.frozen? ⟨v_29.heap.size, 0, none⟩ = false := Blk.free Q6_39 0; have f61_39 : v_39.frozen? ⟨v_29.heap.size, 1, none⟩ = false := Blk.free Q6_39 1; clear B0_29 B1_29 B2_29 O_29 Q5_29 y50_29 y51_29 f50_29 f51_29; clear hb_39 hw_39; skip)
      (try go_wp2_with fail)
      refine hK.out _ _ ?_ (fun hHeld => ?_)
      · (try dsimp only)
        exact ⟨by assumption, by assumption⟩
      clear hK K
      (try simp only [Act.put, List.setIfInBounds_toArray, List.set_cons_zero, List.set_cons_succ])
      refine wpAnyH_ready (rs := [1]) (by kernel_rfl) (by simp) ?_
      refine AllReadyH.cons (o := { dst := some 10, op := Go.Op.call { callee := Go.Callee.value (Go.Operand.func 94), args := #[Go.Operand.tmp 9], argTypes := #[82] }, type := 184, pos := "ghash.go:61", after := #[{ on := 0, ground := Go.Ground.data }], guard := none }) rfl (fun K hK => ?_) AllReadyH.nil
      go_simp
      (refine (HRX.out _).mono ?_; rintro e v_40 ⟨rfl, hb_40⟩; have B0_40 := Blk.below B0_39 hb_40 (Blk.lt B0_39); have B1_40 := Blk.below B1_39 hb_40 (Blk.lt B1_39); have B2_40 := Blk.below B2_39 hb_40 (Blk.lt B2_39); have Q5_40 := Blk.below Q5_39 hb_40 (Blk.lt Q5_39); have Q6_40 := Blk.below Q6_39 hb_40 (Blk.lt Q6_39); have O_40 := Below.trans O_39 (hb_40.mono O_39.size); have y50_40 : v_40.cell? ⟨W0.heap.size, 0, none⟩ = some (.int .u64 0) := Blk.cell Q5_40 0; have y51_40 : v_40.cell? ⟨W0.heap.size, 1, none⟩ = some (.int .u64 0) := Blk.cell Q5_40 1; have f50_40 : v_40.frozen? ⟨W0.heap.size, 0, none⟩ = false := Blk.free Q5_40 0; have f51_40 : v_40.frozen? ⟨W0.heap.size, 1, none⟩ = false := Blk.free Q5_40 1; have y60_40 : v_40.cell? ⟨v_29.heap.size, 0, none⟩ = some (.int .u64 0) := Blk.cell Q6_40 0; have y61_40 : v_40.cell? ⟨v_29.heap.size, 1, none⟩ = some (.int .u64 0) := Blk.cell Q6_40 1; have f60_40 : v_40.frozen? ⟨v_29.heap.size, 0, none⟩ = false := Blk.free Q6_40 0; have f61_40 : v_40.frozen? ⟨v_29.heap.size, 1, none⟩ = false := Blk.free Q6_40 1; clear B0_39 B1_39 B2_39 O_39 Q5_39 y50_39 y51_39 f50_39 f51_39 Q6_39 y60_39 y61_39 f60_39 f61_39; clear hb_40; skip)
      (try go_wp2_with fail)
      refine hK.out _ _ ?_ (fun hHeld => ?_)
      · (try dsimp only)
        exact ⟨by assumption, by assumption⟩
      clear hK K
      (try simp only [Act.put, List.setIfInBounds_toArray, List.set_cons_zero, List.set_cons_succ])
      refine wpAnyH_ready (rs := [3]) (by kernel_rfl) (by simp) ?_
      refine AllReadyH.cons (o := { dst := some 12, op := Go.Op.call { callee := Go.Callee.value (Go.Operand.func 94), args := #[Go.Operand.tmp 11], argTypes := #[82] }, type := 184, pos := "ghash.go:61", after := #[{ on := 2, ground := Go.Ground.data }, { on := 1, ground := Go.Ground.chain }], guard := none }) rfl (fun K hK => ?_) AllReadyH.nil
      go_simp
      (refine (HRY.out _).mono ?_; rintro e v_41 ⟨rfl, hb_41⟩; have B0_41 := Blk.below B0_40 hb_41 (Blk.lt B0_40); have B1_41 := Blk.below B1_40 hb_41 (Blk.lt B1_40); have B2_41 := Blk.below B2_40 hb_41 (Blk.lt B2_40); have Q5_41 := Blk.below Q5_40 hb_41 (Blk.lt Q5_40); have Q6_41 := Blk.below Q6_40 hb_41 (Blk.lt Q6_40); have O_41 := Below.trans O_40 (hb_41.mono O_40.size); have y50_41 : v_41.cell? ⟨W0.heap.size, 0, none⟩ = some (.int .u64 0) := Blk.cell Q5_41 0; have y51_41 : v_41.cell? ⟨W0.heap.size, 1, none⟩ = some (.int .u64 0) := Blk.cell Q5_41 1; have f50_41 : v_41.frozen? ⟨W0.heap.size, 0, none⟩ = false := Blk.free Q5_41 0; have f51_41 : v_41.frozen? ⟨W0.heap.size, 1, none⟩ = false := Blk.free Q5_41 1; have y60_41 : v_41.cell? ⟨v_29.heap.size, 0, none⟩ = some (.int .u64 0) := Blk.cell Q6_41 0; have y61_41 : v_41.cell? ⟨v_29.heap.size, 1, none⟩ = some (.int .u64 0) := Blk.cell Q6_41 1; have f60_41 : v_41.frozen? ⟨v_29.heap.size, 0, none⟩ = false := Blk.free Q6_41 0; have f61_41 : v_41.frozen? ⟨v_29.heap.size, 1, none⟩ = false := Blk.free Q6_41 1; clear B0_40 B1_40 B2_40 O_40 Q5_40 y50_40 y51_40 f50_40 f51_40 Q6_40 y60_40 y61_40 f60_40 f61_40; clear hb_41; skip)
      (try go_wp2_with fail)
      refine hK.out _ _ ?_ (fun hHeld => ?_)
      · (try dsimp only)
        exact ⟨by assumption, by assumption⟩
      clear hK K
      (try simp only [Act.put, List.setIfInBounds_toArray, List.set_cons_zero, List.set_cons_succ])
      refine wpAnyH_ready (rs := [6]) (by kernel_rfl) (by simp) ?_
      refine AllReadyH.cons (o := { dst := none, op := Go.Op.store 184 (Go.Operand.tmp 5) (Go.Operand.tmp 10), type := 0, pos := "ghash.go:61", after := #[{ on := 4, ground := Go.Ground.data }, { on := 1, ground := Go.Ground.data }, { on := 3, ground := Go.Ground.chain }, { on := 0, ground := Go.Ground.phase }, { on := 1, ground := Go.Ground.phase }, { on := 2, ground := Go.Ground.textOnly Go.Departure.lateStores }, { on := 3, ground := Go.Ground.textOnly Go.Departure.lateStoresUnsure }, { on := 4, ground := Go.Ground.phase }, { on := 5, ground := Go.Ground.phase }], guard := none }) rfl (fun K hK => ?_) AllReadyH.nil
      go_simp
      (obtain ⟨v_42, hw_42⟩ : ∃ q, ((v_41.setCell ⟨W0.heap.size, 0, none⟩ (.int .u64 (a : Int))).setCell ⟨W0.heap.size, 1, none⟩ (.int .u64 (b : Int))) = q := ⟨_, rfl⟩; rw [hw_42]; have B0_42 := Blk.set_other (Blk.set_other B0_41 (a := ⟨W0.heap.size, 0, none⟩) (by have h2 := GL5.out; simp; omega) (.int .u64 (a : Int))) (a := ⟨W0.heap.size, 1, none⟩) (by have h2 := GL5.out; simp; omega) (.int .u64 (b : Int)); rw [hw_42] at B0_42; have B1_42 := Blk.set_other (Blk.set_other B1_41 (a := ⟨W0.heap.size, 0, none⟩) (by have h2 := GL5.out; simp; omega) (.int .u64 (a : Int))) (a := ⟨W0.heap.size, 1, none⟩) (by have h2 := GL5.out; simp; omega) (.int .u64 (b : Int)); rw [hw_42] at B1_42; have B2_42 := Blk.set_other (Blk.set_other B2_41 (a := ⟨W0.heap.size, 0, none⟩) (by have h2 := GL5.out; simp; omega) (.int .u64 (a : Int))) (a := ⟨W0.heap.size, 1, none⟩) (by have h2 := GL5.out; simp; omega) (.int .u64 (b : Int)); rw [hw_42] at B2_42; have Q6_42 := Blk.set_other (Blk.set_other Q6_41 (a := ⟨W0.heap.size, 0, none⟩) (by have h2 := NE.out; simp; omega) (.int .u64 (a : Int))) (a := ⟨W0.heap.size, 1, none⟩) (by have h2 := NE.out; simp; omega) (.int .u64 (b : Int)); rw [hw_42] at Q6_42; have Q5_42 : Blk v_42 W0.heap.size #[.int .u64 (a : Int), .int .u64 (b : Int)] 184 := (by rw [← hw_42]; exact ((Q5_41).set 0 (.int .u64 (a : Int))).set 1 (.int .u64 (b : Int))); have O_42 : Below w.heap.size w v_42 := (by rw [← hw_42]; exact (O_41.setCell (by have h2 := GL5.out; simp; omega) _).setCell (by have h2 := GL5.out; simp; omega) _); have y50_42 : v_42.cell? ⟨W0.heap.size, 0, none⟩ = some (.int .u64 (a : Int)) := Blk.cell Q5_42 0; have y51_42 : v_42.cell? ⟨W0.heap.size, 1, none⟩ = some (.int .u64 (b : Int)) := Blk.cell Q5_42 1; have f50_42 : v_42.frozen? ⟨W0.heap.size, 0, none⟩ = false := Blk.free Q5_42 0; have f51_42 : v_42.frozen? ⟨W0.heap.size, 1, none⟩ = false := Blk.free Q5_42 1; have y60_42 : v_42.cell? ⟨v_29.heap.size, 0, none⟩ = some (.int .u64 0) := Blk.cell Q6_42 0; have y61_42 : v_42.cell? ⟨v_29.heap.size, 1, none⟩ = some (.int .u64 0) := Blk.cell Q6_42 1; have f60_42 : v_42.frozen? ⟨v_29.heap.size, 0, none⟩ = false := Blk.free Q6_42 0; have f61_42 : v_42.frozen? ⟨v_29.heap.size, 1, none⟩ = false := Blk.free Q6_42 1; clear B0_41 B1_41 B2_41 O_41 Q5_41 y50_41 y51_41 f50_41 f51_41 Q6_41 y60_41 y61_41 f60_41 f61_41; clear hw_42; skip)
      (try go_wp2_with fail)
      refine hK.out _ _ ?_ (fun hHeld => ?_)
      · (try dsimp only)
        exact ⟨by assumption, by assumption⟩
      clear hK K
      (try simp only [Act.put, List.setIfInBounds_toArray, List.set_cons_zero, List.set_cons_succ])
      refine wpAnyH_ready (rs := [7]) (by kernel_rfl) (by simp) ?_
      refine AllReadyH.cons (o := { dst := none, op := Go.Op.store 184 (Go.Operand.tmp 6) (Go.Operand.tmp 12), type := 0, pos := "ghash.go:61", after := #[{ on := 5, ground := Go.Ground.data }, { on := 3, ground := Go.Ground.data }, { on := 6, ground := Go.Ground.chain }, { on := 0, ground := Go.Ground.phase }, { on := 1, ground := Go.Ground.phase }, { on := 2, ground := Go.Ground.phase }, { on := 3, ground := Go.Ground.phase }, { on := 4, ground := Go.Ground.phase }, { on := 5, ground := Go.Ground.phase }, { on := 6, ground := Go.Ground.phase }], guard := none }) rfl (fun K hK => ?_) AllReadyH.nil
      go_simp
      (obtain ⟨v_43, hw_43⟩ : ∃ q, ((v_42.setCell ⟨v_29.heap.size, 0, none⟩ (.int .u64 (c : Int))).setCell ⟨v_29.heap.size, 1, none⟩ (.int .u64 (d : Int))) = q := ⟨_, rfl⟩; rw [hw_43]; have B0_43 := Blk.set_other (Blk.set_other B0_42 (a := ⟨v_29.heap.size, 0, none⟩) (by have h2 := GL6.out; simp; omega) (.int .u64 (c : Int))) (a := ⟨v_29.heap.size, 1, none⟩) (by have h2 := GL6.out; simp; omega) (.int .u64 (d : Int)); rw [hw_43] at B0_43; have B1_43 := Blk.set_other (Blk.set_other B1_42 (a := ⟨v_29.heap.size, 0, none⟩) (by have h2 := GL6.out; simp; omega) (.int .u64 (c : Int))) (a := ⟨v_29.heap.size, 1, none⟩) (by have h2 := GL6.out; simp; omega) (.int .u64 (d : Int)); rw [hw_43] at B1_43; have B2_43 := Blk.set_other (Blk.set_other B2_42 (a := ⟨v_29.heap.size, 0, none⟩) (by have h2 := GL6.out; simp; omega) (.int .u64 (c : Int))) (a := ⟨v_29.heap.size, 1, none⟩) (by have h2 := GL6.out; simp; omega) (.int .u64 (d : Int)); rw [hw_43] at B2_43; have Q5_43 := Blk.set_other (Blk.set_other Q5_42 (a := ⟨v_29.heap.size, 0, none⟩) (by have h2 := NE.out; simp; omega) (.int .u64 (c : Int))) (a := ⟨v_29.heap.size, 1, none⟩) (by have h2 := NE.out; simp; omega) (.int .u64 (d : Int)); rw [hw_43] at Q5_43; have Q6_43 : Blk v_43 v_29.heap.size #[.int .u64 (c : Int), .int .u64 (d : Int)] 184 := (by rw [← hw_43]; exact ((Q6_42).set 0 (.int .u64 (c : Int))).set 1 (.int .u64 (d : Int))); have O_43 : Below w.heap.size w v_43 := (by rw [← hw_43]; exact (O_42.setCell (by have h2 := GL6.out; simp; omega) _).setCell (by have h2 := GL6.out; simp; omega) _); have y50_43 : v_43.cell? ⟨W0.heap.size, 0, none⟩ = some (.int .u64 (a : Int)) := Blk.cell Q5_43 0; have y51_43 : v_43.cell? ⟨W0.heap.size, 1, none⟩ = some (.int .u64 (b : Int)) := Blk.cell Q5_43 1; have f50_43 : v_43.frozen? ⟨W0.heap.size, 0, none⟩ = false := Blk.free Q5_43 0; have f51_43 : v_43.frozen? ⟨W0.heap.size, 1, none⟩ = false := Blk.free Q5_43 1; have y60_43 : v_43.cell? ⟨v_29.heap.size, 0, none⟩ = some (.int .u64 (c : Int)) := Blk.cell Q6_43 0; have y61_43 : v_43.cell? ⟨v_29.heap.size, 1, none⟩ = some (.int .u64 (d : Int)) := Blk.cell Q6_43 1; have f60_43 : v_43.frozen? ⟨v_29.heap.size, 0, none⟩ = false := Blk.free Q6_43 0; have f61_43 : v_43.frozen? ⟨v_29.heap.size, 1, none⟩ = false := Blk.free Q6_43 1; clear B0_42 B1_42 B2_42 O_42 Q5_42 y50_42 y51_42 f50_42 f51_42 Q6_42 y60_42 y61_42 f60_42 f61_42; clear hw_43; skip)
      (try go_wp2_with fail)
      refine hK.out _ _ ?_ (fun hHeld => ?_)
      · (try dsimp only)
        exact ⟨by assumption, by assumption⟩
      clear hK K
      (try simp only [Act.put, List.setIfInBounds_toArray, List.set_cons_zero, List.set_cons_succ])
      refine wpAnyH_done (by kernel_rfl) ?_ _
      clear y50_43 f50_43 y51_43 f51_43 y60_43 f60_43 y61_43 f61_43
      go_wp2_with fail
      go_meet
      exact ⟨_, _, rfl, rfl, (by have := NE.out; omega), GL5.out, GL6.out, Q5_43, Q6_43, B2_43, O_43⟩
    refine AllReadyH.cons (o := { dst := some 6, op := Go.Op.alloc 184, type := 0, pos := "ghash.go:61", after := #[], guard := none }) rfl (fun K hK => ?_) AllReadyH.nil
    go_simp
    (obtain ⟨v_44, hw_44⟩ : ∃ q, W0.alloc (.cells #[.int .u64 0, .int .u64 0] 184) = q := ⟨_, rfl⟩; rw [hw_44]; have hb_44 : Below W0.heap.size W0 v_44 := (by rw [← hw_44]; exact (Below.refl _ _).alloc (Nat.le_refl _) _); have B0_44 := Blk.below B0_0 hb_44 (Blk.lt B0_0); have B1_44 := Blk.below B1_0 hb_44 (Blk.lt B1_0); have B2_44 := Blk.below B2_0 hb_44 (Blk.lt B2_0); have O_44 := Below.trans O_0 (hb_44.mono O_0.size); have Q6_44 : Blk v_44 W0.heap.size #[.int .u64 0, .int .u64 0] 184 := (by rw [← hw_44]; exact Blk.new _ _ _); have GL6 := Lib.hid (show w.heap.size + 1 + 1 < W0.heap.size from Blk.lt B2_0); have y60_44 : v_44.cell? ⟨W0.heap.size, 0, none⟩ = some (.int .u64 0) := Blk.cell Q6_44 0; have y61_44 : v_44.cell? ⟨W0.heap.size, 1, none⟩ = some (.int .u64 0) := Blk.cell Q6_44 1; have f60_44 : v_44.frozen? ⟨W0.heap.size, 0, none⟩ = false := Blk.free Q6_44 0; have f61_44 : v_44.frozen? ⟨W0.heap.size, 1, none⟩ = false := Blk.free Q6_44 1; clear B0_0 B1_0 B2_0 O_0; clear hb_44 hw_44; skip)
    (try go_wp2_with fail)
    refine hK.out _ _ ?_ (fun hHeld => ?_)
    · (try dsimp only)
      exact ⟨by assumption, by assumption⟩
    clear hK K
    (try simp only [Act.put, List.setIfInBounds_toArray, List.set_cons_zero, List.set_cons_succ])
    refine wpAnyH_ready (rs := [1, 4]) (by kernel_rfl) (by simp) ?_
    refine AllReadyH.cons (o := { dst := some 10, op := Go.Op.call { callee := Go.Callee.value (Go.Operand.func 94), args := #[Go.Operand.tmp 9], argTypes := #[82] }, type := 184, pos := "ghash.go:61", after := #[{ on := 0, ground := Go.Ground.data }], guard := none }) rfl (fun K hK => ?_) ?_
    · skip
      go_simp
      (refine (HRX.out _).mono ?_; rintro e v_45 ⟨rfl, hb_45⟩; have B0_45 := Blk.below B0_44 hb_45 (Blk.lt B0_44); have B1_45 := Blk.below B1_44 hb_45 (Blk.lt B1_44); have B2_45 := Blk.below B2_44 hb_45 (Blk.lt B2_44); have Q6_45 := Blk.below Q6_44 hb_45 (Blk.lt Q6_44); have O_45 := Below.trans O_44 (hb_45.mono O_44.size); have y60_45 : v_45.cell? ⟨W0.heap.size, 0, none⟩ = some (.int .u64 0) := Blk.cell Q6_45 0; have y61_45 : v_45.cell? ⟨W0.heap.size, 1, none⟩ = some (.int .u64 0) := Blk.cell Q6_45 1; have f60_45 : v_45.frozen? ⟨W0.heap.size, 0, none⟩ = false := Blk.free Q6_45 0; have f61_45 : v_45.frozen? ⟨W0.heap.size, 1, none⟩ = false := Blk.free Q6_45 1; clear B0_44 B1_44 B2_44 O_44 Q6_44 y60_44 y61_44 f60_44 f61_44; clear hb_45; skip)
      (try go_wp2_with fail)
      refine hK.out _ _ ?_ (fun hHeld => ?_)
      · (try dsimp only)
        exact ⟨by assumption, by assumption⟩
      clear hK K
      (try simp only [Act.put, List.setIfInBounds_toArray, List.set_cons_zero, List.set_cons_succ])
      refine wpAnyH_ready (rs := [3, 4]) (by kernel_rfl) (by simp) ?_
      refine AllReadyH.cons (o := { dst := some 12, op := Go.Op.call { callee := Go.Callee.value (Go.Operand.func 94), args := #[Go.Operand.tmp 11], argTypes := #[82] }, type := 184, pos := "ghash.go:61", after := #[{ on := 2, ground := Go.Ground.data }, { on := 1, ground := Go.Ground.chain }], guard := none }) rfl (fun K hK => ?_) ?_
      · skip
        go_simp
        (refine (HRY.out _).mono ?_; rintro e v_46 ⟨rfl, hb_46⟩; have B0_46 := Blk.below B0_45 hb_46 (Blk.lt B0_45); have B1_46 := Blk.below B1_45 hb_46 (Blk.lt B1_45); have B2_46 := Blk.below B2_45 hb_46 (Blk.lt B2_45); have Q6_46 := Blk.below Q6_45 hb_46 (Blk.lt Q6_45); have O_46 := Below.trans O_45 (hb_46.mono O_45.size); have y60_46 : v_46.cell? ⟨W0.heap.size, 0, none⟩ = some (.int .u64 0) := Blk.cell Q6_46 0; have y61_46 : v_46.cell? ⟨W0.heap.size, 1, none⟩ = some (.int .u64 0) := Blk.cell Q6_46 1; have f60_46 : v_46.frozen? ⟨W0.heap.size, 0, none⟩ = false := Blk.free Q6_46 0; have f61_46 : v_46.frozen? ⟨W0.heap.size, 1, none⟩ = false := Blk.free Q6_46 1; clear B0_45 B1_45 B2_45 O_45 Q6_45 y60_45 y61_45 f60_45 f61_45; clear hb_46; skip)
        (try go_wp2_with fail)
        refine hK.out _ _ ?_ (fun hHeld => ?_)
        · (try dsimp only)
          exact ⟨by assumption, by assumption⟩
        clear hK K
        (try simp only [Act.put, List.setIfInBounds_toArray, List.set_cons_zero, List.set_cons_succ])
        refine wpAnyH_ready (rs := [4]) (by kernel_rfl) (by simp) ?_
        refine AllReadyH.cons (o := { dst := some 5, op := Go.Op.alloc 184, type := 0, pos := "ghash.go:61", after := #[], guard := none }) rfl (fun K hK => ?_) AllReadyH.nil
        go_simp
        (obtain ⟨v_47, hw_47⟩ : ∃ q, v_46.alloc (.cells #[.int .u64 0, .int .u64 0] 184) = q := ⟨_, rfl⟩; rw [hw_47]; have hb_47 : Below v_46.heap.size v_46 v_47 := (by rw [← hw_47]; exact (Below.refl _ _).alloc (Nat.le_refl _) _); have B0_47 := Blk.below B0_46 hb_47 (Blk.lt B0_46); have B1_47 := Blk.below B1_46 hb_47 (Blk.lt B1_46); have B2_47 := Blk.below B2_46 hb_47 (Blk.lt B2_46); have Q6_47 := Blk.below Q6_46 hb_47 (Blk.lt Q6_46); have O_47 := Below.trans O_46 (hb_47.mono O_46.size); have Q5_47 : Blk v_47 v_46.heap.size #[.int .u64 0, .int .u64 0] 184 := (by rw [← hw_47]; exact Blk.new _ _ _); have GL5 := Lib.hid (show w.heap.size + 1 + 1 < v_46.heap.size from Blk.lt B2_46); have NE := Lib.hid (show W0.heap.size < v_46.heap.size from Blk.lt Q6_46); have y50_47 : v_47.cell? ⟨v_46.heap.size, 0, none⟩ = some (.int .u64 0) := Blk.cell Q5_47 0; have y51_47 : v_47.cell? ⟨v_46.heap.size, 1, none⟩ = some (.int .u64 0) := Blk.cell Q5_47 1; have f50_47 : v_47.frozen? ⟨v_46.heap.size, 0, none⟩ = false := Blk.free Q5_47 0; have f51_47 : v_47.frozen? ⟨v_46.heap.size, 1, none⟩ = false := Blk.free Q5_47 1; have y60_47 : v_47.cell? ⟨W0.heap.size, 0, none⟩ = some (.int .u64 0) := Blk.cell Q6_47 0; have y61_47 : v_47.cell? ⟨W0.heap.size, 1, none⟩ = some (.int .u64 0) := Blk.cell Q6_47 1; have f60_47 : v_47.frozen? ⟨W0.heap.size, 0, none⟩ = false := Blk.free Q6_47 0; have f61_47 : v_47.frozen? ⟨W0.heap.size, 1, none⟩ = false := Blk.free Q6_47 1; clear B0_46 B1_46 B2_46 O_46 Q6_46 y60_46 y61_46 f60_46 f61_46; clear hb_47 hw_47; skip)
        (try go_wp2_with fail)
        refine hK.out _ _ ?_ (fun hHeld => ?_)
        · (try dsimp only)
          exact ⟨by assumption, by assumption⟩
        clear hK K
        (try simp only [Act.put, List.setIfInBounds_toArray, List.set_cons_zero, List.set_cons_succ])
        refine wpAnyH_ready (rs := [6]) (by kernel_rfl) (by simp) ?_
        refine AllReadyH.cons (o := { dst := none, op := Go.Op.store 184 (Go.Operand.tmp 5) (Go.Operand.tmp 10), type := 0, pos := "ghash.go:61", after := #[{ on := 4, ground := Go.Ground.data }, { on := 1, ground := Go.Ground.data }, { on := 3, ground := Go.Ground.chain }, { on := 0, ground := Go.Ground.phase }, { on := 1, ground := Go.Ground.phase }, { on := 2, ground := Go.Ground.textOnly Go.Departure.lateStores }, { on := 3, ground := Go.Ground.textOnly Go.Departure.lateStoresUnsure }, { on := 4, ground := Go.Ground.phase }, { on := 5, ground := Go.Ground.phase }], guard := none }) rfl (fun K hK => ?_) AllReadyH.nil
        go_simp
        (obtain ⟨v_48, hw_48⟩ : ∃ q, ((v_47.setCell ⟨v_46.heap.size, 0, none⟩ (.int .u64 (a : Int))).setCell ⟨v_46.heap.size, 1, none⟩ (.int .u64 (b : Int))) = q := ⟨_, rfl⟩; rw [hw_48]; have B0_48 := Blk.set_other (Blk.set_other B0_47 (a := ⟨v_46.heap.size, 0, none⟩) (by have h2 := GL5.out; simp; omega) (.int .u64 (a : Int))) (a := ⟨v_46.heap.size, 1, none⟩) (by have h2 := GL5.out; simp; omega) (.int .u64 (b : Int)); rw [hw_48] at B0_48; have B1_48 := Blk.set_other (Blk.set_other B1_47 (a := ⟨v_46.heap.size, 0, none⟩) (by have h2 := GL5.out; simp; omega) (.int .u64 (a : Int))) (a := ⟨v_46.heap.size, 1, none⟩) (by have h2 := GL5.out; simp; omega) (.int .u64 (b : Int)); rw [hw_48] at B1_48; have B2_48 := Blk.set_other (Blk.set_other B2_47 (a := ⟨v_46.heap.size, 0, none⟩) (by have h2 := GL5.out; simp; omega) (.int .u64 (a : Int))) (a := ⟨v_46.heap.size, 1, none⟩) (by have h2 := GL5.out; simp; omega) (.int .u64 (b : Int)); rw [hw_48] at B2_48; have Q6_48 := Blk.set_other (Blk.set_other Q6_47 (a := ⟨v_46.heap.size, 0, none⟩) (by have h2 := NE.out; simp; omega) (.int .u64 (a : Int))) (a := ⟨v_46.heap.size, 1, none⟩) (by have h2 := NE.out; simp; omega) (.int .u64 (b : Int)); rw [hw_48] at Q6_48; have Q5_48 : Blk v_48 v_46.heap.size #[.int .u64 (a : Int), .int .u64 (b : Int)] 184 := (by rw [← hw_48]; exact ((Q5_47).set 0 (.int .u64 (a : Int))).set 1 (.int .u64 (b : Int))); have O_48 : Below w.heap.size w v_48 := (by rw [← hw_48]; exact (O_47.setCell (by have h2 := GL5.out; simp; omega) _).setCell (by have h2 := GL5.out; simp; omega) _); have y50_48 : v_48.cell? ⟨v_46.heap.size, 0, none⟩ = some (.int .u64 (a : Int)) := Blk.cell Q5_48 0; have y51_48 : v_48.cell? ⟨v_46.heap.size, 1, none⟩ = some (.int .u64 (b : Int)) := Blk.cell Q5_48 1; have f50_48 : v_48.frozen? ⟨v_46.heap.size, 0, none⟩ = false := Blk.free Q5_48 0; have f51_48 : v_48.frozen? ⟨v_46.heap.size, 1, none⟩ = false := Blk.free Q5_48 1; have y60_48 : v_48.cell? ⟨W0.heap.size, 0, none⟩ = some (.int .u64 0) := Blk.cell Q6_48 0; have y61_48 : v_48.cell? ⟨W0.heap.size, 1, none⟩ = some (.int .u64 0) := Blk.cell Q6_48 1; have f60_48 : v_48.frozen? ⟨W0.heap.size, 0, none⟩ = false := Blk.free Q6_48 0; have f61_48 : v_48.frozen? ⟨W0.heap.size, 1, none⟩ = false := Blk.free Q6_48 1; clear B0_47 B1_47 B2_47 O_47 Q5_47 y50_47 y51_47 f50_47 f51_47 Q6_47 y60_47 y61_47 f60_47 f61_47; clear hw_48; skip)
        (try go_wp2_with fail)
        refine hK.out _ _ ?_ (fun hHeld => ?_)
        · (try dsimp only)
          exact ⟨by assumption, by assumption⟩
        clear hK K
        (try simp only [Act.put, List.setIfInBounds_toArray, List.set_cons_zero, List.set_cons_succ])
        refine wpAnyH_ready (rs := [7]) (by kernel_rfl) (by simp) ?_
        refine AllReadyH.cons (o := { dst := none, op := Go.Op.store 184 (Go.Operand.tmp 6) (Go.Operand.tmp 12), type := 0, pos := "ghash.go:61", after := #[{ on := 5, ground := Go.Ground.data }, { on := 3, ground := Go.Ground.data }, { on := 6, ground := Go.Ground.chain }, { on := 0, ground := Go.Ground.phase }, { on := 1, ground := Go.Ground.phase }, { on := 2, ground := Go.Ground.phase }, { on := 3, ground := Go.Ground.phase }, { on := 4, ground := Go.Ground.phase }, { on := 5, ground := Go.Ground.phase }, { on := 6, ground := Go.Ground.phase }], guard := none }) rfl (fun K hK => ?_) AllReadyH.nil
        go_simp
        (obtain ⟨v_49, hw_49⟩ : ∃ q, ((v_48.setCell ⟨W0.heap.size, 0, none⟩ (.int .u64 (c : Int))).setCell ⟨W0.heap.size, 1, none⟩ (.int .u64 (d : Int))) = q := ⟨_, rfl⟩; rw [hw_49]; have B0_49 := Blk.set_other (Blk.set_other B0_48 (a := ⟨W0.heap.size, 0, none⟩) (by have h2 := GL6.out; simp; omega) (.int .u64 (c : Int))) (a := ⟨W0.heap.size, 1, none⟩) (by have h2 := GL6.out; simp; omega) (.int .u64 (d : Int)); rw [hw_49] at B0_49; have B1_49 := Blk.set_other (Blk.set_other B1_48 (a := ⟨W0.heap.size, 0, none⟩) (by have h2 := GL6.out; simp; omega) (.int .u64 (c : Int))) (a := ⟨W0.heap.size, 1, none⟩) (by have h2 := GL6.out; simp; omega) (.int .u64 (d : Int)); rw [hw_49] at B1_49; have B2_49 := Blk.set_other (Blk.set_other B2_48 (a := ⟨W0.heap.size, 0, none⟩) (by have h2 := GL6.out; simp; omega) (.int .u64 (c : Int))) (a := ⟨W0.heap.size, 1, none⟩) (by have h2 := GL6.out; simp; omega) (.int .u64 (d : Int)); rw [hw_49] at B2_49; have Q5_49 := Blk.set_other (Blk.set_other Q5_48 (a := ⟨W0.heap.size, 0, none⟩) (by have h2 := NE.out; simp; omega) (.int .u64 (c : Int))) (a := ⟨W0.heap.size, 1, none⟩) (by have h2 := NE.out; simp; omega) (.int .u64 (d : Int)); rw [hw_49] at Q5_49; have Q6_49 : Blk v_49 W0.heap.size #[.int .u64 (c : Int), .int .u64 (d : Int)] 184 := (by rw [← hw_49]; exact ((Q6_48).set 0 (.int .u64 (c : Int))).set 1 (.int .u64 (d : Int))); have O_49 : Below w.heap.size w v_49 := (by rw [← hw_49]; exact (O_48.setCell (by have h2 := GL6.out; simp; omega) _).setCell (by have h2 := GL6.out; simp; omega) _); have y50_49 : v_49.cell? ⟨v_46.heap.size, 0, none⟩ = some (.int .u64 (a : Int)) := Blk.cell Q5_49 0; have y51_49 : v_49.cell? ⟨v_46.heap.size, 1, none⟩ = some (.int .u64 (b : Int)) := Blk.cell Q5_49 1; have f50_49 : v_49.frozen? ⟨v_46.heap.size, 0, none⟩ = false := Blk.free Q5_49 0; have f51_49 : v_49.frozen? ⟨v_46.heap.size, 1, none⟩ = false := Blk.free Q5_49 1; have y60_49 : v_49.cell? ⟨W0.heap.size, 0, none⟩ = some (.int .u64 (c : Int)) := Blk.cell Q6_49 0; have y61_49 : v_49.cell? ⟨W0.heap.size, 1, none⟩ = some (.int .u64 (d : Int)) := Blk.cell Q6_49 1; have f60_49 : v_49.frozen? ⟨W0.heap.size, 0, none⟩ = false := Blk.free Q6_49 0; have f61_49 : v_49.frozen? ⟨W0.heap.size, 1, none⟩ = false := Blk.free Q6_49 1; clear B0_48 B1_48 B2_48 O_48 Q5_48 y50_48 y51_48 f50_48 f51_48 Q6_48 y60_48 y61_48 f60_48 f61_48; clear hw_49; skip)
        (try go_wp2_with fail)
        refine hK.out _ _ ?_ (fun hHeld => ?_)
        · (try dsimp only)
          exact ⟨by assumption, by assumption⟩
        clear hK K
        (try simp only [Act.put, List.setIfInBounds_toArray, List.set_cons_zero, List.set_cons_succ])
        refine wpAnyH_done (by kernel_rfl) ?_ _
        clear y50_49 f50_49 y51_49 f51_49 y60_49 f60_49 y61_49 f61_49
        go_wp2_with fail
        go_meet
        exact ⟨_, _, rfl, rfl, (by have := NE.out; omega), GL5.out, GL6.out, Q5_49, Q6_49, B2_49, O_49⟩
      refine AllReadyH.cons (o := { dst := some 5, op := Go.Op.alloc 184, type := 0, pos := "ghash.go:61", after := #[], guard := none }) rfl (fun K hK => ?_) AllReadyH.nil
      go_simp
      (obtain ⟨v_50, hw_50⟩ : ∃ q, v_45.alloc (.cells #[.int .u64 0, .int .u64 0] 184) = q := ⟨_, rfl⟩; rw [hw_50]; have hb_50 : Below v_45.heap.size v_45 v_50 := (by rw [← hw_50]; exact (Below.refl _ _).alloc (Nat.le_refl _) _); have B0_50 := Blk.below B0_45 hb_50 (Blk.lt B0_45); have B1_50 := Blk.below B1_45 hb_50 (Blk.lt B1_45); have B2_50 := Blk.below B2_45 hb_50 (Blk.lt B2_45); have Q6_50 := Blk.below Q6_45 hb_50 (Blk.lt Q6_45); have O_50 := Below.trans O_45 (hb_50.mono O_45.size); have Q5_50 : Blk v_50 v_45.heap.size #[.int .u64 0, .int .u64 0] 184 := (by rw [← hw_50]; exact Blk.new _ _ _); have GL5 := Lib.hid (show w.heap.size + 1 + 1 < v_45.heap.size from Blk.lt B2_45); have NE := Lib.hid (show W0.heap.size < v_45.heap.size from Blk.lt Q6_45); have y50_50 : v_50.cell? ⟨v_45.heap.size, 0, none⟩ = some (.int .u64 0) := Blk.cell Q5_50 0; have y51_50 : v_50.cell? ⟨v_45.heap.size, 1, none⟩ = some (.int .u64 0) := Blk.cell Q5_50 1; have f50_50 : v_50.frozen? ⟨v_45.heap.size, 0, none⟩ = false := Blk.free Q5_50 0; have f51_50 : v_50.frozen? ⟨v_45.heap.size, 1, none⟩ = false := Blk.free Q5_50 1; have y60_50 : v_50.cell? ⟨W0.heap.size, 0, none⟩ = some (.int .u64 0) := Blk.cell Q6_50 0; have y61_50 : v_50.cell? ⟨W0.heap.size, 1, none⟩ = some (.int .u64 0) := Blk.cell Q6_50 1; have f60_50 : v_50.frozen? ⟨W0.heap.size, 0, none⟩ = false := Blk.free Q6_50 0; have f61_50 : v_50.frozen? ⟨W0.heap.size, 1, none⟩ = false := Blk.free Q6_50 1; clear B0_45 B1_45 B2_45 O_45 Q6_45 y60_45 y61_45 f60_45 f61_45; clear hb_50 hw_50; skip)
      (try go_wp2_with fail)
      refine hK.out _ _ ?_ (fun hHeld => ?_)
      · (try dsimp only)
        exact ⟨by assumption, by assumption⟩
      clear hK K
      (try simp only [Act.put, List.setIfInBounds_toArray, List.set_cons_zero, List.set_cons_succ])
      refine wpAnyH_ready (rs := [3]) (by kernel_rfl) (by simp) ?_
      refine AllReadyH.cons (o := { dst := some 12, op := Go.Op.call { callee := Go.Callee.value (Go.Operand.func 94), args := #[Go.Operand.tmp 11], argTypes := #[82] }, type := 184, pos := "ghash.go:61", after := #[{ on := 2, ground := Go.Ground.data }, { on := 1, ground := Go.Ground.chain }], guard := none }) rfl (fun K hK => ?_) AllReadyH.nil
      go_simp
      (refine (HRY.out _).mono ?_; rintro e v_51 ⟨rfl, hb_51⟩; have B0_51 := Blk.below B0_50 hb_51 (Blk.lt B0_50); have B1_51 := Blk.below B1_50 hb_51 (Blk.lt B1_50); have B2_51 := Blk.below B2_50 hb_51 (Blk.lt B2_50); have Q5_51 := Blk.below Q5_50 hb_51 (Blk.lt Q5_50); have Q6_51 := Blk.below Q6_50 hb_51 (Blk.lt Q6_50); have O_51 := Below.trans O_50 (hb_51.mono O_50.size); have y50_51 : v_51.cell? ⟨v_45.heap.size, 0, none⟩ = some (.int .u64 0) := Blk.cell Q5_51 0; have y51_51 : v_51.cell? ⟨v_45.heap.size, 1, none⟩ = some (.int .u64 0) := Blk.cell Q5_51 1; have f50_51 : v_51.frozen? ⟨v_45.heap.size, 0, none⟩ = false := Blk.free Q5_51 0; have f51_51 : v_51.frozen? ⟨v_45.heap.size, 1, none⟩ = false := Blk.free Q5_51 1; have y60_51 : v_51.cell? ⟨W0.heap.size, 0, none⟩ = some (.int .u64 0) := Blk.cell Q6_51 0; have y61_51 : v_51.cell? ⟨W0.heap.size, 1, none⟩ = some (.int .u64 0) := Blk.cell Q6_51 1; have f60_51 : v_51.frozen? ⟨W0.heap.size, 0, none⟩ = false := Blk.free Q6_51 0; have f61_51 : v_51.frozen? ⟨W0.heap.size, 1, none⟩ = false := Blk.free Q6_51 1; clear B0_50 B1_50 B2_50 O_50 Q5_50 y50_50 y51_50 f50_50 f51_50 Q6_50 y60_50 y61_50 f60_50 f61_50; clear hb_51; skip)
      (try go_wp2_with fail)
      refine hK.out _ _ ?_ (fun hHeld => ?_)
      · (try dsimp only)
        exact ⟨by assumption, by assumption⟩
      clear hK K
      (try simp only [Act.put, List.setIfInBounds_toArray, List.set_cons_zero, List.set_cons_succ])
      refine wpAnyH_ready (rs := [6]) (by kernel_rfl) (by simp) ?_
      refine AllReadyH.cons (o := { dst := none, op := Go.Op.store 184 (Go.Operand.tmp 5) (Go.Operand.tmp 10), type := 0, pos := "ghash.go:61", after := #[{ on := 4, ground := Go.Ground.data }, { on := 1, ground := Go.Ground.data }, { on := 3, ground := Go.Ground.chain }, { on := 0, ground := Go.Ground.phase }, { on := 1, ground := Go.Ground.phase }, { on := 2, ground := Go.Ground.textOnly Go.Departure.lateStores }, { on := 3, ground := Go.Ground.textOnly Go.Departure.lateStoresUnsure }, { on := 4, ground := Go.Ground.phase }, { on := 5, ground := Go.Ground.phase }], guard := none }) rfl (fun K hK => ?_) AllReadyH.nil
      go_simp
      (obtain ⟨v_52, hw_52⟩ : ∃ q, ((v_51.setCell ⟨v_45.heap.size, 0, none⟩ (.int .u64 (a : Int))).setCell ⟨v_45.heap.size, 1, none⟩ (.int .u64 (b : Int))) = q := ⟨_, rfl⟩; rw [hw_52]; have B0_52 := Blk.set_other (Blk.set_other B0_51 (a := ⟨v_45.heap.size, 0, none⟩) (by have h2 := GL5.out; simp; omega) (.int .u64 (a : Int))) (a := ⟨v_45.heap.size, 1, none⟩) (by have h2 := GL5.out; simp; omega) (.int .u64 (b : Int)); rw [hw_52] at B0_52; have B1_52 := Blk.set_other (Blk.set_other B1_51 (a := ⟨v_45.heap.size, 0, none⟩) (by have h2 := GL5.out; simp; omega) (.int .u64 (a : Int))) (a := ⟨v_45.heap.size, 1, none⟩) (by have h2 := GL5.out; simp; omega) (.int .u64 (b : Int)); rw [hw_52] at B1_52; have B2_52 := Blk.set_other (Blk.set_other B2_51 (a := ⟨v_45.heap.size, 0, none⟩) (by have h2 := GL5.out; simp; omega) (.int .u64 (a : Int))) (a := ⟨v_45.heap.size, 1, none⟩) (by have h2 := GL5.out; simp; omega) (.int .u64 (b : Int)); rw [hw_52] at B2_52; have Q6_52 := Blk.set_other (Blk.set_other Q6_51 (a := ⟨v_45.heap.size, 0, none⟩) (by have h2 := NE.out; simp; omega) (.int .u64 (a : Int))) (a := ⟨v_45.heap.size, 1, none⟩) (by have h2 := NE.out; simp; omega) (.int .u64 (b : Int)); rw [hw_52] at Q6_52; have Q5_52 : Blk v_52 v_45.heap.size #[.int .u64 (a : Int), .int .u64 (b : Int)] 184 := (by rw [← hw_52]; exact ((Q5_51).set 0 (.int .u64 (a : Int))).set 1 (.int .u64 (b : Int))); have O_52 : Below w.heap.size w v_52 := (by rw [← hw_52]; exact (O_51.setCell (by have h2 := GL5.out; simp; omega) _).setCell (by have h2 := GL5.out; simp; omega) _); have y50_52 : v_52.cell? ⟨v_45.heap.size, 0, none⟩ = some (.int .u64 (a : Int)) := Blk.cell Q5_52 0; have y51_52 : v_52.cell? ⟨v_45.heap.size, 1, none⟩ = some (.int .u64 (b : Int)) := Blk.cell Q5_52 1; have f50_52 : v_52.frozen? ⟨v_45.heap.size, 0, none⟩ = false := Blk.free Q5_52 0; have f51_52 : v_52.frozen? ⟨v_45.heap.size, 1, none⟩ = false := Blk.free Q5_52 1; have y60_52 : v_52.cell? ⟨W0.heap.size, 0, none⟩ = some (.int .u64 0) := Blk.cell Q6_52 0; have y61_52 : v_52.cell? ⟨W0.heap.size, 1, none⟩ = some (.int .u64 0) := Blk.cell Q6_52 1; have f60_52 : v_52.frozen? ⟨W0.heap.size, 0, none⟩ = false := Blk.free Q6_52 0; have f61_52 : v_52.frozen? ⟨W0.heap.size, 1, none⟩ = false := Blk.free Q6_52 1; clear B0_51 B1_51 B2_51 O_51 Q5_51 y50_51 y51_51 f50_51 f51_51 Q6_51 y60_51 y61_51 f60_51 f61_51; clear hw_52; skip)
      (try go_wp2_with fail)
      refine hK.out _ _ ?_ (fun hHeld => ?_)
      · (try dsimp only)
        exact ⟨by assumption, by assumption⟩
      clear hK K
      (try simp only [Act.put, List.setIfInBounds_toArray, List.set_cons_zero, List.set_cons_succ])
      refine wpAnyH_ready (rs := [7]) (by kernel_rfl) (by simp) ?_
      refine AllReadyH.cons (o := { dst := none, op := Go.Op.store 184 (Go.Operand.tmp 6) (Go.Operand.tmp 12), type := 0, pos := "ghash.go:61", after := #[{ on := 5, ground := Go.Ground.data }, { on := 3, ground := Go.Ground.data }, { on := 6, ground := Go.Ground.chain }, { on := 0, ground := Go.Ground.phase }, { on := 1, ground := Go.Ground.phase }, { on := 2, ground := Go.Ground.phase }, { on := 3, ground := Go.Ground.phase }, { on := 4, ground := Go.Ground.phase }, { on := 5, ground := Go.Ground.phase }, { on := 6, ground := Go.Ground.phase }], guard := none }) rfl (fun K hK => ?_) AllReadyH.nil
      go_simp
      (obtain ⟨v_53, hw_53⟩ : ∃ q, ((v_52.setCell ⟨W0.heap.size, 0, none⟩ (.int .u64 (c : Int))).setCell ⟨W0.heap.size, 1, none⟩ (.int .u64 (d : Int))) = q := ⟨_, rfl⟩; rw [hw_53]; have B0_53 := Blk.set_other (Blk.set_other B0_52 (a := ⟨W0.heap.size, 0, none⟩) (by have h2 := GL6.out; simp; omega) (.int .u64 (c : Int))) (a := ⟨W0.heap.size, 1, none⟩) (by have h2 := GL6.out; simp; omega) (.int .u64 (d : Int)); rw [hw_53] at B0_53; have B1_53 := Blk.set_other (Blk.set_other B1_52 (a := ⟨W0.heap.size, 0, none⟩) (by have h2 := GL6.out; simp; omega) (.int .u64 (c : Int))) (a := ⟨W0.heap.size, 1, none⟩) (by have h2 := GL6.out; simp; omega) (.int .u64 (d : Int)); rw [hw_53] at B1_53; have B2_53 := Blk.set_other (Blk.set_other B2_52 (a := ⟨W0.heap.size, 0, none⟩) (by have h2 := GL6.out; simp; omega) (.int .u64 (c : Int))) (a := ⟨W0.heap.size, 1, none⟩) (by have h2 := GL6.out; simp; omega) (.int .u64 (d : Int)); rw [hw_53] at B2_53; have Q5_53 := Blk.set_other (Blk.set_other Q5_52 (a := ⟨W0.heap.size, 0, none⟩) (by have h2 := NE.out; simp; omega) (.int .u64 (c : Int))) (a := ⟨W0.heap.size, 1, none⟩) (by have h2 := NE.out; simp; omega) (.int .u64 (d : Int)); rw [hw_53] at Q5_53; have Q6_53 : Blk v_53 W0.heap.size #[.int .u64 (c : Int), .int .u64 (d : Int)] 184 := (by rw [← hw_53]; exact ((Q6_52).set 0 (.int .u64 (c : Int))).set 1 (.int .u64 (d : Int))); have O_53 : Below w.heap.size w v_53 := (by rw [← hw_53]; exact (O_52.setCell (by have h2 := GL6.out; simp; omega) _).setCell (by have h2 := GL6.out; simp; omega) _); have y50_53 : v_53.cell? ⟨v_45.heap.size, 0, none⟩ = some (.int .u64 (a : Int)) := Blk.cell Q5_53 0; have y51_53 : v_53.cell? ⟨v_45.heap.size, 1, none⟩ = some (.int .u64 (b : Int)) := Blk.cell Q5_53 1; have f50_53 : v_53.frozen? ⟨v_45.heap.size, 0, none⟩ = false := Blk.free Q5_53 0; have f51_53 : v_53.frozen? ⟨v_45.heap.size, 1, none⟩ = false := Blk.free Q5_53 1; have y60_53 : v_53.cell? ⟨W0.heap.size, 0, none⟩ = some (.int .u64 (c : Int)) := Blk.cell Q6_53 0; have y61_53 : v_53.cell? ⟨W0.heap.size, 1, none⟩ = some (.int .u64 (d : Int)) := Blk.cell Q6_53 1; have f60_53 : v_53.frozen? ⟨W0.heap.size, 0, none⟩ = false := Blk.free Q6_53 0; have f61_53 : v_53.frozen? ⟨W0.heap.size, 1, none⟩ = false := Blk.free Q6_53 1; clear B0_52 B1_52 B2_52 O_52 Q5_52 y50_52 y51_52 f50_52 f51_52 Q6_52 y60_52 y61_52 f60_52 f61_52; clear hw_53; skip)
      (try go_wp2_with fail)
      refine hK.out _ _ ?_ (fun hHeld => ?_)
      · (try dsimp only)
        exact ⟨by assumption, by assumption⟩
      clear hK K
      (try simp only [Act.put, List.setIfInBounds_toArray, List.set_cons_zero, List.set_cons_succ])
      refine wpAnyH_done (by kernel_rfl) ?_ _
      clear y50_53 f50_53 y51_53 f51_53 y60_53 f60_53 y61_53 f61_53
      go_wp2_with fail
      go_meet
      exact ⟨_, _, rfl, rfl, (by have := NE.out; omega), GL5.out, GL6.out, Q5_53, Q6_53, B2_53, O_53⟩
    refine AllReadyH.cons (o := { dst := some 5, op := Go.Op.alloc 184, type := 0, pos := "ghash.go:61", after := #[], guard := none }) rfl (fun K hK => ?_) AllReadyH.nil
    go_simp
    (obtain ⟨v_54, hw_54⟩ : ∃ q, v_44.alloc (.cells #[.int .u64 0, .int .u64 0] 184) = q := ⟨_, rfl⟩; rw [hw_54]; have hb_54 : Below v_44.heap.size v_44 v_54 := (by rw [← hw_54]; exact (Below.refl _ _).alloc (Nat.le_refl _) _); have B0_54 := Blk.below B0_44 hb_54 (Blk.lt B0_44); have B1_54 := Blk.below B1_44 hb_54 (Blk.lt B1_44); have B2_54 := Blk.below B2_44 hb_54 (Blk.lt B2_44); have Q6_54 := Blk.below Q6_44 hb_54 (Blk.lt Q6_44); have O_54 := Below.trans O_44 (hb_54.mono O_44.size); have Q5_54 : Blk v_54 v_44.heap.size #[.int .u64 0, .int .u64 0] 184 := (by rw [← hw_54]; exact Blk.new _ _ _); have GL5 := Lib.hid (show w.heap.size + 1 + 1 < v_44.heap.size from Blk.lt B2_44); have NE := Lib.hid (show W0.heap.size < v_44.heap.size from Blk.lt Q6_44); have y50_54 : v_54.cell? ⟨v_44.heap.size, 0, none⟩ = some (.int .u64 0) := Blk.cell Q5_54 0; have y51_54 : v_54.cell? ⟨v_44.heap.size, 1, none⟩ = some (.int .u64 0) := Blk.cell Q5_54 1; have f50_54 : v_54.frozen? ⟨v_44.heap.size, 0, none⟩ = false := Blk.free Q5_54 0; have f51_54 : v_54.frozen? ⟨v_44.heap.size, 1, none⟩ = false := Blk.free Q5_54 1; have y60_54 : v_54.cell? ⟨W0.heap.size, 0, none⟩ = some (.int .u64 0) := Blk.cell Q6_54 0; have y61_54 : v_54.cell? ⟨W0.heap.size, 1, none⟩ = some (.int .u64 0) := Blk.cell Q6_54 1; have f60_54 : v_54.frozen? ⟨W0.heap.size, 0, none⟩ = false := Blk.free Q6_54 0; have f61_54 : v_54.frozen? ⟨W0.heap.size, 1, none⟩ = false := Blk.free Q6_54 1; clear B0_44 B1_44 B2_44 O_44 Q6_44 y60_44 y61_44 f60_44 f61_44; clear hb_54 hw_54; skip)
    (try go_wp2_with fail)
    refine hK.out _ _ ?_ (fun hHeld => ?_)
    · (try dsimp only)
      exact ⟨by assumption, by assumption⟩
    clear hK K
    (try simp only [Act.put, List.setIfInBounds_toArray, List.set_cons_zero, List.set_cons_succ])
    refine wpAnyH_ready (rs := [1]) (by kernel_rfl) (by simp) ?_
    refine AllReadyH.cons (o := { dst := some 10, op := Go.Op.call { callee := Go.Callee.value (Go.Operand.func 94), args := #[Go.Operand.tmp 9], argTypes := #[82] }, type := 184, pos := "ghash.go:61", after := #[{ on := 0, ground := Go.Ground.data }], guard := none }) rfl (fun K hK => ?_) AllReadyH.nil
    go_simp
    (refine (HRX.out _).mono ?_; rintro e v_55 ⟨rfl, hb_55⟩; have B0_55 := Blk.below B0_54 hb_55 (Blk.lt B0_54); have B1_55 := Blk.below B1_54 hb_55 (Blk.lt B1_54); have B2_55 := Blk.below B2_54 hb_55 (Blk.lt B2_54); have Q5_55 := Blk.below Q5_54 hb_55 (Blk.lt Q5_54); have Q6_55 := Blk.below Q6_54 hb_55 (Blk.lt Q6_54); have O_55 := Below.trans O_54 (hb_55.mono O_54.size); have y50_55 : v_55.cell? ⟨v_44.heap.size, 0, none⟩ = some (.int .u64 0) := Blk.cell Q5_55 0; have y51_55 : v_55.cell? ⟨v_44.heap.size, 1, none⟩ = some (.int .u64 0) := Blk.cell Q5_55 1; have f50_55 : v_55.frozen? ⟨v_44.heap.size, 0, none⟩ = false := Blk.free Q5_55 0; have f51_55 : v_55.frozen? ⟨v_44.heap.size, 1, none⟩ = false := Blk.free Q5_55 1; have y60_55 : v_55.cell? ⟨W0.heap.size, 0, none⟩ = some (.int .u64 0) := Blk.cell Q6_55 0; have y61_55 : v_55.cell? ⟨W0.heap.size, 1, none⟩ = some (.int .u64 0) := Blk.cell Q6_55 1; have f60_55 : v_55.frozen? ⟨W0.heap.size, 0, none⟩ = false := Blk.free Q6_55 0; have f61_55 : v_55.frozen? ⟨W0.heap.size, 1, none⟩ = false := Blk.free Q6_55 1; clear B0_54 B1_54 B2_54 O_54 Q5_54 y50_54 y51_54 f50_54 f51_54 Q6_54 y60_54 y61_54 f60_54 f61_54; clear hb_55; skip)
    (try go_wp2_with fail)
    refine hK.out _ _ ?_ (fun hHeld => ?_)
    · (try dsimp only)
      exact ⟨by assumption, by assumption⟩
    clear hK K
    (try simp only [Act.put, List.setIfInBounds_toArray, List.set_cons_zero, List.set_cons_succ])
    refine wpAnyH_ready (rs := [3]) (by kernel_rfl) (by simp) ?_
    refine AllReadyH.cons (o := { dst := some 12, op := Go.Op.call { callee := Go.Callee.value (Go.Operand.func 94), args := #[Go.Operand.tmp 11], argTypes := #[82] }, type := 184, pos := "ghash.go:61", after := #[{ on := 2, ground := Go.Ground.data }, { on := 1, ground := Go.Ground.chain }], guard := none }) rfl (fun K hK => ?_) AllReadyH.nil
    go_simp
    (refine (HRY.out _).mono ?_; rintro e v_56 ⟨rfl, hb_56⟩; have B0_56 := Blk.below B0_55 hb_56 (Blk.lt B0_55); have B1_56 := Blk.below B1_55 hb_56 (Blk.lt B1_55); have B2_56 := Blk.below B2_55 hb_56 (Blk.lt B2_55); have Q5_56 := Blk.below Q5_55 hb_56 (Blk.lt Q5_55); have Q6_56 := Blk.below Q6_55 hb_56 (Blk.lt Q6_55); have O_56 := Below.trans O_55 (hb_56.mono O_55.size); have y50_56 : v_56.cell? ⟨v_44.heap.size, 0, none⟩ = some (.int .u64 0) := Blk.cell Q5_56 0; have y51_56 : v_56.cell? ⟨v_44.heap.size, 1, none⟩ = some (.int .u64 0) := Blk.cell Q5_56 1; have f50_56 : v_56.frozen? ⟨v_44.heap.size, 0, none⟩ = false := Blk.free Q5_56 0; have f51_56 : v_56.frozen? ⟨v_44.heap.size, 1, none⟩ = false := Blk.free Q5_56 1; have y60_56 : v_56.cell? ⟨W0.heap.size, 0, none⟩ = some (.int .u64 0) := Blk.cell Q6_56 0; have y61_56 : v_56.cell? ⟨W0.heap.size, 1, none⟩ = some (.int .u64 0) := Blk.cell Q6_56 1; have f60_56 : v_56.frozen? ⟨W0.heap.size, 0, none⟩ = false := Blk.free Q6_56 0; have f61_56 : v_56.frozen? ⟨W0.heap.size, 1, none⟩ = false := Blk.free Q6_56 1; clear B0_55 B1_55 B2_55 O_55 Q5_55 y50_55 y51_55 f50_55 f51_55 Q6_55 y60_55 y61_55 f60_55 f61_55; clear hb_56; skip)
    (try go_wp2_with fail)
    refine hK.out _ _ ?_ (fun hHeld => ?_)
    · (try dsimp only)
      exact ⟨by assumption, by assumption⟩
    clear hK K
    (try simp only [Act.put, List.setIfInBounds_toArray, List.set_cons_zero, List.set_cons_succ])
    refine wpAnyH_ready (rs := [6]) (by kernel_rfl) (by simp) ?_
    refine AllReadyH.cons (o := { dst := none, op := Go.Op.store 184 (Go.Operand.tmp 5) (Go.Operand.tmp 10), type := 0, pos := "ghash.go:61", after := #[{ on := 4, ground := Go.Ground.data }, { on := 1, ground := Go.Ground.data }, { on := 3, ground := Go.Ground.chain }, { on := 0, ground := Go.Ground.phase }, { on := 1, ground := Go.Ground.phase }, { on := 2, ground := Go.Ground.textOnly Go.Departure.lateStores }, { on := 3, ground := Go.Ground.textOnly Go.Departure.lateStoresUnsure }, { on := 4, ground := Go.Ground.phase }, { on := 5, ground := Go.Ground.phase }], guard := none }) rfl (fun K hK => ?_) AllReadyH.nil
    go_simp
    (obtain ⟨v_57, hw_57⟩ : ∃ q, ((v_56.setCell ⟨v_44.heap.size, 0, none⟩ (.int .u64 (a : Int))).setCell ⟨v_44.heap.size, 1, none⟩ (.int .u64 (b : Int))) = q := ⟨_, rfl⟩; rw [hw_57]; have B0_57 := Blk.set_other (Blk.set_other B0_56 (a := ⟨v_44.heap.size, 0, none⟩) (by have h2 := GL5.out; simp; omega) (.int .u64 (a : Int))) (a := ⟨v_44.heap.size, 1, none⟩) (by have h2 := GL5.out; simp; omega) (.int .u64 (b : Int)); rw [hw_57] at B0_57; have B1_57 := Blk.set_other (Blk.set_other B1_56 (a := ⟨v_44.heap.size, 0, none⟩) (by have h2 := GL5.out; simp; omega) (.int .u64 (a : Int))) (a := ⟨v_44.heap.size, 1, none⟩) (by have h2 := GL5.out; simp; omega) (.int .u64 (b : Int)); rw [hw_57] at B1_57; have B2_57 := Blk.set_other (Blk.set_other B2_56 (a := ⟨v_44.heap.size, 0, none⟩) (by have h2 := GL5.out; simp; omega) (.int .u64 (a : Int))) (a := ⟨v_44.heap.size, 1, none⟩) (by have h2 := GL5.out; simp; omega) (.int .u64 (b : Int)); rw [hw_57] at B2_57; have Q6_57 := Blk.set_other (Blk.set_other Q6_56 (a := ⟨v_44.heap.size, 0, none⟩) (by have h2 := NE.out; simp; omega) (.int .u64 (a : Int))) (a := ⟨v_44.heap.size, 1, none⟩) (by have h2 := NE.out; simp; omega) (.int .u64 (b : Int)); rw [hw_57] at Q6_57; have Q5_57 : Blk v_57 v_44.heap.size #[.int .u64 (a : Int), .int .u64 (b : Int)] 184 := (by rw [← hw_57]; exact ((Q5_56).set 0 (.int .u64 (a : Int))).set 1 (.int .u64 (b : Int))); have O_57 : Below w.heap.size w v_57 := (by rw [← hw_57]; exact (O_56.setCell (by have h2 := GL5.out; simp; omega) _).setCell (by have h2 := GL5.out; simp; omega) _); have y50_57 : v_57.cell? ⟨v_44.heap.size, 0, none⟩ = some (.int .u64 (a : Int)) := Blk.cell Q5_57 0; have y51_57 : v_57.cell? ⟨v_44.heap.size, 1, none⟩ = some (.int .u64 (b : Int)) := Blk.cell Q5_57 1; have f50_57 : v_57.frozen? ⟨v_44.heap.size, 0, none⟩ = false := Blk.free Q5_57 0; have f51_57 : v_57.frozen? ⟨v_44.heap.size, 1, none⟩ = false := Blk.free Q5_57 1; have y60_57 : v_57.cell? ⟨W0.heap.size, 0, none⟩ = some (.int .u64 0) := Blk.cell Q6_57 0; have y61_57 : v_57.cell? ⟨W0.heap.size, 1, none⟩ = some (.int .u64 0) := Blk.cell Q6_57 1; have f60_57 : v_57.frozen? ⟨W0.heap.size, 0, none⟩ = false := Blk.free Q6_57 0; have f61_57 : v_57.frozen? ⟨W0.heap.size, 1, none⟩ = false := Blk.free Q6_57 1; clear B0_56 B1_56 B2_56 O_56 Q5_56 y50_56 y51_56 f50_56 f51_56 Q6_56 y60_56 y61_56 f60_56 f61_56; clear hw_57; skip)
    (try go_wp2_with fail)
    refine hK.out _ _ ?_ (fun hHeld => ?_)
    · (try dsimp only)
      exact ⟨by assumption, by assumption⟩
    clear hK K
    (try simp only [Act.put, List.setIfInBounds_toArray, List.set_cons_zero, List.set_cons_succ])
    refine wpAnyH_ready (rs := [7]) (by kernel_rfl) (by simp) ?_
    refine AllReadyH.cons (o := { dst := none, op := Go.Op.store 184 (Go.Operand.tmp 6) (Go.Operand.tmp 12), type := 0, pos := "ghash.go:61", after := #[{ on := 5, ground := Go.Ground.data }, { on := 3, ground := Go.Ground.data }, { on := 6, ground := Go.Ground.chain }, { on := 0, ground := Go.Ground.phase }, { on := 1, ground := Go.Ground.phase }, { on := 2, ground := Go.Ground.phase }, { on := 3, ground := Go.Ground.phase }, { on := 4, ground := Go.Ground.phase }, { on := 5, ground := Go.Ground.phase }, { on := 6, ground := Go.Ground.phase }], guard := none }) rfl (fun K hK => ?_) AllReadyH.nil
    go_simp
    (obtain ⟨v_58, hw_58⟩ : ∃ q, ((v_57.setCell ⟨W0.heap.size, 0, none⟩ (.int .u64 (c : Int))).setCell ⟨W0.heap.size, 1, none⟩ (.int .u64 (d : Int))) = q := ⟨_, rfl⟩; rw [hw_58]; have B0_58 := Blk.set_other (Blk.set_other B0_57 (a := ⟨W0.heap.size, 0, none⟩) (by have h2 := GL6.out; simp; omega) (.int .u64 (c : Int))) (a := ⟨W0.heap.size, 1, none⟩) (by have h2 := GL6.out; simp; omega) (.int .u64 (d : Int)); rw [hw_58] at B0_58; have B1_58 := Blk.set_other (Blk.set_other B1_57 (a := ⟨W0.heap.size, 0, none⟩) (by have h2 := GL6.out; simp; omega) (.int .u64 (c : Int))) (a := ⟨W0.heap.size, 1, none⟩) (by have h2 := GL6.out; simp; omega) (.int .u64 (d : Int)); rw [hw_58] at B1_58; have B2_58 := Blk.set_other (Blk.set_other B2_57 (a := ⟨W0.heap.size, 0, none⟩) (by have h2 := GL6.out; simp; omega) (.int .u64 (c : Int))) (a := ⟨W0.heap.size, 1, none⟩) (by have h2 := GL6.out; simp; omega) (.int .u64 (d : Int)); rw [hw_58] at B2_58; have Q5_58 := Blk.set_other (Blk.set_other Q5_57 (a := ⟨W0.heap.size, 0, none⟩) (by have h2 := NE.out; simp; omega) (.int .u64 (c : Int))) (a := ⟨W0.heap.size, 1, none⟩) (by have h2 := NE.out; simp; omega) (.int .u64 (d : Int)); rw [hw_58] at Q5_58; have Q6_58 : Blk v_58 W0.heap.size #[.int .u64 (c : Int), .int .u64 (d : Int)] 184 := (by rw [← hw_58]; exact ((Q6_57).set 0 (.int .u64 (c : Int))).set 1 (.int .u64 (d : Int))); have O_58 : Below w.heap.size w v_58 := (by rw [← hw_58]; exact (O_57.setCell (by have h2 := GL6.out; simp; omega) _).setCell (by have h2 := GL6.out; simp; omega) _); have y50_58 : v_58.cell? ⟨v_44.heap.size, 0, none⟩ = some (.int .u64 (a : Int)) := Blk.cell Q5_58 0; have y51_58 : v_58.cell? ⟨v_44.heap.size, 1, none⟩ = some (.int .u64 (b : Int)) := Blk.cell Q5_58 1; have f50_58 : v_58.frozen? ⟨v_44.heap.size, 0, none⟩ = false := Blk.free Q5_58 0; have f51_58 : v_58.frozen? ⟨v_44.heap.size, 1, none⟩ = false := Blk.free Q5_58 1; have y60_58 : v_58.cell? ⟨W0.heap.size, 0, none⟩ = some (.int .u64 (c : Int)) := Blk.cell Q6_58 0; have y61_58 : v_58.cell? ⟨W0.heap.size, 1, none⟩ = some (.int .u64 (d : Int)) := Blk.cell Q6_58 1; have f60_58 : v_58.frozen? ⟨W0.heap.size, 0, none⟩ = false := Blk.free Q6_58 0; have f61_58 : v_58.frozen? ⟨W0.heap.size, 1, none⟩ = false := Blk.free Q6_58 1; clear B0_57 B1_57 B2_57 O_57 Q5_57 y50_57 y51_57 f50_57 f51_57 Q6_57 y60_57 y61_57 f60_57 f61_57; clear hw_58; skip)
    (try go_wp2_with fail)
    refine hK.out _ _ ?_ (fun hHeld => ?_)
    · (try dsimp only)
      exact ⟨by assumption, by assumption⟩
    clear hK K
    (try simp only [Act.put, List.setIfInBounds_toArray, List.set_cons_zero, List.set_cons_succ])
    refine wpAnyH_done (by kernel_rfl) ?_ _
    clear y50_58 f50_58 y51_58 f51_58 y60_58 f60_58 y61_58 f61_58
    go_wp2_with fail
    go_meet
    exact ⟨_, _, rfl, rfl, (by have := NE.out; omega), GL5.out, GL6.out, Q5_58, Q6_58, B2_58, O_58⟩
  case rest =>
    obtain ⟨p, q, rfl, rfl, hpq, hp, hq, hP, hQ, hZ, hO⟩ := hcut
    obtain ⟨z, hz⟩ : ∃ z, wc.heap.size = z := ⟨_, rfl⟩
    have hpz : p < z := by rw [← hz]; exact Blk.lt hP
    have hqz : q < z := by rw [← hz]; exact Blk.lt hQ
    have HT := Lib.hid (show MIG w zero16 a b c d p q z 0 (wc.alloc (.cells #[.int .u64 0, .int .u64 0] 184)) from ⟨hP.alloc _, hQ.alloc _, by rw [← hz]; exact Blk.new _ _ _, hZ.alloc _, hO.alloc hO.size _⟩)
    clear hP hQ hZ hO
    go_wp2_with fail
    go_loopw [13] (fun i wr => ∃ k : Nat, k ≤ 128 ∧ i = .int .i64 (k : Int) ∧ MIG w zero16 a b c d p q z k wr) (fun i _ => 128 - (intOf i).toNat)
    case atStart => exact ⟨0, Nat.zero_le _, rfl, HT.out⟩
    case round =>
      obtain ⟨k, hk, rfl, hT⟩ := hrel
      by_cases hlt : k < 128
      · obtain ⟨hP, hQ, hR, hZ, hO⟩ := hT
        have hv1 : vK c d (k + 1) = (nx1 (vK c d k).1 (vK c d k).2, nx2 (vK c d k).1 (vK c d k).2) := rfl
        have hz1 : zK a b c d (k + 1) = if hasN a b k then ((zK a b c d k).1 ^^^ (vK c d k).1, (zK a b c d k).2 ^^^ (vK c d k).2) else zK a b c d k := rfl
        obtain ⟨hA, hB, hC, hD⟩ := HA.out
        have hx := vK_lt hC hD k
        have hu := zK_lt (a := a) (b := b) hC hD k
        have hzp : zK a b c d k = ((zK a b c d k).1, (zK a b c d k).2) := rfl
        generalize (vK c d k).1 = x at *
        generalize (vK c d k).2 = y at *
        obtain ⟨u, hu0⟩ : ∃ n, (zK a b c d k).1 = n := ⟨_, rfl⟩
        obtain ⟨v, hv0⟩ : ∃ n, (zK a b c d k).2 = n := ⟨_, rfl⟩
        rw [hu0, hv0] at hR hz1 hu hzp
        rw [hzp] at hz1
        have k0 : (0 : Int) ≤ (k : Int) := by omega
        have k1 : (k : Int) < 128 := by omega
        have q0 : ¬ q = z := by omega
        have q1 : ¬ z = q := by omega
        have q2 : ¬ p = z := by omega
        have q3 : ¬ z = p := by omega
        have q4 : ¬ q = p := fun e => hpq e.symm
        have HZ1 := Lib.hid hz1
        have HV1 := Lib.hid hv1
        have HP := Lib.hid hP
        have HQ := Lib.hid hQ
        have HR := Lib.hid hR
        have HZ := Lib.hid hZ
        have HO := Lib.hid hO
        have HX := Lib.hid hx
        have HU := Lib.hid hu
        clear hz1 hv1 hQ hR hZ hO hx hu hu0 hv0 hzp hA hB hC hD
        have p0 : wr.cell? ⟨p, 0, none⟩ = some (.int .u64 (a : Int)) := Blk.cell hP 0
        have p1 : wr.cell? ⟨p, 1, none⟩ = some (.int .u64 (b : Int)) := Blk.cell hP 1
        have p2 : wr.frozen? ⟨p, 0, none⟩ = false := Blk.free hP 0
        have p3 : wr.frozen? ⟨p, 1, none⟩ = false := Blk.free hP 1
        clear hP
        go_wp2_with fail
        refine (has_any a b k _ hlt).mono ?_
        rintro e w1 ⟨rfl, hb⟩
        clear p0 p1 p2 p3
        have hP := Blk.below HP.out hb (Blk.lt HP.out)
        have hQ := Blk.below HQ.out hb (Blk.lt HQ.out)
        have hR := Blk.below HR.out hb (Blk.lt HR.out)
        have hZ := Blk.below HZ.out hb (Blk.lt HZ.out)
        have hO := HO.out.trans (hb.mono HO.out.size)
        have hz4 : w.heap.size ≤ q := by omega
        have hz5 : w.heap.size ≤ z := by omega
        clear hb HP HQ HR HZ HO
        by_cases hB : hasN a b k = true
        · have e1 : bits .xor .u64 (u : Int) (x : Int) = ((u ^^^ x : Nat) : Int) := bits_xor_u64_nat u x HU.out.1 HX.out.1
          have e2 : bits .xor .u64 (v : Int) (y : Int) = ((v ^^^ y : Nat) : Int) := bits_xor_u64_nat v y HU.out.2 HX.out.2
          have hz6 := HZ1.out
          rw [if_pos hB] at hz6
          have HZ2 := Lib.hid hz6
          clear hz6 HZ1
          generalize u ^^^ x = r at *
          generalize v ^^^ y = s at *
          have q0 : w1.cell? ⟨q, 0, none⟩ = some (.int .u64 (x : Int)) := Blk.cell hQ 0
          have q1 : w1.cell? ⟨q, 1, none⟩ = some (.int .u64 (y : Int)) := Blk.cell hQ 1
          have q2 : w1.frozen? ⟨q, 0, none⟩ = false := Blk.free hQ 0
          have q3 : w1.frozen? ⟨q, 1, none⟩ = false := Blk.free hQ 1
          have r0 : w1.cell? ⟨z, 0, none⟩ = some (.int .u64 (u : Int)) := Blk.cell hR 0
          have r1 : w1.cell? ⟨z, 1, none⟩ = some (.int .u64 (v : Int)) := Blk.cell hR 1
          have r2 : w1.frozen? ⟨z, 0, none⟩ = false := Blk.free hR 0
          have r3 : w1.frozen? ⟨z, 1, none⟩ = false := Blk.free hR 1
          go_wp2_with fail
          obtain ⟨w1', hw⟩ : ∃ q, (w1.setCell ⟨z, 0, none⟩ (.int .u64 (r : Int))).setCell ⟨z, 1, none⟩ (.int .u64 (s : Int)) = q := ⟨_, rfl⟩
          rw [hw]
          have hP' : W2 w1' p a b := by rw [← hw]; exact Blk.set_other (Blk.set_other hP (by simp; omega) _) (by simp; omega) _
          have hQ' : W2 w1' q x y := by rw [← hw]; exact Blk.set_other (Blk.set_other hQ (by simp; omega) _) (by simp; omega) _
          have hR' : W2 w1' z r s := by rw [← hw]; exact (Blk.set hR 0 _).set 1 _
          have hZ' : Blk w1' (w.heap.size + 1 + 1) zero16 82 := by rw [← hw]; exact Blk.set_other (Blk.set_other hZ (by simp; omega) _) (by simp; omega) _
          have hO' : Below w.heap.size w w1' := by rw [← hw]; exact (hO.setCell (by simp; omega) _).setCell (by simp; omega) _
          clear q0 q1 q2 q3 r0 r1 r2 r3 hw hP hQ hR hZ hO
          refine (next_any x y _ HX.out.1 HX.out.2).mono ?_
          rintro e w2 ⟨rfl, hb2⟩
          have hP2 := Blk.below hP' hb2 (Blk.lt hP')
          have hQ2 := Blk.below hQ' hb2 (Blk.lt hQ')
          have hR2 := Blk.below hR' hb2 (Blk.lt hR')
          have hZ2 := Blk.below hZ' hb2 (Blk.lt hZ')
          have hO2 := hO'.trans (hb2.mono hO'.size)
          have HN := Lib.hid (show MIG w zero16 a b c d p q z (k + 1) ((w2.setCell ⟨q, 0, none⟩ (.int .u64 (nx1 x y : Int))).setCell ⟨q, 1, none⟩ (.int .u64 (nx2 x y : Int))) by
            refine ⟨Blk.set_other (Blk.set_other hP2 (by simp; omega) _) (by simp; omega) _, ?_, ?_, Blk.set_other (Blk.set_other hZ2 (by simp; omega) _) (by simp; omega) _, (hO2.setCell (by simp; omega) _).setCell (by simp; omega) _⟩
            · rw [HV1.out]; exact (Blk.set hQ2 0 _).set 1 _
            · rw [HZ2.out]; exact Blk.set_other (Blk.set_other hR2 (by simp; omega) _) (by simp; omega) _)
          clear hP2 hR2 hZ2 hO2
          have q0 : w2.cell? ⟨q, 0, none⟩ = some (.int .u64 (x : Int)) := Blk.cell hQ2 0
          have q1 : w2.cell? ⟨q, 1, none⟩ = some (.int .u64 (y : Int)) := Blk.cell hQ2 1
          have q2 : w2.frozen? ⟨q, 0, none⟩ = false := Blk.free hQ2 0
          have q3 : w2.frozen? ⟨q, 1, none⟩ = false := Blk.free hQ2 1
          generalize nx1 x y = n1 at *
          generalize nx2 x y = n2 at *
          go_wp2_with fail
          exact ⟨⟨k + 1, by omega, by go_num, HN.out⟩, by simp [intOf]; omega⟩
        · have hz6 := HZ1.out
          rw [if_neg hB] at hz6
          have HZ2 := Lib.hid hz6
          have hB' : hasN a b k = false := by simpa using hB
          clear hz6 HZ1 hB
          have q0 : w1.cell? ⟨q, 0, none⟩ = some (.int .u64 (x : Int)) := Blk.cell hQ 0
          have q1 : w1.cell? ⟨q, 1, none⟩ = some (.int .u64 (y : Int)) := Blk.cell hQ 1
          have q2 : w1.frozen? ⟨q, 0, none⟩ = false := Blk.free hQ 0
          have q3 : w1.frozen? ⟨q, 1, none⟩ = false := Blk.free hQ 1
          go_wp2_with fail
          refine (next_any x y _ HX.out.1 HX.out.2).mono ?_
          rintro e w2 ⟨rfl, hb2⟩
          have hP2 := Blk.below hP hb2 (Blk.lt hP)
          have hQ2 := Blk.below hQ hb2 (Blk.lt hQ)
          have hR2 := Blk.below hR hb2 (Blk.lt hR)
          have hZ2 := Blk.below hZ hb2 (Blk.lt hZ)
          have hO2 := hO.trans (hb2.mono hO.size)
          have HN := Lib.hid (show MIG w zero16 a b c d p q z (k + 1) ((w2.setCell ⟨q, 0, none⟩ (.int .u64 (nx1 x y : Int))).setCell ⟨q, 1, none⟩ (.int .u64 (nx2 x y : Int))) by
            refine ⟨Blk.set_other (Blk.set_other hP2 (by simp; omega) _) (by simp; omega) _, ?_, ?_, Blk.set_other (Blk.set_other hZ2 (by simp; omega) _) (by simp; omega) _, (hO2.setCell (by simp; omega) _).setCell (by simp; omega) _⟩
            · rw [HV1.out]; exact (Blk.set hQ2 0 _).set 1 _
            · rw [HZ2.out]; exact Blk.set_other (Blk.set_other hR2 (by simp; omega) _) (by simp; omega) _)
          clear hP2 hR2 hZ2 hO2 q0 q1 q2 q3
          have q0 : w2.cell? ⟨q, 0, none⟩ = some (.int .u64 (x : Int)) := Blk.cell hQ2 0
          have q1 : w2.cell? ⟨q, 1, none⟩ = some (.int .u64 (y : Int)) := Blk.cell hQ2 1
          have q2 : w2.frozen? ⟨q, 0, none⟩ = false := Blk.free hQ2 0
          have q3 : w2.frozen? ⟨q, 1, none⟩ = false := Blk.free hQ2 1
          generalize nx1 x y = n1 at *
          generalize nx2 x y = n2 at *
          go_wp2_with fail
          exact ⟨⟨k + 1, by omega, by go_num, HN.out⟩, by simp [intOf]; omega⟩
      · obtain rfl : k = 128 := by omega
        obtain ⟨hP, hQ, hR, hZ, hO⟩ := hT
        have hm : mulF f g = blkF (zK a b c d 128).1 (zK a b c d 128).2 := HM.out
        generalize (zK a b c d 128).1 = u at *
        generalize (zK a b c d 128).2 = v at *
        have hB : B16 wr (w.heap.size + 1 + 1) (fun _ => 0) := hZ
        have HM2 := Lib.hid hm
        have HB := Lib.hid hB
        have HO := Lib.hid hO
        have r0 : wr.cell? ⟨z, 0, none⟩ = some (.int .u64 (u : Int)) := Blk.cell hR 0
        have r1 : wr.cell? ⟨z, 1, none⟩ = some (.int .u64 (v : Int)) := Blk.cell hR 1
        have r2 : wr.frozen? ⟨z, 0, none⟩ = false := Blk.free hR 0
        have r3 : wr.frozen? ⟨z, 1, none⟩ = false := Blk.free hR 1
        clear hP hQ hR hZ hO hB hm
        go_wp2_with fail
        refine (block_any u v _).mono ?_
        rintro e w2 ⟨rfl, hb⟩
        clear r0 r1 r2 r3
        rw [← HM2.out]
        have hB2 : B16 w2 (w.heap.size + 1 + 1) (fun _ => 0) := Blk.below HB.out hb (Blk.lt HB.out)
        have hO2 := HO.out.trans (hb.mono HO.out.size)
        obtain ⟨E, hE⟩ : ∃ E, (rowC 16 (mulF f g)).toArray = E := ⟨_, rfl⟩
        have HTh : Hid (w2.there (w.heap.size + 1 + 1) 0 E.size) := Lib.hid (hE ▸ hB2.there (mulF f g))
        have HI : Hid ((Tryz.prog.info? 82).map (·.size) = some E.size) := Lib.hid (hE ▸ info16 (mulF f g))
        have HON : Hid (E.all (·.oneCell') = true) := Lib.hid (hE ▸ one16 (mulF f g))
        have HN : Hid (Blk (w2.setCells (w.heap.size + 1 + 1) 0 E.toList) (w.heap.size + 1 + 1) E 82) := Lib.hid (hE ▸ hB2.store (mulF f g))
        have HOw : Hid (Own (w.heap.size + 1 + 1) w2 (w2.setCells (w.heap.size + 1 + 1) 0 E.toList)) := Lib.hid (Own.setCells _ _ _)
        have HO2 := Lib.hid hO2
        have HE := Lib.hid hE
        rw [hE]
        clear hB2 hO2 hE hlt hk HT
        go_wp2_with (first
          | (refine wpList_store_mid rfl 82 (.tmp 4) (.tmp 35) rfl (w.heap.size + 1 + 1) 0 E rfl rfl HTh.out HI.out HON.out ?_))
        refine bodyPost_ret (v := .agg E) ?_ rfl ⟨by rw [HE.out], ?_⟩
        · exact results_cell_row Tryz.results83 _ _ (w.heap.size + 1 + 1) 82 E (0, 0) _ rfl HN.out Tryz.underlying82 rfl HI.out
        · exact HO2.out.trans (HOw.out.below (by omega) HO2.out.size)
end Go.Proofs.YtncfocjmdecapaaGreatDoor
