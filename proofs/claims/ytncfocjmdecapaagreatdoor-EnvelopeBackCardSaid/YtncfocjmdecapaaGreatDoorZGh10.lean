/- Sums of bytes with a block. -/
import Derived.Deep.RegionHeld3
import Derived.Deep.DeepCutAuto
import Derived.Test.YtncfocjmdecapaaGreatDoorZB0
import Derived.Test.YtncfocjmdecapaaGreatDoorZS1
import Derived.Test.YtncfocjmdecapaaGreatDoorZS2
import Derived.Test.YtncfocjmdecapaaGreatDoorZSh4
import Derived.Test.YtncfocjmdecapaaGreatDoorZA0
import Derived.Test.YtncfocjmdecapaaGreatDoorZS5
import Derived.Test.YtncfocjmdecapaaGreatDoorZSh7
import Derived.Test.YtncfocjmdecapaaGreatDoorZS8
import Derived.Test.YtncfocjmdecapaaGreatDoorZHm2
import Derived.Test.YtncfocjmdecapaaGreatDoorZAs
import Derived.Test.YtncfocjmdecapaaGreatDoorZR0
import Derived.Test.YtncfocjmdecapaaGreatDoorZB16
import Derived.Test.YtncfocjmdecapaaGreatDoorZQ0
import Derived.Test.YtncfocjmdecapaaGreatDoorZGh4
import Derived.Test.YtncfocjmdecapaaGreatDoorZGh5
import Derived.Test.YtncfocjmdecapaaGreatDoorZQ6
namespace Go.Proofs.YtncfocjmdecapaaGreatDoor
set_option linter.unusedVariables false
set_option linter.unusedSimpArgs false
open Go.RowKit
/-- Behind the blocks of both. -/
def twoF (h f : Nat → Nat) (n : Nat) (g : Nat → Nat) (m : Nat) : Nat → Nat := thrF h g m (thrF h f n (fun _ => 0) ((n + 15) / 16)) ((m + 15) / 16)
def hashF (h f : Nat → Nat) (n : Nat) (g : Nat → Nat) (m : Nat) : Nat → Nat := mulF (addF (twoF h f n g m) (blkF (n * 8) (m * 8))) h
/-- Behind the blocks of both, in memory. -/
def HR1 (w0 : World) (D F : Array Value) (v : Value) (wr : World) : Prop := ∃ g, v = .pointer (some ⟨g, 0, none⟩) ∧ w0.heap.size + 1 < g ∧ Blk wr g F 82 ∧ Blk wr w0.heap.size D 82 ∧ Blk wr (w0.heap.size + 1) zero16 82 ∧ Below w0.heap.size w0 wr
/-- Behind k rounds of the lengths. -/
def HI1 (w0 : World) (D F : Array Value) (a b g z k : Nat) (wr : World) : Prop := Blk wr g F 82 ∧ Blk wr w0.heap.size D 82 ∧ Blk wr (w0.heap.size + 1) zero16 82 ∧ B16 wr z (fun i => if i % 8 < k then blkF a b i else 0) ∧ Below w0.heap.size w0 wr
set_option maxRecDepth 100000 in
set_option maxHeartbeats 4000000 in
theorem hash_anyG (y f g : Nat → Nat) (oa ob : Option Addr) (n m cn cm : Nat) (w : World) (hy : ∀ i, i < 16 → y i < 256) (ha : Bytes w oa n f) (hb : Bytes w ob m g) (hnc : n ≤ cn) (hmc : m ≤ cm) (hcn : cn ≤ maxLen) (hcm : cm ≤ maxLen) (hn : n < 1000000) (hm : m < 1000000) :
    Calls Tryz.prog 59 #[.agg (rowC 16 y).toArray, .slice oa n cn, .slice ob m cm] w fun e w' => e = .returned (.agg (rowC 16 (hashF y f n g m)).toArray) ∧ Below w.heap.size w w' := by
  have hz := zero16_run
  obtain ⟨D, hD⟩ : ∃ C, (rowC 16 y).toArray = C := ⟨_, rfl⟩
  obtain ⟨T1, hT1⟩ : ∃ C, (rowC 16 (thrF y f n (fun _ => 0) ((n + 15) / 16))).toArray = C := ⟨_, rfl⟩
  obtain ⟨T2, hT2⟩ : ∃ C, (rowC 16 (twoF y f n g m)).toArray = C := ⟨_, rfl⟩
  have hl0 : ∀ i, i < 16 → (fun _ => 0 : Nat → Nat) i < 256 := fun _ _ => Nat.zero_lt_succ _
  have HTH1 : Hid (∀ w', Below w.heap.size w w' → Calls Tryz.prog 82 #[.agg zero16, .agg D, .slice oa n cn] w' fun e w'' => e = .returned (.agg T1) ∧ Below w'.heap.size w' w'') := Lib.hid fun w' hb' => by
    rw [← hD, ← hT1]; exact through_any (fun _ => 0) y f oa n cn w' hl0 hy (ha.later hb') hnc hcn
  have HTH2 : Hid (∀ w', Below w.heap.size w w' → Calls Tryz.prog 82 #[.agg T1, .agg D, .slice ob m cm] w' fun e w'' => e = .returned (.agg T2) ∧ Below w'.heap.size w' w'') := Lib.hid fun w' hb' => by
    rw [← hD, ← hT1, ← hT2]; exact through_any _ y g ob m cm w' (thrF_lt hl0 _) hy (hb.later hb') hmc hcm
  have HID : Hid ((Tryz.prog.info? 82).map (·.size) = some D.size) := Lib.hid (hD ▸ info16 _)
  have HFC : Hid (∃ f, T2 = (rowC 16 f).toArray) := Lib.hid ⟨_, hT2.symm⟩
  have HZC : Hid (∃ f, zero16 = (rowC 16 f).toArray) := Lib.hid ⟨_, rfl⟩
  have HD := Lib.hid hD
  have HT := Lib.hid hT2
  have HY := Lib.hid hy
  have n0 : (0 : Int) ≤ (n : Int) := by omega
  have n1 : (n : Int) < 1000000 := by omega
  have m0 : (0 : Int) ≤ (m : Int) := by omega
  have m1 : (m : Int) < 1000000 := by omega
  rw [hD]
  clear hy ha hb hD hT1 hT2 hnc hmc hcn hcm hl0
  go_enter Tryz.func59, Tryz.ntmps59
  go_upto_region 1 with fail
  obtain ⟨w0, hw0⟩ : ∃ q, (w.alloc (.cells D 82)).alloc (.cells zero16 82) = q := ⟨_, rfl⟩
  have B0 : Blk w0 w.heap.size D 82 := by rw [← hw0]; exact (Blk.new w _ 82).alloc _
  have B1 : Blk w0 (w.heap.size + 1) zero16 82 := by rw [← hw0]; simpa using Blk.new (w.alloc (.cells D 82)) zero16 82
  have O : Below w.heap.size w w0 := by rw [← hw0]; exact ((Below.refl _ _).alloc (Nat.le_refl _) _).alloc (by simp) _
  rw [hw0]
  clear hw0
  go_cut [7] (HR1 w D T2)
  case first =>
    have hS_0 : SL [(w.heap.size, D)] w0.drew := SL.cons B0.drew (SL.nil _)
    have hZ_0 : Blk w0.drew (w.heap.size + 1) zero16 82 := B1.drew
    have hO_0 : Below w.heap.size w w0.drew := O.drew
    clear B0 B1 O
    refine wp_region_held_drew (S := (SL [(w.heap.size, D)])) (by kernel_rfl) ?_ (fun hHeld => ?_)
    · (try dsimp only)
      first | assumption | (apply SL.drew; assumption)
    generalize w0.drew = W0 at *
    refine wpAnyH_take (i := 0) (oi := { dst := some 12, op := Go.Op.build 82 #[], type := 82, pos := "ghash.go:86", after := #[], guard := none }) (v := ?_) rfl (by kernel_rfl) (by kernel_rfl) (by kernel_rfl) (fun _ _ _ h => h) (Or.inl ⟨by rfl, ?_⟩) (by assumption) ?_
    rotate_left
    · intro wS hSw
      refine exec_build (C := zero16) (parts := #[]) (ps := #[]) ?_ ?_ build_none <;> first | rfl | simp
    (try simp only [Act.put, List.setIfInBounds_toArray, List.set_cons_zero, List.set_cons_succ])
    refine wpAnyH_take (i := 1) (oi := { dst := some 13, op := Go.Op.load 82 (Go.Operand.tmp 3), type := 82, pos := "ghash.go:86", after := #[], guard := none }) (v := ?_) rfl (by kernel_rfl) (by kernel_rfl) (by kernel_rfl) (fun _ _ _ h => h) (Or.inl ⟨by rfl, ?_⟩) (by assumption) ?_
    rotate_left
    · intro wS hSw
      refine exec_load16 (x := .tmp 3) ?_ ?_ (ld16 hSw.h0 HID.out) <;> rfl
    (try simp only [Act.put, List.setIfInBounds_toArray, List.set_cons_zero, List.set_cons_succ])
    refine wpAnyH_take (i := 2) (oi := { dst := some 14, op := Go.Op.move (Go.Operand.tmp 1), type := 24, pos := "ghash.go:86", after := #[], guard := none }) (v := ?_) rfl (by kernel_rfl) (by kernel_rfl) (by kernel_rfl) (fun _ _ _ h => h) (Or.inl ⟨by rfl, ?_⟩) (by assumption) ?_
    rotate_left
    · intro wS hSw
      (try dsimp only at hSw)
      go_simp
      (try with_reducible rfl)
    (try simp only [Act.put, List.setIfInBounds_toArray, List.set_cons_zero, List.set_cons_succ])
    refine wpAnyH_take (i := 4) (oi := { dst := some 16, op := Go.Op.load 82 (Go.Operand.tmp 3), type := 82, pos := "ghash.go:86", after := #[], guard := none }) (v := ?_) rfl (by kernel_rfl) (by kernel_rfl) (by kernel_rfl) (fun _ _ _ h => h) (Or.inl ⟨by rfl, ?_⟩) (by assumption) ?_
    rotate_left
    · intro wS hSw
      refine exec_load16 (x := .tmp 3) ?_ ?_ (ld16 hSw.h0 HID.out) <;> rfl
    (try simp only [Act.put, List.setIfInBounds_toArray, List.set_cons_zero, List.set_cons_succ])
    refine wpAnyH_take (i := 5) (oi := { dst := some 17, op := Go.Op.move (Go.Operand.tmp 2), type := 24, pos := "ghash.go:86", after := #[], guard := none }) (v := ?_) rfl (by kernel_rfl) (by kernel_rfl) (by kernel_rfl) (fun _ _ _ h => h) (Or.inl ⟨by rfl, ?_⟩) (by assumption) ?_
    rotate_left
    · intro wS hSw
      (try dsimp only at hSw)
      go_simp
      (try with_reducible rfl)
    (try simp only [Act.put, List.setIfInBounds_toArray, List.set_cons_zero, List.set_cons_succ])
    refine wpAnyH_ready (rs := [3, 7]) (by kernel_rfl) (by simp) ?_
    refine AllReadyH.cons (o := { dst := some 15, op := Go.Op.call { callee := Go.Callee.value (Go.Operand.func 82), args := #[Go.Operand.tmp 12, Go.Operand.tmp 13, Go.Operand.tmp 14], argTypes := #[82, 82, 24] }, type := 82, pos := "ghash.go:86", after := #[{ on := 0, ground := Go.Ground.data }, { on := 1, ground := Go.Ground.data }, { on := 2, ground := Go.Ground.data }], guard := none }) rfl (fun K hK => ?_) ?_
    · skip
      go_simp
      (refine (HTH1.out _ hO_0).mono ?_; rintro e v_1 ⟨rfl, hb_1⟩; have hS_1 := SL.later hS_0 hb_1; have hZ_1 := Blk.below hZ_0 hb_1 (Blk.lt hZ_0); have hO_1 := Below.trans hO_0 (hb_1.mono hO_0.size); clear hS_0 hZ_0 hO_0; clear hb_1; skip)
      (try go_wp2_with fail)
      refine hK.out _ _ ?_ (fun hHeld => ?_)
      · (try dsimp only)
        first | assumption | (apply SL.drew; assumption)
      clear hK K
      (try simp only [Act.put, List.setIfInBounds_toArray, List.set_cons_zero, List.set_cons_succ])
      refine wpAnyH_ready (rs := [6, 7]) (by kernel_rfl) (by simp) ?_
      refine AllReadyH.cons (o := { dst := some 18, op := Go.Op.call { callee := Go.Callee.value (Go.Operand.func 82), args := #[Go.Operand.tmp 15, Go.Operand.tmp 16, Go.Operand.tmp 17], argTypes := #[82, 82, 24] }, type := 82, pos := "ghash.go:86", after := #[{ on := 3, ground := Go.Ground.data }, { on := 4, ground := Go.Ground.data }, { on := 5, ground := Go.Ground.data }, { on := 3, ground := Go.Ground.chain }], guard := none }) rfl (fun K hK => ?_) ?_
      · skip
        go_simp
        (refine (HTH2.out _ hO_1).mono ?_; rintro e v_2 ⟨rfl, hb_2⟩; have hS_2 := SL.later hS_1 hb_2; have hZ_2 := Blk.below hZ_1 hb_2 (Blk.lt hZ_1); have hO_2 := Below.trans hO_1 (hb_2.mono hO_1.size); clear hS_1 hZ_1 hO_1; clear hb_2; skip)
        (try go_wp2_with fail)
        refine hK.out _ _ ?_ (fun hHeld => ?_)
        · (try dsimp only)
          first | assumption | (apply SL.drew; assumption)
        clear hK K
        (try simp only [Act.put, List.setIfInBounds_toArray, List.set_cons_zero, List.set_cons_succ])
        refine wpAnyH_ready (rs := [7]) (by kernel_rfl) (by simp) ?_
        refine AllReadyH.cons (o := { dst := some 7, op := Go.Op.alloc 82, type := 0, pos := "ghash.go:86", after := #[], guard := none }) rfl (fun K hK => ?_) AllReadyH.nil
        go_simp
        (obtain ⟨v_3, hw_3⟩ : ∃ q, v_2.alloc (.cells zero16 82) = q := ⟨_, rfl⟩; rw [hw_3]; have hb_3 : Below v_2.heap.size v_2 v_3 := (by rw [← hw_3]; exact (Below.refl _ _).alloc (Nat.le_refl _) _); have hS_3 := SL.later hS_2 hb_3; have hZ_3 := Blk.below hZ_2 hb_3 (Blk.lt hZ_2); have hO_3 := Below.trans hO_2 (hb_3.mono hO_2.size); have hG_3 : Blk v_3 v_2.heap.size zero16 82 := (by rw [← hw_3]; exact Blk.new _ _ _); have HGL := Lib.hid (show w.heap.size + 1 < v_2.heap.size from Blk.lt hZ_2); clear hS_2 hZ_2 hO_2; clear hb_3 hw_3; skip)
        (try go_wp2_with fail)
        refine hK.out _ _ ?_ (fun hHeld => ?_)
        · (try dsimp only)
          first | assumption | (apply SL.drew; assumption)
        clear hK K
        (try simp only [Act.put, List.setIfInBounds_toArray, List.set_cons_zero, List.set_cons_succ])
        refine wpAnyH_ready (rs := [8]) (by kernel_rfl) (by simp) ?_
        refine AllReadyH.cons (o := { dst := none, op := Go.Op.store 82 (Go.Operand.tmp 7) (Go.Operand.tmp 18), type := 0, pos := "ghash.go:86", after := #[{ on := 7, ground := Go.Ground.data }, { on := 6, ground := Go.Ground.data }, { on := 6, ground := Go.Ground.chain }, { on := 0, ground := Go.Ground.phase }, { on := 1, ground := Go.Ground.phase }, { on := 2, ground := Go.Ground.phase }, { on := 3, ground := Go.Ground.phase }, { on := 4, ground := Go.Ground.phase }, { on := 5, ground := Go.Ground.phase }, { on := 6, ground := Go.Ground.phase }, { on := 7, ground := Go.Ground.phase }], guard := none }) rfl (fun K hK => ?_) AllReadyH.nil
        (refine step_store16 rfl (.tmp 7) (.tmp 18) rfl v_2.heap.size rfl T2 zero16 rfl hG_3 HFC.out HZC.out ?_; have hG_4 := Blk.store16 hG_3 HFC.out HZC.out; have hS_4 := SL.set hS_3 (Lib.hid (show ∀ p ∈ [(w.heap.size, D)], p.1 ≠ v_2.heap.size by have h7 := HGL.out; intro p hp; rcases List.mem_cons.1 hp with rfl | hp; (show w.heap.size ≠ _; omega); cases hp)).out T2.toList; have hZ_4 := (Own.setCells T2.toList 0 v_3).blk hZ_3 (Lib.hid (show w.heap.size + 1 ≠ v_2.heap.size by have h7 := HGL.out; omega)).out; have hO_4 := Below.set16 (g := v_2.heap.size) hO_3 (by have h7 := HGL.out; omega) hO_3.size T2.toList; obtain ⟨v_4, hw_4⟩ : ∃ q, (v_3.setCells v_2.heap.size 0 T2.toList) = q := ⟨_, rfl⟩; rw [hw_4] at hG_4 hS_4 hZ_4 hO_4 ⊢; clear hG_3 hS_3 hZ_3 hO_3 hw_4; skip)
        refine hK.out _ _ ?_ (fun hHeld => ?_)
        · (try dsimp only)
          first | assumption | (apply SL.drew; assumption)
        clear hK K
        (try simp only [Act.put, List.setIfInBounds_toArray, List.set_cons_zero, List.set_cons_succ])
        refine wpAnyH_done (by kernel_rfl) ?_ _
        go_wp2_with fail
        go_meet
        exact ⟨_, rfl, HGL.out, hG_4, hS_4.h0, hZ_4, hO_4⟩
      refine AllReadyH.cons (o := { dst := some 7, op := Go.Op.alloc 82, type := 0, pos := "ghash.go:86", after := #[], guard := none }) rfl (fun K hK => ?_) AllReadyH.nil
      go_simp
      (obtain ⟨v_5, hw_5⟩ : ∃ q, v_1.alloc (.cells zero16 82) = q := ⟨_, rfl⟩; rw [hw_5]; have hb_5 : Below v_1.heap.size v_1 v_5 := (by rw [← hw_5]; exact (Below.refl _ _).alloc (Nat.le_refl _) _); have hS_5 := SL.later hS_1 hb_5; have hZ_5 := Blk.below hZ_1 hb_5 (Blk.lt hZ_1); have hO_5 := Below.trans hO_1 (hb_5.mono hO_1.size); have hG_5 : Blk v_5 v_1.heap.size zero16 82 := (by rw [← hw_5]; exact Blk.new _ _ _); have HGL := Lib.hid (show w.heap.size + 1 < v_1.heap.size from Blk.lt hZ_1); clear hS_1 hZ_1 hO_1; clear hb_5 hw_5; skip)
      (try go_wp2_with fail)
      refine hK.out _ _ ?_ (fun hHeld => ?_)
      · (try dsimp only)
        first | assumption | (apply SL.drew; assumption)
      clear hK K
      (try simp only [Act.put, List.setIfInBounds_toArray, List.set_cons_zero, List.set_cons_succ])
      refine wpAnyH_ready (rs := [6]) (by kernel_rfl) (by simp) ?_
      refine AllReadyH.cons (o := { dst := some 18, op := Go.Op.call { callee := Go.Callee.value (Go.Operand.func 82), args := #[Go.Operand.tmp 15, Go.Operand.tmp 16, Go.Operand.tmp 17], argTypes := #[82, 82, 24] }, type := 82, pos := "ghash.go:86", after := #[{ on := 3, ground := Go.Ground.data }, { on := 4, ground := Go.Ground.data }, { on := 5, ground := Go.Ground.data }, { on := 3, ground := Go.Ground.chain }], guard := none }) rfl (fun K hK => ?_) AllReadyH.nil
      go_simp
      (refine (HTH2.out _ hO_5).mono ?_; rintro e v_6 ⟨rfl, hb_6⟩; have hS_6 := SL.later hS_5 hb_6; have hZ_6 := Blk.below hZ_5 hb_6 (Blk.lt hZ_5); have hG_6 := Blk.below hG_5 hb_6 (Blk.lt hG_5); have hO_6 := Below.trans hO_5 (hb_6.mono hO_5.size); clear hS_5 hZ_5 hG_5 hO_5; clear hb_6; skip)
      (try go_wp2_with fail)
      refine hK.out _ _ ?_ (fun hHeld => ?_)
      · (try dsimp only)
        first | assumption | (apply SL.drew; assumption)
      clear hK K
      (try simp only [Act.put, List.setIfInBounds_toArray, List.set_cons_zero, List.set_cons_succ])
      refine wpAnyH_ready (rs := [8]) (by kernel_rfl) (by simp) ?_
      refine AllReadyH.cons (o := { dst := none, op := Go.Op.store 82 (Go.Operand.tmp 7) (Go.Operand.tmp 18), type := 0, pos := "ghash.go:86", after := #[{ on := 7, ground := Go.Ground.data }, { on := 6, ground := Go.Ground.data }, { on := 6, ground := Go.Ground.chain }, { on := 0, ground := Go.Ground.phase }, { on := 1, ground := Go.Ground.phase }, { on := 2, ground := Go.Ground.phase }, { on := 3, ground := Go.Ground.phase }, { on := 4, ground := Go.Ground.phase }, { on := 5, ground := Go.Ground.phase }, { on := 6, ground := Go.Ground.phase }, { on := 7, ground := Go.Ground.phase }], guard := none }) rfl (fun K hK => ?_) AllReadyH.nil
      (refine step_store16 rfl (.tmp 7) (.tmp 18) rfl v_1.heap.size rfl T2 zero16 rfl hG_6 HFC.out HZC.out ?_; have hG_7 := Blk.store16 hG_6 HFC.out HZC.out; have hS_7 := SL.set hS_6 (Lib.hid (show ∀ p ∈ [(w.heap.size, D)], p.1 ≠ v_1.heap.size by have h7 := HGL.out; intro p hp; rcases List.mem_cons.1 hp with rfl | hp; (show w.heap.size ≠ _; omega); cases hp)).out T2.toList; have hZ_7 := (Own.setCells T2.toList 0 v_6).blk hZ_6 (Lib.hid (show w.heap.size + 1 ≠ v_1.heap.size by have h7 := HGL.out; omega)).out; have hO_7 := Below.set16 (g := v_1.heap.size) hO_6 (by have h7 := HGL.out; omega) hO_6.size T2.toList; obtain ⟨v_7, hw_7⟩ : ∃ q, (v_6.setCells v_1.heap.size 0 T2.toList) = q := ⟨_, rfl⟩; rw [hw_7] at hG_7 hS_7 hZ_7 hO_7 ⊢; clear hG_6 hS_6 hZ_6 hO_6 hw_7; skip)
      refine hK.out _ _ ?_ (fun hHeld => ?_)
      · (try dsimp only)
        first | assumption | (apply SL.drew; assumption)
      clear hK K
      (try simp only [Act.put, List.setIfInBounds_toArray, List.set_cons_zero, List.set_cons_succ])
      refine wpAnyH_done (by kernel_rfl) ?_ _
      go_wp2_with fail
      go_meet
      exact ⟨_, rfl, HGL.out, hG_7, hS_7.h0, hZ_7, hO_7⟩
    refine AllReadyH.cons (o := { dst := some 7, op := Go.Op.alloc 82, type := 0, pos := "ghash.go:86", after := #[], guard := none }) rfl (fun K hK => ?_) AllReadyH.nil
    go_simp
    (obtain ⟨v_8, hw_8⟩ : ∃ q, W0.alloc (.cells zero16 82) = q := ⟨_, rfl⟩; rw [hw_8]; have hb_8 : Below W0.heap.size W0 v_8 := (by rw [← hw_8]; exact (Below.refl _ _).alloc (Nat.le_refl _) _); have hS_8 := SL.later hS_0 hb_8; have hZ_8 := Blk.below hZ_0 hb_8 (Blk.lt hZ_0); have hO_8 := Below.trans hO_0 (hb_8.mono hO_0.size); have hG_8 : Blk v_8 W0.heap.size zero16 82 := (by rw [← hw_8]; exact Blk.new _ _ _); have HGL := Lib.hid (show w.heap.size + 1 < W0.heap.size from Blk.lt hZ_0); clear hS_0 hZ_0 hO_0; clear hb_8 hw_8; skip)
    (try go_wp2_with fail)
    refine hK.out _ _ ?_ (fun hHeld => ?_)
    · (try dsimp only)
      first | assumption | (apply SL.drew; assumption)
    clear hK K
    (try simp only [Act.put, List.setIfInBounds_toArray, List.set_cons_zero, List.set_cons_succ])
    refine wpAnyH_ready (rs := [3]) (by kernel_rfl) (by simp) ?_
    refine AllReadyH.cons (o := { dst := some 15, op := Go.Op.call { callee := Go.Callee.value (Go.Operand.func 82), args := #[Go.Operand.tmp 12, Go.Operand.tmp 13, Go.Operand.tmp 14], argTypes := #[82, 82, 24] }, type := 82, pos := "ghash.go:86", after := #[{ on := 0, ground := Go.Ground.data }, { on := 1, ground := Go.Ground.data }, { on := 2, ground := Go.Ground.data }], guard := none }) rfl (fun K hK => ?_) AllReadyH.nil
    go_simp
    (refine (HTH1.out _ hO_8).mono ?_; rintro e v_9 ⟨rfl, hb_9⟩; have hS_9 := SL.later hS_8 hb_9; have hZ_9 := Blk.below hZ_8 hb_9 (Blk.lt hZ_8); have hG_9 := Blk.below hG_8 hb_9 (Blk.lt hG_8); have hO_9 := Below.trans hO_8 (hb_9.mono hO_8.size); clear hS_8 hZ_8 hG_8 hO_8; clear hb_9; skip)
    (try go_wp2_with fail)
    refine hK.out _ _ ?_ (fun hHeld => ?_)
    · (try dsimp only)
      first | assumption | (apply SL.drew; assumption)
    clear hK K
    (try simp only [Act.put, List.setIfInBounds_toArray, List.set_cons_zero, List.set_cons_succ])
    refine wpAnyH_ready (rs := [6]) (by kernel_rfl) (by simp) ?_
    refine AllReadyH.cons (o := { dst := some 18, op := Go.Op.call { callee := Go.Callee.value (Go.Operand.func 82), args := #[Go.Operand.tmp 15, Go.Operand.tmp 16, Go.Operand.tmp 17], argTypes := #[82, 82, 24] }, type := 82, pos := "ghash.go:86", after := #[{ on := 3, ground := Go.Ground.data }, { on := 4, ground := Go.Ground.data }, { on := 5, ground := Go.Ground.data }, { on := 3, ground := Go.Ground.chain }], guard := none }) rfl (fun K hK => ?_) AllReadyH.nil
    go_simp
    (refine (HTH2.out _ hO_9).mono ?_; rintro e v_10 ⟨rfl, hb_10⟩; have hS_10 := SL.later hS_9 hb_10; have hZ_10 := Blk.below hZ_9 hb_10 (Blk.lt hZ_9); have hG_10 := Blk.below hG_9 hb_10 (Blk.lt hG_9); have hO_10 := Below.trans hO_9 (hb_10.mono hO_9.size); clear hS_9 hZ_9 hG_9 hO_9; clear hb_10; skip)
    (try go_wp2_with fail)
    refine hK.out _ _ ?_ (fun hHeld => ?_)
    · (try dsimp only)
      first | assumption | (apply SL.drew; assumption)
    clear hK K
    (try simp only [Act.put, List.setIfInBounds_toArray, List.set_cons_zero, List.set_cons_succ])
    refine wpAnyH_ready (rs := [8]) (by kernel_rfl) (by simp) ?_
    refine AllReadyH.cons (o := { dst := none, op := Go.Op.store 82 (Go.Operand.tmp 7) (Go.Operand.tmp 18), type := 0, pos := "ghash.go:86", after := #[{ on := 7, ground := Go.Ground.data }, { on := 6, ground := Go.Ground.data }, { on := 6, ground := Go.Ground.chain }, { on := 0, ground := Go.Ground.phase }, { on := 1, ground := Go.Ground.phase }, { on := 2, ground := Go.Ground.phase }, { on := 3, ground := Go.Ground.phase }, { on := 4, ground := Go.Ground.phase }, { on := 5, ground := Go.Ground.phase }, { on := 6, ground := Go.Ground.phase }, { on := 7, ground := Go.Ground.phase }], guard := none }) rfl (fun K hK => ?_) AllReadyH.nil
    (refine step_store16 rfl (.tmp 7) (.tmp 18) rfl W0.heap.size rfl T2 zero16 rfl hG_10 HFC.out HZC.out ?_; have hG_11 := Blk.store16 hG_10 HFC.out HZC.out; have hS_11 := SL.set hS_10 (Lib.hid (show ∀ p ∈ [(w.heap.size, D)], p.1 ≠ W0.heap.size by have h7 := HGL.out; intro p hp; rcases List.mem_cons.1 hp with rfl | hp; (show w.heap.size ≠ _; omega); cases hp)).out T2.toList; have hZ_11 := (Own.setCells T2.toList 0 v_10).blk hZ_10 (Lib.hid (show w.heap.size + 1 ≠ W0.heap.size by have h7 := HGL.out; omega)).out; have hO_11 := Below.set16 (g := W0.heap.size) hO_10 (by have h7 := HGL.out; omega) hO_10.size T2.toList; obtain ⟨v_11, hw_11⟩ : ∃ q, (v_10.setCells W0.heap.size 0 T2.toList) = q := ⟨_, rfl⟩; rw [hw_11] at hG_11 hS_11 hZ_11 hO_11 ⊢; clear hG_10 hS_10 hZ_10 hO_10 hw_11; skip)
    refine hK.out _ _ ?_ (fun hHeld => ?_)
    · (try dsimp only)
      first | assumption | (apply SL.drew; assumption)
    clear hK K
    (try simp only [Act.put, List.setIfInBounds_toArray, List.set_cons_zero, List.set_cons_succ])
    refine wpAnyH_done (by kernel_rfl) ?_ _
    go_wp2_with fail
    go_meet
    exact ⟨_, rfl, HGL.out, hG_11, hS_11.h0, hZ_11, hO_11⟩
  case rest =>
    obtain ⟨q, rfl, hq, hF, hDD, hZ, hO⟩ := hcut
    have HT1 : Hid (∀ wz, wc.alloc (.cells zero16 82) = wz → HI1 w D T2 (n * 8) (m * 8) q wc.heap.size 0 wz) := Lib.hid fun wz e => by
      rw [← e]
      refine ⟨hF.alloc _, hDD.alloc _, hZ.alloc _, ?_, hO.alloc hO.size _⟩
      refine B16.congr (f := fun _ => 0) ?_ fun i _ => (if_neg (Nat.not_lt_zero _)).symm
      exact Blk.new wc zero16 82
    have HQ := Lib.hid hq
    have HQZ : Hid (q < wc.heap.size) := Lib.hid (Blk.lt hF)
    clear hF hDD hZ hO hq
    go_wp2_with fail
    clear hz
    go_loopw [27] (fun i wr => ∃ k : Nat, k ≤ 8 ∧ i = .int .i64 (k : Int) ∧ HI1 w D T2 (n * 8) (m * 8) q wc.heap.size k wr) (fun i _ => 8 - (intOf i).toNat)
    case atStart => exact ⟨0, Nat.zero_le _, rfl, HT1.out _ rfl⟩
    case round =>
      obtain ⟨k, hk, rfl, hT⟩ := hrel
      by_cases hlt : k < 8
      · obtain ⟨hF, hDD, hZ, hL, hO⟩ := hT
        have z0 : wr.cell? ⟨wc.heap.size, k, none⟩ = some (.int .u8 0) := by
          have := hL.cell (show k < 16 by omega); rw [if_neg (by omega)] at this; exact this
        have z1 : wr.cell? ⟨wc.heap.size, 8 + k, none⟩ = some (.int .u8 0) := by
          have := hL.cell (show 8 + k < 16 by omega); rw [if_neg (by omega)] at this; exact this
        have f0 : wr.frozen? ⟨wc.heap.size, k, none⟩ = false := Blk.free hL _
        have f1 : wr.frozen? ⟨wc.heap.size, 8 + k, none⟩ = false := Blk.free hL _
        have n1' : IntKind.u8.wrap ((n : Int) * 8 / (2 : Int) ^ (56 - 8 * k)) = ((numB (n * 8) 8 k : Nat) : Int) := by
          have := numB_shift (n * 8) k hlt
          rw [show ((n * 8 : Nat) : Int) = (n : Int) * 8 by omega] at this; exact this
        have n2' : IntKind.u8.wrap ((m : Int) * 8 / (2 : Int) ^ (56 - 8 * k)) = ((numB (m * 8) 8 k : Nat) : Int) := by
          have := numB_shift (m * 8) k hlt
          rw [show ((m * 8 : Nat) : Int) = (m : Int) * 8 by omega] at this; exact this
        have k0 : (0 : Int) ≤ (k : Int) := by omega
        have k1 : (k : Int) < 8 := by omega
        have hq1 := HQ.out
        have hq2 := HQZ.out
        have HN := Lib.hid (show HI1 w D T2 (n * 8) (m * 8) q wc.heap.size (k + 1) ((wr.setCell ⟨wc.heap.size, k, none⟩ (.int .u8 (numB (n * 8) 8 k : Nat))).setCell ⟨wc.heap.size, 8 + k, none⟩ (.int .u8 (numB (m * 8) 8 k : Nat))) by
          refine ⟨Blk.set_other (Blk.set_other hF (by simp; omega) _) (by simp; omega) _, Blk.set_other (Blk.set_other hDD (by simp; omega) _) (by simp; omega) _, Blk.set_other (Blk.set_other hZ (by simp; omega) _) (by simp; omega) _, B16.congr ((hL.set k (numB (n * 8) 8 k)).set (8 + k) (numB (m * 8) 8 k)) fun i hi => ?_, (hO.setCell (by simp; omega) _).setCell (by simp; omega) _⟩
          unfold upd
          by_cases e : i = 8 + k
          · subst e; rw [if_pos rfl]
            show _ = if (8 + k) % 8 < k + 1 then blkF (n * 8) (m * 8) (8 + k) else 0
            rw [if_pos (by omega)]; unfold blkF; rw [if_neg (by omega), show 8 + k - 8 = k by omega]
          · rw [if_neg e]
            by_cases e' : i = k
            · subst e'; rw [if_pos rfl]
              show _ = if i % 8 < i + 1 then blkF (n * 8) (m * 8) i else 0
              rw [if_pos (by omega)]; unfold blkF; rw [if_pos hlt]
            · rw [if_neg e']
              show (if i % 8 < k then blkF (n * 8) (m * 8) i else 0) = if i % 8 < k + 1 then blkF (n * 8) (m * 8) i else 0
              by_cases h5 : i % 8 < k
              · rw [if_pos h5, if_pos (by omega)]
              · rw [if_neg h5, if_neg (by omega)])
        clear hF hDD hZ hL hO hq1 hq2
        generalize (n : Int) * 8 = a8 at *
        generalize (m : Int) * 8 = b8 at *
        generalize numB (n * 8) 8 k = u at *
        generalize numB (m * 8) 8 k = v at *
        rcases (show k = 0 ∨ k = 1 ∨ k = 2 ∨ k = 3 ∨ k = 4 ∨ k = 5 ∨ k = 6 ∨ k = 7 by omega) with rfl | rfl | rfl | rfl | rfl | rfl | rfl | rfl
        all_goals
          simp at z0 z1 f0 f1
          simp at n1' n2'
          go_wp2_with fail
          go_roundw
          case rel => first | exact ⟨1, by omega, rfl, HN.out⟩ | exact ⟨2, by omega, rfl, HN.out⟩ | exact ⟨3, by omega, rfl, HN.out⟩ | exact ⟨4, by omega, rfl, HN.out⟩ | exact ⟨5, by omega, rfl, HN.out⟩ | exact ⟨6, by omega, rfl, HN.out⟩ | exact ⟨7, by omega, rfl, HN.out⟩ | exact ⟨8, by omega, rfl, HN.out⟩
          case measure => simp [intOf]
      · obtain rfl : k = 8 := by omega
        obtain ⟨hF, hDD, hZ, hL, hO⟩ := hT
        have hL' : B16 wr wc.heap.size (blkF (n * 8) (m * 8)) := hL.congr fun i hi => if_pos (Nat.mod_lt _ (by decide))
        obtain ⟨E, hE⟩ : ∃ E, (rowC 16 (blkF (n * 8) (m * 8))).toArray = E := ⟨_, rfl⟩
        obtain ⟨A3, hA3⟩ : ∃ E, (rowC 16 (addF (twoF y f n g m) (blkF (n * 8) (m * 8)))).toArray = E := ⟨_, rfl⟩
        obtain ⟨M, hM3⟩ : ∃ E, (rowC 16 (hashF y f n g m)).toArray = E := ⟨_, rfl⟩
        have htl : ∀ i, i < 16 → twoF y f n g m i < 256 := thrF_lt (thrF_lt (fun _ _ => Nat.zero_lt_succ _) _) _
        have hcl2 : ∀ i, i < 16 → blkF (n * 8) (m * 8) i < 256 := fun i _ => blkF_lt _ _ i
        have HADD : Hid (∀ w, Calls Tryz.prog 58 #[.agg T2, .agg E] w fun e w' => e = .returned (.agg A3) ∧ Below w.heap.size w w') := Lib.hid fun w => by
          rw [← HT.out, ← hE, ← hA3]; exact gadd_any _ _ w htl hcl2
        have HMUL : Hid (∀ w, Calls Tryz.prog 83 #[.agg A3, .agg D] w fun e w' => e = .returned (.agg M) ∧ Below w.heap.size w w') := Lib.hid fun w => by
          rw [← HD.out, ← hA3, ← hM3]; exact gmul_any _ _ w (addF_lt htl hcl2) HY.out
        have HIT : Hid ((Tryz.prog.info? 82).map (·.size) = some T2.size) := Lib.hid (HT.out ▸ info16 _)
        have HIE : Hid ((Tryz.prog.info? 82).map (·.size) = some E.size) := Lib.hid (hE ▸ info16 _)
        have HIM : Hid ((Tryz.prog.info? 82).map (·.size) = some M.size) := Lib.hid (hM3 ▸ info16 _)
        have HM5 : Hid (∃ f, M = (rowC 16 f).toArray) := Lib.hid ⟨_, hM3.symm⟩
        have HM6 := Lib.hid hM3
        have hq1 := HQ.out
        have hq2 := HQZ.out
        have HNE : Hid (∀ p ∈ [(q, T2), (wc.heap.size, E), (w.heap.size, D)], p.1 ≠ w.heap.size + 1) := Lib.hid (by
          intro p hp
          rcases List.mem_cons.1 hp with rfl | hp
          · show q ≠ _; omega
          · rcases List.mem_cons.1 hp with rfl | hp
            · show wc.heap.size ≠ _; omega
            · rcases List.mem_cons.1 hp with rfl | hp
              · show w.heap.size ≠ _; omega
              · cases hp)
        have hL2 : Blk wr wc.heap.size E 82 := hE ▸ hL'
        have hS : SL [(q, T2), (wc.heap.size, E), (w.heap.size, D)] wr := SL.cons hF (SL.cons hL2 (SL.cons hDD (SL.nil _)))
        clear hF hDD hL hL' hL2 hE hA3 hM3 htl hcl2 hq1 hq2 HT1 hlt hk HTH1 HTH2
        have HS0 := Lib.hid hS
        have HZ0 := Lib.hid hZ
        have HO0 := Lib.hid hO
        clear hS hZ hO
        go_wp2_with fail
        have hS_0 := HS0.out.drew
        have hZ_0 := Blk.drew HZ0.out
        have hO_0 := HO0.out.drew
        clear HS0 HZ0 HO0
        refine wp_region_held_drew (S := (SL [(q, T2), (wc.heap.size, E), (w.heap.size, D)])) (by kernel_rfl) ?_ (fun hHeld => ?_)
        · (try dsimp only)
          first | assumption | (apply SL.drew; assumption)
        generalize wr.drew = w5 at *
        refine wpAnyH_take (i := 0) (oi := { dst := some 48, op := Go.Op.load 82 (Go.Operand.tmp 7), type := 82, pos := "ghash.go:93", after := #[], guard := none }) (v := ?_) rfl (by kernel_rfl) (by kernel_rfl) (by kernel_rfl) (fun _ _ _ h => h) (Or.inl ⟨by rfl, ?_⟩) (by assumption) ?_
        rotate_left
        · intro wS hSw
          refine exec_load16 (x := .tmp 7) ?_ ?_ (ld16 hSw.h0 HIT.out) <;> rfl
        (try simp only [Act.put, List.setIfInBounds_toArray, List.set_cons_zero, List.set_cons_succ])
        refine wpAnyH_take (i := 1) (oi := { dst := some 49, op := Go.Op.load 82 (Go.Operand.tmp 10), type := 82, pos := "ghash.go:93", after := #[], guard := none }) (v := ?_) rfl (by kernel_rfl) (by kernel_rfl) (by kernel_rfl) (fun _ _ _ h => h) (Or.inl ⟨by rfl, ?_⟩) (by assumption) ?_
        rotate_left
        · intro wS hSw
          refine exec_load16 (x := .tmp 10) ?_ ?_ (ld16 hSw.tl.h0 HIE.out) <;> rfl
        (try simp only [Act.put, List.setIfInBounds_toArray, List.set_cons_zero, List.set_cons_succ])
        refine wpAnyH_take (i := 3) (oi := { dst := some 51, op := Go.Op.load 82 (Go.Operand.tmp 3), type := 82, pos := "ghash.go:93", after := #[], guard := none }) (v := ?_) rfl (by kernel_rfl) (by kernel_rfl) (by kernel_rfl) (fun _ _ _ h => h) (Or.inl ⟨by rfl, ?_⟩) (by assumption) ?_
        rotate_left
        · intro wS hSw
          refine exec_load16 (x := .tmp 3) ?_ ?_ (ld16 hSw.tl.tl.h0 HID.out) <;> rfl
        (try simp only [Act.put, List.setIfInBounds_toArray, List.set_cons_zero, List.set_cons_succ])
        refine wpAnyH_ready (rs := [2]) (by kernel_rfl) (by simp) ?_
        refine AllReadyH.cons (o := { dst := some 50, op := Go.Op.call { callee := Go.Callee.value (Go.Operand.func 58), args := #[Go.Operand.tmp 48, Go.Operand.tmp 49], argTypes := #[82, 82] }, type := 82, pos := "ghash.go:93", after := #[{ on := 0, ground := Go.Ground.data }, { on := 1, ground := Go.Ground.data }], guard := none }) rfl (fun K hK => ?_) AllReadyH.nil
        go_simp
        (refine (HADD.out _).mono ?_; rintro e v_12 ⟨rfl, hb_12⟩; have hS_12 := SL.later hS_0 hb_12; have hZ_12 := Blk.below hZ_0 hb_12 (Blk.lt hZ_0); have hO_12 := Below.trans hO_0 (hb_12.mono hO_0.size); clear hS_0 hZ_0 hO_0; clear hb_12; skip)
        (try go_wp2_with fail)
        refine hK.out _ _ ?_ (fun hHeld => ?_)
        · (try dsimp only)
          first | assumption | (apply SL.drew; assumption)
        clear hK K
        (try simp only [Act.put, List.setIfInBounds_toArray, List.set_cons_zero, List.set_cons_succ])
        refine wpAnyH_ready (rs := [4]) (by kernel_rfl) (by simp) ?_
        refine AllReadyH.cons (o := { dst := some 52, op := Go.Op.call { callee := Go.Callee.value (Go.Operand.func 83), args := #[Go.Operand.tmp 50, Go.Operand.tmp 51], argTypes := #[82, 82] }, type := 82, pos := "ghash.go:93", after := #[{ on := 2, ground := Go.Ground.data }, { on := 3, ground := Go.Ground.data }, { on := 2, ground := Go.Ground.chain }], guard := none }) rfl (fun K hK => ?_) AllReadyH.nil
        go_simp
        (refine (HMUL.out _).mono ?_; rintro e v_13 ⟨rfl, hb_13⟩; have hS_13 := SL.later hS_12 hb_13; have hZ_13 := Blk.below hZ_12 hb_13 (Blk.lt hZ_12); have hO_13 := Below.trans hO_12 (hb_13.mono hO_12.size); clear hS_12 hZ_12 hO_12; clear hb_13; skip)
        (try go_wp2_with fail)
        refine hK.out _ _ ?_ (fun hHeld => ?_)
        · (try dsimp only)
          first | assumption | (apply SL.drew; assumption)
        clear hK K
        (try simp only [Act.put, List.setIfInBounds_toArray, List.set_cons_zero, List.set_cons_succ])
        refine wpAnyH_ready (rs := [5]) (by kernel_rfl) (by simp) ?_
        refine AllReadyH.cons (o := { dst := none, op := Go.Op.store 82 (Go.Operand.tmp 6) (Go.Operand.tmp 52), type := 0, pos := "ghash.go:93", after := #[{ on := 4, ground := Go.Ground.data }, { on := 4, ground := Go.Ground.chain }, { on := 0, ground := Go.Ground.phase }, { on := 1, ground := Go.Ground.phase }, { on := 2, ground := Go.Ground.phase }, { on := 3, ground := Go.Ground.phase }, { on := 4, ground := Go.Ground.phase }], guard := none }) rfl (fun K hK => ?_) AllReadyH.nil
        (refine step_store16 rfl (.tmp 6) (.tmp 52) rfl (w.heap.size + 1) rfl M zero16 rfl hZ_13 HM5.out HZC.out ?_; have hZ_14 := Blk.store16 hZ_13 HM5.out HZC.out; have hS_14 := SL.set hS_13 HNE.out M.toList; have hO_14 := Below.set16 (g := (w.heap.size + 1)) hO_13 (by omega) hO_13.size M.toList; obtain ⟨v_14, hw_14⟩ : ∃ q, (v_13.setCells (w.heap.size + 1) 0 M.toList) = q := ⟨_, rfl⟩; rw [hw_14] at hZ_14 hS_14 hO_14 ⊢; clear hZ_13 hS_13 hO_13 hw_14; skip)
        refine hK.out _ _ ?_ (fun hHeld => ?_)
        · (try dsimp only)
          first | assumption | (apply SL.drew; assumption)
        clear hK K
        (try simp only [Act.put, List.setIfInBounds_toArray, List.set_cons_zero, List.set_cons_succ])
        refine wpAnyH_done (by kernel_rfl) ?_ _
        have HX9 := Lib.hid hZ_14
        have HO9 := Lib.hid hO_14
        clear hS_14 hZ_14 hO_14
        go_wp2_with fail
        refine bodyPost_ret (v := .agg M) ?_ rfl ⟨by rw [HM6.out], HO9.out⟩
        exact results_cell_row Tryz.results59 _ _ (w.heap.size + 1) 82 M (0, 0) _ rfl HX9.out Tryz.underlying82 rfl HIM.out
end Go.Proofs.YtncfocjmdecapaaGreatDoor
