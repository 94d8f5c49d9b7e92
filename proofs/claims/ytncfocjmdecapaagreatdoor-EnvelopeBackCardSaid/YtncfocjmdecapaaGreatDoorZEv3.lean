/- Rings opened. -/
import Derived.Deep.RegionHeld3
import Derived.Test.YtncfocjmdecapaaGreatDoorZB0
import Derived.Test.YtncfocjmdecapaaGreatDoorZS1
import Derived.Test.YtncfocjmdecapaaGreatDoorZS2
import Derived.Test.YtncfocjmdecapaaGreatDoorZSh4
import Derived.Test.YtncfocjmdecapaaGreatDoorZA0
import Derived.Test.YtncfocjmdecapaaGreatDoorZS5
import Derived.Test.YtncfocjmdecapaaGreatDoorZSh7
import Derived.Test.YtncfocjmdecapaaGreatDoorZS8
import Derived.Test.YtncfocjmdecapaaGreatDoorZHm2
import Derived.Test.YtncfocjmdecapaaGreatDoorZAs
import Derived.Test.YtncfocjmdecapaaGreatDoorZR0
import Derived.Test.YtncfocjmdecapaaGreatDoorZK0
import Derived.Test.YtncfocjmdecapaaGreatDoorZK1
import Derived.Test.YtncfocjmdecapaaGreatDoorZK4
import Derived.Test.YtncfocjmdecapaaGreatDoorZKr5
import Derived.Test.YtncfocjmdecapaaGreatDoorZF1
import Derived.Test.YtncfocjmdecapaaGreatDoorZF2
import Derived.Test.YtncfocjmdecapaaGreatDoorZB16
import Derived.Test.YtncfocjmdecapaaGreatDoorZAe1
import Derived.Test.YtncfocjmdecapaaGreatDoorZAe2
import Derived.Test.YtncfocjmdecapaaGreatDoorZAe4
import Derived.Test.YtncfocjmdecapaaGreatDoorZQ0
import Derived.Test.YtncfocjmdecapaaGreatDoorZC0
import Derived.Test.YtncfocjmdecapaaGreatDoorZC2
import Derived.Test.YtncfocjmdecapaaGreatDoorZGc5
import Derived.Test.YtncfocjmdecapaaGreatDoorZC6
import Derived.Test.YtncfocjmdecapaaGreatDoorZV1
import Derived.Test.YtncfocjmdecapaaGreatDoorZK6
import Derived.Test.YtncfocjmdecapaaGreatDoorZEv2
namespace Go.Proofs.YtncfocjmdecapaaGreatDoor
set_option linter.unusedVariables false
set_option linter.unusedSimpArgs false
open Go.RowKit
theorem step_bsN {ops : Array Oper} {o : Oper} {a : Act} {w : World} {K : Act → World → Prop} {Q : Exit → Act → World → Prop} {E : Prop} {n : Nat} (hw : Region.wanted o (yielded ops a.tmps) = true) (parts : Array (Nat × Operand)) (ps : Array (Nat × Value)) (C : Array Value) (ho : o.op = .buildSlice 24 n parts) (hp : (parts.map fun (i, x) => (i, a.eval x)) = ps)
    (h : ∀ w, (Instr.buildSlice 24 n ps).run Tryz.prog w = .ok (.slice (some ⟨w.heap.size, 0, none⟩) n n) (w.alloc (.cells C 5)))
    (hk : K (a.put o.dst (.slice (some ⟨w.heap.size, 0, none⟩) n n)) (w.alloc (.cells C 5))) : if Region.wanted o (yielded ops a.tmps) = true then Oper.wp Tryz.prog o a w K Q else E := by
  rw [if_pos hw]
  unfold Oper.wp execOp
  simp only [ho, hp, h, Sem.run_bind, Result.andThen_ok]
  exact hk
theorem bs9_run (w : World) : (Instr.buildSlice 24 9 #[(0, .int .u8 99), (1, .int .u8 111), (2, .int .u8 114), (3, .int .u8 101), (4, .int .u8 47), (5, .int .u8 114), (6, .int .u8 105), (7, .int .u8 110), (8, .int .u8 103)]).run Tryz.prog w = .ok (.slice (some ⟨w.heap.size, 0, none⟩) 9 9) (w.alloc (.cells (rowC 9 beR).toArray 5)) := by kernel_rfl
/-- What a box of a ring holds. -/
def rdF (K Q : Nat → Nat) : Nat → Nat := cphF (ekW K sR 0) Q (fun i => Q (12 + i))
def rtB (K Q : Nat → Nat) (en : Nat) : Bool := eqF (tgF (ekW K sR 0) Q beR 9 (fun i => Q (12 + i)) en) (fun i => Q (12 + (en + i)))
/-- What OpenRing answers. -/
def ROpen (K Q : Nat → Nat) (en : Nat) (w : World) (e : Ending) (w' : World) : Prop := Below w.heap.size w w' ∧
  (((rtB K Q en = true ∧ IsRing en (rdF K Q)) ∧ ∃ o c, e = .returned (.tuple #[.agg #[.slice o (rdF K Q 2) c], .nilIface]) ∧ TL w' o (rdF K Q 2) (fun i => i + 1) (fun i j => rdF K Q (3 + 32 * i + j))) ∨
   (¬ (rtB K Q en = true ∧ IsRing en (rdF K Q)) ∧ e = .returned (.tuple #[.agg #[.slice none 0 0], .iface 53 (.int .i64 11)])))
theorem ROpen.no {K Q : Nat → Nat} {en : Nat} {w w' : World} (h : ¬ (rtB K Q en = true ∧ IsRing en (rdF K Q))) (hb : Below w.heap.size w w') : ROpen K Q en w (.returned (.tuple #[.agg #[.slice none 0 0], .iface 53 (.int .i64 11)])) w' := ⟨hb, .inr ⟨h, rfl⟩⟩
theorem ROpen.ok {K Q : Nat → Nat} {en c : Nat} {o : Option Addr} {w w' : World} (h : rtB K Q en = true ∧ IsRing en (rdF K Q)) (hT : TL w' o (rdF K Q 2) (fun i => i + 1) (fun i j => rdF K Q (3 + 32 * i + j))) (hb : Below w.heap.size w w') : ROpen K Q en w (.returned (.tuple #[.agg #[.slice o (rdF K Q 2) c], .nilIface])) w' := ⟨hb, .inl ⟨h, o, c, rfl, hT⟩⟩
set_option maxRecDepth 100000 in
set_option maxHeartbeats 4000000 in
theorem openring_any (oa : Option Addr) (bo oo cn m cm en : Nat) (K Q : Nat → Nat) (w : World) (hb : Bytes w oa 32 K) (hr : Bytes w (some ⟨bo, oo, none⟩) m Q) (hnc : 32 ≤ cn) (hm : m = 12 + (en + 16)) (hmc : m ≤ cm) (hmm : cm ≤ maxLen) (hen : en ≤ 2000) (hg : GV w) :
    Calls Tryz.prog 9 #[.slice oa 32 cn, .slice (some ⟨bo, oo, none⟩) m cm] w (ROpen K Q en w) := by
  obtain ⟨b4, hb4⟩ : ∃ q, w.heap.size = q := ⟨_, rfl⟩
  obtain ⟨w0, hw0⟩ : ∃ q, w.alloc (.cells #[.slice none 0 0] 32) = q := ⟨_, rfl⟩
  have hb0 : Below w.heap.size w w0 := by rw [← hw0]; exact (Below.refl _ _).alloc (Nat.le_refl _) _
  have hZ0 : Blk w0 b4 #[.slice none 0 0] 32 := by rw [← hw0, ← hb4]; exact Blk.new _ _ _
  have HGE : Hid (w.heap.size ≤ b4) := Lib.hid (Nat.le_of_eq hb4)
  have HC := Lib.hid (sealer_any oa cn K sR 0 w0 (hb.later hb0) hnc (by decide) (by decide) (by decide) (hg.later hb0))
  have HR := Lib.hid hr
  have HEN := Lib.hid hen
  have HB0 := Lib.hid hb0
  have HZ0 := Lib.hid hZ0
  have HBL : Hid (bo < w.heap.size) := Lib.hid (hr.lt _ rfl (by omega))
  have HM := Lib.hid (And.intro hm (And.intro hmc hmm))
  obtain ⟨D, hD⟩ : ∃ q, rdF K Q = q := ⟨_, rfl⟩
  obtain ⟨T, hT⟩ : ∃ q, rtB K Q en = q := ⟨_, rfl⟩
  have HD := Lib.hid hD
  have HT := Lib.hid hT
  have HDL : Hid (∀ i, i < en → D i < 256) := Lib.hid fun i hi => by rw [← hD]; exact cphF_lt (n := en) (fun i hi => (hr i (by omega)).1) (fun i hi => (hr (12 + i) (by omega)).1) i hi
  have g1 : ¬ (m : Int) < (28 : Int) := by omega
  have g2 : decide ((m : Int) < (28 : Int)) = false := decide_eq_false g1
  have g7 : ¬ m < 28 := by omega
  have g8 : decide (m < 28) = false := decide_eq_false g7
  have i1 : (12 : Int) ≤ (cm : Int) := by omega
  have i2 : (12 : Int) ≤ (m : Int) := by omega
  have i3 : (m : Int) ≤ (cm : Int) := by omega
  have i4 : ¬ cm = 12 := by omega
  clear hb0 hZ0 hb hr hnc hm hmc hmm hen hg hD hT
  go_enter Tryz.func9, Tryz.ntmps9
  go_wp2_with fail
  refine HC.out.mono ?_
  rintro e w1 ⟨g, kb, bx, rfl, hGS⟩
  have HGS := Lib.hid hGS
  clear hGS HC
  go_upto_region 8 with fail
  have hd := (Below.refl w1.heap.size w1).drew
  have HBD : Hid (Below w.heap.size w w1.drew) := Lib.hid ((HB0.out.trans (HGS.out.2.1.mono HB0.out.size)).trans (hd.mono (Nat.le_trans HB0.out.size HGS.out.2.1.size)))
  have HKD : Hid (KG w1.drew g kb bx (ekW K sR 0)) := Lib.hid (HGS.out.1.below hd)
  have HZD : Hid (Blk w1.drew b4 #[.slice none 0 0] 32) := Lib.hid (Blk.below (Blk.below HZ0.out HGS.out.2.1 (Blk.lt HZ0.out)) hd (by have h9 := Blk.lt HZ0.out; have := HGS.out.2.1.size; omega))
  have HNX : Hid (b4 ≠ bx ∧ w.heap.size ≤ bx ∧ bx < w1.drew.heap.size) := Lib.hid ⟨by have h9 := Blk.lt HZ0.out; have := HGS.out.2.2.1; omega, Nat.le_trans HB0.out.size HGS.out.2.2.1, HKD.out.lt.2.2⟩
  have HOP : Hid (∀ (A : World) (g5 : Nat), Below w1.drew.heap.size w1.drew A → w1.drew.heap.size = g5 → Bytes A (some ⟨g5, 0, none⟩) 9 beR → Calls Tryz.prog 21 #[.pointer (some ⟨g, 0, none⟩), .slice (some ⟨bo, oo, none⟩) 12 cm, .slice (some ⟨bo, oo + 12, none⟩) (m - 12) (cm - 12), .slice (some ⟨g5, 0, none⟩) 9 9] A fun e w' => ∃ v ev, e = .returned (.tuple #[v, ev]) ∧ Blk w' b4 #[.slice none 0 0] 32 ∧
      ((Below w.heap.size w w' ∧ T = true ∧ ∃ B, ev = .nilIface ∧ Grow w' B v en D ∧ w.heap.size ≤ B) ∨ (Below w.heap.size w w' ∧ T = false ∧ v = .slice none 0 0 ∧ ev = .iface 53 (.int .i64 11)))) := Lib.hid fun A g5 hA hg5 hB5 => by
    have hbA : Below w.heap.size w A := HBD.out.trans (hA.mono HBD.out.size)
    have hRA := HR.out.later hbA
    have hZA := Blk.below HZD.out hA (Blk.lt HZD.out)
    have hm := HM.out
    rw [show m - 12 = en + 16 by omega]
    refine (open_any g kb bx (ekW K sR 0) Q (fun i => Q (12 + i)) beR en 9 bo (oo + 12) (some ⟨bo, oo, none⟩) (some ⟨g5, 0, none⟩) cm (cm - 12) 9 A (HKD.out.below hA) (fun k hk => hRA k (by omega)) (fun y hy => by cases hy; have := HBL.out; have := HNX.out.2.1; show bo ≠ bx; omega) (fun k hk => ?_) (by have := HBL.out; have := HNX.out.2.1; omega) hB5 (by omega) (by omega) (Nat.le_refl _) (by unfold maxLen; omega) (by have := HEN.out; omega) (by decide)).mono ?_
    · obtain ⟨h1, b, o, e, h2⟩ := hRA (12 + k) (by omega)
      cases e
      exact ⟨h1, _, _, rfl, by rw [Nat.add_assoc]; exact h2⟩
    · rintro e w' ⟨_, hO, ⟨hq, v, B, rfl, hG, hB⟩ | ⟨hq, rfl⟩⟩
      · exact ⟨v, _, rfl, hO.blk hZA HNX.out.1, .inl ⟨hbA.trans (hO.below HNX.out.2.1 hbA.size), by rw [← HT.out]; exact hq, B, rfl, by rw [← HD.out]; exact hG, Nat.le_trans hbA.size hB⟩⟩
      · exact ⟨_, _, rfl, hO.blk hZA HNX.out.1, .inr ⟨hbA.trans (hO.below HNX.out.2.1 hbA.size), by rw [← HT.out]; exact hq, rfl, rfl⟩⟩
  have hSW0 : True := trivial
  clear hd hw0 hb4
  refine wp_region_held_drew (S := (fun _ => True)) (by kernel_rfl) ?_ (fun hHeld => ?_)
  · (try dsimp only)
    (try trivial)
  generalize w1.drew = W0 at *
  refine wpAnyH_take (i := 0) (oi := { dst := some 30, op := Go.Op.move (Go.Operand.tmp 6), type := 54, pos := "envelope.go:101", after := #[], guard := none }) (v := ?_) rfl (by kernel_rfl) (by kernel_rfl) (by kernel_rfl) (fun _ _ _ h => h) (Or.inl ⟨by rfl, ?_⟩) (by assumption) ?_
  rotate_left
  · intro wS hSw
    (try dsimp only at hSw)
    go_simp
    (try with_reducible rfl)
  (try simp only [Act.put, List.setIfInBounds_toArray, List.set_cons_zero, List.set_cons_succ])
  refine wpAnyH_take (i := 1) (oi := { dst := some 31, op := Go.Op.move (Go.Operand.tmp 1), type := 24, pos := "envelope.go:101", after := #[], guard := none }) (v := ?_) rfl (by kernel_rfl) (by kernel_rfl) (by kernel_rfl) (fun _ _ _ h => h) (Or.inl ⟨by rfl, ?_⟩) (by assumption) ?_
  rotate_left
  · intro wS hSw
    (try dsimp only at hSw)
    go_simp
    (try with_reducible rfl)
  (try simp only [Act.put, List.setIfInBounds_toArray, List.set_cons_zero, List.set_cons_succ])
  refine wpAnyH_take (i := 2) (oi := { dst := some 32, op := Go.Op.slice 24 (Go.Operand.tmp 31) none (some (Go.Operand.const (Go.Value.int Go.IntKind.i64 12))) none, type := 24, pos := "envelope.go:101", after := #[{ on := 1, ground := Go.Ground.data }], guard := none }) (v := ?_) rfl (by kernel_rfl) (by kernel_rfl) (by kernel_rfl) (fun _ _ _ h => h) (Or.inl ⟨by rfl, ?_⟩) (by assumption) ?_
  rotate_left
  · intro wS hSw
    (try dsimp only at hSw)
    go_simp
    (try with_reducible rfl)
  (try simp only [Act.put, List.setIfInBounds_toArray, List.set_cons_zero, List.set_cons_succ])
  refine wpAnyH_take (i := 3) (oi := { dst := some 33, op := Go.Op.move (Go.Operand.tmp 1), type := 24, pos := "envelope.go:101", after := #[], guard := none }) (v := ?_) rfl (by kernel_rfl) (by kernel_rfl) (by kernel_rfl) (fun _ _ _ h => h) (Or.inl ⟨by rfl, ?_⟩) (by assumption) ?_
  rotate_left
  · intro wS hSw
    (try dsimp only at hSw)
    go_simp
    (try with_reducible rfl)
  (try simp only [Act.put, List.setIfInBounds_toArray, List.set_cons_zero, List.set_cons_succ])
  refine wpAnyH_take (i := 4) (oi := { dst := some 34, op := Go.Op.slice 24 (Go.Operand.tmp 33) (some (Go.Operand.const (Go.Value.int Go.IntKind.i64 12))) none none, type := 24, pos := "envelope.go:101", after := #[{ on := 3, ground := Go.Ground.data }], guard := none }) (v := ?_) rfl (by kernel_rfl) (by kernel_rfl) (by kernel_rfl) (fun _ _ _ h => h) (Or.inl ⟨by rfl, ?_⟩) (by assumption) ?_
  rotate_left
  · intro wS hSw
    (try dsimp only at hSw)
    go_simp
    (try with_reducible rfl)
  (try simp only [Act.put, List.setIfInBounds_toArray, List.set_cons_zero, List.set_cons_succ])
  refine wpAnyH_ready (rs := [5]) (by kernel_rfl) (by simp) ?_
  refine AllReadyH.cons (o := { dst := some 35, op := Go.Op.buildSlice 24 9 #[(0, Go.Operand.const (Go.Value.int Go.IntKind.u8 99)), (1, Go.Operand.const (Go.Value.int Go.IntKind.u8 111)), (2, Go.Operand.const (Go.Value.int Go.IntKind.u8 114)), (3, Go.Operand.const (Go.Value.int Go.IntKind.u8 101)), (4, Go.Operand.const (Go.Value.int Go.IntKind.u8 47)), (5, Go.Operand.const (Go.Value.int Go.IntKind.u8 114)), (6, Go.Operand.const (Go.Value.int Go.IntKind.u8 105)), (7, Go.Operand.const (Go.Value.int Go.IntKind.u8 110)), (8, Go.Operand.const (Go.Value.int Go.IntKind.u8 103))], type := 24, pos := "envelope.go:101", after := #[], guard := none }) rfl (fun K hK => ?_) AllReadyH.nil
  (refine step_bsN (by rfl) #[(0, .const (.int .u8 99)), (1, .const (.int .u8 111)), (2, .const (.int .u8 114)), (3, .const (.int .u8 101)), (4, .const (.int .u8 47)), (5, .const (.int .u8 114)), (6, .const (.int .u8 105)), (7, .const (.int .u8 110)), (8, .const (.int .u8 103))] #[(0, .int .u8 99), (1, .int .u8 111), (2, .int .u8 114), (3, .int .u8 101), (4, .int .u8 47), (5, .int .u8 114), (6, .int .u8 105), (7, .int .u8 110), (8, .int .u8 103)] (rowC 9 beR).toArray rfl (by first | (simp [Act.eval]; done) | (go_simp; done)) bs9_run ?_; obtain ⟨g5, hq5⟩ : ∃ q, W0.heap.size = q := ⟨_, rfl⟩; obtain ⟨W1, hw1⟩ : ∃ q, W0.alloc (.cells (rowC 9 beR).toArray 5) = q := ⟨_, rfl⟩; rw [hw1, hq5]; have hB1 : Blk W1 g5 (rowC 9 beR).toArray 5 := (by rw [← hw1, ← hq5]; exact Blk.new _ _ _); have hv1 : Below W0.heap.size W0 W1 := (by rw [← hw1]; exact (Below.refl _ _).alloc (Nat.le_refl _) _); clear hw1; skip)
  refine hK.out _ _ ?_ (fun hHeld => ?_)
  · (try dsimp only)
    (try trivial)
  clear hK K
  (try simp only [Act.put, List.setIfInBounds_toArray, List.set_cons_zero, List.set_cons_succ])
  refine wpAnyH_ready (rs := [6]) (by kernel_rfl) (by simp) ?_
  refine AllReadyH.cons (o := { dst := some 36, op := Go.Op.convert 24 24 (Go.Operand.tmp 35), type := 24, pos := "envelope.go:101", after := #[{ on := 5, ground := Go.Ground.data }], guard := none }) rfl (fun K hK => ?_) AllReadyH.nil
  (refine step_convB (by rfl) (.tmp 35) rfl g5 9 9 9 rfl (Shp.blk hB1) ?_; obtain ⟨W2, hw2⟩ : ∃ q, W1.freeze ⟨g5, 9, none⟩ 1 = q := ⟨_, rfl⟩; rw [hw2]; have HA2 : Hid (Bytes W2 (some ⟨g5, 0, none⟩) 9 beR) := Lib.hid (by rw [← hw2]; exact (be_bytes hB1 beR_lt).frz _ _); have hv2 : Below W0.heap.size W0 W2 := hv1.trans (by rw [← hw2]; exact (Own.frz _ _ _ _).below (Nat.le_of_eq hq5) hv1.size); have HV2 := Lib.hid hv2; have HQ5 := Lib.hid hq5; clear hB1 hv1 hv2 hw2 hq5; skip)
  refine hK.out _ _ ?_ (fun hHeld => ?_)
  · (try dsimp only)
    (try trivial)
  clear hK K
  (try simp only [Act.put, List.setIfInBounds_toArray, List.set_cons_zero, List.set_cons_succ])
  refine wpAnyH_ready (rs := [7]) (by kernel_rfl) (by simp) ?_
  refine AllReadyH.cons (o := { dst := some 37, op := Go.Op.call { callee := Go.Callee.value (Go.Operand.func 21), args := #[Go.Operand.tmp 30, Go.Operand.tmp 32, Go.Operand.tmp 34, Go.Operand.tmp 36], argTypes := #[54, 24, 24, 24] }, type := 27, pos := "envelope.go:101", after := #[{ on := 0, ground := Go.Ground.data }, { on := 2, ground := Go.Ground.data }, { on := 4, ground := Go.Ground.data }, { on := 6, ground := Go.Ground.data }], guard := none }) rfl (fun K hK => ?_) AllReadyH.nil
  go_simp
  (refine (HOP.out W2 g5 HV2.out HQ5.out HA2.out).mono ?_; rintro e W3 ⟨v, ev, rfl, hZ3, hR⟩; have HR3 := Lib.hid hR; have HZ3 := Lib.hid hZ3; clear hR hZ3; skip)
  (try go_wp2_with fail)
  refine hK.out _ _ ?_ (fun hHeld => ?_)
  · (try dsimp only)
    (try trivial)
  clear hK K
  (try simp only [Act.put, List.setIfInBounds_toArray, List.set_cons_zero, List.set_cons_succ])
  refine wpAnyH_take (i := 8) (oi := { dst := some 29, op := Go.Op.move (Go.Operand.tmp 37), type := 27, pos := "envelope.go:101", after := #[{ on := 7, ground := Go.Ground.data }], guard := none }) (v := ?_) rfl (by kernel_rfl) (by kernel_rfl) (by kernel_rfl) (fun _ _ _ h => h) (Or.inl ⟨by rfl, ?_⟩) (by assumption) ?_
  rotate_left
  · intro wS hSw
    (try dsimp only at hSw)
    go_simp
    (try with_reducible rfl)
  (try simp only [Act.put, List.setIfInBounds_toArray, List.set_cons_zero, List.set_cons_succ])
  refine wpAnyH_take (i := 9) (oi := { dst := some 38, op := Go.Op.extract (Go.Operand.tmp 29) 0, type := 24, pos := "envelope.go:101", after := #[{ on := 8, ground := Go.Ground.data }], guard := none }) (v := ?_) rfl (by kernel_rfl) (by kernel_rfl) (by kernel_rfl) (fun _ _ _ h => h) (Or.inl ⟨by rfl, ?_⟩) (by assumption) ?_
  rotate_left
  · intro wS hSw
    (try dsimp only at hSw)
    go_simp
    (try with_reducible rfl)
  (try simp only [Act.put, List.setIfInBounds_toArray, List.set_cons_zero, List.set_cons_succ])
  refine wpAnyH_take (i := 10) (oi := { dst := some 39, op := Go.Op.extract (Go.Operand.tmp 29) 1, type := 26, pos := "envelope.go:101", after := #[{ on := 8, ground := Go.Ground.data }, { on := 11, ground := Go.Ground.gcOnly Go.Departure.lateStores }], guard := none }) (v := ?_) rfl (by kernel_rfl) (by kernel_rfl) (by kernel_rfl) (fun _ _ _ h => h) (Or.inl ⟨by rfl, ?_⟩) (by assumption) ?_
  rotate_left
  · intro wS hSw
    (try dsimp only at hSw)
    go_simp
    (try with_reducible rfl)
  (try simp only [Act.put, List.setIfInBounds_toArray, List.set_cons_zero, List.set_cons_succ])
  refine wpAnyH_take (i := 11) (oi := { dst := some 8, op := Go.Op.assign (Go.Operand.tmp 38), type := 24, pos := "envelope.go:101", after := #[{ on := 9, ground := Go.Ground.data }, { on := 7, ground := Go.Ground.chain }, { on := 0, ground := Go.Ground.phase }, { on := 1, ground := Go.Ground.phase }, { on := 2, ground := Go.Ground.phase }, { on := 3, ground := Go.Ground.phase }, { on := 4, ground := Go.Ground.phase }, { on := 5, ground := Go.Ground.phase }, { on := 6, ground := Go.Ground.phase }, { on := 7, ground := Go.Ground.phase }, { on := 8, ground := Go.Ground.phase }, { on := 9, ground := Go.Ground.phase }, { on := 10, ground := Go.Ground.textOnly Go.Departure.lateStores }], guard := none }) (v := ?_) rfl (by kernel_rfl) (by kernel_rfl) (by kernel_rfl) (fun _ _ _ h => h) (Or.inl ⟨by rfl, ?_⟩) (by assumption) ?_
  rotate_left
  · intro wS hSw
    (try dsimp only at hSw)
    go_simp
    (try with_reducible rfl)
  (try simp only [Act.put, List.setIfInBounds_toArray, List.set_cons_zero, List.set_cons_succ])
  refine wpAnyH_take (i := 12) (oi := { dst := some 7, op := Go.Op.assign (Go.Operand.tmp 39), type := 26, pos := "envelope.go:101", after := #[{ on := 10, ground := Go.Ground.data }, { on := 11, ground := Go.Ground.chain }, { on := 0, ground := Go.Ground.phase }, { on := 1, ground := Go.Ground.phase }, { on := 2, ground := Go.Ground.phase }, { on := 3, ground := Go.Ground.phase }, { on := 4, ground := Go.Ground.phase }, { on := 5, ground := Go.Ground.phase }, { on := 6, ground := Go.Ground.phase }, { on := 7, ground := Go.Ground.phase }, { on := 8, ground := Go.Ground.phase }, { on := 9, ground := Go.Ground.phase }, { on := 10, ground := Go.Ground.phase }, { on := 11, ground := Go.Ground.phase }], guard := none }) (v := ?_) rfl (by kernel_rfl) (by kernel_rfl) (by kernel_rfl) (fun _ _ _ h => h) (Or.inl ⟨by rfl, ?_⟩) (by assumption) ?_
  rotate_left
  · intro wS hSw
    (try dsimp only at hSw)
    go_simp
    (try with_reducible rfl)
  (try simp only [Act.put, List.setIfInBounds_toArray, List.set_cons_zero, List.set_cons_succ])
  refine wpAnyH_done (by kernel_rfl) ?_ _
  rcases HR3.out with ⟨hb3, hq, B, rfl, hG, hBB⟩ | ⟨hb3, hq, rfl, rfl⟩
  · obtain ⟨oc, cc, rfl, hBc, hcc, hcm, hno⟩ := hG.bytesM (fun i hi => HDL.out i hi)
    have HBC := Lib.hid (And.intro hBc hcc)
    have HB3 := Lib.hid hb3
    have HQ := Lib.hid hq
    clear hb3 hq hG hBB hBc hcc hcm hno
    go_wp2_with fail
    refine (decode_any en cc oc D W3 HBC.out.1 HBC.out.2 (by have := HEN.out; omega)).mono ?_
    rintro e W4 ⟨hb4, ⟨rfl, hno⟩ | ⟨hrg, o, c, rfl, hT⟩⟩
    · have HNO : Hid (¬ (T = true ∧ IsRing en D)) := Lib.hid fun h => hno h.2
      have HB4 := Lib.hid (HB3.out.trans (hb4.mono HB3.out.size))
      obtain ⟨W5, hW5⟩ : ∃ q, W4.alloc (.cells #[.slice none 0 0] 32) = q := ⟨_, rfl⟩
      have hv5 : Below W4.heap.size W4 W5 := by rw [← hW5]; exact (Below.refl _ _).alloc (Nat.le_refl _) _
      obtain ⟨b9, hb9⟩ : ∃ q, W4.heap.size = q := ⟨_, rfl⟩
      have hB9 : Blk W5 b9 #[.slice none 0 0] 32 := by rw [← hW5, ← hb9]; exact Blk.new _ _ _
      have c9 : W5.cell? ⟨b9, 0, none⟩ = some (.slice none 0 0) := by rw [Blk.cell hB9]; rfl
      have f9 : W5.frozen? ⟨b9, 0, none⟩ = false := Blk.free hB9 0
      obtain ⟨W6, hW6⟩ : ∃ q, W5.setCell ⟨b9, 0, none⟩ (.slice none 0 0) = q := ⟨_, rfl⟩
      have hO9 : Own b9 W5 W6 := by rw [← hW6]; exact (Own.refl b9 W5).set 0 _
      have hz5 := Blk.below (Blk.below HZ3.out hb4 (Blk.lt HZ3.out)) hv5 (by have h9 := Blk.lt HZ3.out; have := hb4.size; omega)
      have HZX := Lib.hid (hO9.blk hz5 (by have h9 := Blk.lt HZ3.out; have := hb4.size; omega))
      have hb5 := HB4.out.trans (hv5.mono HB4.out.size)
      have HB6 := Lib.hid (hb5.trans (hO9.below (by have := HB4.out.size; omega) hb5.size))
      clear hb4 hno hv5 hB9 hO9 hz5 hb5
      have c4 : W6.cell? ⟨b4, 0, none⟩ = some (.slice none 0 0) := by rw [Blk.cell HZX.out]; rfl
      have f4 : W6.frozen? ⟨b4, 0, none⟩ = false := Blk.free HZX.out 0
      have HX : Hid (Blk (W6.setCell ⟨b4, 0, none⟩ (.slice none 0 0)) b4 #[.slice none 0 0] 32) := Lib.hid (HZX.out.set 0 _)
      have HBX : Hid (Below w.heap.size w (W6.setCell ⟨b4, 0, none⟩ (.slice none 0 0))) := Lib.hid (HB6.out.trans (((Own.refl b4 W6).set 0 _).below HGE.out HB6.out.size))
      go_wp2_with fail
      refine bodyPost_ret (v := .tuple #[.agg #[.slice none 0 0], .iface 53 (.int .i64 11)]) ?_ rfl (ROpen.no (by rw [HD.out, HT.out]; exact HNO.out) HBX.out)
      exact results_cell_tmp1 (q := 5) Tryz.results9 _ _ b4 32 #[.slice none 0 0] (0, 0) _ rfl HX.out Tryz.underlying32 rfl (info_rg _)
    · have HB4 := Lib.hid (HB3.out.trans (hb4.mono HB3.out.size))
      obtain ⟨b9, hb9⟩ : ∃ q, W4.heap.size = q := ⟨_, rfl⟩
      obtain ⟨W5, hW5⟩ : ∃ q, W4.alloc (.cells #[.slice o (D 2) c] 32) = q := ⟨_, rfl⟩
      have hv5 : Below W4.heap.size W4 W5 := by rw [← hW5]; exact (Below.refl _ _).alloc (Nat.le_refl _) _
      have hB9 : Blk W5 b9 #[.slice o (D 2) c] 32 := by rw [← hW5, ← hb9]; exact Blk.new _ _ _
      have HB5 := Lib.hid (HB4.out.trans (hv5.mono HB4.out.size))
      have HZX := Lib.hid (Blk.below (Blk.below HZ3.out hb4 (Blk.lt HZ3.out)) hv5 (by have h9 := Blk.lt HZ3.out; have := hb4.size; omega))
      have HT5 := Lib.hid (hT.later hv5)
      have c9 : W5.cell? ⟨b9, 0, none⟩ = some (.slice o (D 2) c) := by rw [Blk.cell hB9]; rfl
      have c4 : W5.cell? ⟨b4, 0, none⟩ = some (.slice none 0 0) := by rw [Blk.cell HZX.out]; rfl
      have f4 : W5.frozen? ⟨b4, 0, none⟩ = false := Blk.free HZX.out 0
      have HX : Hid (Blk (W5.setCell ⟨b4, 0, none⟩ (.slice o (D 2) c)) b4 #[.slice o (D 2) c] 32) := Lib.hid (HZX.out.set 0 _)
      have hO := (Own.refl b4 W5).set 0 (.slice o (D 2) c)
      have HBX : Hid (Below w.heap.size w (W5.setCell ⟨b4, 0, none⟩ (.slice o (D 2) c))) := Lib.hid (HB5.out.trans (hO.below HGE.out HB5.out.size))
      have HTX : Hid (TL (W5.setCell ⟨b4, 0, none⟩ (.slice o (D 2) c)) o (D 2) (fun i => i + 1) (fun i j => D (3 + 32 * i + j))) := Lib.hid (HT5.out.away hO (HT5.out.not hrg.2.2.2.1 HZX.out (fun _ _ e => by cases e)))
      have HRG := Lib.hid hrg
      clear hb4 hrg hT hv5 hB9 hO
      go_wp2_with fail
      refine bodyPost_ret (v := .tuple #[.agg #[.slice o (D 2) c], .nilIface]) ?_ rfl (by have h9 := ROpen.ok (K := K) (Q := Q) (en := en) (w := w) (o := o) (c := c) ⟨by rw [HT.out]; exact HQ.out, by rw [HD.out]; exact HRG.out⟩ (by rw [HD.out]; exact HTX.out) HBX.out; rw [HD.out] at h9; exact h9)
      exact results_cell_tmp1 (q := 5) Tryz.results9 _ _ b4 32 #[.slice o (D 2) c] (0, 0) _ rfl HX.out Tryz.underlying32 rfl (info_rg _)
  · have HNO : Hid (¬ (T = true ∧ IsRing en D)) := Lib.hid fun h => by rw [hq] at h; cases h.1
    have HB3 := Lib.hid hb3
    have HZX := HZ3
    clear hb3 hq
    have c4 : W3.cell? ⟨b4, 0, none⟩ = some (.slice none 0 0) := by rw [Blk.cell HZX.out]; rfl
    have f4 : W3.frozen? ⟨b4, 0, none⟩ = false := Blk.free HZX.out 0
    have HX : Hid (Blk (W3.setCell ⟨b4, 0, none⟩ (.slice none 0 0)) b4 #[.slice none 0 0] 32) := Lib.hid (HZX.out.set 0 _)
    have HBX : Hid (Below w.heap.size w (W3.setCell ⟨b4, 0, none⟩ (.slice none 0 0))) := Lib.hid (HB3.out.trans (((Own.refl b4 W3).set 0 _).below HGE.out HB3.out.size))
    go_wp2_with fail
    refine bodyPost_ret (v := .tuple #[.agg #[.slice none 0 0], .iface 53 (.int .i64 11)]) ?_ rfl (ROpen.no (by rw [HD.out, HT.out]; exact HNO.out) HBX.out)
    exact results_cell_tmp1 (q := 5) Tryz.results9 _ _ b4 32 #[.slice none 0 0] (0, 0) _ rfl HX.out Tryz.underlying32 rfl (info_rg _)
end Go.Proofs.YtncfocjmdecapaaGreatDoor
