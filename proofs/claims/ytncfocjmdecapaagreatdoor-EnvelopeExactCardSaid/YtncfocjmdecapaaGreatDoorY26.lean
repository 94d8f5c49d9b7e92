/- Part of the proof: what stands here serves the walks of the functions that the statement calls. -/
import Derived.Test.YtncfocjmdecapaaGreatDoorY10
import Derived.Test.YtncfocjmdecapaaGreatDoorY25
namespace Go.Proofs.YtncfocjmdecapaaGreatDoor
set_option linter.unusedVariables false
set_option linter.unusedSimpArgs false
open Go.RowKit
set_option maxRecDepth 100000
set_option maxHeartbeats 4000000
theorem step_bsN {ops : Array Oper} {o : Oper} {a : Act} {w : World} {K : Act → World → Prop} {Q : Exit → Act → World → Prop} {E : Prop} {n : Nat} (hw : Region.wanted o (yielded ops a.tmps) = true) (parts : Array (Nat × Operand)) (ps : Array (Nat × Value)) (C : Array Value) (ho : o.op = .buildSlice 24 n parts) (hp : (parts.map fun (i, x) => (i, a.eval x)) = ps)
  (h : ∀ w, (Instr.buildSlice 24 n ps).run Tryz.prog w = .ok (.slice (some ⟨w.heap.size, 0, none⟩) n n) (w.alloc (.cells C 5)))
  (hk : K (a.put o.dst (.slice (some ⟨w.heap.size, 0, none⟩) n n)) (w.alloc (.cells C 5))) : if Region.wanted o (yielded ops a.tmps) = true then Oper.wp Tryz.prog o a w K Q else E := by
 rw [if_pos hw]
 unfold Oper.wp execOp
 simp only [ho, hp, h, Sem.run_bind, Result.andThen_ok]
 exact hk
theorem bs9_run (w : World) : (Instr.buildSlice 24 9 #[(0, .int .u8 99), (1, .int .u8 111), (2, .int .u8 114), (3, .int .u8 101), (4, .int .u8 47), (5, .int .u8 114), (6, .int .u8 105), (7, .int .u8 110), (8, .int .u8 103)]).run Tryz.prog w = .ok (.slice (some ⟨w.heap.size, 0, none⟩) 9 9) (w.alloc (.cells (rowC 9 beR).toArray 5)) := by kernel_rfl
def rdF (K Q : Nat → Nat) : Nat → Nat := cphF (ekW K sR 0) Q (fun i => Q (12 + i))
def rtB (K Q : Nat → Nat) (en : Nat) : Bool := eqF (tgF (ekW K sR 0) Q beR 9 (fun i => Q (12 + i)) en) (fun i => Q (12 + (en + i)))
def ROpen (K Q : Nat → Nat) (en : Nat) (w : World) (e : Ending) (w' : World) : Prop := Below w.heap.size w w' ∧
 (((rtB K Q en = true ∧ IsRing en (rdF K Q)) ∧ ∃ o c, e = .returned (.tuple #[.agg #[.slice o (rdF K Q 2) c], .nilIface]) ∧ TL w' o (rdF K Q 2) (fun i => i + 1) (fun i j => rdF K Q (3 + 32 * i + j))) ∨
  (¬ (rtB K Q en = true ∧ IsRing en (rdF K Q)) ∧ e = .returned (.tuple #[.agg #[.slice none 0 0], .iface 53 (.int .i64 11)])))
theorem ROpen.no {K Q : Nat → Nat} {en : Nat} {w w' : World} (h : ¬ (rtB K Q en = true ∧ IsRing en (rdF K Q))) (hb : Below w.heap.size w w') : ROpen K Q en w (.returned (.tuple #[.agg #[.slice none 0 0], .iface 53 (.int .i64 11)])) w' := ⟨hb, .inr ⟨h, rfl⟩⟩
theorem ROpen.ok {K Q : Nat → Nat} {en c : Nat} {o : Option Addr} {w w' : World} (h : rtB K Q en = true ∧ IsRing en (rdF K Q)) (hT : TL w' o (rdF K Q 2) (fun i => i + 1) (fun i j => rdF K Q (3 + 32 * i + j))) (hb : Below w.heap.size w w') : ROpen K Q en w (.returned (.tuple #[.agg #[.slice o (rdF K Q 2) c], .nilIface])) w' := ⟨hb, .inl ⟨h, o, c, rfl, hT⟩⟩
theorem openring_any (oa : Option Addr) (bo oo cn m cm en : Nat) (K Q : Nat → Nat) (w : World) (hb : Bytes w oa 32 K) (hr : Bytes w (some ⟨bo, oo, none⟩) m Q) (hnc : 32 ≤ cn) (hm : m = 12 + (en + 16)) (hmc : m ≤ cm) (hmm : cm ≤ maxLen) (hen : en ≤ 2000) (hg : GV w) :
  Calls Tryz.prog 9 #[.slice oa 32 cn, .slice (some ⟨bo, oo, none⟩) m cm] w (ROpen K Q en w) := by
 obtain ⟨b4, hb4⟩ := zX w.heap.size
 obtain ⟨w0, hw0⟩ := zX (w.alloc (.cells #[.slice none 0 0] 32))
 have hb0 : Below w.heap.size w w0 := by rw [← hw0]; exact zA
 have hZ0 : Blk w0 b4 #[.slice none 0 0] 32 := by rw [← hw0, ← hb4]; exact Blk.new _ _ _
 have HGE : Hid (w.heap.size ≤ b4) := zh (Nat.le_of_eq hb4)
 have HC := zh (sealer_any oa cn K sR 0 w0 (hb.later hb0) hnc (by decide) (by decide) (by decide) (hg.later hb0))
 have HR := zh hr
 have HEN := zh hen
 have HB0 := zh hb0
 have HZ0 := zh hZ0
 have HBL : Hid (bo < w.heap.size) := zh (hr.lt _ rfl (by omega))
 have HM := zh (And.intro hm (And.intro hmc hmm))
 obtain ⟨D, hD⟩ := zX (rdF K Q)
 obtain ⟨T, hT⟩ := zX (rtB K Q en)
 have HD := zh hD
 have HT := zh hT
 have HDL : Hid (∀ i, i < en → D i < 256) := zh fun i hi => by rw [← hD]; exact cphF_lt (n := en) (fun i hi => (hr i (by omega)).1) (fun i hi => (hr (12 + i) (by omega)).1) i hi
 have g1 : ¬ (m : Int) < (28 : Int) := by omega
 have g2 : decide ((m : Int) < (28 : Int)) = false := decide_eq_false g1
 have g7 : ¬ m < 28 := by omega
 have g8 : decide (m < 28) = false := decide_eq_false g7
 have i1 : (12 : Int) ≤ (cm : Int) := by omega
 have i2 : (12 : Int) ≤ (m : Int) := by omega
 have i3 : (m : Int) ≤ (cm : Int) := by omega
 have i4 : ¬ cm = 12 := by omega
 clear hb0 hZ0 hb hr hnc hm hmc hmm hen hg hD hT
 go_enter Tryz.func9, Tryz.ntmps9
 go_wp2_with fail
 refine HC.out.mono ?_
 rintro e w1 ⟨g, kb, bx, rfl, hGS⟩
 have HGS := zh hGS
 clear hGS HC
 go_upto_region 8 with fail
 have hd := (Below.refl w1.heap.size w1).drew
 have HBD : Hid (Below w.heap.size w w1.drew) := zh ((HB0.out.trans (HGS.out.2.1.mono HB0.out.size)).trans (hd.mono (Nat.le_trans HB0.out.size HGS.out.2.1.size)))
 have HKD : Hid (KG w1.drew g kb bx (ekW K sR 0)) := zh (HGS.out.1.below hd)
 have HZD : Hid (Blk w1.drew b4 #[.slice none 0 0] 32) := zh (Blk.below (Blk.below HZ0.out HGS.out.2.1 (Blk.lt HZ0.out)) hd (by have h9 := Blk.lt HZ0.out; have := HGS.out.2.1.size; omega))
 have HNX : Hid (b4 ≠ bx ∧ w.heap.size ≤ bx ∧ bx < w1.drew.heap.size) := zh ⟨by have h9 := Blk.lt HZ0.out; have := HGS.out.2.2.1; omega, Nat.le_trans HB0.out.size HGS.out.2.2.1, HKD.out.lt.2.2⟩
 have HOP : Hid (∀ (A : World) (g5 : Nat), Below w1.drew.heap.size w1.drew A → w1.drew.heap.size = g5 → Bytes A (some ⟨g5, 0, none⟩) 9 beR → Calls Tryz.prog 21 #[.pointer (some ⟨g, 0, none⟩), .slice (some ⟨bo, oo, none⟩) 12 cm, .slice (some ⟨bo, oo + 12, none⟩) (m - 12) (cm - 12), .slice (some ⟨g5, 0, none⟩) 9 9] A fun e w' => ∃ v ev, e = .returned (.tuple #[v, ev]) ∧ Blk w' b4 #[.slice none 0 0] 32 ∧
   ((Below w.heap.size w w' ∧ T = true ∧ ∃ B, ev = .nilIface ∧ Grow w' B v en D ∧ w.heap.size ≤ B) ∨ (Below w.heap.size w w' ∧ T = false ∧ v = .slice none 0 0 ∧ ev = .iface 53 (.int .i64 11)))) := zh fun A g5 hA hg5 hB5 => by
  have hbA : Below w.heap.size w A := HBD.out.trans (hA.mono HBD.out.size)
  have hRA := HR.out.later hbA
  have hZA := Blk.below HZD.out hA (Blk.lt HZD.out)
  have hm := HM.out
  rw [show m - 12 = en + 16 by omega]
  refine (open_any g kb bx (ekW K sR 0) Q (fun i => Q (12 + i)) beR en 9 bo (oo + 12) (some ⟨bo, oo, none⟩) (some ⟨g5, 0, none⟩) cm (cm - 12) 9 A (HKD.out.below hA) (fun k hk => hRA k (by omega)) (fun y hy => by cases hy; have := HBL.out; have := HNX.out.2.1; show bo ≠ bx; omega) (fun k hk => ?_) (by have := HBL.out; have := HNX.out.2.1; omega) hB5 (by omega) (by omega) (Nat.le_refl _) (by unfold maxLen; omega) (by have := HEN.out; omega) (by decide)).mono ?_
  ·obtain ⟨h1, b, o, e, h2⟩ := hRA (12 + k) (by omega)
   cases e
   exact ⟨h1, _, _, rfl, by rw [Nat.add_assoc]; exact h2⟩
  ·rintro e w' ⟨_, hO, ⟨hq, v, B, rfl, hG, hB⟩ | ⟨hq, rfl⟩⟩
   ·exact ⟨v, _, rfl, hO.blk hZA HNX.out.1, .inl ⟨hbA.trans (hO.below HNX.out.2.1 hbA.size), by rw [← HT.out]; exact hq, B, rfl, by rw [← HD.out]; exact hG, Nat.le_trans hbA.size hB⟩⟩
   ·exact ⟨_, _, rfl, hO.blk hZA HNX.out.1, .inr ⟨hbA.trans (hO.below HNX.out.2.1 hbA.size), by rw [← HT.out]; exact hq, rfl, rfl⟩⟩
 have hSW0 : True := trivial
 clear hd hw0 hb4
 refine wp_region_held_drew (S := (fun _ => True)) (by kernel_rfl) ?_ (fun hHeld => ?_)
 ·(try dsimp only)
  (try trivial)
 generalize w1.drew = W0 at *
 refine wT 0 ?_ rfl ?_ ?_
 rotate_left
 ·intro wS hSw
  (try dsimp only at hSw)
  go_simp
  (try with_reducible rfl)
 (try simp only [Act.put, zS])
 refine wT 1 ?_ rfl ?_ ?_
 rotate_left
 ·intro wS hSw
  (try dsimp only at hSw)
  go_simp
  (try with_reducible rfl)
 (try simp only [Act.put, zS])
 refine wT 2 ?_ rfl ?_ ?_
 rotate_left
 ·intro wS hSw
  (try dsimp only at hSw)
  go_simp
  (try with_reducible rfl)
 (try simp only [Act.put, zS])
 refine wT 3 ?_ rfl ?_ ?_
 rotate_left
 ·intro wS hSw
  (try dsimp only at hSw)
  go_simp
  (try with_reducible rfl)
 (try simp only [Act.put, zS])
 refine wT 4 ?_ rfl ?_ ?_
 rotate_left
 ·intro wS hSw
  (try dsimp only at hSw)
  go_simp
  (try with_reducible rfl)
 (try simp only [Act.put, zS])
 refine wR [5] ?_
 refine aN rfl fun K hK => ?_
 (refine step_bsN (by rfl) #[(0, .const (.int .u8 99)), (1, .const (.int .u8 111)), (2, .const (.int .u8 114)), (3, .const (.int .u8 101)), (4, .const (.int .u8 47)), (5, .const (.int .u8 114)), (6, .const (.int .u8 105)), (7, .const (.int .u8 110)), (8, .const (.int .u8 103))] #[(0, .int .u8 99), (1, .int .u8 111), (2, .int .u8 114), (3, .int .u8 101), (4, .int .u8 47), (5, .int .u8 114), (6, .int .u8 105), (7, .int .u8 110), (8, .int .u8 103)] (rowC 9 beR).toArray rfl (by first | (simp [Act.eval]; done) | (go_simp; done)) bs9_run ?_; obtain ⟨g5, hq5⟩ := zX W0.heap.size; obtain ⟨W1, hw1⟩ := zX (W0.alloc (.cells (rowC 9 beR).toArray 5)); rw [hw1, hq5]; have hB1 : Blk W1 g5 (rowC 9 beR).toArray 5 := (by rw [← hw1, ← hq5]; exact Blk.new _ _ _); have hv1 : Below W0.heap.size W0 W1 := (by rw [← hw1]; exact zA); clear hw1; skip)
 refine hK.out _ _ ?_ fun hHeld => ?_
 ·(try dsimp only)
  (try trivial)
 clear hK K
 (try simp only [Act.put, zS])
 refine wR [6] ?_
 refine aN rfl fun K hK => ?_
 (refine step_convB (by rfl) (.tmp 35) rfl g5 9 9 9 rfl (Shp.blk hB1) ?_; obtain ⟨W2, hw2⟩ := zX (W1.freeze ⟨g5, 9, none⟩ 1); rw [hw2]; have HA2 : Hid (Bytes W2 (some ⟨g5, 0, none⟩) 9 beR) := zh (by rw [← hw2]; exact (be_bytes hB1 beR_lt).frz _ _); have hv2 : Below W0.heap.size W0 W2 := hv1.trans (by rw [← hw2]; exact (Own.frz _ _ _ _).below (Nat.le_of_eq hq5) hv1.size); have HV2 := zh hv2; have HQ5 := zh hq5; clear hB1 hv1 hv2 hw2 hq5; skip)
 refine hK.out _ _ ?_ fun hHeld => ?_
 ·(try dsimp only)
  (try trivial)
 clear hK K
 (try simp only [Act.put, zS])
 refine wR [7] ?_
 refine aN rfl fun K hK => ?_
 go_simp
 (refine (HOP.out W2 g5 HV2.out HQ5.out HA2.out).mono ?_; rintro e W3 ⟨v, ev, rfl, hZ3, hR⟩; have HR3 := zh hR; have HZ3 := zh hZ3; clear hR hZ3; skip)
 (try go_wp2_with fail)
 refine hK.out _ _ ?_ fun hHeld => ?_
 ·(try dsimp only)
  (try trivial)
 clear hK K
 (try simp only [Act.put, zS])
 refine wT 8 ?_ rfl ?_ ?_
 rotate_left
 ·intro wS hSw
  (try dsimp only at hSw)
  go_simp
  (try with_reducible rfl)
 (try simp only [Act.put, zS])
 refine wT 9 ?_ rfl ?_ ?_
 rotate_left
 ·intro wS hSw
  (try dsimp only at hSw)
  go_simp
  (try with_reducible rfl)
 (try simp only [Act.put, zS])
 refine wT 10 ?_ rfl ?_ ?_
 rotate_left
 ·intro wS hSw
  (try dsimp only at hSw)
  go_simp
  (try with_reducible rfl)
 (try simp only [Act.put, zS])
 refine wT 11 ?_ rfl ?_ ?_
 rotate_left
 ·intro wS hSw
  (try dsimp only at hSw)
  go_simp
  (try with_reducible rfl)
 (try simp only [Act.put, zS])
 refine wT 12 ?_ rfl ?_ ?_
 rotate_left
 ·intro wS hSw
  (try dsimp only at hSw)
  go_simp
  (try with_reducible rfl)
 (try simp only [Act.put, zS])
 refine wpAnyH_done (by kernel_rfl) ?_ _
 rcases HR3.out with ⟨hb3, hq, B, rfl, hG, hBB⟩ | ⟨hb3, hq, rfl, rfl⟩
 ·obtain ⟨oc, cc, rfl, hBc, hcc, hcm, hno⟩ := hG.bytesM (fun i hi => HDL.out i hi)
  have HBC := zh (And.intro hBc hcc)
  have HB3 := zh hb3
  have HQ := zh hq
  clear hb3 hq hG hBB hBc hcc hcm hno
  go_wp2_with fail
  refine (decode_any en cc oc D W3 HBC.out.1 HBC.out.2 (by have := HEN.out; omega)).mono ?_
  rintro e W4 ⟨hb4, ⟨rfl, hno⟩ | ⟨hrg, o, c, rfl, hT⟩⟩
  ·have HNO : Hid (¬ (T = true ∧ IsRing en D)) := zh fun h => hno h.2
   have HB4 := zh (HB3.out.trans (hb4.mono HB3.out.size))
   obtain ⟨W5, hW5⟩ := zX (W4.alloc (.cells #[.slice none 0 0] 32))
   have hv5 : Below W4.heap.size W4 W5 := by rw [← hW5]; exact zA
   obtain ⟨b9, hb9⟩ := zX W4.heap.size
   have hB9 : Blk W5 b9 #[.slice none 0 0] 32 := by rw [← hW5, ← hb9]; exact Blk.new _ _ _
   have c9 : W5.cell? ⟨b9, 0, none⟩ = some (.slice none 0 0) := by rw [Blk.cell hB9]; rfl
   have f9 : W5.frozen? ⟨b9, 0, none⟩ = false := Blk.free hB9 0
   obtain ⟨W6, hW6⟩ := zX (W5.setCell ⟨b9, 0, none⟩ (.slice none 0 0))
   have hO9 : Own b9 W5 W6 := by rw [← hW6]; exact (Own.refl b9 W5).set 0 _
   have hz5 := Blk.below (Blk.below HZ3.out hb4 (Blk.lt HZ3.out)) hv5 (by have h9 := Blk.lt HZ3.out; have := hb4.size; omega)
   have HZX := zh (hO9.blk hz5 (by have h9 := Blk.lt HZ3.out; have := hb4.size; omega))
   have hb5 := HB4.out.trans (hv5.mono HB4.out.size)
   have HB6 := zh (hb5.trans (hO9.below (by have := HB4.out.size; omega) hb5.size))
   clear hb4 hno hv5 hB9 hO9 hz5 hb5
   have c4 : W6.cell? ⟨b4, 0, none⟩ = some (.slice none 0 0) := by rw [Blk.cell HZX.out]; rfl
   have f4 : W6.frozen? ⟨b4, 0, none⟩ = false := Blk.free HZX.out 0
   have HX : Hid (Blk (W6.setCell ⟨b4, 0, none⟩ (.slice none 0 0)) b4 #[.slice none 0 0] 32) := zh (HZX.out.set 0 _)
   have HBX : Hid (Below w.heap.size w (W6.setCell ⟨b4, 0, none⟩ (.slice none 0 0))) := zh (HB6.out.trans (((Own.refl b4 W6).set 0 _).below HGE.out HB6.out.size))
   go_wp2_with fail
   refine bodyPost_ret (v := .tuple #[.agg #[.slice none 0 0], .iface 53 (.int .i64 11)]) ?_ rfl (ROpen.no (by rw [HD.out, HT.out]; exact HNO.out) HBX.out)
   exact results_cell_tmp1 (q := 5) Tryz.results9 _ _ b4 32 #[.slice none 0 0] (0, 0) _ rfl HX.out Tryz.underlying32 rfl (info_rg _)
  ·have HB4 := zh (HB3.out.trans (hb4.mono HB3.out.size))
   obtain ⟨b9, hb9⟩ := zX W4.heap.size
   obtain ⟨W5, hW5⟩ := zX (W4.alloc (.cells #[.slice o (D 2) c] 32))
   have hv5 : Below W4.heap.size W4 W5 := by rw [← hW5]; exact zA
   have hB9 : Blk W5 b9 #[.slice o (D 2) c] 32 := by rw [← hW5, ← hb9]; exact Blk.new _ _ _
   have HB5 := zh (HB4.out.trans (hv5.mono HB4.out.size))
   have HZX := zh (Blk.below (Blk.below HZ3.out hb4 (Blk.lt HZ3.out)) hv5 (by have h9 := Blk.lt HZ3.out; have := hb4.size; omega))
   have HT5 := zh (hT.later hv5)
   have c9 : W5.cell? ⟨b9, 0, none⟩ = some (.slice o (D 2) c) := by rw [Blk.cell hB9]; rfl
   have c4 : W5.cell? ⟨b4, 0, none⟩ = some (.slice none 0 0) := by rw [Blk.cell HZX.out]; rfl
   have f4 : W5.frozen? ⟨b4, 0, none⟩ = false := Blk.free HZX.out 0
   have HX : Hid (Blk (W5.setCell ⟨b4, 0, none⟩ (.slice o (D 2) c)) b4 #[.slice o (D 2) c] 32) := zh (HZX.out.set 0 _)
   have hO := (Own.refl b4 W5).set 0 (.slice o (D 2) c)
   have HBX : Hid (Below w.heap.size w (W5.setCell ⟨b4, 0, none⟩ (.slice o (D 2) c))) := zh (HB5.out.trans (hO.below HGE.out HB5.out.size))
   have HTX : Hid (TL (W5.setCell ⟨b4, 0, none⟩ (.slice o (D 2) c)) o (D 2) (fun i => i + 1) (fun i j => D (3 + 32 * i + j))) := zh (HT5.out.away hO (HT5.out.not hrg.2.2.2.1 HZX.out (fun _ _ e => by cases e)))
   have HRG := zh hrg
   clear hb4 hrg hT hv5 hB9 hO
   go_wp2_with fail
   refine bodyPost_ret (v := .tuple #[.agg #[.slice o (D 2) c], .nilIface]) ?_ rfl (by have h9 := ROpen.ok (K := K) (Q := Q) (en := en) (w := w) (o := o) (c := c) ⟨by rw [HT.out]; exact HQ.out, by rw [HD.out]; exact HRG.out⟩ (by rw [HD.out]; exact HTX.out) HBX.out; rw [HD.out] at h9; exact h9)
   exact results_cell_tmp1 (q := 5) Tryz.results9 _ _ b4 32 #[.slice o (D 2) c] (0, 0) _ rfl HX.out Tryz.underlying32 rfl (info_rg _)
 ·have HNO : Hid (¬ (T = true ∧ IsRing en D)) := zh fun h => by rw [hq] at h; cases h.1
  have HB3 := zh hb3
  have HZX := HZ3
  clear hb3 hq
  have c4 : W3.cell? ⟨b4, 0, none⟩ = some (.slice none 0 0) := by rw [Blk.cell HZX.out]; rfl
  have f4 : W3.frozen? ⟨b4, 0, none⟩ = false := Blk.free HZX.out 0
  have HX : Hid (Blk (W3.setCell ⟨b4, 0, none⟩ (.slice none 0 0)) b4 #[.slice none 0 0] 32) := zh (HZX.out.set 0 _)
  have HBX : Hid (Below w.heap.size w (W3.setCell ⟨b4, 0, none⟩ (.slice none 0 0))) := zh (HB3.out.trans (((Own.refl b4 W3).set 0 _).below HGE.out HB3.out.size))
  go_wp2_with fail
  refine bodyPost_ret (v := .tuple #[.agg #[.slice none 0 0], .iface 53 (.int .i64 11)]) ?_ rfl (ROpen.no (by rw [HD.out, HT.out]; exact HNO.out) HBX.out)
  exact results_cell_tmp1 (q := 5) Tryz.results9 _ _ b4 32 #[.slice none 0 0] (0, 0) _ rfl HX.out Tryz.underlying32 rfl (info_rg _)
set_option maxHeartbeats 8000000
theorem encF_cat1 (n i k : Nat) (S : Nat → Nat → Nat) (hk : k < 32) : ∀ q, q < 3 + 32 * i + k + 1 → catF (3 + 32 * i + k) (encF n S) (fun _ => S i k) q = encF n S q := fun q hq => by
 unfold catF
 by_cases e : q < 3 + 32 * i + k
 ·rw [if_pos e]
 ·rw [if_neg e]
  obtain rfl : q = 3 + 32 * i + k := by omega
  unfold encF
  rw [if_neg (by omega), if_neg (by omega), if_neg (by omega), show (3 + 32 * i + k - 3) / 32 = i by omega, show (3 + 32 * i + k - 3) % 32 = k by omega]
theorem rencode_any (n cs : Nat) (oa : Option Addr) (N : Nat → Nat) (S : Nat → Nat → Nat) (w : World) (hT : TL w oa n N S) (hN : ∀ i, i < n → N i < 4294967296) (hS : ∀ i j, S i j < 256) (hn : n < 10000) :
  Calls Tryz.prog 31 #[.slice oa n cs] w fun e w' => Below w.heap.size w w' ∧ ((¬ OkT n N ∧ e = .returned (.tuple #[.slice none 0 0, .int .i64 1])) ∨ (OkT n N ∧ ∃ v, e = .returned (.tuple #[v, .int .i64 0]) ∧ Grow w' w.heap.size v (3 + 32 * n) (encF n S))) := by
 have HMY := zh (may_any n cs oa N S w hT hN (by omega))
 by_cases hok : OkT n N
 ·rw [mayT_ok hok] at HMY
  have HOK := zh hok
  have HT := zh hT
  have HS := zh hS
  have k8 : IntKind.u8.wrap (n : Int) = (n : Int) := IntWalk.u8_in _ (by have := hok.2.1; omega)
  have HN := zh (show n ≤ 16 from hok.2.1)
  clear hok hT hN hS hn
  go_enter Tryz.func31, Tryz.ntmps31
  go_upto_region 4 with (go_at_call 51; refine HMY.out.mono ?_; rintro e w1 ⟨rfl, hb1⟩)
  obtain ⟨w2, hw2⟩ := zX (w1.alloc (.cells #[.int .u8 107, .int .u8 114, .int .u8 (n : Int)] 5))
  have HG : Hid (Grow w2 w.heap.size (.slice (some ⟨w1.heap.size, 0, none⟩) 3 3) (3 + 32 * 0) (encF n S) ∧ Below w.heap.size w w2) := zh ⟨by rw [← hw2]; exact enc_three S hb1.size, by rw [← hw2]; exact hb1.trans ((Below.refl _ _).alloc hb1.size _)⟩
  rw [hw2]
  clear hb1 hw2
  go_wp2_with fail
  go_loopw [4, 5] (fun y4 y5 wr => ∃ (i : Nat) (v : Value), i ≤ n ∧ y4 = v ∧ y5 = .int .i64 (i : Int) ∧ Grow wr w.heap.size v (3 + 32 * i) (encF n S) ∧ Below w.heap.size w wr) (fun _ y _ => n - (intOf y).toNat)
  case atStart => exact ⟨0, _, Nat.zero_le _, rfl, rfl, HG.out.1, HG.out.2⟩
  case round =>
   obtain ⟨i, v, hi, rfl, rfl, hGv, hbw⟩ := hrel
   by_cases hlt : i < n
   ·skip
    have za1 : (i : Int) < (n : Int) := by omega
    have za2 : decide ((i : Int) < (n : Int)) = true := decide_eq_true za1
    have za7 : i < n := by omega
    have za8 : decide (i < n) = true := decide_eq_true za7
    have i0 : (0 : Int) ≤ (i : Int) := by omega
    have k4 : IntKind.i64.wrap ((i : Int) + 1) = ((i + 1 : Nat) : Int) := by have := HN.out; rw [IntWalk.i64_in _ (by omega)]; omega
    have HGV := zh (And.intro hGv hbw)
    have HI := zh hlt
    clear hGv hbw hi hlt
    go_wp2_with fail
    go_loopw [4, 6] (fun y4 y6 wr => ∃ (k : Nat) (v : Value), k ≤ 32 ∧ y4 = v ∧ y6 = .int .i64 (k : Int) ∧ Grow wr w.heap.size v (3 + 32 * i + k) (encF n S) ∧ Below w.heap.size w wr) (fun _ y _ => 32 - (intOf y).toNat)
    case atStart => exact ⟨0, _, Nat.zero_le _, rfl, rfl, HGV.out.1, HGV.out.2⟩
    case round =>
     obtain ⟨k, v, hk, rfl, rfl, hGv, hbw⟩ := hrel
     by_cases hkl : k < 32
     ·skip
      have zb1 : (k : Int) < (32 : Int) := by omega
      have zb2 : decide ((k : Int) < (32 : Int)) = true := decide_eq_true zb1
      have zb7 : k < 32 := by omega
      have zb8 : decide (k < 32) = true := decide_eq_true zb7
      have j0 : (0 : Int) ≤ (k : Int) := by omega
      have k5 : IntKind.i64.wrap ((k : Int) + 1) = ((k + 1 : Nat) : Int) := by rw [IntWalk.i64_in _ (by omega)]; omega
      obtain ⟨b, off, e, hrg⟩ := (HT.out.later hbw) i HI.out
      subst e
      obtain ⟨x, hx⟩ := zX (S i k)
      have hx8 : x < 256 := by rw [← hx]; exact HS.out _ _
      have hc : wr.cell? ⟨b, off + i * 33 + 1 + k, none⟩ = some (.int .u8 (x : Int)) := by
       have h9 := hrg (1 + k) _ (tmL_at (N i) (S i) hkl)
       rw [hx] at h9; rw [Nat.add_assoc]; exact h9
      have HGA : Hid (Grow (wr.alloc (.cells #[.int .u8 (x : Int)] 5)) w.heap.size u4 (3 + 32 * i + k) (encF n S)) := zh (hGv.later (zA))
      have HX := zh (And.intro hx (And.intro hkl hx8))
      have HBW := zh hbw
      clear hrg hx hGv hbw hk hkl hx8
      go_wp2_with (refine wpList_appO rfl (.tmp 24) (.tmp 32) rfl w.heap.size u4 (3 + 32 * i + k) 1 1 (some ⟨wr.heap.size, 0, none⟩) (encF n S) (fun _ => x) (wr.alloc (.cells #[.int .u8 (x : Int)] 5)) rfl HGA.out rfl (fun e => by cases e) (one_byte HX.out.2.2) (by have := HX.out.2.1; have := HI.out; have := HN.out; omega) (Nat.le_trans HBW.out.size (by simp)) ?_; intro v2 w3 hG2 hg2 hob2; have HG2 : Hid (Grow w3 w.heap.size v2 (3 + 32 * i + k + 1) (encF n S) ∧ Below w.heap.size w w3) := zh (And.intro (hG2.congr (by rw [← HX.out.1]; exact encF_cat1 n i k S HX.out.2.1)) ((HBW.out.trans ((Below.refl _ wr).alloc HBW.out.size (.cells #[.int .u8 (x : Int)] 5))).trans (grow_bel HGA.out (Nat.le_trans HBW.out.size (by simp)) hg2))); clear hG2 hg2 hob2)
      go_roundw
      case rel => exact ⟨k + 1, v2, HX.out.2.1, rfl, by first | rfl | go_num, HG2.out.1, HG2.out.2⟩
      case measure => have := HX.out.2.1; simp [intOf]; omega
     ·obtain rfl : k = 32 := by omega
      have HGB := zh (And.intro hGv hbw)
      clear hGv hbw hk hkl
      go_wp2_with fail
      go_roundw
      case rel => exact ⟨i + 1, u4, HI.out, rfl, by first | rfl | go_num, by rw [show 3 + 32 * (i + 1) = 3 + 32 * i + 32 by omega]; exact HGB.out.1, HGB.out.2⟩
      case measure => have := HI.out; simp [intOf]; omega
   ·obtain rfl : i = n := by omega
    have za1 : ¬ (i : Int) < (i : Int) := by omega
    have za2 : decide ((i : Int) < (i : Int)) = false := decide_eq_false za1
    have za7 : ¬ i < i := by omega
    have za8 : decide (i < i) = false := decide_eq_false za7
    have HGB := zh (And.intro hGv hbw)
    clear hGv hbw hi hlt
    go_wp2_with fail
    exact bodyPost_ret (results_tmp2 rfl _ _ _) rfl ⟨HGB.out.2, .inr ⟨HOK.out, _, rfl, HGB.out.1⟩⟩
 ·rw [mayT_no hok] at HMY
  have HOK := zh hok
  clear hok hT hN hS hn
  go_enter Tryz.func31, Tryz.ntmps31
  go_wp2_with (go_at_call 51; refine HMY.out.mono ?_; rintro e w1 ⟨rfl, hb1⟩)
  refine bodyPost_ret (results_tmp2 rfl _ _ _) rfl ⟨hb1, .inl ⟨HOK.out, rfl⟩⟩
theorem rexpand_any (oa oi : Option Addr) (n cn p ci : Nat) (K I : Nat → Nat) (z : Nat) (w : World) (hb : Bytes w oa n K) (hno : oa = none → n = 0) (hn : n < 800000000000) (hb2 : Bytes w oi p I) (hpo : oi = none → p = 0) (hp : p < 700000000000) (hz : z ≤ 8160) :
    Calls Tryz.prog 52 #[.slice oa n cn, .slice oi p ci, .int .i64 (z : Int)] w fun e w' => ∃ o c, e = .returned (.tuple #[.slice o z c, .int .i64 0]) ∧ Bytes w' o z (exF n K p I) ∧ (o = none → z = 0) ∧ Below w.heap.size w w' := by
  have hz32 := zero32_run
  have HKB : Hid (∀ w', Below w.heap.size w w' → Bytes w' oa n K) := zh fun w' h => hb.later h
  have HIB : Hid (∀ w', Below w.heap.size w w' → Bytes w' oi p I) := zh fun w' h => hb2.later h
  have HI8 : Hid (∀ i, i < p → I i < 256) := zh fun i hi => (hb2 i hi).1
  have HNC : Hid (n < 800000000000 ∧ p < 700000000000 ∧ z ≤ 8160) := zh ⟨hn, hp, hz⟩
  have HNO := zh hno
  have HPO := zh hpo
  obtain ⟨T, hT⟩ := zX (exT n K p I)
  obtain ⟨E, hE⟩ := zX (exF n K p I)
  have HTT : Hid (∀ t, hmN n K (0 + exL t + p + 1) (exM (exL t) p (T t) I (t + 1)) = T (t + 1)) := zh fun t => by rw [← hT]; rfl
  have HTL : Hid (∀ t j, T t j < 256) := zh fun t j => by rw [← hT]; exact exT_lt _ _ _ _ _ _
  have HEL : Hid (∀ j, E j < 256) := zh fun j => by rw [← hE]; exact exF_lt _ _ _ _ _
  have HES : Hid (∀ t j, j < 32 * t + 32 → catF (32 * t) E (T (t + 1)) j = E j) := zh fun t => by rw [← hE, ← hT]; exact exF_step n K p I t
  have z0 : ¬ (z : Int) < 0 := by omega
  have z1 : ¬ (8160 : Int) < (z : Int) := by omega
  have H0 := zh (ES.start w T E w (Below.refl _ _))
  rw [hE]
  clear hb hno hn hb2 hpo hp hz hT hE
  go_enter Tryz.func52, Tryz.ntmps52
  go_wp2_with fail
  go_loopw [8, 9, 10] (fun x y v wr => ∃ (t c : Nat) (vo : Value) (ol : Option Addr) (cl : Nat), t ≤ 255 ∧ t + 1 = c ∧ v = .int .i64 (c : Int) ∧ vo = x ∧ y = .slice ol (exL t) cl ∧ ES w t T E vo ol cl wr) (fun _ _ v _ => 512 - (intOf v).toNat)
  case atStart => exact ⟨0, 1, _, none, 0, by decide, rfl, rfl, rfl, rfl, H0.out⟩
  case round =>
    clear H0
    obtain ⟨t, c, vo, ol, cl, ht, hc, rfl, rfl, rfl, hX⟩ := hrel
    obtain ⟨oo, co, hvo, hBo, hco, hno⟩ := hX.g.bytesC (fun i _ => HEL.out i)
    subst hvo
    have HX := zh hX
    have HBO := zh hBo
    obtain ⟨q, hq⟩ := zX (32 * t)
    rw [hq] at hco hno
    have HCO : Hid (q ≤ co ∧ (oo = none → q = 0)) := zh ⟨hco, hno⟩
    have HQ := zh hq
    have u1 := wrb (m := 1) rfl hc.symm (by omega)
    have u2 : IntKind.i64.wrap (32 * (t : Int)) = (q : Int) := by rw [IntWalk.i64_in _ (by omega)]; omega
    have HTC : Hid (t + 1 = c ∧ t ≤ 255) := zh ⟨hc, ht⟩
    clear hX hBo hco hno
    rw [hq] at HX HBO ⊢
    by_cases hlt : q < z
    · as_aux_lemma =>
      have q1 : (q : Int) < (z : Int) := by omega
      have HT : Hid (t < 255 ∧ t + 1 = c ∧ 32 * t < z) := zh (by have := HNC.out; omega)
      have u3 : (c : Int) % 256 = (c : Int) := by have := HT.out; omega
      have u4 : IntKind.u8.wrap (c : Int) = (c : Int) := by have := HT.out; simp [IntKind.wrap, IntKind.bits, IntKind.signed]; omega
      have HJ0 : Hid (JG wr (.slice none 0 0) 0 (fun _ => 0) wr) := zh ⟨Grow.nil _ _ _, Below.refl _ _⟩
      obtain ⟨c2, hc2⟩ := zX (c + 1)
      have u5 := wrk (m := 1) rfl hc2 (by omega)
      have HC2 : Hid (c + 1 = c2) := zh hc2
      clear hlt ht hc hq hc2
      go_wp2_with (first
        | (refine wpList_appO rfl (.tmp 26) (.tmp 27) rfl wr.heap.size (.slice none 0 0) 0 (exL t) cl ol (fun _ => 0) (T t) wr rfl HJ0.out.g rfl HX.out.c.2 HX.out.b (by have := exL_le t; omega) (Nat.le_refl _) ?_; intro v1 w1 hG1 hg1 hob1; have HJ1 := zh (HJ0.out.grew hg1 hG1); clear hG1 hg1 hob1)
        | (refine wpList_appO rfl (.tmp 28) (.tmp 29) rfl wr.heap.size v1 (0 + exL t) p ci oi (catF 0 (fun _ => 0) (T t)) I w1 rfl HJ1.out.g rfl HPO.out (HIB.out _ (HX.out.o.trans (HJ1.out.o.mono HX.out.o.size))) (by have := exL_le t; have := HNC.out; omega) HJ1.out.o.size ?_; intro v2 w2 hG2 hg2 hob2; have HJ2 := zh ((HJ1.out.grew hg2 hG2).later ((Below.refl _ _).alloc (Nat.le_refl _) (.cells #[.int .u8 (c : Nat)] 5))); clear hG2 hg2 hob2 HJ1)
        | (refine wpList_appO rfl (.tmp 30) (.tmp 33) rfl wr.heap.size v2 (0 + exL t + p) 1 1 (some ⟨w2.heap.size, 0, none⟩) (catF (0 + exL t) (catF 0 (fun _ => 0) (T t)) I) (fun _ => c) (w2.alloc (.cells #[.int .u8 (c : Nat)] 5)) rfl HJ2.out.g rfl (fun h => by cases h) (one_byte (by have := HT.out; omega)) (by have := exL_le t; have := HNC.out; omega) HJ2.out.o.size ?_; intro v3 w3 hG3 hg3 hob3; have HJ3 := zh (HJ2.out.grew hg3 hG3); obtain ⟨o3, c3, hv3, hB3, _, hn3⟩ := hG3.bytesC (by
            intro i hi
            refine catF_b (catF_b (catF_b (fun i hi => absurd hi (Nat.not_lt_zero _)) (fun i _ => HTL.out t i)) HI8.out) (fun i _ => ?_) i hi
            have := HT.out; show c < 256; omega); subst hv3; have HB3 := zh hB3; have HN3 := zh hn3; clear hG3 hg3 hob3 HJ2 hB3 hn3))
      clear q1 u3 u4
      have hD : hmN n K (0 + exL t + p + 1) (catF (0 + exL t + p) (catF (0 + exL t) (catF 0 (fun _ => 0) (T t)) I) (fun _ => c)) = T (t + 1) := by rw [← HT.out.2.1]; exact HTT.out t
      have hMC := rmac_any oa o3 n cn (0 + exL t + p + 1) c3 K _ w3 (HKB.out _ (HX.out.o.trans (HJ3.out.o.mono HX.out.o.size))) HNO.out HNC.out.1 HB3.out HN3.out (by have := exL_le t; have := HNC.out; omega)
      rw [hD, show 0 + exL t + p + 1 = exL t + p + 1 by omega] at hMC
      refine hMC.mono ?_
      rintro e w6 ⟨rfl, hb6⟩
      obtain ⟨CD, hCD⟩ := zX ((rowC 32 (T (t + 1))).toArray)
      have HI : Hid ((Tryz.prog.info? 22).map (·.size) = some CD.size) := zh (hCD ▸ info27 _)
      have HI1 : Hid (CD.all (·.oneCell') = true) := zh (hCD ▸ one32 _)
      obtain ⟨g1, hg1⟩ := zX w6.heap.size
      obtain ⟨wc, hwc⟩ := zX (w6.alloc (.cells zero32 22))
      obtain ⟨w8, hw8⟩ := zX (wc.setCells g1 0 CD.toList)
      have hl := lay32 w6 (T (t + 1)) hCD
      rw [hg1, hwc, hw8] at hl
      have HTH := zh hl.2.2
      have H8 : Hid (ES w t T E (.slice oo q co) ol cl w8 ∧ Bytes w8 (some ⟨g1, 0, none⟩) 32 (T (t + 1)) ∧ (Value.slice oo q co).ownBlock ≠ some g1) := zh (by
        have h6 := HJ3.out.o.trans (hb6.mono HJ3.out.o.size)
        have h8 := h6.trans (hl.2.1.mono (by rw [← hg1]; exact h6.size))
        refine ⟨HX.out.later h8, RB.bytes hl.1 fun i _ => HTL.out _ i, fun e => ?_⟩
        have h9 := (HX.out.g.lt g1 e).2
        have := h6.size
        omega)
      rw [hCD]
      clear hl hb6 hD hCD hMC HX HBO HJ0 HJ3 HB3 HN3
      go_wp2_with (first
        | (refine wpList_store_mid rfl 22 (.tmp 12) (.tmp 37) rfl g1 0 CD rfl rfl HTH.out HI.out HI1.out ?_; rw [hw8])
        | (refine wpList_appO rfl (.tmp 39) (.tmp 40) rfl w.heap.size (.slice oo q co) (32 * t) 32 32 (some ⟨g1, 0, none⟩) E (T (t + 1)) w8 rfl H8.out.1.g rfl (fun h => by cases h) H8.out.2.1 (by have := HT.out; omega) H8.out.1.o.size ?_; intro v9 w9 hG9 hg9 hob9; have H9 := zh (H8.out.1.next H8.out.2.1 H8.out.2.2 hg9 hG9 hob9 (HES.out t)); clear hG9 hg9 hob9 H8))
      clear hw8 hwc hg1 HTH HI HI1
      go_roundw
      case rel => exact ⟨t + 1, c2, _, some ⟨g1, 0, none⟩, 32, by have := HT.out; omega, by have := HT.out; have := HC2.out; omega, rfl, rfl, by rw [exL_pos (by omega)], H9.out⟩
      case measure => have := HT.out; have := HC2.out; simp [intOf]; omega
    · have q1 : ¬ (q : Int) < (z : Int) := by omega
      have z2 : (0 : Int) ≤ (z : Int) := by omega
      have z3 : (z : Int) ≤ (co : Int) := by have := HCO.out; omega
      clear hc ht
      go_wp2_with fail
      go_ret2
      exact ⟨oo, ⟨co, rfl⟩, HBO.out.mono (by have := HCO.out; omega), fun e => by have h := HCO.out.2 e; omega, HX.out.o⟩
set_option maxHeartbeats 4000000
theorem catz {n : Nat} {f g : Nat → Nat} (m : Nat) : ∀ i, i < m → catF (0 + n) (catF 0 (fun _ => 0) f) g i = catF n f g i := fun i _ => by
 have e : catF 0 (fun _ => 0) f = f := funext fun i => by unfold catF; rw [if_neg (Nat.not_lt_zero i), Nat.sub_zero]
 rw [e, Nat.zero_add]
theorem rkey_any (oa : Option Addr) (cn : Nat) (K : Nat → Nat) (s : ByteArray) (x : Nat) (w : World) (hb : Bytes w oa 32 K) (hs1 : 1 ≤ s.size) (hs2 : s.size ≤ 32) (hx : x < 4294967296) :
  Calls Tryz.prog 32 #[.slice oa 32 cn, .string s, .int .u32 (x : Int)] w fun e w' => ∃ o c, e = .returned (.tuple #[.slice o 32 c, .int .i64 0]) ∧ Bytes w' o 32 (exF 32 K (s.size + 5) (kiF s x)) ∧ Below w.heap.size w w' := by
 have HKB : Hid (∀ w', Below w.heap.size w w' → Bytes w' oa 32 K) := zh fun w' h => hb.later h
 have HNO : Hid (oa = none → 32 = 0) := zh fun e => by obtain ⟨_, b, off, e2, _⟩ := hb 0 (by decide); rw [e] at e2; cases e2
 have HS : Hid (1 ≤ s.size ∧ s.size ≤ 32) := zh ⟨hs1, hs2⟩
 have h4 : ¬ (s.size : Int) < 1 := by omega
 have h5 : ¬ (32 : Int) < (s.size : Int) := by omega
 obtain ⟨b0, hd0⟩ := zX (x / 16777216)
 obtain ⟨d1, hd1⟩ := zX (x / 65536)
 obtain ⟨d2, hd2⟩ := zX (x / 256)
 obtain ⟨b1, hb1⟩ := zX (d1 % 256)
 obtain ⟨b2, hb2⟩ := zX (d2 % 256)
 obtain ⟨b3, hb3⟩ := zX (x % 256)
 have e0 : numB x 4 0 = b0 := by show x / 16777216 % 256 = b0; omega
 have e1 : numB x 4 1 = b1 := by show x / 65536 % 256 = b1; omega
 have e2 : numB x 4 2 = b2 := by show x / 256 % 256 = b2; omega
 have e3 : numB x 4 3 = b3 := by show x / 1 % 256 = b3; omega
 have H5 : Hid (∀ w', Bytes (World.alloc w' (.cells #[.int .u8 0, .int .u8 (b0 : Nat), .int .u8 (b1 : Nat), .int .u8 (b2 : Nat), .int .u8 (b3 : Nat)] 5)) (some ⟨w'.heap.size, 0, none⟩) 5 (kTl x)) := zh fun w' => five_bytes e0 e1 e2 e3
 have q0 : (x : Int).tdiv 16777216 = (b0 : Int) := tdk rfl hd0
 have q1 : (x : Int).tdiv 65536 = (d1 : Int) := tdk rfl hd1
 have q2 : (x : Int).tdiv 256 = (d2 : Int) := tdk rfl hd2
 have r1 : (d1 : Int).tmod 256 = (b1 : Int) := tmk rfl hb1
 have r2 : (d2 : Int).tmod 256 = (b2 : Int) := tmk rfl hb2
 have r3 : (x : Int).tmod 256 = (b3 : Int) := tmk rfl hb3
 have q5 : (x : Int) / 16777216 = (b0 : Int) := by omega
 have q6 : (x : Int) / 65536 = (d1 : Int) := by omega
 have q7 : (x : Int) / 256 = (d2 : Int) := by omega
 have r5 : (d1 : Int) % 256 = (b1 : Int) := by omega
 have r6 : (d2 : Int) % 256 = (b2 : Int) := by omega
 have r7 : (x : Int) % 256 = (b3 : Int) := by omega
 have w0 : IntKind.u32.wrap (b0 : Int) = (b0 : Int) := by rw [IntKind.wrap_u32]; omega
 have w1 : IntKind.u32.wrap (d1 : Int) = (d1 : Int) := by rw [IntKind.wrap_u32]; omega
 have w2 : IntKind.u32.wrap (d2 : Int) = (d2 : Int) := by rw [IntKind.wrap_u32]; omega
 have w3 : (b0 : Int) % 4294967296 = (b0 : Int) := by omega
 have w4 : (d1 : Int) % 4294967296 = (d1 : Int) := by omega
 have w5 : (d2 : Int) % 4294967296 = (d2 : Int) := by omega
 have w6 : (b1 : Int) % 4294967296 = (b1 : Int) := by omega
 have w7 : (b2 : Int) % 4294967296 = (b2 : Int) := by omega
 have w8 : (b3 : Int) % 4294967296 = (b3 : Int) := by omega
 have s0 : (b0 : Int) % 256 = (b0 : Int) := by omega
 have s1 : (b1 : Int) % 256 = (b1 : Int) := by omega
 have s2 : (b2 : Int) % 256 = (b2 : Int) := by omega
 have s3 : (b3 : Int) % 256 = (b3 : Int) := by omega
 have HJ0 : Hid (JG w (.slice none 0 0) 0 (fun _ => 0) w) := zh ⟨Grow.nil _ _ _, Below.refl _ _⟩
 clear hb hs1 hs2 hx e0 e1 e2 e3 hd0 hd1 hd2 hb1 hb2 hb3
 go_enter Tryz.func32, Tryz.ntmps32
 go_wp2_with (first
  | (refine wpList_convS rfl (.tmp 23) rfl s w rfl (by have := HS.out; unfold maxLen; omega) ?_; intro cap v1 hcm1 hs1' hb1'; have HB1 := zh hs1'.bytes; have HJ1 := zh (HJ0.out.later hb1'); clear hcm1 hs1' hb1')
  | (refine wpList_appO rfl (.tmp 22) (.tmp 24) rfl w.heap.size (.slice none 0 0) 0 s.size cap (some ⟨w.heap.size, 0, none⟩) (fun _ => 0) (byteF s) v1 rfl HJ1.out.g rfl (fun h => by cases h) HB1.out (by have := HS.out; omega) HJ1.out.o.size ?_; intro va v2 hG2 hg2 hob2; have HJ2 := zh ((HJ1.out.grew hg2 hG2).later ((Below.refl _ _).alloc (Nat.le_refl _) (.cells #[.int .u8 0, .int .u8 (b0 : Nat), .int .u8 (b1 : Nat), .int .u8 (b2 : Nat), .int .u8 (b3 : Nat)] 5))); clear hG2 hg2 hob2)
  | (refine wpList_appO rfl (.tmp 26) (.tmp 41) rfl w.heap.size va (0 + s.size) 5 5 (some ⟨v2.heap.size, 0, none⟩) (catF 0 (fun _ => 0) (byteF s)) (kTl x) (v2.alloc (.cells #[.int .u8 0, .int .u8 (b0 : Nat), .int .u8 (b1 : Nat), .int .u8 (b2 : Nat), .int .u8 (b3 : Nat)] 5)) rfl HJ2.out.g rfl (fun h => by cases h) (H5.out v2) (by have := HS.out; omega) HJ2.out.o.size ?_; intro vb v3 hG3 hg3 hob3; have HJ3 : Hid (JG w vb (s.size + 5) (kiF s x) v3) := zh (by have hh := HJ2.out.grew hg3 (hG3.congr (catz (n := s.size) (f := byteF s) (g := kTl x) (0 + s.size + 5))); rw [Nat.zero_add] at hh; exact hh); clear hG3 hg3 hob3))
 obtain ⟨o3, c3, hv3, hB3, hc3, hn3⟩ := HJ3.out.g.bytesC (by
  intro i hi
  show catF s.size (byteF s) (kTl x) i < 256
  unfold catF
  split
  ·exact byteF_lt _ _
  ·exact kTl_lt _ _)
 subst hv3
 have H3 : Hid (Bytes v3 o3 (s.size + 5) (kiF s x) ∧ (o3 = none → s.size + 5 = 0) ∧ Below w.heap.size w v3) := zh ⟨hB3, hn3, HJ3.out.o⟩
 clear hB3 hc3 hn3 HJ0 HJ1 HJ2 HJ3 HB1 H5 q0 q1 q2 r1 r2 r3 q5 q6 q7 r5 r6 r7 w0 w1 w2 w3 w4 w5 w6 w7 w8 s0 s1 s2 s3
 have hEX : Calls Tryz.prog 52 #[.slice oa 32 cn, .slice o3 (s.size + 5) c3, .int .i64 32] v3 _ := rexpand_any oa o3 32 cn (s.size + 5) c3 K (kiF s x) 32 v3 (HKB.out _ H3.out.2.2) HNO.out (by decide) H3.out.1 H3.out.2.1 (by have := HS.out; omega) (by decide)
 refine hEX.mono ?_
 rintro e v4 ⟨o, c, rfl, hB4, hn4, hb4⟩
 have H4 : Hid (Bytes v4 o 32 (exF 32 K (s.size + 5) (kiF s x)) ∧ Below w.heap.size w v4) := zh ⟨hB4, H3.out.2.2.trans (hb4.mono H3.out.2.2.size)⟩
 clear hB4 hn4 hb4 H3 hEX
 go_wp2_with fail
 go_ret2
 exact ⟨o, c, rfl, H4.out.1, H4.out.2⟩
set_option maxHeartbeats 1600000
def rnbF (t n k i : Nat) : Nat := if 12 ≤ i + k then nbF t n i else 0
theorem nbF_n {t n : Nat} (hn : n < 18446744073709551616) {k : Nat} (hk : k < 8) : nbF t n (11 - k) = n / 256 ^ k % 256 := by
 match k, hk with
 | 0, _ => show n % 256 = n / 1 % 256; rw [Nat.div_one]
 | 1, _ => rfl
 | 2, _ => rfl
 | 3, _ => rfl
 | 4, _ => rfl
 | 5, _ => rfl
 | 6, _ => rfl
 | 7, _ => show n / 72057594037927936 = n / 72057594037927936 % 256; omega
theorem nbF_t {t n : Nat} (ht : t < 4294967296) {k : Nat} (hk : k < 4) : nbF t n (3 - k) = t / 256 ^ k % 256 := by
 match k, hk with
 | 0, _ => show t % 256 = t / 1 % 256; rw [Nat.div_one]
 | 1, _ => rfl
 | 2, _ => rfl
 | 3, _ => show t / 16777216 = t / 16777216 % 256; omega
theorem rnbF_step {t n k d v : Nat} (hd : d + k = 11) (hv : nbF t n d = v) : ∀ i, i < 12 → upd (rnbF t n k) d v i = rnbF t n (k + 1) i := fun i hi => by
 unfold upd rnbF
 by_cases e : i = d
 ·subst e; rw [if_pos rfl, if_pos (by omega), hv]
 ·rw [if_neg e]
  by_cases h : 12 ≤ i + k
  ·rw [if_pos h, if_pos (by omega)]
  ·rw [if_neg h, if_neg (by omega)]
theorem Row.congr' {w : World} {g n : Nat} {f f' : Nat → Nat} (h : Row w g n f) (he : ∀ i, i < n → f i = f' i) : Row w g n f' := by
 unfold Row at h ⊢; rw [← rowC_congr he]; exact h
theorem below_grown' {B : Nat} {w w1 : World} (hg : w.grownBy w1 none) (hB : B ≤ w.heap.size) : Below B w w1 := (Below.refl _ w).grown hg hB (fun _ h => by cases h)
theorem rbytes_any (t n : Nat) (w : World) (ht : t < 4294967296) (hn : n < 18446744073709551616) :
  Calls Tryz.prog 29 #[.int .u32 t, .int .u64 n] w fun e w' => ∃ g, e = .returned (.slice (some ⟨g, 0, none⟩) 12 12) ∧ Row w' g 12 (nbF t n) ∧ Below w.heap.size w w' := by
 obtain ⟨i0, hi, hz0, hz1, hz2⟩ := info_parts info_u8
 have HT := zh ht
 have HN := zh hn
 clear ht hn
 go_enter Tryz.func29, Tryz.ntmps29
 go_wp2_with (at_make; refine wpList_make_full _ rfl _ _ 24 rfl w.heap.size 5 i0 (.int .u8 0) 1 Tryz.underlying24 hi hz0 hz1 .i64 .i64 (12 : Int) (12 : Int) 12 rfl rfl rfl rfl ?c1 ?c2 (Nat.le_refl _) ?_)
 case c1 => rw [hz2]; omega
 case c2 => unfold maxLen; omega
 intro w2 hown2 hg2
 have hR : Row w2 w.heap.size 12 (fun _ => 0) := Row.made hown2
 have hR0 : Row w2 w.heap.size 12 (rnbF t n 0) := hR.congr' fun i hi => (if_neg (by omega)).symm
 have hb2 : Below w.heap.size w w2 := below_grown' hg2 (Nat.le_refl _)
 obtain ⟨g, hg⟩ := zX w.heap.size
 have HG : Hid _ := hg
 rw [hg] at hR0 hb2 ⊢
 clear hown2 hg2 hR hi hz0 hz1 hz2 hg
 go_wp2_with fail
 go_loopw [1, 6] (fun nv i wr => ∃ k : Nat, k ≤ 8 ∧ i = .int .i64 (11 - (k : Int)) ∧ nv = .int .u64 ((n / 256 ^ k : Nat) : Int) ∧ Row wr g 12 (rnbF t n k) ∧ Below g w wr) (fun _ i _ => (intOf i).toNat)
 case atStart => exact ⟨0, Nat.zero_le _, rfl, by rw [Nat.pow_zero, Nat.div_one], hR0, hb2⟩
 case round =>
  obtain ⟨k, hk, rfl, rfl, hX, hO⟩ := hrel
  clear hR0 hb2
  by_cases hlt : k < 8
  ·obtain ⟨d, hd⟩ : ∃ d : Nat, 11 - k = d := ⟨_, rfl⟩
   have hdi : (11 : Int) - (k : Int) = (d : Int) := by omega
   have hv : nbF t n d = n / 256 ^ k % 256 := hd ▸ nbF_n HN.out hlt
   have hs : n / 256 ^ (k + 1) = n / 256 ^ k / 256 := by rw [Nat.pow_succ, Nat.div_div_eq_div_mul]
   have hql : n / 256 ^ k < 18446744073709551616 := Nat.lt_of_le_of_lt (Nat.div_le_self _ _) HN.out
   have c1 : wr.cell? ⟨g, d, none⟩ = some (.int .u8 (rnbF t n k d : Nat)) := hX.cell (by omega)
   have f1 : wr.frozen? ⟨g, d, none⟩ = false := Blk.free hX d
   have hst := rnbF_step (t := t) (n := n) (k := k) (d := d) (by omega) hv
   rw [hdi]
   have d0 : (4 : Int) ≤ (d : Int) := by omega
   have d1 : (d : Int) < 12 := by omega
   obtain ⟨q, hq⟩ := zX (n / 256 ^ k)
   rw [hq] at hs hql hst hv ⊢
   have hX4 : Row (wr.setCell ⟨g, d, none⟩ (.int .u8 ((q : Int) % 256))) g 12 (rnbF t n (k + 1)) := Row.congr' (hX.set d (q % 256)) hst
   have hO4 : Below g w (wr.setCell ⟨g, d, none⟩ (.int .u8 ((q : Int) % 256))) := hO.setCell (Nat.le_refl _) _
   have HX4 := zh hX4
   have HO4 := zh hO4
   have HS : Hid _ := hs
   clear hX hO hX4 hO4 hs hst hv hq hdi
   generalize rnbF t n k d = z at *
   go_wp2_with fail
   go_roundw
   case rel => exact ⟨k + 1, by omega, by congr 1; omega, by rw [HS.out]; go_num, HX4.out, HO4.out⟩
   case measure => simp [intOf] <;> omega
  ·obtain rfl : k = 8 := by omega
   have e3 : (11 : Int) - ((8 : Nat) : Int) = 3 := by decide
   rw [e3]
   generalize hqq : n / 256 ^ 8 = q8
   clear hqq e3
   go_wp2_with fail
   go_loopw [0, 7] (fun tv i wr => ∃ k : Nat, k ≤ 4 ∧ i = .int .i64 (3 - (k : Int)) ∧ tv = .int .u32 ((t / 256 ^ k : Nat) : Int) ∧ Row wr g 12 (rnbF t n (8 + k)) ∧ Below g w wr) (fun _ i _ => (intOf i + 1).toNat)
   case atStart => exact ⟨0, Nat.zero_le _, rfl, by rw [Nat.pow_zero, Nat.div_one], hX, hO⟩
   case round =>
    obtain ⟨k, hk, rfl, rfl, hX2, hO2⟩ := hrel
    clear hX hO
    by_cases hlt : k < 4
    ·obtain ⟨d, hd⟩ : ∃ d : Nat, 3 - k = d := ⟨_, rfl⟩
     have hdi : (3 : Int) - (k : Int) = (d : Int) := by omega
     have hv : nbF t n d = t / 256 ^ k % 256 := hd ▸ nbF_t HT.out hlt
     have hs : t / 256 ^ (k + 1) = t / 256 ^ k / 256 := by rw [Nat.pow_succ, Nat.div_div_eq_div_mul]
     have hql : t / 256 ^ k < 4294967296 := Nat.lt_of_le_of_lt (Nat.div_le_self _ _) HT.out
     have c1 : wr.cell? ⟨g, d, none⟩ = some (.int .u8 (rnbF t n (8 + k) d : Nat)) := hX2.cell (by omega)
     have f1 : wr.frozen? ⟨g, d, none⟩ = false := Blk.free hX2 d
     have hst := rnbF_step (t := t) (n := n) (k := 8 + k) (d := d) (by omega) hv
     rw [hdi]
     have d0 : (0 : Int) ≤ (d : Int) := by omega
     have d1 : (d : Int) < 12 := by omega
     obtain ⟨q, hq⟩ := zX (t / 256 ^ k)
     rw [hq] at hs hql hst hv ⊢
     have hX4 : Row (wr.setCell ⟨g, d, none⟩ (.int .u8 ((q : Int) % 256))) g 12 (rnbF t n (8 + (k + 1))) := Row.congr' (hX2.set d (q % 256)) hst
     have hO4 : Below g w (wr.setCell ⟨g, d, none⟩ (.int .u8 ((q : Int) % 256))) := hO2.setCell (Nat.le_refl _) _
     have HX4 := zh hX4
     have HO4 := zh hO4
     have HS : Hid _ := hs
     clear hX2 hO2 hX4 hO4 hs hst hv hq hdi
     generalize rnbF t n (8 + k) d = z at *
     go_wp2_with fail
     go_roundw
     case rel => exact ⟨k + 1, by omega, by congr 1 <;> omega, by rw [HS.out]; go_num, HX4.out, HO4.out⟩
     case measure => simp [intOf] <;> omega
    ·obtain rfl : k = 4 := by omega
     have hfin : Row wr g 12 (nbF t n) := hX2.congr' fun i hi => if_pos (by omega)
     have HF := zh hfin
     have HO := zh hO2
     have e3 : (3 : Int) - ((4 : Nat) : Int) = -1 := by decide
     rw [e3]
     generalize hqq : t / 256 ^ 4 = q4
     clear hqq e3 hX2 hO2 hfin
     go_wp2_with fail
     go_ret
     exact ⟨g, rfl, HF.out, by rw [HG.out]; exact HO.out⟩
set_option maxHeartbeats 8000000
theorem rkey_anyG (f : Nat → Nat) (oa : Option Addr) (cap : Nat) (w : World) (hb : Bytes w oa 32 f) :
    Calls Tryz.prog 50 #[.slice oa 32 cap] w fun e w' => e = .returned (.agg (kyC (exK f 60))) ∧ Below w.heap.size w w' := by
  obtain ⟨br, hbr⟩ := zX w.heap.size
  obtain ⟨w1, hw1⟩ := zX (w.alloc (.cells zKy 74))
  have hb1 : Below w.heap.size w w1 := by rw [← hw1]; exact zA
  have hk1 : Blk w1 br zKy 74 := by rw [← hw1, ← hbr]; exact Blk.new _ _ _
  have HRD := zh (rReady_any f oa cap w1 (hb.later hb1))
  have H1 := zh (show Below w.heap.size w w1 ∧ Blk w1 br zKy 74 from ⟨hb1, hk1⟩)
  have HLT := zh (show w.heap.size ≤ br by omega)
  obtain ⟨W, hW⟩ := zX (exK f 60)
  obtain ⟨ZK, hZK⟩ := zX zKy
  obtain ⟨ZC, hZC⟩ := zX zCi
  obtain ⟨KC, hKC⟩ := zX (kyC W)
  obtain ⟨CI, hCI⟩ := zX ((rowC 496 (cF W)).toArray)
  obtain ⟨EH, hEH⟩ := zX ((rowC 16 (encK subN W (fun _ => 0) 14)).toArray)
  have HKC : Hid (KC.size ≤ ZK.size ∧ (Tryz.prog.info? 74).map (·.size) = some KC.size ∧ KC.all (·.oneCell') = true ∧ KC.size = ZK.size) := zh (by
    rw [← hKC, ← hZK, kyC_size, zKy_size]; exact ⟨Nat.le_refl _, info_ky, ky_one W, rfl⟩)
  have HCC : Hid (CI.size ≤ ZC.size ∧ (Tryz.prog.info? 71).map (·.size) = some CI.size ∧ CI.all (·.oneCell') = true ∧ CI.size = ZC.size) := zh (by
    rw [← hCI, ← hZC, zCi_size, List.size_toArray, rowC_len]; exact ⟨Nat.le_refl _, info_ci, all_oneCell_toArray (rowC_one _ _), rfl⟩)
  have HEN : Hid (∀ A, Calls Tryz.prog 73 #[.agg CI, .agg zero16] A fun e w' => e = .returned (.agg EH) ∧ Below A.heap.size A w') := zh fun A => by
    rw [← hCI, ← hEH]; exact renc_any W (fun _ => 0) A (fun _ _ => by show 0 < 256; decide)
  have HBK : Hid (∀ w, (Instr.build 74 #[(0, .agg CI), (1, .agg EH)]).run Tryz.prog w = .ok (.agg KC) w) := zh (by rw [← hCI, ← hEH, ← hKC]; exact bk_run W)
  rw [hW, hCI] at HRD
  rw [hW, hKC]
  have hz := zKy_run
  rw [hZK] at hz H1 hw1
  have hzc := zCi_run
  rw [hZC] at hzc
  have HZC := zh (show ∀ w, (zeroValue 71).run Tryz.prog w = .ok (.agg ZC) w from hzc)
  have HCIR : Hid (∀ A b, Blk A b CI 71 → (loadVar 71 ⟨b, 0, none⟩).run Tryz.prog A = .ok (.agg CI) A) := zh fun A b hB => by
    have h9 := run_loadVar_mid A b 0 71 (rowC 496 (cF W)) _ (by rw [← hCI] at hB; exact Blk.range hB) Tryz.underlying71 rfl (by rw [rowC_len]; exact info_ci)
    rw [hCI] at h9; exact h9
  clear hZK hZC hKC hCI hEH hzc
  clear hb hb1 hk1 hW
  go_enter Tryz.func50, Tryz.ntmps50
  go_wp2_with fail
  refine HRD.out.mono ?_
  rintro e w2 ⟨rfl, hb2⟩
  obtain ⟨bc, hbc⟩ := zX w2.heap.size
  obtain ⟨w3, hw3⟩ := zX (w2.alloc (.cells ZC 71))
  have hb3 : Below w2.heap.size w2 w3 := by rw [← hw3]; exact zA
  have hk3 : Blk w3 bc ZC 71 := by rw [← hw3, ← hbc]; exact Blk.new _ _ _
  have hr2 := Blk.below H1.out.2 hb2 (Blk.lt H1.out.2)
  have HBC := zh (show br < bc by have := Blk.lt hr2; omega)
  have HR3 := zh (Blk.below hr2 hb3 (Blk.lt hr2))
  have hb02 := H1.out.1.trans (hb2.mono H1.out.1.size)
  have HB3 := zh (hb02.trans (hb3.mono hb02.size))
  have HK3 := zh hk3
  have hzc := HZC.out
  clear hb2 hb3 hk3 hr2 hb02 HRD
  go_wp2_with (first
    | (refine wpList_store_mid rfl 71 (.tmp 3) (.tmp 5) rfl bc 0 CI rfl rfl (Blk.thereAll HK3.out _ HCC.out.1) HCC.out.2.1 HCC.out.2.2.1 ?_
       obtain ⟨w4, hw4⟩ := zX (w3.setCells bc 0 CI.toList)
       have hO : Own bc w3 w4 := (by rw [← hw4]; exact Own.setCells _ _ _)
       have HK4 : Hid (Blk w4 bc CI 71) := zh (by rw [← hw4]; exact Blk.whole HK3.out HCC.out.2.2.2)
       have HR4 := zh (hO.blk HR3.out (Nat.ne_of_lt HBC.out))
       have HB4 := zh (HB3.out.trans (hO.below (by have := HBC.out; have := HLT.out; omega) HB3.out.size))
       rw [hw4]
       clear hw4 hO
       refine Hid.out ?_))
  refine zh ?_
  clear hz hzc
  have hbd := (Below.refl w4.heap.size w4).drew
  have HW4 := zh (HB4.out.trans (hbd.mono HB4.out.size))
  have HZR := zh (Blk.below HR4.out hbd (Blk.lt HR4.out))
  have HCI : Hid (∀ A', Own br w4.drew A' → (loadVar 71 ⟨bc, 0, none⟩).run Tryz.prog A' = .ok (.agg CI) A') := zh fun A' hA => HCIR.out A' bc (hA.blk (Blk.below HK4.out hbd (Blk.lt HK4.out)) (Nat.ne_of_gt HBC.out))
  clear hbd HB4 HR4 HK4 HB3 HR3 HK3 hw3 hw1
  go_upto_region 2 with fail
  refine wp_region_held_drew (S := (Own br w4.drew)) (by kernel_rfl) ?_ (fun hHeld => ?_)
  · (try dsimp only)
    (first | exact Own.refl _ _ | assumption)
  generalize w4.drew = WR at *
  refine wT 0 ?_ rfl ?_ ?_
  rotate_left
  · intro wS hSw
    (have c9 := HCI.out wS hSw; refine exec_loadC (ty := 71) (v := .agg CI) (b := bc) (f := 0) (x := .tmp 3) ?_ ?_ c9 <;> rfl)
  (try simp only [Act.put, zS])
  refine wT 1 ?_ rfl ?_ ?_
  rotate_left
  · intro wS hSw
    (have c9 := HCI.out wS hSw; refine exec_loadC (ty := 71) (v := .agg CI) (b := bc) (f := 0) (x := .tmp 3) ?_ ?_ c9 <;> rfl)
  (try simp only [Act.put, zS])
  refine wT 2 ?_ rfl ?_ ?_
  rotate_left
  · intro wS hSw
    (refine exec_builda (parts := #[]) (ps := #[]) (C := zero16) ?_ ?_ build_nonea <;> first | rfl | simp)
  (try simp only [Act.put, zS])
  refine wR [3] ?_
  refine aN rfl fun K hK => ?_
  go_simp
  (refine (HEN.out WR).mono ?_; rintro e V1 ⟨rfl, hb1⟩; have HB1 := zh hb1; have hkp := Own.of_below (b := br) hb1; have HR1 := zh (Blk.below HZR.out hb1 (Blk.lt HZR.out)); clear hb1; skip)
  (try go_wp2_with fail)
  refine hK.out _ _ ?_ fun hHeld => ?_
  · (try dsimp only)
    (first | exact Own.refl _ _ | assumption)
  clear hK K
  (try simp only [Act.put, zS])
  refine wT 4 ?_ rfl ?_ ?_
  rotate_left
  · intro wS hSw
    (refine exec_buildKG (parts := #[(0, .tmp 6), (1, .tmp 9)]) (C := KC) (ps := #[(0, .agg CI), (1, .agg EH)]) ?_ ?_ HBK.out <;> first | rfl | (simp; exact ⟨rfl, rfl⟩))
  (try simp only [Act.put, zS])
  refine wR [5] ?_
  refine aN rfl fun K hK => ?_
  (refine step_storeM (by rfl) 74 (.tmp 2) (.tmp 10) rfl br 0 KC rfl rfl (Blk.thereAll HR1.out _ HKC.out.1) HKC.out.2.1 HKC.out.2.2.1 ?_; obtain ⟨V2, hV2⟩ := zX (V1.setCells br 0 KC.toList); have HV2 : Hid (Blk V2 br KC 74 ∧ Own br V1 V2) := zh (by rw [← hV2]; exact ⟨Blk.whole HR1.out HKC.out.2.2.2, Own.setCells _ _ _⟩); rw [hV2]; have hkp2 := hkp.trans HV2.out.2; clear hV2; skip)
  refine hK.out _ _ ?_ fun hHeld => ?_
  · (try dsimp only)
    (first | exact Own.refl _ _ | assumption)
  clear hK K
  (try simp only [Act.put, zS])
  refine wpAnyH_done (by kernel_rfl) ?_ _
  have HOF := zh hkp2
  clear hkp hkp2 HCI HBK
  go_wp2_with fail
  refine bodyPost_ret (results_cell_row Tryz.results50 _ _ br 74 KC (0, 0) _ rfl HV2.out.1 Tryz.underlying74 rfl HKC.out.2.1) rfl ⟨rfl, ?_⟩
  have hb9 := HW4.out.trans (HOF.out.below HLT.out HW4.out.size)
  first | exact hb9 | (rw [hbr] at hb9; exact hb9)
set_option maxHeartbeats 2000000
theorem rkey22_any (oa : Option Addr) (cn : Nat) (K : Nat → Nat) (s : ByteArray) (x : Nat) (w : World) (hb : Bytes w oa 32 K) (hs1 : 1 ≤ s.size) (hs2 : s.size ≤ 32) (hx : x < 4294967296) :
  Calls Tryz.prog 28 #[.slice oa 32 cn, .string s, .int .u32 (x : Int)] w fun e w' => e = .returned (.agg (kyC (ekW K s x))) ∧ Below w.heap.size w w' := by
 obtain ⟨br, hbr⟩ := zX w.heap.size
 obtain ⟨ZK, hZK⟩ := zX zKy
 obtain ⟨KC, hKC⟩ := zX (kyC (ekW K s x))
 obtain ⟨w1, hw1⟩ := zX (w.alloc (.cells ZK 74))
 have hb1 : Below w.heap.size w w1 := by rw [← hw1]; exact zA
 have hk1 : Blk w1 br ZK 74 := by rw [← hw1, ← hbr]; exact Blk.new _ _ _
 have HKY := zh (rkey_any oa cn K s x w1 (hb.later hb1) hs1 hs2 hx)
 have HRD : Hid (∀ A o c, Bytes A o 32 (exF 32 K (s.size + 5) (kiF s x)) → Calls Tryz.prog 50 #[.slice o 32 c] A fun e w' => e = .returned (.agg KC) ∧ Below A.heap.size A w') := zh fun A o c h => by rw [← hKC]; exact rkey_anyG _ o c A h
 have HKC : Hid (KC.size ≤ ZK.size ∧ (Tryz.prog.info? 74).map (·.size) = some KC.size ∧ KC.all (·.oneCell') = true ∧ KC.size = ZK.size) := zh (by
  rw [← hKC, ← hZK, kyC_size, zKy_size]; exact ⟨Nat.le_refl _, info_ky, ky_one _, rfl⟩)
 have H1 := zh (And.intro hb1 hk1)
 have HLT := zh (Nat.le_of_eq hbr)
 have hz := zKy_run
 rw [hZK] at hz
 rw [hKC]
 clear hb1 hk1 hb hs1 hs2 hx hKC hZK
 go_enter Tryz.func28, Tryz.ntmps28
 go_wp2_with (first | (refine wpList_zero rfl rfl hz ?_; rw [hw1, hbr]))
 refine HKY.out.mono ?_
 rintro e w2 ⟨o, c, rfl, hB, hb2⟩
 have HB := zh hB
 have H2 := zh (And.intro (H1.out.1.trans (hb2.mono H1.out.1.size)) (Blk.below H1.out.2 hb2 (Blk.lt H1.out.2)))
 clear hB hb2 hw1 hz
 go_wp2_with fail
 refine (HRD.out w2 o c HB.out).mono ?_
 rintro e w3 ⟨rfl, hb3⟩
 have H3 := zh (And.intro (H2.out.1.trans (hb3.mono H2.out.1.size)) (Blk.below H2.out.2 hb3 (Blk.lt H2.out.2)))
 clear hb3
 obtain ⟨w4, hw4⟩ := zX (w3.setCells br 0 KC.toList)
 have H4 : Hid (Blk w4 br KC 74 ∧ Own br w3 w4) := zh (by rw [← hw4]; exact ⟨Blk.whole H3.out.2 HKC.out.2.2.2, Own.setCells _ _ _⟩)
 go_wp2_with (first | (refine wpList_store_mid rfl 74 (.tmp 6) (.tmp 17) rfl br 0 KC rfl rfl (Blk.thereAll H3.out.2 _ HKC.out.1) HKC.out.2.1 HKC.out.2.2.1 ?_; rw [hw4]))
 refine bodyPost_ret (v := .agg KC) ?_ rfl ⟨rfl, H3.out.1.trans (H4.out.2.below HLT.out H3.out.1.size)⟩
 exact results_cell_row Tryz.results28 _ _ br 74 KC (0, 0) _ rfl H4.out.1 Tryz.underlying74 rfl HKC.out.2.1
theorem rseal22_any (oa ob : Option Addr) (cn cm x : Nat) (K R : Nat → Nat) (w : World) (hb : Bytes w oa 32 K) (hr : Bytes w ob 32 R) (hx : x < 4294967296) :
  Calls Tryz.prog 12 #[.slice oa 32 cn, .slice ob 32 cm, .int .u32 (x : Int)] w fun e w' => ∃ v B, e = .returned (.tuple #[v, .int .i64 0]) ∧ Grow w' B v 48 (ebF K R x) ∧ w.heap.size ≤ B ∧ Below w.heap.size w w' := by
 obtain ⟨KC, hKC⟩ := zX (kyC (ekW K sE x))
 have HKY : Hid (∀ A, Below w.heap.size w A → Calls Tryz.prog 28 #[.slice oa 32 cn, .string sE, .int .u32 (x : Int)] A fun e w' => e = .returned (.agg KC) ∧ Below A.heap.size A w') := zh fun A hA => by
  rw [← hKC]; exact rkey22_any oa cn K sE x A (hb.later hA) (by decide) (by decide) hx
 have HSE : Hid (∀ A (gn g3 : Nat), Bytes A (some ⟨gn, 0, none⟩) 12 (nbF x 0) → Bytes A ob 32 R → Bytes A (some ⟨g3, 0, none⟩) 13 beE → Calls Tryz.prog 27 #[.agg KC, .slice (some ⟨gn, 0, none⟩) 12 12, .slice ob 32 cm, .slice (some ⟨g3, 0, none⟩) 13 13] A fun e w' => ∃ v, e = .returned (.tuple #[v, .int .i64 0]) ∧ Grow w' A.heap.size v (32 + 16) (ebF K R x) ∧ Below A.heap.size A w') := zh fun A gn g3 h1 h2 h3 => by
  rw [← hKC]; exact rseal_ok (ekW K sE x) (nbF x 0) R beE 32 13 _ ob _ 12 cm 13 A h1 h2 h3 (by decide) (by decide)
 have HR := zh hr
 have HM := zh hx
 have HW0 : Hid (Below w.heap.size w w) := zh (Below.refl _ _)
 clear hb hr hx hKC
 go_enter Tryz.func12, Tryz.ntmps12
 go_wp2_with fail
 refine (HKY.out w HW0.out).mono ?_
 rintro e w1 ⟨rfl, hb1⟩
 have HB1 := zh hb1
 clear hb1 HW0
 go_wp2_with fail
 refine (rbytes_any x 0 w1 HM.out (by decide)).mono ?_
 rintro e w2 ⟨gn, rfl, hN, hb2⟩
 have HN := zh (And.intro (hN.bytes (fun i hi => nbF_lt HM.out (by decide) i hi)) hb2)
 clear hN hb2
 obtain ⟨w3, hw3⟩ := zX (w2.alloc (.cells #[.int .u8 99, .int .u8 111, .int .u8 114, .int .u8 101, .int .u8 47, .int .u8 101, .int .u8 110, .int .u8 118, .int .u8 101, .int .u8 108, .int .u8 111, .int .u8 112, .int .u8 101] 5))
 obtain ⟨g3, hg3⟩ := zX w2.heap.size
 obtain ⟨w4, hw4⟩ := zX (w3.freeze ⟨g3, 13, none⟩ 1)
 have hB3 : Blk w3 g3 (rowC 13 beE).toArray 5 := by rw [← hw3, ← hg3]; exact bs_be w2
 have HSH : Hid (Shp w3 g3 13) := zh (Shp.blk hB3)
 have HA : Hid (Bytes w4 (some ⟨g3, 0, none⟩) 13 beE) := zh (by rw [← hw4]; exact (be_bytes hB3 beE_lt).frz _ _)
 have hb23 : Below w2.heap.size w2 w3 := by rw [← hw3]; exact zA
 have hb24 : Below w2.heap.size w2 w4 := hb23.trans (by rw [← hw4]; exact (Own.frz _ _ _ _).below (Nat.le_of_eq hg3) hb23.size)
 have HNN : Hid (Bytes w4 (some ⟨gn, 0, none⟩) 12 (nbF x 0)) := zh (HN.out.1.later hb24)
 have HB4 : Hid (Below w.heap.size w w4) := zh ((HB1.out.trans (HN.out.2.mono HB1.out.size)).trans (hb24.mono (Nat.le_trans HB1.out.size HN.out.2.size)))
 clear hB3 hb23 hb24
 go_wp2_with (first | (refine wpList_convB rfl (.tmp 22) rfl g3 13 13 13 rfl HSH.out ?_; rw [hw4]))
 refine (HSE.out w4 gn g3 HNN.out (HR.out.later HB4.out) HA.out).mono ?_
 rintro e w5 ⟨v, rfl, hG, hb5⟩
 have HG5 := zh hG
 have HB5 := zh (HB4.out.trans (hb5.mono HB4.out.size))
 clear hG hb5
 go_wp2_with fail
 refine bodyPost_ret (v := .tuple #[v, .int .i64 0]) ?_ rfl ⟨v, _, rfl, HG5.out, HB4.out.size, HB5.out⟩
 exact results_tmp2 (t := 6) (u := 7) Tryz.results12 _ _ _
def EOpenD (K Q : Nat → Nat) (x : Nat) (w : World) (e : Ending) (w' : World) : Prop := Below w.heap.size w w' ∧
 ((eqF (tgF (ekW K sE x) (nbF x 0) beE 13 Q 32) (fun i => Q (32 + i)) = true ∧ ∃ v B, e = .returned (.tuple #[v, .int .i64 0]) ∧ Grow w' B v 32 (cphF (ekW K sE x) (nbF x 0) Q)) ∨
  (eqF (tgF (ekW K sE x) (nbF x 0) beE 13 Q 32) (fun i => Q (32 + i)) = false ∧ e = .returned (.tuple #[.slice none 0 0, .int .i64 13])))
theorem eqF_not {f g : Nat → Nat} (h : eqF f g = false) : ∃ i, i < 16 ∧ f i ≠ g i := by
 refine Classical.byContradiction fun hn => ?_
 have : eqF f g = true := eqF_iff.2 fun i hi => Classical.byContradiction fun hne => hn ⟨i, hi, hne⟩
 rw [h] at this; cases this
theorem ropen22_any (oa : Option Addr) (bo oo cn cm x : Nat) (K Q : Nat → Nat) (w : World) (hb : Bytes w oa 32 K) (hr : Bytes w (some ⟨bo, oo, none⟩) 48 Q) (hmc : 48 ≤ cm) (hmm : cm ≤ maxLen) (hx : x < 4294967296) :
  Calls Tryz.prog 13 #[.slice oa 32 cn, .slice (some ⟨bo, oo, none⟩) 48 cm, .int .u32 (x : Int)] w (EOpenD K Q x w) := by
 obtain ⟨KC, hKC⟩ := zX (kyC (ekW K sE x))
 have HKY : Hid (∀ A, Below w.heap.size w A → Calls Tryz.prog 28 #[.slice oa 32 cn, .string sE, .int .u32 (x : Int)] A fun e w' => e = .returned (.agg KC) ∧ Below A.heap.size A w') := zh fun A hA => by
  rw [← hKC]; exact rkey22_any oa cn K sE x A (hb.later hA) (by decide) (by decide) hx
 have HM := zh hx
 have HR := zh hr
 have HW0 : Hid (Below w.heap.size w w) := zh (Below.refl _ _)
 have HOP : Hid (∀ A (gn g3 : Nat), Bytes A (some ⟨gn, 0, none⟩) 12 (nbF x 0) → Bytes A (some ⟨bo, oo, none⟩) 48 Q → Bytes A (some ⟨g3, 0, none⟩) 13 beE → Calls Tryz.prog 30 #[.agg KC, .slice (some ⟨gn, 0, none⟩) 12 12, .slice (some ⟨bo, oo, none⟩) 48 cm, .slice (some ⟨g3, 0, none⟩) 13 13] A fun e w' => Below A.heap.size A w' ∧
   ((eqF (tgF (ekW K sE x) (nbF x 0) beE 13 Q 32) (fun i => Q (32 + i)) = true ∧ ∃ v, e = .returned (.tuple #[v, .int .i64 0]) ∧ Grow w' A.heap.size v 32 (cphF (ekW K sE x) (nbF x 0) Q)) ∨ (eqF (tgF (ekW K sE x) (nbF x 0) beE 13 Q 32) (fun i => Q (32 + i)) = false ∧ e = .returned (.tuple #[.slice none 0 0, .int .i64 11])))) := zh fun A gn g3 h1 h2 h3 => by
  rw [← hKC]
  cases hq : eqF (tgF (ekW K sE x) (nbF x 0) beE 13 Q 32) (fun i => Q (32 + i)) with
  | true =>
   refine (ropen_any (ekW K sE x) (nbF x 0) Q beE 32 13 bo oo _ _ 12 cm 13 A h1 h2 h3 hmc hmm (by decide) (by decide) (eqF_iff.1 hq)).mono ?_
   rintro e w' ⟨v, rfl, hG, hb⟩
   exact ⟨hb, .inl ⟨rfl, v, rfl, hG⟩⟩
  | false =>
   refine (ropen_unlike (ekW K sE x) (nbF x 0) Q beE 32 13 bo oo _ _ 12 cm 13 A h1 h2 h3 hmc hmm (by decide) (by decide) (eqF_not hq)).mono ?_
   rintro e w' ⟨rfl, hb⟩
   exact ⟨hb, .inr ⟨rfl, rfl⟩⟩
 clear hb hr hx hKC hmc hmm
 go_enter Tryz.func13, Tryz.ntmps13
 go_wp2_with fail
 refine (HKY.out w HW0.out).mono ?_
 rintro e w1 ⟨rfl, hb1⟩
 have HB1 := zh hb1
 clear hb1 HW0
 go_wp2_with fail
 refine (rbytes_any x 0 w1 HM.out (by decide)).mono ?_
 rintro e w2 ⟨gn, rfl, hN, hb2⟩
 have HN := zh (And.intro (hN.bytes (fun i hi => nbF_lt HM.out (by decide) i hi)) hb2)
 clear hN hb2
 obtain ⟨w3, hw3⟩ := zX (w2.alloc (.cells #[.int .u8 99, .int .u8 111, .int .u8 114, .int .u8 101, .int .u8 47, .int .u8 101, .int .u8 110, .int .u8 118, .int .u8 101, .int .u8 108, .int .u8 111, .int .u8 112, .int .u8 101] 5))
 obtain ⟨g3, hg3⟩ := zX w2.heap.size
 obtain ⟨w4, hw4⟩ := zX (w3.freeze ⟨g3, 13, none⟩ 1)
 have hB3 : Blk w3 g3 (rowC 13 beE).toArray 5 := by rw [← hw3, ← hg3]; exact bs_be w2
 have HSH : Hid (Shp w3 g3 13) := zh (Shp.blk hB3)
 have HA : Hid (Bytes w4 (some ⟨g3, 0, none⟩) 13 beE) := zh (by rw [← hw4]; exact (be_bytes hB3 beE_lt).frz _ _)
 have hb23 : Below w2.heap.size w2 w3 := by rw [← hw3]; exact zA
 have hb24 : Below w2.heap.size w2 w4 := hb23.trans (by rw [← hw4]; exact (Own.frz _ _ _ _).below (Nat.le_of_eq hg3) hb23.size)
 have HNN : Hid (Bytes w4 (some ⟨gn, 0, none⟩) 12 (nbF x 0)) := zh (HN.out.1.later hb24)
 have HB4 : Hid (Below w.heap.size w w4) := zh ((HB1.out.trans (HN.out.2.mono HB1.out.size)).trans (hb24.mono (Nat.le_trans HB1.out.size HN.out.2.size)))
 clear hB3 hb23 hb24
 go_wp2_with (first | (refine wpList_convB rfl (.tmp 23) rfl g3 13 13 13 rfl HSH.out ?_; rw [hw4]))
 refine (HOP.out w4 gn g3 HNN.out (HR.out.later HB4.out) HA.out).mono ?_
 rintro e w5 ⟨hb5, ⟨hq, v, rfl, hG⟩ | ⟨hq, rfl⟩⟩
 ·have HG5 := zh hG
  have HQ := zh hq
  have HB5 := zh (HB4.out.trans (hb5.mono HB4.out.size))
  clear hG hb5 hq
  go_wp2_with fail
  refine bodyPost_ret (v := .tuple #[v, .int .i64 0]) ?_ rfl ⟨HB5.out, .inl ⟨HQ.out, v, _, rfl, HG5.out⟩⟩
  exact results_tmp2 (t := 6) (u := 7) Tryz.results13 _ _ _
 ·have HQ := zh hq
  have HB5 := zh (HB4.out.trans (hb5.mono HB4.out.size))
  clear hb5 hq
  go_wp2_with fail
  refine bodyPost_ret (v := .tuple #[.slice none 0 0, .int .i64 13]) ?_ rfl ⟨HB5.out, .inr ⟨HQ.out, rfl⟩⟩
  exact results_tmp2 (t := 6) (u := 7) Tryz.results13 _ _ _
end Go.Proofs.YtncfocjmdecapaaGreatDoor
