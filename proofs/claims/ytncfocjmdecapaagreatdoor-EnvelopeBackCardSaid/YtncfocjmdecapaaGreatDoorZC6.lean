/- GCM: Seal. GCM: Open. -/
import Derived.Test.YtncfocjmdecapaaGreatDoorZB0
import Derived.Test.YtncfocjmdecapaaGreatDoorZS1
import Derived.Test.YtncfocjmdecapaaGreatDoorZS2
import Derived.Test.YtncfocjmdecapaaGreatDoorZSh4
import Derived.Test.YtncfocjmdecapaaGreatDoorZA0
import Derived.Test.YtncfocjmdecapaaGreatDoorZS5
import Derived.Test.YtncfocjmdecapaaGreatDoorZSh7
import Derived.Test.YtncfocjmdecapaaGreatDoorZS8
import Derived.Test.YtncfocjmdecapaaGreatDoorZHm1
import Derived.Test.YtncfocjmdecapaaGreatDoorZHm2
import Derived.Test.YtncfocjmdecapaaGreatDoorZAs
import Derived.Test.YtncfocjmdecapaaGreatDoorZR0
import Derived.Test.YtncfocjmdecapaaGreatDoorZK0
import Derived.Test.YtncfocjmdecapaaGreatDoorZK1
import Derived.Test.YtncfocjmdecapaaGreatDoorZK4
import Derived.Test.YtncfocjmdecapaaGreatDoorZKr5
import Derived.Test.YtncfocjmdecapaaGreatDoorZF1
import Derived.Test.YtncfocjmdecapaaGreatDoorZF2
import Derived.Test.YtncfocjmdecapaaGreatDoorZB16
import Derived.Test.YtncfocjmdecapaaGreatDoorZAe2
import Derived.Test.YtncfocjmdecapaaGreatDoorZAe4
import Derived.Test.YtncfocjmdecapaaGreatDoorZAe5
import Derived.Test.YtncfocjmdecapaaGreatDoorZQ0
import Derived.Test.YtncfocjmdecapaaGreatDoorZC0
import Derived.Test.YtncfocjmdecapaaGreatDoorZC2
import Derived.Test.YtncfocjmdecapaaGreatDoorZGc5
namespace Go.Proofs.YtncfocjmdecapaaGreatDoor
set_option linter.unusedVariables false
set_option linter.unusedSimpArgs false
set_option linter.unusedVariables false
set_option linter.unusedSimpArgs false
open Go.RowKit
theorem Grow.bytesM {w : World} {base n : Nat} {v : Value} {f : Nat → Nat} (h : Grow w base v n f) (hf : ∀ i, i < n → f i < 256) :
    ∃ oa cap, v = .slice oa n cap ∧ Bytes w oa n f ∧ n ≤ cap ∧ cap ≤ maxLen ∧ (oa = none → n = 0) := by
  obtain ⟨oa, cap, hv, hB, _⟩ := h.bytes hf
  refine ⟨oa, cap, hv, hB, ?_⟩
  rcases h.2 with ⟨h2, h3⟩ | ⟨g, cap', cur, h2, _, _, h3, h4, _⟩
  · rw [hv] at h2; cases h2; exact ⟨by omega, by unfold maxLen; omega, fun _ => h3⟩
  · rw [hv] at h2; cases h2; exact ⟨h3, h4, fun e => by cases e⟩
set_option maxHeartbeats 4000000 in
set_option maxRecDepth 100000 in
theorem seal_any (g kb bx : Nat) (W nn p a : Nat → Nat) (n an : Nat) (on ob oa : Option Addr) (capn cap capa : Nat) (w : World) (hK : KG w g kb bx W) (hn : Bytes w on 12 nn) (hnb : ∀ x, on = some x → x.block ≠ bx)
    (hp : Bytes w ob n p) (hpb : ∀ x, ob = some x → 0 < n → x.block ≠ bx) (ha : Bytes w oa an a) (hab : ∀ x, oa = some x → 0 < an → x.block ≠ bx) (hc : n ≤ cap) (hm : cap ≤ maxLen) (hc2 : an ≤ capa) (hm2 : capa ≤ maxLen) (hs : n ≤ 2048) (hs2 : an ≤ 2048) :
    Calls Tryz.prog 19 #[.pointer (some ⟨g, 0, none⟩), .slice on 12 capn, .slice ob n cap, .slice oa an capa] w fun e w' => ∃ v, e = .returned (.tuple #[v, .nilIface]) ∧ Grow w' (w.heap.size + 2) v (n + 16) (boxF W nn p n a an) ∧ KG w' g kb bx W ∧ Own bx w w' := by
  have hz := zero16_run
  have hnn : ∀ i, i < 12 → nn i < 256 := fun i hi => (hn i hi).1
  have hpp : ∀ i, i < n → p i < 256 := fun i hi => (hp i hi).1
  have HF : Hid (∀ i, i < n → cphF W nn p i < 256) := Lib.hid (cphF_lt hnn hpp)
  have HT : Hid (∀ i, i < 16 → tgF W nn a an (cphF W nn p) n i < 256) := Lib.hid (tgF_lt hnn)
  have HCI := Lib.hid (ciph_any g kb bx W nn p n on ob capn cap w hK hn hnb hp hpb hc hm (by omega))
  have HST := Lib.hid (show KG w g kb bx W ∧ Bytes w on 12 nn ∧ (∀ x, on = some x → x.block ≠ bx) ∧ Bytes w oa an a ∧ (∀ x, oa = some x → 0 < an → x.block ≠ bx) ∧ an ≤ capa ∧ capa ≤ maxLen ∧ n ≤ 2048 ∧ an ≤ 2048 from ⟨hK, hn, hnb, ha, hab, hc2, hm2, hs, hs2⟩)
  have e1 : ¬ ((2048 : Int) < (n : Int)) := by omega
  have e2 : ¬ ((2048 : Int) < (an : Int)) := by omega
  have e3 : decide ((2048 : Int) < (n : Int)) = false := decide_eq_false e1
  have e4 : decide ((2048 : Int) < (an : Int)) = false := decide_eq_false e2
  clear hK hn hnb hp hpb ha hab hc hm hc2 hm2 hs hs2 hnn hpp
  go_enter Tryz.func19, Tryz.ntmps19
  go_wp2_with fail
  refine HCI.out.mono ?_
  rintro e w1 ⟨v, rfl, hG1, hK1, hO1, hS1⟩
  have HSG := Lib.hid hS1
  clear hS1
  obtain ⟨oc, cp, hv, hB1, hnc, hcm, hno⟩ := hG1.bytesM HF.out
  subst hv
  obtain ⟨T, hT⟩ : ∃ q, (rowC 16 (tgF W nn a an (cphF W nn p) n)).toArray = q := ⟨_, rfl⟩
  have HTG : Hid (Calls Tryz.prog 37 #[.pointer (some ⟨g, 0, none⟩), .slice on 12 capn, .slice oc n cp, .slice oa an capa] w1 fun e w' => e = .returned (.agg T) ∧ KG w' g kb bx W ∧ Own bx w1 w') := Lib.hid (by
    obtain ⟨h1, h2, h3, h4, h5, h6, h7, h8, h9⟩ := HST.out
    rw [← hT]
    exact tag_any g kb bx W nn (cphF W nn p) a n an on oc oa capn cp capa w1 hK1 (h2.own hO1 (fun x hx _ => h3 x hx)) hB1 (h4.own hO1 h5) h3 hnc h6 hcm h7 (by omega) (by omega))
  have HG1 := Lib.hid hG1
  have HO1 := Lib.hid hO1
  have HTE := Lib.hid hT
  have HNO := Lib.hid hno
  have HTC : Hid (∃ f, T = (rowC 16 f).toArray) := Lib.hid ⟨_, hT.symm⟩
  have HZC : Hid (∃ f, zero16 = (rowC 16 f).toArray) := Lib.hid ⟨_, rfl⟩
  clear hG1 hK1 hO1 hB1 hnc hcm hno hT HCI
  go_wp2_with fail
  refine HTG.out.mono ?_
  rintro e w2 ⟨rfl, hK2, hO2⟩
  have hlt := HST.out.1.lt
  have hG2 := HG1.out.ownN hO2 (fun q hq => by have := HG1.out.lt q hq; omega)
  have hba : Below w2.heap.size w2 (w2.alloc (.cells zero16 82)) := (Below.refl _ _).alloc (Nat.le_refl _) _
  have hOA := HO1.out.trans hO2
  have hOs : Own w2.heap.size (w2.alloc (.cells zero16 82)) ((w2.alloc (.cells zero16 82)).setCells w2.heap.size 0 T.toList) := Own.setCells _ _ _
  have HXS := Lib.hid (show w.heap.size + 2 ≤ w2.heap.size + 1 from by have h1 := hO2.size; have h2 := HSG.out; omega)
  have hZ2 : Blk (w2.alloc (.cells zero16 82)) w2.heap.size zero16 82 := Blk.new _ _ _
  have hT2 := Blk.store16 hZ2 HTC.out HZC.out
  have hbs : Below w2.heap.size w2 ((w2.alloc (.cells zero16 82)).setCells w2.heap.size 0 T.toList) := hba.trans (hOs.below (Nat.le_refl _) (by simp))
  have hG3 := hG2.later hbs
  have hK3 := hK2.below hbs
  have hO3 := hOA.trans (Own.of_below hbs)
  have hBT : Bytes ((w2.alloc (.cells zero16 82)).setCells w2.heap.size 0 T.toList) (some ⟨w2.heap.size, 0, none⟩) 16 (tgF W nn a an (cphF W nn p) n) := fun k hk => ⟨HT.out k hk, _, 0, rfl, by
    have := hT2; rw [← HTE.out] at this
    rw [Nat.zero_add]; exact B16.cell (by rw [← HTE.out]; exact this) hk⟩
  have HZ2 := Lib.hid hZ2
  have HX := Lib.hid (show Grow ((w2.alloc (.cells zero16 82)).setCells w2.heap.size 0 T.toList) (w.heap.size + 2) (.slice oc n cp) n (cphF W nn p) ∧ KG ((w2.alloc (.cells zero16 82)).setCells w2.heap.size 0 T.toList) g kb bx W ∧ Own bx w ((w2.alloc (.cells zero16 82)).setCells w2.heap.size 0 T.toList) ∧ Bytes ((w2.alloc (.cells zero16 82)).setCells w2.heap.size 0 T.toList) (some ⟨w2.heap.size, 0, none⟩) 16 (tgF W nn a an (cphF W nn p) n) ∧ w.heap.size + 2 ≤ w2.heap.size + 1 ∧ w2.heap.size < ((w2.alloc (.cells zero16 82)).setCells w2.heap.size 0 T.toList).heap.size from ⟨hG3, hK3, hO3, hBT, by have := HXS.out; omega, Blk.lt hT2⟩)
  clear hG2 hba hOs hZ2 hT2 hOA hbs hG3 hK3 hO3 hBT hK2 hO2 HTG HG1 HO1
  go_wp2_with (first
    | (refine wpList_appO rfl (.tmp 39) (.tmp 40) rfl (w.heap.size + 2) (.slice oc n cp) n 16 16 (some ⟨w2.heap.size, 0, none⟩) (cphF W nn p) (tgF W nn a an (cphF W nn p) n) ((w2.alloc (.cells zero16 82)).setCells w2.heap.size 0 T.toList) rfl HX.out.1 rfl (fun e => by cases e) HX.out.2.2.2.1 (by have := HST.out.2.2.2.2.2.2.2.1; omega) (by have := HX.out.2.2.2.2; omega) ?_; refine Hid.out ?_)
    | (refine wpList_store16 rfl (.tmp 11) (.tmp 38) rfl w2.heap.size rfl T zero16 rfl HZ2.out HTC.out HZC.out ?_))
  refine Lib.hid ?_
  intro v2 w4 hG4 hg4 ho4
  have hGX := HX.out.1
  have hlt4 := HST.out.1.lt
  have hsz4 := HX.out.2.2.2.2
  have hO4 := own_of_grown hg4
  have hge := own_ge hGX (by omega)
  have hOw := HX.out.2.2.1.two hO4 (by omega)
  have hK4 : KG w4 g kb bx W := HST.out.1.low HX.out.2.1 (hO4.below (by omega) (by have := HX.out.2.2.1.size; exact this))
  have HE := Lib.hid (show Grow w4 (w.heap.size + 2) v2 (n + 16) (boxF W nn p n a an) ∧ KG w4 g kb bx W ∧ Own bx w w4 from ⟨hG4, hK4, hOw⟩)
  clear hG4 hg4 ho4 hGX hlt4 hsz4 hO4 hge hOw hK4
  go_wp2_with fail
  refine bodyPost_ret (results_tmp2 rfl _ _ _) rfl ?_
  exact ⟨v2, rfl, HE.out.1, HE.out.2.1, HE.out.2.2⟩
end Go.Proofs.YtncfocjmdecapaaGreatDoor
namespace Go.Proofs.YtncfocjmdecapaaGreatDoor
set_option linter.unusedVariables false
set_option linter.unusedSimpArgs false
set_option linter.unusedVariables false
set_option linter.unusedSimpArgs false
open Go.RowKit
theorem exec_s2a {o : Oper} {a : Act} {w : World} {x : Operand} {oa : Option Addr} {len cap : Nat} (ho : o.op = .sliceToArrayPointer 82 x) (hx : a.eval x = .slice oa len cap) (hn : 16 ≤ len) : (execOp a.eval o).run Tryz.prog w = .ok (.value (.pointer oa)) w := by
  unfold execOp
  simp only [ho, hx, Sem.run_bind, run_arrayAt w 82 5 16 oa len cap Tryz.underlying82 hn, Result.andThen_ok]
  rfl
theorem exec_ld43 {o : Oper} {a : Act} {w : World} {x : Operand} {v : Value} {C : Array Value} (ho : o.op = .load 82 x) (hx : a.eval x = v) (h : (Instr.loadAt 82 v).run Tryz.prog w = .ok (.agg C) w) : (execOp a.eval o).run Tryz.prog w = .ok (.value (.agg C)) w := by
  unfold execOp
  simp only [ho, hx, Sem.run_bind, h, Result.andThen_ok]
  rfl
/-- What Open answers. -/
def OpenR (w : World) (g kb bx : Nat) (W nn a q : Nat → Nat) (en an : Nat) (e : Ending) (w' : World) : Prop :=
  KG w' g kb bx W ∧ Own bx w w' ∧ ((eqF (tgF W nn a an q en) (fun i => q (en + i)) = true ∧ ∃ v B, e = .returned (.tuple #[v, .nilIface]) ∧ Grow w' B v en (cphF W nn q) ∧ w.heap.size ≤ B) ∨
    (eqF (tgF W nn a an q en) (fun i => q (en + i)) = false ∧ e = .returned (.tuple #[.slice none 0 0, .iface 53 (.int .i64 11)])))
set_option maxHeartbeats 4000000 in
set_option maxRecDepth 100000 in
theorem open_any (g kb bx : Nat) (W nn q a : Nat → Nat) (en an bo oo : Nat) (on oa : Option Addr) (capn cap capa : Nat) (w : World) (hK : KG w g kb bx W) (hn : Bytes w on 12 nn) (hnb : ∀ x, on = some x → x.block ≠ bx)
    (hp : Bytes w (some ⟨bo, oo, none⟩) (en + 16) q) (hpb : bo ≠ bx) (ha : Bytes w oa an a) (hc : en + 16 ≤ cap) (hm : cap ≤ maxLen) (hc2 : an ≤ capa) (hm2 : capa ≤ maxLen) (hs : en ≤ 2048) (hs2 : an ≤ 2048) :
    Calls Tryz.prog 21 #[.pointer (some ⟨g, 0, none⟩), .slice on 12 capn, .slice (some ⟨bo, oo, none⟩) (en + 16) cap, .slice oa an capa] w (OpenR w g kb bx W nn a q en an) := by
  obtain ⟨T, hT⟩ : ∃ y, (rowC 16 (tgF W nn a an q en)).toArray = y := ⟨_, rfl⟩
  obtain ⟨Q, hQ⟩ : ∃ y, (fun i => q (en + i)) = y := ⟨_, rfl⟩
  obtain ⟨QA, hQA⟩ : ∃ y, (rowC 16 Q).toArray = y := ⟨_, rfl⟩
  obtain ⟨t, ht⟩ : ∃ y, eqF (tgF W nn a an q en) Q = y := ⟨_, rfl⟩
  have HQA := Lib.hid hQA
  have HEQ : Hid (∀ w, (Op.equalIn 10000 82 (.agg T) (.agg QA)).run Tryz.prog w = .ok t w) := Lib.hid fun w => by
    rw [← hT, ← hQA, ← ht]; exact eq16 _ _ w
  have hR : ∀ A, Below w.heap.size w A → A.rangeAt bo (oo + en) (rowC 16 Q) := fun A hb j v hv => by
    have hj : j < 16 := by
      rcases Nat.lt_or_ge j 16 with h1 | h1
      · exact h1
      · rw [List.getElem?_eq_none (by rw [rowC_len]; omega)] at hv; cases hv
    rw [rowC_get _ hj] at hv
    cases hv
    obtain ⟨_, b, o, e, h2⟩ := hp (en + j) (by omega)
    cases e
    rw [← hQ, Nat.add_assoc]
    exact cell_below hb h2
  have HR := Lib.hid hR
  have HRO : Hid (∀ A B, Own bx A B → A.rangeAt bo (oo + en) (rowC 16 Q) → B.rangeAt bo (oo + en) (rowC 16 Q)) := Lib.hid fun A B hO h j v hv => hO.cell (h j v hv) hpb
  have hq2 : ∀ A, Below w.heap.size w A → Bytes A (some ⟨bo, oo, none⟩) en q := fun A hb k hk => (hp.later hb) k (by omega)
  have HTG : Hid (∀ A, Below w.heap.size w A → Calls Tryz.prog 37 #[.pointer (some ⟨g, 0, none⟩), .slice on 12 capn, .slice (some ⟨bo, oo, none⟩) en cap, .slice oa an capa] A fun e w' => e = .returned (.agg T) ∧ KG w' g kb bx W ∧ Own bx A w') := Lib.hid fun A hb => by
    rw [← hT]
    exact tag_any g kb bx W nn q a en an on (some ⟨bo, oo, none⟩) oa capn cap capa A (hK.below hb) (hn.later hb) (hq2 A hb) (ha.later hb) hnb (by omega) hc2 hm hm2 (by omega) (by omega)
  have HCI : Hid (∀ A, KG A g kb bx W → Own bx w A → Calls Tryz.prog 36 #[.pointer (some ⟨g, 0, none⟩), .slice on 12 capn, .slice (some ⟨bo, oo, none⟩) en cap] A fun e w' => ∃ v, e = .returned v ∧ Grow w' (A.heap.size + 2) v en (cphF W nn q) ∧ KG w' g kb bx W ∧ Own bx A w' ∧ A.heap.size + 2 ≤ w'.heap.size) := Lib.hid fun A hk hO =>
    ciph_any g kb bx W nn q en on (some ⟨bo, oo, none⟩) capn cap A hk (hn.own hO (fun x hx _ => hnb x hx)) hnb ((hq2 w (Below.refl _ _)).own hO (fun x hx _ => by cases hx; exact hpb)) (fun x hx _ => by cases hx; exact hpb) (by omega) hm (by omega)
  have HI16 : Hid ((Tryz.prog.info? 82).map (·.size) = some (rowC 16 Q).length) := Lib.hid (by rw [rowC_len]; exact size16)
  have HTT : Hid (eqF (tgF W nn a an q en) (fun i => q (en + i)) = t) := Lib.hid (hQ ▸ ht)
  have e1 : ¬ ((2064 : Int) < (en : Int) + 16) := by omega
  have e2 : ¬ ((2048 : Int) < (an : Int)) := by omega
  have e3 : decide ((2064 : Int) < (en : Int) + 16) = false := decide_eq_false e1
  have e4 : decide ((2048 : Int) < (an : Int)) = false := decide_eq_false e2
  have e5 : ¬ ((en : Int) + 16 < 16) := by omega
  have e6 : decide ((en : Int) + 16 < 16) = false := decide_eq_false e5
  have e7 : IntKind.i64.wrap ((en : Int) + 16 - 16) = (en : Int) := by rw [IntWalk.i64_in _ (by omega)]; omega
  have e8 : (0 : Int) ≤ (en : Int) := by omega
  have e9 : (en : Int) ≤ (cap : Int) := by omega
  have e10 : ¬ cap = en := by omega
  have e11 : (en : Int) ≤ (en : Int) + 16 := by omega
  clear hK hn hnb hp hpb ha hc hm hc2 hm2 hs hs2 hT hQ hQA ht hR hq2
  go_enter Tryz.func21, Tryz.ntmps21
  go_upto_region 6 with fail
  have hB_0 : Below w.heap.size w w.drew := ⟨rfl, rfl, rfl, Nat.le_refl _, fun _ _ => rfl⟩
  have hR_0 := HR.out _ hB_0
  refine wp_region_held_drew (S := (fun A => A.rangeAt bo (oo + en) (rowC 16 Q))) (by kernel_rfl) ?_ (fun hHeld => ?_)
  · (try dsimp only)
    (first | assumption | (dsimp only; assumption))
  generalize w.drew = W0 at *
  refine wpAnyH_take (i := 0) (oi := { dst := some 36, op := Go.Op.move (Go.Operand.tmp 0), type := 54, pos := "gcm.go:93", after := #[], guard := none }) (v := ?_) rfl (by kernel_rfl) (by kernel_rfl) (by kernel_rfl) (fun _ _ _ h => h) (Or.inl ⟨by rfl, ?_⟩) (by assumption) ?_
  rotate_left
  · intro wS hSw
    (try dsimp only at hSw)
    go_simp
    (try with_reducible rfl)
  (try simp only [Act.put, List.setIfInBounds_toArray, List.set_cons_zero, List.set_cons_succ])
  refine wpAnyH_take (i := 1) (oi := { dst := some 37, op := Go.Op.move (Go.Operand.tmp 1), type := 24, pos := "gcm.go:93", after := #[], guard := none }) (v := ?_) rfl (by kernel_rfl) (by kernel_rfl) (by kernel_rfl) (fun _ _ _ h => h) (Or.inl ⟨by rfl, ?_⟩) (by assumption) ?_
  rotate_left
  · intro wS hSw
    (try dsimp only at hSw)
    go_simp
    (try with_reducible rfl)
  (try simp only [Act.put, List.setIfInBounds_toArray, List.set_cons_zero, List.set_cons_succ])
  refine wpAnyH_take (i := 2) (oi := { dst := some 38, op := Go.Op.move (Go.Operand.tmp 2), type := 24, pos := "gcm.go:93", after := #[], guard := none }) (v := ?_) rfl (by kernel_rfl) (by kernel_rfl) (by kernel_rfl) (fun _ _ _ h => h) (Or.inl ⟨by rfl, ?_⟩) (by assumption) ?_
  rotate_left
  · intro wS hSw
    (try dsimp only at hSw)
    go_simp
    (try with_reducible rfl)
  (try simp only [Act.put, List.setIfInBounds_toArray, List.set_cons_zero, List.set_cons_succ])
  refine wpAnyH_take (i := 3) (oi := { dst := some 39, op := Go.Op.move (Go.Operand.tmp 10), type := 3, pos := "gcm.go:93", after := #[], guard := none }) (v := ?_) rfl (by kernel_rfl) (by kernel_rfl) (by kernel_rfl) (fun _ _ _ h => h) (Or.inl ⟨by rfl, ?_⟩) (by assumption) ?_
  rotate_left
  · intro wS hSw
    (try dsimp only at hSw)
    go_simp
    (try with_reducible rfl)
  (try simp only [Act.put, List.setIfInBounds_toArray, List.set_cons_zero, List.set_cons_succ])
  refine wpAnyH_take (i := 4) (oi := { dst := some 40, op := Go.Op.slice 24 (Go.Operand.tmp 38) none (some (Go.Operand.tmp 39)) none, type := 24, pos := "gcm.go:93", after := #[{ on := 2, ground := Go.Ground.data }, { on := 3, ground := Go.Ground.data }], guard := none }) (v := ?_) rfl (by kernel_rfl) (by kernel_rfl) (by kernel_rfl) (fun _ _ _ h => h) (Or.inl ⟨by rfl, ?_⟩) (by assumption) ?_
  rotate_left
  · intro wS hSw
    (try dsimp only at hSw)
    go_simp
    (try with_reducible rfl)
  (try simp only [Act.put, List.setIfInBounds_toArray, List.set_cons_zero, List.set_cons_succ])
  refine wpAnyH_take (i := 5) (oi := { dst := some 41, op := Go.Op.move (Go.Operand.tmp 3), type := 24, pos := "gcm.go:93", after := #[], guard := none }) (v := ?_) rfl (by kernel_rfl) (by kernel_rfl) (by kernel_rfl) (fun _ _ _ h => h) (Or.inl ⟨by rfl, ?_⟩) (by assumption) ?_
  rotate_left
  · intro wS hSw
    (try dsimp only at hSw)
    go_simp
    (try with_reducible rfl)
  (try simp only [Act.put, List.setIfInBounds_toArray, List.set_cons_zero, List.set_cons_succ])
  refine wpAnyH_take (i := 7) (oi := { dst := some 43, op := Go.Op.move (Go.Operand.tmp 2), type := 24, pos := "gcm.go:93", after := #[], guard := none }) (v := ?_) rfl (by kernel_rfl) (by kernel_rfl) (by kernel_rfl) (fun _ _ _ h => h) (Or.inl ⟨by rfl, ?_⟩) (by assumption) ?_
  rotate_left
  · intro wS hSw
    (try dsimp only at hSw)
    go_simp
    (try with_reducible rfl)
  (try simp only [Act.put, List.setIfInBounds_toArray, List.set_cons_zero, List.set_cons_succ])
  refine wpAnyH_take (i := 8) (oi := { dst := some 44, op := Go.Op.move (Go.Operand.tmp 10), type := 3, pos := "gcm.go:93", after := #[], guard := none }) (v := ?_) rfl (by kernel_rfl) (by kernel_rfl) (by kernel_rfl) (fun _ _ _ h => h) (Or.inl ⟨by rfl, ?_⟩) (by assumption) ?_
  rotate_left
  · intro wS hSw
    (try dsimp only at hSw)
    go_simp
    (try with_reducible rfl)
  (try simp only [Act.put, List.setIfInBounds_toArray, List.set_cons_zero, List.set_cons_succ])
  refine wpAnyH_take (i := 9) (oi := { dst := some 45, op := Go.Op.slice 24 (Go.Operand.tmp 43) (some (Go.Operand.tmp 44)) none none, type := 24, pos := "gcm.go:93", after := #[{ on := 7, ground := Go.Ground.data }, { on := 8, ground := Go.Ground.data }], guard := none }) (v := ?_) rfl (by kernel_rfl) (by kernel_rfl) (by kernel_rfl) (fun _ _ _ h => h) (Or.inl ⟨by rfl, ?_⟩) (by assumption) ?_
  rotate_left
  · intro wS hSw
    (try dsimp only at hSw)
    go_simp
    (try with_reducible rfl)
  (try simp only [Act.put, List.setIfInBounds_toArray, List.set_cons_zero, List.set_cons_succ])
  refine wpAnyH_take (i := 10) (oi := { dst := some 46, op := Go.Op.sliceToArrayPointer 82 (Go.Operand.tmp 45), type := 0, pos := "gcm.go:93", after := #[{ on := 9, ground := Go.Ground.data }], guard := none }) (v := ?_) rfl (by kernel_rfl) (by kernel_rfl) (by kernel_rfl) (fun _ _ _ h => h) (Or.inl ⟨by rfl, ?_⟩) (by assumption) ?_
  rotate_left
  · intro wS hSw
    refine exec_s2a (x := .tmp 45) (oa := some ⟨bo, oo + en, none⟩) (len := 16) (cap := cap - en) ?_ ?_ (by decide) <;> rfl
  (try simp only [Act.put, List.setIfInBounds_toArray, List.set_cons_zero, List.set_cons_succ])
  refine wpAnyH_take (i := 11) (oi := { dst := some 47, op := Go.Op.load 82 (Go.Operand.tmp 46), type := 82, pos := "gcm.go:93", after := #[{ on := 10, ground := Go.Ground.data }], guard := none }) (v := ?_) rfl (by kernel_rfl) (by kernel_rfl) (by kernel_rfl) (fun _ _ _ h => h) (Or.inl ⟨by rfl, ?_⟩) (by assumption) ?_
  rotate_left
  · intro wS hSw
    (have c9 := run_loadAt_mid (P := Tryz.prog) wS bo (oo + en) 82 (rowC 16 Q) _ hSw Tryz.underlying82 rfl HI16.out; rw [HQA.out] at c9; refine exec_ld43 (x := .tmp 46) (v := .pointer (some ⟨bo, oo + en, none⟩)) ?_ ?_ c9 <;> rfl)
  (try simp only [Act.put, List.setIfInBounds_toArray, List.set_cons_zero, List.set_cons_succ])
  refine wpAnyH_ready (rs := [6]) (by kernel_rfl) (by simp) ?_
  refine AllReadyH.cons (o := { dst := some 42, op := Go.Op.call { callee := Go.Callee.value (Go.Operand.func 37), args := #[Go.Operand.tmp 36, Go.Operand.tmp 37, Go.Operand.tmp 40, Go.Operand.tmp 41], argTypes := #[54, 24, 24, 24] }, type := 82, pos := "gcm.go:93", after := #[{ on := 0, ground := Go.Ground.data }, { on := 1, ground := Go.Ground.data }, { on := 4, ground := Go.Ground.data }, { on := 5, ground := Go.Ground.data }], guard := none }) rfl (fun K hK => ?_) AllReadyH.nil
  go_simp
  (refine (HTG.out _ hB_0).mono ?_; rintro e v1 ⟨rfl, hK1, hO1⟩; have hR_1 : v1.rangeAt bo (oo + en) (rowC 16 Q) := HRO.out _ _ hO1 hR_0; have hX1 : Own bx w v1 := (Own.of_below hB_0).trans hO1; clear hB_0 hR_0; skip)
  (try go_wp2_with fail)
  refine hK.out _ _ ?_ (fun hHeld => ?_)
  · (try dsimp only)
    (first | assumption | (dsimp only; assumption))
  clear hK K
  (try simp only [Act.put, List.setIfInBounds_toArray, List.set_cons_zero, List.set_cons_succ])
  refine wpAnyH_take (i := 12) (oi := { dst := some 48, op := Go.Op.binOp Go.BinOp.neq 82 (Go.Operand.tmp 42) (Go.Operand.tmp 47) 82, type := 4, pos := "gcm.go:93", after := #[{ on := 6, ground := Go.Ground.data }, { on := 11, ground := Go.Ground.data }], guard := none }) (v := ?_) rfl (by kernel_rfl) (by kernel_rfl) (by kernel_rfl) (fun _ _ _ h => h) (Or.inl ⟨by rfl, ?_⟩) (by assumption) ?_
  rotate_left
  · intro wS hSw
    refine exec_neq16 (x := .tmp 42) (y := .tmp 47) (r := 82) (C := T) (D := QA) ?_ ?_ ?_ HEQ.out <;> rfl
  (try simp only [Act.put, List.setIfInBounds_toArray, List.set_cons_zero, List.set_cons_succ])
  refine wpAnyH_done (by kernel_rfl) ?_ _
  have HK1 := Lib.hid hK1
  have HX1 := Lib.hid hX1
  clear hK1 hO1 hR_1 hX1
  cases t with
  | false =>
    go_wp2_with fail
    refine bodyPost_ret (results_tmp2 rfl _ _ _) rfl ?_
    exact ⟨HK1.out, HX1.out, .inr ⟨HTT.out, rfl⟩⟩
  | true =>
    go_wp2_with fail
    refine (HCI.out v1 HK1.out HX1.out).mono ?_
    rintro e w2 ⟨v, rfl, hG2, hK2, hO2, hS2⟩
    have HZ := Lib.hid (show KG w2 g kb bx W ∧ Own bx w w2 ∧ Grow w2 (v1.heap.size + 2) v en (cphF W nn q) ∧ w.heap.size ≤ v1.heap.size + 2 from ⟨hK2, HX1.out.trans hO2, hG2, by have := HX1.out.size; omega⟩)
    clear hK2 hO2 hG2 hS2
    go_wp2_with fail
    refine bodyPost_ret (results_tmp2 rfl _ _ _) rfl ?_
    exact ⟨HZ.out.1, HZ.out.2.1, .inl ⟨HTT.out, v, _, rfl, HZ.out.2.2.1, HZ.out.2.2.2⟩⟩
end Go.Proofs.YtncfocjmdecapaaGreatDoor
