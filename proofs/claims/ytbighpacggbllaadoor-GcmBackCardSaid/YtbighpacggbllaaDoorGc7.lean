/- GCM: Open. -/
import Derived.Test.YtbighpacggbllaaDoorGc6
namespace Go.Proofs.YtbighpacggbllaaDoor
set_option linter.unusedVariables false
set_option linter.unusedSimpArgs false
set_option linter.unusedVariables false
set_option linter.unusedSimpArgs false
open Go.RowKit

theorem exec_s2a {o : Oper} {a : Act} {w : World} {x : Operand} {oa : Option Addr} {len cap : Nat} (ho : o.op = .sliceToArrayPointer 43 x) (hx : a.eval x = .slice oa len cap) (hn : 16 ≤ len) : (execOp a.eval o).run Tryd.prog w = .ok (.value (.pointer oa)) w := by
  unfold execOp
  simp only [ho, hx, Sem.run_bind, run_arrayAt w 43 5 16 oa len cap Tryd.underlying43 hn, Result.andThen_ok]
  rfl
theorem exec_ld43 {o : Oper} {a : Act} {w : World} {x : Operand} {v : Value} {C : Array Value} (ho : o.op = .load 43 x) (hx : a.eval x = v) (h : (Instr.loadAt 43 v).run Tryd.prog w = .ok (.agg C) w) : (execOp a.eval o).run Tryd.prog w = .ok (.value (.agg C)) w := by
  unfold execOp
  simp only [ho, hx, Sem.run_bind, h, Result.andThen_ok]
  rfl
/-- What Open answers. -/
def OpenR (w : World) (g kb bx : Nat) (W nn a q : Nat → Nat) (en an : Nat) (e : Ending) (w' : World) : Prop :=
  KG w' g kb bx W ∧ Own bx w w' ∧ ((eqF (tgF W nn a an q en) (fun i => q (en + i)) = true ∧ ∃ v B, e = .returned (.tuple #[v, .nilIface]) ∧ Grow w' B v en (cphF W nn q) ∧ w.heap.size ≤ B) ∨
    (eqF (tgF W nn a an q en) (fun i => q (en + i)) = false ∧ e = .returned (.tuple #[.slice none 0 0, .iface 47 (.int .i64 11)])))
set_option maxHeartbeats 4000000 in
set_option maxRecDepth 100000 in
theorem open_any (g kb bx : Nat) (W nn q a : Nat → Nat) (en an bo oo : Nat) (on oa : Option Addr) (capn cap capa : Nat) (w : World) (hK : KG w g kb bx W) (hn : Bytes w on 12 nn) (hnb : ∀ x, on = some x → x.block ≠ bx)
    (hp : Bytes w (some ⟨bo, oo, none⟩) (en + 16) q) (hpb : bo ≠ bx) (ha : Bytes w oa an a) (hc : en + 16 ≤ cap) (hm : cap ≤ maxLen) (hc2 : an ≤ capa) (hm2 : capa ≤ maxLen) (hs : en ≤ 2048) (hs2 : an ≤ 2048) :
    Calls Tryd.prog 10 #[.pointer (some ⟨g, 0, none⟩), .slice on 12 capn, .slice (some ⟨bo, oo, none⟩) (en + 16) cap, .slice oa an capa] w (OpenR w g kb bx W nn a q en an) := by
  obtain ⟨T, hT⟩ : ∃ y, (rowC 16 (tgF W nn a an q en)).toArray = y := ⟨_, rfl⟩
  obtain ⟨Q, hQ⟩ : ∃ y, (fun i => q (en + i)) = y := ⟨_, rfl⟩
  obtain ⟨QA, hQA⟩ : ∃ y, (rowC 16 Q).toArray = y := ⟨_, rfl⟩
  obtain ⟨t, ht⟩ : ∃ y, eqF (tgF W nn a an q en) Q = y := ⟨_, rfl⟩
  have HQA := Lib.hid hQA
  have HEQ : Hid (∀ w, (Op.equalIn 10000 43 (.agg T) (.agg QA)).run Tryd.prog w = .ok t w) := Lib.hid fun w => by
    rw [← hT, ← hQA, ← ht]; exact eq16 _ _ w
  have hR : ∀ A, Below w.heap.size w A → A.rangeAt bo (oo + en) (rowC 16 Q) := fun A hb j v hv => by
    have hj : j < 16 := by
      rcases Nat.lt_or_ge j 16 with h1 | h1
      · exact h1
      · rw [List.getElem?_eq_none (by rw [rowC_len]; omega)] at hv; cases hv
    rw [rowC_get _ hj] at hv
    cases hv
    obtain ⟨_, b, o, e, h2⟩ := hp (en + j) (by omega)
    cases e
    rw [← hQ, Nat.add_assoc]
    exact cell_below hb h2
  have HR := Lib.hid hR
  have HRO : Hid (∀ A B, Own bx A B → A.rangeAt bo (oo + en) (rowC 16 Q) → B.rangeAt bo (oo + en) (rowC 16 Q)) := Lib.hid fun A B hO h j v hv => hO.cell (h j v hv) hpb
  have hq2 : ∀ A, Below w.heap.size w A → Bytes A (some ⟨bo, oo, none⟩) en q := fun A hb k hk => (hp.later hb) k (by omega)
  have HTG : Hid (∀ A, Below w.heap.size w A → Calls Tryd.prog 15 #[.pointer (some ⟨g, 0, none⟩), .slice on 12 capn, .slice (some ⟨bo, oo, none⟩) en cap, .slice oa an capa] A fun e w' => e = .returned (.agg T) ∧ KG w' g kb bx W ∧ Own bx A w') := Lib.hid fun A hb => by
    rw [← hT]
    exact tag_any g kb bx W nn q a en an on (some ⟨bo, oo, none⟩) oa capn cap capa A (hK.below hb) (hn.later hb) (hq2 A hb) (ha.later hb) hnb (by omega) hc2 hm hm2 (by omega) (by omega)
  have HCI : Hid (∀ A, KG A g kb bx W → Own bx w A → Calls Tryd.prog 14 #[.pointer (some ⟨g, 0, none⟩), .slice on 12 capn, .slice (some ⟨bo, oo, none⟩) en cap] A fun e w' => ∃ v, e = .returned v ∧ Grow w' (A.heap.size + 2) v en (cphF W nn q) ∧ KG w' g kb bx W ∧ Own bx A w' ∧ A.heap.size + 2 ≤ w'.heap.size) := Lib.hid fun A hk hO =>
    ciph_any g kb bx W nn q en on (some ⟨bo, oo, none⟩) capn cap A hk (hn.own hO (fun x hx _ => hnb x hx)) hnb ((hq2 w (Below.refl _ _)).own hO (fun x hx _ => by cases hx; exact hpb)) (fun x hx _ => by cases hx; exact hpb) (by omega) hm (by omega)
  have HI16 : Hid ((Tryd.prog.info? 43).map (·.size) = some (rowC 16 Q).length) := Lib.hid (by rw [rowC_len]; exact size16)
  have HTT : Hid (eqF (tgF W nn a an q en) (fun i => q (en + i)) = t) := Lib.hid (hQ ▸ ht)
  have e1 : ¬ ((2064 : Int) < (en : Int) + 16) := by omega
  have e2 : ¬ ((2048 : Int) < (an : Int)) := by omega
  have e3 : decide ((2064 : Int) < (en : Int) + 16) = false := decide_eq_false e1
  have e4 : decide ((2048 : Int) < (an : Int)) = false := decide_eq_false e2
  have e5 : ¬ ((en : Int) + 16 < 16) := by omega
  have e6 : decide ((en : Int) + 16 < 16) = false := decide_eq_false e5
  have e7 : IntKind.i64.wrap ((en : Int) + 16 - 16) = (en : Int) := by rw [IntWalk.i64_in _ (by omega)]; omega
  have e8 : (0 : Int) ≤ (en : Int) := by omega
  have e9 : (en : Int) ≤ (cap : Int) := by omega
  have e10 : ¬ cap = en := by omega
  have e11 : (en : Int) ≤ (en : Int) + 16 := by omega
  clear hK hn hnb hp hpb ha hc hm hc2 hm2 hs hs2 hT hQ hQA ht hR hq2
  go_enter Tryd.func10, Tryd.ntmps10
  go_upto_region 6 with fail
  have hB_0 : Below w.heap.size w w.drew := ⟨rfl, rfl, rfl, Nat.le_refl _, fun _ _ => rfl⟩
  have hR_0 := HR.out _ hB_0
  refine wp_region_held_drew (S := (fun A => A.rangeAt bo (oo + en) (rowC 16 Q))) (by kernel_rfl) ?_ (fun hHeld => ?_)
  · (try dsimp only)
    (first | assumption | (dsimp only; assumption))
  generalize w.drew = W0 at *
  refine wpAnyH_take (i := 0) (oi := { dst := some 36, op := Go.Op.move (Go.Operand.tmp 0), type := 26, pos := "gcm.go:93", after := #[], guard := none }) (v := ?_) rfl (by kernel_rfl) (by kernel_rfl) (by kernel_rfl) (fun _ _ _ h => h) (Or.inl ⟨by rfl, ?_⟩) (by assumption) ?_
  rotate_left
  · intro wS hSw
    (try dsimp only at hSw)
    go_simp
    (try with_reducible rfl)
  (try simp only [Act.put, List.setIfInBounds_toArray, List.set_cons_zero, List.set_cons_succ])
  refine wpAnyH_take (i := 1) (oi := { dst := some 37, op := Go.Op.move (Go.Operand.tmp 1), type := 22, pos := "gcm.go:93", after := #[], guard := none }) (v := ?_) rfl (by kernel_rfl) (by kernel_rfl) (by kernel_rfl) (fun _ _ _ h => h) (Or.inl ⟨by rfl, ?_⟩) (by assumption) ?_
  rotate_left
  · intro wS hSw
    (try dsimp only at hSw)
    go_simp
    (try with_reducible rfl)
  (try simp only [Act.put, List.setIfInBounds_toArray, List.set_cons_zero, List.set_cons_succ])
  refine wpAnyH_take (i := 2) (oi := { dst := some 38, op := Go.Op.move (Go.Operand.tmp 2), type := 22, pos := "gcm.go:93", after := #[], guard := none }) (v := ?_) rfl (by kernel_rfl) (by kernel_rfl) (by kernel_rfl) (fun _ _ _ h => h) (Or.inl ⟨by rfl, ?_⟩) (by assumption) ?_
  rotate_left
  · intro wS hSw
    (try dsimp only at hSw)
    go_simp
    (try with_reducible rfl)
  (try simp only [Act.put, List.setIfInBounds_toArray, List.set_cons_zero, List.set_cons_succ])
  refine wpAnyH_take (i := 3) (oi := { dst := some 39, op := Go.Op.move (Go.Operand.tmp 10), type := 3, pos := "gcm.go:93", after := #[], guard := none }) (v := ?_) rfl (by kernel_rfl) (by kernel_rfl) (by kernel_rfl) (fun _ _ _ h => h) (Or.inl ⟨by rfl, ?_⟩) (by assumption) ?_
  rotate_left
  · intro wS hSw
    (try dsimp only at hSw)
    go_simp
    (try with_reducible rfl)
  (try simp only [Act.put, List.setIfInBounds_toArray, List.set_cons_zero, List.set_cons_succ])
  refine wpAnyH_take (i := 4) (oi := { dst := some 40, op := Go.Op.slice 22 (Go.Operand.tmp 38) none (some (Go.Operand.tmp 39)) none, type := 22, pos := "gcm.go:93", after := #[{ on := 2, ground := Go.Ground.data }, { on := 3, ground := Go.Ground.data }], guard := none }) (v := ?_) rfl (by kernel_rfl) (by kernel_rfl) (by kernel_rfl) (fun _ _ _ h => h) (Or.inl ⟨by rfl, ?_⟩) (by assumption) ?_
  rotate_left
  · intro wS hSw
    (try dsimp only at hSw)
    go_simp
    (try with_reducible rfl)
  (try simp only [Act.put, List.setIfInBounds_toArray, List.set_cons_zero, List.set_cons_succ])
  refine wpAnyH_take (i := 5) (oi := { dst := some 41, op := Go.Op.move (Go.Operand.tmp 3), type := 22, pos := "gcm.go:93", after := #[], guard := none }) (v := ?_) rfl (by kernel_rfl) (by kernel_rfl) (by kernel_rfl) (fun _ _ _ h => h) (Or.inl ⟨by rfl, ?_⟩) (by assumption) ?_
  rotate_left
  · intro wS hSw
    (try dsimp only at hSw)
    go_simp
    (try with_reducible rfl)
  (try simp only [Act.put, List.setIfInBounds_toArray, List.set_cons_zero, List.set_cons_succ])
  refine wpAnyH_take (i := 7) (oi := { dst := some 43, op := Go.Op.move (Go.Operand.tmp 2), type := 22, pos := "gcm.go:93", after := #[], guard := none }) (v := ?_) rfl (by kernel_rfl) (by kernel_rfl) (by kernel_rfl) (fun _ _ _ h => h) (Or.inl ⟨by rfl, ?_⟩) (by assumption) ?_
  rotate_left
  · intro wS hSw
    (try dsimp only at hSw)
    go_simp
    (try with_reducible rfl)
  (try simp only [Act.put, List.setIfInBounds_toArray, List.set_cons_zero, List.set_cons_succ])
  refine wpAnyH_take (i := 8) (oi := { dst := some 44, op := Go.Op.move (Go.Operand.tmp 10), type := 3, pos := "gcm.go:93", after := #[], guard := none }) (v := ?_) rfl (by kernel_rfl) (by kernel_rfl) (by kernel_rfl) (fun _ _ _ h => h) (Or.inl ⟨by rfl, ?_⟩) (by assumption) ?_
  rotate_left
  · intro wS hSw
    (try dsimp only at hSw)
    go_simp
    (try with_reducible rfl)
  (try simp only [Act.put, List.setIfInBounds_toArray, List.set_cons_zero, List.set_cons_succ])
  refine wpAnyH_take (i := 9) (oi := { dst := some 45, op := Go.Op.slice 22 (Go.Operand.tmp 43) (some (Go.Operand.tmp 44)) none none, type := 22, pos := "gcm.go:93", after := #[{ on := 7, ground := Go.Ground.data }, { on := 8, ground := Go.Ground.data }], guard := none }) (v := ?_) rfl (by kernel_rfl) (by kernel_rfl) (by kernel_rfl) (fun _ _ _ h => h) (Or.inl ⟨by rfl, ?_⟩) (by assumption) ?_
  rotate_left
  · intro wS hSw
    (try dsimp only at hSw)
    go_simp
    (try with_reducible rfl)
  (try simp only [Act.put, List.setIfInBounds_toArray, List.set_cons_zero, List.set_cons_succ])
  refine wpAnyH_take (i := 10) (oi := { dst := some 46, op := Go.Op.sliceToArrayPointer 43 (Go.Operand.tmp 45), type := 0, pos := "gcm.go:93", after := #[{ on := 9, ground := Go.Ground.data }], guard := none }) (v := ?_) rfl (by kernel_rfl) (by kernel_rfl) (by kernel_rfl) (fun _ _ _ h => h) (Or.inl ⟨by rfl, ?_⟩) (by assumption) ?_
  rotate_left
  · intro wS hSw
    refine exec_s2a (x := .tmp 45) (oa := some ⟨bo, oo + en, none⟩) (len := 16) (cap := cap - en) ?_ ?_ (by decide) <;> rfl
  (try simp only [Act.put, List.setIfInBounds_toArray, List.set_cons_zero, List.set_cons_succ])
  refine wpAnyH_take (i := 11) (oi := { dst := some 47, op := Go.Op.load 43 (Go.Operand.tmp 46), type := 43, pos := "gcm.go:93", after := #[{ on := 10, ground := Go.Ground.data }], guard := none }) (v := ?_) rfl (by kernel_rfl) (by kernel_rfl) (by kernel_rfl) (fun _ _ _ h => h) (Or.inl ⟨by rfl, ?_⟩) (by assumption) ?_
  rotate_left
  · intro wS hSw
    (have c9 := run_loadAt_mid (P := Tryd.prog) wS bo (oo + en) 43 (rowC 16 Q) _ hSw Tryd.underlying43 rfl HI16.out; rw [HQA.out] at c9; refine exec_ld43 (x := .tmp 46) (v := .pointer (some ⟨bo, oo + en, none⟩)) ?_ ?_ c9 <;> rfl)
  (try simp only [Act.put, List.setIfInBounds_toArray, List.set_cons_zero, List.set_cons_succ])
  refine wpAnyH_ready (rs := [6]) (by kernel_rfl) (by simp) ?_
  refine AllReadyH.cons (o := { dst := some 42, op := Go.Op.call { callee := Go.Callee.value (Go.Operand.func 15), args := #[Go.Operand.tmp 36, Go.Operand.tmp 37, Go.Operand.tmp 40, Go.Operand.tmp 41], argTypes := #[26, 22, 22, 22] }, type := 43, pos := "gcm.go:93", after := #[{ on := 0, ground := Go.Ground.data }, { on := 1, ground := Go.Ground.data }, { on := 4, ground := Go.Ground.data }, { on := 5, ground := Go.Ground.data }], guard := none }) rfl (fun K hK => ?_) AllReadyH.nil
  go_simp
  (refine (HTG.out _ hB_0).mono ?_; rintro e v1 ⟨rfl, hK1, hO1⟩; have hR_1 : v1.rangeAt bo (oo + en) (rowC 16 Q) := HRO.out _ _ hO1 hR_0; have hX1 : Own bx w v1 := (Own.of_below hB_0).trans hO1; clear hB_0 hR_0; skip)
  (try go_wp2_with fail)
  refine hK.out _ _ ?_ (fun hHeld => ?_)
  · (try dsimp only)
    (first | assumption | (dsimp only; assumption))
  clear hK K
  (try simp only [Act.put, List.setIfInBounds_toArray, List.set_cons_zero, List.set_cons_succ])
  refine wpAnyH_take (i := 12) (oi := { dst := some 48, op := Go.Op.binOp Go.BinOp.neq 43 (Go.Operand.tmp 42) (Go.Operand.tmp 47) 43, type := 4, pos := "gcm.go:93", after := #[{ on := 6, ground := Go.Ground.data }, { on := 11, ground := Go.Ground.data }], guard := none }) (v := ?_) rfl (by kernel_rfl) (by kernel_rfl) (by kernel_rfl) (fun _ _ _ h => h) (Or.inl ⟨by rfl, ?_⟩) (by assumption) ?_
  rotate_left
  · intro wS hSw
    refine exec_neq16 (x := .tmp 42) (y := .tmp 47) (r := 43) (C := T) (D := QA) ?_ ?_ ?_ HEQ.out <;> rfl
  (try simp only [Act.put, List.setIfInBounds_toArray, List.set_cons_zero, List.set_cons_succ])
  refine wpAnyH_done (by kernel_rfl) ?_ _
  have HK1 := Lib.hid hK1
  have HX1 := Lib.hid hX1
  clear hK1 hO1 hR_1 hX1
  cases t with
  | false =>
    go_wp2_with fail
    refine bodyPost_ret (results_tmp2 rfl _ _ _) rfl ?_
    exact ⟨HK1.out, HX1.out, .inr ⟨HTT.out, rfl⟩⟩
  | true =>
    go_wp2_with fail
    refine (HCI.out v1 HK1.out HX1.out).mono ?_
    rintro e w2 ⟨v, rfl, hG2, hK2, hO2, hS2⟩
    have HZ := Lib.hid (show KG w2 g kb bx W ∧ Own bx w w2 ∧ Grow w2 (v1.heap.size + 2) v en (cphF W nn q) ∧ w.heap.size ≤ v1.heap.size + 2 from ⟨hK2, HX1.out.trans hO2, hG2, by have := HX1.out.size; omega⟩)
    clear hK2 hO2 hG2 hS2
    go_wp2_with fail
    refine bodyPost_ret (results_tmp2 rfl _ _ _) rfl ?_
    exact ⟨HZ.out.1, HZ.out.2.1, .inl ⟨HTT.out, v, _, rfl, HZ.out.2.2.1, HZ.out.2.2.2⟩⟩
set_option maxHeartbeats 4000000 in
set_option maxRecDepth 100000 in
theorem opens_any (g kb bx : Nat) (W nn q a : Nat → Nat) (en an bo oo : Nat) (on oa : Option Addr) (capn cap capa : Nat) (w : World) (hK : KG w g kb bx W) (hn : Bytes w on 12 nn) (hnb : ∀ x, on = some x → x.block ≠ bx)
    (hp : Bytes w (some ⟨bo, oo, none⟩) (en + 16) q) (hpb : bo ≠ bx) (ha : Bytes w oa an a) (hc : en + 16 ≤ cap) (hm : cap ≤ maxLen) (hc2 : an ≤ capa) (hm2 : capa ≤ maxLen) (hs : en ≤ 2048) (hs2 : an ≤ 2048) :
    Calls Tryd.prog 9 #[.pointer (some ⟨g, 0, none⟩), .slice on 12 capn, .slice (some ⟨bo, oo, none⟩) (en + 16) cap, .slice oa an capa] w fun e w' => e = .returned (.bool (eqF (tgF W nn a an q en) (fun i => q (en + i)))) ∧ KG w' g kb bx W ∧ Own bx w w' := by
  have HO := Lib.hid (open_any g kb bx W nn q a en an bo oo on oa capn cap capa w hK hn hnb hp hpb ha hc hm hc2 hm2 hs hs2)
  clear hK hn hnb hp hpb ha hc hm hc2 hm2 hs hs2
  go_enter Tryd.func9, Tryd.ntmps9
  go_wp2_with fail
  refine HO.out.mono ?_
  rintro e w1 ⟨hK1, hO1, (⟨ht, v, B, rfl, _, _⟩ | ⟨ht, rfl⟩)⟩
  · have HT := Lib.hid ht
    clear ht
    go_wp2_with fail
    go_ret
    exact ⟨by rw [HT.out]; rfl, hK1, hO1⟩
  · have HT := Lib.hid ht
    clear ht
    go_wp2_with fail
    go_ret
    exact ⟨by rw [HT.out]; rfl, hK1, hO1⟩
/-- A box that is too short. -/
theorem open_short (g : Nat) (n : Nat) (on ob : Option Addr) (capn cap : Nat) (w : World) (hs : n < 16) :
    Calls Tryd.prog 10 #[.pointer (some ⟨g, 0, none⟩), .slice on 12 capn, .slice ob n cap, .slice none 0 0] w fun e w' => e = .returned (.tuple #[.slice none 0 0, .iface 47 (.int .i64 11)]) ∧ w' = w := by
  have e1 : ¬ ((2064 : Int) < (n : Int)) := by omega
  have e3 : decide ((2064 : Int) < (n : Int)) = false := decide_eq_false e1
  have e5 : ((n : Int) < 16) := by omega
  go_enter Tryd.func10, Tryd.ntmps10
  go_wp2_with fail
  refine bodyPost_ret (results_tmp2 rfl _ _ _) rfl ?_
  exact ⟨rfl, rfl⟩
end Go.Proofs.YtbighpacggbllaaDoor
