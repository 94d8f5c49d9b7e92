/- Of, Verify, Encode and Decode, the document's too. -/
import Derived.Test.YtmabhjifldafaaaDoorCh2
import Derived.Test.YtmabhjifldafaaaDoorWiG
namespace Go.Proofs.YtmabhjifldafaaaDoor
set_option linter.unusedVariables false
set_option linter.unusedSimpArgs false
open Go.RowKit

/-- The fields of a head's bytes. -/
def hdB (k : Nat) (S : Nat → Nat) : Nat → Nat := catF 8 (numB k 8) S
theorem hdB_lt {k : Nat} {S : Nat → Nat} (hS : ∀ i, i < 32 → S i < 256) : ∀ i, i < 40 → hdB k S i < 256 := catF_b (n := 8) (m := 32) (fun i _ => numB_lt _ _ _) hS
set_option maxRecDepth 100000 in
set_option maxHeartbeats 8000000 in
theorem of_any (oa : Option Addr) (n cn : Nat) (K : Nat → Nat) (op : Option Addr) (q cq : Nat) (L : Nat → Nat) (G : Nat → Nat → Nat) (w : World) (hK : Bytes w oa n K) (hnc : n ≤ cn) (hno : oa = none → n = 0) (hn : n < 100000000) (hL : LBs w op q L G) (hq : q ≤ 100) (hl : ∀ i, i < q → L i ≤ 100000) (hg : GV w) :
    Calls Tryd.prog 36 #[.slice oa n cn, .slice op q cq] w fun e w' => e = .returned (.agg (hdL q (hs n K L G q)).toArray) ∧ Below w.heap.size w w' := by
  have hz := zero_h1
  obtain ⟨wa, hwa⟩ : ∃ x, w.alloc (.cells zeroH 65) = x := ⟨_, rfl⟩
  have hba : Below w.heap.size w wa := by rw [← hwa]; exact (Below.refl _ _).alloc (Nat.le_refl _) _
  have hHD := heads_any oa n cn K op q cq L G wa (hK.later hba) hnc hno hn (hL.later hba) hq hl (hg.later hba)
  have H0 : Hid (Blk wa w.heap.size zeroH 65 ∧ Below w.heap.size w wa) := Lib.hid ⟨by rw [← hwa]; exact Blk.new _ _ _, hba⟩
  have HHD := Lib.hid hHD
  obtain ⟨C, hC⟩ : ∃ C, (hdL q (hs n K L G q)).toArray = C := ⟨_, rfl⟩
  have HI : Hid ((Tryd.prog.info? 65).map (·.size) = some C.size) := Lib.hid (by rw [← hC, hd_size]; exact info_h1)
  have HIL : Hid ((Tryd.prog.info? 65).map (·.size) = some (hdL q (hs n K L G q)).length) := Lib.hid (by rw [hdL_len]; exact info_h1)
  have HIO : Hid (C.all (·.oneCell') = true) := Lib.hid (by rw [← hC]; exact hd_one _ _)
  have HIS : Hid (C.size = zeroH.size) := Lib.hid (by rw [← hC, hd_size, zeroH_size])
  have HCE := Lib.hid hC
  have q0 : (q : Int) ≤ 9223372036854775807 := by omega
  rw [hC]
  clear hK hnc hno hn hL hq hl hg hba hHD hC
  go_enter Tryd.func36, Tryd.ntmps36
  go_wp2_with fail
  refine HHD.out.mono ?_
  rintro e w1 ⟨b, c, rfl, hc, hR, hb1⟩
  have HR1 : Hid (w1.rangeAt b (q * 33) (hdL q (hs n K L G q))) := Lib.hid (hR q (Nat.le_refl _))
  have HB1 : Hid (Blk w1 w.heap.size zeroH 65) := Lib.hid (Blk.below H0.out.1 hb1 (Blk.lt H0.out.1))
  have HO1 : Hid (Below w.heap.size w w1) := Lib.hid (H0.out.2.trans (hb1.mono H0.out.2.size))
  have HX : Hid (Blk (w1.setCells w.heap.size 0 C.toList) w.heap.size C 65 ∧ w1.there w.heap.size 0 C.size ∧ Below w.heap.size w (w1.setCells w.heap.size 0 C.toList)) := Lib.hid ⟨Blk.whole HB1.out HIS.out, Blk.thereAll HB1.out _ (Nat.le_of_eq HIS.out), HO1.out.trans ((Own.setCells _ 0 _).below (Nat.le_refl _) HO1.out.size)⟩
  clear hR hb1 hc hwa hz
  have i1 : (0 : Int) ≤ (q : Int) := by omega
  have i2 : (q : Int) < (q : Int) + 1 := by omega
  have i3 : (q : Int) < ((q + 1 : Nat) : Int) := by omega
  go_wp2_with (first
    | (refine wpList_load_mid rfl 65 (.tmp 10) rfl b (q * 33) rfl (hdL q (hs n K L G q)) _ HR1.out Tryd.underlying65 rfl HIL.out ?_; rw [HCE.out])
    | (refine wpList_store_mid rfl 65 (.tmp 4) (.tmp 11) rfl w.heap.size 0 C rfl rfl HX.out.2.1 HI.out HIO.out ?_))
  refine bodyPost_ret (v := .agg C) ?_ rfl ⟨rfl, HX.out.2.2⟩
  exact results_cell_row Tryd.results36 _ _ w.heap.size 65 C (0, 0) _ rfl HX.out.1 Tryd.underlying65 rfl HI.out
set_option maxRecDepth 100000 in
set_option maxHeartbeats 8000000 in
theorem verify_any (oa : Option Addr) (n cn : Nat) (K : Nat → Nat) (op : Option Addr) (q cq : Nat) (L : Nat → Nat) (G : Nat → Nat → Nat) (k : Nat) (S : Nat → Nat) (w : World) (hK : Bytes w oa n K) (hnc : n ≤ cn) (hno : oa = none → n = 0) (hn : n < 100000000) (hL : LBs w op q L G) (hq : q ≤ 100) (hl : ∀ i, i < q → L i ≤ 100000) (hg : GV w) :
    Calls Tryd.prog 37 #[.slice oa n cn, .slice op q cq, .agg (hdL k S).toArray] w fun e w' => e = .returned (.bool (decide (q = k) && eqS (hs n K L G q) S)) ∧ Below w.heap.size w w' := by
  obtain ⟨D, hD⟩ : ∃ C, (hdL k S).toArray = C := ⟨_, rfl⟩
  obtain ⟨C, hC⟩ : ∃ C, (hdL q (hs n K L G q)).toArray = C := ⟨_, rfl⟩
  obtain ⟨wa, hwa⟩ : ∃ x, w.alloc (.cells D 65) = x := ⟨_, rfl⟩
  have hba : Below w.heap.size w wa := by rw [← hwa]; exact (Below.refl _ _).alloc (Nat.le_refl _) _
  obtain ⟨r, hr⟩ : ∃ r, (decide (q = k) && eqS (hs n K L G q) S) = r := ⟨_, rfl⟩
  have HB : Hid (Blk wa w.heap.size D 65) := Lib.hid (by rw [← hwa]; exact Blk.new _ _ _)
  have HO := Lib.hid hba
  have HOF : Hid (∀ w', Below wa.heap.size wa w' → Calls Tryd.prog 36 #[.slice oa n cn, .slice op q cq] w' fun e w'' => e = .returned (.agg C) ∧ Below w'.heap.size w' w'') := Lib.hid fun w' h => by
    have h2 := hba.trans (h.mono hba.size)
    rw [← hC]; exact of_any oa n cn K op q cq L G w' (hK.later h2) hnc hno hn (hL.later h2) hq hl (hg.later h2)
  have HI : Hid ((Tryd.prog.info? 65).map (·.size) = some D.size) := Lib.hid (by rw [← hD, hd_size]; exact info_h1)
  have HEQ : Hid (∀ w, (Op.equalIn 10000 65 (.agg C) (.agg D)).run Tryd.prog w = .ok r w) := Lib.hid fun w => by rw [← hC, ← hD, ← hr]; exact eq_h1 _ _ _ _ w
  rw [hD, hr]
  clear hK hnc hno hn hL hq hl hg hba hD hC hr
  go_enter Tryd.func37, Tryd.ntmps37
  go_wp2_with fail
  have hS_0 : Below wa.heap.size wa wa.drew := (Below.refl _ _).drew
  clear hwa
  refine wp_region_held_drew (S := (Below wa.heap.size wa)) (by kernel_rfl) ?_ (fun hHeld => ?_)
  · (try dsimp only)
    first | assumption
  generalize wa.drew = W0 at *
  refine wpAnyH_take (i := 0) (oi := { dst := some 7, op := Go.Op.move (Go.Operand.tmp 0), type := 33, pos := "chain.go:52", after := #[], guard := none }) (v := ?_) rfl (by kernel_rfl) (by kernel_rfl) (by kernel_rfl) (fun _ _ _ h => h) (Or.inl ⟨by rfl, ?_⟩) (by assumption) ?_
  rotate_left
  · intro wS hSw
    (try dsimp only at hSw)
    go_simp
    (try with_reducible rfl)
  (try simp only [Act.put, List.setIfInBounds_toArray, List.set_cons_zero, List.set_cons_succ])
  refine wpAnyH_take (i := 1) (oi := { dst := some 8, op := Go.Op.move (Go.Operand.tmp 1), type := 34, pos := "chain.go:52", after := #[], guard := none }) (v := ?_) rfl (by kernel_rfl) (by kernel_rfl) (by kernel_rfl) (fun _ _ _ h => h) (Or.inl ⟨by rfl, ?_⟩) (by assumption) ?_
  rotate_left
  · intro wS hSw
    (try dsimp only at hSw)
    go_simp
    (try with_reducible rfl)
  (try simp only [Act.put, List.setIfInBounds_toArray, List.set_cons_zero, List.set_cons_succ])
  refine wpAnyH_take (i := 3) (oi := { dst := some 10, op := Go.Op.load 65 (Go.Operand.tmp 5), type := 65, pos := "chain.go:52", after := #[], guard := none }) (v := ?_) rfl (by kernel_rfl) (by kernel_rfl) (by kernel_rfl) (fun _ _ _ h => h) (Or.inl ⟨by rfl, ?_⟩) (by assumption) ?_
  rotate_left
  · intro wS hSw
    refine exec_loadB (x := .tmp 5) (g := w.heap.size) (t := 65) ?_ ?_ (Blk.below HB.out hSw (Blk.lt HB.out)) Tryd.underlying65 rfl HI.out <;> rfl
  (try simp only [Act.put, List.setIfInBounds_toArray, List.set_cons_zero, List.set_cons_succ])
  refine wpAnyH_ready (rs := [2]) (by kernel_rfl) (by simp) ?_
  refine AllReadyH.cons (o := { dst := some 9, op := Go.Op.call { callee := Go.Callee.value (Go.Operand.func 36), args := #[Go.Operand.tmp 7, Go.Operand.tmp 8], argTypes := #[33, 34] }, type := 65, pos := "chain.go:52", after := #[{ on := 0, ground := Go.Ground.data }, { on := 1, ground := Go.Ground.data }], guard := none }) rfl (fun K hK => ?_) AllReadyH.nil
  go_simp
  (refine (HOF.out _ hS_0).mono ?_; rintro e v_1 ⟨rfl, hb1⟩; have hS_1 := hS_0.trans (hb1.mono hS_0.size); clear hb1 hS_0; skip)
  (try go_wp2_with fail)
  refine hK.out _ _ ?_ (fun hHeld => ?_)
  · (try dsimp only)
    first | assumption
  clear hK K
  (try simp only [Act.put, List.setIfInBounds_toArray, List.set_cons_zero, List.set_cons_succ])
  refine wpAnyH_take (i := 4) (oi := { dst := some 11, op := Go.Op.binOp Go.BinOp.eql 65 (Go.Operand.tmp 9) (Go.Operand.tmp 10) 65, type := 4, pos := "chain.go:52", after := #[{ on := 2, ground := Go.Ground.data }, { on := 3, ground := Go.Ground.data }], guard := none }) (v := ?_) rfl (by kernel_rfl) (by kernel_rfl) (by kernel_rfl) (fun _ _ _ h => h) (Or.inl ⟨by rfl, ?_⟩) (by assumption) ?_
  rotate_left
  · intro wS hSw
    refine exec_eqlM (r := 65) (x := .tmp 9) (y := .tmp 10) guard_h1 ?_ ?_ ?_ HEQ.out <;> rfl
  (try simp only [Act.put, List.setIfInBounds_toArray, List.set_cons_zero, List.set_cons_succ])
  refine wpAnyH_take (i := 5) (oi := { dst := some 6, op := Go.Op.assign (Go.Operand.tmp 11), type := 4, pos := "chain.go:52", after := #[{ on := 4, ground := Go.Ground.data }, { on := 2, ground := Go.Ground.chain }, { on := 0, ground := Go.Ground.phase }, { on := 1, ground := Go.Ground.phase }, { on := 2, ground := Go.Ground.phase }, { on := 3, ground := Go.Ground.phase }, { on := 4, ground := Go.Ground.phase }], guard := none }) (v := ?_) rfl (by kernel_rfl) (by kernel_rfl) (by kernel_rfl) (fun _ _ _ h => h) (Or.inl ⟨by rfl, ?_⟩) (by assumption) ?_
  rotate_left
  · intro wS hSw
    (try dsimp only at hSw)
    go_simp
    (try with_reducible rfl)
  (try simp only [Act.put, List.setIfInBounds_toArray, List.set_cons_zero, List.set_cons_succ])
  refine wpAnyH_done (by kernel_rfl) ?_ _
  go_wp2_with fail
  go_ret
  exact ⟨rfl, HO.out.trans (hS_1.mono HO.out.size)⟩
end Go.Proofs.YtmabhjifldafaaaDoor
