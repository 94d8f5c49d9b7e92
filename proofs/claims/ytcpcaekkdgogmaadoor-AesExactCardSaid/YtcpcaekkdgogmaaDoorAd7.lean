/- AES, the document's side: Ready. -/
import Derived.Test.YtcpcaekkdgogmaaDoorAd6
namespace Go.Proofs.YtcpcaekkdgogmaaDoor
set_option linter.unusedVariables false
set_option linter.unusedSimpArgs false
open Go.RowKit

/-- The table, and a place for the answer. -/
structure RY (w0 : World) (gT : Nat) (C : Array Value) (wr : World) : Prop where
  t : Blk wr gT C 39
  r : RB 41 496 w0.heap.size (fun _ => 0) wr
  o : Below w0.heap.size w0 wr
  n : w0.heap.size < gT
theorem RY.below {w0 : World} {gT : Nat} {C : Array Value} {wr w' : World} (h : RY w0 gT C wr) (hb : Below wr.heap.size wr w') : RY w0 gT C w' :=
  ⟨Blk.below h.t hb (Blk.lt h.t), Blk.below h.r hb (Blk.lt h.r), h.o.trans (hb.mono h.o.size), h.n⟩
/-- The table alone. -/
def TB (g : Nat) (C : Array Value) (w : World) : Prop := Blk w g C 39
def zero256r : Array Value := (rowC 256 (fun _ => 0)).toArray
theorem zero256r_run (w : World) : (zeroValue 39).run Tryd.prog w = .ok (.agg zero256r) w := by kernel_rfl
theorem step_storeM {ops : Array Oper} {o : Oper} {a : Act} {w : World} {K : Act → World → Prop} {Q : Exit → Act → World → Prop} {E : Prop} (hgd : o.guard = none) (ty : TypeId) (x y : Operand) (ho : o.op = .store ty x y) (b off : Nat) (cells : Array Value) (hx : a.eval x = .pointer (some ⟨b, off, none⟩)) (hy : a.eval y = .agg cells)
    (ht : w.there b off cells.size) (hi : (Tryd.prog.info? ty).map (·.size) = some cells.size) (h1 : cells.all (·.oneCell') = true) (h : K (a.put o.dst undef) (w.setCells b off cells.toList)) : if Region.wanted o (yielded ops a.tmps) = true then Oper.wp Tryd.prog o a w K Q else E := by
  have hw : Region.wanted o (yielded ops a.tmps) = true := by simp [Region.wanted, hgd]
  rw [if_pos hw]
  exact wp_store_mid ty x y ho b off cells hx hy ht hi h1 h
set_option maxRecDepth 100000 in
set_option maxHeartbeats 4000000 in
theorem rReady_any (f : Nat → Nat) (oa : Option Addr) (cap : Nat) (w : World) (hb : Bytes w oa 32 f) :
    Calls Tryd.prog 11 #[.slice oa 32 cap] w fun e w' => e = .returned (.agg (rowC 496 (cF (exK f 60))).toArray) ∧ Below w.heap.size w w' := by
  have hf : ∀ i, i < 32 → f i < 256 := fun i hi => (hb i hi).1
  obtain ⟨kb, off, rfl, hkl, hk⟩ := bytes_out hb
  have hz := zero496_run
  have hz2 := zero256r_run
  obtain ⟨C, hC⟩ : ∃ C, (rowC 256 subN).toArray = C := ⟨_, rfl⟩
  obtain ⟨E, hE⟩ : ∃ C, (rowC 240 (dF f)).toArray = C := ⟨_, rfl⟩
  obtain ⟨G, hG⟩ : ∃ C, (rowC 496 (cF (exK f 60))).toArray = C := ⟨_, rfl⟩
  have HTB : Hid (∀ w', Calls Tryd.prog 20 #[] w' fun e w'' => e = .returned (.agg C) ∧ Below w'.heap.size w' w'') := Lib.hid fun w' => by rw [← hC]; exact table_any w'
  have HWD : Hid (∀ w', Below w.heap.size w w' → Calls Tryd.prog 19 #[.slice (some ⟨kb, off, none⟩) 32 cap, .agg C] w' fun e w'' => e = .returned (.agg E) ∧ Below w'.heap.size w' w'') := Lib.hid fun w' h => by
    rw [← hC, ← hE]; exact rwords_any f kb off cap w' hf fun i hi => cell_belowB h hkl (hk i hi)
  have HBD : Hid (∀ w', (Instr.build 41 #[(0, .agg E), (1, .agg C)]).run Tryd.prog w' = .ok (.agg G) w') := Lib.hid fun w' => by
    rw [← hC, ← hE, build41 (dF f) w', ← hG]; rfl
  have hI3 : (Tryd.prog.info? 39).map (·.size) = some C.size := by rw [← hC]; exact info39 _
  have hI4 : C.all (·.oneCell') = true := by rw [← hC]; exact all_oneCell_toArray (rowC_one _ _)
  have hCS : C.size = 256 := by rw [← hC]; exact size256r _
  have HCB : Hid (∀ w' g, RB 39 256 g (fun _ => 0) w' → Blk (w'.setCells g 0 C.toList) g C 39) := Lib.hid fun w' g h => by
    rw [← hC]; exact Blk.setCells h (rowC 256 subN) (by rw [size256r, rowC_len])
  have hI : (Tryd.prog.info? 41).map (·.size) = some G.size := by rw [← hG]; exact info41 _
  have hI1 : G.all (·.oneCell') = true := by rw [← hG]; exact one496 _
  have hGS : G.size = 496 := by rw [← hG]; exact size496 _
  have HGB : Hid (∀ w', RB 41 496 w.heap.size (fun _ => 0) w' → Blk (w'.setCells w.heap.size 0 G.toList) w.heap.size G 41) := Lib.hid fun w' h => by
    rw [← hG]; exact Blk.setCells h (rowC 496 _) (by rw [size496, rowC_len])
  obtain ⟨w1, hw1⟩ : ∃ q, w.alloc (.cells zero496 41) = q := ⟨_, rfl⟩
  have H1 : Hid (RB 41 496 w.heap.size (fun _ => 0) w1 ∧ Below w.heap.size w w1) := Lib.hid ⟨by rw [← hw1]; exact Blk.new w zero496 _, by rw [← hw1]; exact (Below.refl _ _).alloc (Nat.le_refl _) _⟩
  have HI := Lib.hid hI
  have HI1 := Lib.hid hI1
  have HGS := Lib.hid hGS
  have HI3 := Lib.hid hI3
  have HI4 := Lib.hid hI4
  have HCS := Lib.hid hCS
  rw [hG]
  clear hf hk hkl hb hC hE hG hI hI1 hGS hI3 hI4 hCS
  go_enter Tryd.func11, Tryd.ntmps11
  go_wp2_with fail
  clear hw1 hz
  refine (HTB.out _).mono ?_
  rintro e w2 ⟨rfl, hb2⟩
  have H2 : Hid (RB 41 496 w.heap.size (fun _ => 0) w2 ∧ Below w.heap.size w w2) := Lib.hid ⟨Blk.below H1.out.1 hb2 (Blk.lt H1.out.1), H1.out.2.trans (hb2.mono H1.out.2.size)⟩
  clear hb2 H1
  obtain ⟨gT, hgT⟩ : ∃ q, w2.heap.size = q := ⟨_, rfl⟩
  obtain ⟨wa, hwa⟩ : ∃ q, w2.alloc (.cells zero256r 39) = q := ⟨_, rfl⟩
  obtain ⟨w3, hw3⟩ : ∃ q, wa.setCells gT 0 C.toList = q := ⟨_, rfl⟩
  have HWA : Hid (RB 39 256 gT (fun _ => 0) wa) := Lib.hid (by rw [← hwa, ← hgT]; exact Blk.new w2 zero256r _)
  have H3 : Hid (RY w gT C w3) := Lib.hid (by
    have hlt := Blk.lt H2.out.1
    have hba : Below w2.heap.size w2 wa := by rw [← hwa]; exact (Below.refl _ _).alloc (Nat.le_refl _) _
    have hO : Own gT wa w3 := by rw [← hw3]; exact Own.setCells _ _ _
    have h2 := H2.out.2.trans (hba.mono H2.out.2.size)
    refine ⟨by rw [← hw3]; exact HCB.out _ _ HWA.out, hO.blk (Blk.below H2.out.1 hba hlt) (by omega), h2.trans (hO.below (by omega) h2.size), by omega⟩)
  have HTH := Lib.hid (there_all HWA.out HCS.out)
  go_wp2_with (first | (refine wpList_store_mid rfl 39 (.tmp 3) (.tmp 4) rfl gT 0 C rfl rfl HTH.out HI3.out HI4.out ?_; rw [hw3]))
  clear hw3 hwa hgT hz2 HTH HWA HCB H2 HTB
  have hR_0 := H3.out.below (Below.refl _ w3).drew
  have hT_0 : TB gT C w3.drew := hR_0.t
  refine wp_region_held_drew (S := (TB gT C)) (by kernel_rfl) ?_ (fun hHeld => ?_)
  · (try dsimp only)
    first | assumption
  generalize w3.drew = W0 at *
  refine wpAnyH_take (i := 0) (oi := { dst := some 5, op := Go.Op.move (Go.Operand.tmp 0), type := 22, pos := "ref.go:56", after := #[], guard := none }) (v := ?_) rfl (by kernel_rfl) (by kernel_rfl) (by kernel_rfl) (fun _ _ _ h => h) (Or.inl ⟨by rfl, ?_⟩) (by assumption) ?_
  rotate_left
  · intro wS hSw
    (try dsimp only at hSw)
    go_simp
    (try with_reducible rfl)
  (try simp only [Act.put, List.setIfInBounds_toArray, List.set_cons_zero, List.set_cons_succ])
  refine wpAnyH_take (i := 1) (oi := { dst := some 6, op := Go.Op.load 39 (Go.Operand.tmp 3), type := 39, pos := "ref.go:56", after := #[], guard := none }) (v := ?_) rfl (by kernel_rfl) (by kernel_rfl) (by kernel_rfl) (fun _ _ _ h => h) (Or.inl ⟨by rfl, ?_⟩) (by assumption) ?_
  rotate_left
  · intro wS hSw
    refine exec_load39 (x := .tmp 3) ?_ ?_ hSw HI3.out <;> rfl
  (try simp only [Act.put, List.setIfInBounds_toArray, List.set_cons_zero, List.set_cons_succ])
  refine wpAnyH_take (i := 3) (oi := { dst := some 8, op := Go.Op.load 39 (Go.Operand.tmp 3), type := 39, pos := "ref.go:56", after := #[], guard := none }) (v := ?_) rfl (by kernel_rfl) (by kernel_rfl) (by kernel_rfl) (fun _ _ _ h => h) (Or.inl ⟨by rfl, ?_⟩) (by assumption) ?_
  rotate_left
  · intro wS hSw
    refine exec_load39 (x := .tmp 3) ?_ ?_ hSw HI3.out <;> rfl
  (try simp only [Act.put, List.setIfInBounds_toArray, List.set_cons_zero, List.set_cons_succ])
  refine wpAnyH_ready (rs := [2]) (by kernel_rfl) (by simp) ?_
  refine AllReadyH.cons (o := { dst := some 7, op := Go.Op.call { callee := Go.Callee.value (Go.Operand.func 19), args := #[Go.Operand.tmp 5, Go.Operand.tmp 6], argTypes := #[22, 39] }, type := 36, pos := "ref.go:56", after := #[{ on := 0, ground := Go.Ground.data }, { on := 1, ground := Go.Ground.data }], guard := none }) rfl (fun K hK => ?_) AllReadyH.nil
  go_simp
  (refine (HWD.out _ hR_0.o).mono ?_; rintro e v_1 ⟨rfl, hb_1⟩; have hR_1 := hR_0.below hb_1; have hT_1 : TB gT C v_1 := hR_1.t; clear hb_1 hR_0 hT_0; skip)
  (try go_wp2_with fail)
  refine hK.out _ _ ?_ (fun hHeld => ?_)
  · (try dsimp only)
    first | assumption
  clear hK K
  (try simp only [Act.put, List.setIfInBounds_toArray, List.set_cons_zero, List.set_cons_succ])
  refine wpAnyH_take (i := 4) (oi := { dst := some 9, op := Go.Op.build 41 #[(0, Go.Operand.tmp 7), (1, Go.Operand.tmp 8)], type := 41, pos := "ref.go:56", after := #[{ on := 2, ground := Go.Ground.data }, { on := 3, ground := Go.Ground.data }], guard := none }) (v := ?_) rfl (by kernel_rfl) (by kernel_rfl) (by kernel_rfl) (fun _ _ _ h => h) (Or.inl ⟨by rfl, ?_⟩) (by assumption) ?_
  rotate_left
  · intro wS hSw
    refine exec_build41 (parts := #[(0, .tmp 7), (1, .tmp 8)]) (ps := #[(0, .agg E), (1, .agg C)]) ?_ ?_ HBD.out <;> first | rfl | (simp; exact ⟨rfl, rfl⟩)
  (try simp only [Act.put, List.setIfInBounds_toArray, List.set_cons_zero, List.set_cons_succ])
  refine wpAnyH_ready (rs := [5]) (by kernel_rfl) (by simp) ?_
  refine AllReadyH.cons (o := { dst := none, op := Go.Op.store 41 (Go.Operand.tmp 2) (Go.Operand.tmp 9), type := 0, pos := "ref.go:56", after := #[{ on := 4, ground := Go.Ground.data }, { on := 2, ground := Go.Ground.chain }, { on := 0, ground := Go.Ground.phase }, { on := 1, ground := Go.Ground.phase }, { on := 2, ground := Go.Ground.phase }, { on := 3, ground := Go.Ground.phase }, { on := 4, ground := Go.Ground.phase }], guard := none }) rfl (fun K hK => ?_) AllReadyH.nil
  (refine step_storeM rfl 41 (.tmp 2) (.tmp 9) rfl w.heap.size 0 G rfl rfl (there_all hR_1.r HGS.out) HI.out HI1.out ?_; have HN := Lib.hid (HGB.out _ hR_1.r); have HO : Hid (Below w.heap.size w (v_1.setCells w.heap.size 0 G.toList)) := Lib.hid (hR_1.o.trans ((Own.setCells _ 0 v_1).below (Nat.le_refl _) hR_1.o.size)); have hT_2 : TB gT C (v_1.setCells w.heap.size 0 G.toList) := Own.blk (Own.setCells G.toList 0 v_1) hT_1 (by have := hR_1.n; omega); clear hR_1 hT_1; skip)
  refine hK.out _ _ ?_ (fun hHeld => ?_)
  · (try dsimp only)
    first | assumption
  clear hK K
  (try simp only [Act.put, List.setIfInBounds_toArray, List.set_cons_zero, List.set_cons_succ])
  refine wpAnyH_done (by kernel_rfl) ?_ _
  clear hT_2
  go_wp2_with fail
  refine bodyPost_ret (v := .agg G) ?_ rfl ⟨rfl, HO.out⟩
  exact results_cell_row Tryd.results11 _ _ w.heap.size 41 G (0, 0) _ rfl HN.out Tryd.underlying41 rfl HI.out
end Go.Proofs.YtcpcaekkdgogmaaDoor
