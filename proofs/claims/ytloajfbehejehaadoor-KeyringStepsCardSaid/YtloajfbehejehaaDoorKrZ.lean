/- giveRing; the document's May. The document's Encode. isRing: two rings held against one another, equal ones. The document's ring with a term more. The document's ring from its bytes. The program's answers beside the document's. KeyringSteps: program and document side by side. A row of terms that came in. A key, a term and a use that came in. -/
import Derived.Test.YtloajfbehejehaaDoorKrY
import Derived.Deep.RegionHeld3
import Derived.ArgAppend
import Derived.Deep.Strs
import Derived.ChangeArms
namespace Go.Proofs.YtloajfbehejehaaDoor
set_option linter.unusedVariables false
set_option linter.unusedSimpArgs false
open Go.RowKit
/-- While the terms come. -/
structure GVS (N : Nat → Nat) (S : Nat → Nat → Nat) (b2 b3 base : Nat) (w : World) (i : Nat) (v r : Value) (A : World) : Prop where
  row : TO 55 A base v i N S
  c5 : Blk A b3 #[r] 26
  c2 : Blk A b2 #[.slice none 0 0] 26
  bel : Below w.heap.size w A
  sz : base ≤ A.heap.size
theorem GVS.later {N : Nat → Nat} {S : Nat → Nat → Nat} {b2 b3 base i : Nat} {v r : Value} {w A A' : World} (h : GVS N S b2 b3 base w i v r A) (hb : Below A.heap.size A A') : GVS N S b2 b3 base w i v r A' :=
  ⟨h.row.later hb, Blk.below h.c5 hb (Blk.lt h.c5), Blk.below h.c2 hb (Blk.lt h.c2), h.bel.trans (hb.mono h.bel.size), Nat.le_trans h.sz hb.size⟩
theorem GVS.grew {N : Nat → Nat} {S : Nat → Nat → Nat} {b2 b3 base i i' : Nat} {v v' r : Value} {w A A' : World} (h : GVS N S b2 b3 base w i v r A) (hB : w.heap.size ≤ b2 ∧ b2 < b3 ∧ b3 < base) (hg : A.grownBy A' v.ownBlock) (hb : Below base A A') (hr : TO 55 A' base v' i' N S) : GVS N S b2 b3 base w i' v' r A' :=
  ⟨hr, Blk.below h.c5 hb hB.2.2, Blk.below h.c2 hb (by omega), h.bel.trans (hb.mono (by omega)), Nat.le_trans h.sz hg.size⟩
theorem GVS.put {N : Nat → Nat} {S : Nat → Nat → Nat} {b2 b3 base i : Nat} {v r : Value} {w A : World} (h : GVS N S b2 b3 base w i v r A) (hB : w.heap.size ≤ b2 ∧ b2 < b3 ∧ b3 < base) : GVS N S b2 b3 base w i v v (A.setCell ⟨b3, 0, none⟩ v) := by
  have hO := (Own.refl b3 A).set 0 v
  exact ⟨h.row.own hO hB.2.2, h.c5.set 0 v, hO.blk h.c2 (by omega), h.bel.trans (hO.below (by omega) h.bel.size), Nat.le_trans h.sz hO.size⟩
set_option maxRecDepth 100000 in
set_option maxHeartbeats 8000000 in
theorem give_any (n cs : Nat) (oa : Option Addr) (N : Nat → Nat) (S : Nat → Nat → Nat) (w : World) (hT : TL w oa n N S) (hn : n ≤ 40) :
    Calls Tryd.prog 13 #[.slice oa n cs] w fun e w' => ∃ o c, e = .returned (.agg #[.slice o n c]) ∧ TL w' o n N S ∧ n ≤ c ∧ (∀ a, o = some a → w.heap.size ≤ a.block) ∧ Below w.heap.size w w' := by
  obtain ⟨b2, hb2⟩ : ∃ q, w.heap.size = q := ⟨_, rfl⟩
  obtain ⟨b3, hb3⟩ : ∃ q, b2 + 1 = q := ⟨_, rfl⟩
  obtain ⟨base, hbase⟩ : ∃ q, b3 + 1 = q := ⟨_, rfl⟩
  obtain ⟨w1, hw1⟩ : ∃ q, (w.alloc (.cells #[.slice none 0 0] 26)).alloc (.cells #[.slice none 0 0] 26) = q := ⟨_, rfl⟩
  have hD1 : GVS N S b2 b3 base w 0 (.slice none 0 0) (.slice none 0 0) w1 := by
    refine ⟨TO.nil _ _ _ _ _, ?_, ?_, ?_, ?_⟩
    · rw [← hw1, ← hb3, ← hb2]; have h9 := Blk.new (w.alloc (.cells #[.slice none 0 0] 26)) #[.slice none 0 0] 26; simpa using h9
    · rw [← hw1, ← hb2]; exact (Blk.new _ _ _).alloc _
    · rw [← hw1]; exact ((Below.refl _ _).alloc (Nat.le_refl _) _).alloc (by simp) _
    · rw [← hw1, ← hbase, ← hb3, ← hb2]; simp
  have HBB := Lib.hid (show w.heap.size ≤ b2 ∧ b2 < b3 ∧ b3 < base by omega)
  have HD1 := Lib.hid hD1
  have HT := Lib.hid hT
  have HN := Lib.hid hn
  clear hD1 hT hn
  go_enter Tryd.func13, Tryd.ntmps13
  go_wp2_with fail
  clear hw1 hb2 hb3 hbase
  go_loopw [4] (fun y wr => ∃ (i : Nat) (v : Value), i ≤ n ∧ y = .int .i64 (i : Int) ∧ GVS N S b2 b3 base w i v v wr) (fun y _ => n - (intOf y).toNat)
  case atStart => exact ⟨0, _, Nat.zero_le _, rfl, HD1.out⟩
  case round =>
    obtain ⟨i, v, hi, rfl, hDwr⟩ := hrel
    have HDW := Lib.hid hDwr
    by_cases hlt : i < n
    · have HI := Lib.hid (show i < n ∧ i < 40 by have := HN.out; omega)
      have za1 : (i : Int) < (n : Int) := by omega
      have za2 : decide ((i : Int) < (n : Int)) = true := decide_eq_true za1
      have za7 : i < n := by omega
      have za8 : decide (i < n) = true := decide_eq_true za7
      have i0 : (0 : Int) ≤ (i : Int) := by omega
      have k4 : IntKind.i64.wrap ((i : Int) + 1) = ((i + 1 : Nat) : Int) := by have := HN.out; rw [IntWalk.i64_in _ (by omega)]; omega
      obtain ⟨bb, off, e, _⟩ := HT.out i hlt
      subst e
      obtain ⟨C, hC⟩ : ∃ q, (tmL (N i) (S i)).toArray = q := ⟨_, rfl⟩
      have HCC := Lib.hid hC
      have HIF : Hid ((Tryd.prog.info? 60).map (·.size) = some C.size) := Lib.hid (by rw [← hC, tm_size]; exact info_t2)
      have HBS : Hid (∀ w, (Instr.buildSlice 24 1 #[(0, .agg C)]).run Tryd.prog w = .ok (.slice (some ⟨w.heap.size, 0, none⟩) 1 1) (w.alloc (.cells C 55))) := Lib.hid (by rw [← hC]; exact bs_t1 _ _)
      have HRF : Hid (∀ A, Below w.heap.size w A → A.rangeAt bb (off + i * 33) C.toList) := Lib.hid fun A hA j u hu => by
        obtain ⟨_, _, e, hr⟩ := (HT.out.later hA) i hlt
        cases e
        rw [← hC] at hu
        exact hr j u (by simpa using hu)
      have HCG : Hid (∀ (A : World) (v' : Value), TO 55 A base v' (i + 1) (catN i N (fun _ => N i)) (catT i S (fun _ => S i)) → TO 55 A base v' (i + 1) N S) := Lib.hid fun A v' h => h.congr fun q hq => by
        unfold catN catT
        by_cases e : q < i
        · rw [if_pos e, if_pos e]; exact ⟨rfl, rfl⟩
        · obtain rfl : q = i := by omega
          rw [if_neg e, if_neg e]
          exact ⟨rfl, rfl⟩
      clear hC hlt hi hDwr
      go_upto_region 5 with fail
      have hDW0 : GVS N S b2 b3 base w i v v wr.drew := HDW.out.later (Below.refl _ _).drew
      have hSW0 : wr.drew.rangeAt bb (off + i * 33) C.toList := HRF.out _ hDW0.bel
      refine wp_region_held_drew (S := (fun A => A.rangeAt bb (off + i * 33) C.toList)) (by kernel_rfl) ?_ (fun hHeld => ?_)
      · (try dsimp only)
        (first | assumption | (dsimp only; assumption))
      generalize wr.drew = W0 at *
      refine wpAnyH_take (i := 0) (oi := { dst := some 11, op := Go.Op.fieldAddr 26 (Go.Operand.tmp 3) 0, type := 0, pos := "law.go:28", after := #[], guard := none }) (v := ?_) rfl (by kernel_rfl) (by kernel_rfl) (by kernel_rfl) (fun _ _ _ h => h) (Or.inl ⟨by rfl, ?_⟩) (by assumption) ?_
      rotate_left
      · intro wS hSw
        (try dsimp only at hSw)
        go_simp
        (try with_reducible rfl)
      (try simp only [Act.put, List.setIfInBounds_toArray, List.set_cons_zero, List.set_cons_succ])
      refine wpAnyH_take (i := 2) (oi := { dst := some 13, op := Go.Op.move (Go.Operand.tmp 0), type := 44, pos := "law.go:28", after := #[], guard := none }) (v := ?_) rfl (by kernel_rfl) (by kernel_rfl) (by kernel_rfl) (fun _ _ _ h => h) (Or.inl ⟨by rfl, ?_⟩) (by assumption) ?_
      rotate_left
      · intro wS hSw
        (try dsimp only at hSw)
        go_simp
        (try with_reducible rfl)
      (try simp only [Act.put, List.setIfInBounds_toArray, List.set_cons_zero, List.set_cons_succ])
      refine wpAnyH_take (i := 3) (oi := { dst := some 14, op := Go.Op.move (Go.Operand.tmp 4), type := 3, pos := "law.go:28", after := #[], guard := none }) (v := ?_) rfl (by kernel_rfl) (by kernel_rfl) (by kernel_rfl) (fun _ _ _ h => h) (Or.inl ⟨by rfl, ?_⟩) (by assumption) ?_
      rotate_left
      · intro wS hSw
        (try dsimp only at hSw)
        go_simp
        (try with_reducible rfl)
      (try simp only [Act.put, List.setIfInBounds_toArray, List.set_cons_zero, List.set_cons_succ])
      refine wpAnyH_take (i := 4) (oi := { dst := some 15, op := Go.Op.indexAddr 44 (Go.Operand.tmp 13) (Go.Operand.tmp 14), type := 0, pos := "law.go:28", after := #[{ on := 2, ground := Go.Ground.data }, { on := 3, ground := Go.Ground.data }], guard := none }) (v := ?_) rfl (by kernel_rfl) (by kernel_rfl) (by kernel_rfl) (fun _ _ _ h => h) (Or.inl ⟨by rfl, ?_⟩) (by assumption) ?_
      rotate_left
      · intro wS hSw
        (try dsimp only at hSw)
        go_simp
        (try with_reducible rfl)
      (try simp only [Act.put, List.setIfInBounds_toArray, List.set_cons_zero, List.set_cons_succ])
      refine wpAnyH_take (i := 5) (oi := { dst := some 16, op := Go.Op.load 60 (Go.Operand.tmp 15), type := 60, pos := "law.go:28", after := #[{ on := 4, ground := Go.Ground.data }], guard := none }) (v := ?_) rfl (by kernel_rfl) (by kernel_rfl) (by kernel_rfl) (fun _ _ _ h => h) (Or.inl ⟨by rfl, ?_⟩) (by assumption) ?_
      rotate_left
      · intro wS hSw
        (refine exec_loadA (x := .tmp 15) (C := C) ?_ ?_ hSw Tryd.underlying60 rfl HIF.out <;> rfl)
      (try simp only [Act.put, List.setIfInBounds_toArray, List.set_cons_zero, List.set_cons_succ])
      refine wpAnyH_ready (rs := [1, 6]) (by kernel_rfl) (by simp) ?_
      refine AllReadyH.cons (o := { dst := some 12, op := Go.Op.load 24 (Go.Operand.tmp 11), type := 24, pos := "law.go:28", after := #[{ on := 0, ground := Go.Ground.data }], guard := none }) rfl (fun K hK => ?_) ?_
      · skip
        (have c5 : W0.cell? ⟨b3, 0, none⟩ = some v := (by rw [Blk.cell hDW0.c5]; rfl); go_simp; clear c5; skip)
        refine hK.out _ _ ?_ (fun hHeld => ?_)
        · (try dsimp only)
          (first | assumption | (dsimp only; assumption))
        clear hK K
        (try simp only [Act.put, List.setIfInBounds_toArray, List.set_cons_zero, List.set_cons_succ])
        refine wpAnyH_ready (rs := [6]) (by kernel_rfl) (by simp) ?_
        refine AllReadyH.cons (o := { dst := some 17, op := Go.Op.buildSlice 24 1 #[(0, Go.Operand.tmp 16)], type := 24, pos := "law.go:28", after := #[{ on := 5, ground := Go.Ground.data }], guard := none }) rfl (fun K hK => ?_) AllReadyH.nil
        (refine step_bs1 rfl (.tmp 16) rfl C rfl HBS.out ?_; obtain ⟨VBx1, hw⟩ : ∃ q, W0.alloc (.cells C 55) = q := ⟨_, rfl⟩; rw [hw]; have hv : Below W0.heap.size W0 VBx1 := (by rw [← hw]; exact (Below.refl _ _).alloc (Nat.le_refl _) _); have hDVBx1 := hDW0.later hv; have HTN : Hid (TL VBx1 (some ⟨W0.heap.size, 0, none⟩) 1 (fun _ => N i) (fun _ => S i)) := Lib.hid (by have h9 : Blk VBx1 W0.heap.size C 55 := (by rw [← hw]; exact Blk.new _ _ _); rw [← HCC.out] at h9; exact TL.one h9); have hSVBx1 : VBx1.rangeAt bb (off + i * 33) C.toList := HRF.out _ hDVBx1.bel; clear hv hw; skip)
        refine hK.out _ _ ?_ (fun hHeld => ?_)
        · (try dsimp only)
          (first | assumption | (dsimp only; assumption))
        clear hK K
        (try simp only [Act.put, List.setIfInBounds_toArray, List.set_cons_zero, List.set_cons_succ])
        refine wpAnyH_ready (rs := [7]) (by kernel_rfl) (by simp) ?_
        refine AllReadyH.cons (o := { dst := some 18, op := Go.Op.call { callee := Go.Callee.builtin Go.Builtin.append, args := #[Go.Operand.tmp 12, Go.Operand.tmp 17], argTypes := #[24, 24] }, type := 24, pos := "law.go:28", after := #[{ on := 1, ground := Go.Ground.data }, { on := 6, ground := Go.Ground.data }], guard := none }) rfl (fun K hK => ?_) AllReadyH.nil
        (refine step_TO und_ts info_f1 rfl (.tmp 12) (.tmp 17) rfl base v i 1 1 N (fun _ => N i) S (fun _ => S i) (some ⟨W0.heap.size, 0, none⟩) VBx1 rfl hDVBx1.row rfl HTN.out (fun e => by cases e) (by have := HI.out; omega) hDVBx1.sz ?_; intro v2 W2 hto2 hb2 hg2; have hD2 := hDVBx1.grew HBB.out hg2 hb2 (HCG.out _ _ hto2); obtain ⟨o2, cp2, hv2, -, -, -, -, -⟩ := hto2.out; subst hv2; have hSW2 : W2.rangeAt bb (off + i * 33) C.toList := HRF.out _ hD2.bel; clear hto2 hb2 hg2; skip)
        refine hK.out _ _ ?_ (fun hHeld => ?_)
        · (try dsimp only)
          (first | assumption | (dsimp only; assumption))
        clear hK K
        (try simp only [Act.put, List.setIfInBounds_toArray, List.set_cons_zero, List.set_cons_succ])
        refine wpAnyH_take (i := 8) (oi := { dst := some 19, op := Go.Op.fieldAddr 26 (Go.Operand.tmp 3) 0, type := 0, pos := "law.go:28", after := #[{ on := 0, ground := Go.Ground.phase }, { on := 1, ground := Go.Ground.phase }, { on := 2, ground := Go.Ground.phase }, { on := 3, ground := Go.Ground.phase }, { on := 4, ground := Go.Ground.phase }, { on := 5, ground := Go.Ground.phase }, { on := 6, ground := Go.Ground.phase }, { on := 7, ground := Go.Ground.phase }], guard := none }) (v := ?_) rfl (by kernel_rfl) (by kernel_rfl) (by kernel_rfl) (fun _ _ _ h => h) (Or.inl ⟨by rfl, ?_⟩) (by assumption) ?_
        rotate_left
        · intro wS hSw
          (try dsimp only at hSw)
          go_simp
          (try with_reducible rfl)
        (try simp only [Act.put, List.setIfInBounds_toArray, List.set_cons_zero, List.set_cons_succ])
        refine wpAnyH_ready (rs := [9]) (by kernel_rfl) (by simp) ?_
        refine AllReadyH.cons (o := { dst := none, op := Go.Op.store 24 (Go.Operand.tmp 19) (Go.Operand.tmp 18), type := 0, pos := "law.go:28", after := #[{ on := 8, ground := Go.Ground.data }, { on := 7, ground := Go.Ground.data }, { on := 7, ground := Go.Ground.chain }, { on := 0, ground := Go.Ground.phase }, { on := 1, ground := Go.Ground.phase }, { on := 2, ground := Go.Ground.phase }, { on := 3, ground := Go.Ground.phase }, { on := 4, ground := Go.Ground.phase }, { on := 5, ground := Go.Ground.phase }, { on := 6, ground := Go.Ground.phase }, { on := 7, ground := Go.Ground.phase }], guard := none }) rfl (fun K hK => ?_) AllReadyH.nil
        (have c5 : W2.cell? ⟨b3, 0, none⟩ = some v := (by rw [Blk.cell hD2.c5]; rfl); have f5 : W2.frozen? ⟨b3, 0, none⟩ = false := Blk.free hD2.c5 _; go_simp; have hD3 := hD2.put HBB.out; have hSW3 := HRF.out _ hD3.bel; clear c5 f5; skip)
        refine hK.out _ _ ?_ (fun hHeld => ?_)
        · (try dsimp only)
          (first | assumption | (dsimp only; assumption))
        clear hK K
        (try simp only [Act.put, List.setIfInBounds_toArray, List.set_cons_zero, List.set_cons_succ])
        refine wpAnyH_done (by kernel_rfl) ?_ _
        have HD3 := Lib.hid hD3
        clear hD3 hSW3 hD2 hSW2
        go_wp2_with fail
        go_roundw
        case rel => exact ⟨i + 1, _, HI.out.1, by first | rfl | go_num, HD3.out⟩
        case measure => have := HI.out.1; simp [intOf]; omega
      refine AllReadyH.cons (o := { dst := some 17, op := Go.Op.buildSlice 24 1 #[(0, Go.Operand.tmp 16)], type := 24, pos := "law.go:28", after := #[{ on := 5, ground := Go.Ground.data }], guard := none }) rfl (fun K hK => ?_) AllReadyH.nil
      (refine step_bs1 rfl (.tmp 16) rfl C rfl HBS.out ?_; obtain ⟨VBx6, hw⟩ : ∃ q, W0.alloc (.cells C 55) = q := ⟨_, rfl⟩; rw [hw]; have hv : Below W0.heap.size W0 VBx6 := (by rw [← hw]; exact (Below.refl _ _).alloc (Nat.le_refl _) _); have hDVBx6 := hDW0.later hv; have HTN : Hid (TL VBx6 (some ⟨W0.heap.size, 0, none⟩) 1 (fun _ => N i) (fun _ => S i)) := Lib.hid (by have h9 : Blk VBx6 W0.heap.size C 55 := (by rw [← hw]; exact Blk.new _ _ _); rw [← HCC.out] at h9; exact TL.one h9); have hSVBx6 : VBx6.rangeAt bb (off + i * 33) C.toList := HRF.out _ hDVBx6.bel; clear hv hw; skip)
      refine hK.out _ _ ?_ (fun hHeld => ?_)
      · (try dsimp only)
        (first | assumption | (dsimp only; assumption))
      clear hK K
      (try simp only [Act.put, List.setIfInBounds_toArray, List.set_cons_zero, List.set_cons_succ])
      refine wpAnyH_ready (rs := [1]) (by kernel_rfl) (by simp) ?_
      refine AllReadyH.cons (o := { dst := some 12, op := Go.Op.load 24 (Go.Operand.tmp 11), type := 24, pos := "law.go:28", after := #[{ on := 0, ground := Go.Ground.data }], guard := none }) rfl (fun K hK => ?_) AllReadyH.nil
      (have c5 : VBx6.cell? ⟨b3, 0, none⟩ = some v := (by rw [Blk.cell hDVBx6.c5]; rfl); go_simp; clear c5; skip)
      refine hK.out _ _ ?_ (fun hHeld => ?_)
      · (try dsimp only)
        (first | assumption | (dsimp only; assumption))
      clear hK K
      (try simp only [Act.put, List.setIfInBounds_toArray, List.set_cons_zero, List.set_cons_succ])
      refine wpAnyH_ready (rs := [7]) (by kernel_rfl) (by simp) ?_
      refine AllReadyH.cons (o := { dst := some 18, op := Go.Op.call { callee := Go.Callee.builtin Go.Builtin.append, args := #[Go.Operand.tmp 12, Go.Operand.tmp 17], argTypes := #[24, 24] }, type := 24, pos := "law.go:28", after := #[{ on := 1, ground := Go.Ground.data }, { on := 6, ground := Go.Ground.data }], guard := none }) rfl (fun K hK => ?_) AllReadyH.nil
      (refine step_TO und_ts info_f1 rfl (.tmp 12) (.tmp 17) rfl base v i 1 1 N (fun _ => N i) S (fun _ => S i) (some ⟨W0.heap.size, 0, none⟩) VBx6 rfl hDVBx6.row rfl HTN.out (fun e => by cases e) (by have := HI.out; omega) hDVBx6.sz ?_; intro v2 W2 hto2 hb2 hg2; have hD2 := hDVBx6.grew HBB.out hg2 hb2 (HCG.out _ _ hto2); obtain ⟨o2, cp2, hv2, -, -, -, -, -⟩ := hto2.out; subst hv2; have hSW2 : W2.rangeAt bb (off + i * 33) C.toList := HRF.out _ hD2.bel; clear hto2 hb2 hg2; skip)
      refine hK.out _ _ ?_ (fun hHeld => ?_)
      · (try dsimp only)
        (first | assumption | (dsimp only; assumption))
      clear hK K
      (try simp only [Act.put, List.setIfInBounds_toArray, List.set_cons_zero, List.set_cons_succ])
      refine wpAnyH_take (i := 8) (oi := { dst := some 19, op := Go.Op.fieldAddr 26 (Go.Operand.tmp 3) 0, type := 0, pos := "law.go:28", after := #[{ on := 0, ground := Go.Ground.phase }, { on := 1, ground := Go.Ground.phase }, { on := 2, ground := Go.Ground.phase }, { on := 3, ground := Go.Ground.phase }, { on := 4, ground := Go.Ground.phase }, { on := 5, ground := Go.Ground.phase }, { on := 6, ground := Go.Ground.phase }, { on := 7, ground := Go.Ground.phase }], guard := none }) (v := ?_) rfl (by kernel_rfl) (by kernel_rfl) (by kernel_rfl) (fun _ _ _ h => h) (Or.inl ⟨by rfl, ?_⟩) (by assumption) ?_
      rotate_left
      · intro wS hSw
        (try dsimp only at hSw)
        go_simp
        (try with_reducible rfl)
      (try simp only [Act.put, List.setIfInBounds_toArray, List.set_cons_zero, List.set_cons_succ])
      refine wpAnyH_ready (rs := [9]) (by kernel_rfl) (by simp) ?_
      refine AllReadyH.cons (o := { dst := none, op := Go.Op.store 24 (Go.Operand.tmp 19) (Go.Operand.tmp 18), type := 0, pos := "law.go:28", after := #[{ on := 8, ground := Go.Ground.data }, { on := 7, ground := Go.Ground.data }, { on := 7, ground := Go.Ground.chain }, { on := 0, ground := Go.Ground.phase }, { on := 1, ground := Go.Ground.phase }, { on := 2, ground := Go.Ground.phase }, { on := 3, ground := Go.Ground.phase }, { on := 4, ground := Go.Ground.phase }, { on := 5, ground := Go.Ground.phase }, { on := 6, ground := Go.Ground.phase }, { on := 7, ground := Go.Ground.phase }], guard := none }) rfl (fun K hK => ?_) AllReadyH.nil
      (have c5 : W2.cell? ⟨b3, 0, none⟩ = some v := (by rw [Blk.cell hD2.c5]; rfl); have f5 : W2.frozen? ⟨b3, 0, none⟩ = false := Blk.free hD2.c5 _; go_simp; have hD3 := hD2.put HBB.out; have hSW3 := HRF.out _ hD3.bel; clear c5 f5; skip)
      refine hK.out _ _ ?_ (fun hHeld => ?_)
      · (try dsimp only)
        (first | assumption | (dsimp only; assumption))
      clear hK K
      (try simp only [Act.put, List.setIfInBounds_toArray, List.set_cons_zero, List.set_cons_succ])
      refine wpAnyH_done (by kernel_rfl) ?_ _
      have HD3 := Lib.hid hD3
      clear hD3 hSW3 hD2 hSW2
      go_wp2_with fail
      go_roundw
      case rel => exact ⟨i + 1, _, HI.out.1, by first | rfl | go_num, HD3.out⟩
      case measure => have := HI.out.1; simp [intOf]; omega
    · obtain rfl : i = n := by omega
      have za1 : ¬ (i : Int) < (i : Int) := by omega
      have za2 : decide ((i : Int) < (i : Int)) = false := decide_eq_false za1
      have za7 : ¬ i < i := by omega
      have za8 : decide (i < i) = false := decide_eq_false za7
      obtain ⟨o, c, rfl, hnc, hmx, hno, hbl, hTL⟩ := hDwr.row.out
      have c5 : wr.cell? ⟨b3, 0, none⟩ = some (.slice o i c) := by rw [Blk.cell hDwr.c5]; rfl
      have c2 : wr.cell? ⟨b2, 0, none⟩ = some (.slice none 0 0) := by rw [Blk.cell hDwr.c2]; rfl
      have f2 : wr.frozen? ⟨b2, 0, none⟩ = false := Blk.free hDwr.c2 0
      have HTL := Lib.hid (And.intro hTL (And.intro hbl hnc))
      clear hDwr hnc hmx hno hbl hTL
      go_wp2_with fail
      have hO := (Own.refl b2 wr).set 0 (.slice o i c)
      have hbb := HBB.out
      have HR9 : Hid (Blk (wr.setCell ⟨b2, 0, none⟩ (.slice o i c)) b2 #[.slice o i c] 26) := Lib.hid (HDW.out.c2.set 0 _)
      have HEX : Hid (∃ o' c', (Ending.returned (.agg #[.slice o i c])) = .returned (.agg #[.slice o' i c']) ∧ TL (wr.setCell ⟨b2, 0, none⟩ (.slice o i c)) o' i N S ∧ i ≤ c' ∧ (∀ a, o' = some a → w.heap.size ≤ a.block) ∧ Below w.heap.size w (wr.setCell ⟨b2, 0, none⟩ (.slice o i c))) := Lib.hid ⟨o, c, rfl, HTL.out.1.away hO (fun a ha => by have := (HTL.out.2.1 a ha).1; omega), HTL.out.2.2, fun a ha => by have := (HTL.out.2.1 a ha).1; omega, HDW.out.bel.trans (hO.below (by omega) HDW.out.bel.size)⟩
      refine bodyPost_ret (v := .agg #[.slice o i c]) ?_ rfl HEX.out
      exact results_cell_row Tryd.results13 _ _ b2 26 #[.slice o i c] (0, 0) _ rfl HR9.out Tryd.underlying26 rfl (info_rg _)
open Classical in
/-- The document's May. -/
noncomputable def mayT (n : Nat) (N : Nat → Nat) : Bool := decide (OkT n N)
open Classical in
theorem mayT_ok {n : Nat} {N : Nat → Nat} (h : OkT n N) : mayT n N = true := by unfold mayT; exact decide_eq_true h
open Classical in
theorem mayT_no {n : Nat} {N : Nat → Nat} (h : ¬ OkT n N) : mayT n N = false := by unfold mayT; exact decide_eq_false h
set_option maxRecDepth 100000 in
set_option maxHeartbeats 8000000 in
theorem may_any (n cs : Nat) (oa : Option Addr) (N : Nat → Nat) (S : Nat → Nat → Nat) (w : World) (hT : TL w oa n N S) (hN : ∀ i, i < n → N i < 4294967296) (hn : n < 1000000) :
    Calls Tryd.prog 14 #[.slice oa n cs] w fun e w' => e = .returned (.bool (mayT n N)) ∧ Below w.heap.size w w' := by
  have HT := Lib.hid hT
  have HNL := Lib.hid hN
  have HN := Lib.hid hn
  clear hT hN hn
  go_enter Tryd.func14, Tryd.ntmps14
  go_wp2_with fail
  go_loopw [3] (fun x wr => ∃ i : Nat, i ≤ n ∧ x = .int .i64 (i : Int) ∧ (∀ j, j < i → N j = j + 1) ∧ Below w.heap.size w wr) (fun x _ => n - (intOf x).toNat)
  case atStart => exact ⟨0, Nat.zero_le _, rfl, fun j hj => absurd hj (Nat.not_lt_zero _), Below.refl _ _⟩
  case round =>
    obtain ⟨i, hi, rfl, hok, hbw⟩ := hrel
    have HOK := Lib.hid hok
    have HBW := Lib.hid hbw
    by_cases hlt : i < n
    · have i1 : (i : Int) < (n : Int) := by omega
      have i0 : (0 : Int) ≤ (i : Int) := by omega
      have k4 : IntKind.i64.wrap ((i : Int) + 1) = ((i + 1 : Nat) : Int) := by have := HN.out; rw [IntWalk.i64_in _ (by omega)]; omega
      obtain ⟨b, off, e, c0⟩ := (HT.out.later hbw).cell0 hlt
      subst e
      obtain ⟨ni, hni⟩ : ∃ q, N i = q := ⟨_, rfl⟩
      have hnl := HNL.out i hlt
      rw [hni] at c0 hnl
      have k5 : IntKind.i64.wrap (ni : Int) = (ni : Int) := IntWalk.i64_in _ (by omega)
      have HI := Lib.hid (And.intro hlt hni)
      by_cases hq : ni = i + 1
      · skip
        have d1 : (ni : Int) = ((i + 1 : Nat) : Int) := by omega
        have d2 : decide ((ni : Int) = ((i + 1 : Nat) : Int)) = true := decide_eq_true d1
        have d3 : ((ni : Int) == ((i + 1 : Nat) : Int)) = true := by simp only [beq_iff_eq]; exact d1
        clear hok hbw hlt hi hni hnl
        go_wp2_with fail
        go_roundw
        case rel => exact ⟨i + 1, HI.out.1, by first | rfl | go_num, fun j hj => (by
          rcases Nat.lt_succ_iff_lt_or_eq.1 hj with h | h
          · exact HOK.out j h
          · rw [h, HI.out.2, hq]), HBW.out⟩
        case measure => have := HI.out.1; simp [intOf]; omega
      · skip
        have d1 : ¬ (ni : Int) = ((i + 1 : Nat) : Int) := by omega
        have d2 : decide ((ni : Int) = ((i + 1 : Nat) : Int)) = false := decide_eq_false d1
        have d3 : ((ni : Int) == ((i + 1 : Nat) : Int)) = false := by simp only [beq_eq_false_iff_ne]; exact d1
        have HNO : Hid (mayT n N = false) := Lib.hid (mayT_no fun h => hq (by have := h.2.2 i hlt; omega))
        clear hok hbw hlt hi hni hnl
        go_wp2_with fail
        go_ret
        exact ⟨by rw [HNO.out]; rfl, HBW.out⟩
    · obtain rfl : i = n := by omega
      have za1 : ¬ (i : Int) < (i : Int) := by omega
      have za2 : decide ((i : Int) < (i : Int)) = false := decide_eq_false za1
      have za7 : ¬ i < i := by omega
      have za8 : decide (i < i) = false := decide_eq_false za7
      by_cases g1 : 1 ≤ i
      · have d1 : (1 : Int) ≤ (i : Int) := by omega
        by_cases g2 : i ≤ 16
        · have d2 : (i : Int) ≤ 16 := by omega
          have HYE : Hid (mayT i N = true) := Lib.hid (mayT_ok ⟨g1, g2, HOK.out⟩)
          clear hok hbw
          go_wp2_with fail
          go_ret
          exact ⟨by rw [HYE.out]; rfl, HBW.out⟩
        · have d2 : ¬ (i : Int) ≤ 16 := by omega
          have d3 : decide ((i : Int) ≤ 16) = false := decide_eq_false d2
          have HNO : Hid (mayT i N = false) := Lib.hid (mayT_no fun h => g2 h.2.1)
          clear hok hbw
          go_wp2_with fail
          go_ret
          exact ⟨by rw [HNO.out]; rfl, HBW.out⟩
      · have d1 : ¬ (1 : Int) ≤ (i : Int) := by omega
        have d3 : decide ((1 : Int) ≤ (i : Int)) = false := decide_eq_false d1
        have HNO : Hid (mayT i N = false) := Lib.hid (mayT_no fun h => g1 h.1)
        clear hok hbw
        go_wp2_with fail
        go_ret
        exact ⟨by rw [HNO.out]; rfl, HBW.out⟩
end Go.Proofs.YtloajfbehejehaaDoor
namespace Go.Proofs.YtloajfbehejehaaDoor
set_option linter.unusedVariables false
set_option linter.unusedSimpArgs false
open Go.RowKit
theorem encF_cat1 (n i k : Nat) (S : Nat → Nat → Nat) (hk : k < 32) : ∀ q, q < 3 + 32 * i + k + 1 → catF (3 + 32 * i + k) (encF n S) (fun _ => S i k) q = encF n S q := fun q hq => by
  unfold catF
  by_cases e : q < 3 + 32 * i + k
  · rw [if_pos e]
  · rw [if_neg e]
    obtain rfl : q = 3 + 32 * i + k := by omega
    unfold encF
    rw [if_neg (by omega), if_neg (by omega), if_neg (by omega), show (3 + 32 * i + k - 3) / 32 = i by omega, show (3 + 32 * i + k - 3) % 32 = k by omega]
set_option maxRecDepth 100000 in
set_option maxHeartbeats 8000000 in
theorem rencode_any (n cs : Nat) (oa : Option Addr) (N : Nat → Nat) (S : Nat → Nat → Nat) (w : World) (hT : TL w oa n N S) (hN : ∀ i, i < n → N i < 4294967296) (hS : ∀ i j, S i j < 256) (hn : n < 10000) :
    Calls Tryd.prog 16 #[.slice oa n cs] w fun e w' => Below w.heap.size w w' ∧ ((¬ OkT n N ∧ e = .returned (.tuple #[.slice none 0 0, .int .i64 1])) ∨ (OkT n N ∧ ∃ v, e = .returned (.tuple #[v, .int .i64 0]) ∧ Grow w' w.heap.size v (3 + 32 * n) (encF n S))) := by
  have HMY := Lib.hid (may_any n cs oa N S w hT hN (by omega))
  by_cases hok : OkT n N
  · rw [mayT_ok hok] at HMY
    have HOK := Lib.hid hok
    have HT := Lib.hid hT
    have HS := Lib.hid hS
    have k8 : IntKind.u8.wrap (n : Int) = (n : Int) := IntWalk.u8_in _ (by have := hok.2.1; omega)
    have HN := Lib.hid (show n ≤ 16 from hok.2.1)
    clear hok hT hN hS hn
    go_enter Tryd.func16, Tryd.ntmps16
    go_upto_region 4 with (go_at_call 14; refine HMY.out.mono ?_; rintro e w1 ⟨rfl, hb1⟩)
    obtain ⟨w2, hw2⟩ : ∃ q, w1.alloc (.cells #[.int .u8 107, .int .u8 114, .int .u8 (n : Int)] 5) = q := ⟨_, rfl⟩
    have HG : Hid (Grow w2 w.heap.size (.slice (some ⟨w1.heap.size, 0, none⟩) 3 3) (3 + 32 * 0) (encF n S) ∧ Below w.heap.size w w2) := Lib.hid ⟨by rw [← hw2]; exact enc_three S hb1.size, by rw [← hw2]; exact hb1.trans ((Below.refl _ _).alloc hb1.size _)⟩
    rw [hw2]
    clear hb1 hw2
    go_wp2_with fail
    go_loopw [4, 5] (fun y4 y5 wr => ∃ (i : Nat) (v : Value), i ≤ n ∧ y4 = v ∧ y5 = .int .i64 (i : Int) ∧ Grow wr w.heap.size v (3 + 32 * i) (encF n S) ∧ Below w.heap.size w wr) (fun _ y _ => n - (intOf y).toNat)
    case atStart => exact ⟨0, _, Nat.zero_le _, rfl, rfl, HG.out.1, HG.out.2⟩
    case round =>
      obtain ⟨i, v, hi, rfl, rfl, hGv, hbw⟩ := hrel
      by_cases hlt : i < n
      · skip
        have za1 : (i : Int) < (n : Int) := by omega
        have za2 : decide ((i : Int) < (n : Int)) = true := decide_eq_true za1
        have za7 : i < n := by omega
        have za8 : decide (i < n) = true := decide_eq_true za7
        have i0 : (0 : Int) ≤ (i : Int) := by omega
        have k4 : IntKind.i64.wrap ((i : Int) + 1) = ((i + 1 : Nat) : Int) := by have := HN.out; rw [IntWalk.i64_in _ (by omega)]; omega
        have HGV := Lib.hid (And.intro hGv hbw)
        have HI := Lib.hid hlt
        clear hGv hbw hi hlt
        go_wp2_with fail
        go_loopw [4, 6] (fun y4 y6 wr => ∃ (k : Nat) (v : Value), k ≤ 32 ∧ y4 = v ∧ y6 = .int .i64 (k : Int) ∧ Grow wr w.heap.size v (3 + 32 * i + k) (encF n S) ∧ Below w.heap.size w wr) (fun _ y _ => 32 - (intOf y).toNat)
        case atStart => exact ⟨0, _, Nat.zero_le _, rfl, rfl, HGV.out.1, HGV.out.2⟩
        case round =>
          obtain ⟨k, v, hk, rfl, rfl, hGv, hbw⟩ := hrel
          by_cases hkl : k < 32
          · skip
            have zb1 : (k : Int) < (32 : Int) := by omega
            have zb2 : decide ((k : Int) < (32 : Int)) = true := decide_eq_true zb1
            have zb7 : k < 32 := by omega
            have zb8 : decide (k < 32) = true := decide_eq_true zb7
            have j0 : (0 : Int) ≤ (k : Int) := by omega
            have k5 : IntKind.i64.wrap ((k : Int) + 1) = ((k + 1 : Nat) : Int) := by rw [IntWalk.i64_in _ (by omega)]; omega
            obtain ⟨b, off, e, hrg⟩ := (HT.out.later hbw) i HI.out
            subst e
            obtain ⟨x, hx⟩ : ∃ q, S i k = q := ⟨_, rfl⟩
            have hx8 : x < 256 := by rw [← hx]; exact HS.out _ _
            have hc : wr.cell? ⟨b, off + i * 33 + 1 + k, none⟩ = some (.int .u8 (x : Int)) := by
              have h9 := hrg (1 + k) _ (tmL_at (N i) (S i) hkl)
              rw [hx] at h9; rw [Nat.add_assoc]; exact h9
            have HGA : Hid (Grow (wr.alloc (.cells #[.int .u8 (x : Int)] 5)) w.heap.size u4 (3 + 32 * i + k) (encF n S)) := Lib.hid (hGv.later ((Below.refl _ _).alloc (Nat.le_refl _) _))
            have HX := Lib.hid (And.intro hx (And.intro hkl hx8))
            have HBW := Lib.hid hbw
            clear hrg hx hGv hbw hk hkl hx8
            go_wp2_with (refine wpList_appO rfl (.tmp 24) (.tmp 32) rfl w.heap.size u4 (3 + 32 * i + k) 1 1 (some ⟨wr.heap.size, 0, none⟩) (encF n S) (fun _ => x) (wr.alloc (.cells #[.int .u8 (x : Int)] 5)) rfl HGA.out rfl (fun e => by cases e) (one_byte HX.out.2.2) (by have := HX.out.2.1; have := HI.out; have := HN.out; omega) (Nat.le_trans HBW.out.size (by simp)) ?_; intro v2 w3 hG2 hg2 hob2; have HG2 : Hid (Grow w3 w.heap.size v2 (3 + 32 * i + k + 1) (encF n S) ∧ Below w.heap.size w w3) := Lib.hid (And.intro (hG2.congr (by rw [← HX.out.1]; exact encF_cat1 n i k S HX.out.2.1)) ((HBW.out.trans ((Below.refl _ wr).alloc HBW.out.size (.cells #[.int .u8 (x : Int)] 5))).trans (grow_bel HGA.out (Nat.le_trans HBW.out.size (by simp)) hg2))); clear hG2 hg2 hob2)
            go_roundw
            case rel => exact ⟨k + 1, v2, HX.out.2.1, rfl, by first | rfl | go_num, HG2.out.1, HG2.out.2⟩
            case measure => have := HX.out.2.1; simp [intOf]; omega
          · obtain rfl : k = 32 := by omega
            have HGB := Lib.hid (And.intro hGv hbw)
            clear hGv hbw hk hkl
            go_wp2_with fail
            go_roundw
            case rel => exact ⟨i + 1, u4, HI.out, rfl, by first | rfl | go_num, by rw [show 3 + 32 * (i + 1) = 3 + 32 * i + 32 by omega]; exact HGB.out.1, HGB.out.2⟩
            case measure => have := HI.out; simp [intOf]; omega
      · obtain rfl : i = n := by omega
        have za1 : ¬ (i : Int) < (i : Int) := by omega
        have za2 : decide ((i : Int) < (i : Int)) = false := decide_eq_false za1
        have za7 : ¬ i < i := by omega
        have za8 : decide (i < i) = false := decide_eq_false za7
        have HGB := Lib.hid (And.intro hGv hbw)
        clear hGv hbw hi hlt
        go_wp2_with fail
        exact bodyPost_ret (results_tmp2 rfl _ _ _) rfl ⟨HGB.out.2, .inr ⟨HOK.out, _, rfl, HGB.out.1⟩⟩
  · rw [mayT_no hok] at HMY
    have HOK := Lib.hid hok
    clear hok hT hN hS hn
    go_enter Tryd.func16, Tryd.ntmps16
    go_wp2_with (go_at_call 14; refine HMY.out.mono ?_; rintro e w1 ⟨rfl, hb1⟩)
    refine bodyPost_ret (results_tmp2 rfl _ _ _) rfl ⟨hb1, .inl ⟨HOK.out, rfl⟩⟩
end Go.Proofs.YtloajfbehejehaaDoor
namespace Go.Proofs.YtloajfbehejehaaDoor
set_option linter.unusedVariables false
set_option linter.unusedSimpArgs false
open Go.RowKit
theorem items32d (d : Nat) (f : Nat → Nat) (w : World) : ∀ is : List Nat, (∀ i ∈ is, i < 32) → (Op.eqItems (d + 1) 5 1 (rowC 32 f).toArray (rowC 32 f).toArray is).run Tryd.prog w = .ok true w
  | [], _ => rfl
  | i :: is, h => by
    have hi : i < 32 := h i (by simp)
    have p1 : (rowC 32 f).toArray[i * 1]? = some (.int .u8 (f i : Nat)) := by simpa using rowC_get f hi
    have hu : Tryd.prog.underlying 5 = some (.int .u8) := Tryd.underlying5
    simp only [Op.eqItems, Sem.run_bind, run_part_plain w plain_u8 p1, Result.andThen_ok, run_equalIn_int w d _ .u8 .u8 _ _ hu]
    have ih := items32d d f w is (fun j hj => h j (by simp [hj]))
    have : ((f i : Int) == (f i : Int)) = true := by simp
    rw [this]
    simp [ih]
set_option maxRecDepth 100000 in
theorem eq32d (d : Nat) (f : Nat → Nat) (w : World) : (Op.equalIn (d + 2) 22 (.agg (rowC 32 f).toArray) (.agg (rowC 32 f).toArray)).run Tryd.prog w = .ok true w := by
  obtain ⟨i, hi⟩ : ∃ i, Tryd.prog.info? 5 = some i := ⟨_, rfl⟩
  rw [run_equalIn_array w (d + 1) _ _ (e := 5) (n := 32) (t := 22) Tryd.underlying22 hi, cells_u8]
  exact items32d d f w _ (fun i hi => List.mem_range.1 hi)
theorem plain_u32 : Tryd.prog.plainKey 39 = true := by kernel_rfl
theorem part_key (n : Nat) (S : Nat → Nat) (w : World) : (part 22 (tmL n S).toArray 1).run Tryd.prog w = .ok (.agg (rowC 32 S).toArray) w := by kernel_rfl
theorem und_tm : Tryd.prog.underlying 55 = some (.struct (Tryd.prog.fieldsOf 55)) := by kernel_rfl
theorem stood_tm : Tryd.prog.stoodInHeld 55 = false := by kernel_rfl
theorem fields_tm : (Tryd.prog.fieldsOf 55).toList.map (fun f => (f.type, f.offset, f.name == "_")) = [(39, 0, false), (22, 1, false)] := by kernel_rfl
theorem eqFields_tm (d : Nat) (xs ys : Array Value) (w : World) (fs : List Field) (h : fs.map (fun f => (f.type, f.offset, f.name == "_")) = [(39, 0, false), (22, 1, false)]) (a b : Value)
    (q0 : (part 39 xs 0).run Tryd.prog w = .ok a w) (q1 : (part 22 xs 1).run Tryd.prog w = .ok b w) (r0 : (part 39 ys 0).run Tryd.prog w = .ok a w) (r1 : (part 22 ys 1).run Tryd.prog w = .ok b w)
    (e0 : (Op.equalIn d 39 a a).run Tryd.prog w = .ok true w) (e1 : (Op.equalIn d 22 b b).run Tryd.prog w = .ok true w) : (Op.eqFields d xs ys fs).run Tryd.prog w = .ok true w := by
  rcases fs with _ | ⟨f0, _ | ⟨f1, _ | ⟨f2, fs⟩⟩⟩
  · cases h
  · simp at h
  · simp only [List.map_cons, List.map_nil, List.cons.injEq, Prod.mk.injEq, and_true] at h
    obtain ⟨⟨h1, h2, h3⟩, h4, h5, h6⟩ := h
    have n0 : f0.name ≠ "_" := by simpa using h3
    have n1 : f1.name ≠ "_" := by simpa using h6
    simp only [Op.eqFields, ne_eq, n0, n1, not_false_eq_true, if_true, Sem.run_bind, h1, h2, h4, h5, q0, q1, r0, r1, e0, e1, Result.andThen_ok, Bool.not_true, Bool.false_eq_true, if_false, Sem.run_pure]
  · simp at h
theorem eqT (n : Nat) (S : Nat → Nat) (w : World) : (Op.equalIn 10000 55 (.agg (tmL n S).toArray) (.agg (tmL n S).toArray)).run Tryd.prog w = .ok true w := by
  rw [run_equalIn_struct w 9999 _ _ _ und_tm stood_tm]
  have p0 : (tmL n S).toArray[0]? = some (.int .u32 (n : Int)) := rfl
  have hu : Tryd.prog.underlying 39 = some (.int .u32) := by kernel_rfl
  have q0 := run_part_plain w plain_u32 p0
  exact eqFields_tm 9999 _ _ w _ fields_tm _ _ q0 (part_key n S w) q0 (part_key n S w) (by rw [run_equalIn_int w 9998 _ .u32 .u32 _ _ hu]; simp) (eq32d 9997 S w)
theorem guardT : Tryd.prog.eqGuardType Tryd.prog.depth 55 = false := by kernel_rfl
theorem exec_neqT {o : Oper} {a : Act} {w : World} {x y : Operand} {r : TypeId} {C D : Array Value} {b : Bool} (ho : o.op = .binOp .neq 55 x y r) (hx : a.eval x = .agg C) (hy : a.eval y = .agg D) (h : ∀ w, (Op.equalIn 10000 55 (.agg C) (.agg D)).run Tryd.prog w = .ok b w) : (execOp a.eval o).run Tryd.prog w = .ok (.value (.bool (!b))) w := by
  unfold execOp
  simp only [ho, hx, hy, Sem.run_bind, run_eqGuard_agg w _ _ x y C D guardT, Result.andThen_ok, run_neq_struct, h]
  rfl
set_option maxRecDepth 100000 in
set_option maxHeartbeats 8000000 in
theorem isring_any (n ca cb : Nat) (oa ob : Option Addr) (N : Nat → Nat) (S : Nat → Nat → Nat) (w : World) (hA : TL w oa n N S) (hB : TL w ob n N S) (hn : n < 1000000) :
    Calls Tryd.prog 21 #[.agg #[.slice oa n ca], .slice ob n cb] w fun e w' => e = .returned (.bool true) ∧ Below w.heap.size w w' := by
  obtain ⟨w1, hw1⟩ : ∃ q, w.alloc (.cells #[.slice oa n ca] 26) = q := ⟨_, rfl⟩
  have hb1 : Below w.heap.size w w1 := by rw [← hw1]; exact (Below.refl _ _).alloc (Nat.le_refl _) _
  have hB1 : Blk w1 w.heap.size #[.slice oa n ca] 26 := by rw [← hw1]; exact Blk.new _ _ _
  have c0 : w1.cell? ⟨w.heap.size, 0, none⟩ = some (.slice oa n ca) := by rw [Blk.cell hB1]; rfl
  have HA := Lib.hid hA
  have HB := Lib.hid hB
  have HN := Lib.hid hn
  have HD1 := Lib.hid (And.intro hb1 hB1)
  have d1 : (n : Int) = n := by omega
  have d2 : decide ((n : Int) = n) = true := decide_eq_true d1
  clear hA hB hn hb1 hB1
  go_enter Tryd.func21, Tryd.ntmps21
  go_wp2_with fail
  clear c0
  go_loopw [5] (fun y wr => ∃ i : Nat, i ≤ n ∧ y = .int .i64 (i : Int) ∧ Below w.heap.size w wr ∧ Blk wr w.heap.size #[.slice oa n ca] 26) (fun y _ => n - (intOf y).toNat)
  case atStart => exact ⟨0, Nat.zero_le _, rfl, HD1.out.1, HD1.out.2⟩
  case round =>
    obtain ⟨i, hi, rfl, hbw, hBw⟩ := hrel
    have HDW := Lib.hid (And.intro hbw hBw)
    by_cases hlt : i < n
    · have HI := Lib.hid (show i + 1 ≤ n from hlt)
      have za1 : (i : Int) < (n : Int) := by omega
      have za2 : decide ((i : Int) < (n : Int)) = true := decide_eq_true za1
      have za7 : i < n := by omega
      have za8 : decide (i < n) = true := decide_eq_true za7
      have i0 : (0 : Int) ≤ (i : Int) := by omega
      have k4 : IntKind.i64.wrap ((i : Int) + 1) = ((i + 1 : Nat) : Int) := by have := HN.out; rw [IntWalk.i64_in _ (by omega)]; omega
      obtain ⟨ba, fa, e, hra⟩ := (HA.out.later hbw) i hlt
      subst e
      obtain ⟨bb, fb, e, hrb⟩ := (HB.out.later hbw) i hlt
      subst e
      obtain ⟨C, hC⟩ : ∃ q, (tmL (N i) (S i)).toArray = q := ⟨_, rfl⟩
      have HIA : Hid ((Tryd.prog.info? 55).map (·.size) = some C.size) := Lib.hid (by rw [← hC, tm_size]; exact info_t1)
      have HIB : Hid ((Tryd.prog.info? 60).map (·.size) = some C.size) := Lib.hid (by rw [← hC, tm_size]; exact info_t2)
      have HEQ : Hid (∀ w, (Op.equalIn 10000 55 (.agg C) (.agg C)).run Tryd.prog w = .ok true w) := Lib.hid (by rw [← hC]; exact eqT _ _)
      have hSW0 : wr.drew.cell? ⟨w.heap.size, 0, none⟩ = some (.slice (some ⟨ba, fa, none⟩) n ca) ∧ wr.drew.rangeAt ba (fa + i * 33) C.toList ∧ wr.drew.rangeAt bb (fb + i * 33) C.toList := ⟨by have h9 : wr.cell? ⟨w.heap.size, 0, none⟩ = some (.slice (some ⟨ba, fa, none⟩) n ca) := (by rw [Blk.cell hBw]; rfl); exact h9, by rw [← hC]; exact hra, by rw [← hC]; exact hrb⟩
      clear hC hlt hi hbw hBw hra hrb
      go_upto_region 6 with fail
      refine wp_region_held_drew (S := (fun A => A.cell? ⟨w.heap.size, 0, none⟩ = some (.slice (some ⟨ba, fa, none⟩) n ca) ∧ A.rangeAt ba (fa + i * 33) C.toList ∧ A.rangeAt bb (fb + i * 33) C.toList)) (by kernel_rfl) ?_ (fun hHeld => ?_)
      · (try dsimp only)
        (first | assumption | (dsimp only; assumption))
      refine wpAnyH_take (i := 0) (oi := { dst := some 18, op := Go.Op.fieldAddr 26 (Go.Operand.tmp 2) 0, type := 0, pos := "law.go:39", after := #[], guard := none }) (v := ?_) rfl (by kernel_rfl) (by kernel_rfl) (by kernel_rfl) (fun _ _ _ h => h) (Or.inl ⟨by rfl, ?_⟩) (by assumption) ?_
      rotate_left
      · intro wS hSw
        (try dsimp only at hSw)
        go_simp
        (try with_reducible rfl)
      (try simp only [Act.put, List.setIfInBounds_toArray, List.set_cons_zero, List.set_cons_succ])
      refine wpAnyH_take (i := 1) (oi := { dst := some 19, op := Go.Op.load 24 (Go.Operand.tmp 18), type := 24, pos := "law.go:39", after := #[{ on := 0, ground := Go.Ground.data }], guard := none }) (v := ?_) rfl (by kernel_rfl) (by kernel_rfl) (by kernel_rfl) (fun _ _ _ h => h) (Or.inl ⟨by rfl, ?_⟩) (by assumption) ?_
      rotate_left
      · intro wS hSw
        (have c := hSw.1; go_simp; (try with_reducible rfl))
      (try simp only [Act.put, List.setIfInBounds_toArray, List.set_cons_zero, List.set_cons_succ])
      refine wpAnyH_take (i := 2) (oi := { dst := some 20, op := Go.Op.move (Go.Operand.tmp 5), type := 3, pos := "law.go:39", after := #[], guard := none }) (v := ?_) rfl (by kernel_rfl) (by kernel_rfl) (by kernel_rfl) (fun _ _ _ h => h) (Or.inl ⟨by rfl, ?_⟩) (by assumption) ?_
      rotate_left
      · intro wS hSw
        (try dsimp only at hSw)
        go_simp
        (try with_reducible rfl)
      (try simp only [Act.put, List.setIfInBounds_toArray, List.set_cons_zero, List.set_cons_succ])
      refine wpAnyH_take (i := 3) (oi := { dst := some 21, op := Go.Op.indexAddr 24 (Go.Operand.tmp 19) (Go.Operand.tmp 20), type := 0, pos := "law.go:39", after := #[{ on := 1, ground := Go.Ground.data }, { on := 2, ground := Go.Ground.data }], guard := none }) (v := ?_) rfl (by kernel_rfl) (by kernel_rfl) (by kernel_rfl) (fun _ _ _ h => h) (Or.inl ⟨by rfl, ?_⟩) (by assumption) ?_
      rotate_left
      · intro wS hSw
        (try dsimp only at hSw)
        go_simp
        (try with_reducible rfl)
      (try simp only [Act.put, List.setIfInBounds_toArray, List.set_cons_zero, List.set_cons_succ])
      refine wpAnyH_take (i := 4) (oi := { dst := some 22, op := Go.Op.load 55 (Go.Operand.tmp 21), type := 55, pos := "law.go:39", after := #[{ on := 3, ground := Go.Ground.data }], guard := none }) (v := ?_) rfl (by kernel_rfl) (by kernel_rfl) (by kernel_rfl) (fun _ _ _ h => h) (Or.inl ⟨by rfl, ?_⟩) (by assumption) ?_
      rotate_left
      · intro wS hSw
        (refine exec_loadA (x := .tmp 21) (C := C) ?_ ?_ hSw.2.1 Tryd.underlying55 rfl HIA.out <;> rfl)
      (try simp only [Act.put, List.setIfInBounds_toArray, List.set_cons_zero, List.set_cons_succ])
      refine wpAnyH_take (i := 5) (oi := { dst := some 23, op := Go.Op.move (Go.Operand.tmp 1), type := 44, pos := "law.go:39", after := #[], guard := none }) (v := ?_) rfl (by kernel_rfl) (by kernel_rfl) (by kernel_rfl) (fun _ _ _ h => h) (Or.inl ⟨by rfl, ?_⟩) (by assumption) ?_
      rotate_left
      · intro wS hSw
        (try dsimp only at hSw)
        go_simp
        (try with_reducible rfl)
      (try simp only [Act.put, List.setIfInBounds_toArray, List.set_cons_zero, List.set_cons_succ])
      refine wpAnyH_take (i := 6) (oi := { dst := some 24, op := Go.Op.move (Go.Operand.tmp 5), type := 3, pos := "law.go:39", after := #[], guard := none }) (v := ?_) rfl (by kernel_rfl) (by kernel_rfl) (by kernel_rfl) (fun _ _ _ h => h) (Or.inl ⟨by rfl, ?_⟩) (by assumption) ?_
      rotate_left
      · intro wS hSw
        (try dsimp only at hSw)
        go_simp
        (try with_reducible rfl)
      (try simp only [Act.put, List.setIfInBounds_toArray, List.set_cons_zero, List.set_cons_succ])
      refine wpAnyH_take (i := 7) (oi := { dst := some 25, op := Go.Op.indexAddr 44 (Go.Operand.tmp 23) (Go.Operand.tmp 24), type := 0, pos := "law.go:39", after := #[{ on := 5, ground := Go.Ground.data }, { on := 6, ground := Go.Ground.data }], guard := none }) (v := ?_) rfl (by kernel_rfl) (by kernel_rfl) (by kernel_rfl) (fun _ _ _ h => h) (Or.inl ⟨by rfl, ?_⟩) (by assumption) ?_
      rotate_left
      · intro wS hSw
        (try dsimp only at hSw)
        go_simp
        (try with_reducible rfl)
      (try simp only [Act.put, List.setIfInBounds_toArray, List.set_cons_zero, List.set_cons_succ])
      refine wpAnyH_take (i := 8) (oi := { dst := some 26, op := Go.Op.load 60 (Go.Operand.tmp 25), type := 60, pos := "law.go:39", after := #[{ on := 7, ground := Go.Ground.data }], guard := none }) (v := ?_) rfl (by kernel_rfl) (by kernel_rfl) (by kernel_rfl) (fun _ _ _ h => h) (Or.inl ⟨by rfl, ?_⟩) (by assumption) ?_
      rotate_left
      · intro wS hSw
        (refine exec_loadA (x := .tmp 25) (C := C) ?_ ?_ hSw.2.2 Tryd.underlying60 rfl HIB.out <;> rfl)
      (try simp only [Act.put, List.setIfInBounds_toArray, List.set_cons_zero, List.set_cons_succ])
      refine wpAnyH_take (i := 9) (oi := { dst := some 27, op := Go.Op.binOp Go.BinOp.neq 55 (Go.Operand.tmp 22) (Go.Operand.tmp 26) 55, type := 4, pos := "law.go:39", after := #[{ on := 4, ground := Go.Ground.data }, { on := 8, ground := Go.Ground.data }], guard := none }) (v := ?_) rfl (by kernel_rfl) (by kernel_rfl) (by kernel_rfl) (fun _ _ _ h => h) (Or.inl ⟨by rfl, ?_⟩) (by assumption) ?_
      rotate_left
      · intro wS hSw
        (refine exec_neqT (x := .tmp 22) (y := .tmp 26) (r := 55) (C := C) (D := C) (b := true) ?_ ?_ ?_ HEQ.out <;> rfl)
      (try simp only [Act.put, List.setIfInBounds_toArray, List.set_cons_zero, List.set_cons_succ])
      refine wpAnyH_done (by kernel_rfl) ?_ _
      clear hSW0
      go_wp2_with fail
      go_roundw
      case rel => exact ⟨i + 1, HI.out, by first | rfl | go_num, HDW.out.1.drew, HDW.out.2.drew⟩
      case measure => have := HI.out; simp [intOf]; omega
    · obtain rfl : i = n := by omega
      have za1 : ¬ (i : Int) < (i : Int) := by omega
      have za2 : decide ((i : Int) < (i : Int)) = false := decide_eq_false za1
      have za7 : ¬ i < i := by omega
      have za8 : decide (i < i) = false := decide_eq_false za7
      clear hbw hBw hlt hi
      go_wp2_with fail
      go_ret
      exact ⟨rfl, HDW.out.1⟩
end Go.Proofs.YtloajfbehejehaaDoor
namespace Go.Proofs.YtloajfbehejehaaDoor
set_option linter.unusedVariables false
set_option linter.unusedSimpArgs false
open Go.RowKit
theorem und_rts : Tryd.prog.underlying 44 = some (.slice 60) := by kernel_rfl
theorem bs_t2 (n : Nat) (S : Nat → Nat) (w : World) : (Instr.buildSlice 44 1 #[(0, .agg (tmL n S).toArray)]).run Tryd.prog w = .ok (.slice (some ⟨w.heap.size, 0, none⟩) 1 1) (w.alloc (.cells (tmL n S).toArray 60)) := by kernel_rfl
theorem step_bs2 {ops : Array Oper} {o : Oper} {a : Act} {w : World} {K : Act → World → Prop} {Q : Exit → Act → World → Prop} {E : Prop} (hgd : o.guard = none) (x : Operand) (ho : o.op = .buildSlice 44 1 #[(0, x)]) (C : Array Value) (hx : a.eval x = .agg C)
    (h : ∀ w, (Instr.buildSlice 44 1 #[(0, .agg C)]).run Tryd.prog w = .ok (.slice (some ⟨w.heap.size, 0, none⟩) 1 1) (w.alloc (.cells C 60)))
    (hk : K (a.put o.dst (.slice (some ⟨w.heap.size, 0, none⟩) 1 1)) (w.alloc (.cells C 60))) : if Region.wanted o (yielded ops a.tmps) = true then Oper.wp Tryd.prog o a w K Q else E := by
  have hw : Region.wanted o (yielded ops a.tmps) = true := by simp [Region.wanted, hgd]
  rw [if_pos hw]
  have e : (#[((0 : Nat), x)].map fun (i, x) => (i, a.eval x)) = #[(0, .agg C)] := by simp [hx]
  unfold Oper.wp execOp
  simp only [ho, e, h, Sem.run_bind, Result.andThen_ok]
  exact hk
theorem wpList_bs2 {ops : Array Oper} {rest : List Oper} {o : Oper} {a : Act} {w : World} {Q : Exit → Act → World → Prop} (hgd : o.guard = none) (x : Operand) (ho : o.op = .buildSlice 44 1 #[(0, x)]) (C : Array Value) (hx : a.eval x = .agg C)
    (h : ∀ w, (Instr.buildSlice 44 1 #[(0, .agg C)]).run Tryd.prog w = .ok (.slice (some ⟨w.heap.size, 0, none⟩) 1 1) (w.alloc (.cells C 60)))
    (hk : wpList Tryd.prog ops Q rest (a.put o.dst (.slice (some ⟨w.heap.size, 0, none⟩) 1 1)) (w.alloc (.cells C 60))) : wpList Tryd.prog ops Q (o :: rest) a w := by
  refine wpList_plain hgd fun K hK => ?_
  have e : (#[((0 : Nat), x)].map fun (i, x) => (i, a.eval x)) = #[(0, .agg C)] := by simp [hx]
  unfold Oper.wp execOp
  simp only [ho, e, h, Sem.run_bind, Result.andThen_ok]
  exact hK _ _ hk
/-- append of a term onto a row that is full: in a new block. -/
theorem run_full {T TS : TypeId} (hU : Tryd.prog.underlying TS = some (.slice T)) (hI : (Tryd.prog.info? T).map (fun i => (i.zero, i.size, i.bytes)) = some (some (.agg zeroT), 33, 36))
    (ty : TypeId) (n g cq b off : Nat) (N : Nat → Nat) (S : Nat → Nat → Nat) (M : Nat) (U : Nat → Nat) (W : World) (hG : TL W (some ⟨b, off, none⟩) n N S) (hA : TL W (some ⟨g, 0, none⟩) 1 (fun _ => M) (fun _ => U)) (hn : n + 1 < 1000000) :
    ∃ v' w', (Builtin.append_ #[TS, TS] ty #[.slice (some ⟨b, off, none⟩) n n, .slice (some ⟨g, 0, none⟩) 1 cq]).run Tryd.prog W = .ok v' w' ∧ TO T w' W.heap.size v' (n + 1) (catN n N (fun _ => M)) (catT n S (fun _ => U)) ∧ Below W.heap.size W w' := by
  obtain ⟨i0, hi, hz0, hz1, hz2⟩ := parts3 hI
  obtain ⟨v', w', hr, hown, hg⟩ := run_append_arg_grows (P := Tryd.prog) W TS ty T i0 (.agg zeroT) 33 36 hU hi hz0 hz1 hz2 zeroT_size (by decide) ⟨b, off, none⟩ n n (rws n (tmC N S)) (rws_len fun _ _ => tmL_len _ _) hG.news ⟨g, 0, none⟩ 1 cq (rws 1 (tmC (fun _ => M) (fun _ => U))) (rws_len fun _ _ => tmL_len _ _) hA.news (by omega) (by unfold maxLen; omega) (by omega)
  exact ⟨v', w', hr, by unfold TO; rw [rws_tm]; exact hown, (Below.refl W.heap.size W).grown hg (Nat.le_refl _) (fun q hq => by cases hq)⟩
theorem step_full {T TS : TypeId} (hU : Tryd.prog.underlying TS = some (.slice T)) (hI : (Tryd.prog.info? T).map (fun i => (i.zero, i.size, i.bytes)) = some (some (.agg zeroT), 33, 36))
    {ops : Array Oper} {o : Oper} {a : Act} {K : Act → World → Prop} {Q : Exit → Act → World → Prop} {E : Prop} (hgd : o.guard = none) (s x : Operand)
    (ho : o.op = .call { callee := .builtin .append, args := #[s, x], argTypes := #[TS, TS] })
    (n g cq b off : Nat) (N : Nat → Nat) (S : Nat → Nat → Nat) (M : Nat) (U : Nat → Nat) (W : World) (hs : a.eval s = .slice (some ⟨b, off, none⟩) n n) (hG : TL W (some ⟨b, off, none⟩) n N S) (hx : a.eval x = .slice (some ⟨g, 0, none⟩) 1 cq) (hA : TL W (some ⟨g, 0, none⟩) 1 (fun _ => M) (fun _ => U)) (hn : n + 1 < 1000000)
    (h : ∀ v' w', TO T w' W.heap.size v' (n + 1) (catN n N (fun _ => M)) (catT n S (fun _ => U)) → Below W.heap.size W w' → K (a.put o.dst v') w') :
    if Region.wanted o (yielded ops a.tmps) = true then Oper.wp Tryd.prog o a W K Q else E := by
  obtain ⟨v', w', hr, h1, h2⟩ := run_full hU hI o.type n g cq b off N S M U W hG hA hn
  have hw : Region.wanted o (yielded ops a.tmps) = true := by simp [Region.wanted, hgd]
  rw [if_pos hw]
  unfold Oper.wp execOp
  simp only [ho, resolve, invoke, builtin, Sem.run_bind, Sem.run_pure, Result.andThen_ok, List.map_toArray, List.map_cons, List.map_nil, hs, hx, hr]
  exact h v' w' h1 h2
/-- What the document's Rotate answers. -/
def RRot (n : Nat) (N : Nat → Nat) (S : Nat → Nat → Nat) (Ky : Nat → Nat) (w : World) (e : Ending) (w' : World) : Prop := Below w.heap.size w w' ∧
  ((e = .returned (.tuple #[.slice none 0 0, .int .i64 1]) ∧ ¬ OkT n N) ∨ (e = .returned (.tuple #[.slice none 0 0, .int .i64 7]) ∧ OkT n N ∧ n = 16) ∨
  (OkT n N ∧ n < 16 ∧ ∃ o c, e = .returned (.tuple #[.slice o (n + 1) c, .int .i64 0]) ∧ TL w' o (n + 1) (fun i => i + 1) (catT n S (fun _ => Ky))))
theorem RRot.ok {n : Nat} {N : Nat → Nat} {S : Nat → Nat → Nat} {Ky : Nat → Nat} {w w' : World} {o : Option Addr} {c : Nat} (h : OkT n N) (hn : n < 16) (hT : TL w' o (n + 1) (fun i => i + 1) (catT n S (fun _ => Ky))) (hb : Below w.heap.size w w') : RRot n N S Ky w (.returned (.tuple #[.slice o (n + 1) c, .int .i64 0])) w' := ⟨hb, .inr (.inr ⟨h, hn, o, c, rfl, hT⟩)⟩
set_option maxRecDepth 100000 in
set_option maxHeartbeats 8000000 in
theorem rrotate_any (n cs : Nat) (oa : Option Addr) (N : Nat → Nat) (S : Nat → Nat → Nat) (Ky : Nat → Nat) (w : World) (hT : TL w oa n N S) (hN : ∀ i, i < n → N i < 4294967296) (hn : n < 10000) (hc : n ≤ cs) :
    Calls Tryd.prog 15 #[.slice oa n cs, .agg (rowC 32 Ky).toArray] w (RRot n N S Ky w) := by
  obtain ⟨F, hF⟩ : ∃ q, (rowC 32 Ky).toArray = q := ⟨_, rfl⟩
  rw [hF]
  obtain ⟨b3, hb3⟩ : ∃ q, w.heap.size = q := ⟨_, rfl⟩
  obtain ⟨w0, hw0⟩ : ∃ q, w.alloc (.cells F 22) = q := ⟨_, rfl⟩
  have hb0 : Below w.heap.size w w0 := by rw [← hw0]; exact (Below.refl _ _).alloc (Nat.le_refl _) _
  have hK : Blk w0 b3 F 22 := by rw [← hw0, ← hb3]; exact Blk.new _ _ _
  have HMY := Lib.hid (may_any n cs oa N S w0 (hT.later hb0) hN (by omega))
  have HB0 := Lib.hid hb0
  have HK0 := Lib.hid hK
  have HT := Lib.hid hT
  have HNN := Lib.hid hn
  have HCN := Lib.hid hc
  have HF := Lib.hid hF
  clear hb0 hK hT hN hn hc hF
  by_cases hok : OkT n N
  · rw [mayT_ok hok] at HMY
    have HOK := Lib.hid hok
    clear hok
    by_cases h16 : n = 16
    · subst h16
      go_enter Tryd.func15, Tryd.ntmps15
      go_wp2_with (go_at_call 14; refine HMY.out.mono ?_; rintro e w1 ⟨rfl, hb1⟩)
      refine bodyPost_ret (v := .tuple #[.slice none 0 0, .int .i64 7]) ?_ rfl ⟨HB0.out.trans (hb1.mono HB0.out.size), .inr (.inl ⟨rfl, HOK.out, rfl⟩)⟩
      exact results_tmp2 (t := 4) (u := 5) Tryd.results15 _ _ _
    · have HLT := Lib.hid (show n < 16 by have := HOK.out.2.1; omega)
      obtain ⟨bb, off, ho, -⟩ := HT.out 0 (by have := HOK.out.1; omega)
      subst ho
      obtain ⟨n1, hn1⟩ : ∃ q, n + 1 = q := ⟨_, rfl⟩
      obtain ⟨C, hC⟩ : ∃ q, (tmL n1 Ky).toArray = q := ⟨_, rfl⟩
      have HCC := Lib.hid hC
      have k5 : (n : Int) + 1 = (n1 : Int) := by omega
      have k6 : IntKind.i64.wrap (n1 : Int) = (n1 : Int) := IntWalk.i64_in _ (by have := HLT.out; omega)
      have k7 : IntKind.u32.wrap (n1 : Int) = (n1 : Int) := IntWalk.u32_in _ (by have := HLT.out; omega)
      have HIF : Hid ((Tryd.prog.info? 22).map (·.size) = some F.size) := Lib.hid (by rw [← HF.out, List.size_toArray, rowC_len]; exact info_a32)
      have HBT : Hid (∀ w, (Instr.build 60 #[(0, .int .u32 (n1 : Int)), (1, .agg F)]).run Tryd.prog w = .ok (.agg C) w) := Lib.hid (by rw [← HF.out, ← hC]; exact build_t2 n1 Ky)
      have HBS : Hid (∀ w, (Instr.buildSlice 44 1 #[(0, .agg C)]).run Tryd.prog w = .ok (.slice (some ⟨w.heap.size, 0, none⟩) 1 1) (w.alloc (.cells C 60))) := Lib.hid (by rw [← hC]; exact bs_t2 n1 Ky)
      have HNS1 := Lib.hid (show n + 1 < 1000000 by have := HNN.out; omega)
      have HTLF : Hid (∀ (A : World) (oq : Option Addr), TL A oq (n + 1) (catN n N (fun _ => n1)) (catT n S (fun _ => Ky)) → TL A oq (n + 1) (fun i => i + 1) (catT n S (fun _ => Ky))) := Lib.hid fun A oq h => h.congr (M := fun i => i + 1) (U := catT n S (fun _ => Ky)) fun i hi => ⟨by
        unfold catN
        by_cases e : i < n
        · rw [if_pos e]; exact HOK.out.2.2 i e
        · rw [if_neg e]; show n1 = i + 1; omega, rfl⟩
      have i0 : (0 : Int) ≤ (n : Int) := by omega
      have i1 : (n : Int) ≤ (cs : Int) := by have := HCN.out; omega
      have i2 : (n : Int) ≤ (n : Int) := by omega
      have a1 : ¬ (n : Int) = 16 := by omega
      have a2 : decide ((n : Int) = 16) = false := decide_eq_false a1
      have a3 : ((n : Int) == 16) = false := by simp only [beq_eq_false_iff_ne]; exact a1
      have a4 : decide (n = 16) = false := decide_eq_false (by omega)
      have a5 : (n == 16) = false := by simp only [beq_eq_false_iff_ne]; omega
      have a6 : ¬ n = 16 := by omega
      clear h16 a1 hn1 hC
      go_enter Tryd.func15, Tryd.ntmps15
      go_upto_region 5 with (go_at_call 14; refine HMY.out.mono ?_; rintro e w1 ⟨rfl, hb1⟩)
      have hd := (Below.refl w1.heap.size w1).drew
      have hb2 := HB0.out.trans (hb1.mono HB0.out.size)
      have HBD := Lib.hid (hb2.trans (hd.mono hb2.size))
      have hKD := Blk.below (Blk.below HK0.out hb1 (Blk.lt HK0.out)) hd (by have h9 := Blk.lt HK0.out; have := hb1.size; omega)
      have HKD : Hid (∀ A, Below w1.drew.heap.size w1.drew A → A.rangeAt b3 0 F.toList) := Lib.hid fun A hA => (Blk.below hKD hA (Blk.lt hKD)).rangeA
      have HTD := Lib.hid (HT.out.later HBD.out)
      have hSW0 : w1.drew.rangeAt b3 0 F.toList := HKD.out _ (Below.refl _ _)
      clear hd hb1 hb2 hKD
      refine wp_region_held_drew (S := (fun A => A.rangeAt b3 0 F.toList)) (by kernel_rfl) ?_ (fun hHeld => ?_)
      · (try dsimp only)
        (first | assumption | (dsimp only; assumption))
      generalize w1.drew = WR at *
      refine wpAnyH_take (i := 0) (oi := { dst := some 12, op := Go.Op.move (Go.Operand.tmp 0), type := 44, pos := "ref.go:41", after := #[], guard := none }) (v := ?_) rfl (by kernel_rfl) (by kernel_rfl) (by kernel_rfl) (fun _ _ _ h => h) (Or.inl ⟨by rfl, ?_⟩) (by assumption) ?_
      rotate_left
      · intro wS hSw
        (try dsimp only at hSw)
        go_simp
        (try with_reducible rfl)
      (try simp only [Act.put, List.setIfInBounds_toArray, List.set_cons_zero, List.set_cons_succ])
      refine wpAnyH_take (i := 1) (oi := { dst := some 13, op := Go.Op.move (Go.Operand.tmp 0), type := 44, pos := "ref.go:41", after := #[], guard := none }) (v := ?_) rfl (by kernel_rfl) (by kernel_rfl) (by kernel_rfl) (fun _ _ _ h => h) (Or.inl ⟨by rfl, ?_⟩) (by assumption) ?_
      rotate_left
      · intro wS hSw
        (try dsimp only at hSw)
        go_simp
        (try with_reducible rfl)
      (try simp only [Act.put, List.setIfInBounds_toArray, List.set_cons_zero, List.set_cons_succ])
      refine wpAnyH_take (i := 2) (oi := { dst := some 14, op := Go.Op.call { callee := Go.Callee.builtin Go.Builtin.len, args := #[Go.Operand.tmp 13], argTypes := #[44] }, type := 3, pos := "ref.go:41", after := #[{ on := 1, ground := Go.Ground.data }], guard := none }) (v := ?_) rfl (by kernel_rfl) (by kernel_rfl) (by kernel_rfl) (fun _ _ _ h => h) (Or.inl ⟨by rfl, ?_⟩) (by assumption) ?_
      rotate_left
      · intro wS hSw
        (try dsimp only at hSw)
        go_simp
        (try with_reducible rfl)
      (try simp only [Act.put, List.setIfInBounds_toArray, List.set_cons_zero, List.set_cons_succ])
      refine wpAnyH_take (i := 3) (oi := { dst := some 15, op := Go.Op.move (Go.Operand.tmp 0), type := 44, pos := "ref.go:41", after := #[], guard := none }) (v := ?_) rfl (by kernel_rfl) (by kernel_rfl) (by kernel_rfl) (fun _ _ _ h => h) (Or.inl ⟨by rfl, ?_⟩) (by assumption) ?_
      rotate_left
      · intro wS hSw
        (try dsimp only at hSw)
        go_simp
        (try with_reducible rfl)
      (try simp only [Act.put, List.setIfInBounds_toArray, List.set_cons_zero, List.set_cons_succ])
      refine wpAnyH_take (i := 4) (oi := { dst := some 16, op := Go.Op.call { callee := Go.Callee.builtin Go.Builtin.len, args := #[Go.Operand.tmp 15], argTypes := #[44] }, type := 3, pos := "ref.go:41", after := #[{ on := 3, ground := Go.Ground.data }], guard := none }) (v := ?_) rfl (by kernel_rfl) (by kernel_rfl) (by kernel_rfl) (fun _ _ _ h => h) (Or.inl ⟨by rfl, ?_⟩) (by assumption) ?_
      rotate_left
      · intro wS hSw
        (try dsimp only at hSw)
        go_simp
        (try with_reducible rfl)
      (try simp only [Act.put, List.setIfInBounds_toArray, List.set_cons_zero, List.set_cons_succ])
      refine wpAnyH_take (i := 5) (oi := { dst := some 17, op := Go.Op.slice 44 (Go.Operand.tmp 12) none (some (Go.Operand.tmp 14)) (some (Go.Operand.tmp 16)), type := 44, pos := "ref.go:41", after := #[{ on := 0, ground := Go.Ground.data }, { on := 2, ground := Go.Ground.data }, { on := 4, ground := Go.Ground.data }], guard := none }) (v := ?_) rfl (by kernel_rfl) (by kernel_rfl) (by kernel_rfl) (fun _ _ _ h => h) (Or.inl ⟨by rfl, ?_⟩) (by assumption) ?_
      rotate_left
      · intro wS hSw
        (try dsimp only at hSw)
        go_simp
        (try with_reducible rfl)
      (try simp only [Act.put, List.setIfInBounds_toArray, List.set_cons_zero, List.set_cons_succ])
      refine wpAnyH_take (i := 6) (oi := { dst := some 18, op := Go.Op.move (Go.Operand.tmp 0), type := 44, pos := "ref.go:41", after := #[], guard := none }) (v := ?_) rfl (by kernel_rfl) (by kernel_rfl) (by kernel_rfl) (fun _ _ _ h => h) (Or.inl ⟨by rfl, ?_⟩) (by assumption) ?_
      rotate_left
      · intro wS hSw
        (try dsimp only at hSw)
        go_simp
        (try with_reducible rfl)
      (try simp only [Act.put, List.setIfInBounds_toArray, List.set_cons_zero, List.set_cons_succ])
      refine wpAnyH_take (i := 7) (oi := { dst := some 19, op := Go.Op.call { callee := Go.Callee.builtin Go.Builtin.len, args := #[Go.Operand.tmp 18], argTypes := #[44] }, type := 3, pos := "ref.go:41", after := #[{ on := 6, ground := Go.Ground.data }], guard := none }) (v := ?_) rfl (by kernel_rfl) (by kernel_rfl) (by kernel_rfl) (fun _ _ _ h => h) (Or.inl ⟨by rfl, ?_⟩) (by assumption) ?_
      rotate_left
      · intro wS hSw
        (try dsimp only at hSw)
        go_simp
        (try with_reducible rfl)
      (try simp only [Act.put, List.setIfInBounds_toArray, List.set_cons_zero, List.set_cons_succ])
      refine wpAnyH_take (i := 8) (oi := { dst := some 20, op := Go.Op.binOp Go.BinOp.add 3 (Go.Operand.tmp 19) (Go.Operand.const (Go.Value.int Go.IntKind.i64 1)) 3, type := 3, pos := "ref.go:41", after := #[{ on := 7, ground := Go.Ground.data }], guard := none }) (v := ?_) rfl (by kernel_rfl) (by kernel_rfl) (by kernel_rfl) (fun _ _ _ h => h) (Or.inl ⟨by rfl, ?_⟩) (by assumption) ?_
      rotate_left
      · intro wS hSw
        (try dsimp only at hSw)
        go_simp
        (try with_reducible rfl)
      (try simp only [Act.put, List.setIfInBounds_toArray, List.set_cons_zero, List.set_cons_succ])
      refine wpAnyH_take (i := 9) (oi := { dst := some 21, op := Go.Op.convert 3 39 (Go.Operand.tmp 20), type := 39, pos := "ref.go:41", after := #[{ on := 8, ground := Go.Ground.data }], guard := none }) (v := ?_) rfl (by kernel_rfl) (by kernel_rfl) (by kernel_rfl) (fun _ _ _ h => h) (Or.inl ⟨by rfl, ?_⟩) (by assumption) ?_
      rotate_left
      · intro wS hSw
        (try dsimp only at hSw)
        go_simp
        (try with_reducible rfl)
      (try simp only [Act.put, List.setIfInBounds_toArray, List.set_cons_zero, List.set_cons_succ])
      refine wpAnyH_take (i := 10) (oi := { dst := some 22, op := Go.Op.load 22 (Go.Operand.tmp 3), type := 22, pos := "ref.go:41", after := #[], guard := none }) (v := ?_) rfl (by kernel_rfl) (by kernel_rfl) (by kernel_rfl) (fun _ _ _ h => h) (Or.inl ⟨by rfl, ?_⟩) (by assumption) ?_
      rotate_left
      · intro wS hSw
        (refine exec_loadA (x := .tmp 3) (C := F) ?_ ?_ hSw Tryd.underlying22 rfl HIF.out <;> rfl)
      (try simp only [Act.put, List.setIfInBounds_toArray, List.set_cons_zero, List.set_cons_succ])
      refine wpAnyH_take (i := 11) (oi := { dst := some 23, op := Go.Op.build 60 #[(0, Go.Operand.tmp 21), (1, Go.Operand.tmp 22)], type := 60, pos := "ref.go:41", after := #[{ on := 9, ground := Go.Ground.data }, { on := 10, ground := Go.Ground.data }], guard := none }) (v := ?_) rfl (by kernel_rfl) (by kernel_rfl) (by kernel_rfl) (fun _ _ _ h => h) (Or.inl ⟨by rfl, ?_⟩) (by assumption) ?_
      rotate_left
      · intro wS hSw
        (refine exec_buildM (parts := #[(0, .tmp 21), (1, .tmp 22)]) (ps := #[(0, .int .u32 (n1 : Int)), (1, .agg F)]) ?_ ?_ HBT.out <;> (first | rfl | (simp [Act.eval]; done) | (go_simp; done)))
      (try simp only [Act.put, List.setIfInBounds_toArray, List.set_cons_zero, List.set_cons_succ])
      refine wpAnyH_ready (rs := [12]) (by kernel_rfl) (by simp) ?_
      refine AllReadyH.cons (o := { dst := some 24, op := Go.Op.buildSlice 44 1 #[(0, Go.Operand.tmp 23)], type := 44, pos := "ref.go:41", after := #[{ on := 11, ground := Go.Ground.data }], guard := none }) rfl (fun K hK => ?_) AllReadyH.nil
      (refine step_bs2 rfl (.tmp 23) rfl C rfl HBS.out ?_; obtain ⟨WB, hw⟩ : ∃ q, WR.alloc (.cells C 60) = q := ⟨_, rfl⟩; rw [hw]; have hv : Below WR.heap.size WR WB := (by rw [← hw]; exact (Below.refl _ _).alloc (Nat.le_refl _) _); have HTN : Hid (TL WB (some ⟨WR.heap.size, 0, none⟩) 1 (fun _ => n1) (fun _ => Ky)) := Lib.hid (by have h9 : Blk WB WR.heap.size C 60 := (by rw [← hw]; exact Blk.new _ _ _); rw [← HCC.out] at h9; exact TL.one h9); have HVB := Lib.hid hv; have HTD2 := Lib.hid (HTD.out.later hv); have HBW := Lib.hid (HBD.out.trans (hv.mono HBD.out.size)); have hSWB : WB.rangeAt b3 0 F.toList := HKD.out WB hv; clear hv hw; skip)
      refine hK.out _ _ ?_ (fun hHeld => ?_)
      · (try dsimp only)
        (first | assumption | (dsimp only; assumption))
      clear hK K
      (try simp only [Act.put, List.setIfInBounds_toArray, List.set_cons_zero, List.set_cons_succ])
      refine wpAnyH_ready (rs := [13]) (by kernel_rfl) (by simp) ?_
      refine AllReadyH.cons (o := { dst := some 25, op := Go.Op.call { callee := Go.Callee.builtin Go.Builtin.append, args := #[Go.Operand.tmp 17, Go.Operand.tmp 24], argTypes := #[44, 44] }, type := 44, pos := "ref.go:41", after := #[{ on := 5, ground := Go.Ground.data }, { on := 12, ground := Go.Ground.data }], guard := none }) rfl (fun K hK => ?_) AllReadyH.nil
      (refine step_full und_rts info_f2 rfl (.tmp 17) (.tmp 24) rfl n WR.heap.size 1 bb off N S n1 Ky WB rfl HTD2.out rfl HTN.out HNS1.out ?_; intro v' VA hto hb; obtain ⟨oq, cq, rfl, hq1, hq2, _, hqf, htl⟩ := hto.out; have HTL := Lib.hid (HTLF.out VA oq htl); have HBA := Lib.hid (HBW.out.trans (hb.mono HBW.out.size)); have hSVA : VA.rangeAt b3 0 F.toList := HKD.out VA (HVB.out.trans (hb.mono HVB.out.size)); clear hto hb hq1 hq2 hqf htl; skip)
      refine hK.out _ _ ?_ (fun hHeld => ?_)
      · (try dsimp only)
        (first | assumption | (dsimp only; assumption))
      clear hK K
      (try simp only [Act.put, List.setIfInBounds_toArray, List.set_cons_zero, List.set_cons_succ])
      refine wpAnyH_take (i := 14) (oi := { dst := some 4, op := Go.Op.assign (Go.Operand.tmp 25), type := 44, pos := "ref.go:41", after := #[{ on := 13, ground := Go.Ground.data }, { on := 13, ground := Go.Ground.chain }, { on := 0, ground := Go.Ground.phase }, { on := 1, ground := Go.Ground.phase }, { on := 2, ground := Go.Ground.phase }, { on := 3, ground := Go.Ground.phase }, { on := 4, ground := Go.Ground.phase }, { on := 5, ground := Go.Ground.phase }, { on := 6, ground := Go.Ground.phase }, { on := 7, ground := Go.Ground.phase }, { on := 8, ground := Go.Ground.phase }, { on := 9, ground := Go.Ground.phase }, { on := 10, ground := Go.Ground.phase }, { on := 11, ground := Go.Ground.phase }, { on := 12, ground := Go.Ground.phase }, { on := 13, ground := Go.Ground.phase }], guard := none }) (v := ?_) rfl (by kernel_rfl) (by kernel_rfl) (by kernel_rfl) (fun _ _ _ h => h) (Or.inl ⟨by rfl, ?_⟩) (by assumption) ?_
      rotate_left
      · intro wS hSw
        (try dsimp only at hSw)
        go_simp
        (try with_reducible rfl)
      (try simp only [Act.put, List.setIfInBounds_toArray, List.set_cons_zero, List.set_cons_succ])
      refine wpAnyH_take (i := 15) (oi := { dst := some 5, op := Go.Op.assign (Go.Operand.const (Go.Value.int Go.IntKind.i64 0)), type := 3, pos := "ref.go:41", after := #[{ on := 14, ground := Go.Ground.chain }, { on := 0, ground := Go.Ground.phase }, { on := 1, ground := Go.Ground.phase }, { on := 2, ground := Go.Ground.phase }, { on := 3, ground := Go.Ground.phase }, { on := 4, ground := Go.Ground.phase }, { on := 5, ground := Go.Ground.phase }, { on := 6, ground := Go.Ground.phase }, { on := 7, ground := Go.Ground.phase }, { on := 8, ground := Go.Ground.phase }, { on := 9, ground := Go.Ground.phase }, { on := 10, ground := Go.Ground.phase }, { on := 11, ground := Go.Ground.phase }, { on := 12, ground := Go.Ground.phase }, { on := 13, ground := Go.Ground.phase }, { on := 14, ground := Go.Ground.phase }], guard := none }) (v := ?_) rfl (by kernel_rfl) (by kernel_rfl) (by kernel_rfl) (fun _ _ _ h => h) (Or.inl ⟨by rfl, ?_⟩) (by assumption) ?_
      rotate_left
      · intro wS hSw
        (try dsimp only at hSw)
        go_simp
        (try with_reducible rfl)
      (try simp only [Act.put, List.setIfInBounds_toArray, List.set_cons_zero, List.set_cons_succ])
      refine wpAnyH_done (by kernel_rfl) ?_ _
      clear hSVA hSWB
      go_wp2_with fail
      refine bodyPost_ret (v := .tuple #[.slice oq (n + 1) cq, .int .i64 0]) ?_ rfl (RRot.ok HOK.out HLT.out HTL.out HBA.out)
      exact results_tmp2 (t := 4) (u := 5) Tryd.results15 _ _ _
  · rw [mayT_no hok] at HMY
    have HOK := Lib.hid hok
    clear hok
    go_enter Tryd.func15, Tryd.ntmps15
    go_wp2_with (go_at_call 14; refine HMY.out.mono ?_; rintro e w1 ⟨rfl, hb1⟩)
    refine bodyPost_ret (v := .tuple #[.slice none 0 0, .int .i64 1]) ?_ rfl ⟨HB0.out.trans (hb1.mono HB0.out.size), .inl ⟨rfl, HOK.out⟩⟩
    exact results_tmp2 (t := 4) (u := 5) Tryd.results15 _ _ _
end Go.Proofs.YtloajfbehejehaaDoor
namespace Go.Proofs.YtloajfbehejehaaDoor
set_option linter.unusedVariables false
set_option linter.unusedSimpArgs false
open Go.RowKit
/-- What the document's Decode answers. -/
def RDec (m : Nat) (B : Nat → Nat) (w : World) (e : Ending) (w' : World) : Prop := Below w.heap.size w w' ∧
  ((e = .returned (.tuple #[.slice none 0 0, .int .i64 4]) ∧ ¬ IsRing m B) ∨
   (IsRing m B ∧ ∃ o c, e = .returned (.tuple #[.slice o (B 2) c, .int .i64 0]) ∧ TL w' o (B 2) (fun i => i + 1) (fun i j => B (3 + 32 * i + j))))
/-- A key's first k bytes. -/
def fstF (k : Nat) (f : Nat → Nat) : Nat → Nat := fun j => if j < k then f j else 0
theorem fst_set (n k : Nat) (f : Nat → Nat) (hk : k < 32) : (tmL n (fstF k f)).toArray.setIfInBounds (1 + k) (.int .u8 (f k : Nat)) = (tmL n (fstF (k + 1) f)).toArray := by
  rw [List.setIfInBounds_toArray]
  congr 1
  refine List.ext_getElem? fun i => ?_
  rw [List.getElem?_set]
  by_cases e : 1 + k = i
  · subst e
    rw [if_pos rfl, if_pos (by rw [tmL_len]; omega), tmL_at _ _ hk]
    unfold fstF
    rw [if_pos (Nat.lt_succ_self k)]
  · rw [if_neg e]
    by_cases e0 : i = 0
    · subst e0; rfl
    · obtain ⟨j, rfl⟩ : ∃ j, i = 1 + j := ⟨i - 1, by omega⟩
      by_cases hj : j < 32
      · rw [tmL_at _ _ hj, tmL_at _ _ hj]
        unfold fstF
        by_cases e1 : j < k
        · rw [if_pos e1, if_pos (by omega)]
        · rw [if_neg e1, if_neg (by omega)]
      · rw [List.getElem?_eq_none (by rw [tmL_len]; omega), List.getElem?_eq_none (by rw [tmL_len]; omega)]
theorem TO.congr32 {T : TypeId} {w : World} {base n : Nat} {v : Value} {N M : Nat → Nat} {S U : Nat → Nat → Nat} (h : TO T w base v n N S) (he : ∀ i, i < n → N i = M i ∧ ∀ j, j < 32 → S i j = U i j) : TO T w base v n M U := by
  unfold TO at h ⊢
  rw [rws_congr (D := tmC M U) fun i hi => by unfold tmC; rw [(he i hi).1, tmL_congr (he i hi).2]] at h
  exact h
set_option maxRecDepth 100000 in
set_option maxHeartbeats 8000000 in
theorem rdecode_any (m cb : Nat) (ob : Option Addr) (B : Nat → Nat) (w : World) (hB : Bytes w ob m B) (hm : m ≤ cb) (hs : m < 1000000) :
    Calls Tryd.prog 17 #[.slice ob m cb] w (RDec m B w) := by
  have HBW := Lib.hid hB
  by_cases g : m < 3
  · have hno : ¬ IsRing m B := fun h => by have := h.1; omega
    have g1 : (m : Int) < (3 : Int) := by omega
    have g2 : decide ((m : Int) < (3 : Int)) = true := decide_eq_true g1
    have g7 : m < 3 := by omega
    have g8 : decide (m < 3) = true := decide_eq_true g7
    clear hB hs
    go_enter Tryd.func17, Tryd.ntmps17
    go_wp2_with fail
    refine bodyPost_ret (v := .tuple #[.slice none 0 0, .int .i64 4]) ?_ rfl ⟨Below.refl _ _, .inl ⟨rfl, hno⟩⟩
    exact results_tmp2 (t := 2) (u := 3) Tryd.results17 _ _ _
  obtain ⟨_, bo, oo, e, x0⟩ := hB 0 (by omega)
  subst e
  rw [Nat.add_zero] at x0
  obtain ⟨l1, _, _, e, x1⟩ := hB 1 (by omega)
  cases e
  obtain ⟨l2, _, _, e, x2⟩ := hB 2 (by omega)
  cases e
  obtain ⟨a0, ha0⟩ : ∃ q, B 0 = q := ⟨_, rfl⟩
  obtain ⟨a1, ha1⟩ : ∃ q, B 1 = q := ⟨_, rfl⟩
  obtain ⟨a2, ha2⟩ : ∃ q, B 2 = q := ⟨_, rfl⟩
  rw [ha0] at x0
  rw [ha1] at x1 l1
  rw [ha2] at x2 l2
  have HA := Lib.hid (And.intro ha0 (And.intro ha1 ha2))
  have g1 : ¬ (m : Int) < (3 : Int) := by omega
  have g2 : decide ((m : Int) < (3 : Int)) = false := decide_eq_false g1
  have g7 : ¬ m < 3 := by omega
  have g8 : decide (m < 3) = false := decide_eq_false g7
  have i0 : (0 : Int) < (m : Int) := by omega
  have i1 : (1 : Int) < (m : Int) := by omega
  have i2 : (2 : Int) < (m : Int) := by omega
  have n0 : 0 < m := by omega
  have n1 : 1 < m := by omega
  have n2 : 2 < m := by omega
  have HL := Lib.hid (And.intro l1 l2)
  have HG := Lib.hid (show 3 ≤ m by omega)
  clear hB ha0 ha1 ha2 hs
  by_cases k0 : a0 = 107
  case neg =>
    have hno : ¬ IsRing m B := fun h => k0 (by have := h.2.1; have := HA.out; omega)
    have u1 : ¬ (a0 : Int) = 107 := by omega
    have u2 : decide ((a0 : Int) = 107) = false := decide_eq_false u1
    have u3 : ((a0 : Int) == 107) = false := by simp only [beq_eq_false_iff_ne]; exact u1
    have u4 : decide (a0 = 107) = false := decide_eq_false (by omega)
    have u5 : (a0 == 107) = false := by simp only [beq_eq_false_iff_ne]; omega
    have u6 : ¬ a0 = 107 := by omega
    go_enter Tryd.func17, Tryd.ntmps17
    go_wp2_with fail
    refine bodyPost_ret (v := .tuple #[.slice none 0 0, .int .i64 4]) ?_ rfl ⟨Below.refl _ _, .inl ⟨rfl, hno⟩⟩
    exact results_tmp2 (t := 2) (u := 3) Tryd.results17 _ _ _
  have u1 : (a0 : Int) = 107 := by omega
  have u2 : decide ((a0 : Int) = 107) = true := decide_eq_true u1
  have u3 : ((a0 : Int) == 107) = true := by simp only [beq_iff_eq]; exact u1
  have u4 : decide (a0 = 107) = true := decide_eq_true (by omega)
  have u5 : (a0 == 107) = true := by simp only [beq_iff_eq]; omega
  by_cases k1 : a1 = 114
  case neg =>
    have hno : ¬ IsRing m B := fun h => k1 (by have := h.2.2.1; have := HA.out; omega)
    have v1 : ¬ (a1 : Int) = 114 := by omega
    have v2 : decide ((a1 : Int) = 114) = false := decide_eq_false v1
    have v3 : ((a1 : Int) == 114) = false := by simp only [beq_eq_false_iff_ne]; exact v1
    have v4 : decide (a1 = 114) = false := decide_eq_false (by omega)
    have v5 : (a1 == 114) = false := by simp only [beq_eq_false_iff_ne]; omega
    have v6 : ¬ a1 = 114 := by omega
    go_enter Tryd.func17, Tryd.ntmps17
    go_wp2_with fail
    refine bodyPost_ret (v := .tuple #[.slice none 0 0, .int .i64 4]) ?_ rfl ⟨Below.refl _ _, .inl ⟨rfl, hno⟩⟩
    exact results_tmp2 (t := 2) (u := 3) Tryd.results17 _ _ _
  have v1 : (a1 : Int) = 114 := by omega
  have v2 : decide ((a1 : Int) = 114) = true := decide_eq_true v1
  have v3 : ((a1 : Int) == 114) = true := by simp only [beq_iff_eq]; exact v1
  have v4 : decide (a1 = 114) = true := decide_eq_true (by omega)
  have v5 : (a1 == 114) = true := by simp only [beq_iff_eq]; omega
  have kc : IntKind.i64.wrap (a2 : Int) = (a2 : Int) := IntWalk.i64_in _ (by have := HL.out; omega)
  by_cases k2 : a2 < 1
  case pos =>
    have hno : ¬ IsRing m B := fun h => by have := h.2.2.2.1; have := HA.out; omega
    have p1 : (a2 : Int) < (1 : Int) := by omega
    have p2 : decide ((a2 : Int) < (1 : Int)) = true := decide_eq_true p1
    have p7 : a2 < 1 := by omega
    have p8 : decide (a2 < 1) = true := decide_eq_true p7
    go_enter Tryd.func17, Tryd.ntmps17
    go_wp2_with fail
    refine bodyPost_ret (v := .tuple #[.slice none 0 0, .int .i64 4]) ?_ rfl ⟨Below.refl _ _, .inl ⟨rfl, hno⟩⟩
    exact results_tmp2 (t := 2) (u := 3) Tryd.results17 _ _ _
  have p1 : ¬ (a2 : Int) < (1 : Int) := by omega
  have p2 : decide ((a2 : Int) < (1 : Int)) = false := decide_eq_false p1
  have p7 : ¬ a2 < 1 := by omega
  have p8 : decide (a2 < 1) = false := decide_eq_false p7
  by_cases k3 : 16 < a2
  case pos =>
    have hno : ¬ IsRing m B := fun h => by have := h.2.2.2.2.1; have := HA.out; omega
    have q1 : (16 : Int) < (a2 : Int) := by omega
    have q2 : decide ((16 : Int) < (a2 : Int)) = true := decide_eq_true q1
    have q7 : 16 < a2 := by omega
    have q8 : decide (16 < a2) = true := decide_eq_true q7
    go_enter Tryd.func17, Tryd.ntmps17
    go_wp2_with fail
    refine bodyPost_ret (v := .tuple #[.slice none 0 0, .int .i64 4]) ?_ rfl ⟨Below.refl _ _, .inl ⟨rfl, hno⟩⟩
    exact results_tmp2 (t := 2) (u := 3) Tryd.results17 _ _ _
  have q1 : ¬ (16 : Int) < (a2 : Int) := by omega
  have q2 : decide ((16 : Int) < (a2 : Int)) = false := decide_eq_false q1
  have q7 : ¬ 16 < a2 := by omega
  have q8 : decide (16 < a2) = false := decide_eq_false q7
  obtain ⟨M32, hM32⟩ : ∃ q, a2 * 32 = q := ⟨_, rfl⟩
  obtain ⟨LL, hLL⟩ : ∃ q, 3 + M32 = q := ⟨_, rfl⟩
  have km1 : (32 : Int) * (a2 : Int) = (M32 : Int) := by omega
  have km2 : IntKind.i64.wrap (M32 : Int) = (M32 : Int) := IntWalk.i64_in _ (by omega)
  have km3 : (3 : Int) + (M32 : Int) = (LL : Int) := by omega
  have km4 : IntKind.i64.wrap (LL : Int) = (LL : Int) := IntWalk.i64_in _ (by omega)
  by_cases k4 : m = LL
  case neg =>
    have hno : ¬ IsRing m B := fun h => k4 (by have := h.2.2.2.2.2; have := HA.out; omega)
    have r1 : ¬ (m : Int) = LL := by omega
    have r2 : decide ((m : Int) = LL) = false := decide_eq_false r1
    have r3 : ((m : Int) == LL) = false := by simp only [beq_eq_false_iff_ne]; exact r1
    have r4 : decide (m = LL) = false := decide_eq_false (by omega)
    have r5 : (m == LL) = false := by simp only [beq_eq_false_iff_ne]; omega
    have r6 : ¬ m = LL := by omega
    go_enter Tryd.func17, Tryd.ntmps17
    go_wp2_with fail
    refine bodyPost_ret (v := .tuple #[.slice none 0 0, .int .i64 4]) ?_ rfl ⟨Below.refl _ _, .inl ⟨rfl, hno⟩⟩
    exact results_tmp2 (t := 2) (u := 3) Tryd.results17 _ _ _
  have r1 : (m : Int) = LL := by omega
  have r2 : decide ((m : Int) = LL) = true := decide_eq_true r1
  have r3 : ((m : Int) == LL) = true := by simp only [beq_iff_eq]; exact r1
  have r4 : decide (m = LL) = true := decide_eq_true (by omega)
  have r5 : (m == LL) = true := by simp only [beq_iff_eq]; omega
  have s1 : ¬ (LL : Int) < (3 : Int) := by omega
  have s2 : decide ((LL : Int) < (3 : Int)) = false := decide_eq_false s1
  have s7 : ¬ LL < 3 := by omega
  have s8 : decide (LL < 3) = false := decide_eq_false s7
  have HOK : Hid (IsRing m B) := Lib.hid ⟨HG.out, by have := HA.out; omega, by have := HA.out; omega, by have := HA.out; omega, by have := HA.out; omega, by have := HA.out; omega⟩
  have HN := Lib.hid (show 1 ≤ a2 ∧ a2 ≤ 16 ∧ m = 3 + 32 * a2 ∧ m ≤ cb by omega)
  clear k0 k1 k2 k3 k4 hM32 hLL hm
  go_enter Tryd.func17, Tryd.ntmps17
  go_wp2_with fail
  clear n0 n1 kc km1 km2 km3 km4 r1 r2 r3 r4 r5 s1 s2 s7 s8 g1 g2 g7 g8 u1 u2 u3 u4 u5 v1 v2 v3 v4 v5 p1 p2 p7 p8 q1 q2 q7 q8 x0 x1 x2 i0 i1
  go_loopw [4, 5] (fun y4 y5 wr => ∃ (i : Nat) (v : Value), i ≤ a2 ∧ y4 = v ∧ y5 = .int .i64 (i : Int) ∧ TO 60 wr w.heap.size v i (fun i => i + 1) (fun i j => B (3 + 32 * i + j)) ∧ Below w.heap.size w wr) (fun _ y _ => a2 - (intOf y).toNat)
  case atStart => exact ⟨0, _, Nat.zero_le _, rfl, rfl, TO.nil _ _ _ _ _, Below.refl _ _⟩
  case round =>
    obtain ⟨i, v, hi, rfl, rfl, hTO, hbw⟩ := hrel
    obtain ⟨wo, hwo⟩ : ∃ q, q = wr := ⟨_, rfl⟩
    subst hwo
    have kc : IntKind.i64.wrap (a2 : Int) = (a2 : Int) := IntWalk.i64_in _ (by have := HL.out; omega)
    have x2 : wo.cell? ⟨bo, oo + 2, none⟩ = some (.int .u8 (a2 : Int)) := by
      obtain ⟨_, _, _, e, h9⟩ := (HBW.out.later hbw) 2 (by have := HG.out; omega)
      cases e
      rw [HA.out.2.2] at h9; exact h9
    by_cases hlt : i < a2
    · have HI := Lib.hid (show i < a2 ∧ i < 16 by have := HN.out; omega)
      have za1 : (i : Int) < (a2 : Int) := by omega
      have za2 : decide ((i : Int) < (a2 : Int)) = true := decide_eq_true za1
      have za7 : i < a2 := by omega
      have za8 : decide (i < a2) = true := decide_eq_true za7
      obtain ⟨i32, hi32⟩ : ∃ q, 32 * i = q := ⟨_, rfl⟩
      obtain ⟨at0, hat⟩ : ∃ q, 3 + i32 = q := ⟨_, rfl⟩
      obtain ⟨i1, hi1⟩ : ∃ q, i + 1 = q := ⟨_, rfl⟩
      have k1 : (32 : Int) * (i : Int) = (i32 : Int) := by omega
      have k2 : IntKind.i64.wrap (i32 : Int) = (i32 : Int) := IntWalk.i64_in _ (by have := HN.out; omega)
      have k3 : (3 : Int) + (i32 : Int) = (at0 : Int) := by omega
      have k4 : IntKind.i64.wrap (at0 : Int) = (at0 : Int) := IntWalk.i64_in _ (by have := HN.out; omega)
      have k5 : (i : Int) + 1 = (i1 : Int) := by omega
      have k6 : IntKind.i64.wrap (i1 : Int) = (i1 : Int) := IntWalk.i64_in _ (by have := HN.out; omega)
      have k7 : IntKind.u32.wrap (i1 : Int) = (i1 : Int) := IntWalk.u32_in _ (by have := HN.out; omega)
      obtain ⟨Ky, hKy⟩ : ∃ q, (fun j => B (at0 + j)) = q := ⟨_, rfl⟩
      obtain ⟨CZ, hCZ⟩ : ∃ q, (tmL i1 (fun _ => 0)).toArray = q := ⟨_, rfl⟩
      obtain ⟨C, hC⟩ : ∃ q, (tmL i1 (fstF 32 Ky)).toArray = q := ⟨_, rfl⟩
      have HCC := Lib.hid hC
      have HSZ : Hid (CZ.size = 33) := Lib.hid (by rw [← hCZ]; exact tm_size _ _)
      have HON : Hid (CZ.all (·.oneCell') = true) := Lib.hid (by rw [← hCZ]; exact tm_one _ _)
      have HIZ : Hid ((Tryd.prog.info? 60).map (·.size) = some CZ.size) := Lib.hid (by rw [HSZ.out]; exact info_t2)
      have HIC : Hid ((Tryd.prog.info? 60).map (·.size) = some C.size) := Lib.hid (by rw [← hC, tm_size]; exact info_t2)
      have HBT : Hid (∀ w, (Instr.build 60 #[(0, .int .u32 (i1 : Int))]).run Tryd.prog w = .ok (.agg CZ) w) := Lib.hid (by rw [← hCZ]; exact build_n2 i1)
      have HBS : Hid (∀ w, (Instr.buildSlice 44 1 #[(0, .agg C)]).run Tryd.prog w = .ok (.slice (some ⟨w.heap.size, 0, none⟩) 1 1) (w.alloc (.cells C 60))) := Lib.hid (by rw [← hC]; exact bs_t2 i1 (fstF 32 Ky))
      have HCG : Hid (∀ (A : World) (v' : Value), TO 60 A w.heap.size v' (i + 1) (catN i (fun i => i + 1) (fun _ => i1)) (catT i (fun i j => B (3 + 32 * i + j)) (fun _ => fstF 32 Ky)) → TO 60 A w.heap.size v' (i + 1) (fun i => i + 1) (fun i j => B (3 + 32 * i + j))) := Lib.hid fun A v' h => h.congr32 fun q hq => by
        unfold catN catT
        by_cases e : q < i
        · rw [if_pos e, if_pos e]; exact ⟨rfl, fun _ _ => rfl⟩
        · obtain rfl : q = i := by omega
          rw [if_neg e, if_neg e]
          exact ⟨by show i1 = q + 1; omega, fun j hj => by show fstF 32 Ky j = _; unfold fstF; rw [if_pos hj, ← hKy, show at0 = 3 + 32 * q by omega]⟩
      have HTO := Lib.hid (And.intro hTO hbw)
      have HAT := Lib.hid (And.intro hat (And.intro hi32 (And.intro hi1 hKy)))
      obtain ⟨b6, hqb6⟩ : ∃ y, wo.heap.size = y := ⟨_, rfl⟩
      obtain ⟨wz, hwz⟩ : ∃ y, wo.alloc (.cells zeroT 60) = y := ⟨_, rfl⟩
      have hbz : Below wo.heap.size wo wz := by rw [← hwz]; exact (Below.refl _ _).alloc (Nat.le_refl _) _
      have hXz : Blk wz b6 zeroT 60 := by rw [← hwz, ← hqb6]; exact Blk.new _ _ _
      have HTZb6 : Hid (wz.there b6 0 CZ.size) := Lib.hid (hXz.there (by rw [zeroT_size, HSZ.out]; exact Nat.le_refl _))
      obtain ⟨w5, hw5⟩ : ∃ y, wz.setCells b6 0 CZ.toList = y := ⟨_, rfl⟩
      have hOz : Own b6 wz w5 := by rw [← hw5]; exact Own.setCells _ _ _
      have HBw5 : Hid (Below wo.heap.size wo w5) := Lib.hid (hbz.trans (hOz.below (by omega) hbz.size))
      have HNw5 : Hid (Blk w5 b6 CZ 60) := Lib.hid (by rw [← hw5]; exact Blk.setCells hXz CZ.toList (by rw [zeroT_size, Array.length_toList]; exact HSZ.out))
      have HWw5 := Lib.hid hw5
      clear hbz hXz hOz hw5
      have HB6 : Hid (wo.heap.size ≤ b6) := Lib.hid (Nat.le_of_eq hqb6)
      have HBZ : Hid (Blk w5 b6 (tmL i1 (fstF 0 Ky)).toArray 60) := Lib.hid (by have h9 := HNw5.out; rw [← hCZ] at h9; exact h9)
      clear hi32 hat hi1 hKy hCZ hC hlt hi hTO hbw
      go_wp2_with (first | (refine wpList_value rfl (exec_buildM (parts := #[(0, .tmp 56)]) (ps := #[(0, .int .u32 (i1 : Int))]) rfl (by first | rfl | (simp [Act.eval]; done) | (go_simp; done)) HBT.out) ?_) | (refine wpList_zero rfl rfl zero_t2 ?_; rw [hwz, hqb6]; (try simp only [Act.put, List.setIfInBounds_toArray, List.set_cons_zero, List.set_cons_succ])) | (refine wpList_store_mid rfl 60 (.tmp 6) (.tmp 57) rfl b6 0 CZ rfl rfl HTZb6.out HIZ.out HON.out ?_; rw [HWw5.out]))
      go_loopw [7] (fun y wr => ∃ k : Nat, k ≤ 32 ∧ y = .int .i64 (k : Int) ∧ Blk wr b6 (tmL i1 (fstF k Ky)).toArray 60 ∧ Below wo.heap.size wo wr) (fun y _ => 32 - (intOf y).toNat)
      case atStart => exact ⟨0, Nat.zero_le _, rfl, HBZ.out, HBw5.out⟩
      case round =>
        obtain ⟨k, hk, rfl, hBk, hbq⟩ := hrel
        have HBQ := Lib.hid (And.intro hBk hbq)
        by_cases hkl : k < 32
        · have HK := Lib.hid hkl
          have zb1 : (k : Int) < (32 : Int) := by omega
          have zb2 : decide ((k : Int) < (32 : Int)) = true := decide_eq_true zb1
          have zb7 : k < 32 := by omega
          have zb8 : decide (k < 32) = true := decide_eq_true zb7
          obtain ⟨p, hp⟩ : ∃ q, at0 + k = q := ⟨_, rfl⟩
          have j0 : (0 : Int) ≤ (k : Int) := by omega
          have j1 : (at0 : Int) + (k : Int) = (p : Int) := by omega
          have j2 : IntKind.i64.wrap (p : Int) = (p : Int) := IntWalk.i64_in _ (by have := HN.out; have := HAT.out; have := HI.out; omega)
          have j3 : (0 : Int) ≤ (p : Int) := by omega
          have j4 : (p : Int) < (m : Int) := by have := HN.out; have := HAT.out; have := HI.out; omega
          have j5 : p < m := by omega
          have j6 : IntKind.i64.wrap ((k : Int) + 1) = ((k + 1 : Nat) : Int) := by rw [IntWalk.i64_in _ (by omega)]; omega
          obtain ⟨x, hx⟩ : ∃ q, B p = q := ⟨_, rfl⟩
          have c1 : wr.cell? ⟨bo, oo + p, none⟩ = some (.int .u8 (x : Int)) := by
            obtain ⟨_, _, _, e, h9⟩ := (HBW.out.later (HTO.out.2.trans (hbq.mono HTO.out.2.size))) p j5
            cases e
            rw [hx] at h9; exact h9
          have f6 : wr.frozen? ⟨b6, 1 + k, none⟩ = false := Blk.free hBk _
          have c6 : wr.cell? ⟨b6, 1 + k, none⟩ = some (.int .u8 (fstF k Ky k : Nat)) := by rw [Blk.cell hBk, List.getElem?_toArray]; exact tmL_at _ _ hkl
          have HX : Hid (Ky k = x) := Lib.hid (by rw [← HAT.out.2.2.2]; show B (at0 + k) = x; rw [hp]; exact hx)
          clear hp hx hBk hbq hk hkl
          go_wp2_with fail
          go_roundw
          case rel => exact ⟨k + 1, HK.out, by first | rfl | go_num, by rw [← fst_set i1 k Ky HK.out, HX.out]; exact HBQ.out.1.set _ _, HBQ.out.2.trans (((Own.refl b6 wr).set _ _).below HB6.out HBQ.out.2.size)⟩
          case measure => have := HK.out; simp [intOf]; omega
        · obtain rfl : k = 32 := by omega
          rw [HCC.out] at HBQ
          have HRC : Hid (wr.rangeAt b6 0 C.toList) := Lib.hid HBQ.out.1.rangeA
          have HTN : Hid (TL (wr.alloc (.cells C 60)) (some ⟨wr.heap.size, 0, none⟩) 1 (fun _ => i1) (fun _ => fstF 32 Ky)) := Lib.hid (by
            have h9 : Blk (wr.alloc (.cells C 60)) wr.heap.size (tmL i1 (fstF 32 Ky)).toArray 60 := (by rw [HCC.out]; exact Blk.new _ _ _)
            exact TL.one h9)
          have hal : Below wr.heap.size wr (wr.alloc (.cells C 60)) := (Below.refl _ _).alloc (Nat.le_refl _) _
          have HTV := Lib.hid ((HTO.out.1.later HBQ.out.2).later hal)
          have HBV := Lib.hid ((HTO.out.2.trans (HBQ.out.2.mono HTO.out.2.size)).trans (hal.mono (Nat.le_trans HTO.out.2.size HBQ.out.2.size)))
          clear hal hBk hbq hk hkl
          go_wp2_with (first | (refine wpList_value rfl (exec_loadA (x := .tmp 6) (C := C) rfl rfl HRC.out Tryd.underlying60 rfl HIC.out) ?_) | (refine wpList_bs2 rfl (.tmp 74) rfl C rfl HBS.out ?_) | (refine app_TO und_rts info_f2 rfl (.tmp 73) (.tmp 75) rfl w.heap.size u4 i 1 1 (fun i => i + 1) (fun _ => i1) (fun i j => B (3 + 32 * i + j)) (fun _ => fstF 32 Ky) (some ⟨wr.heap.size, 0, none⟩) (wr.alloc (.cells C 60)) rfl HTV.out rfl HTN.out (fun e => by cases e) (by have := HI.out; omega) HBV.out.size ?_; intro v' w9 ht9 hb9 hg9; have HT9 := Lib.hid (HCG.out w9 v' ht9); have HB9 := Lib.hid (HBV.out.trans hb9); clear ht9 hb9 hg9))
          go_roundw
          case rel => exact ⟨i + 1, v', HI.out.1, rfl, by first | rfl | go_num, HT9.out, HB9.out⟩
          case measure => have := HI.out; simp [intOf]; omega
    · obtain rfl : i = a2 := by omega
      have za1 : ¬ (i : Int) < (i : Int) := by omega
      have za2 : decide ((i : Int) < (i : Int)) = false := decide_eq_false za1
      have za7 : ¬ i < i := by omega
      have za8 : decide (i < i) = false := decide_eq_false za7
      obtain ⟨o, c, rfl, hnc, hmx, hno, hbl, hTL⟩ := hTO.out
      have HTL := Lib.hid (And.intro hTL hbw)
      clear hTO hnc hmx hno hbl hTL hbw hlt hi
      go_wp2_with fail
      refine bodyPost_ret (v := .tuple #[.slice o i c, .int .i64 0]) ?_ rfl ⟨HTL.out.2, .inr ⟨HOK.out, o, c, by rw [HA.out.2.2], by rw [HA.out.2.2]; exact HTL.out.1⟩⟩
      exact results_tmp2 (t := 2) (u := 3) Tryd.results17 _ _ _
end Go.Proofs.YtloajfbehejehaaDoor
namespace Go.Proofs.YtloajfbehejehaaDoor
set_option linter.unusedVariables false
set_option linter.unusedSimpArgs false
open Go.RowKit
/-- An error that reads as a number. -/
def ErN (v : Value) (q : Nat) : Prop := (v = .nilIface ∧ q = 0) ∨ ∃ k : Nat, v = .iface 64 (.int .i64 (k : Int)) ∧ q = k
theorem ErN.nil : ErN .nilIface 0 := .inl ⟨rfl, rfl⟩
theorem ErN.err (k : Nat) : ErN (.iface 64 (.int .i64 (k : Int))) k := .inr ⟨k, rfl, rfl⟩
theorem num_ern {v : Value} {q : Nat} (w : World) (h : ErN v q) (hh : Handle w) : Calls Tryd.prog 8 #[v] w fun e w' => e = .returned (.int .i64 (q : Int)) ∧ Below w.heap.size w w' := by
  rcases h with ⟨rfl, rfl⟩ | ⟨k, rfl, rfl⟩
  · exact num_nil w
  · exact num_err _ w hh
theorem rot_pair (n : Nat) (N : Nat → Nat) (S : Nat → Nat → Nat) (Ky : Nat → Nat) (hN : ∀ i, N i < 4294967296) (hn : n ≤ 40) :
    ∃ (k : Nat) (M : Nat → Nat) (U : Nat → Nat → Nat) (q : Nat) (ev : Value), k < 1000000 ∧ ErN ev q ∧
      (∀ oa cs w, TL w oa n N S → Calls Tryd.prog 7 #[.agg #[.slice oa n cs], .agg (rowC 32 Ky).toArray] w fun e w' => ∃ o c, e = .returned (.tuple #[.agg #[.slice o k c], ev]) ∧ TL w' o k M U ∧ Below w.heap.size w w') ∧
      (∀ oa cs w, TL w oa n N S → n ≤ cs → Calls Tryd.prog 15 #[.slice oa n cs, .agg (rowC 32 Ky).toArray] w fun e w' => ∃ o c, e = .returned (.tuple #[.slice o k c, .int .i64 (q : Int)]) ∧ TL w' o k M U ∧ Below w.heap.size w w') := by
  by_cases h : OkT n N
  · by_cases h16 : n = 16
    · refine ⟨0, fun _ => 0, fun _ _ => 0, 7, _, by omega, ErN.err 7, fun oa cs w hT => ?_, fun oa cs w hT hc => ?_⟩
      · refine (rotate_any n cs oa N S Ky w hT (fun i _ => hN i) (by omega)).mono ?_
        rintro e w' ⟨hb, ⟨_, h1⟩ | ⟨rfl, _, _⟩ | ⟨_, h1, _⟩⟩
        · exact absurd h h1
        · exact ⟨none, 0, rfl, TL.nil _ _ _ _, hb⟩
        · omega
      · refine (rrotate_any n cs oa N S Ky w hT (fun i _ => hN i) (by omega) hc).mono ?_
        rintro e w' ⟨hb, ⟨_, h1⟩ | ⟨rfl, _, _⟩ | ⟨_, h1, _⟩⟩
        · exact absurd h h1
        · exact ⟨none, 0, rfl, TL.nil _ _ _ _, hb⟩
        · omega
    · refine ⟨n + 1, fun i => i + 1, catT n S (fun _ => Ky), 0, _, by omega, ErN.nil, fun oa cs w hT => ?_, fun oa cs w hT hc => ?_⟩
      · refine (rotate_any n cs oa N S Ky w hT (fun i _ => hN i) (by omega)).mono ?_
        rintro e w' ⟨hb, ⟨_, h1⟩ | ⟨_, _, h1⟩ | ⟨_, _, o, c, rfl, h1, _⟩⟩
        · exact absurd h h1
        · exact absurd h1 h16
        · exact ⟨o, c, rfl, h1, hb⟩
      · refine (rrotate_any n cs oa N S Ky w hT (fun i _ => hN i) (by omega) hc).mono ?_
        rintro e w' ⟨hb, ⟨_, h1⟩ | ⟨_, _, h1⟩ | ⟨_, _, o, c, rfl, h1⟩⟩
        · exact absurd h h1
        · exact absurd h1 h16
        · exact ⟨o, c, rfl, h1, hb⟩
  · refine ⟨0, fun _ => 0, fun _ _ => 0, 1, _, by omega, ErN.err 1, fun oa cs w hT => ?_, fun oa cs w hT hc => ?_⟩
    · refine (rotate_any n cs oa N S Ky w hT (fun i _ => hN i) (by omega)).mono ?_
      rintro e w' ⟨hb, ⟨rfl, _⟩ | ⟨_, h1, _⟩ | ⟨h1, _⟩⟩
      · exact ⟨none, 0, rfl, TL.nil _ _ _ _, hb⟩
      · exact absurd h1 h
      · exact absurd h1 h
    · refine (rrotate_any n cs oa N S Ky w hT (fun i _ => hN i) (by omega) hc).mono ?_
      rintro e w' ⟨hb, ⟨rfl, _⟩ | ⟨_, h1, _⟩ | ⟨h1, _⟩⟩
      · exact ⟨none, 0, rfl, TL.nil _ _ _ _, hb⟩
      · exact absurd h1 h
      · exact absurd h1 h
theorem enc_lt {n : Nat} {S : Nat → Nat → Nat} (hn : n < 256) (hS : ∀ i j, S i j < 256) : ∀ i, encF n S i < 256 := fun i => by
  unfold encF
  by_cases e0 : i = 0
  · rw [if_pos e0]; decide
  · rw [if_neg e0]
    by_cases e1 : i = 1
    · rw [if_pos e1]; decide
    · rw [if_neg e1]
      by_cases e2 : i = 2
      · rw [if_pos e2]; exact hn
      · rw [if_neg e2]; exact hS _ _
theorem enc_pair (n : Nat) (N : Nat → Nat) (S : Nat → Nat → Nat) (hN : ∀ i, N i < 4294967296) (hS : ∀ i j, S i j < 256) (hn : n ≤ 40) :
    ∃ (Z : ByteArray) (q : Nat) (ev : Value), ErN ev q ∧
      (∀ oa cs w, TL w oa n N S → Calls Tryd.prog 9 #[.agg #[.slice oa n cs]] w fun e w' => ∃ o m c, e = .returned (.tuple #[.slice o m c, ev]) ∧ CV w' o m Z ∧ Below w.heap.size w w') ∧
      (∀ oa cs w, TL w oa n N S → Calls Tryd.prog 16 #[.slice oa n cs] w fun e w' => ∃ o m c, e = .returned (.tuple #[.slice o m c, .int .i64 (q : Int)]) ∧ CV w' o m Z ∧ Below w.heap.size w w') := by
  by_cases h : OkT n N
  · refine ⟨strF (3 + 32 * n) (encF n S), 0, _, ErN.nil, fun oa cs w hT => ?_, fun oa cs w hT => ?_⟩
    · refine (encode_any n cs oa N S w hT (fun i _ => hN i) (fun i j _ _ => hS i j) (by omega)).mono ?_
      rintro e w' ⟨hb, ⟨_, h1⟩ | ⟨_, v, rfl, hG⟩⟩
      · exact absurd h h1
      · obtain ⟨oa', cp, rfl, hB, h2, h3⟩ := hG.bytesC (fun i _ => enc_lt (by omega) hS i)
        exact ⟨oa', _, cp, rfl, ⟨_, hB, h3, rfl⟩, hb⟩
    · refine (rencode_any n cs oa N S w hT (fun i _ => hN i) hS (by omega)).mono ?_
      rintro e w' ⟨hb, ⟨h1, _⟩ | ⟨_, v, rfl, hG⟩⟩
      · exact absurd h h1
      · obtain ⟨oa', cp, rfl, hB, h2, h3⟩ := hG.bytesC (fun i _ => enc_lt (by omega) hS i)
        exact ⟨oa', _, cp, rfl, ⟨_, hB, h3, rfl⟩, hb⟩
  · refine ⟨⟨#[]⟩, 1, _, ErN.err 1, fun oa cs w hT => ?_, fun oa cs w hT => ?_⟩
    · refine (encode_any n cs oa N S w hT (fun i _ => hN i) (fun i j _ _ => hS i j) (by omega)).mono ?_
      rintro e w' ⟨hb, ⟨rfl, _⟩ | ⟨h1, _⟩⟩
      · exact ⟨none, 0, 0, rfl, CV.none _, hb⟩
      · exact absurd h1 h
    · refine (rencode_any n cs oa N S w hT (fun i _ => hN i) hS (by omega)).mono ?_
      rintro e w' ⟨hb, ⟨_, rfl⟩ | ⟨h1, _⟩⟩
      · exact ⟨none, 0, 0, rfl, CV.none _, hb⟩
      · exact absurd h1 h
theorem dec_pair (m : Nat) (B : Nat → Nat) (hs : m ≤ 2000) :
    ∃ (k : Nat) (M : Nat → Nat) (U : Nat → Nat → Nat) (q : Nat) (ev : Value), k < 1000000 ∧ ErN ev q ∧
      (∀ ob cb w, Bytes w ob m B → m ≤ cb → Calls Tryd.prog 10 #[.slice ob m cb] w fun e w' => ∃ o c, e = .returned (.tuple #[.agg #[.slice o k c], ev]) ∧ TL w' o k M U ∧ Below w.heap.size w w') ∧
      (∀ ob cb w, Bytes w ob m B → m ≤ cb → Calls Tryd.prog 17 #[.slice ob m cb] w fun e w' => ∃ o c, e = .returned (.tuple #[.slice o k c, .int .i64 (q : Int)]) ∧ TL w' o k M U ∧ Below w.heap.size w w') := by
  by_cases h : IsRing m B
  · refine ⟨B 2, fun i => i + 1, fun i j => B (3 + 32 * i + j), 0, _, by have := h.2.2.2.2.1; omega, ErN.nil, fun ob cb w hB hm => ?_, fun ob cb w hB hm => ?_⟩
    · refine (decode_any m cb ob B w hB hm (by omega)).mono ?_
      rintro e w' ⟨hb, ⟨_, h1⟩ | ⟨_, o, c, rfl, h1⟩⟩
      · exact absurd h h1
      · exact ⟨o, c, rfl, h1, hb⟩
    · refine (rdecode_any m cb ob B w hB hm (by omega)).mono ?_
      rintro e w' ⟨hb, ⟨_, h1⟩ | ⟨_, o, c, rfl, h1⟩⟩
      · exact absurd h h1
      · exact ⟨o, c, rfl, h1, hb⟩
  · refine ⟨0, fun _ => 0, fun _ _ => 0, 4, _, by omega, ErN.err 4, fun ob cb w hB hm => ?_, fun ob cb w hB hm => ?_⟩
    · refine (decode_any m cb ob B w hB hm (by omega)).mono ?_
      rintro e w' ⟨hb, ⟨rfl, _⟩ | ⟨h1, _⟩⟩
      · exact ⟨none, 0, rfl, TL.nil _ _ _ _, hb⟩
      · exact absurd h1 h
    · refine (rdecode_any m cb ob B w hB hm (by omega)).mono ?_
      rintro e w' ⟨hb, ⟨rfl, _⟩ | ⟨h1, _⟩⟩
      · exact ⟨none, 0, rfl, TL.nil _ _ _ _, hb⟩
      · exact absurd h1 h
theorem find_pair (n : Nat) (N : Nat → Nat) (S : Nat → Nat → Nat) (t : Nat) (hN : ∀ i, N i < 4294967296) (hn : n ≤ 40) :
    ∃ (KF : Nat → Nat) (q : Nat) (ev : Value), ErN ev q ∧
      (∀ oa cs w, TL w oa n N S → Calls Tryd.prog 11 #[.agg #[.slice oa n cs], .int .u32 (t : Int)] w fun e w' => e = .returned (.tuple #[.agg (rowC 32 KF).toArray, ev]) ∧ Below w.heap.size w w') ∧
      ((¬ OkT n N ∧ q = 1 ∧ KF = fun _ => 0) ∨ (OkT n N ∧ 1 ≤ t ∧ t ≤ n ∧ ev = .nilIface ∧ KF = S (t - 1)) ∨ (OkT n N ∧ ¬ (1 ≤ t ∧ t ≤ n) ∧ q = 5 ∧ KF = fun _ => 0)) := by
  by_cases h : OkT n N
  · by_cases ht : 1 ≤ t ∧ t ≤ n
    · refine ⟨S (t - 1), 0, _, ErN.nil, fun oa cs w hT => ?_, .inr (.inl ⟨h, ht.1, ht.2, rfl, rfl⟩)⟩
      refine (find_any n cs t oa N S w hT (fun i _ => hN i) (by omega)).mono ?_
      rintro e w' ⟨hb, ⟨h1, _⟩ | ⟨_, _, _, rfl⟩ | ⟨_, h1, _⟩⟩
      · exact absurd h h1
      · exact ⟨rfl, hb⟩
      · exact absurd ht h1
    · refine ⟨fun _ => 0, 5, _, ErN.err 5, fun oa cs w hT => ?_, .inr (.inr ⟨h, ht, rfl, rfl⟩)⟩
      refine (find_any n cs t oa N S w hT (fun i _ => hN i) (by omega)).mono ?_
      rintro e w' ⟨hb, ⟨h1, _⟩ | ⟨_, h1, h2, _⟩ | ⟨_, _, rfl⟩⟩
      · exact absurd h h1
      · exact absurd ⟨h1, h2⟩ ht
      · exact ⟨rfl, hb⟩
  · refine ⟨fun _ => 0, 1, _, ErN.err 1, fun oa cs w hT => ?_, .inl ⟨h, rfl, rfl⟩⟩
    refine (find_any n cs t oa N S w hT (fun i _ => hN i) (by omega)).mono ?_
    rintro e w' ⟨hb, ⟨_, rfl⟩ | ⟨h1, _⟩ | ⟨h1, _⟩⟩
    · exact ⟨rfl, hb⟩
    · exact absurd h1 h
    · exact absurd h1 h
theorem act_pair (n : Nat) (N : Nat → Nat) (S : Nat → Nat → Nat) (hN : ∀ i, N i < 4294967296) (hn : n ≤ 40) :
    ∃ (x : Nat) (KT : Nat → Nat) (q : Nat) (ev : Value), ErN ev q ∧
      (∀ oa cs w, TL w oa n N S → Calls Tryd.prog 18 #[.agg #[.slice oa n cs]] w fun e w' => e = .returned (.tuple #[.agg (tmL x KT).toArray, ev]) ∧ Below w.heap.size w w') ∧
      ((¬ OkT n N ∧ q = 1 ∧ x = 0 ∧ KT = fun _ => 0) ∨ (OkT n N ∧ ev = .nilIface ∧ x = n ∧ KT = S (n - 1))) := by
  by_cases h : OkT n N
  · refine ⟨n, S (n - 1), 0, _, ErN.nil, fun oa cs w hT => ?_, .inr ⟨h, rfl, rfl, rfl⟩⟩
    refine (active_any n cs oa N S w hT (fun i _ => hN i) (by omega)).mono ?_
    rintro e w' ⟨hb, ⟨h1, _⟩ | ⟨_, rfl⟩⟩
    · exact absurd h h1
    · exact ⟨rfl, hb⟩
  · refine ⟨0, fun _ => 0, 1, _, ErN.err 1, fun oa cs w hT => ?_, .inl ⟨h, rfl, rfl, rfl⟩⟩
    refine (active_any n cs oa N S w hT (fun i _ => hN i) (by omega)).mono ?_
    rintro e w' ⟨hb, ⟨_, rfl⟩ | ⟨h1, _⟩⟩
    · exact ⟨rfl, hb⟩
    · exact absurd h1 h
theorem use_pair (s : ByteArray) (x : Nat) (Ky : Nat → Nat) (hx : x < 4294967296) (hs : s.size ≤ 9223372036854775807) (hK : ∀ i, i < 32 → Ky i < 256) :
    ∃ (Z : ByteArray) (q : Nat) (ev : Value), ErN ev q ∧
      (∀ w, GV w → Calls Tryd.prog 19 #[.agg (tmL x Ky).toArray, .string s] w fun e w' => ∃ o m c, e = .returned (.tuple #[.slice o m c, ev]) ∧ CV w' o m Z ∧ Below w.heap.size w w') ∧
      (∀ w, Calls Tryd.prog 20 #[.agg (tmL x Ky).toArray, .string s] w fun e w' => ∃ o m c, e = .returned (.tuple #[.slice o m c, .int .i64 (q : Int)]) ∧ CV w' o m Z ∧ Below w.heap.size w w') := by
  by_cases h : useOk s
  · refine ⟨useT s x Ky, 0, _, ErN.nil, fun w hg => ?_, fun w => ?_⟩
    · refine (use_any s x Ky w hx hs hK hg).mono ?_
      rintro e w' ⟨o, m, c, v, rfl, ⟨_, rfl⟩ | ⟨h1, _⟩, hc, hb, _⟩
      · exact ⟨o, m, c, rfl, hc, hb⟩
      · exact absurd h h1
    · refine (ruse_any s x Ky w hx hs hK).mono ?_
      rintro e w' ⟨o, m, c, v, rfl, ⟨_, rfl⟩ | ⟨h1, _⟩, hc, hb, _⟩
      · exact ⟨o, m, c, rfl, hc, hb⟩
      · exact absurd h h1
  · refine ⟨useT s x Ky, 1, _, ErN.err 1, fun w hg => ?_, fun w => ?_⟩
    · refine (use_any s x Ky w hx hs hK hg).mono ?_
      rintro e w' ⟨o, m, c, v, rfl, ⟨h1, _⟩ | ⟨_, rfl⟩, hc, hb, _⟩
      · exact absurd h1 h
      · exact ⟨o, m, c, rfl, hc, hb⟩
    · refine (ruse_any s x Ky w hx hs hK).mono ?_
      rintro e w' ⟨o, m, c, v, rfl, ⟨h1, _⟩ | ⟨_, rfl⟩, hc, hb, _⟩
      · exact absurd h1 h
      · exact ⟨o, m, c, rfl, hc, hb⟩
/-- Check, held against nil. -/
theorem chk_pair (n cs : Nat) (oa : Option Addr) (N : Nat → Nat) (S : Nat → Nat → Nat) (w : World) (hT : TL w oa n N S) (hN : ∀ i, N i < 4294967296) (hn : n ≤ 40) :
    Calls Tryd.prog 22 #[.agg #[.slice oa n cs]] w fun e w' => ∃ v, e = .returned v ∧ (∀ A, (binOp .eql 29 v .nilIface).run Tryd.prog A = .ok (.bool (mayT n N)) A) ∧ Below w.heap.size w w' := by
  refine (check_any n cs oa N S w hT (fun i _ => hN i) (by omega)).mono ?_
  rintro e w' ⟨⟨rfl, h⟩ | ⟨rfl, h⟩, hb⟩
  · exact ⟨_, rfl, fun A => by rw [mayT_ok h]; kernel_rfl, hb⟩
  · exact ⟨_, rfl, fun A => by rw [mayT_no h]; kernel_rfl, hb⟩
end Go.Proofs.YtloajfbehejehaaDoor
namespace Go.Proofs.YtloajfbehejehaaDoor
set_option linter.unusedVariables false
set_option linter.unusedSimpArgs false
open Go.RowKit
theorem exec_eqlT {o : Oper} {a : Act} {w : World} {x y : Operand} {r : TypeId} {C D : Array Value} {b : Bool} (ho : o.op = .binOp .eql 55 x y r) (hx : a.eval x = .agg C) (hy : a.eval y = .agg D) (h : ∀ w, (Op.equalIn 10000 55 (.agg C) (.agg D)).run Tryd.prog w = .ok b w) : (execOp a.eval o).run Tryd.prog w = .ok (.value (.bool b)) w := by
  unfold execOp
  simp only [ho, hx, hy, Sem.run_bind, run_eqGuard_agg w _ _ x y C D guardT, Result.andThen_ok, run_eql_struct, h]
  rfl
/-- A key, a term and a use. -/
def askC (Ky : Nat → Nat) (t : Nat) (s : ByteArray) : Array Value := (rowC 32 Ky ++ [Value.int .u32 (t : Int), Value.string s]).toArray
theorem ask_facts {A : World} {b t : Nat} {Ky : Nat → Nat} {s : ByteArray} {T : TypeId} (h : Blk A b (askC Ky t s) T) : A.rangeAt b 0 (rowC 32 Ky) ∧ A.cell? ⟨b, 32, none⟩ = some (.int .u32 (t : Int)) ∧ A.cell? ⟨b, 33, none⟩ = some (.string s) := by
  refine ⟨fun j v hv => ?_, ?_, ?_⟩
  · have hj : j < 32 := by have := (List.getElem?_eq_some_iff.1 hv).1; rwa [rowC_len] at this
    rw [Nat.zero_add, Blk.cell h]
    unfold askC
    rw [List.getElem?_toArray, List.getElem?_append_left (by rw [rowC_len]; exact hj)]; exact hv
  · rw [Blk.cell h]
    unfold askC
    rw [List.getElem?_toArray, List.getElem?_append_right (by rw [rowC_len]; omega), rowC_len]; rfl
  · rw [Blk.cell h]
    unfold askC
    rw [List.getElem?_toArray, List.getElem?_append_right (by rw [rowC_len]; omega), rowC_len]; rfl
theorem tm_rng {A : World} {b f n : Nat} {S : Nat → Nat} (h : A.rangeAt b f (tmL n S)) : A.rangeAt b (f + 1) (rowC 32 S).toArray.toList := fun j v hv => by
  rw [Nat.add_assoc, Nat.add_comm 1 j]
  exact h (j + 1) v (by unfold tmL; rw [List.getElem?_cons_succ]; simpa using hv)
set_option maxRecDepth 100000 in
set_option maxHeartbeats 16000000 in
theorem steps_any (n cl m cb t : Nat) (oa ob : Option Addr) (N : Nat → Nat) (S : Nat → Nat → Nat) (B Ky : Nat → Nat) (s : ByteArray) (w : World) (hg : GH w) (hT : TL w oa n N S) (hN : ∀ i, N i < 4294967296) (hS : ∀ i j, S i j < 256) (hB : Bytes w ob m B) (hnc : n ≤ cl) (hmc : m ≤ cb)
    (hnx : n < 9223372036854775808) (hmx : m < 9223372036854775808) (hK : ∀ i, i < 32 → Ky i < 256) (ht : t < 4294967296) (hs : s.size ≤ 9223372036854775807) :
    Calls Tryd.prog 5 #[.slice oa n cl, .slice ob m cb, .agg (askC Ky t s)] w fun e w' => e = .returned (.bool true) ∧ Below w.heap.size w w' := by
  obtain ⟨CA, hCA⟩ : ∃ q, askC Ky t s = q := ⟨_, rfl⟩
  obtain ⟨F, hF⟩ : ∃ q, (rowC 32 Ky).toArray = q := ⟨_, rfl⟩
  rw [hCA]
  obtain ⟨b5, hb5⟩ : ∃ q, w.heap.size = q := ⟨_, rfl⟩
  obtain ⟨w0, hw0⟩ : ∃ q, w.alloc (.cells CA 46) = q := ⟨_, rfl⟩
  have hb0 : Below w.heap.size w w0 := by rw [← hw0]; exact (Below.refl _ _).alloc (Nat.le_refl _) _
  have hB5 : Blk w0 b5 CA 46 := by rw [← hw0, ← hb5]; exact Blk.new _ _ _
  have HASK : Hid (∀ A, Blk A b5 CA 46 → A.rangeAt b5 0 F.toList ∧ A.cell? ⟨b5, 32, none⟩ = some (.int .u32 (t : Int)) ∧ A.cell? ⟨b5, 33, none⟩ = some (.string s)) := Lib.hid fun A hA => by
    rw [← hCA] at hA; rw [← hF]; exact ask_facts hA
  have HIF : Hid ((Tryd.prog.info? 22).map (·.size) = some F.size) := Lib.hid (by rw [← hF, List.size_toArray, rowC_len]; exact info_a32)
  have HG := Lib.hid hg
  have HW := Lib.hid hb0
  have HB5 := Lib.hid hB5
  have HT := Lib.hid (hT.later hb0)
  have HBY := Lib.hid (hB.later hb0)
  have HNC := Lib.hid hnc
  have HMC := Lib.hid hmc
  have HNB := Lib.hid hN
  have HX := Lib.hid (And.intro hS (And.intro hK (And.intro ht hs)))
  have HF := Lib.hid hF
  have e33 : w0.cell? ⟨b5, 33, none⟩ = some (.string s) := (HASK.out w0 HB5.out).2.2
  clear hCA hF hg hb0 hB5 hT hB hnc hmc hN hS hK ht
  by_cases g1 : 40 < n
  · skip
    have a1 : (40 : Int) < (n : Int) := by omega
    have a2 : decide ((40 : Int) < (n : Int)) = true := decide_eq_true a1
    have a7 : 40 < n := by omega
    have a8 : decide (40 < n) = true := decide_eq_true a7
    go_enter Tryd.func5, Tryd.ntmps5
    go_wp2_with fail
    refine (sure_any w0 (HG.out.later HW.out).1).mono ?_
    rintro e w5 ⟨rfl, hb⟩
    go_wp2_with fail
    go_ret
    exact ⟨rfl, HW.out.trans (hb.mono HW.out.size)⟩
  have a1 : ¬ (40 : Int) < (n : Int) := by omega
  have a2 : decide ((40 : Int) < (n : Int)) = false := decide_eq_false a1
  have a7 : ¬ 40 < n := by omega
  have a8 : decide (40 < n) = false := decide_eq_false a7
  by_cases g2 : 2000 < m
  · skip
    have b1 : (2000 : Int) < (m : Int) := by omega
    have b2 : decide ((2000 : Int) < (m : Int)) = true := decide_eq_true b1
    have b7 : 2000 < m := by omega
    have b8 : decide (2000 < m) = true := decide_eq_true b7
    go_enter Tryd.func5, Tryd.ntmps5
    go_wp2_with fail
    refine (sure_any w0 (HG.out.later HW.out).1).mono ?_
    rintro e w5 ⟨rfl, hb⟩
    go_wp2_with fail
    go_ret
    exact ⟨rfl, HW.out.trans (hb.mono HW.out.size)⟩
  have b1 : ¬ (2000 : Int) < (m : Int) := by omega
  have b2 : decide ((2000 : Int) < (m : Int)) = false := decide_eq_false b1
  have b7 : ¬ 2000 < m := by omega
  have b8 : decide (2000 < m) = false := decide_eq_false b7
  by_cases g3 : 100 < s.size
  · skip
    have c1 : (100 : Int) < (s.size : Int) := by omega
    have c2 : decide ((100 : Int) < (s.size : Int)) = true := decide_eq_true c1
    have c7 : 100 < s.size := by omega
    have c8 : decide (100 < s.size) = true := decide_eq_true c7
    go_enter Tryd.func5, Tryd.ntmps5
    go_wp2_with fail
    refine (sure_any w0 (HG.out.later HW.out).1).mono ?_
    rintro e w5 ⟨rfl, hb⟩
    go_wp2_with fail
    go_ret
    exact ⟨rfl, HW.out.trans (hb.mono HW.out.size)⟩
  have c1 : ¬ (100 : Int) < (s.size : Int) := by omega
  have c2 : decide ((100 : Int) < (s.size : Int)) = false := decide_eq_false c1
  have c7 : ¬ 100 < s.size := by omega
  have c8 : decide (100 < s.size) = false := decide_eq_false c7
  have HN40 := Lib.hid (show n ≤ 40 by omega)
  obtain ⟨k9, M9, U9, q10, v10, hk9, hE10, hRO, hRR⟩ := rot_pair n N S Ky HNB.out HN40.out
  obtain ⟨Z13, q14, v14, hE14, hEN, hRE⟩ := enc_pair n N S HNB.out HX.out.1 HN40.out
  obtain ⟨k17, M17, U17, q18, v18, hk17, hE18, hDE, hRD⟩ := dec_pair m B (by omega)
  obtain ⟨KF, qf, v22, hE22, hFD, hFX⟩ := find_pair n N S t HNB.out HN40.out
  obtain ⟨xa, KA, qa, v24, hE24, hAC, hAX⟩ := act_pair n N S HNB.out HN40.out
  obtain ⟨Z25, q26, v26, hE26, hUS, hRU⟩ := use_pair s t Ky HX.out.2.2.1 HX.out.2.2.2 HX.out.2.1
  obtain ⟨CF, hCF⟩ : ∃ q, (rowC 32 KF).toArray = q := ⟨_, rfl⟩
  obtain ⟨CT, hCT⟩ : ∃ q, (tmL xa KA).toArray = q := ⟨_, rfl⟩
  obtain ⟨CU, hCU⟩ : ∃ q, (tmL t Ky).toArray = q := ⟨_, rfl⟩
  rw [HF.out] at hRO hRR
  rw [hCF] at hFD
  rw [hCT] at hAC
  rw [hCU] at hUS hRU
  have HK9 := Lib.hid hk9
  have HK17 := Lib.hid hk17
  have HE10 := Lib.hid hE10
  have HE14 := Lib.hid hE14
  have HE18 := Lib.hid hE18
  have HE22 := Lib.hid hE22
  have HE24 := Lib.hid hE24
  have HE26 := Lib.hid hE26
  have HRO := Lib.hid hRO
  have HRR := Lib.hid hRR
  have HEN := Lib.hid hEN
  have HRE := Lib.hid hRE
  have HDE := Lib.hid hDE
  have HRD := Lib.hid hRD
  have HFD := Lib.hid hFD
  have HFX := Lib.hid hFX
  have HAC := Lib.hid hAC
  have HAX := Lib.hid hAX
  have HUS := Lib.hid hUS
  have HRU := Lib.hid hRU
  have HCF := Lib.hid hCF
  have HCT := Lib.hid hCT
  have HIF1 : Hid ((Tryd.prog.info? 22).map (·.size) = some CF.size) := Lib.hid (by rw [← hCF, List.size_toArray, rowC_len]; exact info_a32)
  have HZF : Hid (CF.size = 32) := Lib.hid (by rw [← hCF, List.size_toArray, rowC_len])
  have HOF : Hid (CF.all (·.oneCell') = true) := Lib.hid (by rw [← hCF]; exact all_oneCell_toArray (rowC_one _ _))
  have HEF : Hid (∀ w, (Op.equalIn 10000 22 (.agg CF) (.agg CF)).run Tryd.prog w = .ok true w) := Lib.hid (by rw [← hCF]; intro w; have := eq32 KF KF w; rw [eqS_refl] at this; exact this)
  have HIT1 : Hid ((Tryd.prog.info? 55).map (·.size) = some CT.size) := Lib.hid (by rw [← hCT, tm_size]; exact info_t1)
  have HIT2 : Hid ((Tryd.prog.info? 60).map (·.size) = some CT.size) := Lib.hid (by rw [← hCT, tm_size]; exact info_t2)
  have HZT : Hid (CT.size = 33) := Lib.hid (by rw [← hCT]; exact tm_size _ _)
  have HOT : Hid (CT.all (·.oneCell') = true) := Lib.hid (by rw [← hCT]; exact tm_one _ _)
  have HET : Hid (∀ w, (Op.equalIn 10000 55 (.agg CT) (.agg CT)).run Tryd.prog w = .ok true w) := Lib.hid (by rw [← hCT]; exact eqT _ _)
  have HBT : Hid (∀ w, (Instr.build 55 #[(0, .int .u32 (t : Int)), (1, .agg F)]).run Tryd.prog w = .ok (.agg CU) w) := Lib.hid (by rw [← HF.out, ← hCU]; exact build_t1 t Ky)
  have HBU : Hid (∀ w, (Instr.build 60 #[(0, .int .u32 (t : Int)), (1, .agg F)]).run Tryd.prog w = .ok (.agg CU) w) := Lib.hid (by rw [← HF.out, ← hCU]; exact build_t2 t Ky)
  clear hk9 hk17 hE10 hE14 hE18 hE22 hE24 hE26 hRO hRR hEN hRE hDE hRD hFD hFX hAC hAX hUS hRU hCF hCT hCU g1 g2 g3
  go_enter Tryd.func5, Tryd.ntmps5
  go_wp2_with fail
  clear e33 a1 a2 a7 a8 b1 b2 b7 b8 c1 c2 c7 c8
  refine (give_any n cl oa N S w0 HT.out HN40.out).mono ?_
  rintro e w1 ⟨o7, p7, rfl, hT7, -, -, hb⟩
  replace HW := Lib.hid (HW.out.trans (hb.mono HW.out.size))
  replace HB5 := Lib.hid (Blk.below HB5.out hb (Blk.lt HB5.out))
  replace HT := Lib.hid (HT.out.later hb)
  replace HBY := Lib.hid (HBY.out.later hb)
  have HT7 := Lib.hid hT7
  clear hb hT7
  obtain ⟨b7, hqb7⟩ : ∃ y, w1.heap.size = y := ⟨_, rfl⟩
  obtain ⟨w2, hww2⟩ : ∃ y, w1.alloc (.cells #[.slice o7 n p7] 26) = y := ⟨_, rfl⟩
  have hb : Below w1.heap.size w1 w2 := by rw [← hww2]; exact (Below.refl _ _).alloc (Nat.le_refl _) _
  have h9 : Blk w2 b7 #[.slice o7 n p7] 26 := by rw [← hww2, ← hqb7]; exact Blk.new _ _ _
  replace HW := Lib.hid (HW.out.trans (hb.mono HW.out.size))
  replace HB5 := Lib.hid (Blk.below HB5.out hb (Blk.lt HB5.out))
  replace HT := Lib.hid (HT.out.later hb)
  replace HBY := Lib.hid (HBY.out.later hb)
  replace HT7 := Lib.hid (HT7.out.later hb)
  have HB7 := Lib.hid h9
  clear hb h9
  go_wp2_with fail
  refine (may_any n cl oa N S w2 HT.out (fun i _ => HNB.out i) (by have := HN40.out; omega)).mono ?_
  rintro e w3 ⟨rfl, hb⟩
  replace HW := Lib.hid (HW.out.trans (hb.mono HW.out.size))
  replace HB5 := Lib.hid (Blk.below HB5.out hb (Blk.lt HB5.out))
  replace HT := Lib.hid (HT.out.later hb)
  replace HBY := Lib.hid (HBY.out.later hb)
  replace HT7 := Lib.hid (HT7.out.later hb)
  replace HB7 := Lib.hid (Blk.below HB7.out hb (Blk.lt HB7.out))
  clear hb 
  have e7 : w3.cell? ⟨b7, 0, none⟩ = some (.slice o7 n p7) := by rw [Blk.cell HB7.out]; rfl
  have HRK := Lib.hid (HASK.out w3 HB5.out).1
  go_wp2_with (first | (refine wpList_value rfl (exec_loadA (x := .tmp 50) (C := F) rfl rfl HRK.out Tryd.underlying22 rfl HIF.out) ?_))
  clear e7 HRK
  refine (HRO.out _ _ w3 HT7.out).mono ?_
  rintro e w4 ⟨o9, p9, rfl, hT9, hb⟩
  replace HW := Lib.hid (HW.out.trans (hb.mono HW.out.size))
  replace HB5 := Lib.hid (Blk.below HB5.out hb (Blk.lt HB5.out))
  replace HT := Lib.hid (HT.out.later hb)
  replace HBY := Lib.hid (HBY.out.later hb)
  replace HT7 := Lib.hid (HT7.out.later hb)
  replace HB7 := Lib.hid (Blk.below HB7.out hb (Blk.lt HB7.out))
  have HT9 := Lib.hid hT9
  clear hb hT9
  obtain ⟨b9, hqb9⟩ : ∃ y, w4.heap.size = y := ⟨_, rfl⟩
  obtain ⟨w5, hww5⟩ : ∃ y, w4.alloc (.cells #[.slice o9 k9 p9] 26) = y := ⟨_, rfl⟩
  have hb : Below w4.heap.size w4 w5 := by rw [← hww5]; exact (Below.refl _ _).alloc (Nat.le_refl _) _
  have h9 : Blk w5 b9 #[.slice o9 k9 p9] 26 := by rw [← hww5, ← hqb9]; exact Blk.new _ _ _
  replace HW := Lib.hid (HW.out.trans (hb.mono HW.out.size))
  replace HB5 := Lib.hid (Blk.below HB5.out hb (Blk.lt HB5.out))
  replace HT := Lib.hid (HT.out.later hb)
  replace HBY := Lib.hid (HBY.out.later hb)
  replace HT7 := Lib.hid (HT7.out.later hb)
  replace HB7 := Lib.hid (Blk.below HB7.out hb (Blk.lt HB7.out))
  replace HT9 := Lib.hid (HT9.out.later hb)
  have HB9 := Lib.hid h9
  clear hb h9
  have HRK := Lib.hid (HASK.out w5 HB5.out).1
  go_wp2_with (first | (refine wpList_value rfl (exec_loadA (x := .tmp 57) (C := F) rfl rfl HRK.out Tryd.underlying22 rfl HIF.out) ?_))
  clear HRK
  refine (HRR.out _ _ w5 HT.out HNC.out).mono ?_
  rintro e w6 ⟨o11, p11, rfl, hT11, hb⟩
  replace HW := Lib.hid (HW.out.trans (hb.mono HW.out.size))
  replace HB5 := Lib.hid (Blk.below HB5.out hb (Blk.lt HB5.out))
  replace HT := Lib.hid (HT.out.later hb)
  replace HBY := Lib.hid (HBY.out.later hb)
  replace HT7 := Lib.hid (HT7.out.later hb)
  replace HB7 := Lib.hid (Blk.below HB7.out hb (Blk.lt HB7.out))
  replace HT9 := Lib.hid (HT9.out.later hb)
  replace HB9 := Lib.hid (Blk.below HB9.out hb (Blk.lt HB9.out))
  have HT11 := Lib.hid hT11
  clear hb hT11
  have e7 : w6.cell? ⟨b7, 0, none⟩ = some (.slice o7 n p7) := by rw [Blk.cell HB7.out]; rfl
  go_wp2_with fail
  clear e7
  refine (HEN.out _ _ w6 HT7.out).mono ?_
  rintro e w7 ⟨o13, m13, p13, rfl, hC13, hb⟩
  replace HW := Lib.hid (HW.out.trans (hb.mono HW.out.size))
  replace HB5 := Lib.hid (Blk.below HB5.out hb (Blk.lt HB5.out))
  replace HT := Lib.hid (HT.out.later hb)
  replace HBY := Lib.hid (HBY.out.later hb)
  replace HT7 := Lib.hid (HT7.out.later hb)
  replace HB7 := Lib.hid (Blk.below HB7.out hb (Blk.lt HB7.out))
  replace HT9 := Lib.hid (HT9.out.later hb)
  replace HB9 := Lib.hid (Blk.below HB9.out hb (Blk.lt HB9.out))
  replace HT11 := Lib.hid (HT11.out.later hb)
  have HC13 := Lib.hid hC13
  clear hb hC13
  go_wp2_with fail
  refine (HRE.out _ _ w7 HT.out).mono ?_
  rintro e w8 ⟨o15, m15, p15, rfl, hC15, hb⟩
  replace HW := Lib.hid (HW.out.trans (hb.mono HW.out.size))
  replace HB5 := Lib.hid (Blk.below HB5.out hb (Blk.lt HB5.out))
  replace HT := Lib.hid (HT.out.later hb)
  replace HBY := Lib.hid (HBY.out.later hb)
  replace HT7 := Lib.hid (HT7.out.later hb)
  replace HB7 := Lib.hid (Blk.below HB7.out hb (Blk.lt HB7.out))
  replace HT9 := Lib.hid (HT9.out.later hb)
  replace HB9 := Lib.hid (Blk.below HB9.out hb (Blk.lt HB9.out))
  replace HT11 := Lib.hid (HT11.out.later hb)
  replace HC13 := Lib.hid (HC13.out.later hb)
  have HC15 := Lib.hid hC15
  clear hb hC15
  go_wp2_with fail
  refine (HDE.out _ _ w8 HBY.out HMC.out).mono ?_
  rintro e w9 ⟨o17, p17, rfl, hT17, hb⟩
  replace HW := Lib.hid (HW.out.trans (hb.mono HW.out.size))
  replace HB5 := Lib.hid (Blk.below HB5.out hb (Blk.lt HB5.out))
  replace HT := Lib.hid (HT.out.later hb)
  replace HBY := Lib.hid (HBY.out.later hb)
  replace HT7 := Lib.hid (HT7.out.later hb)
  replace HB7 := Lib.hid (Blk.below HB7.out hb (Blk.lt HB7.out))
  replace HT9 := Lib.hid (HT9.out.later hb)
  replace HB9 := Lib.hid (Blk.below HB9.out hb (Blk.lt HB9.out))
  replace HT11 := Lib.hid (HT11.out.later hb)
  replace HC13 := Lib.hid (HC13.out.later hb)
  replace HC15 := Lib.hid (HC15.out.later hb)
  have HT17 := Lib.hid hT17
  clear hb hT17
  obtain ⟨b17, hqb17⟩ : ∃ y, w9.heap.size = y := ⟨_, rfl⟩
  obtain ⟨w10, hww10⟩ : ∃ y, w9.alloc (.cells #[.slice o17 k17 p17] 26) = y := ⟨_, rfl⟩
  have hb : Below w9.heap.size w9 w10 := by rw [← hww10]; exact (Below.refl _ _).alloc (Nat.le_refl _) _
  have h9 : Blk w10 b17 #[.slice o17 k17 p17] 26 := by rw [← hww10, ← hqb17]; exact Blk.new _ _ _
  replace HW := Lib.hid (HW.out.trans (hb.mono HW.out.size))
  replace HB5 := Lib.hid (Blk.below HB5.out hb (Blk.lt HB5.out))
  replace HT := Lib.hid (HT.out.later hb)
  replace HBY := Lib.hid (HBY.out.later hb)
  replace HT7 := Lib.hid (HT7.out.later hb)
  replace HB7 := Lib.hid (Blk.below HB7.out hb (Blk.lt HB7.out))
  replace HT9 := Lib.hid (HT9.out.later hb)
  replace HB9 := Lib.hid (Blk.below HB9.out hb (Blk.lt HB9.out))
  replace HT11 := Lib.hid (HT11.out.later hb)
  replace HC13 := Lib.hid (HC13.out.later hb)
  replace HC15 := Lib.hid (HC15.out.later hb)
  replace HT17 := Lib.hid (HT17.out.later hb)
  have HB17 := Lib.hid h9
  clear hb h9
  go_wp2_with fail
  refine (HRD.out _ _ w10 HBY.out HMC.out).mono ?_
  rintro e w11 ⟨o19, p19, rfl, hT19, hb⟩
  replace HW := Lib.hid (HW.out.trans (hb.mono HW.out.size))
  replace HB5 := Lib.hid (Blk.below HB5.out hb (Blk.lt HB5.out))
  replace HT := Lib.hid (HT.out.later hb)
  replace HBY := Lib.hid (HBY.out.later hb)
  replace HT7 := Lib.hid (HT7.out.later hb)
  replace HB7 := Lib.hid (Blk.below HB7.out hb (Blk.lt HB7.out))
  replace HT9 := Lib.hid (HT9.out.later hb)
  replace HB9 := Lib.hid (Blk.below HB9.out hb (Blk.lt HB9.out))
  replace HT11 := Lib.hid (HT11.out.later hb)
  replace HC13 := Lib.hid (HC13.out.later hb)
  replace HC15 := Lib.hid (HC15.out.later hb)
  replace HT17 := Lib.hid (HT17.out.later hb)
  replace HB17 := Lib.hid (Blk.below HB17.out hb (Blk.lt HB17.out))
  have HT19 := Lib.hid hT19
  clear hb hT19
  have e7 : w11.cell? ⟨b7, 0, none⟩ = some (.slice o7 n p7) := by rw [Blk.cell HB7.out]; rfl
  have e32 : w11.cell? ⟨b5, 32, none⟩ = some (.int .u32 (t : Int)) := (HASK.out w11 HB5.out).2.1
  go_wp2_with fail
  clear e7 e32
  refine (HFD.out _ _ w11 HT7.out).mono ?_
  rintro e w12 ⟨rfl, hb⟩
  replace HW := Lib.hid (HW.out.trans (hb.mono HW.out.size))
  replace HB5 := Lib.hid (Blk.below HB5.out hb (Blk.lt HB5.out))
  replace HT := Lib.hid (HT.out.later hb)
  replace HBY := Lib.hid (HBY.out.later hb)
  replace HT7 := Lib.hid (HT7.out.later hb)
  replace HB7 := Lib.hid (Blk.below HB7.out hb (Blk.lt HB7.out))
  replace HT9 := Lib.hid (HT9.out.later hb)
  replace HB9 := Lib.hid (Blk.below HB9.out hb (Blk.lt HB9.out))
  replace HT11 := Lib.hid (HT11.out.later hb)
  replace HC13 := Lib.hid (HC13.out.later hb)
  replace HC15 := Lib.hid (HC15.out.later hb)
  replace HT17 := Lib.hid (HT17.out.later hb)
  replace HB17 := Lib.hid (Blk.below HB17.out hb (Blk.lt HB17.out))
  replace HT19 := Lib.hid (HT19.out.later hb)
  clear hb 
  obtain ⟨b21, hqb21⟩ : ∃ y, w12.heap.size = y := ⟨_, rfl⟩
  obtain ⟨wz, hwz⟩ : ∃ y, w12.alloc (.cells zeroA 22) = y := ⟨_, rfl⟩
  have hbz : Below w12.heap.size w12 wz := by rw [← hwz]; exact (Below.refl _ _).alloc (Nat.le_refl _) _
  have hXz : Blk wz b21 zeroA 22 := by rw [← hwz, ← hqb21]; exact Blk.new _ _ _
  have HTZb21 : Hid (wz.there b21 0 CF.size) := Lib.hid (hXz.there (by rw [zeroA_size, HZF.out]; exact Nat.le_refl _))
  obtain ⟨w13, hw5⟩ : ∃ y, wz.setCells b21 0 CF.toList = y := ⟨_, rfl⟩
  have hOz : Own b21 wz w13 := by rw [← hw5]; exact Own.setCells _ _ _
  have HBw13 : Hid (Below w12.heap.size w12 w13) := Lib.hid (hbz.trans (hOz.below (by omega) hbz.size))
  have HNw13 : Hid (Blk w13 b21 CF 22) := Lib.hid (by rw [← hw5]; exact Blk.setCells hXz CF.toList (by rw [zeroA_size, Array.length_toList]; exact HZF.out))
  have HWw13 := Lib.hid hw5
  clear hbz hXz hOz hw5
  have hb := HBw13.out
  replace HW := Lib.hid (HW.out.trans (hb.mono HW.out.size))
  replace HB5 := Lib.hid (Blk.below HB5.out hb (Blk.lt HB5.out))
  replace HT := Lib.hid (HT.out.later hb)
  replace HBY := Lib.hid (HBY.out.later hb)
  replace HT7 := Lib.hid (HT7.out.later hb)
  replace HB7 := Lib.hid (Blk.below HB7.out hb (Blk.lt HB7.out))
  replace HT9 := Lib.hid (HT9.out.later hb)
  replace HB9 := Lib.hid (Blk.below HB9.out hb (Blk.lt HB9.out))
  replace HT11 := Lib.hid (HT11.out.later hb)
  replace HC13 := Lib.hid (HC13.out.later hb)
  replace HC15 := Lib.hid (HC15.out.later hb)
  replace HT17 := Lib.hid (HT17.out.later hb)
  replace HB17 := Lib.hid (Blk.below HB17.out hb (Blk.lt HB17.out))
  replace HT19 := Lib.hid (HT19.out.later hb)
  have HB21 := HNw13
  clear hb HBw13 HNw13
  have e7 : w13.cell? ⟨b7, 0, none⟩ = some (.slice o7 n p7) := by rw [Blk.cell HB7.out]; rfl
  go_wp2_with (first | (refine wpList_zero rfl rfl zero_a32 ?_; rw [hwz, hqb21]; (try simp only [Act.put, List.setIfInBounds_toArray, List.set_cons_zero, List.set_cons_succ])) | (refine wpList_store_mid rfl 22 (.tmp 21) (.tmp 87) rfl b21 0 CF rfl rfl HTZb21.out HIF1.out HOF.out ?_; rw [HWw13.out]))
  clear e7
  refine (HAC.out _ _ w13 HT7.out).mono ?_
  rintro e w14 ⟨rfl, hb⟩
  replace HW := Lib.hid (HW.out.trans (hb.mono HW.out.size))
  replace HB5 := Lib.hid (Blk.below HB5.out hb (Blk.lt HB5.out))
  replace HT := Lib.hid (HT.out.later hb)
  replace HBY := Lib.hid (HBY.out.later hb)
  replace HT7 := Lib.hid (HT7.out.later hb)
  replace HB7 := Lib.hid (Blk.below HB7.out hb (Blk.lt HB7.out))
  replace HT9 := Lib.hid (HT9.out.later hb)
  replace HB9 := Lib.hid (Blk.below HB9.out hb (Blk.lt HB9.out))
  replace HT11 := Lib.hid (HT11.out.later hb)
  replace HC13 := Lib.hid (HC13.out.later hb)
  replace HC15 := Lib.hid (HC15.out.later hb)
  replace HT17 := Lib.hid (HT17.out.later hb)
  replace HB17 := Lib.hid (Blk.below HB17.out hb (Blk.lt HB17.out))
  replace HT19 := Lib.hid (HT19.out.later hb)
  replace HB21 := Lib.hid (Blk.below HB21.out hb (Blk.lt HB21.out))
  clear hb 
  obtain ⟨b23, hqb23⟩ : ∃ y, w14.heap.size = y := ⟨_, rfl⟩
  obtain ⟨wy, hwy⟩ : ∃ y, w14.alloc (.cells zeroT 55) = y := ⟨_, rfl⟩
  have hbz : Below w14.heap.size w14 wy := by rw [← hwy]; exact (Below.refl _ _).alloc (Nat.le_refl _) _
  have hXz : Blk wy b23 zeroT 55 := by rw [← hwy, ← hqb23]; exact Blk.new _ _ _
  have HTZb23 : Hid (wy.there b23 0 CT.size) := Lib.hid (hXz.there (by rw [zeroT_size, HZT.out]; exact Nat.le_refl _))
  obtain ⟨w15, hw5⟩ : ∃ y, wy.setCells b23 0 CT.toList = y := ⟨_, rfl⟩
  have hOz : Own b23 wy w15 := by rw [← hw5]; exact Own.setCells _ _ _
  have HBw15 : Hid (Below w14.heap.size w14 w15) := Lib.hid (hbz.trans (hOz.below (by omega) hbz.size))
  have HNw15 : Hid (Blk w15 b23 CT 55) := Lib.hid (by rw [← hw5]; exact Blk.setCells hXz CT.toList (by rw [zeroT_size, Array.length_toList]; exact HZT.out))
  have HWw15 := Lib.hid hw5
  clear hbz hXz hOz hw5
  have hb := HBw15.out
  replace HW := Lib.hid (HW.out.trans (hb.mono HW.out.size))
  replace HB5 := Lib.hid (Blk.below HB5.out hb (Blk.lt HB5.out))
  replace HT := Lib.hid (HT.out.later hb)
  replace HBY := Lib.hid (HBY.out.later hb)
  replace HT7 := Lib.hid (HT7.out.later hb)
  replace HB7 := Lib.hid (Blk.below HB7.out hb (Blk.lt HB7.out))
  replace HT9 := Lib.hid (HT9.out.later hb)
  replace HB9 := Lib.hid (Blk.below HB9.out hb (Blk.lt HB9.out))
  replace HT11 := Lib.hid (HT11.out.later hb)
  replace HC13 := Lib.hid (HC13.out.later hb)
  replace HC15 := Lib.hid (HC15.out.later hb)
  replace HT17 := Lib.hid (HT17.out.later hb)
  replace HB17 := Lib.hid (Blk.below HB17.out hb (Blk.lt HB17.out))
  replace HT19 := Lib.hid (HT19.out.later hb)
  replace HB21 := Lib.hid (Blk.below HB21.out hb (Blk.lt HB21.out))
  have HB23 := HNw15
  clear hb HBw15 HNw15
  have e32 : w15.cell? ⟨b5, 32, none⟩ = some (.int .u32 (t : Int)) := (HASK.out w15 HB5.out).2.1
  have e33 : w15.cell? ⟨b5, 33, none⟩ = some (.string s) := (HASK.out w15 HB5.out).2.2
  have HRK := Lib.hid (HASK.out w15 HB5.out).1
  go_wp2_with (first | (refine wpList_zero rfl rfl zero_t1 ?_; rw [hwy, hqb23]; (try simp only [Act.put, List.setIfInBounds_toArray, List.set_cons_zero, List.set_cons_succ])) | (refine wpList_store_mid rfl 55 (.tmp 23) (.tmp 92) rfl b23 0 CT rfl rfl HTZb23.out HIT1.out HOT.out ?_; rw [HWw15.out]) | (refine wpList_value rfl (exec_loadA (x := .tmp 97) (C := F) rfl rfl HRK.out Tryd.underlying22 rfl HIF.out) ?_) | (refine wpList_value rfl (exec_buildM (parts := #[(0, .tmp 96), (1, .tmp 98)]) (ps := #[(0, .int .u32 (t : Int)), (1, .agg F)]) rfl (by first | rfl | (simp [Act.eval]; done) | (go_simp; done)) HBT.out) ?_))
  clear e32 e33 HRK
  refine (HUS.out w15 (HG.out.later HW.out).1).mono ?_
  rintro e w16 ⟨o25, m25, p25, rfl, hC25, hb⟩
  replace HW := Lib.hid (HW.out.trans (hb.mono HW.out.size))
  replace HB5 := Lib.hid (Blk.below HB5.out hb (Blk.lt HB5.out))
  replace HT := Lib.hid (HT.out.later hb)
  replace HBY := Lib.hid (HBY.out.later hb)
  replace HT7 := Lib.hid (HT7.out.later hb)
  replace HB7 := Lib.hid (Blk.below HB7.out hb (Blk.lt HB7.out))
  replace HT9 := Lib.hid (HT9.out.later hb)
  replace HB9 := Lib.hid (Blk.below HB9.out hb (Blk.lt HB9.out))
  replace HT11 := Lib.hid (HT11.out.later hb)
  replace HC13 := Lib.hid (HC13.out.later hb)
  replace HC15 := Lib.hid (HC15.out.later hb)
  replace HT17 := Lib.hid (HT17.out.later hb)
  replace HB17 := Lib.hid (Blk.below HB17.out hb (Blk.lt HB17.out))
  replace HT19 := Lib.hid (HT19.out.later hb)
  replace HB21 := Lib.hid (Blk.below HB21.out hb (Blk.lt HB21.out))
  replace HB23 := Lib.hid (Blk.below HB23.out hb (Blk.lt HB23.out))
  have HC25 := Lib.hid hC25
  clear hb hC25
  have e32 : w16.cell? ⟨b5, 32, none⟩ = some (.int .u32 (t : Int)) := (HASK.out w16 HB5.out).2.1
  have e33 : w16.cell? ⟨b5, 33, none⟩ = some (.string s) := (HASK.out w16 HB5.out).2.2
  have HRK := Lib.hid (HASK.out w16 HB5.out).1
  go_wp2_with (first | (refine wpList_value rfl (exec_loadA (x := .tmp 108) (C := F) rfl rfl HRK.out Tryd.underlying22 rfl HIF.out) ?_) | (refine wpList_value rfl (exec_buildM (parts := #[(0, .tmp 107), (1, .tmp 109)]) (ps := #[(0, .int .u32 (t : Int)), (1, .agg F)]) rfl (by first | rfl | (simp [Act.eval]; done) | (go_simp; done)) HBU.out) ?_))
  clear e32 e33 HRK
  refine (HRU.out w16).mono ?_
  rintro e w17 ⟨o27, m27, p27, rfl, hC27, hb⟩
  replace HW := Lib.hid (HW.out.trans (hb.mono HW.out.size))
  replace HB5 := Lib.hid (Blk.below HB5.out hb (Blk.lt HB5.out))
  replace HT := Lib.hid (HT.out.later hb)
  replace HBY := Lib.hid (HBY.out.later hb)
  replace HT7 := Lib.hid (HT7.out.later hb)
  replace HB7 := Lib.hid (Blk.below HB7.out hb (Blk.lt HB7.out))
  replace HT9 := Lib.hid (HT9.out.later hb)
  replace HB9 := Lib.hid (Blk.below HB9.out hb (Blk.lt HB9.out))
  replace HT11 := Lib.hid (HT11.out.later hb)
  replace HC13 := Lib.hid (HC13.out.later hb)
  replace HC15 := Lib.hid (HC15.out.later hb)
  replace HT17 := Lib.hid (HT17.out.later hb)
  replace HB17 := Lib.hid (Blk.below HB17.out hb (Blk.lt HB17.out))
  replace HT19 := Lib.hid (HT19.out.later hb)
  replace HB21 := Lib.hid (Blk.below HB21.out hb (Blk.lt HB21.out))
  replace HB23 := Lib.hid (Blk.below HB23.out hb (Blk.lt HB23.out))
  replace HC25 := Lib.hid (HC25.out.later hb)
  have HC27 := Lib.hid hC27
  clear hb hC27
  have e9 : w17.cell? ⟨b9, 0, none⟩ = some (.slice o9 k9 p9) := by rw [Blk.cell HB9.out]; rfl
  go_wp2_with fail
  clear e9
  refine (isring_any k9 p9 p11 o9 o11 M9 U9 w17 HT9.out HT11.out HK9.out).mono ?_
  rintro e w18 ⟨rfl, hb⟩
  replace HW := Lib.hid (HW.out.trans (hb.mono HW.out.size))
  replace HB5 := Lib.hid (Blk.below HB5.out hb (Blk.lt HB5.out))
  replace HT := Lib.hid (HT.out.later hb)
  replace HBY := Lib.hid (HBY.out.later hb)
  replace HT7 := Lib.hid (HT7.out.later hb)
  replace HB7 := Lib.hid (Blk.below HB7.out hb (Blk.lt HB7.out))
  replace HT9 := Lib.hid (HT9.out.later hb)
  replace HB9 := Lib.hid (Blk.below HB9.out hb (Blk.lt HB9.out))
  replace HT11 := Lib.hid (HT11.out.later hb)
  replace HC13 := Lib.hid (HC13.out.later hb)
  replace HC15 := Lib.hid (HC15.out.later hb)
  replace HT17 := Lib.hid (HT17.out.later hb)
  replace HB17 := Lib.hid (Blk.below HB17.out hb (Blk.lt HB17.out))
  replace HT19 := Lib.hid (HT19.out.later hb)
  replace HB21 := Lib.hid (Blk.below HB21.out hb (Blk.lt HB21.out))
  replace HB23 := Lib.hid (Blk.below HB23.out hb (Blk.lt HB23.out))
  replace HC25 := Lib.hid (HC25.out.later hb)
  replace HC27 := Lib.hid (HC27.out.later hb)
  clear hb 
  go_wp2_with fail
  refine (num_ern w18 HE10.out (HG.out.later HW.out).2).mono ?_
  rintro e w19 ⟨rfl, hb⟩
  replace HW := Lib.hid (HW.out.trans (hb.mono HW.out.size))
  replace HB5 := Lib.hid (Blk.below HB5.out hb (Blk.lt HB5.out))
  replace HT := Lib.hid (HT.out.later hb)
  replace HBY := Lib.hid (HBY.out.later hb)
  replace HT7 := Lib.hid (HT7.out.later hb)
  replace HB7 := Lib.hid (Blk.below HB7.out hb (Blk.lt HB7.out))
  replace HT9 := Lib.hid (HT9.out.later hb)
  replace HB9 := Lib.hid (Blk.below HB9.out hb (Blk.lt HB9.out))
  replace HT11 := Lib.hid (HT11.out.later hb)
  replace HC13 := Lib.hid (HC13.out.later hb)
  replace HC15 := Lib.hid (HC15.out.later hb)
  replace HT17 := Lib.hid (HT17.out.later hb)
  replace HB17 := Lib.hid (Blk.below HB17.out hb (Blk.lt HB17.out))
  replace HT19 := Lib.hid (HT19.out.later hb)
  replace HB21 := Lib.hid (Blk.below HB21.out hb (Blk.lt HB21.out))
  replace HB23 := Lib.hid (Blk.below HB23.out hb (Blk.lt HB23.out))
  replace HC25 := Lib.hid (HC25.out.later hb)
  replace HC27 := Lib.hid (HC27.out.later hb)
  clear hb 
  go_wp2_with (first | (refine wpList_valueG (by rfl) (exec_convO (x := .tmp 127) rfl rfl HC13.out.conv) ?_) | (refine wpList_valueG (by rfl) (exec_convO (x := .tmp 129) rfl rfl HC15.out.conv) ?_))
  refine (num_ern w19 HE14.out (HG.out.later HW.out).2).mono ?_
  rintro e w20 ⟨rfl, hb⟩
  replace HW := Lib.hid (HW.out.trans (hb.mono HW.out.size))
  replace HB5 := Lib.hid (Blk.below HB5.out hb (Blk.lt HB5.out))
  replace HT := Lib.hid (HT.out.later hb)
  replace HBY := Lib.hid (HBY.out.later hb)
  replace HT7 := Lib.hid (HT7.out.later hb)
  replace HB7 := Lib.hid (Blk.below HB7.out hb (Blk.lt HB7.out))
  replace HT9 := Lib.hid (HT9.out.later hb)
  replace HB9 := Lib.hid (Blk.below HB9.out hb (Blk.lt HB9.out))
  replace HT11 := Lib.hid (HT11.out.later hb)
  replace HC13 := Lib.hid (HC13.out.later hb)
  replace HC15 := Lib.hid (HC15.out.later hb)
  replace HT17 := Lib.hid (HT17.out.later hb)
  replace HB17 := Lib.hid (Blk.below HB17.out hb (Blk.lt HB17.out))
  replace HT19 := Lib.hid (HT19.out.later hb)
  replace HB21 := Lib.hid (Blk.below HB21.out hb (Blk.lt HB21.out))
  replace HB23 := Lib.hid (Blk.below HB23.out hb (Blk.lt HB23.out))
  replace HC25 := Lib.hid (HC25.out.later hb)
  replace HC27 := Lib.hid (HC27.out.later hb)
  clear hb 
  have e17 : w20.cell? ⟨b17, 0, none⟩ = some (.slice o17 k17 p17) := by rw [Blk.cell HB17.out]; rfl
  go_wp2_with fail
  clear e17
  refine (isring_any k17 p17 p19 o17 o19 M17 U17 w20 HT17.out HT19.out HK17.out).mono ?_
  rintro e w21 ⟨rfl, hb⟩
  replace HW := Lib.hid (HW.out.trans (hb.mono HW.out.size))
  replace HB5 := Lib.hid (Blk.below HB5.out hb (Blk.lt HB5.out))
  replace HT := Lib.hid (HT.out.later hb)
  replace HBY := Lib.hid (HBY.out.later hb)
  replace HT7 := Lib.hid (HT7.out.later hb)
  replace HB7 := Lib.hid (Blk.below HB7.out hb (Blk.lt HB7.out))
  replace HT9 := Lib.hid (HT9.out.later hb)
  replace HB9 := Lib.hid (Blk.below HB9.out hb (Blk.lt HB9.out))
  replace HT11 := Lib.hid (HT11.out.later hb)
  replace HC13 := Lib.hid (HC13.out.later hb)
  replace HC15 := Lib.hid (HC15.out.later hb)
  replace HT17 := Lib.hid (HT17.out.later hb)
  replace HB17 := Lib.hid (Blk.below HB17.out hb (Blk.lt HB17.out))
  replace HT19 := Lib.hid (HT19.out.later hb)
  replace HB21 := Lib.hid (Blk.below HB21.out hb (Blk.lt HB21.out))
  replace HB23 := Lib.hid (Blk.below HB23.out hb (Blk.lt HB23.out))
  replace HC25 := Lib.hid (HC25.out.later hb)
  replace HC27 := Lib.hid (HC27.out.later hb)
  clear hb 
  go_wp2_with fail
  refine (num_ern w21 HE18.out (HG.out.later HW.out).2).mono ?_
  rintro e w22 ⟨rfl, hb⟩
  replace HW := Lib.hid (HW.out.trans (hb.mono HW.out.size))
  replace HB5 := Lib.hid (Blk.below HB5.out hb (Blk.lt HB5.out))
  replace HT := Lib.hid (HT.out.later hb)
  replace HBY := Lib.hid (HBY.out.later hb)
  replace HT7 := Lib.hid (HT7.out.later hb)
  replace HB7 := Lib.hid (Blk.below HB7.out hb (Blk.lt HB7.out))
  replace HT9 := Lib.hid (HT9.out.later hb)
  replace HB9 := Lib.hid (Blk.below HB9.out hb (Blk.lt HB9.out))
  replace HT11 := Lib.hid (HT11.out.later hb)
  replace HC13 := Lib.hid (HC13.out.later hb)
  replace HC15 := Lib.hid (HC15.out.later hb)
  replace HT17 := Lib.hid (HT17.out.later hb)
  replace HB17 := Lib.hid (Blk.below HB17.out hb (Blk.lt HB17.out))
  replace HT19 := Lib.hid (HT19.out.later hb)
  replace HB21 := Lib.hid (Blk.below HB21.out hb (Blk.lt HB21.out))
  replace HB23 := Lib.hid (Blk.below HB23.out hb (Blk.lt HB23.out))
  replace HC25 := Lib.hid (HC25.out.later hb)
  replace HC27 := Lib.hid (HC27.out.later hb)
  clear hb 
  go_wp2_with (first | (refine wpList_valueG (by rfl) (exec_convO (x := .tmp 152) rfl rfl HC25.out.conv) ?_) | (refine wpList_valueG (by rfl) (exec_convO (x := .tmp 154) rfl rfl HC27.out.conv) ?_))
  refine (num_ern w22 HE26.out (HG.out.later HW.out).2).mono ?_
  rintro e w23 ⟨rfl, hb⟩
  replace HW := Lib.hid (HW.out.trans (hb.mono HW.out.size))
  replace HB5 := Lib.hid (Blk.below HB5.out hb (Blk.lt HB5.out))
  replace HT := Lib.hid (HT.out.later hb)
  replace HBY := Lib.hid (HBY.out.later hb)
  replace HT7 := Lib.hid (HT7.out.later hb)
  replace HB7 := Lib.hid (Blk.below HB7.out hb (Blk.lt HB7.out))
  replace HT9 := Lib.hid (HT9.out.later hb)
  replace HB9 := Lib.hid (Blk.below HB9.out hb (Blk.lt HB9.out))
  replace HT11 := Lib.hid (HT11.out.later hb)
  replace HC13 := Lib.hid (HC13.out.later hb)
  replace HC15 := Lib.hid (HC15.out.later hb)
  replace HT17 := Lib.hid (HT17.out.later hb)
  replace HB17 := Lib.hid (Blk.below HB17.out hb (Blk.lt HB17.out))
  replace HT19 := Lib.hid (HT19.out.later hb)
  replace HB21 := Lib.hid (Blk.below HB21.out hb (Blk.lt HB21.out))
  replace HB23 := Lib.hid (Blk.below HB23.out hb (Blk.lt HB23.out))
  replace HC25 := Lib.hid (HC25.out.later hb)
  replace HC27 := Lib.hid (HC27.out.later hb)
  clear hb 
  have e7 : w23.cell? ⟨b7, 0, none⟩ = some (.slice o7 n p7) := by rw [Blk.cell HB7.out]; rfl
  go_wp2_with fail
  clear e7
  refine (isring_any n p7 cl o7 oa N S w23 HT7.out HT.out (by have := HN40.out; omega)).mono ?_
  rintro e w24 ⟨rfl, hb⟩
  replace HW := Lib.hid (HW.out.trans (hb.mono HW.out.size))
  replace HB5 := Lib.hid (Blk.below HB5.out hb (Blk.lt HB5.out))
  replace HT := Lib.hid (HT.out.later hb)
  replace HBY := Lib.hid (HBY.out.later hb)
  replace HT7 := Lib.hid (HT7.out.later hb)
  replace HB7 := Lib.hid (Blk.below HB7.out hb (Blk.lt HB7.out))
  replace HT9 := Lib.hid (HT9.out.later hb)
  replace HB9 := Lib.hid (Blk.below HB9.out hb (Blk.lt HB9.out))
  replace HT11 := Lib.hid (HT11.out.later hb)
  replace HC13 := Lib.hid (HC13.out.later hb)
  replace HC15 := Lib.hid (HC15.out.later hb)
  replace HT17 := Lib.hid (HT17.out.later hb)
  replace HB17 := Lib.hid (Blk.below HB17.out hb (Blk.lt HB17.out))
  replace HT19 := Lib.hid (HT19.out.later hb)
  replace HB21 := Lib.hid (Blk.below HB21.out hb (Blk.lt HB21.out))
  replace HB23 := Lib.hid (Blk.below HB23.out hb (Blk.lt HB23.out))
  replace HC25 := Lib.hid (HC25.out.later hb)
  replace HC27 := Lib.hid (HC27.out.later hb)
  clear hb 
  have e7 : w24.cell? ⟨b7, 0, none⟩ = some (.slice o7 n p7) := by rw [Blk.cell HB7.out]; rfl
  go_wp2_with fail
  clear e7
  refine (check_any n p7 o7 N S w24 HT7.out (fun i _ => HNB.out i) (by have := HN40.out; omega)).mono ?_
  rintro e w25 ⟨⟨rfl, h⟩ | ⟨rfl, h⟩, hb⟩
  case inr =>
    replace HW := Lib.hid (HW.out.trans (hb.mono HW.out.size))
    replace HB5 := Lib.hid (Blk.below HB5.out hb (Blk.lt HB5.out))
    replace HT := Lib.hid (HT.out.later hb)
    replace HBY := Lib.hid (HBY.out.later hb)
    replace HT7 := Lib.hid (HT7.out.later hb)
    replace HB7 := Lib.hid (Blk.below HB7.out hb (Blk.lt HB7.out))
    replace HT9 := Lib.hid (HT9.out.later hb)
    replace HB9 := Lib.hid (Blk.below HB9.out hb (Blk.lt HB9.out))
    replace HT11 := Lib.hid (HT11.out.later hb)
    replace HC13 := Lib.hid (HC13.out.later hb)
    replace HC15 := Lib.hid (HC15.out.later hb)
    replace HT17 := Lib.hid (HT17.out.later hb)
    replace HB17 := Lib.hid (Blk.below HB17.out hb (Blk.lt HB17.out))
    replace HT19 := Lib.hid (HT19.out.later hb)
    replace HB21 := Lib.hid (Blk.below HB21.out hb (Blk.lt HB21.out))
    replace HB23 := Lib.hid (Blk.below HB23.out hb (Blk.lt HB23.out))
    replace HC25 := Lib.hid (HC25.out.later hb)
    replace HC27 := Lib.hid (HC27.out.later hb)
    have hmb : mayT n N = false := mayT_no h
    obtain ⟨rfl, rfl⟩ : qf = 1 ∧ KF = fun _ => 0 := by rcases HFX.out with ⟨_, h1, h2⟩ | ⟨h1, _⟩ | ⟨h1, _⟩ <;> first | exact ⟨h1, h2⟩ | exact absurd h1 h
    obtain ⟨rfl, rfl, rfl⟩ : qa = 1 ∧ xa = 0 ∧ KA = fun _ => 0 := by rcases HAX.out with ⟨_, h1, h2, h3⟩ | ⟨h1, _⟩ <;> first | exact ⟨h1, h2, h3⟩ | exact absurd h1 h
    obtain rfl : zeroA = CF := HCF.out
    obtain rfl : zeroT = CT := HCT.out
    have HR21 := Lib.hid HB21.out.rangeA
    have HR23 := Lib.hid HB23.out.rangeA
    clear h hb
    go_wp2_with fail
    refine (num_ern w25 HE22.out (HG.out.later HW.out).2).mono ?_
    rintro e w26 ⟨rfl, hb⟩
    replace HW := Lib.hid (HW.out.trans (hb.mono HW.out.size))
    replace HB5 := Lib.hid (Blk.below HB5.out hb (Blk.lt HB5.out))
    replace HT := Lib.hid (HT.out.later hb)
    replace HBY := Lib.hid (HBY.out.later hb)
    replace HT7 := Lib.hid (HT7.out.later hb)
    replace HB7 := Lib.hid (Blk.below HB7.out hb (Blk.lt HB7.out))
    replace HT9 := Lib.hid (HT9.out.later hb)
    replace HB9 := Lib.hid (Blk.below HB9.out hb (Blk.lt HB9.out))
    replace HT11 := Lib.hid (HT11.out.later hb)
    replace HC13 := Lib.hid (HC13.out.later hb)
    replace HC15 := Lib.hid (HC15.out.later hb)
    replace HT17 := Lib.hid (HT17.out.later hb)
    replace HB17 := Lib.hid (Blk.below HB17.out hb (Blk.lt HB17.out))
    replace HT19 := Lib.hid (HT19.out.later hb)
    replace HB21 := Lib.hid (Blk.below HB21.out hb (Blk.lt HB21.out))
    replace HB23 := Lib.hid (Blk.below HB23.out hb (Blk.lt HB23.out))
    replace HC25 := Lib.hid (HC25.out.later hb)
    replace HC27 := Lib.hid (HC27.out.later hb)
    clear hb 
    go_wp2_with fail
    refine (num_ern w26 HE24.out (HG.out.later HW.out).2).mono ?_
    rintro e w27 ⟨rfl, hb⟩
    replace HW := Lib.hid (HW.out.trans (hb.mono HW.out.size))
    replace HB5 := Lib.hid (Blk.below HB5.out hb (Blk.lt HB5.out))
    replace HT := Lib.hid (HT.out.later hb)
    replace HBY := Lib.hid (HBY.out.later hb)
    replace HT7 := Lib.hid (HT7.out.later hb)
    replace HB7 := Lib.hid (Blk.below HB7.out hb (Blk.lt HB7.out))
    replace HT9 := Lib.hid (HT9.out.later hb)
    replace HB9 := Lib.hid (Blk.below HB9.out hb (Blk.lt HB9.out))
    replace HT11 := Lib.hid (HT11.out.later hb)
    replace HC13 := Lib.hid (HC13.out.later hb)
    replace HC15 := Lib.hid (HC15.out.later hb)
    replace HT17 := Lib.hid (HT17.out.later hb)
    replace HB17 := Lib.hid (Blk.below HB17.out hb (Blk.lt HB17.out))
    replace HT19 := Lib.hid (HT19.out.later hb)
    replace HB21 := Lib.hid (Blk.below HB21.out hb (Blk.lt HB21.out))
    replace HB23 := Lib.hid (Blk.below HB23.out hb (Blk.lt HB23.out))
    replace HC25 := Lib.hid (HC25.out.later hb)
    replace HC27 := Lib.hid (HC27.out.later hb)
    clear hb 
    replace HR21 := Lib.hid HB21.out.rangeA
    replace HR23 := Lib.hid HB23.out.rangeA
    go_wp2_with (first | (refine wpList_valueG (by rfl) (exec_loadA (x := .tmp 21) (C := zeroA) rfl rfl HR21.out Tryd.underlying22 rfl HIF1.out) ?_) | (refine wpList_valueG (by rfl) (exec_buildM (parts := #[]) (ps := #[]) (C := zeroA) rfl (by first | rfl | simp) build_z32) ?_) | (refine wpList_valueG (by rfl) (exec_eql32 (x := .tmp 188) (y := .tmp 189) rfl rfl rfl HEF.out) ?_) | (refine wpList_valueG (by rfl) (exec_loadA (x := .tmp 23) (C := zeroT) rfl rfl HR23.out Tryd.underlying55 rfl HIT1.out) ?_) | (refine wpList_valueG (by rfl) (exec_buildM (parts := #[]) (ps := #[]) (C := zeroT) rfl (by first | rfl | simp) build_z1) ?_) | (refine wpList_valueG (by rfl) (exec_eqlT (x := .tmp 193) (y := .tmp 194) rfl rfl rfl HET.out) ?_))
    refine (sure_any w27 (HG.out.later HW.out).1).mono ?_
    rintro e w28 ⟨rfl, hb⟩
    replace HW := Lib.hid (HW.out.trans (hb.mono HW.out.size))
    replace HB5 := Lib.hid (Blk.below HB5.out hb (Blk.lt HB5.out))
    replace HT := Lib.hid (HT.out.later hb)
    replace HBY := Lib.hid (HBY.out.later hb)
    replace HT7 := Lib.hid (HT7.out.later hb)
    replace HB7 := Lib.hid (Blk.below HB7.out hb (Blk.lt HB7.out))
    replace HT9 := Lib.hid (HT9.out.later hb)
    replace HB9 := Lib.hid (Blk.below HB9.out hb (Blk.lt HB9.out))
    replace HT11 := Lib.hid (HT11.out.later hb)
    replace HC13 := Lib.hid (HC13.out.later hb)
    replace HC15 := Lib.hid (HC15.out.later hb)
    replace HT17 := Lib.hid (HT17.out.later hb)
    replace HB17 := Lib.hid (Blk.below HB17.out hb (Blk.lt HB17.out))
    replace HT19 := Lib.hid (HT19.out.later hb)
    replace HB21 := Lib.hid (Blk.below HB21.out hb (Blk.lt HB21.out))
    replace HB23 := Lib.hid (Blk.below HB23.out hb (Blk.lt HB23.out))
    replace HC25 := Lib.hid (HC25.out.later hb)
    replace HC27 := Lib.hid (HC27.out.later hb)
    clear hb 
    go_wp2_with fail
    go_ret
    exact ⟨rfl, HW.out⟩
  case inl =>
    have HOK := Lib.hid h
    replace HW := Lib.hid (HW.out.trans (hb.mono HW.out.size))
    replace HB5 := Lib.hid (Blk.below HB5.out hb (Blk.lt HB5.out))
    replace HT := Lib.hid (HT.out.later hb)
    replace HBY := Lib.hid (HBY.out.later hb)
    replace HT7 := Lib.hid (HT7.out.later hb)
    replace HB7 := Lib.hid (Blk.below HB7.out hb (Blk.lt HB7.out))
    replace HT9 := Lib.hid (HT9.out.later hb)
    replace HB9 := Lib.hid (Blk.below HB9.out hb (Blk.lt HB9.out))
    replace HT11 := Lib.hid (HT11.out.later hb)
    replace HC13 := Lib.hid (HC13.out.later hb)
    replace HC15 := Lib.hid (HC15.out.later hb)
    replace HT17 := Lib.hid (HT17.out.later hb)
    replace HB17 := Lib.hid (Blk.below HB17.out hb (Blk.lt HB17.out))
    replace HT19 := Lib.hid (HT19.out.later hb)
    replace HB21 := Lib.hid (Blk.below HB21.out hb (Blk.lt HB21.out))
    replace HB23 := Lib.hid (Blk.below HB23.out hb (Blk.lt HB23.out))
    replace HC25 := Lib.hid (HC25.out.later hb)
    replace HC27 := Lib.hid (HC27.out.later hb)
    clear hb
    have hb : Below w25.heap.size w25 w25.drew := (Below.refl _ _).drew
    replace HW := Lib.hid (HW.out.trans (hb.mono HW.out.size))
    replace HB5 := Lib.hid (Blk.below HB5.out hb (Blk.lt HB5.out))
    replace HT := Lib.hid (HT.out.later hb)
    replace HBY := Lib.hid (HBY.out.later hb)
    replace HT7 := Lib.hid (HT7.out.later hb)
    replace HB7 := Lib.hid (Blk.below HB7.out hb (Blk.lt HB7.out))
    replace HT9 := Lib.hid (HT9.out.later hb)
    replace HB9 := Lib.hid (Blk.below HB9.out hb (Blk.lt HB9.out))
    replace HT11 := Lib.hid (HT11.out.later hb)
    replace HC13 := Lib.hid (HC13.out.later hb)
    replace HC15 := Lib.hid (HC15.out.later hb)
    replace HT17 := Lib.hid (HT17.out.later hb)
    replace HB17 := Lib.hid (Blk.below HB17.out hb (Blk.lt HB17.out))
    replace HT19 := Lib.hid (HT19.out.later hb)
    replace HB21 := Lib.hid (Blk.below HB21.out hb (Blk.lt HB21.out))
    replace HB23 := Lib.hid (Blk.below HB23.out hb (Blk.lt HB23.out))
    replace HC25 := Lib.hid (HC25.out.later hb)
    replace HC27 := Lib.hid (HC27.out.later hb)
    have hmb : mayT n N = true := mayT_ok h
    obtain ⟨rfl, hxa, hKA⟩ : v24 = .nilIface ∧ xa = n ∧ KA = S (n - 1) := by
      rcases HAX.out with ⟨h1, _⟩ | ⟨_, h1, h2, h3⟩
      · exact absurd h h1
      · exact ⟨h1, h2, h3⟩
    subst hxa hKA
    obtain ⟨n1, hn1⟩ : ∃ q, q + 1 = xa := ⟨xa - 1, by have := h.1; omega⟩
    obtain ⟨bl, ol, ho, hr⟩ := HT.out n1 (by omega)
    subst ho
    have hSW0 : w25.drew.rangeAt b23 0 CT.toList ∧ w25.drew.rangeAt bl (ol + n1 * 33) CT.toList := ⟨HB23.out.rangeA, by
      rw [← HCT.out]
      rw [h.2.2 n1 (by omega), hn1, show n1 = xa - 1 by omega] at hr
      rw [show n1 = xa - 1 by omega]; exact hr⟩
    have k1 : (xa : Int) - 1 = (n1 : Int) := by omega
    have k2 : IntKind.i64.wrap (n1 : Int) = (n1 : Int) := IntWalk.i64_in _ (by have := HN40.out; omega)
    have k3 : (0 : Int) ≤ (n1 : Int) := by omega
    have k4 : (n1 : Int) < (xa : Int) := by omega
    have HN1 := Lib.hid hn1
    clear h hb hr hn1
    go_upto_region 19 with fail
    refine wp_region_held_drew (S := (fun A => A.rangeAt b23 0 CT.toList ∧ A.rangeAt bl (ol + n1 * 33) CT.toList)) (by kernel_rfl) ?_ (fun hHeld => ?_)
    · (try dsimp only)
      (first | assumption | (dsimp only; assumption))
    refine wpAnyH_take (i := 0) (oi := { dst := some 200, op := Go.Op.move (Go.Operand.tmp 24), type := 29, pos := "law.go:85", after := #[], guard := none }) (v := ?_) rfl (by kernel_rfl) (by kernel_rfl) (by kernel_rfl) (fun _ _ _ h => h) (Or.inl ⟨by rfl, ?_⟩) (by assumption) ?_
    rotate_left
    · intro wS hSw
      (try dsimp only at hSw)
      go_simp
      (try with_reducible rfl)
    (try simp only [Act.put, List.setIfInBounds_toArray, List.set_cons_zero, List.set_cons_succ])
    refine wpAnyH_take (i := 1) (oi := { dst := some 201, op := Go.Op.binOp Go.BinOp.neq 29 (Go.Operand.tmp 200) (Go.Operand.const Go.Value.nilIface) 29, type := 4, pos := "law.go:85", after := #[{ on := 0, ground := Go.Ground.data }], guard := none }) (v := ?_) rfl (by kernel_rfl) (by kernel_rfl) (by kernel_rfl) (fun _ _ _ h => h) (Or.inl ⟨by rfl, ?_⟩) (by assumption) ?_
    rotate_left
    · intro wS hSw
      (try dsimp only at hSw)
      go_simp
      (try with_reducible rfl)
    (try simp only [Act.put, List.setIfInBounds_toArray, List.set_cons_zero, List.set_cons_succ])
    refine wpAnyH_take (i := 2) (oi := { dst := some 202, op := Go.Op.move (Go.Operand.tmp 201), type := 4, pos := "law.go:85", after := #[{ on := 1, ground := Go.Ground.data }], guard := none }) (v := ?_) rfl (by kernel_rfl) (by kernel_rfl) (by kernel_rfl) (fun _ _ _ h => h) (Or.inl ⟨by rfl, ?_⟩) (by assumption) ?_
    rotate_left
    · intro wS hSw
      (try dsimp only at hSw)
      go_simp
      (try with_reducible rfl)
    (try simp only [Act.put, List.setIfInBounds_toArray, List.set_cons_zero, List.set_cons_succ])
    refine wpAnyH_take (i := 3) (oi := { dst := some 203, op := Go.Op.load 55 (Go.Operand.tmp 23), type := 55, pos := "law.go:85", after := #[{ on := 2, ground := Go.Ground.guard }], guard := some (2, false) }) (v := ?_) rfl (by kernel_rfl) (by kernel_rfl) (by kernel_rfl) (fun _ _ _ h => h) (Or.inl ⟨by rfl, ?_⟩) (by assumption) ?_
    rotate_left
    · intro wS hSw
      (refine exec_loadA (x := .tmp 23) (C := CT) ?_ ?_ hSw.1 Tryd.underlying55 rfl HIT1.out <;> rfl)
    (try simp only [Act.put, List.setIfInBounds_toArray, List.set_cons_zero, List.set_cons_succ])
    refine wpAnyH_take (i := 4) (oi := { dst := some 204, op := Go.Op.move (Go.Operand.tmp 0), type := 44, pos := "law.go:85", after := #[{ on := 2, ground := Go.Ground.guard }], guard := some (2, false) }) (v := ?_) rfl (by kernel_rfl) (by kernel_rfl) (by kernel_rfl) (fun _ _ _ h => h) (Or.inl ⟨by rfl, ?_⟩) (by assumption) ?_
    rotate_left
    · intro wS hSw
      (try dsimp only at hSw)
      go_simp
      (try with_reducible rfl)
    (try simp only [Act.put, List.setIfInBounds_toArray, List.set_cons_zero, List.set_cons_succ])
    refine wpAnyH_take (i := 5) (oi := { dst := some 205, op := Go.Op.move (Go.Operand.tmp 0), type := 44, pos := "law.go:85", after := #[{ on := 2, ground := Go.Ground.guard }], guard := some (2, false) }) (v := ?_) rfl (by kernel_rfl) (by kernel_rfl) (by kernel_rfl) (fun _ _ _ h => h) (Or.inl ⟨by rfl, ?_⟩) (by assumption) ?_
    rotate_left
    · intro wS hSw
      (try dsimp only at hSw)
      go_simp
      (try with_reducible rfl)
    (try simp only [Act.put, List.setIfInBounds_toArray, List.set_cons_zero, List.set_cons_succ])
    refine wpAnyH_take (i := 6) (oi := { dst := some 206, op := Go.Op.call { callee := Go.Callee.builtin Go.Builtin.len, args := #[Go.Operand.tmp 205], argTypes := #[44] }, type := 3, pos := "law.go:85", after := #[{ on := 5, ground := Go.Ground.data }, { on := 2, ground := Go.Ground.guard }], guard := some (2, false) }) (v := ?_) rfl (by kernel_rfl) (by kernel_rfl) (by kernel_rfl) (fun _ _ _ h => h) (Or.inl ⟨by rfl, ?_⟩) (by assumption) ?_
    rotate_left
    · intro wS hSw
      (try dsimp only at hSw)
      go_simp
      (try with_reducible rfl)
    (try simp only [Act.put, List.setIfInBounds_toArray, List.set_cons_zero, List.set_cons_succ])
    refine wpAnyH_take (i := 7) (oi := { dst := some 207, op := Go.Op.binOp Go.BinOp.sub 3 (Go.Operand.tmp 206) (Go.Operand.const (Go.Value.int Go.IntKind.i64 1)) 3, type := 3, pos := "law.go:85", after := #[{ on := 6, ground := Go.Ground.data }, { on := 2, ground := Go.Ground.guard }], guard := some (2, false) }) (v := ?_) rfl (by kernel_rfl) (by kernel_rfl) (by kernel_rfl) (fun _ _ _ h => h) (Or.inl ⟨by rfl, ?_⟩) (by assumption) ?_
    rotate_left
    · intro wS hSw
      (try dsimp only at hSw)
      go_simp
      (try with_reducible rfl)
    (try simp only [Act.put, List.setIfInBounds_toArray, List.set_cons_zero, List.set_cons_succ])
    refine wpAnyH_take (i := 8) (oi := { dst := some 208, op := Go.Op.indexAddr 44 (Go.Operand.tmp 204) (Go.Operand.tmp 207), type := 0, pos := "law.go:85", after := #[{ on := 4, ground := Go.Ground.data }, { on := 7, ground := Go.Ground.data }, { on := 2, ground := Go.Ground.guard }], guard := some (2, false) }) (v := ?_) rfl (by kernel_rfl) (by kernel_rfl) (by kernel_rfl) (fun _ _ _ h => h) (Or.inl ⟨by rfl, ?_⟩) (by assumption) ?_
    rotate_left
    · intro wS hSw
      (try dsimp only at hSw)
      go_simp
      (try with_reducible rfl)
    (try simp only [Act.put, List.setIfInBounds_toArray, List.set_cons_zero, List.set_cons_succ])
    refine wpAnyH_take (i := 9) (oi := { dst := some 209, op := Go.Op.load 60 (Go.Operand.tmp 208), type := 60, pos := "law.go:85", after := #[{ on := 8, ground := Go.Ground.data }, { on := 2, ground := Go.Ground.guard }], guard := some (2, false) }) (v := ?_) rfl (by kernel_rfl) (by kernel_rfl) (by kernel_rfl) (fun _ _ _ h => h) (Or.inl ⟨by rfl, ?_⟩) (by assumption) ?_
    rotate_left
    · intro wS hSw
      (refine exec_loadA (x := .tmp 208) (C := CT) ?_ ?_ hSw.2 Tryd.underlying60 rfl HIT2.out <;> rfl)
    (try simp only [Act.put, List.setIfInBounds_toArray, List.set_cons_zero, List.set_cons_succ])
    refine wpAnyH_take (i := 10) (oi := { dst := some 210, op := Go.Op.binOp Go.BinOp.neq 55 (Go.Operand.tmp 203) (Go.Operand.tmp 209) 55, type := 4, pos := "law.go:85", after := #[{ on := 3, ground := Go.Ground.data }, { on := 9, ground := Go.Ground.data }, { on := 2, ground := Go.Ground.guard }], guard := some (2, false) }) (v := ?_) rfl (by kernel_rfl) (by kernel_rfl) (by kernel_rfl) (fun _ _ _ h => h) (Or.inl ⟨by rfl, ?_⟩) (by assumption) ?_
    rotate_left
    · intro wS hSw
      (refine exec_neqT (x := .tmp 203) (y := .tmp 209) (r := 55) (C := CT) (D := CT) (b := true) ?_ ?_ ?_ HET.out <;> rfl)
    (try simp only [Act.put, List.setIfInBounds_toArray, List.set_cons_zero, List.set_cons_succ])
    refine wpAnyH_take (i := 11) (oi := { dst := some 211, op := Go.Op.pick (Go.Operand.tmp 202) (Go.Operand.const (Go.Value.bool true)) (Go.Operand.tmp 210), type := 4, pos := "law.go:85", after := #[{ on := 2, ground := Go.Ground.data }, { on := 10, ground := Go.Ground.data }], guard := none }) (v := ?_) rfl (by kernel_rfl) (by kernel_rfl) (by kernel_rfl) (fun _ _ _ h => h) (Or.inl ⟨by rfl, ?_⟩) (by assumption) ?_
    rotate_left
    · intro wS hSw
      (try dsimp only at hSw)
      go_simp
      (try with_reducible rfl)
    (try simp only [Act.put, List.setIfInBounds_toArray, List.set_cons_zero, List.set_cons_succ])
    refine wpAnyH_done (by kernel_rfl) ?_ _
    have ht4 := HX.out.2.2.1
    have kt : IntKind.i64.wrap (t : Int) = (t : Int) := IntWalk.i64_in _ (by omega)
    have e32 : w25.drew.cell? ⟨b5, 32, none⟩ = some (.int .u32 (t : Int)) := (HASK.out w25.drew HB5.out).2.1
    clear hSW0 k1 k2 k3 k4 ht4
    by_cases g1 : t < 1
    · have ht : ¬ (1 ≤ t ∧ t ≤ xa) := by omega
      have a1 : (t : Int) < (1 : Int) := by omega
      have a2 : decide ((t : Int) < (1 : Int)) = true := decide_eq_true a1
      have a7 : t < 1 := by omega
      have a8 : decide (t < 1) = true := decide_eq_true a7
      obtain ⟨rfl, rfl⟩ : qf = 5 ∧ KF = fun _ => 0 := by rcases HFX.out with ⟨h1, _⟩ | ⟨_, h1, h2, _⟩ | ⟨_, _, h1, h2⟩ <;> first | exact ⟨h1, h2⟩ | exact absurd HOK.out h1 | exact absurd ⟨h1, h2⟩ ht
      obtain rfl : zeroA = CF := HCF.out
      clear ht
      go_wp2_with fail
      refine (num_ern w25.drew HE22.out (HG.out.later HW.out).2).mono ?_
      rintro e w26 ⟨rfl, hb⟩
      replace HW := Lib.hid (HW.out.trans (hb.mono HW.out.size))
      replace HB5 := Lib.hid (Blk.below HB5.out hb (Blk.lt HB5.out))
      replace HT := Lib.hid (HT.out.later hb)
      replace HBY := Lib.hid (HBY.out.later hb)
      replace HT7 := Lib.hid (HT7.out.later hb)
      replace HB7 := Lib.hid (Blk.below HB7.out hb (Blk.lt HB7.out))
      replace HT9 := Lib.hid (HT9.out.later hb)
      replace HB9 := Lib.hid (Blk.below HB9.out hb (Blk.lt HB9.out))
      replace HT11 := Lib.hid (HT11.out.later hb)
      replace HC13 := Lib.hid (HC13.out.later hb)
      replace HC15 := Lib.hid (HC15.out.later hb)
      replace HT17 := Lib.hid (HT17.out.later hb)
      replace HB17 := Lib.hid (Blk.below HB17.out hb (Blk.lt HB17.out))
      replace HT19 := Lib.hid (HT19.out.later hb)
      replace HB21 := Lib.hid (Blk.below HB21.out hb (Blk.lt HB21.out))
      replace HB23 := Lib.hid (Blk.below HB23.out hb (Blk.lt HB23.out))
      replace HC25 := Lib.hid (HC25.out.later hb)
      replace HC27 := Lib.hid (HC27.out.later hb)
      clear hb 
      have HR21 := Lib.hid HB21.out.rangeA
      go_wp2_with (first | (refine wpList_valueG (by rfl) (exec_loadA (x := .tmp 21) (C := zeroA) rfl rfl HR21.out Tryd.underlying22 rfl HIF1.out) ?_) | (refine wpList_valueG (by rfl) (exec_buildM (parts := #[]) (ps := #[]) (C := zeroA) rfl (by first | rfl | simp) build_z32) ?_) | (refine wpList_valueG (by rfl) (exec_eql32 (x := .tmp 227) (y := .tmp 228) rfl rfl rfl HEF.out) ?_))
      refine (sure_any w26 (HG.out.later HW.out).1).mono ?_
      rintro e w28 ⟨rfl, hb⟩
      replace HW := Lib.hid (HW.out.trans (hb.mono HW.out.size))
      replace HB5 := Lib.hid (Blk.below HB5.out hb (Blk.lt HB5.out))
      replace HT := Lib.hid (HT.out.later hb)
      replace HBY := Lib.hid (HBY.out.later hb)
      replace HT7 := Lib.hid (HT7.out.later hb)
      replace HB7 := Lib.hid (Blk.below HB7.out hb (Blk.lt HB7.out))
      replace HT9 := Lib.hid (HT9.out.later hb)
      replace HB9 := Lib.hid (Blk.below HB9.out hb (Blk.lt HB9.out))
      replace HT11 := Lib.hid (HT11.out.later hb)
      replace HC13 := Lib.hid (HC13.out.later hb)
      replace HC15 := Lib.hid (HC15.out.later hb)
      replace HT17 := Lib.hid (HT17.out.later hb)
      replace HB17 := Lib.hid (Blk.below HB17.out hb (Blk.lt HB17.out))
      replace HT19 := Lib.hid (HT19.out.later hb)
      replace HB21 := Lib.hid (Blk.below HB21.out hb (Blk.lt HB21.out))
      replace HB23 := Lib.hid (Blk.below HB23.out hb (Blk.lt HB23.out))
      replace HC25 := Lib.hid (HC25.out.later hb)
      replace HC27 := Lib.hid (HC27.out.later hb)
      clear hb 
      go_wp2_with fail
      go_ret
      exact ⟨rfl, HW.out⟩
    have a1 : ¬ (t : Int) < (1 : Int) := by omega
    have a2 : decide ((t : Int) < (1 : Int)) = false := decide_eq_false a1
    have a7 : ¬ t < 1 := by omega
    have a8 : decide (t < 1) = false := decide_eq_false a7
    by_cases g2 : xa < t
    · have ht : ¬ (1 ≤ t ∧ t ≤ xa) := by omega
      have b1 : (xa : Int) < (t : Int) := by omega
      have b2 : decide ((xa : Int) < (t : Int)) = true := decide_eq_true b1
      have b7 : xa < t := by omega
      have b8 : decide (xa < t) = true := decide_eq_true b7
      obtain ⟨rfl, rfl⟩ : qf = 5 ∧ KF = fun _ => 0 := by rcases HFX.out with ⟨h1, _⟩ | ⟨_, h1, h2, _⟩ | ⟨_, _, h1, h2⟩ <;> first | exact ⟨h1, h2⟩ | exact absurd HOK.out h1 | exact absurd ⟨h1, h2⟩ ht
      obtain rfl : zeroA = CF := HCF.out
      clear ht
      go_wp2_with fail
      refine (num_ern w25.drew HE22.out (HG.out.later HW.out).2).mono ?_
      rintro e w26 ⟨rfl, hb⟩
      replace HW := Lib.hid (HW.out.trans (hb.mono HW.out.size))
      replace HB5 := Lib.hid (Blk.below HB5.out hb (Blk.lt HB5.out))
      replace HT := Lib.hid (HT.out.later hb)
      replace HBY := Lib.hid (HBY.out.later hb)
      replace HT7 := Lib.hid (HT7.out.later hb)
      replace HB7 := Lib.hid (Blk.below HB7.out hb (Blk.lt HB7.out))
      replace HT9 := Lib.hid (HT9.out.later hb)
      replace HB9 := Lib.hid (Blk.below HB9.out hb (Blk.lt HB9.out))
      replace HT11 := Lib.hid (HT11.out.later hb)
      replace HC13 := Lib.hid (HC13.out.later hb)
      replace HC15 := Lib.hid (HC15.out.later hb)
      replace HT17 := Lib.hid (HT17.out.later hb)
      replace HB17 := Lib.hid (Blk.below HB17.out hb (Blk.lt HB17.out))
      replace HT19 := Lib.hid (HT19.out.later hb)
      replace HB21 := Lib.hid (Blk.below HB21.out hb (Blk.lt HB21.out))
      replace HB23 := Lib.hid (Blk.below HB23.out hb (Blk.lt HB23.out))
      replace HC25 := Lib.hid (HC25.out.later hb)
      replace HC27 := Lib.hid (HC27.out.later hb)
      clear hb 
      have HR21 := Lib.hid HB21.out.rangeA
      go_wp2_with (first | (refine wpList_valueG (by rfl) (exec_loadA (x := .tmp 21) (C := zeroA) rfl rfl HR21.out Tryd.underlying22 rfl HIF1.out) ?_) | (refine wpList_valueG (by rfl) (exec_buildM (parts := #[]) (ps := #[]) (C := zeroA) rfl (by first | rfl | simp) build_z32) ?_) | (refine wpList_valueG (by rfl) (exec_eql32 (x := .tmp 227) (y := .tmp 228) rfl rfl rfl HEF.out) ?_))
      refine (sure_any w26 (HG.out.later HW.out).1).mono ?_
      rintro e w28 ⟨rfl, hb⟩
      replace HW := Lib.hid (HW.out.trans (hb.mono HW.out.size))
      replace HB5 := Lib.hid (Blk.below HB5.out hb (Blk.lt HB5.out))
      replace HT := Lib.hid (HT.out.later hb)
      replace HBY := Lib.hid (HBY.out.later hb)
      replace HT7 := Lib.hid (HT7.out.later hb)
      replace HB7 := Lib.hid (Blk.below HB7.out hb (Blk.lt HB7.out))
      replace HT9 := Lib.hid (HT9.out.later hb)
      replace HB9 := Lib.hid (Blk.below HB9.out hb (Blk.lt HB9.out))
      replace HT11 := Lib.hid (HT11.out.later hb)
      replace HC13 := Lib.hid (HC13.out.later hb)
      replace HC15 := Lib.hid (HC15.out.later hb)
      replace HT17 := Lib.hid (HT17.out.later hb)
      replace HB17 := Lib.hid (Blk.below HB17.out hb (Blk.lt HB17.out))
      replace HT19 := Lib.hid (HT19.out.later hb)
      replace HB21 := Lib.hid (Blk.below HB21.out hb (Blk.lt HB21.out))
      replace HB23 := Lib.hid (Blk.below HB23.out hb (Blk.lt HB23.out))
      replace HC25 := Lib.hid (HC25.out.later hb)
      replace HC27 := Lib.hid (HC27.out.later hb)
      clear hb 
      go_wp2_with fail
      go_ret
      exact ⟨rfl, HW.out⟩
    have b1 : ¬ (xa : Int) < (t : Int) := by omega
    have b2 : decide ((xa : Int) < (t : Int)) = false := decide_eq_false b1
    have b7 : ¬ xa < t := by omega
    have b8 : decide (xa < t) = false := decide_eq_false b7
    obtain ⟨t1, ht1⟩ : ∃ q, q + 1 = t := ⟨t - 1, by omega⟩
    obtain ⟨rfl, hKF⟩ : v22 = .nilIface ∧ KF = S (t - 1) := by
      rcases HFX.out with ⟨h1, _⟩ | ⟨_, _, _, h1, h2⟩ | ⟨_, h1, _⟩
      · exact absurd HOK.out h1
      · exact ⟨h1, h2⟩
      · exact absurd (by omega) h1
    subst hKF
    go_upto_region 23 with fail
    have hb : Below w25.drew.heap.size w25.drew w25.drew.drew := (Below.refl _ _).drew
    replace HW := Lib.hid (HW.out.trans (hb.mono HW.out.size))
    replace HB5 := Lib.hid (Blk.below HB5.out hb (Blk.lt HB5.out))
    replace HT := Lib.hid (HT.out.later hb)
    replace HBY := Lib.hid (HBY.out.later hb)
    replace HT7 := Lib.hid (HT7.out.later hb)
    replace HB7 := Lib.hid (Blk.below HB7.out hb (Blk.lt HB7.out))
    replace HT9 := Lib.hid (HT9.out.later hb)
    replace HB9 := Lib.hid (Blk.below HB9.out hb (Blk.lt HB9.out))
    replace HT11 := Lib.hid (HT11.out.later hb)
    replace HC13 := Lib.hid (HC13.out.later hb)
    replace HC15 := Lib.hid (HC15.out.later hb)
    replace HT17 := Lib.hid (HT17.out.later hb)
    replace HB17 := Lib.hid (Blk.below HB17.out hb (Blk.lt HB17.out))
    replace HT19 := Lib.hid (HT19.out.later hb)
    replace HB21 := Lib.hid (Blk.below HB21.out hb (Blk.lt HB21.out))
    replace HB23 := Lib.hid (Blk.below HB23.out hb (Blk.lt HB23.out))
    replace HC25 := Lib.hid (HC25.out.later hb)
    replace HC27 := Lib.hid (HC27.out.later hb)
    have HR5 : Hid (∀ A, Below w25.drew.drew.heap.size w25.drew.drew A → A.rangeAt b21 0 CF.toList ∧ A.rangeAt bl (ol + t1 * 33 + 1) CF.toList ∧ A.cell? ⟨b5, 32, none⟩ = some (.int .u32 (t : Int))) := Lib.hid fun A hA => ⟨(Blk.below HB21.out hA (Blk.lt HB21.out)).rangeA, by
      obtain ⟨_, _, e, hr⟩ := (HT.out.later hA) t1 (by omega)
      cases e
      rw [← HCF.out, show t - 1 = t1 by omega]
      exact tm_rng hr, (HASK.out A (Blk.below HB5.out hA (Blk.lt HB5.out))).2.1⟩
    have HS25 := HR5
    have HG25 := Lib.hid (HG.out.later HW.out).1
    have hSW0 := HR5.out _ (Below.refl _ _)
    have k1 : (t : Int) - 1 = (t1 : Int) := by omega
    have k2 : IntKind.u32.wrap (t1 : Int) = (t1 : Int) := IntWalk.u32_in _ (by have := HX.out.2.2.1; omega)
    have k3 : (0 : Int) ≤ (t1 : Int) := by omega
    have k4 : (t1 : Int) < (xa : Int) := by omega
    clear hb e32 g1 g2
    refine wp_region_held_drew (S := (fun A => A.rangeAt b21 0 CF.toList ∧ A.rangeAt bl (ol + t1 * 33 + 1) CF.toList ∧ A.cell? ⟨b5, 32, none⟩ = some (.int .u32 (t : Int)))) (by kernel_rfl) ?_ (fun hHeld => ?_)
    · (try dsimp only)
      (first | assumption | (dsimp only; assumption))
    refine wpAnyH_take (i := 0) (oi := { dst := some 234, op := Go.Op.move (Go.Operand.tmp 22), type := 29, pos := "law.go:91", after := #[], guard := none }) (v := ?_) rfl (by kernel_rfl) (by kernel_rfl) (by kernel_rfl) (fun _ _ _ h => h) (Or.inl ⟨by rfl, ?_⟩) (by assumption) ?_
    rotate_left
    · intro wS hSw
      (try dsimp only at hSw)
      go_simp
      (try with_reducible rfl)
    (try simp only [Act.put, List.setIfInBounds_toArray, List.set_cons_zero, List.set_cons_succ])
    refine wpAnyH_take (i := 1) (oi := { dst := some 235, op := Go.Op.binOp Go.BinOp.eql 29 (Go.Operand.tmp 234) (Go.Operand.const Go.Value.nilIface) 29, type := 4, pos := "law.go:91", after := #[{ on := 0, ground := Go.Ground.data }], guard := none }) (v := ?_) rfl (by kernel_rfl) (by kernel_rfl) (by kernel_rfl) (fun _ _ _ h => h) (Or.inl ⟨by rfl, ?_⟩) (by assumption) ?_
    rotate_left
    · intro wS hSw
      (try dsimp only at hSw)
      go_simp
      (try with_reducible rfl)
    (try simp only [Act.put, List.setIfInBounds_toArray, List.set_cons_zero, List.set_cons_succ])
    refine wpAnyH_take (i := 2) (oi := { dst := some 236, op := Go.Op.move (Go.Operand.tmp 235), type := 4, pos := "law.go:91", after := #[{ on := 1, ground := Go.Ground.data }], guard := none }) (v := ?_) rfl (by kernel_rfl) (by kernel_rfl) (by kernel_rfl) (fun _ _ _ h => h) (Or.inl ⟨by rfl, ?_⟩) (by assumption) ?_
    rotate_left
    · intro wS hSw
      (try dsimp only at hSw)
      go_simp
      (try with_reducible rfl)
    (try simp only [Act.put, List.setIfInBounds_toArray, List.set_cons_zero, List.set_cons_succ])
    refine wpAnyH_take (i := 3) (oi := { dst := some 237, op := Go.Op.load 22 (Go.Operand.tmp 21), type := 22, pos := "law.go:91", after := #[{ on := 2, ground := Go.Ground.guard }], guard := some (2, true) }) (v := ?_) rfl (by kernel_rfl) (by kernel_rfl) (by kernel_rfl) (fun _ _ _ h => h) (Or.inl ⟨by rfl, ?_⟩) (by assumption) ?_
    rotate_left
    · intro wS hSw
      (refine exec_loadA (x := .tmp 21) (C := CF) ?_ ?_ hSw.1 Tryd.underlying22 rfl HIF1.out <;> rfl)
    (try simp only [Act.put, List.setIfInBounds_toArray, List.set_cons_zero, List.set_cons_succ])
    refine wpAnyH_take (i := 4) (oi := { dst := some 238, op := Go.Op.move (Go.Operand.tmp 0), type := 44, pos := "law.go:91", after := #[{ on := 2, ground := Go.Ground.guard }], guard := some (2, true) }) (v := ?_) rfl (by kernel_rfl) (by kernel_rfl) (by kernel_rfl) (fun _ _ _ h => h) (Or.inl ⟨by rfl, ?_⟩) (by assumption) ?_
    rotate_left
    · intro wS hSw
      (try dsimp only at hSw)
      go_simp
      (try with_reducible rfl)
    (try simp only [Act.put, List.setIfInBounds_toArray, List.set_cons_zero, List.set_cons_succ])
    refine wpAnyH_take (i := 5) (oi := { dst := some 239, op := Go.Op.fieldAddr 46 (Go.Operand.tmp 5) 1, type := 0, pos := "law.go:91", after := #[{ on := 2, ground := Go.Ground.guard }], guard := some (2, true) }) (v := ?_) rfl (by kernel_rfl) (by kernel_rfl) (by kernel_rfl) (fun _ _ _ h => h) (Or.inl ⟨by rfl, ?_⟩) (by assumption) ?_
    rotate_left
    · intro wS hSw
      (try dsimp only at hSw)
      go_simp
      (try with_reducible rfl)
    (try simp only [Act.put, List.setIfInBounds_toArray, List.set_cons_zero, List.set_cons_succ])
    refine wpAnyH_take (i := 6) (oi := { dst := some 240, op := Go.Op.load 39 (Go.Operand.tmp 239), type := 39, pos := "law.go:91", after := #[{ on := 5, ground := Go.Ground.data }, { on := 2, ground := Go.Ground.guard }], guard := some (2, true) }) (v := ?_) rfl (by kernel_rfl) (by kernel_rfl) (by kernel_rfl) (fun _ _ _ h => h) (Or.inl ⟨by rfl, ?_⟩) (by assumption) ?_
    rotate_left
    · intro wS hSw
      (have c := hSw.2.2; go_simp; (try with_reducible rfl))
    (try simp only [Act.put, List.setIfInBounds_toArray, List.set_cons_zero, List.set_cons_succ])
    refine wpAnyH_take (i := 7) (oi := { dst := some 241, op := Go.Op.binOp Go.BinOp.sub 39 (Go.Operand.tmp 240) (Go.Operand.const (Go.Value.int Go.IntKind.u32 1)) 39, type := 39, pos := "law.go:91", after := #[{ on := 6, ground := Go.Ground.data }, { on := 2, ground := Go.Ground.guard }], guard := some (2, true) }) (v := ?_) rfl (by kernel_rfl) (by kernel_rfl) (by kernel_rfl) (fun _ _ _ h => h) (Or.inl ⟨by rfl, ?_⟩) (by assumption) ?_
    rotate_left
    · intro wS hSw
      (try dsimp only at hSw)
      go_simp
      (try with_reducible rfl)
    (try simp only [Act.put, List.setIfInBounds_toArray, List.set_cons_zero, List.set_cons_succ])
    refine wpAnyH_take (i := 8) (oi := { dst := some 242, op := Go.Op.indexAddr 44 (Go.Operand.tmp 238) (Go.Operand.tmp 241), type := 0, pos := "law.go:91", after := #[{ on := 4, ground := Go.Ground.data }, { on := 7, ground := Go.Ground.data }, { on := 2, ground := Go.Ground.guard }], guard := some (2, true) }) (v := ?_) rfl (by kernel_rfl) (by kernel_rfl) (by kernel_rfl) (fun _ _ _ h => h) (Or.inl ⟨by rfl, ?_⟩) (by assumption) ?_
    rotate_left
    · intro wS hSw
      (try dsimp only at hSw)
      go_simp
      (try with_reducible rfl)
    (try simp only [Act.put, List.setIfInBounds_toArray, List.set_cons_zero, List.set_cons_succ])
    refine wpAnyH_take (i := 9) (oi := { dst := some 243, op := Go.Op.fieldAddr 60 (Go.Operand.tmp 242) 1, type := 0, pos := "law.go:91", after := #[{ on := 8, ground := Go.Ground.data }, { on := 2, ground := Go.Ground.guard }], guard := some (2, true) }) (v := ?_) rfl (by kernel_rfl) (by kernel_rfl) (by kernel_rfl) (fun _ _ _ h => h) (Or.inl ⟨by rfl, ?_⟩) (by assumption) ?_
    rotate_left
    · intro wS hSw
      (try dsimp only at hSw)
      go_simp
      (try with_reducible rfl)
    (try simp only [Act.put, List.setIfInBounds_toArray, List.set_cons_zero, List.set_cons_succ])
    refine wpAnyH_take (i := 10) (oi := { dst := some 244, op := Go.Op.load 22 (Go.Operand.tmp 243), type := 22, pos := "law.go:91", after := #[{ on := 9, ground := Go.Ground.data }, { on := 2, ground := Go.Ground.guard }], guard := some (2, true) }) (v := ?_) rfl (by kernel_rfl) (by kernel_rfl) (by kernel_rfl) (fun _ _ _ h => h) (Or.inl ⟨by rfl, ?_⟩) (by assumption) ?_
    rotate_left
    · intro wS hSw
      (refine exec_loadA (x := .tmp 243) (C := CF) ?_ ?_ hSw.2.1 Tryd.underlying22 rfl HIF1.out <;> rfl)
    (try simp only [Act.put, List.setIfInBounds_toArray, List.set_cons_zero, List.set_cons_succ])
    refine wpAnyH_take (i := 11) (oi := { dst := some 245, op := Go.Op.binOp Go.BinOp.eql 22 (Go.Operand.tmp 237) (Go.Operand.tmp 244) 22, type := 4, pos := "law.go:91", after := #[{ on := 3, ground := Go.Ground.data }, { on := 10, ground := Go.Ground.data }, { on := 2, ground := Go.Ground.guard }], guard := some (2, true) }) (v := ?_) rfl (by kernel_rfl) (by kernel_rfl) (by kernel_rfl) (fun _ _ _ h => h) (Or.inl ⟨by rfl, ?_⟩) (by assumption) ?_
    rotate_left
    · intro wS hSw
      (refine exec_eql32 (x := .tmp 237) (y := .tmp 244) (r := 22) (C := CF) (D := CF) (b := true) ?_ ?_ ?_ HEF.out <;> rfl)
    (try simp only [Act.put, List.setIfInBounds_toArray, List.set_cons_zero, List.set_cons_succ])
    refine wpAnyH_take (i := 12) (oi := { dst := some 246, op := Go.Op.pick (Go.Operand.tmp 236) (Go.Operand.tmp 245) (Go.Operand.const (Go.Value.bool false)), type := 4, pos := "law.go:91", after := #[{ on := 2, ground := Go.Ground.data }, { on := 11, ground := Go.Ground.data }], guard := none }) (v := ?_) rfl (by kernel_rfl) (by kernel_rfl) (by kernel_rfl) (fun _ _ _ h => h) (Or.inl ⟨by rfl, ?_⟩) (by assumption) ?_
    rotate_left
    · intro wS hSw
      (try dsimp only at hSw)
      go_simp
      (try with_reducible rfl)
    (try simp only [Act.put, List.setIfInBounds_toArray, List.set_cons_zero, List.set_cons_succ])
    refine wpAnyH_take (i := 13) (oi := { dst := some 247, op := Go.Op.move (Go.Operand.tmp 246), type := 4, pos := "law.go:91", after := #[{ on := 12, ground := Go.Ground.data }, { on := 2, ground := Go.Ground.chain }], guard := none }) (v := ?_) rfl (by kernel_rfl) (by kernel_rfl) (by kernel_rfl) (fun _ _ _ h => h) (Or.inl ⟨by rfl, ?_⟩) (by assumption) ?_
    rotate_left
    · intro wS hSw
      (try dsimp only at hSw)
      go_simp
      (try with_reducible rfl)
    (try simp only [Act.put, List.setIfInBounds_toArray, List.set_cons_zero, List.set_cons_succ])
    refine wpAnyH_ready (rs := [14]) (by kernel_rfl) (by simp) ?_
    refine AllReadyH.cons (o := { dst := some 248, op := Go.Op.call { callee := Go.Callee.value (Go.Operand.func 12), args := #[], argTypes := #[] }, type := 4, pos := "law.go:91", after := #[{ on := 13, ground := Go.Ground.chain }, { on := 13, ground := Go.Ground.guard }], guard := some (13, true) }) rfl (fun K hK => ?_) AllReadyH.nil
    go_simp
    (refine (sure_any _ HG25.out).mono ?_; rintro e w28 ⟨rfl, hb⟩; have HO28 := Lib.hid (HW.out.trans (hb.mono HW.out.size)); have hS28 := HS25.out _ hb; clear hb; skip)
    (try go_wp2_with fail)
    refine hK.out _ _ ?_ (fun hHeld => ?_)
    · (try dsimp only)
      (first | assumption | (dsimp only; assumption))
    clear hK K
    (try simp only [Act.put, List.setIfInBounds_toArray, List.set_cons_zero, List.set_cons_succ])
    refine wpAnyH_take (i := 15) (oi := { dst := some 249, op := Go.Op.pick (Go.Operand.tmp 247) (Go.Operand.tmp 248) (Go.Operand.const (Go.Value.bool false)), type := 4, pos := "law.go:91", after := #[{ on := 13, ground := Go.Ground.data }, { on := 14, ground := Go.Ground.data }], guard := none }) (v := ?_) rfl (by kernel_rfl) (by kernel_rfl) (by kernel_rfl) (fun _ _ _ h => h) (Or.inl ⟨by rfl, ?_⟩) (by assumption) ?_
    rotate_left
    · intro wS hSw
      (try dsimp only at hSw)
      go_simp
      (try with_reducible rfl)
    (try simp only [Act.put, List.setIfInBounds_toArray, List.set_cons_zero, List.set_cons_succ])
    refine wpAnyH_take (i := 16) (oi := { dst := some 6, op := Go.Op.assign (Go.Operand.tmp 249), type := 4, pos := "law.go:91", after := #[{ on := 15, ground := Go.Ground.data }, { on := 14, ground := Go.Ground.chain }, { on := 0, ground := Go.Ground.phase }, { on := 1, ground := Go.Ground.phase }, { on := 2, ground := Go.Ground.phase }, { on := 3, ground := Go.Ground.phase }, { on := 4, ground := Go.Ground.phase }, { on := 5, ground := Go.Ground.phase }, { on := 6, ground := Go.Ground.phase }, { on := 7, ground := Go.Ground.phase }, { on := 8, ground := Go.Ground.phase }, { on := 9, ground := Go.Ground.phase }, { on := 10, ground := Go.Ground.phase }, { on := 11, ground := Go.Ground.phase }, { on := 12, ground := Go.Ground.phase }, { on := 13, ground := Go.Ground.phase }, { on := 14, ground := Go.Ground.phase }, { on := 15, ground := Go.Ground.phase }], guard := none }) (v := ?_) rfl (by kernel_rfl) (by kernel_rfl) (by kernel_rfl) (fun _ _ _ h => h) (Or.inl ⟨by rfl, ?_⟩) (by assumption) ?_
    rotate_left
    · intro wS hSw
      (try dsimp only at hSw)
      go_simp
      (try with_reducible rfl)
    (try simp only [Act.put, List.setIfInBounds_toArray, List.set_cons_zero, List.set_cons_succ])
    refine wpAnyH_done (by kernel_rfl) ?_ _
    go_wp2_with fail
    go_ret
    exact ⟨rfl, HO28.out⟩
end Go.Proofs.YtloajfbehejehaaDoor
namespace Go.Proofs.YtloajfbehejehaaDoor
set_option linter.unusedVariables false
set_option linter.unusedSimpArgs false
open Go.Deep Go.Joins Go.ChangeShapes Go.WideShapes Go.ChangeAt Go.RowKit
theorem row_terms {H : Type} {enc : TypeId × Value → H} {P : Program} {W : World} {base : Nat} {held : Bool} {fuel : Nat} {TS T U A E : TypeId} {f0 f1 : Field} {cs : List Value} {x : DataW H × List MemPlace}
    (hS : P.underlying TS = some (.slice T)) (hT : P.underlying T = some (.struct #[f0, f1])) (h0 : f0.type = U) (h1 : f1.type = A) (o0 : f0.offset = 0) (o1 : f1.offset = 1) (hU : P.underlying U = some (.int .u32)) (hA : P.underlying A = some (.array 32 E)) (hE : P.underlying E = some (.int .u8))
    (cT : P.cellsOf T = 33) (cU : P.cellsOf U = 1) (cA : P.cellsOf A = 32) (cE : P.cellsOf E = 1) (h : DataW.trod enc P W base (fun _ => true) held fuel TS cs = some x) :
    ∃ oa n cap, ∃ (N : Nat → Nat) (S : Nat → Nat → Nat), cs = [.slice oa n cap] ∧ n ≤ cap ∧ cap ≤ maxLen ∧ (∀ i, N i < 4294967296) ∧ (∀ i j, S i j < 256) ∧ TL W oa n N S := by
  rcases open_slice hS h with ⟨hcs, _⟩ | ⟨a, len, cap, m, n, D, Pl, hcs, _, hl, hm, hmm, _, hx⟩
  · exact ⟨none, 0, 0, fun _ => 0, fun _ _ => 0, hcs, Nat.le_refl _, by unfold maxLen; omega, fun _ => by show (0 : Nat) < 4294967296; omega, fun _ _ => by show (0 : Nat) < 256; omega, TL.nil _ _ _ _⟩
  · have hm' : m = cap := by simpa using hmm
    subst hm'
    have key : ∀ i, ∃ (k : Nat) (f : Nat → Nat), k < 4294967296 ∧ (∀ j, f j < 256) ∧ (i < m → W.cells? base (a.add (i * 33)) 33 = some (tmL k f)) := fun i => by
      by_cases hi : i < m
      · obtain ⟨cs', h1', h2⟩ := hx i hi
        rw [cT] at h1'
        have hlen := (World.cells?_some h1').2.1
        subst h0 h1
        obtain ⟨y0, y1, n', _, _, g0, g1⟩ := trod_struct2 hT h2
        rw [cU, o0, List.drop_zero] at g0
        rw [cA, o1] at g1
        match cs', hlen with
        | v0 :: r, hlen =>
          have t0 : (v0 :: r).take 1 = [v0] := rfl
          have t1 : ((v0 :: r).drop 1).take 32 = r := by
            rw [List.drop_one, List.tail_cons, List.take_of_length_le (by simp at hlen; omega)]
          rw [t0] at g0
          rw [t1] at g1
          obtain ⟨z, e1, _, w1⟩ := DataW.trod_int hU g0
          have e2 : v0 = .int .u32 z := by simpa using e1
          subst e2
          obtain ⟨f, hf, e3⟩ := arr_cells hA hE cA cE g1
          subst e3
          have hz := bd_of_wf_u32 w1
          obtain ⟨k, rfl⟩ := Int.eq_ofNat_of_zero_le hz.1
          exact ⟨k, f, by have := hz.2; omega, hf, fun _ => h1'⟩
      · exact ⟨0, fun _ => 0, by omega, fun _ => by show (0 : Nat) < 256; omega, fun h => absurd h hi⟩
    refine ⟨some a, len, m, fun i => (key i).choose, fun i => (key i).choose_spec.choose, hcs, hl, hm, fun i => (key i).choose_spec.choose_spec.1, fun i => (key i).choose_spec.choose_spec.2.1, fun i hi => ?_⟩
    have h1 := (key i).choose_spec.choose_spec.2.2 (by omega)
    have hc := (World.cells?_some h1).2.2
    obtain ⟨b, off, spot⟩ := a
    have c0 := (World.cells?_some ((key 0).choose_spec.choose_spec.2.2 (by omega))).2.2 0 (by omega)
    have hspot : spot = none := by
      have := World.cell?_spot (v := .int .u32 ((key 0).choose : Int)) (by rw [c0]; rfl)
      simpa [Addr.add] using this
    subst hspot
    refine ⟨b, off, rfl, fun j v hv => ?_⟩
    have hj : j < 33 := by have := (List.getElem?_eq_some_iff.1 hv).1; rwa [tmL_len] at this
    have h2 := hc j hj
    rw [hv, add_add] at h2
    have ha : (Addr.mk b off none).add (i * 33 + j) = ⟨b, off + i * 33 + j, none⟩ := by
      unfold Addr.add; split
      · rename_i hk0; rw [show off + i * 33 + j = off by omega]
      · rw [← Nat.add_assoc]
    rw [ha] at h2; exact h2
end Go.Proofs.YtloajfbehejehaaDoor
namespace Go.Proofs.YtloajfbehejehaaDoor
set_option linter.unusedVariables false
set_option linter.unusedSimpArgs false
open Go.Deep Go.Joins Go.ChangeShapes Go.WideShapes Go.ChangeAt Go.RowKit
theorem ask_open {H : Type} {enc : TypeId × Value → H} {P : Program} {W : World} {r : Reach} {b0 base : Nat} {spare : Nat → Bool} {held : Bool} {T A U ST E : TypeId} {f0 f1 f2 : Field} {v : Value} {d : DataW H} {p : List MemPlace}
    (hT : P.underlying T = some (.struct #[f0, f1, f2])) (h0 : f0.type = A) (h1 : f1.type = U) (h2 : f2.type = ST) (o0 : f0.offset = 0) (o1 : f1.offset = 32) (o2 : f2.offset = 33)
    (hA : P.underlying A = some (.array 32 E)) (hE : P.underlying E = some (.int .u8)) (hU : P.underlying U = some (.int .u32)) (hS : P.underlying ST = some .string)
    (cT : P.cellsOf T = 34) (cA : P.cellsOf A = 32) (cE : P.cellsOf E = 1) (cU : P.cellsOf U = 1) (cS : P.cellsOf ST = 1)
    (hv : Value.okWide P W r b0 T v) (h : DataW.Trod enc P W base spare held T v d p) :
    ∃ (f : Nat → Nat) (k : Nat) (s : ByteArray), v = .agg (askC f k s) ∧ (∀ i, f i < 256) ∧ k < 4294967296 ∧ s.size ≤ maxLen := by
  obtain ⟨cs, rfl, hsz⟩ := okWide_struct hT hv
  rw [cT] at hsz
  obtain ⟨m, hf⟩ := h
  subst h0 h1 h2
  obtain ⟨y0, y1, y2, n, _, _, g0, g1, g2⟩ := trod_struct3 hT hf
  have hc : (Value.agg cs).cells.toList = cs.toList := rfl
  rw [hc] at g0 g1 g2
  rw [cA, o0, List.drop_zero] at g0
  rw [cU, o1] at g1
  rw [cS, o2] at g2
  have hl : cs.toList.length = 34 := by simpa using hsz
  have e1 : (cs.toList.drop 32).take 1 = [cs.toList[32]] := by rw [List.drop_eq_getElem_cons (by omega)]; rfl
  have e2 : (cs.toList.drop 33).take 1 = [cs.toList[33]] := by rw [List.drop_eq_getElem_cons (by omega)]; rfl
  rw [e1] at g1
  rw [e2] at g2
  obtain ⟨f, hf8, e0⟩ := arr_cells hA hE cA cE g0
  obtain ⟨z, z1, _, w1⟩ := DataW.trod_int hU g1
  have hz := bd_of_wf_u32 w1
  obtain ⟨k, rfl⟩ := Int.eq_ofNat_of_zero_le hz.1
  obtain ⟨s, s1, _, hs⟩ := DataW.trod_string hS g2
  have z2 : cs.toList[32] = .int .u32 (k : Int) := by simpa using z1
  have s2 : cs.toList[33] = .string s := by simpa using s1
  refine ⟨f, k, s, ?_, hf8, by have := hz.2; omega, hs⟩
  have hcs : cs.toList = rowC 32 f ++ [Value.int .u32 (k : Int), Value.string s] := by
    rw [← List.take_append_drop 32 cs.toList, e0, List.drop_eq_getElem_cons (by omega), z2, List.drop_eq_getElem_cons (by omega), s2, List.drop_of_length_le (by omega)]
  unfold askC
  rw [← hcs]
end Go.Proofs.YtloajfbehejehaaDoor
