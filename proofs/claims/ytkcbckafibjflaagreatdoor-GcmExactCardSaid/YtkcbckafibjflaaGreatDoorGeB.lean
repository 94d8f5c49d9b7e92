/- The document's GCM: Seal. The document's GCM: Open. The document's GCM: what is refused by its length. The document's GCM: Open refused. The document's GCM: Open of a tag that does not fit. -/
import Derived.Test.YtkcbckafibjflaaGreatDoorGeA
namespace Go.Proofs.YtkcbckafibjflaaGreatDoor
set_option linter.unusedVariables false
set_option linter.unusedSimpArgs false
open Go.RowKit
theorem ky_loads {w1 : World} {bk : Nat} {W : Nat → Nat} (hk : Blk w1 bk (kyC W) 42) : ∀ A, Below w1.heap.size w1 A → (loadVar 42 ⟨bk, 0, none⟩).run Tryz.prog A = .ok (.agg (kyC W)) A := fun A hA => by
  have h8 := Blk.below hk hA (Blk.lt hk)
  exact run_loadVar_mid A bk 0 42 (kyL W) _ (Blk.range (C := kyL W) h8) Tryz.underlying42 rfl (by rw [show (kyL W).length = 512 by unfold kyL; simp [rowC_len]]; exact info_ky)
theorem a16_bytes {w : World} {b : Nat} {f : Nat → Nat} (h : Blk w b (rowC 16 f).toArray 40) (hf : ∀ i, i < 16 → f i < 256) : Bytes w (some ⟨b, 0, none⟩) 16 f := fun k hk => ⟨hf k hk, b, 0, rfl, by
  rw [Nat.zero_add, Blk.cell h k, List.getElem?_toArray, rowC_get _ hk]⟩
set_option maxRecDepth 100000 in
set_option maxHeartbeats 8000000 in
theorem rseal_ok (W nn p a : Nat → Nat) (n an : Nat) (on ob oa : Option Addr) (capn cb ca : Nat) (w : World) (hn : Bytes w on 12 nn) (hp : Bytes w ob n p) (ha : Bytes w oa an a) (h5 : n ≤ 2048) (h6 : an ≤ 2048) :
    Calls Tryz.prog 11 #[.agg (kyC W), .slice on 12 capn, .slice ob n cb, .slice oa an ca] w fun e w' => ∃ v, e = .returned (.tuple #[v, .int .i64 0]) ∧ Grow w' w.heap.size v (n + 16) (boxF W nn p n a an) ∧ Below w.heap.size w w' := by
  obtain ⟨bk, hbk⟩ : ∃ y, w.heap.size = y := ⟨_, rfl⟩
  obtain ⟨w1, hw1⟩ : ∃ y, w.alloc (.cells (kyC W) 42) = y := ⟨_, rfl⟩
  have hb1 : Below w.heap.size w w1 := by rw [← hw1]; exact (Below.refl _ _).alloc (Nat.le_refl _) _
  have hk1 : Blk w1 bk (kyC W) 42 := by rw [← hw1, ← hbk]; exact Blk.new _ _ _
  have hld := ky_loads hk1
  obtain ⟨KC, hKC⟩ : ∃ y, kyC W = y := ⟨_, rfl⟩
  rw [hKC] at hld hw1
  have HLK : Hid (∀ A, Below w1.heap.size w1 A → (loadVar 42 ⟨bk, 0, none⟩).run Tryz.prog A = .ok (.agg KC) A) := Lib.hid hld
  have HCI : Hid (Calls Tryz.prog 20 #[.agg KC, .slice on 12 capn, .slice ob n cb] w1 fun e w' => ∃ v, e = .returned v ∧ Grow w' w1.heap.size v n (cphF W nn p) ∧ Below w1.heap.size w1 w') := Lib.hid (by
    rw [← hKC]; exact rcipher_any W nn p n on ob capn cb w1 (hn.later hb1) (hp.later hb1) (by omega))
  have HTG : Hid (∀ (A : World) (oc : Option Addr) (cc : Nat), Below w1.heap.size w1 A → Bytes A oc n (cphF W nn p) → Calls Tryz.prog 21 #[.agg KC, .slice on 12 capn, .slice oc n cc, .slice oa an ca] A (TgP A (rowC 16 (tgF W nn a an (cphF W nn p) n)).toArray)) := Lib.hid fun A oc cc hA hB => by
    rw [← hKC]; exact rtag_any W nn (cphF W nn p) a n an on oc oa capn cc ca A ((hn.later hb1).later hA) hB ((ha.later hb1).later hA) (by omega) (by omega)
  have HNL := Lib.hid (show (∀ i, i < 12 → nn i < 256) ∧ (∀ i, i < n → p i < 256) from ⟨fun i hi => (hn i hi).1, fun i hi => (hp i hi).1⟩)
  have HB1 := Lib.hid hb1
  have HN5 := Lib.hid h5
  have n0 : (n : Int) ≤ 2048 := by omega
  have a0 : (an : Int) ≤ 2048 := by omega
  have n1 : ¬ (2048 : Int) < (n : Int) := by omega
  have a1 : ¬ (2048 : Int) < (an : Int) := by omega
  have n2 : decide ((2048 : Int) < (n : Int)) = false := decide_eq_false n1
  have a2 : decide ((2048 : Int) < (an : Int)) = false := decide_eq_false a1
  have c9 := hld w1 (Below.refl _ _)
  rw [hKC]
  clear hb1 hk1 hKC hn hp ha h5 h6 hld
  go_enter Tryz.func11, Tryz.ntmps11
  go_wp2_with (first | (refine wpList_value rfl (exec_loadC (ty := 42) (v := .agg KC) (b := bk) (f := 0) (x := .tmp 4) rfl rfl c9) ?_))
  refine HCI.out.mono ?_
  rintro e w2 ⟨v, rfl, hG, hb2⟩
  obtain ⟨oc, cc, rfl, hBc, _, hno⟩ := hG.bytesC (cphF_lt HNL.out.1 HNL.out.2)
  have HG2 := Lib.hid hG
  have HB2 := Lib.hid hb2
  have HT2 := Lib.hid (HTG.out w2 oc cc hb2 hBc)
  have d9 := HLK.out w2 hb2
  clear hG hb2 hBc hno HCI c9
  go_wp2_with (first | (refine wpList_value rfl (exec_loadC (ty := 42) (v := .agg KC) (b := bk) (f := 0) (x := .tmp 4) rfl rfl d9) ?_))
  refine HT2.out.mono ?_
  rintro e w3 ⟨bt, rfl, hkt, hb3⟩
  have HG3 := Lib.hid (HG2.out.later hb3)
  have HB3 := Lib.hid (HB2.out.trans (hb3.mono HB2.out.size))
  have HBT := Lib.hid (a16_bytes hkt (tgF_lt HNL.out.1))
  clear hkt hb3 d9 HT2
  go_wp2_with (first | (at_builtin; refine wpList_appO rfl (.tmp 28) (.tmp 33) rfl w1.heap.size (.slice oc n cc) n 16 16 (some ⟨bt, 0, none⟩) (cphF W nn p) (tgF W nn a an (cphF W nn p) n) w3 rfl HG3.out rfl (fun e => by cases e) HBT.out (by have := HN5.out; omega) HB3.out.size ?_
                        intro v6 w6 hG6 hg6 hob6
                        have HG6 := Lib.hid hG6
                        have HB6 := Lib.hid (HB3.out.trans (grow_bel HG3.out HB3.out.size hg6))
                        clear hG6 hg6 hob6
                        refine Hid.out ?_))
  refine Lib.hid ?_
  go_wp2_with fail
  refine bodyPost_ret (results_tmp2 rfl _ _ _) rfl ?_
  have h9 := HB1.out.trans (HB6.out.mono HB1.out.size)
  have h8 : Grow w6 w.heap.size v6 (n + 16) (boxF W nn p n a an) := owns_lowE HG6.out HB1.out.size
  first | exact ⟨v6, rfl, h8, h9⟩ | (rw [hbk] at h8 h9; exact ⟨v6, rfl, h8, h9⟩)
end Go.Proofs.YtkcbckafibjflaaGreatDoor
namespace Go.Proofs.YtkcbckafibjflaaGreatDoor
set_option linter.unusedVariables false
set_option linter.unusedSimpArgs false
open Go.RowKit
set_option maxRecDepth 100000 in
set_option maxHeartbeats 8000000 in
theorem ropen_any (W nn q a : Nat → Nat) (n an bo oo : Nat) (on oa : Option Addr) (capn cb ca : Nat) (w : World) (hn : Bytes w on 12 nn) (hp : Bytes w (some ⟨bo, oo, none⟩) (n + 16) q) (ha : Bytes w oa an a) (h4 : n + 16 ≤ cb) (h4m : cb ≤ maxLen) (h5 : n ≤ 2048) (h6 : an ≤ 2048) (hq : ∀ i, i < 16 → tgF W nn a an q n i = q (n + i)) :
    Calls Tryz.prog 12 #[.agg (kyC W), .slice on 12 capn, .slice (some ⟨bo, oo, none⟩) (n + 16) cb, .slice oa an ca] w fun e w' => ∃ v, e = .returned (.tuple #[v, .int .i64 0]) ∧ Grow w' w.heap.size v n (cphF W nn q) ∧ Below w.heap.size w w' := by
  obtain ⟨bk, hbk⟩ : ∃ y, w.heap.size = y := ⟨_, rfl⟩
  obtain ⟨w1, hw1⟩ : ∃ y, w.alloc (.cells (kyC W) 42) = y := ⟨_, rfl⟩
  have hb1 : Below w.heap.size w w1 := by rw [← hw1]; exact (Below.refl _ _).alloc (Nat.le_refl _) _
  have hk1 : Blk w1 bk (kyC W) 42 := by rw [← hw1, ← hbk]; exact Blk.new _ _ _
  have hbd := (Below.refl w1.heap.size w1).drew
  have hld := ky_loads hk1
  obtain ⟨KC, hKC⟩ : ∃ y, kyC W = y := ⟨_, rfl⟩
  rw [hKC] at hld hw1
  have HLK : Hid (∀ A, Below w1.heap.size w1 A → (loadVar 42 ⟨bk, 0, none⟩).run Tryz.prog A = .ok (.agg KC) A) := Lib.hid hld
  have HW1 := Lib.hid hbd
  have hp1 := hp.later hb1
  have HTG : Hid (∀ (A : World), Below w1.drew.heap.size w1.drew A → Calls Tryz.prog 21 #[.agg KC, .slice on 12 capn, .slice (some ⟨bo, oo, none⟩) n cb, .slice oa an ca] A (TgP A (rowC 16 (tgF W nn a an q n)).toArray)) := Lib.hid fun A hA => by
    have hA1 := hbd.trans (hA.mono hbd.size)
    rw [← hKC]; exact rtag_any W nn q a n an on _ oa capn cb ca A ((hn.later hb1).later hA1) ((hp1.mono (by omega)).later hA1) ((ha.later hb1).later hA1) (by omega) (by omega)
  have HCI : Hid (∀ (A : World), Below w1.heap.size w1 A → Calls Tryz.prog 20 #[.agg KC, .slice on 12 capn, .slice (some ⟨bo, oo, none⟩) n cb] A fun e w' => ∃ v, e = .returned v ∧ Grow w' A.heap.size v n (cphF W nn q) ∧ Below A.heap.size A w') := Lib.hid fun A hA => by
    rw [← hKC]; exact rcipher_any W nn q n on _ capn cb A ((hn.later hb1).later hA) ((hp1.mono (by omega)).later hA) (by omega)
  have HNL := Lib.hid (show (∀ i, i < 12 → nn i < 256) ∧ True from ⟨fun i hi => (hn i hi).1, trivial⟩)
  have HQB : Hid (Bytes w1.drew (some ⟨bo, oo + n, none⟩) 16 (fun i => q (n + i))) := Lib.hid fun i hi => by
    obtain ⟨g1, b, off, g2, g3⟩ := (hp1.later hbd) (n + i) (by omega)
    cases g2
    exact ⟨g1, bo, oo + n, rfl, by rw [Nat.add_assoc]; exact g3⟩
  obtain ⟨S1, hS1⟩ : ∃ y, strF 16 (tgF W nn a an q n) = y := ⟨_, rfl⟩
  have HS1 := Lib.hid hS1
  have HS2 : Hid (strF 16 (fun i => q (n + i)) = S1) := Lib.hid (by rw [← hS1]; exact (strF_congr hq).symm)
  have HB1 := Lib.hid hb1
  have HN5 := Lib.hid (show n ≤ 2048 ∧ n + 16 ≤ cb ∧ cb ≤ maxLen from ⟨h5, h4, h4m⟩)
  have n0 : ((n : Int) + 16) ≤ 2064 := by omega
  have a0 : (an : Int) ≤ 2048 := by omega
  have n1 : ¬ (2064 : Int) < (n : Int) + 16 := by omega
  have a1 : ¬ (2048 : Int) < (an : Int) := by omega
  have n2 : decide ((2064 : Int) < (n : Int) + 16) = false := decide_eq_false n1
  have a2 : decide ((2048 : Int) < (an : Int)) = false := decide_eq_false a1
  have n3 : IntKind.i64.wrap ((n : Int) + 16 - 16) = (n : Int) := by rw [IntWalk.i64_in _ (by omega)]; omega
  have n4 : (n : Int) + 16 - 16 = (n : Int) := by omega
  have n6 : ¬ (n : Int) < 0 := by omega
  have n7 : decide ((n : Int) < 0) = false := decide_eq_false n6
  have n8 : ¬ cb = n := by omega
  have n9 : (n : Int) ≤ (cb : Int) := by omega
  have m1 : n ≤ cb := by omega
  have m2 : (n : Int) ≤ (n : Int) + 16 := by omega
  have m3 : n ≤ n + 16 := by omega
  have m4 : n + 16 - n = 16 := by omega
  rw [hKC]
  clear hb1 hk1 hKC hn hp ha h5 h6 hld hbd hp1 hq hS1 h4 h4m
  go_enter Tryz.func12, Tryz.ntmps12
  go_wp2_with fail
  go_upto_region 4 with fail
  refine wp_region_held_drew (S := (Below w1.drew.heap.size w1.drew)) (by kernel_rfl) ?_ (fun hHeld => ?_)
  · (try dsimp only)
    (first | exact Below.refl _ _ | assumption)
  generalize w1.drew = WR at *
  refine wpAnyH_take (i := 0) (oi := { dst := some 27, op := Go.Op.move (Go.Operand.tmp 10), type := 3, pos := "ref.go:74", after := #[], guard := none }) (v := ?_) rfl (by kernel_rfl) (by kernel_rfl) (by kernel_rfl) (fun _ _ _ h => h) (Or.inl ⟨by rfl, ?_⟩) (by assumption) ?_
  rotate_left
  · intro wS hSw
    (try dsimp only at hSw)
    go_simp
    (try with_reducible rfl)
  (try simp only [Act.put, List.setIfInBounds_toArray, List.set_cons_zero, List.set_cons_succ])
  refine wpAnyH_take (i := 1) (oi := { dst := some 28, op := Go.Op.binOp Go.BinOp.lss 3 (Go.Operand.tmp 27) (Go.Operand.const (Go.Value.int Go.IntKind.i64 0)) 3, type := 4, pos := "ref.go:74", after := #[{ on := 0, ground := Go.Ground.data }], guard := none }) (v := ?_) rfl (by kernel_rfl) (by kernel_rfl) (by kernel_rfl) (fun _ _ _ h => h) (Or.inl ⟨by rfl, ?_⟩) (by assumption) ?_
  rotate_left
  · intro wS hSw
    (try dsimp only at hSw)
    go_simp
    (try with_reducible rfl)
  (try simp only [Act.put, List.setIfInBounds_toArray, List.set_cons_zero, List.set_cons_succ])
  refine wpAnyH_take (i := 2) (oi := { dst := some 29, op := Go.Op.move (Go.Operand.tmp 28), type := 4, pos := "ref.go:74", after := #[{ on := 1, ground := Go.Ground.data }], guard := none }) (v := ?_) rfl (by kernel_rfl) (by kernel_rfl) (by kernel_rfl) (fun _ _ _ h => h) (Or.inl ⟨by rfl, ?_⟩) (by assumption) ?_
  rotate_left
  · intro wS hSw
    (try dsimp only at hSw)
    go_simp
    (try with_reducible rfl)
  (try simp only [Act.put, List.setIfInBounds_toArray, List.set_cons_zero, List.set_cons_succ])
  refine wpAnyH_take (i := 3) (oi := { dst := some 30, op := Go.Op.load 42 (Go.Operand.tmp 4), type := 42, pos := "ref.go:74", after := #[{ on := 2, ground := Go.Ground.guard }], guard := some (2, false) }) (v := ?_) rfl (by kernel_rfl) (by kernel_rfl) (by kernel_rfl) (fun _ _ _ h => h) (Or.inl ⟨by rfl, ?_⟩) (by assumption) ?_
  rotate_left
  · intro wS hSw
    (have c9 := HLK.out wS (HW1.out.trans (hSw.mono HW1.out.size)); refine exec_loadC (ty := 42) (v := .agg KC) (b := bk) (f := 0) (x := .tmp 4) ?_ ?_ c9 <;> rfl)
  (try simp only [Act.put, List.setIfInBounds_toArray, List.set_cons_zero, List.set_cons_succ])
  refine wpAnyH_take (i := 4) (oi := { dst := some 31, op := Go.Op.move (Go.Operand.tmp 1), type := 22, pos := "ref.go:74", after := #[{ on := 2, ground := Go.Ground.guard }], guard := some (2, false) }) (v := ?_) rfl (by kernel_rfl) (by kernel_rfl) (by kernel_rfl) (fun _ _ _ h => h) (Or.inl ⟨by rfl, ?_⟩) (by assumption) ?_
  rotate_left
  · intro wS hSw
    (try dsimp only at hSw)
    go_simp
    (try with_reducible rfl)
  (try simp only [Act.put, List.setIfInBounds_toArray, List.set_cons_zero, List.set_cons_succ])
  refine wpAnyH_take (i := 5) (oi := { dst := some 32, op := Go.Op.move (Go.Operand.tmp 2), type := 22, pos := "ref.go:74", after := #[{ on := 2, ground := Go.Ground.guard }], guard := some (2, false) }) (v := ?_) rfl (by kernel_rfl) (by kernel_rfl) (by kernel_rfl) (fun _ _ _ h => h) (Or.inl ⟨by rfl, ?_⟩) (by assumption) ?_
  rotate_left
  · intro wS hSw
    (try dsimp only at hSw)
    go_simp
    (try with_reducible rfl)
  (try simp only [Act.put, List.setIfInBounds_toArray, List.set_cons_zero, List.set_cons_succ])
  refine wpAnyH_take (i := 6) (oi := { dst := some 33, op := Go.Op.move (Go.Operand.tmp 10), type := 3, pos := "ref.go:74", after := #[{ on := 2, ground := Go.Ground.guard }], guard := some (2, false) }) (v := ?_) rfl (by kernel_rfl) (by kernel_rfl) (by kernel_rfl) (fun _ _ _ h => h) (Or.inl ⟨by rfl, ?_⟩) (by assumption) ?_
  rotate_left
  · intro wS hSw
    (try dsimp only at hSw)
    go_simp
    (try with_reducible rfl)
  (try simp only [Act.put, List.setIfInBounds_toArray, List.set_cons_zero, List.set_cons_succ])
  refine wpAnyH_take (i := 7) (oi := { dst := some 34, op := Go.Op.slice 22 (Go.Operand.tmp 32) none (some (Go.Operand.tmp 33)) none, type := 22, pos := "ref.go:74", after := #[{ on := 5, ground := Go.Ground.data }, { on := 6, ground := Go.Ground.data }, { on := 2, ground := Go.Ground.guard }], guard := some (2, false) }) (v := ?_) rfl (by kernel_rfl) (by kernel_rfl) (by kernel_rfl) (fun _ _ _ h => h) (Or.inl ⟨by rfl, ?_⟩) (by assumption) ?_
  rotate_left
  · intro wS hSw
    (try dsimp only at hSw)
    go_simp
    (try with_reducible rfl)
  (try simp only [Act.put, List.setIfInBounds_toArray, List.set_cons_zero, List.set_cons_succ])
  refine wpAnyH_take (i := 8) (oi := { dst := some 35, op := Go.Op.move (Go.Operand.tmp 3), type := 22, pos := "ref.go:74", after := #[{ on := 2, ground := Go.Ground.guard }], guard := some (2, false) }) (v := ?_) rfl (by kernel_rfl) (by kernel_rfl) (by kernel_rfl) (fun _ _ _ h => h) (Or.inl ⟨by rfl, ?_⟩) (by assumption) ?_
  rotate_left
  · intro wS hSw
    (try dsimp only at hSw)
    go_simp
    (try with_reducible rfl)
  (try simp only [Act.put, List.setIfInBounds_toArray, List.set_cons_zero, List.set_cons_succ])
  refine wpAnyH_take (i := 11) (oi := { dst := some 38, op := Go.Op.move (Go.Operand.tmp 2), type := 22, pos := "ref.go:74", after := #[{ on := 2, ground := Go.Ground.guard }], guard := some (2, false) }) (v := ?_) rfl (by kernel_rfl) (by kernel_rfl) (by kernel_rfl) (fun _ _ _ h => h) (Or.inl ⟨by rfl, ?_⟩) (by assumption) ?_
  rotate_left
  · intro wS hSw
    (try dsimp only at hSw)
    go_simp
    (try with_reducible rfl)
  (try simp only [Act.put, List.setIfInBounds_toArray, List.set_cons_zero, List.set_cons_succ])
  refine wpAnyH_take (i := 12) (oi := { dst := some 39, op := Go.Op.move (Go.Operand.tmp 10), type := 3, pos := "ref.go:74", after := #[{ on := 2, ground := Go.Ground.guard }], guard := some (2, false) }) (v := ?_) rfl (by kernel_rfl) (by kernel_rfl) (by kernel_rfl) (fun _ _ _ h => h) (Or.inl ⟨by rfl, ?_⟩) (by assumption) ?_
  rotate_left
  · intro wS hSw
    (try dsimp only at hSw)
    go_simp
    (try with_reducible rfl)
  (try simp only [Act.put, List.setIfInBounds_toArray, List.set_cons_zero, List.set_cons_succ])
  refine wpAnyH_take (i := 13) (oi := { dst := some 40, op := Go.Op.slice 22 (Go.Operand.tmp 38) (some (Go.Operand.tmp 39)) none none, type := 22, pos := "ref.go:74", after := #[{ on := 11, ground := Go.Ground.data }, { on := 12, ground := Go.Ground.data }, { on := 2, ground := Go.Ground.guard }], guard := some (2, false) }) (v := ?_) rfl (by kernel_rfl) (by kernel_rfl) (by kernel_rfl) (fun _ _ _ h => h) (Or.inl ⟨by rfl, ?_⟩) (by assumption) ?_
  rotate_left
  · intro wS hSw
    (try dsimp only at hSw)
    go_simp
    (try with_reducible rfl)
  (try simp only [Act.put, List.setIfInBounds_toArray, List.set_cons_zero, List.set_cons_succ])
  refine wpAnyH_take (i := 14) (oi := { dst := some 41, op := Go.Op.convert 22 9 (Go.Operand.tmp 40), type := 9, pos := "ref.go:74", after := #[{ on := 13, ground := Go.Ground.data }, { on := 2, ground := Go.Ground.guard }], guard := some (2, false) }) (v := ?_) rfl (by kernel_rfl) (by kernel_rfl) (by kernel_rfl) (fun _ _ _ h => h) (Or.inl ⟨by rfl, ?_⟩) (by assumption) ?_
  rotate_left
  · intro wS hSw
    (have cvq := conv_any (cap := cb - n) (HQB.out.later hSw) (fun e => by cases e); rw [HS2.out] at cvq; go_simp; (try with_reducible rfl))
  (try simp only [Act.put, List.setIfInBounds_toArray, List.set_cons_zero, List.set_cons_succ])
  refine wpAnyH_ready (rs := [9]) (by kernel_rfl) (by simp) ?_
  refine AllReadyH.cons (o := { dst := some 36, op := Go.Op.call { callee := Go.Callee.value (Go.Operand.func 21), args := #[Go.Operand.tmp 30, Go.Operand.tmp 31, Go.Operand.tmp 34, Go.Operand.tmp 35], argTypes := #[42, 22, 22, 22] }, type := 22, pos := "ref.go:74", after := #[{ on := 3, ground := Go.Ground.data }, { on := 4, ground := Go.Ground.data }, { on := 7, ground := Go.Ground.data }, { on := 8, ground := Go.Ground.data }, { on := 2, ground := Go.Ground.chain }, { on := 2, ground := Go.Ground.guard }], guard := some (2, false) }) rfl (fun K hK => ?_) AllReadyH.nil
  go_simp
  (refine (HTG.out WR (Below.refl _ _)).mono ?_; rintro e V1 ⟨bt, rfl, hkt, hb3⟩; have HB3 := Lib.hid hb3; have HCV := Lib.hid (conv_any (cap := 16) (a16_bytes hkt (tgF_lt HNL.out.1)) (fun e => by cases e)); clear hkt; skip)
  (try go_wp2_with fail)
  refine hK.out _ _ ?_ (fun hHeld => ?_)
  · (try dsimp only)
    (first | exact Below.refl _ _ | assumption)
  clear hK K
  (try simp only [Act.put, List.setIfInBounds_toArray, List.set_cons_zero, List.set_cons_succ])
  refine wpAnyH_ready (rs := [10]) (by kernel_rfl) (by simp) ?_
  refine AllReadyH.cons (o := { dst := some 37, op := Go.Op.convert 22 9 (Go.Operand.tmp 36), type := 9, pos := "ref.go:74", after := #[{ on := 9, ground := Go.Ground.data }, { on := 2, ground := Go.Ground.guard }], guard := some (2, false) }) rfl (fun K hK => ?_) AllReadyH.nil
  (refine step_valueG (v := .string S1) (by rfl) (by (have cvq := HCV.out; rw [HS1.out] at cvq; go_simp; (try with_reducible rfl))) ?_; skip)
  refine hK.out _ _ ?_ (fun hHeld => ?_)
  · (try dsimp only)
    (first | exact Below.refl _ _ | assumption)
  clear hK K
  (try simp only [Act.put, List.setIfInBounds_toArray, List.set_cons_zero, List.set_cons_succ])
  refine wpAnyH_take (i := 15) (oi := { dst := some 42, op := Go.Op.binOp Go.BinOp.neq 9 (Go.Operand.tmp 37) (Go.Operand.tmp 41) 9, type := 4, pos := "ref.go:74", after := #[{ on := 10, ground := Go.Ground.data }, { on := 14, ground := Go.Ground.data }, { on := 2, ground := Go.Ground.guard }], guard := some (2, false) }) (v := ?_) rfl (by kernel_rfl) (by kernel_rfl) (by kernel_rfl) (fun _ _ _ h => h) (Or.inl ⟨by rfl, ?_⟩) (by assumption) ?_
  rotate_left
  · intro wS hSw
    (try dsimp only at hSw)
    go_simp
    (try with_reducible rfl)
  (try simp only [Act.put, List.setIfInBounds_toArray, List.set_cons_zero, List.set_cons_succ])
  refine wpAnyH_take (i := 16) (oi := { dst := some 43, op := Go.Op.pick (Go.Operand.tmp 29) (Go.Operand.const (Go.Value.bool true)) (Go.Operand.tmp 42), type := 4, pos := "ref.go:74", after := #[{ on := 2, ground := Go.Ground.data }, { on := 15, ground := Go.Ground.data }], guard := none }) (v := ?_) rfl (by kernel_rfl) (by kernel_rfl) (by kernel_rfl) (fun _ _ _ h => h) (Or.inl ⟨by rfl, ?_⟩) (by assumption) ?_
  rotate_left
  · intro wS hSw
    (try dsimp only at hSw)
    go_simp
    (try with_reducible rfl)
  (try simp only [Act.put, List.setIfInBounds_toArray, List.set_cons_zero, List.set_cons_succ])
  refine wpAnyH_done (by kernel_rfl) ?_ _
  go_wp2_with fail
  go_upto_region 6 with fail
  have hV1 := HW1.out.trans (HB3.out.mono HW1.out.size)
  have hVD := hV1.trans ((Below.refl V1.heap.size V1).drew.mono hV1.size)
  have HVD := Lib.hid hVD
  clear hVD hV1 hb3

  refine wp_region_held_drew (S := (Below V1.drew.heap.size V1.drew)) (by kernel_rfl) ?_ (fun hHeld => ?_)
  · (try dsimp only)
    (first | exact Below.refl _ _ | assumption)
  generalize V1.drew = WQ at *
  refine wpAnyH_take (i := 0) (oi := { dst := some 44, op := Go.Op.load 42 (Go.Operand.tmp 4), type := 42, pos := "ref.go:77", after := #[], guard := none }) (v := ?_) rfl (by kernel_rfl) (by kernel_rfl) (by kernel_rfl) (fun _ _ _ h => h) (Or.inl ⟨by rfl, ?_⟩) (by assumption) ?_
  rotate_left
  · intro wS hSw
    (have c9 := HLK.out wS (HVD.out.trans (hSw.mono HVD.out.size)); refine exec_loadC (ty := 42) (v := .agg KC) (b := bk) (f := 0) (x := .tmp 4) ?_ ?_ c9 <;> rfl)
  (try simp only [Act.put, List.setIfInBounds_toArray, List.set_cons_zero, List.set_cons_succ])
  refine wpAnyH_take (i := 1) (oi := { dst := some 45, op := Go.Op.move (Go.Operand.tmp 1), type := 22, pos := "ref.go:77", after := #[], guard := none }) (v := ?_) rfl (by kernel_rfl) (by kernel_rfl) (by kernel_rfl) (fun _ _ _ h => h) (Or.inl ⟨by rfl, ?_⟩) (by assumption) ?_
  rotate_left
  · intro wS hSw
    (try dsimp only at hSw)
    go_simp
    (try with_reducible rfl)
  (try simp only [Act.put, List.setIfInBounds_toArray, List.set_cons_zero, List.set_cons_succ])
  refine wpAnyH_take (i := 2) (oi := { dst := some 46, op := Go.Op.move (Go.Operand.tmp 2), type := 22, pos := "ref.go:77", after := #[], guard := none }) (v := ?_) rfl (by kernel_rfl) (by kernel_rfl) (by kernel_rfl) (fun _ _ _ h => h) (Or.inl ⟨by rfl, ?_⟩) (by assumption) ?_
  rotate_left
  · intro wS hSw
    (try dsimp only at hSw)
    go_simp
    (try with_reducible rfl)
  (try simp only [Act.put, List.setIfInBounds_toArray, List.set_cons_zero, List.set_cons_succ])
  refine wpAnyH_take (i := 3) (oi := { dst := some 47, op := Go.Op.move (Go.Operand.tmp 10), type := 3, pos := "ref.go:77", after := #[], guard := none }) (v := ?_) rfl (by kernel_rfl) (by kernel_rfl) (by kernel_rfl) (fun _ _ _ h => h) (Or.inl ⟨by rfl, ?_⟩) (by assumption) ?_
  rotate_left
  · intro wS hSw
    (try dsimp only at hSw)
    go_simp
    (try with_reducible rfl)
  (try simp only [Act.put, List.setIfInBounds_toArray, List.set_cons_zero, List.set_cons_succ])
  refine wpAnyH_take (i := 4) (oi := { dst := some 48, op := Go.Op.slice 22 (Go.Operand.tmp 46) none (some (Go.Operand.tmp 47)) none, type := 22, pos := "ref.go:77", after := #[{ on := 2, ground := Go.Ground.data }, { on := 3, ground := Go.Ground.data }], guard := none }) (v := ?_) rfl (by kernel_rfl) (by kernel_rfl) (by kernel_rfl) (fun _ _ _ h => h) (Or.inl ⟨by rfl, ?_⟩) (by assumption) ?_
  rotate_left
  · intro wS hSw
    (try dsimp only at hSw)
    go_simp
    (try with_reducible rfl)
  (try simp only [Act.put, List.setIfInBounds_toArray, List.set_cons_zero, List.set_cons_succ])
  refine wpAnyH_ready (rs := [5]) (by kernel_rfl) (by simp) ?_
  refine AllReadyH.cons (o := { dst := some 49, op := Go.Op.call { callee := Go.Callee.value (Go.Operand.func 20), args := #[Go.Operand.tmp 44, Go.Operand.tmp 45, Go.Operand.tmp 48], argTypes := #[42, 22, 22] }, type := 22, pos := "ref.go:77", after := #[{ on := 0, ground := Go.Ground.data }, { on := 1, ground := Go.Ground.data }, { on := 4, ground := Go.Ground.data }], guard := none }) rfl (fun K hK => ?_) AllReadyH.nil
  go_simp
  (refine (HCI.out WQ HVD.out).mono ?_; rintro e V2 ⟨v, rfl, hG4, hb4⟩; have HG4 := Lib.hid hG4; have HB4 := Lib.hid hb4; skip)
  (try go_wp2_with fail)
  refine hK.out _ _ ?_ (fun hHeld => ?_)
  · (try dsimp only)
    (first | exact Below.refl _ _ | assumption)
  clear hK K
  (try simp only [Act.put, List.setIfInBounds_toArray, List.set_cons_zero, List.set_cons_succ])
  refine wpAnyH_take (i := 6) (oi := { dst := some 8, op := Go.Op.assign (Go.Operand.tmp 49), type := 22, pos := "ref.go:77", after := #[{ on := 5, ground := Go.Ground.data }, { on := 5, ground := Go.Ground.chain }, { on := 0, ground := Go.Ground.phase }, { on := 1, ground := Go.Ground.phase }, { on := 2, ground := Go.Ground.phase }, { on := 3, ground := Go.Ground.phase }, { on := 4, ground := Go.Ground.phase }, { on := 5, ground := Go.Ground.phase }], guard := none }) (v := ?_) rfl (by kernel_rfl) (by kernel_rfl) (by kernel_rfl) (fun _ _ _ h => h) (Or.inl ⟨by rfl, ?_⟩) (by assumption) ?_
  rotate_left
  · intro wS hSw
    (try dsimp only at hSw)
    go_simp
    (try with_reducible rfl)
  (try simp only [Act.put, List.setIfInBounds_toArray, List.set_cons_zero, List.set_cons_succ])
  refine wpAnyH_take (i := 7) (oi := { dst := some 9, op := Go.Op.assign (Go.Operand.const (Go.Value.int Go.IntKind.i64 0)), type := 3, pos := "ref.go:77", after := #[{ on := 6, ground := Go.Ground.chain }, { on := 0, ground := Go.Ground.phase }, { on := 1, ground := Go.Ground.phase }, { on := 2, ground := Go.Ground.phase }, { on := 3, ground := Go.Ground.phase }, { on := 4, ground := Go.Ground.phase }, { on := 5, ground := Go.Ground.phase }, { on := 6, ground := Go.Ground.phase }], guard := none }) (v := ?_) rfl (by kernel_rfl) (by kernel_rfl) (by kernel_rfl) (fun _ _ _ h => h) (Or.inl ⟨by rfl, ?_⟩) (by assumption) ?_
  rotate_left
  · intro wS hSw
    (try dsimp only at hSw)
    go_simp
    (try with_reducible rfl)
  (try simp only [Act.put, List.setIfInBounds_toArray, List.set_cons_zero, List.set_cons_succ])
  refine wpAnyH_done (by kernel_rfl) ?_ _
  go_wp2_with fail
  refine bodyPost_ret (results_tmp2 rfl _ _ _) rfl ?_
  have h7 := HB1.out.trans (HVD.out.mono HB1.out.size)
  have h9 := h7.trans (HB4.out.mono h7.size)
  have h8 : Grow V2 w.heap.size v n (cphF W nn q) := owns_lowE HG4.out h7.size
  first | exact ⟨v, rfl, h8, h9⟩ | (rw [hbk] at h8 h9; exact ⟨v, rfl, h8, h9⟩)
end Go.Proofs.YtkcbckafibjflaaGreatDoor
namespace Go.Proofs.YtkcbckafibjflaaGreatDoor
set_option linter.unusedVariables false
set_option linter.unusedSimpArgs false
open Go.RowKit
set_option maxRecDepth 100000 in
set_option maxHeartbeats 8000000 in
theorem rseal_nonce (KC : Array Value) (l n an : Nat) (on ob oa : Option Addr) (capn cb ca : Nat) (w : World) (hl : l ≠ 12) :
    Calls Tryz.prog 11 #[.agg KC, .slice on l capn, .slice ob n cb, .slice oa an ca] w fun e w' => e = .returned (.tuple #[.slice none 0 0, .int .i64 1]) ∧ Below w.heap.size w w' := by
  obtain ⟨bk, hbk⟩ : ∃ y, w.heap.size = y := ⟨_, rfl⟩
  obtain ⟨w1, hw1⟩ : ∃ y, w.alloc (.cells KC 42) = y := ⟨_, rfl⟩
  have hb1 : Below w.heap.size w w1 := by rw [← hw1]; exact (Below.refl _ _).alloc (Nat.le_refl _) _
  have HB1 := Lib.hid hb1
  clear hb1
  have l1 : ¬ (l : Int) = 12 := by omega
  have l2 : ¬ l = 12 := hl
  have l3 : decide ((l : Int) = 12) = false := decide_eq_false l1
  have l4 : ((l : Int) == 12) = false := by simp only [beq_eq_false_iff_ne]; exact l1
  go_enter Tryz.func11, Tryz.ntmps11
  go_wp2_with fail
  refine bodyPost_ret (results_tmp2 rfl _ _ _) rfl ?_
  first | exact ⟨rfl, HB1.out⟩ | (have h9 := HB1.out; rw [hbk] at h9; exact ⟨rfl, h9⟩)
set_option maxRecDepth 100000 in
set_option maxHeartbeats 8000000 in
theorem rseal_long (KC : Array Value) (l n an : Nat) (on ob oa : Option Addr) (capn cb ca : Nat) (w : World) (hl : l = 12) (h5 : 2048 < n) :
    Calls Tryz.prog 11 #[.agg KC, .slice on l capn, .slice ob n cb, .slice oa an ca] w fun e w' => e = .returned (.tuple #[.slice none 0 0, .int .i64 1]) ∧ Below w.heap.size w w' := by
  obtain ⟨bk, hbk⟩ : ∃ y, w.heap.size = y := ⟨_, rfl⟩
  obtain ⟨w1, hw1⟩ : ∃ y, w.alloc (.cells KC 42) = y := ⟨_, rfl⟩
  have hb1 : Below w.heap.size w w1 := by rw [← hw1]; exact (Below.refl _ _).alloc (Nat.le_refl _) _
  have HB1 := Lib.hid hb1
  clear hb1
  subst hl
  have n0 : (2048 : Int) < (n : Int) := by omega
  have n1 : decide ((2048 : Int) < (n : Int)) = true := decide_eq_true n0
  go_enter Tryz.func11, Tryz.ntmps11
  go_wp2_with fail
  refine bodyPost_ret (results_tmp2 rfl _ _ _) rfl ?_
  first | exact ⟨rfl, HB1.out⟩ | (have h9 := HB1.out; rw [hbk] at h9; exact ⟨rfl, h9⟩)
set_option maxRecDepth 100000 in
set_option maxHeartbeats 8000000 in
theorem rseal_aad (KC : Array Value) (l n an : Nat) (on ob oa : Option Addr) (capn cb ca : Nat) (w : World) (hl : l = 12) (h5 : n ≤ 2048) (h6 : 2048 < an) :
    Calls Tryz.prog 11 #[.agg KC, .slice on l capn, .slice ob n cb, .slice oa an ca] w fun e w' => e = .returned (.tuple #[.slice none 0 0, .int .i64 1]) ∧ Below w.heap.size w w' := by
  obtain ⟨bk, hbk⟩ : ∃ y, w.heap.size = y := ⟨_, rfl⟩
  obtain ⟨w1, hw1⟩ : ∃ y, w.alloc (.cells KC 42) = y := ⟨_, rfl⟩
  have hb1 : Below w.heap.size w w1 := by rw [← hw1]; exact (Below.refl _ _).alloc (Nat.le_refl _) _
  have HB1 := Lib.hid hb1
  clear hb1
  subst hl
  have n0 : ¬ (2048 : Int) < (n : Int) := by omega
  have n1 : decide ((2048 : Int) < (n : Int)) = false := decide_eq_false n0
  have n2 : (n : Int) ≤ 2048 := by omega
  have a0 : (2048 : Int) < (an : Int) := by omega
  have a1 : decide ((2048 : Int) < (an : Int)) = true := decide_eq_true a0
  go_enter Tryz.func11, Tryz.ntmps11
  go_wp2_with fail
  refine bodyPost_ret (results_tmp2 rfl _ _ _) rfl ?_
  first | exact ⟨rfl, HB1.out⟩ | (have h9 := HB1.out; rw [hbk] at h9; exact ⟨rfl, h9⟩)
set_option maxRecDepth 100000 in
set_option maxHeartbeats 8000000 in
theorem ropen_nonce (KC : Array Value) (l n an : Nat) (on ob oa : Option Addr) (capn cb ca : Nat) (w : World) (hl : l ≠ 12) :
    Calls Tryz.prog 12 #[.agg KC, .slice on l capn, .slice ob n cb, .slice oa an ca] w fun e w' => e = .returned (.tuple #[.slice none 0 0, .int .i64 1]) ∧ Below w.heap.size w w' := by
  obtain ⟨bk, hbk⟩ : ∃ y, w.heap.size = y := ⟨_, rfl⟩
  obtain ⟨w1, hw1⟩ : ∃ y, w.alloc (.cells KC 42) = y := ⟨_, rfl⟩
  have hb1 : Below w.heap.size w w1 := by rw [← hw1]; exact (Below.refl _ _).alloc (Nat.le_refl _) _
  have HB1 := Lib.hid hb1
  clear hb1
  have l1 : ¬ (l : Int) = 12 := by omega
  have l2 : ¬ l = 12 := hl
  have l3 : decide ((l : Int) = 12) = false := decide_eq_false l1
  have l4 : ((l : Int) == 12) = false := by simp only [beq_eq_false_iff_ne]; exact l1
  go_enter Tryz.func12, Tryz.ntmps12
  go_wp2_with fail
  refine bodyPost_ret (results_tmp2 rfl _ _ _) rfl ?_
  first | exact ⟨rfl, HB1.out⟩ | (have h9 := HB1.out; rw [hbk] at h9; exact ⟨rfl, h9⟩)
set_option maxRecDepth 100000 in
set_option maxHeartbeats 8000000 in
theorem ropen_long (KC : Array Value) (l n an : Nat) (on ob oa : Option Addr) (capn cb ca : Nat) (w : World) (hl : l = 12) (h5 : 2064 < n) :
    Calls Tryz.prog 12 #[.agg KC, .slice on l capn, .slice ob n cb, .slice oa an ca] w fun e w' => e = .returned (.tuple #[.slice none 0 0, .int .i64 1]) ∧ Below w.heap.size w w' := by
  obtain ⟨bk, hbk⟩ : ∃ y, w.heap.size = y := ⟨_, rfl⟩
  obtain ⟨w1, hw1⟩ : ∃ y, w.alloc (.cells KC 42) = y := ⟨_, rfl⟩
  have hb1 : Below w.heap.size w w1 := by rw [← hw1]; exact (Below.refl _ _).alloc (Nat.le_refl _) _
  have HB1 := Lib.hid hb1
  clear hb1
  subst hl
  have n0 : (2064 : Int) < (n : Int) := by omega
  have n1 : decide ((2064 : Int) < (n : Int)) = true := decide_eq_true n0
  go_enter Tryz.func12, Tryz.ntmps12
  go_wp2_with fail
  refine bodyPost_ret (results_tmp2 rfl _ _ _) rfl ?_
  first | exact ⟨rfl, HB1.out⟩ | (have h9 := HB1.out; rw [hbk] at h9; exact ⟨rfl, h9⟩)
set_option maxRecDepth 100000 in
set_option maxHeartbeats 8000000 in
theorem ropen_aad (KC : Array Value) (l n an : Nat) (on ob oa : Option Addr) (capn cb ca : Nat) (w : World) (hl : l = 12) (h5 : n ≤ 2064) (h6 : 2048 < an) :
    Calls Tryz.prog 12 #[.agg KC, .slice on l capn, .slice ob n cb, .slice oa an ca] w fun e w' => e = .returned (.tuple #[.slice none 0 0, .int .i64 1]) ∧ Below w.heap.size w w' := by
  obtain ⟨bk, hbk⟩ : ∃ y, w.heap.size = y := ⟨_, rfl⟩
  obtain ⟨w1, hw1⟩ : ∃ y, w.alloc (.cells KC 42) = y := ⟨_, rfl⟩
  have hb1 : Below w.heap.size w w1 := by rw [← hw1]; exact (Below.refl _ _).alloc (Nat.le_refl _) _
  have HB1 := Lib.hid hb1
  clear hb1
  subst hl
  have n0 : ¬ (2064 : Int) < (n : Int) := by omega
  have n1 : decide ((2064 : Int) < (n : Int)) = false := decide_eq_false n0
  have n2 : (n : Int) ≤ 2064 := by omega
  have a0 : (2048 : Int) < (an : Int) := by omega
  have a1 : decide ((2048 : Int) < (an : Int)) = true := decide_eq_true a0
  go_enter Tryz.func12, Tryz.ntmps12
  go_wp2_with fail
  refine bodyPost_ret (results_tmp2 rfl _ _ _) rfl ?_
  first | exact ⟨rfl, HB1.out⟩ | (have h9 := HB1.out; rw [hbk] at h9; exact ⟨rfl, h9⟩)
end Go.Proofs.YtkcbckafibjflaaGreatDoor
namespace Go.Proofs.YtkcbckafibjflaaGreatDoor
set_option linter.unusedVariables false
set_option linter.unusedSimpArgs false
open Go.RowKit
set_option maxRecDepth 100000 in
set_option maxHeartbeats 8000000 in
theorem ropen_short (KC : Array Value) (n an : Nat) (on ob oa : Option Addr) (capn cb ca : Nat) (w : World) (h5 : n < 16) (h6 : an ≤ 2048) :
    Calls Tryz.prog 12 #[.agg KC, .slice on 12 capn, .slice ob n cb, .slice oa an ca] w fun e w' => e = .returned (.tuple #[.slice none 0 0, .int .i64 11]) ∧ Below w.heap.size w w' := by
  obtain ⟨bk, hbk⟩ : ∃ y, w.heap.size = y := ⟨_, rfl⟩
  obtain ⟨w1, hw1⟩ : ∃ y, w.alloc (.cells KC 42) = y := ⟨_, rfl⟩
  have hb1 : Below w.heap.size w w1 := by rw [← hw1]; exact (Below.refl _ _).alloc (Nat.le_refl _) _
  have HB1 := Lib.hid hb1
  have hbd := (Below.refl w1.heap.size w1).drew
  have HW1 := Lib.hid hbd
  clear hb1 hbd
  have n0 : ¬ (2064 : Int) < (n : Int) := by omega
  have n1 : decide ((2064 : Int) < (n : Int)) = false := decide_eq_false n0
  have a0 : ¬ (2048 : Int) < (an : Int) := by omega
  have a1 : decide ((2048 : Int) < (an : Int)) = false := decide_eq_false a0
  have n3 : IntKind.i64.wrap ((n : Int) - 16) = (n : Int) - 16 := IntWalk.i64_in _ (by omega)
  have n4 : (n : Int) - 16 < 0 := by omega
  have n5 : decide ((n : Int) - 16 < 0) = true := decide_eq_true n4
  have n6 : (n : Int) < 16 := by omega
  have n7 : decide ((n : Int) < 16) = true := decide_eq_true n6
  go_enter Tryz.func12, Tryz.ntmps12
  go_wp2_with fail
  go_upto_region 4 with fail
  refine wp_region_held_drew (S := (Below w1.drew.heap.size w1.drew)) (by kernel_rfl) ?_ (fun hHeld => ?_)
  · (try dsimp only)
    (first | exact Below.refl _ _ | assumption)
  generalize w1.drew = WR at *
  refine wpAnyH_take (i := 0) (oi := { dst := some 27, op := Go.Op.move (Go.Operand.tmp 10), type := 3, pos := "ref.go:74", after := #[], guard := none }) (v := ?_) rfl (by kernel_rfl) (by kernel_rfl) (by kernel_rfl) (fun _ _ _ h => h) (Or.inl ⟨by rfl, ?_⟩) (by assumption) ?_
  rotate_left
  · intro wS hSw
    (try dsimp only at hSw)
    go_simp
    (try with_reducible rfl)
  (try simp only [Act.put, List.setIfInBounds_toArray, List.set_cons_zero, List.set_cons_succ])
  refine wpAnyH_take (i := 1) (oi := { dst := some 28, op := Go.Op.binOp Go.BinOp.lss 3 (Go.Operand.tmp 27) (Go.Operand.const (Go.Value.int Go.IntKind.i64 0)) 3, type := 4, pos := "ref.go:74", after := #[{ on := 0, ground := Go.Ground.data }], guard := none }) (v := ?_) rfl (by kernel_rfl) (by kernel_rfl) (by kernel_rfl) (fun _ _ _ h => h) (Or.inl ⟨by rfl, ?_⟩) (by assumption) ?_
  rotate_left
  · intro wS hSw
    (try dsimp only at hSw)
    go_simp
    (try with_reducible rfl)
  (try simp only [Act.put, List.setIfInBounds_toArray, List.set_cons_zero, List.set_cons_succ])
  refine wpAnyH_take (i := 2) (oi := { dst := some 29, op := Go.Op.move (Go.Operand.tmp 28), type := 4, pos := "ref.go:74", after := #[{ on := 1, ground := Go.Ground.data }], guard := none }) (v := ?_) rfl (by kernel_rfl) (by kernel_rfl) (by kernel_rfl) (fun _ _ _ h => h) (Or.inl ⟨by rfl, ?_⟩) (by assumption) ?_
  rotate_left
  · intro wS hSw
    (try dsimp only at hSw)
    go_simp
    (try with_reducible rfl)
  (try simp only [Act.put, List.setIfInBounds_toArray, List.set_cons_zero, List.set_cons_succ])
  refine wpAnyH_take (i := 3) (oi := { dst := some 30, op := Go.Op.load 42 (Go.Operand.tmp 4), type := 42, pos := "ref.go:74", after := #[{ on := 2, ground := Go.Ground.guard }], guard := some (2, false) }) (v := undef) rfl (by kernel_rfl) (by kernel_rfl) (by kernel_rfl) (fun _ _ _ h => h) (Or.inr ⟨by rfl, rfl⟩) (by assumption) ?_
  (try simp only [Act.put, List.setIfInBounds_toArray, List.set_cons_zero, List.set_cons_succ])
  refine wpAnyH_take (i := 4) (oi := { dst := some 31, op := Go.Op.move (Go.Operand.tmp 1), type := 22, pos := "ref.go:74", after := #[{ on := 2, ground := Go.Ground.guard }], guard := some (2, false) }) (v := undef) rfl (by kernel_rfl) (by kernel_rfl) (by kernel_rfl) (fun _ _ _ h => h) (Or.inr ⟨by rfl, rfl⟩) (by assumption) ?_
  (try simp only [Act.put, List.setIfInBounds_toArray, List.set_cons_zero, List.set_cons_succ])
  refine wpAnyH_take (i := 5) (oi := { dst := some 32, op := Go.Op.move (Go.Operand.tmp 2), type := 22, pos := "ref.go:74", after := #[{ on := 2, ground := Go.Ground.guard }], guard := some (2, false) }) (v := undef) rfl (by kernel_rfl) (by kernel_rfl) (by kernel_rfl) (fun _ _ _ h => h) (Or.inr ⟨by rfl, rfl⟩) (by assumption) ?_
  (try simp only [Act.put, List.setIfInBounds_toArray, List.set_cons_zero, List.set_cons_succ])
  refine wpAnyH_take (i := 6) (oi := { dst := some 33, op := Go.Op.move (Go.Operand.tmp 10), type := 3, pos := "ref.go:74", after := #[{ on := 2, ground := Go.Ground.guard }], guard := some (2, false) }) (v := undef) rfl (by kernel_rfl) (by kernel_rfl) (by kernel_rfl) (fun _ _ _ h => h) (Or.inr ⟨by rfl, rfl⟩) (by assumption) ?_
  (try simp only [Act.put, List.setIfInBounds_toArray, List.set_cons_zero, List.set_cons_succ])
  refine wpAnyH_take (i := 7) (oi := { dst := some 34, op := Go.Op.slice 22 (Go.Operand.tmp 32) none (some (Go.Operand.tmp 33)) none, type := 22, pos := "ref.go:74", after := #[{ on := 5, ground := Go.Ground.data }, { on := 6, ground := Go.Ground.data }, { on := 2, ground := Go.Ground.guard }], guard := some (2, false) }) (v := undef) rfl (by kernel_rfl) (by kernel_rfl) (by kernel_rfl) (fun _ _ _ h => h) (Or.inr ⟨by rfl, rfl⟩) (by assumption) ?_
  (try simp only [Act.put, List.setIfInBounds_toArray, List.set_cons_zero, List.set_cons_succ])
  refine wpAnyH_take (i := 8) (oi := { dst := some 35, op := Go.Op.move (Go.Operand.tmp 3), type := 22, pos := "ref.go:74", after := #[{ on := 2, ground := Go.Ground.guard }], guard := some (2, false) }) (v := undef) rfl (by kernel_rfl) (by kernel_rfl) (by kernel_rfl) (fun _ _ _ h => h) (Or.inr ⟨by rfl, rfl⟩) (by assumption) ?_
  (try simp only [Act.put, List.setIfInBounds_toArray, List.set_cons_zero, List.set_cons_succ])
  refine wpAnyH_take (i := 9) (oi := { dst := some 36, op := Go.Op.call { callee := Go.Callee.value (Go.Operand.func 21), args := #[Go.Operand.tmp 30, Go.Operand.tmp 31, Go.Operand.tmp 34, Go.Operand.tmp 35], argTypes := #[42, 22, 22, 22] }, type := 22, pos := "ref.go:74", after := #[{ on := 3, ground := Go.Ground.data }, { on := 4, ground := Go.Ground.data }, { on := 7, ground := Go.Ground.data }, { on := 8, ground := Go.Ground.data }, { on := 2, ground := Go.Ground.chain }, { on := 2, ground := Go.Ground.guard }], guard := some (2, false) }) (v := undef) rfl (by kernel_rfl) (by kernel_rfl) (by kernel_rfl) (fun _ _ _ h => h) (Or.inr ⟨by rfl, rfl⟩) (by assumption) ?_
  (try simp only [Act.put, List.setIfInBounds_toArray, List.set_cons_zero, List.set_cons_succ])
  refine wpAnyH_take (i := 10) (oi := { dst := some 37, op := Go.Op.convert 22 9 (Go.Operand.tmp 36), type := 9, pos := "ref.go:74", after := #[{ on := 9, ground := Go.Ground.data }, { on := 2, ground := Go.Ground.guard }], guard := some (2, false) }) (v := undef) rfl (by kernel_rfl) (by kernel_rfl) (by kernel_rfl) (fun _ _ _ h => h) (Or.inr ⟨by rfl, rfl⟩) (by assumption) ?_
  (try simp only [Act.put, List.setIfInBounds_toArray, List.set_cons_zero, List.set_cons_succ])
  refine wpAnyH_take (i := 11) (oi := { dst := some 38, op := Go.Op.move (Go.Operand.tmp 2), type := 22, pos := "ref.go:74", after := #[{ on := 2, ground := Go.Ground.guard }], guard := some (2, false) }) (v := undef) rfl (by kernel_rfl) (by kernel_rfl) (by kernel_rfl) (fun _ _ _ h => h) (Or.inr ⟨by rfl, rfl⟩) (by assumption) ?_
  (try simp only [Act.put, List.setIfInBounds_toArray, List.set_cons_zero, List.set_cons_succ])
  refine wpAnyH_take (i := 12) (oi := { dst := some 39, op := Go.Op.move (Go.Operand.tmp 10), type := 3, pos := "ref.go:74", after := #[{ on := 2, ground := Go.Ground.guard }], guard := some (2, false) }) (v := undef) rfl (by kernel_rfl) (by kernel_rfl) (by kernel_rfl) (fun _ _ _ h => h) (Or.inr ⟨by rfl, rfl⟩) (by assumption) ?_
  (try simp only [Act.put, List.setIfInBounds_toArray, List.set_cons_zero, List.set_cons_succ])
  refine wpAnyH_take (i := 13) (oi := { dst := some 40, op := Go.Op.slice 22 (Go.Operand.tmp 38) (some (Go.Operand.tmp 39)) none none, type := 22, pos := "ref.go:74", after := #[{ on := 11, ground := Go.Ground.data }, { on := 12, ground := Go.Ground.data }, { on := 2, ground := Go.Ground.guard }], guard := some (2, false) }) (v := undef) rfl (by kernel_rfl) (by kernel_rfl) (by kernel_rfl) (fun _ _ _ h => h) (Or.inr ⟨by rfl, rfl⟩) (by assumption) ?_
  (try simp only [Act.put, List.setIfInBounds_toArray, List.set_cons_zero, List.set_cons_succ])
  refine wpAnyH_take (i := 14) (oi := { dst := some 41, op := Go.Op.convert 22 9 (Go.Operand.tmp 40), type := 9, pos := "ref.go:74", after := #[{ on := 13, ground := Go.Ground.data }, { on := 2, ground := Go.Ground.guard }], guard := some (2, false) }) (v := undef) rfl (by kernel_rfl) (by kernel_rfl) (by kernel_rfl) (fun _ _ _ h => h) (Or.inr ⟨by rfl, rfl⟩) (by assumption) ?_
  (try simp only [Act.put, List.setIfInBounds_toArray, List.set_cons_zero, List.set_cons_succ])
  refine wpAnyH_take (i := 15) (oi := { dst := some 42, op := Go.Op.binOp Go.BinOp.neq 9 (Go.Operand.tmp 37) (Go.Operand.tmp 41) 9, type := 4, pos := "ref.go:74", after := #[{ on := 10, ground := Go.Ground.data }, { on := 14, ground := Go.Ground.data }, { on := 2, ground := Go.Ground.guard }], guard := some (2, false) }) (v := undef) rfl (by kernel_rfl) (by kernel_rfl) (by kernel_rfl) (fun _ _ _ h => h) (Or.inr ⟨by rfl, rfl⟩) (by assumption) ?_
  (try simp only [Act.put, List.setIfInBounds_toArray, List.set_cons_zero, List.set_cons_succ])
  refine wpAnyH_take (i := 16) (oi := { dst := some 43, op := Go.Op.pick (Go.Operand.tmp 29) (Go.Operand.const (Go.Value.bool true)) (Go.Operand.tmp 42), type := 4, pos := "ref.go:74", after := #[{ on := 2, ground := Go.Ground.data }, { on := 15, ground := Go.Ground.data }], guard := none }) (v := ?_) rfl (by kernel_rfl) (by kernel_rfl) (by kernel_rfl) (fun _ _ _ h => h) (Or.inl ⟨by rfl, ?_⟩) (by assumption) ?_
  rotate_left
  · intro wS hSw
    (try dsimp only at hSw)
    go_simp
    (try with_reducible rfl)
  (try simp only [Act.put, List.setIfInBounds_toArray, List.set_cons_zero, List.set_cons_succ])
  refine wpAnyH_done (by kernel_rfl) ?_ _
  go_wp2_with fail
  refine bodyPost_ret (results_tmp2 rfl _ _ _) rfl ?_
  have h9 := HB1.out.trans (HW1.out.mono HB1.out.size)
  first | exact ⟨rfl, h9⟩ | (rw [hbk] at h9; exact ⟨rfl, h9⟩)
end Go.Proofs.YtkcbckafibjflaaGreatDoor
namespace Go.Proofs.YtkcbckafibjflaaGreatDoor
set_option linter.unusedVariables false
set_option linter.unusedSimpArgs false
open Go.RowKit
theorem exec_neS {o : Oper} {a : Act} {w : World} {x y : Operand} {r : TypeId} {X Y : ByteArray} (ho : o.op = .binOp .neq 9 x y r) (hx : a.eval x = .string X) (hy : a.eval y = .string Y) (h : X ≠ Y) : (execOp a.eval o).run Tryz.prog w = .ok (.value (.bool true)) w := by
  have h1 : (X.toList == Y.toList) = false := by simpa using str_ne h
  have h2 : (binOp .neq 9 (.string X) (.string Y)).run Tryz.prog w = .ok (.bool true) w := by rw [binOp_string_neq, h1]; rfl
  unfold execOp
  simp only [ho, hx, hy]
  simp only [eqGuard, Sem.run_bind, Sem.run_pure, Result.andThen_ok, Bool.not_true, Bool.false_eq_true, if_false]
  rw [h2]
  rfl
set_option maxRecDepth 100000 in
set_option maxHeartbeats 8000000 in
theorem ropen_unlike (W nn q a : Nat → Nat) (n an bo oo : Nat) (on oa : Option Addr) (capn cb ca : Nat) (w : World) (hn : Bytes w on 12 nn) (hp : Bytes w (some ⟨bo, oo, none⟩) (n + 16) q) (ha : Bytes w oa an a) (h4 : n + 16 ≤ cb) (h4m : cb ≤ maxLen) (h5 : n ≤ 2048) (h6 : an ≤ 2048) (hq : ∃ i, i < 16 ∧ tgF W nn a an q n i ≠ q (n + i)) :
    Calls Tryz.prog 12 #[.agg (kyC W), .slice on 12 capn, .slice (some ⟨bo, oo, none⟩) (n + 16) cb, .slice oa an ca] w fun e w' => e = .returned (.tuple #[.slice none 0 0, .int .i64 11]) ∧ Below w.heap.size w w' := by
  obtain ⟨bk, hbk⟩ : ∃ y, w.heap.size = y := ⟨_, rfl⟩
  obtain ⟨w1, hw1⟩ : ∃ y, w.alloc (.cells (kyC W) 42) = y := ⟨_, rfl⟩
  have hb1 : Below w.heap.size w w1 := by rw [← hw1]; exact (Below.refl _ _).alloc (Nat.le_refl _) _
  have hk1 : Blk w1 bk (kyC W) 42 := by rw [← hw1, ← hbk]; exact Blk.new _ _ _
  have hbd := (Below.refl w1.heap.size w1).drew
  have hld := ky_loads hk1
  obtain ⟨KC, hKC⟩ : ∃ y, kyC W = y := ⟨_, rfl⟩
  rw [hKC] at hld hw1
  have HLK : Hid (∀ A, Below w1.heap.size w1 A → (loadVar 42 ⟨bk, 0, none⟩).run Tryz.prog A = .ok (.agg KC) A) := Lib.hid hld
  have HW1 := Lib.hid hbd
  have hp1 := hp.later hb1
  have HTG : Hid (∀ (A : World), Below w1.drew.heap.size w1.drew A → Calls Tryz.prog 21 #[.agg KC, .slice on 12 capn, .slice (some ⟨bo, oo, none⟩) n cb, .slice oa an ca] A (TgP A (rowC 16 (tgF W nn a an q n)).toArray)) := Lib.hid fun A hA => by
    have hA1 := hbd.trans (hA.mono hbd.size)
    rw [← hKC]; exact rtag_any W nn q a n an on _ oa capn cb ca A ((hn.later hb1).later hA1) ((hp1.mono (by omega)).later hA1) ((ha.later hb1).later hA1) (by omega) (by omega)
  have HCI : Hid (∀ (A : World), Below w1.heap.size w1 A → Calls Tryz.prog 20 #[.agg KC, .slice on 12 capn, .slice (some ⟨bo, oo, none⟩) n cb] A fun e w' => ∃ v, e = .returned v ∧ Grow w' A.heap.size v n (cphF W nn q) ∧ Below A.heap.size A w') := Lib.hid fun A hA => by
    rw [← hKC]; exact rcipher_any W nn q n on _ capn cb A ((hn.later hb1).later hA) ((hp1.mono (by omega)).later hA) (by omega)
  have HNL := Lib.hid (show (∀ i, i < 12 → nn i < 256) ∧ True from ⟨fun i hi => (hn i hi).1, trivial⟩)
  have HQB : Hid (Bytes w1.drew (some ⟨bo, oo + n, none⟩) 16 (fun i => q (n + i))) := Lib.hid fun i hi => by
    obtain ⟨g1, b, off, g2, g3⟩ := (hp1.later hbd) (n + i) (by omega)
    cases g2
    exact ⟨g1, bo, oo + n, rfl, by rw [Nat.add_assoc]; exact g3⟩
  obtain ⟨S1, hS1⟩ : ∃ y, strF 16 (tgF W nn a an q n) = y := ⟨_, rfl⟩
  have HS1 := Lib.hid hS1
  obtain ⟨S2, hS2⟩ : ∃ y, strF 16 (fun i => q (n + i)) = y := ⟨_, rfl⟩
  have HS2 := Lib.hid hS2
  have hne : ¬ S1 = S2 := by
    rw [← hS1, ← hS2]; obtain ⟨i, hi, hx⟩ := hq; exact fun e => hx ((strF_inj (tgF_lt HNL.out.1) (fun i hi => (HQB.out i hi).1) e).2 i hi)
  have HNE := Lib.hid hne
  clear hne
  have HB1 := Lib.hid hb1
  have HN5 := Lib.hid (show n ≤ 2048 ∧ n + 16 ≤ cb ∧ cb ≤ maxLen from ⟨h5, h4, h4m⟩)
  have n0 : ((n : Int) + 16) ≤ 2064 := by omega
  have a0 : (an : Int) ≤ 2048 := by omega
  have n1 : ¬ (2064 : Int) < (n : Int) + 16 := by omega
  have a1 : ¬ (2048 : Int) < (an : Int) := by omega
  have n2 : decide ((2064 : Int) < (n : Int) + 16) = false := decide_eq_false n1
  have a2 : decide ((2048 : Int) < (an : Int)) = false := decide_eq_false a1
  have n3 : IntKind.i64.wrap ((n : Int) + 16 - 16) = (n : Int) := by rw [IntWalk.i64_in _ (by omega)]; omega
  have n4 : (n : Int) + 16 - 16 = (n : Int) := by omega
  have n6 : ¬ (n : Int) < 0 := by omega
  have n7 : decide ((n : Int) < 0) = false := decide_eq_false n6
  have n8 : ¬ cb = n := by omega
  have n9 : (n : Int) ≤ (cb : Int) := by omega
  have m1 : n ≤ cb := by omega
  have m2 : (n : Int) ≤ (n : Int) + 16 := by omega
  have m3 : n ≤ n + 16 := by omega
  have m4 : n + 16 - n = 16 := by omega
  rw [hKC]
  clear hb1 hk1 hKC hn hp ha h5 h6 hld hbd hp1 hq hS1 hS2 h4 h4m
  go_enter Tryz.func12, Tryz.ntmps12
  go_wp2_with fail
  go_upto_region 4 with fail
  refine wp_region_held_drew (S := (Below w1.drew.heap.size w1.drew)) (by kernel_rfl) ?_ (fun hHeld => ?_)
  · (try dsimp only)
    (first | exact Below.refl _ _ | assumption)
  generalize w1.drew = WR at *
  refine wpAnyH_take (i := 0) (oi := { dst := some 27, op := Go.Op.move (Go.Operand.tmp 10), type := 3, pos := "ref.go:74", after := #[], guard := none }) (v := ?_) rfl (by kernel_rfl) (by kernel_rfl) (by kernel_rfl) (fun _ _ _ h => h) (Or.inl ⟨by rfl, ?_⟩) (by assumption) ?_
  rotate_left
  · intro wS hSw
    (try dsimp only at hSw)
    go_simp
    (try with_reducible rfl)
  (try simp only [Act.put, List.setIfInBounds_toArray, List.set_cons_zero, List.set_cons_succ])
  refine wpAnyH_take (i := 1) (oi := { dst := some 28, op := Go.Op.binOp Go.BinOp.lss 3 (Go.Operand.tmp 27) (Go.Operand.const (Go.Value.int Go.IntKind.i64 0)) 3, type := 4, pos := "ref.go:74", after := #[{ on := 0, ground := Go.Ground.data }], guard := none }) (v := ?_) rfl (by kernel_rfl) (by kernel_rfl) (by kernel_rfl) (fun _ _ _ h => h) (Or.inl ⟨by rfl, ?_⟩) (by assumption) ?_
  rotate_left
  · intro wS hSw
    (try dsimp only at hSw)
    go_simp
    (try with_reducible rfl)
  (try simp only [Act.put, List.setIfInBounds_toArray, List.set_cons_zero, List.set_cons_succ])
  refine wpAnyH_take (i := 2) (oi := { dst := some 29, op := Go.Op.move (Go.Operand.tmp 28), type := 4, pos := "ref.go:74", after := #[{ on := 1, ground := Go.Ground.data }], guard := none }) (v := ?_) rfl (by kernel_rfl) (by kernel_rfl) (by kernel_rfl) (fun _ _ _ h => h) (Or.inl ⟨by rfl, ?_⟩) (by assumption) ?_
  rotate_left
  · intro wS hSw
    (try dsimp only at hSw)
    go_simp
    (try with_reducible rfl)
  (try simp only [Act.put, List.setIfInBounds_toArray, List.set_cons_zero, List.set_cons_succ])
  refine wpAnyH_take (i := 3) (oi := { dst := some 30, op := Go.Op.load 42 (Go.Operand.tmp 4), type := 42, pos := "ref.go:74", after := #[{ on := 2, ground := Go.Ground.guard }], guard := some (2, false) }) (v := ?_) rfl (by kernel_rfl) (by kernel_rfl) (by kernel_rfl) (fun _ _ _ h => h) (Or.inl ⟨by rfl, ?_⟩) (by assumption) ?_
  rotate_left
  · intro wS hSw
    (have c9 := HLK.out wS (HW1.out.trans (hSw.mono HW1.out.size)); refine exec_loadC (ty := 42) (v := .agg KC) (b := bk) (f := 0) (x := .tmp 4) ?_ ?_ c9 <;> rfl)
  (try simp only [Act.put, List.setIfInBounds_toArray, List.set_cons_zero, List.set_cons_succ])
  refine wpAnyH_take (i := 4) (oi := { dst := some 31, op := Go.Op.move (Go.Operand.tmp 1), type := 22, pos := "ref.go:74", after := #[{ on := 2, ground := Go.Ground.guard }], guard := some (2, false) }) (v := ?_) rfl (by kernel_rfl) (by kernel_rfl) (by kernel_rfl) (fun _ _ _ h => h) (Or.inl ⟨by rfl, ?_⟩) (by assumption) ?_
  rotate_left
  · intro wS hSw
    (try dsimp only at hSw)
    go_simp
    (try with_reducible rfl)
  (try simp only [Act.put, List.setIfInBounds_toArray, List.set_cons_zero, List.set_cons_succ])
  refine wpAnyH_take (i := 5) (oi := { dst := some 32, op := Go.Op.move (Go.Operand.tmp 2), type := 22, pos := "ref.go:74", after := #[{ on := 2, ground := Go.Ground.guard }], guard := some (2, false) }) (v := ?_) rfl (by kernel_rfl) (by kernel_rfl) (by kernel_rfl) (fun _ _ _ h => h) (Or.inl ⟨by rfl, ?_⟩) (by assumption) ?_
  rotate_left
  · intro wS hSw
    (try dsimp only at hSw)
    go_simp
    (try with_reducible rfl)
  (try simp only [Act.put, List.setIfInBounds_toArray, List.set_cons_zero, List.set_cons_succ])
  refine wpAnyH_take (i := 6) (oi := { dst := some 33, op := Go.Op.move (Go.Operand.tmp 10), type := 3, pos := "ref.go:74", after := #[{ on := 2, ground := Go.Ground.guard }], guard := some (2, false) }) (v := ?_) rfl (by kernel_rfl) (by kernel_rfl) (by kernel_rfl) (fun _ _ _ h => h) (Or.inl ⟨by rfl, ?_⟩) (by assumption) ?_
  rotate_left
  · intro wS hSw
    (try dsimp only at hSw)
    go_simp
    (try with_reducible rfl)
  (try simp only [Act.put, List.setIfInBounds_toArray, List.set_cons_zero, List.set_cons_succ])
  refine wpAnyH_take (i := 7) (oi := { dst := some 34, op := Go.Op.slice 22 (Go.Operand.tmp 32) none (some (Go.Operand.tmp 33)) none, type := 22, pos := "ref.go:74", after := #[{ on := 5, ground := Go.Ground.data }, { on := 6, ground := Go.Ground.data }, { on := 2, ground := Go.Ground.guard }], guard := some (2, false) }) (v := ?_) rfl (by kernel_rfl) (by kernel_rfl) (by kernel_rfl) (fun _ _ _ h => h) (Or.inl ⟨by rfl, ?_⟩) (by assumption) ?_
  rotate_left
  · intro wS hSw
    (try dsimp only at hSw)
    go_simp
    (try with_reducible rfl)
  (try simp only [Act.put, List.setIfInBounds_toArray, List.set_cons_zero, List.set_cons_succ])
  refine wpAnyH_take (i := 8) (oi := { dst := some 35, op := Go.Op.move (Go.Operand.tmp 3), type := 22, pos := "ref.go:74", after := #[{ on := 2, ground := Go.Ground.guard }], guard := some (2, false) }) (v := ?_) rfl (by kernel_rfl) (by kernel_rfl) (by kernel_rfl) (fun _ _ _ h => h) (Or.inl ⟨by rfl, ?_⟩) (by assumption) ?_
  rotate_left
  · intro wS hSw
    (try dsimp only at hSw)
    go_simp
    (try with_reducible rfl)
  (try simp only [Act.put, List.setIfInBounds_toArray, List.set_cons_zero, List.set_cons_succ])
  refine wpAnyH_take (i := 11) (oi := { dst := some 38, op := Go.Op.move (Go.Operand.tmp 2), type := 22, pos := "ref.go:74", after := #[{ on := 2, ground := Go.Ground.guard }], guard := some (2, false) }) (v := ?_) rfl (by kernel_rfl) (by kernel_rfl) (by kernel_rfl) (fun _ _ _ h => h) (Or.inl ⟨by rfl, ?_⟩) (by assumption) ?_
  rotate_left
  · intro wS hSw
    (try dsimp only at hSw)
    go_simp
    (try with_reducible rfl)
  (try simp only [Act.put, List.setIfInBounds_toArray, List.set_cons_zero, List.set_cons_succ])
  refine wpAnyH_take (i := 12) (oi := { dst := some 39, op := Go.Op.move (Go.Operand.tmp 10), type := 3, pos := "ref.go:74", after := #[{ on := 2, ground := Go.Ground.guard }], guard := some (2, false) }) (v := ?_) rfl (by kernel_rfl) (by kernel_rfl) (by kernel_rfl) (fun _ _ _ h => h) (Or.inl ⟨by rfl, ?_⟩) (by assumption) ?_
  rotate_left
  · intro wS hSw
    (try dsimp only at hSw)
    go_simp
    (try with_reducible rfl)
  (try simp only [Act.put, List.setIfInBounds_toArray, List.set_cons_zero, List.set_cons_succ])
  refine wpAnyH_take (i := 13) (oi := { dst := some 40, op := Go.Op.slice 22 (Go.Operand.tmp 38) (some (Go.Operand.tmp 39)) none none, type := 22, pos := "ref.go:74", after := #[{ on := 11, ground := Go.Ground.data }, { on := 12, ground := Go.Ground.data }, { on := 2, ground := Go.Ground.guard }], guard := some (2, false) }) (v := ?_) rfl (by kernel_rfl) (by kernel_rfl) (by kernel_rfl) (fun _ _ _ h => h) (Or.inl ⟨by rfl, ?_⟩) (by assumption) ?_
  rotate_left
  · intro wS hSw
    (try dsimp only at hSw)
    go_simp
    (try with_reducible rfl)
  (try simp only [Act.put, List.setIfInBounds_toArray, List.set_cons_zero, List.set_cons_succ])
  refine wpAnyH_take (i := 14) (oi := { dst := some 41, op := Go.Op.convert 22 9 (Go.Operand.tmp 40), type := 9, pos := "ref.go:74", after := #[{ on := 13, ground := Go.Ground.data }, { on := 2, ground := Go.Ground.guard }], guard := some (2, false) }) (v := ?_) rfl (by kernel_rfl) (by kernel_rfl) (by kernel_rfl) (fun _ _ _ h => h) (Or.inl ⟨by rfl, ?_⟩) (by assumption) ?_
  rotate_left
  · intro wS hSw
    (have cvq := conv_any (cap := cb - n) (HQB.out.later hSw) (fun e => by cases e); rw [HS2.out] at cvq; go_simp; (try with_reducible rfl))
  (try simp only [Act.put, List.setIfInBounds_toArray, List.set_cons_zero, List.set_cons_succ])
  refine wpAnyH_ready (rs := [9]) (by kernel_rfl) (by simp) ?_
  refine AllReadyH.cons (o := { dst := some 36, op := Go.Op.call { callee := Go.Callee.value (Go.Operand.func 21), args := #[Go.Operand.tmp 30, Go.Operand.tmp 31, Go.Operand.tmp 34, Go.Operand.tmp 35], argTypes := #[42, 22, 22, 22] }, type := 22, pos := "ref.go:74", after := #[{ on := 3, ground := Go.Ground.data }, { on := 4, ground := Go.Ground.data }, { on := 7, ground := Go.Ground.data }, { on := 8, ground := Go.Ground.data }, { on := 2, ground := Go.Ground.chain }, { on := 2, ground := Go.Ground.guard }], guard := some (2, false) }) rfl (fun K hK => ?_) AllReadyH.nil
  go_simp
  (refine (HTG.out WR (Below.refl _ _)).mono ?_; rintro e V1 ⟨bt, rfl, hkt, hb3⟩; have HB3 := Lib.hid hb3; have HCV := Lib.hid (conv_any (cap := 16) (a16_bytes hkt (tgF_lt HNL.out.1)) (fun e => by cases e)); clear hkt; skip)
  (try go_wp2_with fail)
  refine hK.out _ _ ?_ (fun hHeld => ?_)
  · (try dsimp only)
    (first | exact Below.refl _ _ | assumption)
  clear hK K
  (try simp only [Act.put, List.setIfInBounds_toArray, List.set_cons_zero, List.set_cons_succ])
  refine wpAnyH_ready (rs := [10]) (by kernel_rfl) (by simp) ?_
  refine AllReadyH.cons (o := { dst := some 37, op := Go.Op.convert 22 9 (Go.Operand.tmp 36), type := 9, pos := "ref.go:74", after := #[{ on := 9, ground := Go.Ground.data }, { on := 2, ground := Go.Ground.guard }], guard := some (2, false) }) rfl (fun K hK => ?_) AllReadyH.nil
  (refine step_valueG (v := .string S1) (by rfl) (by (have cvq := HCV.out; rw [HS1.out] at cvq; go_simp; (try with_reducible rfl))) ?_; skip)
  refine hK.out _ _ ?_ (fun hHeld => ?_)
  · (try dsimp only)
    (first | exact Below.refl _ _ | assumption)
  clear hK K
  (try simp only [Act.put, List.setIfInBounds_toArray, List.set_cons_zero, List.set_cons_succ])
  refine wpAnyH_take (i := 15) (oi := { dst := some 42, op := Go.Op.binOp Go.BinOp.neq 9 (Go.Operand.tmp 37) (Go.Operand.tmp 41) 9, type := 4, pos := "ref.go:74", after := #[{ on := 10, ground := Go.Ground.data }, { on := 14, ground := Go.Ground.data }, { on := 2, ground := Go.Ground.guard }], guard := some (2, false) }) (v := ?_) rfl (by kernel_rfl) (by kernel_rfl) (by kernel_rfl) (fun _ _ _ h => h) (Or.inl ⟨by rfl, ?_⟩) (by assumption) ?_
  rotate_left
  · intro wS hSw
    (refine exec_neS (r := 9) (x := .tmp 37) (y := .tmp 41) (X := S1) (Y := S2) ?_ ?_ ?_ HNE.out <;> rfl)
  (try simp only [Act.put, List.setIfInBounds_toArray, List.set_cons_zero, List.set_cons_succ])
  refine wpAnyH_take (i := 16) (oi := { dst := some 43, op := Go.Op.pick (Go.Operand.tmp 29) (Go.Operand.const (Go.Value.bool true)) (Go.Operand.tmp 42), type := 4, pos := "ref.go:74", after := #[{ on := 2, ground := Go.Ground.data }, { on := 15, ground := Go.Ground.data }], guard := none }) (v := ?_) rfl (by kernel_rfl) (by kernel_rfl) (by kernel_rfl) (fun _ _ _ h => h) (Or.inl ⟨by rfl, ?_⟩) (by assumption) ?_
  rotate_left
  · intro wS hSw
    (try dsimp only at hSw)
    go_simp
    (try with_reducible rfl)
  (try simp only [Act.put, List.setIfInBounds_toArray, List.set_cons_zero, List.set_cons_succ])
  refine wpAnyH_done (by kernel_rfl) ?_ _
  go_wp2_with fail
  refine bodyPost_ret (results_tmp2 rfl _ _ _) rfl ?_
  have h7 := HB1.out.trans (HW1.out.mono HB1.out.size)
  have h9 := h7.trans (HB3.out.mono h7.size)
  first | exact ⟨rfl, h9⟩ | (rw [hbk] at h9; exact ⟨rfl, h9⟩)
end Go.Proofs.YtkcbckafibjflaaGreatDoor
