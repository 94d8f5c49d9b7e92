/- The walk of ShamirJoins, more parts than may be asked for. -/
import Derived.Test.YtmhofofidmbgfaaDoorSj4
import Derived.Test.YtmhofofidmbgfaaDoorSp6
import Derived.Test.YtmhofofidmbgfaaDoorSp8
namespace Go.Proofs.YtmhofofidmbgfaaDoor
set_option linter.unusedVariables false
set_option linter.unusedSimpArgs false
open Go.RowKit
theorem info_rplanJ : (Tryd.prog.info? 25).map (·.size) = some 3 := by kernel_rfl
set_option maxRecDepth 100000 in
set_option maxHeartbeats 8000000 in
theorem joins_a (n cs gen x : Nat) (oa : Option Addr) (K N : Int) (S : Nat → Sh) (w : World) (hg : Handle w) (hS : ∀ tb, w.heap.size ≤ tb → Shs tb w oa n S) (hix : ∀ i, i < n → (S i).ix < 256) (hcm : n ≤ maxLen) (hx : x < 256) (hn40 : n ≤ 40) (hk1 : 20 < K) (q2 : decide (K ≤ (n : Int)) = false) :
    Calls Tryd.prog 4 #[.slice oa n cs, .agg #[.int .i64 K, .int .i64 N, .int .u32 (gen : Int)], .int .u8 (x : Int)] w fun e w' => e = .returned (.bool true) ∧ Below w.heap.size w w' := by
  have hm2 : n ≤ 9223372036854775807 := by unfold maxLen at hcm; exact hcm
  obtain ⟨w0, hw0⟩ : ∃ y, w.alloc (.cells #[.int .i64 K, .int .i64 N, .int .u32 (gen : Int)] 25) = y := ⟨_, rfl⟩
  have HB0 : Hid (Below w.heap.size w w0) := Lib.hid (by rw [← hw0]; exact (Below.refl _ _).alloc (Nat.le_refl _) _)
  have HPL : Hid (Blk w0 w.heap.size [.int .i64 K, .int .i64 N, .int .u32 (gen : Int)].toArray 25) := Lib.hid (by rw [← hw0]; exact Blk.new _ _ _)
  have HG := Lib.hid hg
  have HS0 := Lib.hid hS
  have HIX := Lib.hid hix
  have HX8 := Lib.hid hx
  have c0 : w0.cell? ⟨w.heap.size, 0, none⟩ = some (.int .i64 K) := by rw [Blk.cell HPL.out]; rfl
  clear hg hS hix hcm
  have q1 : decide ((40 : Int) < (n : Int)) = false := decide_eq_false (by omega)
  have HN9 : Hid (n ≤ 1000) := Lib.hid (by omega)
  obtain ⟨E, Sx, hja, hjb, hjc⟩ := join_pair n gen K N S HIX.out HN9.out
  have HJA := Lib.hid hja
  have HJB := Lib.hid hjb
  have HJC := Lib.hid hjc
  clear hja hjb hjc
  go_enter Tryd.func4, Tryd.ntmps4
  go_wp2_with fail
  clear hw0 c0
  go_loopw [7] (fun y wr => ∃ i : Nat, i ≤ n ∧ y = .int .i64 (i : Int) ∧ wr = w0) (fun y _ => n - (intOf y).toNat)
  case atStart => exact ⟨0, Nat.zero_le _, rfl, (by first | rfl | trivial)⟩
  case round =>
    obtain ⟨i, hi, rfl, rfl⟩ := hrel
    by_cases hlt : i < n
    · have hi0 : (0 : Int) ≤ (i : Int) ∧ (i : Int) < (n : Int) := by omega
      obtain ⟨b, off, od, cap, rfl, -, -, -, -, -, -, -, -, x2⟩ := ((HS0.out _ (Nat.le_refl _)).later HB0.out).get i hlt
      obtain ⟨li, hli⟩ : ∃ y, (S i).len = y := ⟨_, rfl⟩
      rw [hli] at x2
      clear hli
      by_cases hl : 100 < li
      · have g1 : (100 : Int) < (li : Int) := by omega
        have HSU := Lib.hid (sure03 wr (HG.out.below HB0.out HG.out.2))
        clear hl
        go_wp2_with fail
        refine HSU.out.mono ?_
        rintro e w9 ⟨rfl, hb⟩
        have HBF := Lib.hid (HB0.out.trans (hb.mono HB0.out.size))
        clear hb
        go_wp2_with fail
        go_ret
        exact ⟨rfl, HBF.out⟩
      · have g1 : decide ((100 : Int) < (li : Int)) = false := decide_eq_false (by omega)
        have g1n : ¬ 100 < li := hl
        go_wp2_with fail
        go_roundw
        case rel => exact ⟨i + 1, by omega, by go_num, (by first | rfl | trivial)⟩
        case measure => simp [intOf]; omega
    · obtain rfl : n = i := by omega
      generalize wr = w0 at *
      go_wp2_with fail
      refine (gfnew_any w0).mono ?_
      rintro e w1 ⟨rfl, hT, hb⟩
      obtain ⟨tb, htb⟩ : ∃ y, w0.heap.size = y := ⟨_, rfl⟩
      obtain ⟨b4, hb4⟩ : ∃ y, w.heap.size = y := ⟨_, rfl⟩
      have HTB : Hid (w.heap.size ≤ tb ∧ b4 ≠ tb ∧ w.heap.size = b4) := Lib.hid (by have := Blk.lt HPL.out; have := HB0.out.size; omega)
      have HB1 : Hid (Below w.heap.size w w1) := Lib.hid (HB0.out.trans (hb.mono HB0.out.size))
      have hP_0 : Own tb w1 w1.drew := (Own.refl _ _).drew
      rw [htb] at hT ⊢
      have hT_0 : TabIn w1.drew tb := hT
      have HPX : Hid (∀ w7, Own tb w1 w7 → Blk w7 b4 [.int .i64 K, .int .i64 N, .int .u32 (gen : Int)].toArray 25) := Lib.hid fun w7 h7 => by
        rw [← HTB.out.2.2]; exact h7.blk (Blk.below HPL.out hb (Blk.lt HPL.out)) (by have := HTB.out; omega)
      have HSW : Hid (∀ w7, Own tb w1 w7 → Shs tb w7 oa n S) := Lib.hid fun w7 h7 => ((HS0.out tb HTB.out.1).later HB1.out).own h7
      have HBL : Hid (∀ w7, Own tb w1 w7 → Below w.heap.size w w7) := Lib.hid fun w7 h7 => HB1.out.trans (h7.below HTB.out.1 HB1.out.size)
      have HCN := Lib.hid (fun (kg : Nat) (og : Option Addr) (w7 : World) => combine_bad none n kg K N (gen : Int) og w7 (.inl rfl))
      have hE3 : (0 : Int) ≤ (x : Int) ∧ (x : Int) < 256 := by have := HX8.out; omega
      rw [hb4]
      clear hT hb htb hb4 HS0
      by_cases hR : x = 0 ∨ N < (x : Int)
      · have HXR := Lib.hid hR
        have HAN := Lib.hid (fun (kg : Nat) (og : Option Addr) (w7 : World) => at_noneI (some ⟨tb, 0, none⟩) n kg x K N (gen : Int) og w7 HXR.out HX8.out)
        have r1 : ∀ (h : ¬ x = 0), N < (x : Int) := fun h => hR.resolve_left h
        clear hR
        by_cases h0 : x = 0
        · have HXE : Hid (x = 0) := Lib.hid h0
          have r2 : ((x : Int) == 0) = true := by rw [beq_iff_eq]; omega
          clear h0 r1
          go_wp2_with fail
          refine wp_region_held_drew (S := (Own tb w1)) (by kernel_rfl) ?_ (fun hHeld => ?_)
          · (try dsimp only)
            first | assumption
          generalize w1.drew = W1 at *
          refine wpAnyH_take (i := 0) (oi := { dst := some 51, op := Go.Op.move (Go.Operand.tmp 8), type := 34, pos := "law.go:83", after := #[], guard := none }) (v := ?_) rfl (by kernel_rfl) (by kernel_rfl) (by kernel_rfl) (fun _ _ _ h => h) (Or.inl ⟨by rfl, ?_⟩) (by assumption) ?_
          rotate_left
          · intro wS hSw
            (try dsimp only at hSw)
            go_simp
            (try with_reducible rfl)
          (try simp only [Act.put, List.setIfInBounds_toArray, List.set_cons_zero, List.set_cons_succ])
          refine wpAnyH_take (i := 1) (oi := { dst := some 52, op := Go.Op.move (Go.Operand.tmp 0), type := 36, pos := "law.go:83", after := #[], guard := none }) (v := ?_) rfl (by kernel_rfl) (by kernel_rfl) (by kernel_rfl) (fun _ _ _ h => h) (Or.inl ⟨by rfl, ?_⟩) (by assumption) ?_
          rotate_left
          · intro wS hSw
            (try dsimp only at hSw)
            go_simp
            (try with_reducible rfl)
          (try simp only [Act.put, List.setIfInBounds_toArray, List.set_cons_zero, List.set_cons_succ])
          refine wpAnyH_take (i := 3) (oi := { dst := some 54, op := Go.Op.load 25 (Go.Operand.tmp 4), type := 25, pos := "law.go:83", after := #[], guard := none }) (v := ?_) rfl (by kernel_rfl) (by kernel_rfl) (by kernel_rfl) (fun _ _ _ h => h) (Or.inl ⟨by rfl, ?_⟩) (by assumption) ?_
          rotate_left
          · intro wS hSw
            refine exec_loadM (x := .tmp 4) (cs := [.int .i64 K, .int .i64 N, .int .u32 (gen : Int)]) ?_ ?_ ((HPX.out wS ((Own.refl tb w1).trans hSw)).range0) Tryd.underlying25 rfl info_rplanJ <;> rfl
          (try simp only [Act.put, List.setIfInBounds_toArray, List.set_cons_zero, List.set_cons_succ])
          refine wpAnyH_ready (rs := [2]) (by kernel_rfl) (by simp) ?_
          refine AllReadyH.cons (o := { dst := some 53, op := Go.Op.call { callee := Go.Callee.value (Go.Operand.func 21), args := #[Go.Operand.tmp 52], argTypes := #[36] }, type := 29, pos := "law.go:83", after := #[{ on := 1, ground := Go.Ground.data }], guard := none }) rfl (fun K hK => ?_) AllReadyH.nil
          go_simp
          (refine (give_any tb n cs oa S W1 hT_0.lt (HSW.out _ (hP_0)) HN9.out).mono ?_; rintro e V_1 ⟨og, kg, rfl, hg1, hg2, hSh, hb⟩; have HSH := Lib.hid hSh; have HGK := Lib.hid (show n ≤ kg ∧ kg ≤ maxLen from ⟨hg1, hg2⟩); have hP_1 := hP_0.then_fresh hb; have hT_1 := hT_0.below hb; clear hb hSh hg1 hg2 hP_0 hT_0; skip)
          (try go_wp2_with fail)
          refine hK.out _ _ ?_ (fun hHeld => ?_)
          · (try dsimp only)
            first | assumption
          clear hK K
          (try simp only [Act.put, List.setIfInBounds_toArray, List.set_cons_zero, List.set_cons_succ])
          refine wpAnyH_ready (rs := [4]) (by kernel_rfl) (by simp) ?_
          refine AllReadyH.cons (o := { dst := some 55, op := Go.Op.call { callee := Go.Callee.value (Go.Operand.func 20), args := #[Go.Operand.tmp 51, Go.Operand.tmp 53, Go.Operand.tmp 54], argTypes := #[34, 29, 28] }, type := 47, pos := "law.go:83", after := #[{ on := 0, ground := Go.Ground.data }, { on := 2, ground := Go.Ground.data }, { on := 3, ground := Go.Ground.data }, { on := 2, ground := Go.Ground.chain }], guard := none }) rfl (fun K hK => ?_) AllReadyH.nil
          go_simp
          (refine (HJA.out tb kg og V_1 hT_1 HSH.out HGK.out.1 HGK.out.2).mono ?_; rintro e V_2 ⟨so, sl, sc, ev, rfl, hE, hC, hL⟩; have HEV := Lib.hid hE; have HCS := Lib.hid hC; have hP_2 := hP_1.trans hL.2; have hT_2 := hL.1; clear hE hC hL hP_1 hT_1 HSH HGK; skip)
          (try go_wp2_with fail)
          refine hK.out _ _ ?_ (fun hHeld => ?_)
          · (try dsimp only)
            first | assumption
          clear hK K
          (try simp only [Act.put, List.setIfInBounds_toArray, List.set_cons_zero, List.set_cons_succ])
          refine wpAnyH_take (i := 5) (oi := { dst := some 50, op := Go.Op.move (Go.Operand.tmp 55), type := 47, pos := "law.go:83", after := #[{ on := 4, ground := Go.Ground.data }], guard := none }) (v := ?_) rfl (by kernel_rfl) (by kernel_rfl) (by kernel_rfl) (fun _ _ _ h => h) (Or.inl ⟨by rfl, ?_⟩) (by assumption) ?_
          rotate_left
          · intro wS hSw
            (try dsimp only at hSw)
            go_simp
            (try with_reducible rfl)
          (try simp only [Act.put, List.setIfInBounds_toArray, List.set_cons_zero, List.set_cons_succ])
          refine wpAnyH_take (i := 6) (oi := { dst := some 56, op := Go.Op.extract (Go.Operand.tmp 50) 0, type := 22, pos := "law.go:83", after := #[{ on := 5, ground := Go.Ground.data }], guard := none }) (v := ?_) rfl (by kernel_rfl) (by kernel_rfl) (by kernel_rfl) (fun _ _ _ h => h) (Or.inl ⟨by rfl, ?_⟩) (by assumption) ?_
          rotate_left
          · intro wS hSw
            (try dsimp only at hSw)
            go_simp
            (try with_reducible rfl)
          (try simp only [Act.put, List.setIfInBounds_toArray, List.set_cons_zero, List.set_cons_succ])
          refine wpAnyH_take (i := 7) (oi := { dst := some 57, op := Go.Op.extract (Go.Operand.tmp 50) 1, type := 31, pos := "law.go:83", after := #[{ on := 5, ground := Go.Ground.data }, { on := 8, ground := Go.Ground.gcOnly Go.Departure.lateStores }], guard := none }) (v := ?_) rfl (by kernel_rfl) (by kernel_rfl) (by kernel_rfl) (fun _ _ _ h => h) (Or.inl ⟨by rfl, ?_⟩) (by assumption) ?_
          rotate_left
          · intro wS hSw
            (try dsimp only at hSw)
            go_simp
            (try with_reducible rfl)
          (try simp only [Act.put, List.setIfInBounds_toArray, List.set_cons_zero, List.set_cons_succ])
          refine wpAnyH_take (i := 8) (oi := { dst := some 9, op := Go.Op.assign (Go.Operand.tmp 56), type := 22, pos := "law.go:83", after := #[{ on := 6, ground := Go.Ground.data }, { on := 4, ground := Go.Ground.chain }, { on := 0, ground := Go.Ground.phase }, { on := 1, ground := Go.Ground.phase }, { on := 2, ground := Go.Ground.phase }, { on := 3, ground := Go.Ground.phase }, { on := 4, ground := Go.Ground.phase }, { on := 5, ground := Go.Ground.phase }, { on := 6, ground := Go.Ground.phase }, { on := 7, ground := Go.Ground.textOnly Go.Departure.lateStores }], guard := none }) (v := ?_) rfl (by kernel_rfl) (by kernel_rfl) (by kernel_rfl) (fun _ _ _ h => h) (Or.inl ⟨by rfl, ?_⟩) (by assumption) ?_
          rotate_left
          · intro wS hSw
            (try dsimp only at hSw)
            go_simp
            (try with_reducible rfl)
          (try simp only [Act.put, List.setIfInBounds_toArray, List.set_cons_zero, List.set_cons_succ])
          refine wpAnyH_take (i := 9) (oi := { dst := some 10, op := Go.Op.assign (Go.Operand.tmp 57), type := 31, pos := "law.go:83", after := #[{ on := 7, ground := Go.Ground.data }, { on := 8, ground := Go.Ground.chain }, { on := 0, ground := Go.Ground.phase }, { on := 1, ground := Go.Ground.phase }, { on := 2, ground := Go.Ground.phase }, { on := 3, ground := Go.Ground.phase }, { on := 4, ground := Go.Ground.phase }, { on := 5, ground := Go.Ground.phase }, { on := 6, ground := Go.Ground.phase }, { on := 7, ground := Go.Ground.phase }, { on := 8, ground := Go.Ground.phase }], guard := none }) (v := ?_) rfl (by kernel_rfl) (by kernel_rfl) (by kernel_rfl) (fun _ _ _ h => h) (Or.inl ⟨by rfl, ?_⟩) (by assumption) ?_
          rotate_left
          · intro wS hSw
            (try dsimp only at hSw)
            go_simp
            (try with_reducible rfl)
          (try simp only [Act.put, List.setIfInBounds_toArray, List.set_cons_zero, List.set_cons_succ])
          refine wpAnyH_done (by kernel_rfl) ?_ _
          have HO4 := Lib.hid hP_2
          have HT4 := Lib.hid hT_2
          have HRA := Lib.hid (HJB.out 0 tb cs oa V_2 (by decide) hT_2.lt (HSW.out _ hP_2))
          have HPZ := Lib.hid (HPX.out V_2 hP_2)
          have c0 : V_2.cell? ⟨b4, 0, none⟩ = some (.int .i64 K) := by rw [Blk.cell HPZ.out]; rfl
          have c1 : V_2.cell? ⟨b4, 1, none⟩ = some (.int .i64 N) := by rw [Blk.cell HPZ.out]; rfl
          have c2 : V_2.cell? ⟨b4, 2, none⟩ = some (.int .u32 (gen : Int)) := by rw [Blk.cell HPZ.out]; rfl
          clear hP_2 hT_2
          go_wp2_with fail
          refine HRA.out.mono ?_
          rintro e w5 ⟨oo, ol, oc, rfl, hC, hb⟩
          have HCO := Lib.hid hC
          have HO5 := Lib.hid (HO4.out.then_fresh hb)
          have HO45 : Hid (Own tb V_2 w5) := Lib.hid (Own.of_below hb)
          have hT5 : TabIn w5 tb := HT4.out.below hb
          have hT_0 : TabIn w5.drew tb := hT5
          have hP_0 : Own tb w5 w5.drew := (Own.refl _ _).drew
          have hz := zsh_run
          clear hb hC c0 c1 c2 HRA HPZ HT4 HO4 hT5
          go_wp2_with fail
          refine wp_region_held_drew (S := (Own tb w5)) (by kernel_rfl) ?_ (fun hHeld => ?_)
          · (try dsimp only)
            first | assumption
          generalize w5.drew = W5 at *
          refine wpAnyH_take (i := 0) (oi := { dst := some 65, op := Go.Op.move (Go.Operand.tmp 8), type := 34, pos := "law.go:85", after := #[], guard := none }) (v := ?_) rfl (by kernel_rfl) (by kernel_rfl) (by kernel_rfl) (fun _ _ _ h => h) (Or.inl ⟨by rfl, ?_⟩) (by assumption) ?_
          rotate_left
          · intro wS hSw
            (try dsimp only at hSw)
            go_simp
            (try with_reducible rfl)
          (try simp only [Act.put, List.setIfInBounds_toArray, List.set_cons_zero, List.set_cons_succ])
          refine wpAnyH_take (i := 1) (oi := { dst := some 66, op := Go.Op.move (Go.Operand.tmp 0), type := 36, pos := "law.go:85", after := #[], guard := none }) (v := ?_) rfl (by kernel_rfl) (by kernel_rfl) (by kernel_rfl) (fun _ _ _ h => h) (Or.inl ⟨by rfl, ?_⟩) (by assumption) ?_
          rotate_left
          · intro wS hSw
            (try dsimp only at hSw)
            go_simp
            (try with_reducible rfl)
          (try simp only [Act.put, List.setIfInBounds_toArray, List.set_cons_zero, List.set_cons_succ])
          refine wpAnyH_take (i := 3) (oi := { dst := some 68, op := Go.Op.load 25 (Go.Operand.tmp 4), type := 25, pos := "law.go:85", after := #[], guard := none }) (v := ?_) rfl (by kernel_rfl) (by kernel_rfl) (by kernel_rfl) (fun _ _ _ h => h) (Or.inl ⟨by rfl, ?_⟩) (by assumption) ?_
          rotate_left
          · intro wS hSw
            refine exec_loadM (x := .tmp 4) (cs := [.int .i64 K, .int .i64 N, .int .u32 (gen : Int)]) ?_ ?_ ((HPX.out wS (HO5.out.trans hSw)).range0) Tryd.underlying25 rfl info_rplanJ <;> rfl
          (try simp only [Act.put, List.setIfInBounds_toArray, List.set_cons_zero, List.set_cons_succ])
          refine wpAnyH_take (i := 4) (oi := { dst := some 69, op := Go.Op.move (Go.Operand.tmp 2), type := 5, pos := "law.go:85", after := #[], guard := none }) (v := ?_) rfl (by kernel_rfl) (by kernel_rfl) (by kernel_rfl) (fun _ _ _ h => h) (Or.inl ⟨by rfl, ?_⟩) (by assumption) ?_
          rotate_left
          · intro wS hSw
            (try dsimp only at hSw)
            go_simp
            (try with_reducible rfl)
          (try simp only [Act.put, List.setIfInBounds_toArray, List.set_cons_zero, List.set_cons_succ])
          refine wpAnyH_ready (rs := [2, 9]) (by kernel_rfl) (by simp) ?_
          refine AllReadyH.cons (o := { dst := some 67, op := Go.Op.call { callee := Go.Callee.value (Go.Operand.func 21), args := #[Go.Operand.tmp 66], argTypes := #[36] }, type := 29, pos := "law.go:85", after := #[{ on := 1, ground := Go.Ground.data }], guard := none }) rfl (fun K hK => ?_) ?_
          · skip
            go_simp
            (refine (give_any tb n cs oa S W5 hT_0.lt (HSW.out _ (HO5.out.trans hP_0)) HN9.out).mono ?_; rintro e V_1 ⟨og, kg, rfl, hg1, hg2, hSh, hb⟩; have HSH := Lib.hid hSh; have HGK := Lib.hid (show n ≤ kg ∧ kg ≤ maxLen from ⟨hg1, hg2⟩); have hP_1 := hP_0.then_fresh hb; have hT_1 := hT_0.below hb; clear hb hSh hg1 hg2 hP_0 hT_0; skip)
            (try go_wp2_with fail)
            refine hK.out _ _ ?_ (fun hHeld => ?_)
            · (try dsimp only)
              first | assumption
            clear hK K
            (try simp only [Act.put, List.setIfInBounds_toArray, List.set_cons_zero, List.set_cons_succ])
            refine wpAnyH_ready (rs := [5, 9]) (by kernel_rfl) (by simp) ?_
            refine AllReadyH.cons (o := { dst := some 70, op := Go.Op.call { callee := Go.Callee.value (Go.Operand.func 23), args := #[Go.Operand.tmp 65, Go.Operand.tmp 67, Go.Operand.tmp 68, Go.Operand.tmp 69], argTypes := #[34, 29, 28, 5] }, type := 53, pos := "law.go:85", after := #[{ on := 0, ground := Go.Ground.data }, { on := 2, ground := Go.Ground.data }, { on := 3, ground := Go.Ground.data }, { on := 4, ground := Go.Ground.data }, { on := 2, ground := Go.Ground.chain }], guard := none }) rfl (fun K hK => ?_) ?_
            · skip
              go_simp
              (refine (HAN.out kg og V_1).mono ?_; rintro e V_2 ⟨rfl, hb⟩; have hP_2 := hP_1.then_fresh hb; have hT_2 := hT_1.below hb; clear hb hP_1 hT_1 HSH HGK; skip)
              (try go_wp2_with fail)
              refine hK.out _ _ ?_ (fun hHeld => ?_)
              · (try dsimp only)
                first | assumption
              clear hK K
              (try simp only [Act.put, List.setIfInBounds_toArray, List.set_cons_zero, List.set_cons_succ])
              refine wpAnyH_take (i := 6) (oi := { dst := some 64, op := Go.Op.move (Go.Operand.tmp 70), type := 53, pos := "law.go:85", after := #[{ on := 5, ground := Go.Ground.data }], guard := none }) (v := ?_) rfl (by kernel_rfl) (by kernel_rfl) (by kernel_rfl) (fun _ _ _ h => h) (Or.inl ⟨by rfl, ?_⟩) (by assumption) ?_
              rotate_left
              · intro wS hSw
                (try dsimp only at hSw)
                go_simp
                (try with_reducible rfl)
              (try simp only [Act.put, List.setIfInBounds_toArray, List.set_cons_zero, List.set_cons_succ])
              refine wpAnyH_take (i := 7) (oi := { dst := some 71, op := Go.Op.extract (Go.Operand.tmp 64) 0, type := 52, pos := "law.go:85", after := #[{ on := 6, ground := Go.Ground.data }], guard := none }) (v := ?_) rfl (by kernel_rfl) (by kernel_rfl) (by kernel_rfl) (fun _ _ _ h => h) (Or.inl ⟨by rfl, ?_⟩) (by assumption) ?_
              rotate_left
              · intro wS hSw
                (try dsimp only at hSw)
                go_simp
                (try with_reducible rfl)
              (try simp only [Act.put, List.setIfInBounds_toArray, List.set_cons_zero, List.set_cons_succ])
              refine wpAnyH_take (i := 8) (oi := { dst := some 72, op := Go.Op.extract (Go.Operand.tmp 64) 1, type := 31, pos := "law.go:85", after := #[{ on := 6, ground := Go.Ground.data }, { on := 10, ground := Go.Ground.gcOnly Go.Departure.lateStores }], guard := none }) (v := ?_) rfl (by kernel_rfl) (by kernel_rfl) (by kernel_rfl) (fun _ _ _ h => h) (Or.inl ⟨by rfl, ?_⟩) (by assumption) ?_
              rotate_left
              · intro wS hSw
                (try dsimp only at hSw)
                go_simp
                (try with_reducible rfl)
              (try simp only [Act.put, List.setIfInBounds_toArray, List.set_cons_zero, List.set_cons_succ])
              refine wpAnyH_ready (rs := [9]) (by kernel_rfl) (by simp) ?_
              refine AllReadyH.cons (o := { dst := some 13, op := Go.Op.alloc 52, type := 0, pos := "law.go:85", after := #[], guard := none }) rfl (fun K hK => ?_) AllReadyH.nil
              go_simp
              (obtain ⟨ba, hba⟩ : ∃ z, V_2.heap.size = z := ⟨_, rfl⟩; obtain ⟨V_3, hw⟩ : ∃ z, V_2.alloc (.cells #[.int .u8 0, .int .u32 0, .slice none 0 0] 52) = z := ⟨_, rfl⟩; rw [hw, hba]; have hb : Below V_2.heap.size V_2 V_3 := (by rw [← hw]; exact (Below.refl _ _).alloc (Nat.le_refl _) _); have hA_3 : Blk V_3 ba #[.int .u8 0, .int .u32 0, .slice none 0 0] 52 := (by rw [← hw, ← hba]; exact Blk.new _ _ _); have hbt : ba ≠ tb := (by have := hT_2.lt; omega); have HBA : Hid (w5.heap.size ≤ ba) := Lib.hid (by rw [← hba]; exact hP_2.size); have hP_3 := hP_2.then_fresh hb; have hT_3 := hT_2.below hb; clear hb hw hba hP_2 hT_2; skip)
              (try go_wp2_with fail)
              refine hK.out _ _ ?_ (fun hHeld => ?_)
              · (try dsimp only)
                first | assumption
              clear hK K
              (try simp only [Act.put, List.setIfInBounds_toArray, List.set_cons_zero, List.set_cons_succ])
              refine wpAnyH_ready (rs := [10]) (by kernel_rfl) (by simp) ?_
              refine AllReadyH.cons (o := { dst := none, op := Go.Op.store 52 (Go.Operand.tmp 13) (Go.Operand.tmp 71), type := 0, pos := "law.go:85", after := #[{ on := 9, ground := Go.Ground.data }, { on := 7, ground := Go.Ground.data }, { on := 5, ground := Go.Ground.chain }, { on := 0, ground := Go.Ground.phase }, { on := 1, ground := Go.Ground.phase }, { on := 2, ground := Go.Ground.phase }, { on := 3, ground := Go.Ground.phase }, { on := 4, ground := Go.Ground.phase }, { on := 5, ground := Go.Ground.phase }, { on := 6, ground := Go.Ground.phase }, { on := 7, ground := Go.Ground.phase }, { on := 8, ground := Go.Ground.textOnly Go.Departure.lateStores }, { on := 9, ground := Go.Ground.phase }], guard := none }) rfl (fun K hK => ?_) AllReadyH.nil
              (refine step_storeM rfl 52 (.tmp 13) (.tmp 71) rfl ba 0 #[.int .u8 0, .int .u32 0, .slice none 0 0] rfl rfl (hA_3.there (Nat.le_refl 3)) info_share3 (one_share _ _ _ _ _ _ _) ?_; obtain ⟨V_4, hw⟩ : ∃ z, V_3.setCells ba 0 [.int .u8 0, .int .u32 0, .slice none 0 0] = z := ⟨_, rfl⟩; have hO : Own ba V_3 V_4 := (by rw [← hw]; exact Own.setCells (b := ba) [.int .u8 0, .int .u32 0, .slice none 0 0] 0 V_3); have hA_4 : Blk V_4 ba #[.int .u8 0, .int .u32 0, .slice none 0 0] 52 := (by rw [← hw]; exact hA_3.whole3 rfl _ _ _); have hP_4 := hP_3.then_new hO HBA.out; have hT_4 := hT_3.own hO (Ne.symm hbt); rw [hw]; clear hO hw hA_3 hP_3 hT_3; skip)
              refine hK.out _ _ ?_ (fun hHeld => ?_)
              · (try dsimp only)
                first | assumption
              clear hK K
              (try simp only [Act.put, List.setIfInBounds_toArray, List.set_cons_zero, List.set_cons_succ])
              refine wpAnyH_take (i := 11) (oi := { dst := some 14, op := Go.Op.assign (Go.Operand.tmp 72), type := 31, pos := "law.go:85", after := #[{ on := 8, ground := Go.Ground.data }, { on := 10, ground := Go.Ground.chain }, { on := 0, ground := Go.Ground.phase }, { on := 1, ground := Go.Ground.phase }, { on := 2, ground := Go.Ground.phase }, { on := 3, ground := Go.Ground.phase }, { on := 4, ground := Go.Ground.phase }, { on := 5, ground := Go.Ground.phase }, { on := 6, ground := Go.Ground.phase }, { on := 7, ground := Go.Ground.phase }, { on := 8, ground := Go.Ground.phase }, { on := 9, ground := Go.Ground.phase }, { on := 10, ground := Go.Ground.phase }], guard := none }) (v := ?_) rfl (by kernel_rfl) (by kernel_rfl) (by kernel_rfl) (fun _ _ _ h => h) (Or.inl ⟨by rfl, ?_⟩) (by assumption) ?_
              rotate_left
              · intro wS hSw
                (try dsimp only at hSw)
                go_simp
                (try with_reducible rfl)
              (try simp only [Act.put, List.setIfInBounds_toArray, List.set_cons_zero, List.set_cons_succ])
              refine wpAnyH_done (by kernel_rfl) ?_ _
              have HO6a := Lib.hid (HO5.out.trans hP_4)
              have HO35 := Lib.hid (HO45.out.trans hP_4)
              have HO55 := Lib.hid hP_4
              have HA5 := Lib.hid hA_4
              have HT6 := Lib.hid hT_4
              have HRB := Lib.hid (HJB.out x tb cs oa V_4 HX8.out hT_4.lt (HSW.out _ HO6a.out))
              have HPZ := Lib.hid (HPX.out V_4 HO6a.out)
              have c0 : V_4.cell? ⟨b4, 0, none⟩ = some (.int .i64 K) := by rw [Blk.cell HPZ.out]; rfl
              have c1 : V_4.cell? ⟨b4, 1, none⟩ = some (.int .i64 N) := by rw [Blk.cell HPZ.out]; rfl
              have c2 : V_4.cell? ⟨b4, 2, none⟩ = some (.int .u32 (gen : Int)) := by rw [Blk.cell HPZ.out]; rfl
              clear hP_4 hA_4 hT_4 HO5 HO45 hz
              go_wp2_with fail
              refine HRB.out.mono ?_
              rintro e w6 ⟨bo, bl, bc, rfl, hC, hb⟩
              have HCB := Lib.hid hC
              have HO6 := Lib.hid (HO6a.out.then_fresh hb)
              have HO67 := Lib.hid (HO35.out.then_fresh hb)
              have HO57 := Lib.hid (HO55.out.then_fresh hb)
              have HA6 := Lib.hid (Blk.below HA5.out hb (Blk.lt HA5.out))
              have hT6 : TabIn w6 tb := HT6.out.below hb
              have hT_0 : TabIn w6.drew tb := hT6
              have hP_0 : Own tb w6 w6.drew := (Own.refl _ _).drew
              clear hb hC c0 c1 c2 HRB HPZ HT6 hT6
              go_wp2_with fail
              refine wp_region_held_drew (S := (Own tb w6)) (by kernel_rfl) ?_ (fun hHeld => ?_)
              · (try dsimp only)
                first | assumption
              generalize w6.drew = W6 at *
              refine wpAnyH_take (i := 0) (oi := { dst := some 81, op := Go.Op.move (Go.Operand.tmp 0), type := 36, pos := "law.go:87", after := #[], guard := none }) (v := ?_) rfl (by kernel_rfl) (by kernel_rfl) (by kernel_rfl) (fun _ _ _ h => h) (Or.inl ⟨by rfl, ?_⟩) (by assumption) ?_
              rotate_left
              · intro wS hSw
                (try dsimp only at hSw)
                go_simp
                (try with_reducible rfl)
              (try simp only [Act.put, List.setIfInBounds_toArray, List.set_cons_zero, List.set_cons_succ])
              refine wpAnyH_take (i := 2) (oi := { dst := some 83, op := Go.Op.load 25 (Go.Operand.tmp 4), type := 25, pos := "law.go:87", after := #[], guard := none }) (v := ?_) rfl (by kernel_rfl) (by kernel_rfl) (by kernel_rfl) (fun _ _ _ h => h) (Or.inl ⟨by rfl, ?_⟩) (by assumption) ?_
              rotate_left
              · intro wS hSw
                refine exec_loadM (x := .tmp 4) (cs := [.int .i64 K, .int .i64 N, .int .u32 (gen : Int)]) ?_ ?_ ((HPX.out wS (HO6.out.trans hSw)).range0) Tryd.underlying25 rfl info_rplanJ <;> rfl
              (try simp only [Act.put, List.setIfInBounds_toArray, List.set_cons_zero, List.set_cons_succ])
              refine wpAnyH_ready (rs := [1]) (by kernel_rfl) (by simp) ?_
              refine AllReadyH.cons (o := { dst := some 82, op := Go.Op.call { callee := Go.Callee.value (Go.Operand.func 21), args := #[Go.Operand.tmp 81], argTypes := #[36] }, type := 29, pos := "law.go:87", after := #[{ on := 0, ground := Go.Ground.data }], guard := none }) rfl (fun K hK => ?_) AllReadyH.nil
              go_simp
              (refine (give_any tb n cs oa S W6 hT_0.lt (HSW.out _ (HO6.out.trans hP_0)) HN9.out).mono ?_; rintro e V_1 ⟨og, kg, rfl, hg1, hg2, hSh, hb⟩; have HSH := Lib.hid hSh; have HGK := Lib.hid (show n ≤ kg ∧ kg ≤ maxLen from ⟨hg1, hg2⟩); have hP_1 := hP_0.then_fresh hb; have hT_1 := hT_0.below hb; clear hb hSh hg1 hg2 hP_0 hT_0; skip)
              (try go_wp2_with fail)
              refine hK.out _ _ ?_ (fun hHeld => ?_)
              · (try dsimp only)
                first | assumption
              clear hK K
              (try simp only [Act.put, List.setIfInBounds_toArray, List.set_cons_zero, List.set_cons_succ])
              refine wpAnyH_ready (rs := [3]) (by kernel_rfl) (by simp) ?_
              refine AllReadyH.cons (o := { dst := some 84, op := Go.Op.call { callee := Go.Callee.value (Go.Operand.func 20), args := #[Go.Operand.const (Go.Value.pointer none), Go.Operand.tmp 82, Go.Operand.tmp 83], argTypes := #[34, 29, 28] }, type := 47, pos := "law.go:87", after := #[{ on := 1, ground := Go.Ground.data }, { on := 2, ground := Go.Ground.data }, { on := 1, ground := Go.Ground.chain }], guard := none }) rfl (fun K hK => ?_) AllReadyH.nil
              go_simp
              (refine (HCN.out kg og V_1).mono ?_; rintro e V_2 ⟨rfl, hb⟩; have hP_2 := hP_1.then_fresh hb; clear hb hP_1 hT_1 HSH HGK; skip)
              (try go_wp2_with fail)
              refine hK.out _ _ ?_ (fun hHeld => ?_)
              · (try dsimp only)
                first | assumption
              clear hK K
              (try simp only [Act.put, List.setIfInBounds_toArray, List.set_cons_zero, List.set_cons_succ])
              refine wpAnyH_take (i := 4) (oi := { dst := some 80, op := Go.Op.move (Go.Operand.tmp 84), type := 47, pos := "law.go:87", after := #[{ on := 3, ground := Go.Ground.data }], guard := none }) (v := ?_) rfl (by kernel_rfl) (by kernel_rfl) (by kernel_rfl) (fun _ _ _ h => h) (Or.inl ⟨by rfl, ?_⟩) (by assumption) ?_
              rotate_left
              · intro wS hSw
                (try dsimp only at hSw)
                go_simp
                (try with_reducible rfl)
              (try simp only [Act.put, List.setIfInBounds_toArray, List.set_cons_zero, List.set_cons_succ])
              refine wpAnyH_take (i := 5) (oi := { dst := some 85, op := Go.Op.extract (Go.Operand.tmp 80) 0, type := 22, pos := "law.go:87", after := #[{ on := 4, ground := Go.Ground.data }], guard := none }) (v := ?_) rfl (by kernel_rfl) (by kernel_rfl) (by kernel_rfl) (fun _ _ _ h => h) (Or.inl ⟨by rfl, ?_⟩) (by assumption) ?_
              rotate_left
              · intro wS hSw
                (try dsimp only at hSw)
                go_simp
                (try with_reducible rfl)
              (try simp only [Act.put, List.setIfInBounds_toArray, List.set_cons_zero, List.set_cons_succ])
              refine wpAnyH_take (i := 6) (oi := { dst := some 86, op := Go.Op.extract (Go.Operand.tmp 80) 1, type := 31, pos := "law.go:87", after := #[{ on := 4, ground := Go.Ground.data }, { on := 7, ground := Go.Ground.gcOnly Go.Departure.lateStores }], guard := none }) (v := ?_) rfl (by kernel_rfl) (by kernel_rfl) (by kernel_rfl) (fun _ _ _ h => h) (Or.inl ⟨by rfl, ?_⟩) (by assumption) ?_
              rotate_left
              · intro wS hSw
                (try dsimp only at hSw)
                go_simp
                (try with_reducible rfl)
              (try simp only [Act.put, List.setIfInBounds_toArray, List.set_cons_zero, List.set_cons_succ])
              refine wpAnyH_take (i := 7) (oi := { dst := some 17, op := Go.Op.assign (Go.Operand.tmp 85), type := 22, pos := "law.go:87", after := #[{ on := 5, ground := Go.Ground.data }, { on := 3, ground := Go.Ground.chain }, { on := 0, ground := Go.Ground.phase }, { on := 1, ground := Go.Ground.phase }, { on := 2, ground := Go.Ground.phase }, { on := 3, ground := Go.Ground.phase }, { on := 4, ground := Go.Ground.phase }, { on := 5, ground := Go.Ground.phase }, { on := 6, ground := Go.Ground.textOnly Go.Departure.lateStores }], guard := none }) (v := ?_) rfl (by kernel_rfl) (by kernel_rfl) (by kernel_rfl) (fun _ _ _ h => h) (Or.inl ⟨by rfl, ?_⟩) (by assumption) ?_
              rotate_left
              · intro wS hSw
                (try dsimp only at hSw)
                go_simp
                (try with_reducible rfl)
              (try simp only [Act.put, List.setIfInBounds_toArray, List.set_cons_zero, List.set_cons_succ])
              refine wpAnyH_take (i := 8) (oi := { dst := some 18, op := Go.Op.assign (Go.Operand.tmp 86), type := 31, pos := "law.go:87", after := #[{ on := 6, ground := Go.Ground.data }, { on := 7, ground := Go.Ground.chain }, { on := 0, ground := Go.Ground.phase }, { on := 1, ground := Go.Ground.phase }, { on := 2, ground := Go.Ground.phase }, { on := 3, ground := Go.Ground.phase }, { on := 4, ground := Go.Ground.phase }, { on := 5, ground := Go.Ground.phase }, { on := 6, ground := Go.Ground.phase }, { on := 7, ground := Go.Ground.phase }], guard := none }) (v := ?_) rfl (by kernel_rfl) (by kernel_rfl) (by kernel_rfl) (fun _ _ _ h => h) (Or.inl ⟨by rfl, ?_⟩) (by assumption) ?_
              rotate_left
              · intro wS hSw
                (try dsimp only at hSw)
                go_simp
                (try with_reducible rfl)
              (try simp only [Act.put, List.setIfInBounds_toArray, List.set_cons_zero, List.set_cons_succ])
              refine wpAnyH_done (by kernel_rfl) ?_ _
              have HO7 := Lib.hid (HO6.out.trans hP_2)
              have HA7 := Lib.hid (hP_2.blk HA6.out hbt)
              have HB7 := Lib.hid (HBL.out _ HO7.out)
              have hv1 := HCS.out V_2 (HO67.out.trans hP_2)
              have hv2 := HCO.out V_2 (HO57.out.trans hP_2)
              have HV3 := Lib.hid (HCB.out.own hP_2)
              clear hP_2
              go_wp2_with fail
              refine (num_errj HEV.out V_2 (HG.out.below HB7.out HG.out.2)).mono ?_
              rintro e w8 ⟨rfl, hb⟩
              have HB8 := Lib.hid (HB7.out.trans (hb.mono HB7.out.size))
              have HX8b := Lib.hid hb
              clear hb hv1 hv2
              go_wp2_with fail
              refine (num_err03 1 w8 (HG.out.below HB8.out HG.out.2)).mono ?_
              rintro e w9 ⟨rfl, hb⟩
              have HB9 := Lib.hid (HB8.out.trans (hb.mono HB8.out.size))
              have HW9 : Hid (Below V_2.heap.size V_2 w9) := Lib.hid (HX8b.out.trans (hb.mono HX8b.out.size))
              have HA9 := Lib.hid (Blk.below HA7.out HW9.out (Blk.lt HA7.out))
              have HP9 := Lib.hid (HPX.out w9 (HO7.out.then_fresh HW9.out))
              have c1 : w9.cell? ⟨b4, 1, none⟩ = some (.int .i64 N) := by rw [Blk.cell HP9.out]; rfl
              clear hb
              go_wp2_with fail
              refine (num_err03 1 w9 (HG.out.below HB9.out HG.out.2)).mono ?_
              rintro e w10 ⟨rfl, hb⟩
              have HB10 := Lib.hid (HB9.out.trans (hb.mono HB9.out.size))
              have HA10 := Lib.hid (Blk.below HA9.out hb (Blk.lt HA9.out))
              have HP10 := Lib.hid (Blk.below HP9.out hb (Blk.lt HP9.out))
              have HW10 : Hid (Below V_2.heap.size V_2 w10) := Lib.hid (HW9.out.trans (hb.mono HW9.out.size))
              have a0 := Blk.cell HA10.out 0
              have a1 := Blk.cell HA10.out 1
              have a2 := Blk.cell HA10.out 2
              have c2 : w10.cell? ⟨b4, 2, none⟩ = some (.int .u32 (gen : Int)) := by rw [Blk.cell HP10.out]; rfl
              have HSU := Lib.hid (sure03 w10 (HG.out.below HB10.out HG.out.2))
              simp at a0 a1 a2
              clear hb
              go_wp2_with fail
              refine HSU.out.mono ?_
              rintro e w11 ⟨rfl, hb⟩
              have HBE := Lib.hid (HB10.out.trans (hb.mono HB10.out.size))
              clear hb
              go_wp2_with fail
              go_ret
              exact ⟨rfl, HBE.out⟩
            refine AllReadyH.cons (o := { dst := some 13, op := Go.Op.alloc 52, type := 0, pos := "law.go:85", after := #[], guard := none }) rfl (fun K hK => ?_) AllReadyH.nil
            go_simp
            (obtain ⟨ba, hba⟩ : ∃ z, V_1.heap.size = z := ⟨_, rfl⟩; obtain ⟨V_2, hw⟩ : ∃ z, V_1.alloc (.cells #[.int .u8 0, .int .u32 0, .slice none 0 0] 52) = z := ⟨_, rfl⟩; rw [hw, hba]; have hb : Below V_1.heap.size V_1 V_2 := (by rw [← hw]; exact (Below.refl _ _).alloc (Nat.le_refl _) _); have hA_2 : Blk V_2 ba #[.int .u8 0, .int .u32 0, .slice none 0 0] 52 := (by rw [← hw, ← hba]; exact Blk.new _ _ _); have hbt : ba ≠ tb := (by have := hT_1.lt; omega); have HBA : Hid (w5.heap.size ≤ ba) := Lib.hid (by rw [← hba]; exact hP_1.size); have hP_2 := hP_1.then_fresh hb; have hT_2 := hT_1.below hb; replace HSH := Lib.hid (HSH.out.later hb); clear hb hw hba hP_1 hT_1; skip)
            (try go_wp2_with fail)
            refine hK.out _ _ ?_ (fun hHeld => ?_)
            · (try dsimp only)
              first | assumption
            clear hK K
            (try simp only [Act.put, List.setIfInBounds_toArray, List.set_cons_zero, List.set_cons_succ])
            refine wpAnyH_ready (rs := [5]) (by kernel_rfl) (by simp) ?_
            refine AllReadyH.cons (o := { dst := some 70, op := Go.Op.call { callee := Go.Callee.value (Go.Operand.func 23), args := #[Go.Operand.tmp 65, Go.Operand.tmp 67, Go.Operand.tmp 68, Go.Operand.tmp 69], argTypes := #[34, 29, 28, 5] }, type := 53, pos := "law.go:85", after := #[{ on := 0, ground := Go.Ground.data }, { on := 2, ground := Go.Ground.data }, { on := 3, ground := Go.Ground.data }, { on := 4, ground := Go.Ground.data }, { on := 2, ground := Go.Ground.chain }], guard := none }) rfl (fun K hK => ?_) AllReadyH.nil
            go_simp
            (refine (HAN.out kg og V_2).mono ?_; rintro e V_3 ⟨rfl, hb⟩; have hP_3 := hP_2.then_fresh hb; have hT_3 := hT_2.below hb; have hA_3 := Blk.below hA_2 hb (Blk.lt hA_2); clear hA_2; clear hb hP_2 hT_2 HSH HGK; skip)
            (try go_wp2_with fail)
            refine hK.out _ _ ?_ (fun hHeld => ?_)
            · (try dsimp only)
              first | assumption
            clear hK K
            (try simp only [Act.put, List.setIfInBounds_toArray, List.set_cons_zero, List.set_cons_succ])
            refine wpAnyH_take (i := 6) (oi := { dst := some 64, op := Go.Op.move (Go.Operand.tmp 70), type := 53, pos := "law.go:85", after := #[{ on := 5, ground := Go.Ground.data }], guard := none }) (v := ?_) rfl (by kernel_rfl) (by kernel_rfl) (by kernel_rfl) (fun _ _ _ h => h) (Or.inl ⟨by rfl, ?_⟩) (by assumption) ?_
            rotate_left
            · intro wS hSw
              (try dsimp only at hSw)
              go_simp
              (try with_reducible rfl)
            (try simp only [Act.put, List.setIfInBounds_toArray, List.set_cons_zero, List.set_cons_succ])
            refine wpAnyH_take (i := 7) (oi := { dst := some 71, op := Go.Op.extract (Go.Operand.tmp 64) 0, type := 52, pos := "law.go:85", after := #[{ on := 6, ground := Go.Ground.data }], guard := none }) (v := ?_) rfl (by kernel_rfl) (by kernel_rfl) (by kernel_rfl) (fun _ _ _ h => h) (Or.inl ⟨by rfl, ?_⟩) (by assumption) ?_
            rotate_left
            · intro wS hSw
              (try dsimp only at hSw)
              go_simp
              (try with_reducible rfl)
            (try simp only [Act.put, List.setIfInBounds_toArray, List.set_cons_zero, List.set_cons_succ])
            refine wpAnyH_take (i := 8) (oi := { dst := some 72, op := Go.Op.extract (Go.Operand.tmp 64) 1, type := 31, pos := "law.go:85", after := #[{ on := 6, ground := Go.Ground.data }, { on := 10, ground := Go.Ground.gcOnly Go.Departure.lateStores }], guard := none }) (v := ?_) rfl (by kernel_rfl) (by kernel_rfl) (by kernel_rfl) (fun _ _ _ h => h) (Or.inl ⟨by rfl, ?_⟩) (by assumption) ?_
            rotate_left
            · intro wS hSw
              (try dsimp only at hSw)
              go_simp
              (try with_reducible rfl)
            (try simp only [Act.put, List.setIfInBounds_toArray, List.set_cons_zero, List.set_cons_succ])
            refine wpAnyH_ready (rs := [10]) (by kernel_rfl) (by simp) ?_
            refine AllReadyH.cons (o := { dst := none, op := Go.Op.store 52 (Go.Operand.tmp 13) (Go.Operand.tmp 71), type := 0, pos := "law.go:85", after := #[{ on := 9, ground := Go.Ground.data }, { on := 7, ground := Go.Ground.data }, { on := 5, ground := Go.Ground.chain }, { on := 0, ground := Go.Ground.phase }, { on := 1, ground := Go.Ground.phase }, { on := 2, ground := Go.Ground.phase }, { on := 3, ground := Go.Ground.phase }, { on := 4, ground := Go.Ground.phase }, { on := 5, ground := Go.Ground.phase }, { on := 6, ground := Go.Ground.phase }, { on := 7, ground := Go.Ground.phase }, { on := 8, ground := Go.Ground.textOnly Go.Departure.lateStores }, { on := 9, ground := Go.Ground.phase }], guard := none }) rfl (fun K hK => ?_) AllReadyH.nil
            (refine step_storeM rfl 52 (.tmp 13) (.tmp 71) rfl ba 0 #[.int .u8 0, .int .u32 0, .slice none 0 0] rfl rfl (hA_3.there (Nat.le_refl 3)) info_share3 (one_share _ _ _ _ _ _ _) ?_; obtain ⟨V_4, hw⟩ : ∃ z, V_3.setCells ba 0 [.int .u8 0, .int .u32 0, .slice none 0 0] = z := ⟨_, rfl⟩; have hO : Own ba V_3 V_4 := (by rw [← hw]; exact Own.setCells (b := ba) [.int .u8 0, .int .u32 0, .slice none 0 0] 0 V_3); have hA_4 : Blk V_4 ba #[.int .u8 0, .int .u32 0, .slice none 0 0] 52 := (by rw [← hw]; exact hA_3.whole3 rfl _ _ _); have hP_4 := hP_3.then_new hO HBA.out; have hT_4 := hT_3.own hO (Ne.symm hbt); rw [hw]; clear hO hw hA_3 hP_3 hT_3; skip)
            refine hK.out _ _ ?_ (fun hHeld => ?_)
            · (try dsimp only)
              first | assumption
            clear hK K
            (try simp only [Act.put, List.setIfInBounds_toArray, List.set_cons_zero, List.set_cons_succ])
            refine wpAnyH_take (i := 11) (oi := { dst := some 14, op := Go.Op.assign (Go.Operand.tmp 72), type := 31, pos := "law.go:85", after := #[{ on := 8, ground := Go.Ground.data }, { on := 10, ground := Go.Ground.chain }, { on := 0, ground := Go.Ground.phase }, { on := 1, ground := Go.Ground.phase }, { on := 2, ground := Go.Ground.phase }, { on := 3, ground := Go.Ground.phase }, { on := 4, ground := Go.Ground.phase }, { on := 5, ground := Go.Ground.phase }, { on := 6, ground := Go.Ground.phase }, { on := 7, ground := Go.Ground.phase }, { on := 8, ground := Go.Ground.phase }, { on := 9, ground := Go.Ground.phase }, { on := 10, ground := Go.Ground.phase }], guard := none }) (v := ?_) rfl (by kernel_rfl) (by kernel_rfl) (by kernel_rfl) (fun _ _ _ h => h) (Or.inl ⟨by rfl, ?_⟩) (by assumption) ?_
            rotate_left
            · intro wS hSw
              (try dsimp only at hSw)
              go_simp
              (try with_reducible rfl)
            (try simp only [Act.put, List.setIfInBounds_toArray, List.set_cons_zero, List.set_cons_succ])
            refine wpAnyH_done (by kernel_rfl) ?_ _
            have HO6a := Lib.hid (HO5.out.trans hP_4)
            have HO35 := Lib.hid (HO45.out.trans hP_4)
            have HO55 := Lib.hid hP_4
            have HA5 := Lib.hid hA_4
            have HT6 := Lib.hid hT_4
            have HRB := Lib.hid (HJB.out x tb cs oa V_4 HX8.out hT_4.lt (HSW.out _ HO6a.out))
            have HPZ := Lib.hid (HPX.out V_4 HO6a.out)
            have c0 : V_4.cell? ⟨b4, 0, none⟩ = some (.int .i64 K) := by rw [Blk.cell HPZ.out]; rfl
            have c1 : V_4.cell? ⟨b4, 1, none⟩ = some (.int .i64 N) := by rw [Blk.cell HPZ.out]; rfl
            have c2 : V_4.cell? ⟨b4, 2, none⟩ = some (.int .u32 (gen : Int)) := by rw [Blk.cell HPZ.out]; rfl
            clear hP_4 hA_4 hT_4 HO5 HO45 hz
            go_wp2_with fail
            refine HRB.out.mono ?_
            rintro e w6 ⟨bo, bl, bc, rfl, hC, hb⟩
            have HCB := Lib.hid hC
            have HO6 := Lib.hid (HO6a.out.then_fresh hb)
            have HO67 := Lib.hid (HO35.out.then_fresh hb)
            have HO57 := Lib.hid (HO55.out.then_fresh hb)
            have HA6 := Lib.hid (Blk.below HA5.out hb (Blk.lt HA5.out))
            have hT6 : TabIn w6 tb := HT6.out.below hb
            have hT_0 : TabIn w6.drew tb := hT6
            have hP_0 : Own tb w6 w6.drew := (Own.refl _ _).drew
            clear hb hC c0 c1 c2 HRB HPZ HT6 hT6
            go_wp2_with fail
            refine wp_region_held_drew (S := (Own tb w6)) (by kernel_rfl) ?_ (fun hHeld => ?_)
            · (try dsimp only)
              first | assumption
            generalize w6.drew = W6 at *
            refine wpAnyH_take (i := 0) (oi := { dst := some 81, op := Go.Op.move (Go.Operand.tmp 0), type := 36, pos := "law.go:87", after := #[], guard := none }) (v := ?_) rfl (by kernel_rfl) (by kernel_rfl) (by kernel_rfl) (fun _ _ _ h => h) (Or.inl ⟨by rfl, ?_⟩) (by assumption) ?_
            rotate_left
            · intro wS hSw
              (try dsimp only at hSw)
              go_simp
              (try with_reducible rfl)
            (try simp only [Act.put, List.setIfInBounds_toArray, List.set_cons_zero, List.set_cons_succ])
            refine wpAnyH_take (i := 2) (oi := { dst := some 83, op := Go.Op.load 25 (Go.Operand.tmp 4), type := 25, pos := "law.go:87", after := #[], guard := none }) (v := ?_) rfl (by kernel_rfl) (by kernel_rfl) (by kernel_rfl) (fun _ _ _ h => h) (Or.inl ⟨by rfl, ?_⟩) (by assumption) ?_
            rotate_left
            · intro wS hSw
              refine exec_loadM (x := .tmp 4) (cs := [.int .i64 K, .int .i64 N, .int .u32 (gen : Int)]) ?_ ?_ ((HPX.out wS (HO6.out.trans hSw)).range0) Tryd.underlying25 rfl info_rplanJ <;> rfl
            (try simp only [Act.put, List.setIfInBounds_toArray, List.set_cons_zero, List.set_cons_succ])
            refine wpAnyH_ready (rs := [1]) (by kernel_rfl) (by simp) ?_
            refine AllReadyH.cons (o := { dst := some 82, op := Go.Op.call { callee := Go.Callee.value (Go.Operand.func 21), args := #[Go.Operand.tmp 81], argTypes := #[36] }, type := 29, pos := "law.go:87", after := #[{ on := 0, ground := Go.Ground.data }], guard := none }) rfl (fun K hK => ?_) AllReadyH.nil
            go_simp
            (refine (give_any tb n cs oa S W6 hT_0.lt (HSW.out _ (HO6.out.trans hP_0)) HN9.out).mono ?_; rintro e V_1 ⟨og, kg, rfl, hg1, hg2, hSh, hb⟩; have HSH := Lib.hid hSh; have HGK := Lib.hid (show n ≤ kg ∧ kg ≤ maxLen from ⟨hg1, hg2⟩); have hP_1 := hP_0.then_fresh hb; have hT_1 := hT_0.below hb; clear hb hSh hg1 hg2 hP_0 hT_0; skip)
            (try go_wp2_with fail)
            refine hK.out _ _ ?_ (fun hHeld => ?_)
            · (try dsimp only)
              first | assumption
            clear hK K
            (try simp only [Act.put, List.setIfInBounds_toArray, List.set_cons_zero, List.set_cons_succ])
            refine wpAnyH_ready (rs := [3]) (by kernel_rfl) (by simp) ?_
            refine AllReadyH.cons (o := { dst := some 84, op := Go.Op.call { callee := Go.Callee.value (Go.Operand.func 20), args := #[Go.Operand.const (Go.Value.pointer none), Go.Operand.tmp 82, Go.Operand.tmp 83], argTypes := #[34, 29, 28] }, type := 47, pos := "law.go:87", after := #[{ on := 1, ground := Go.Ground.data }, { on := 2, ground := Go.Ground.data }, { on := 1, ground := Go.Ground.chain }], guard := none }) rfl (fun K hK => ?_) AllReadyH.nil
            go_simp
            (refine (HCN.out kg og V_1).mono ?_; rintro e V_2 ⟨rfl, hb⟩; have hP_2 := hP_1.then_fresh hb; clear hb hP_1 hT_1 HSH HGK; skip)
            (try go_wp2_with fail)
            refine hK.out _ _ ?_ (fun hHeld => ?_)
            · (try dsimp only)
              first | assumption
            clear hK K
            (try simp only [Act.put, List.setIfInBounds_toArray, List.set_cons_zero, List.set_cons_succ])
            refine wpAnyH_take (i := 4) (oi := { dst := some 80, op := Go.Op.move (Go.Operand.tmp 84), type := 47, pos := "law.go:87", after := #[{ on := 3, ground := Go.Ground.data }], guard := none }) (v := ?_) rfl (by kernel_rfl) (by kernel_rfl) (by kernel_rfl) (fun _ _ _ h => h) (Or.inl ⟨by rfl, ?_⟩) (by assumption) ?_
            rotate_left
            · intro wS hSw
              (try dsimp only at hSw)
              go_simp
              (try with_reducible rfl)
            (try simp only [Act.put, List.setIfInBounds_toArray, List.set_cons_zero, List.set_cons_succ])
            refine wpAnyH_take (i := 5) (oi := { dst := some 85, op := Go.Op.extract (Go.Operand.tmp 80) 0, type := 22, pos := "law.go:87", after := #[{ on := 4, ground := Go.Ground.data }], guard := none }) (v := ?_) rfl (by kernel_rfl) (by kernel_rfl) (by kernel_rfl) (fun _ _ _ h => h) (Or.inl ⟨by rfl, ?_⟩) (by assumption) ?_
            rotate_left
            · intro wS hSw
              (try dsimp only at hSw)
              go_simp
              (try with_reducible rfl)
            (try simp only [Act.put, List.setIfInBounds_toArray, List.set_cons_zero, List.set_cons_succ])
            refine wpAnyH_take (i := 6) (oi := { dst := some 86, op := Go.Op.extract (Go.Operand.tmp 80) 1, type := 31, pos := "law.go:87", after := #[{ on := 4, ground := Go.Ground.data }, { on := 7, ground := Go.Ground.gcOnly Go.Departure.lateStores }], guard := none }) (v := ?_) rfl (by kernel_rfl) (by kernel_rfl) (by kernel_rfl) (fun _ _ _ h => h) (Or.inl ⟨by rfl, ?_⟩) (by assumption) ?_
            rotate_left
            · intro wS hSw
              (try dsimp only at hSw)
              go_simp
              (try with_reducible rfl)
            (try simp only [Act.put, List.setIfInBounds_toArray, List.set_cons_zero, List.set_cons_succ])
            refine wpAnyH_take (i := 7) (oi := { dst := some 17, op := Go.Op.assign (Go.Operand.tmp 85), type := 22, pos := "law.go:87", after := #[{ on := 5, ground := Go.Ground.data }, { on := 3, ground := Go.Ground.chain }, { on := 0, ground := Go.Ground.phase }, { on := 1, ground := Go.Ground.phase }, { on := 2, ground := Go.Ground.phase }, { on := 3, ground := Go.Ground.phase }, { on := 4, ground := Go.Ground.phase }, { on := 5, ground := Go.Ground.phase }, { on := 6, ground := Go.Ground.textOnly Go.Departure.lateStores }], guard := none }) (v := ?_) rfl (by kernel_rfl) (by kernel_rfl) (by kernel_rfl) (fun _ _ _ h => h) (Or.inl ⟨by rfl, ?_⟩) (by assumption) ?_
            rotate_left
            · intro wS hSw
              (try dsimp only at hSw)
              go_simp
              (try with_reducible rfl)
            (try simp only [Act.put, List.setIfInBounds_toArray, List.set_cons_zero, List.set_cons_succ])
            refine wpAnyH_take (i := 8) (oi := { dst := some 18, op := Go.Op.assign (Go.Operand.tmp 86), type := 31, pos := "law.go:87", after := #[{ on := 6, ground := Go.Ground.data }, { on := 7, ground := Go.Ground.chain }, { on := 0, ground := Go.Ground.phase }, { on := 1, ground := Go.Ground.phase }, { on := 2, ground := Go.Ground.phase }, { on := 3, ground := Go.Ground.phase }, { on := 4, ground := Go.Ground.phase }, { on := 5, ground := Go.Ground.phase }, { on := 6, ground := Go.Ground.phase }, { on := 7, ground := Go.Ground.phase }], guard := none }) (v := ?_) rfl (by kernel_rfl) (by kernel_rfl) (by kernel_rfl) (fun _ _ _ h => h) (Or.inl ⟨by rfl, ?_⟩) (by assumption) ?_
            rotate_left
            · intro wS hSw
              (try dsimp only at hSw)
              go_simp
              (try with_reducible rfl)
            (try simp only [Act.put, List.setIfInBounds_toArray, List.set_cons_zero, List.set_cons_succ])
            refine wpAnyH_done (by kernel_rfl) ?_ _
            have HO7 := Lib.hid (HO6.out.trans hP_2)
            have HA7 := Lib.hid (hP_2.blk HA6.out hbt)
            have HB7 := Lib.hid (HBL.out _ HO7.out)
            have hv1 := HCS.out V_2 (HO67.out.trans hP_2)
            have hv2 := HCO.out V_2 (HO57.out.trans hP_2)
            have HV3 := Lib.hid (HCB.out.own hP_2)
            clear hP_2
            go_wp2_with fail
            refine (num_errj HEV.out V_2 (HG.out.below HB7.out HG.out.2)).mono ?_
            rintro e w8 ⟨rfl, hb⟩
            have HB8 := Lib.hid (HB7.out.trans (hb.mono HB7.out.size))
            have HX8b := Lib.hid hb
            clear hb hv1 hv2
            go_wp2_with fail
            refine (num_err03 1 w8 (HG.out.below HB8.out HG.out.2)).mono ?_
            rintro e w9 ⟨rfl, hb⟩
            have HB9 := Lib.hid (HB8.out.trans (hb.mono HB8.out.size))
            have HW9 : Hid (Below V_2.heap.size V_2 w9) := Lib.hid (HX8b.out.trans (hb.mono HX8b.out.size))
            have HA9 := Lib.hid (Blk.below HA7.out HW9.out (Blk.lt HA7.out))
            have HP9 := Lib.hid (HPX.out w9 (HO7.out.then_fresh HW9.out))
            have c1 : w9.cell? ⟨b4, 1, none⟩ = some (.int .i64 N) := by rw [Blk.cell HP9.out]; rfl
            clear hb
            go_wp2_with fail
            refine (num_err03 1 w9 (HG.out.below HB9.out HG.out.2)).mono ?_
            rintro e w10 ⟨rfl, hb⟩
            have HB10 := Lib.hid (HB9.out.trans (hb.mono HB9.out.size))
            have HA10 := Lib.hid (Blk.below HA9.out hb (Blk.lt HA9.out))
            have HP10 := Lib.hid (Blk.below HP9.out hb (Blk.lt HP9.out))
            have HW10 : Hid (Below V_2.heap.size V_2 w10) := Lib.hid (HW9.out.trans (hb.mono HW9.out.size))
            have a0 := Blk.cell HA10.out 0
            have a1 := Blk.cell HA10.out 1
            have a2 := Blk.cell HA10.out 2
            have c2 : w10.cell? ⟨b4, 2, none⟩ = some (.int .u32 (gen : Int)) := by rw [Blk.cell HP10.out]; rfl
            have HSU := Lib.hid (sure03 w10 (HG.out.below HB10.out HG.out.2))
            simp at a0 a1 a2
            clear hb
            go_wp2_with fail
            refine HSU.out.mono ?_
            rintro e w11 ⟨rfl, hb⟩
            have HBE := Lib.hid (HB10.out.trans (hb.mono HB10.out.size))
            clear hb
            go_wp2_with fail
            go_ret
            exact ⟨rfl, HBE.out⟩
          refine AllReadyH.cons (o := { dst := some 13, op := Go.Op.alloc 52, type := 0, pos := "law.go:85", after := #[], guard := none }) rfl (fun K hK => ?_) AllReadyH.nil
          go_simp
          (obtain ⟨ba, hba⟩ : ∃ z, W5.heap.size = z := ⟨_, rfl⟩; obtain ⟨V_1, hw⟩ : ∃ z, W5.alloc (.cells #[.int .u8 0, .int .u32 0, .slice none 0 0] 52) = z := ⟨_, rfl⟩; rw [hw, hba]; have hb : Below W5.heap.size W5 V_1 := (by rw [← hw]; exact (Below.refl _ _).alloc (Nat.le_refl _) _); have hA_1 : Blk V_1 ba #[.int .u8 0, .int .u32 0, .slice none 0 0] 52 := (by rw [← hw, ← hba]; exact Blk.new _ _ _); have hbt : ba ≠ tb := (by have := hT_0.lt; omega); have HBA : Hid (w5.heap.size ≤ ba) := Lib.hid (by rw [← hba]; exact hP_0.size); have hP_1 := hP_0.then_fresh hb; have hT_1 := hT_0.below hb; clear hb hw hba hP_0 hT_0; skip)
          (try go_wp2_with fail)
          refine hK.out _ _ ?_ (fun hHeld => ?_)
          · (try dsimp only)
            first | assumption
          clear hK K
          (try simp only [Act.put, List.setIfInBounds_toArray, List.set_cons_zero, List.set_cons_succ])
          refine wpAnyH_ready (rs := [2]) (by kernel_rfl) (by simp) ?_
          refine AllReadyH.cons (o := { dst := some 67, op := Go.Op.call { callee := Go.Callee.value (Go.Operand.func 21), args := #[Go.Operand.tmp 66], argTypes := #[36] }, type := 29, pos := "law.go:85", after := #[{ on := 1, ground := Go.Ground.data }], guard := none }) rfl (fun K hK => ?_) AllReadyH.nil
          go_simp
          (refine (give_any tb n cs oa S V_1 hT_1.lt (HSW.out _ (HO5.out.trans hP_1)) HN9.out).mono ?_; rintro e V_2 ⟨og, kg, rfl, hg1, hg2, hSh, hb⟩; have HSH := Lib.hid hSh; have HGK := Lib.hid (show n ≤ kg ∧ kg ≤ maxLen from ⟨hg1, hg2⟩); have hP_2 := hP_1.then_fresh hb; have hT_2 := hT_1.below hb; have hA_2 := Blk.below hA_1 hb (Blk.lt hA_1); clear hA_1; clear hb hSh hg1 hg2 hP_1 hT_1; skip)
          (try go_wp2_with fail)
          refine hK.out _ _ ?_ (fun hHeld => ?_)
          · (try dsimp only)
            first | assumption
          clear hK K
          (try simp only [Act.put, List.setIfInBounds_toArray, List.set_cons_zero, List.set_cons_succ])
          refine wpAnyH_ready (rs := [5]) (by kernel_rfl) (by simp) ?_
          refine AllReadyH.cons (o := { dst := some 70, op := Go.Op.call { callee := Go.Callee.value (Go.Operand.func 23), args := #[Go.Operand.tmp 65, Go.Operand.tmp 67, Go.Operand.tmp 68, Go.Operand.tmp 69], argTypes := #[34, 29, 28, 5] }, type := 53, pos := "law.go:85", after := #[{ on := 0, ground := Go.Ground.data }, { on := 2, ground := Go.Ground.data }, { on := 3, ground := Go.Ground.data }, { on := 4, ground := Go.Ground.data }, { on := 2, ground := Go.Ground.chain }], guard := none }) rfl (fun K hK => ?_) AllReadyH.nil
          go_simp
          (refine (HAN.out kg og V_2).mono ?_; rintro e V_3 ⟨rfl, hb⟩; have hP_3 := hP_2.then_fresh hb; have hT_3 := hT_2.below hb; have hA_3 := Blk.below hA_2 hb (Blk.lt hA_2); clear hA_2; clear hb hP_2 hT_2 HSH HGK; skip)
          (try go_wp2_with fail)
          refine hK.out _ _ ?_ (fun hHeld => ?_)
          · (try dsimp only)
            first | assumption
          clear hK K
          (try simp only [Act.put, List.setIfInBounds_toArray, List.set_cons_zero, List.set_cons_succ])
          refine wpAnyH_take (i := 6) (oi := { dst := some 64, op := Go.Op.move (Go.Operand.tmp 70), type := 53, pos := "law.go:85", after := #[{ on := 5, ground := Go.Ground.data }], guard := none }) (v := ?_) rfl (by kernel_rfl) (by kernel_rfl) (by kernel_rfl) (fun _ _ _ h => h) (Or.inl ⟨by rfl, ?_⟩) (by assumption) ?_
          rotate_left
          · intro wS hSw
            (try dsimp only at hSw)
            go_simp
            (try with_reducible rfl)
          (try simp only [Act.put, List.setIfInBounds_toArray, List.set_cons_zero, List.set_cons_succ])
          refine wpAnyH_take (i := 7) (oi := { dst := some 71, op := Go.Op.extract (Go.Operand.tmp 64) 0, type := 52, pos := "law.go:85", after := #[{ on := 6, ground := Go.Ground.data }], guard := none }) (v := ?_) rfl (by kernel_rfl) (by kernel_rfl) (by kernel_rfl) (fun _ _ _ h => h) (Or.inl ⟨by rfl, ?_⟩) (by assumption) ?_
          rotate_left
          · intro wS hSw
            (try dsimp only at hSw)
            go_simp
            (try with_reducible rfl)
          (try simp only [Act.put, List.setIfInBounds_toArray, List.set_cons_zero, List.set_cons_succ])
          refine wpAnyH_take (i := 8) (oi := { dst := some 72, op := Go.Op.extract (Go.Operand.tmp 64) 1, type := 31, pos := "law.go:85", after := #[{ on := 6, ground := Go.Ground.data }, { on := 10, ground := Go.Ground.gcOnly Go.Departure.lateStores }], guard := none }) (v := ?_) rfl (by kernel_rfl) (by kernel_rfl) (by kernel_rfl) (fun _ _ _ h => h) (Or.inl ⟨by rfl, ?_⟩) (by assumption) ?_
          rotate_left
          · intro wS hSw
            (try dsimp only at hSw)
            go_simp
            (try with_reducible rfl)
          (try simp only [Act.put, List.setIfInBounds_toArray, List.set_cons_zero, List.set_cons_succ])
          refine wpAnyH_ready (rs := [10]) (by kernel_rfl) (by simp) ?_
          refine AllReadyH.cons (o := { dst := none, op := Go.Op.store 52 (Go.Operand.tmp 13) (Go.Operand.tmp 71), type := 0, pos := "law.go:85", after := #[{ on := 9, ground := Go.Ground.data }, { on := 7, ground := Go.Ground.data }, { on := 5, ground := Go.Ground.chain }, { on := 0, ground := Go.Ground.phase }, { on := 1, ground := Go.Ground.phase }, { on := 2, ground := Go.Ground.phase }, { on := 3, ground := Go.Ground.phase }, { on := 4, ground := Go.Ground.phase }, { on := 5, ground := Go.Ground.phase }, { on := 6, ground := Go.Ground.phase }, { on := 7, ground := Go.Ground.phase }, { on := 8, ground := Go.Ground.textOnly Go.Departure.lateStores }, { on := 9, ground := Go.Ground.phase }], guard := none }) rfl (fun K hK => ?_) AllReadyH.nil
          (refine step_storeM rfl 52 (.tmp 13) (.tmp 71) rfl ba 0 #[.int .u8 0, .int .u32 0, .slice none 0 0] rfl rfl (hA_3.there (Nat.le_refl 3)) info_share3 (one_share _ _ _ _ _ _ _) ?_; obtain ⟨V_4, hw⟩ : ∃ z, V_3.setCells ba 0 [.int .u8 0, .int .u32 0, .slice none 0 0] = z := ⟨_, rfl⟩; have hO : Own ba V_3 V_4 := (by rw [← hw]; exact Own.setCells (b := ba) [.int .u8 0, .int .u32 0, .slice none 0 0] 0 V_3); have hA_4 : Blk V_4 ba #[.int .u8 0, .int .u32 0, .slice none 0 0] 52 := (by rw [← hw]; exact hA_3.whole3 rfl _ _ _); have hP_4 := hP_3.then_new hO HBA.out; have hT_4 := hT_3.own hO (Ne.symm hbt); rw [hw]; clear hO hw hA_3 hP_3 hT_3; skip)
          refine hK.out _ _ ?_ (fun hHeld => ?_)
          · (try dsimp only)
            first | assumption
          clear hK K
          (try simp only [Act.put, List.setIfInBounds_toArray, List.set_cons_zero, List.set_cons_succ])
          refine wpAnyH_take (i := 11) (oi := { dst := some 14, op := Go.Op.assign (Go.Operand.tmp 72), type := 31, pos := "law.go:85", after := #[{ on := 8, ground := Go.Ground.data }, { on := 10, ground := Go.Ground.chain }, { on := 0, ground := Go.Ground.phase }, { on := 1, ground := Go.Ground.phase }, { on := 2, ground := Go.Ground.phase }, { on := 3, ground := Go.Ground.phase }, { on := 4, ground := Go.Ground.phase }, { on := 5, ground := Go.Ground.phase }, { on := 6, ground := Go.Ground.phase }, { on := 7, ground := Go.Ground.phase }, { on := 8, ground := Go.Ground.phase }, { on := 9, ground := Go.Ground.phase }, { on := 10, ground := Go.Ground.phase }], guard := none }) (v := ?_) rfl (by kernel_rfl) (by kernel_rfl) (by kernel_rfl) (fun _ _ _ h => h) (Or.inl ⟨by rfl, ?_⟩) (by assumption) ?_
          rotate_left
          · intro wS hSw
            (try dsimp only at hSw)
            go_simp
            (try with_reducible rfl)
          (try simp only [Act.put, List.setIfInBounds_toArray, List.set_cons_zero, List.set_cons_succ])
          refine wpAnyH_done (by kernel_rfl) ?_ _
          have HO6a := Lib.hid (HO5.out.trans hP_4)
          have HO35 := Lib.hid (HO45.out.trans hP_4)
          have HO55 := Lib.hid hP_4
          have HA5 := Lib.hid hA_4
          have HT6 := Lib.hid hT_4
          have HRB := Lib.hid (HJB.out x tb cs oa V_4 HX8.out hT_4.lt (HSW.out _ HO6a.out))
          have HPZ := Lib.hid (HPX.out V_4 HO6a.out)
          have c0 : V_4.cell? ⟨b4, 0, none⟩ = some (.int .i64 K) := by rw [Blk.cell HPZ.out]; rfl
          have c1 : V_4.cell? ⟨b4, 1, none⟩ = some (.int .i64 N) := by rw [Blk.cell HPZ.out]; rfl
          have c2 : V_4.cell? ⟨b4, 2, none⟩ = some (.int .u32 (gen : Int)) := by rw [Blk.cell HPZ.out]; rfl
          clear hP_4 hA_4 hT_4 HO5 HO45 hz
          go_wp2_with fail
          refine HRB.out.mono ?_
          rintro e w6 ⟨bo, bl, bc, rfl, hC, hb⟩
          have HCB := Lib.hid hC
          have HO6 := Lib.hid (HO6a.out.then_fresh hb)
          have HO67 := Lib.hid (HO35.out.then_fresh hb)
          have HO57 := Lib.hid (HO55.out.then_fresh hb)
          have HA6 := Lib.hid (Blk.below HA5.out hb (Blk.lt HA5.out))
          have hT6 : TabIn w6 tb := HT6.out.below hb
          have hT_0 : TabIn w6.drew tb := hT6
          have hP_0 : Own tb w6 w6.drew := (Own.refl _ _).drew
          clear hb hC c0 c1 c2 HRB HPZ HT6 hT6
          go_wp2_with fail
          refine wp_region_held_drew (S := (Own tb w6)) (by kernel_rfl) ?_ (fun hHeld => ?_)
          · (try dsimp only)
            first | assumption
          generalize w6.drew = W6 at *
          refine wpAnyH_take (i := 0) (oi := { dst := some 81, op := Go.Op.move (Go.Operand.tmp 0), type := 36, pos := "law.go:87", after := #[], guard := none }) (v := ?_) rfl (by kernel_rfl) (by kernel_rfl) (by kernel_rfl) (fun _ _ _ h => h) (Or.inl ⟨by rfl, ?_⟩) (by assumption) ?_
          rotate_left
          · intro wS hSw
            (try dsimp only at hSw)
            go_simp
            (try with_reducible rfl)
          (try simp only [Act.put, List.setIfInBounds_toArray, List.set_cons_zero, List.set_cons_succ])
          refine wpAnyH_take (i := 2) (oi := { dst := some 83, op := Go.Op.load 25 (Go.Operand.tmp 4), type := 25, pos := "law.go:87", after := #[], guard := none }) (v := ?_) rfl (by kernel_rfl) (by kernel_rfl) (by kernel_rfl) (fun _ _ _ h => h) (Or.inl ⟨by rfl, ?_⟩) (by assumption) ?_
          rotate_left
          · intro wS hSw
            refine exec_loadM (x := .tmp 4) (cs := [.int .i64 K, .int .i64 N, .int .u32 (gen : Int)]) ?_ ?_ ((HPX.out wS (HO6.out.trans hSw)).range0) Tryd.underlying25 rfl info_rplanJ <;> rfl
          (try simp only [Act.put, List.setIfInBounds_toArray, List.set_cons_zero, List.set_cons_succ])
          refine wpAnyH_ready (rs := [1]) (by kernel_rfl) (by simp) ?_
          refine AllReadyH.cons (o := { dst := some 82, op := Go.Op.call { callee := Go.Callee.value (Go.Operand.func 21), args := #[Go.Operand.tmp 81], argTypes := #[36] }, type := 29, pos := "law.go:87", after := #[{ on := 0, ground := Go.Ground.data }], guard := none }) rfl (fun K hK => ?_) AllReadyH.nil
          go_simp
          (refine (give_any tb n cs oa S W6 hT_0.lt (HSW.out _ (HO6.out.trans hP_0)) HN9.out).mono ?_; rintro e V_1 ⟨og, kg, rfl, hg1, hg2, hSh, hb⟩; have HSH := Lib.hid hSh; have HGK := Lib.hid (show n ≤ kg ∧ kg ≤ maxLen from ⟨hg1, hg2⟩); have hP_1 := hP_0.then_fresh hb; have hT_1 := hT_0.below hb; clear hb hSh hg1 hg2 hP_0 hT_0; skip)
          (try go_wp2_with fail)
          refine hK.out _ _ ?_ (fun hHeld => ?_)
          · (try dsimp only)
            first | assumption
          clear hK K
          (try simp only [Act.put, List.setIfInBounds_toArray, List.set_cons_zero, List.set_cons_succ])
          refine wpAnyH_ready (rs := [3]) (by kernel_rfl) (by simp) ?_
          refine AllReadyH.cons (o := { dst := some 84, op := Go.Op.call { callee := Go.Callee.value (Go.Operand.func 20), args := #[Go.Operand.const (Go.Value.pointer none), Go.Operand.tmp 82, Go.Operand.tmp 83], argTypes := #[34, 29, 28] }, type := 47, pos := "law.go:87", after := #[{ on := 1, ground := Go.Ground.data }, { on := 2, ground := Go.Ground.data }, { on := 1, ground := Go.Ground.chain }], guard := none }) rfl (fun K hK => ?_) AllReadyH.nil
          go_simp
          (refine (HCN.out kg og V_1).mono ?_; rintro e V_2 ⟨rfl, hb⟩; have hP_2 := hP_1.then_fresh hb; clear hb hP_1 hT_1 HSH HGK; skip)
          (try go_wp2_with fail)
          refine hK.out _ _ ?_ (fun hHeld => ?_)
          · (try dsimp only)
            first | assumption
          clear hK K
          (try simp only [Act.put, List.setIfInBounds_toArray, List.set_cons_zero, List.set_cons_succ])
          refine wpAnyH_take (i := 4) (oi := { dst := some 80, op := Go.Op.move (Go.Operand.tmp 84), type := 47, pos := "law.go:87", after := #[{ on := 3, ground := Go.Ground.data }], guard := none }) (v := ?_) rfl (by kernel_rfl) (by kernel_rfl) (by kernel_rfl) (fun _ _ _ h => h) (Or.inl ⟨by rfl, ?_⟩) (by assumption) ?_
          rotate_left
          · intro wS hSw
            (try dsimp only at hSw)
            go_simp
            (try with_reducible rfl)
          (try simp only [Act.put, List.setIfInBounds_toArray, List.set_cons_zero, List.set_cons_succ])
          refine wpAnyH_take (i := 5) (oi := { dst := some 85, op := Go.Op.extract (Go.Operand.tmp 80) 0, type := 22, pos := "law.go:87", after := #[{ on := 4, ground := Go.Ground.data }], guard := none }) (v := ?_) rfl (by kernel_rfl) (by kernel_rfl) (by kernel_rfl) (fun _ _ _ h => h) (Or.inl ⟨by rfl, ?_⟩) (by assumption) ?_
          rotate_left
          · intro wS hSw
            (try dsimp only at hSw)
            go_simp
            (try with_reducible rfl)
          (try simp only [Act.put, List.setIfInBounds_toArray, List.set_cons_zero, List.set_cons_succ])
          refine wpAnyH_take (i := 6) (oi := { dst := some 86, op := Go.Op.extract (Go.Operand.tmp 80) 1, type := 31, pos := "law.go:87", after := #[{ on := 4, ground := Go.Ground.data }, { on := 7, ground := Go.Ground.gcOnly Go.Departure.lateStores }], guard := none }) (v := ?_) rfl (by kernel_rfl) (by kernel_rfl) (by kernel_rfl) (fun _ _ _ h => h) (Or.inl ⟨by rfl, ?_⟩) (by assumption) ?_
          rotate_left
          · intro wS hSw
            (try dsimp only at hSw)
            go_simp
            (try with_reducible rfl)
          (try simp only [Act.put, List.setIfInBounds_toArray, List.set_cons_zero, List.set_cons_succ])
          refine wpAnyH_take (i := 7) (oi := { dst := some 17, op := Go.Op.assign (Go.Operand.tmp 85), type := 22, pos := "law.go:87", after := #[{ on := 5, ground := Go.Ground.data }, { on := 3, ground := Go.Ground.chain }, { on := 0, ground := Go.Ground.phase }, { on := 1, ground := Go.Ground.phase }, { on := 2, ground := Go.Ground.phase }, { on := 3, ground := Go.Ground.phase }, { on := 4, ground := Go.Ground.phase }, { on := 5, ground := Go.Ground.phase }, { on := 6, ground := Go.Ground.textOnly Go.Departure.lateStores }], guard := none }) (v := ?_) rfl (by kernel_rfl) (by kernel_rfl) (by kernel_rfl) (fun _ _ _ h => h) (Or.inl ⟨by rfl, ?_⟩) (by assumption) ?_
          rotate_left
          · intro wS hSw
            (try dsimp only at hSw)
            go_simp
            (try with_reducible rfl)
          (try simp only [Act.put, List.setIfInBounds_toArray, List.set_cons_zero, List.set_cons_succ])
          refine wpAnyH_take (i := 8) (oi := { dst := some 18, op := Go.Op.assign (Go.Operand.tmp 86), type := 31, pos := "law.go:87", after := #[{ on := 6, ground := Go.Ground.data }, { on := 7, ground := Go.Ground.chain }, { on := 0, ground := Go.Ground.phase }, { on := 1, ground := Go.Ground.phase }, { on := 2, ground := Go.Ground.phase }, { on := 3, ground := Go.Ground.phase }, { on := 4, ground := Go.Ground.phase }, { on := 5, ground := Go.Ground.phase }, { on := 6, ground := Go.Ground.phase }, { on := 7, ground := Go.Ground.phase }], guard := none }) (v := ?_) rfl (by kernel_rfl) (by kernel_rfl) (by kernel_rfl) (fun _ _ _ h => h) (Or.inl ⟨by rfl, ?_⟩) (by assumption) ?_
          rotate_left
          · intro wS hSw
            (try dsimp only at hSw)
            go_simp
            (try with_reducible rfl)
          (try simp only [Act.put, List.setIfInBounds_toArray, List.set_cons_zero, List.set_cons_succ])
          refine wpAnyH_done (by kernel_rfl) ?_ _
          have HO7 := Lib.hid (HO6.out.trans hP_2)
          have HA7 := Lib.hid (hP_2.blk HA6.out hbt)
          have HB7 := Lib.hid (HBL.out _ HO7.out)
          have hv1 := HCS.out V_2 (HO67.out.trans hP_2)
          have hv2 := HCO.out V_2 (HO57.out.trans hP_2)
          have HV3 := Lib.hid (HCB.out.own hP_2)
          clear hP_2
          go_wp2_with fail
          refine (num_errj HEV.out V_2 (HG.out.below HB7.out HG.out.2)).mono ?_
          rintro e w8 ⟨rfl, hb⟩
          have HB8 := Lib.hid (HB7.out.trans (hb.mono HB7.out.size))
          have HX8b := Lib.hid hb
          clear hb hv1 hv2
          go_wp2_with fail
          refine (num_err03 1 w8 (HG.out.below HB8.out HG.out.2)).mono ?_
          rintro e w9 ⟨rfl, hb⟩
          have HB9 := Lib.hid (HB8.out.trans (hb.mono HB8.out.size))
          have HW9 : Hid (Below V_2.heap.size V_2 w9) := Lib.hid (HX8b.out.trans (hb.mono HX8b.out.size))
          have HA9 := Lib.hid (Blk.below HA7.out HW9.out (Blk.lt HA7.out))
          have HP9 := Lib.hid (HPX.out w9 (HO7.out.then_fresh HW9.out))
          have c1 : w9.cell? ⟨b4, 1, none⟩ = some (.int .i64 N) := by rw [Blk.cell HP9.out]; rfl
          clear hb
          go_wp2_with fail
          refine (num_err03 1 w9 (HG.out.below HB9.out HG.out.2)).mono ?_
          rintro e w10 ⟨rfl, hb⟩
          have HB10 := Lib.hid (HB9.out.trans (hb.mono HB9.out.size))
          have HA10 := Lib.hid (Blk.below HA9.out hb (Blk.lt HA9.out))
          have HP10 := Lib.hid (Blk.below HP9.out hb (Blk.lt HP9.out))
          have HW10 : Hid (Below V_2.heap.size V_2 w10) := Lib.hid (HW9.out.trans (hb.mono HW9.out.size))
          have a0 := Blk.cell HA10.out 0
          have a1 := Blk.cell HA10.out 1
          have a2 := Blk.cell HA10.out 2
          have c2 : w10.cell? ⟨b4, 2, none⟩ = some (.int .u32 (gen : Int)) := by rw [Blk.cell HP10.out]; rfl
          have HSU := Lib.hid (sure03 w10 (HG.out.below HB10.out HG.out.2))
          simp at a0 a1 a2
          clear hb
          go_wp2_with fail
          refine HSU.out.mono ?_
          rintro e w11 ⟨rfl, hb⟩
          have HBE := Lib.hid (HB10.out.trans (hb.mono HB10.out.size))
          clear hb
          go_wp2_with fail
          go_ret
          exact ⟨rfl, HBE.out⟩
        have r2 : ((x : Int) == 0) = false := by rw [beq_eq_false_iff_ne]; omega
        have r3 := r1 h0
        clear h0 r1
        go_wp2_with fail
        refine wp_region_held_drew (S := (Own tb w1)) (by kernel_rfl) ?_ (fun hHeld => ?_)
        · (try dsimp only)
          first | assumption
        generalize w1.drew = W1 at *
        refine wpAnyH_take (i := 0) (oi := { dst := some 51, op := Go.Op.move (Go.Operand.tmp 8), type := 34, pos := "law.go:83", after := #[], guard := none }) (v := ?_) rfl (by kernel_rfl) (by kernel_rfl) (by kernel_rfl) (fun _ _ _ h => h) (Or.inl ⟨by rfl, ?_⟩) (by assumption) ?_
        rotate_left
        · intro wS hSw
          (try dsimp only at hSw)
          go_simp
          (try with_reducible rfl)
        (try simp only [Act.put, List.setIfInBounds_toArray, List.set_cons_zero, List.set_cons_succ])
        refine wpAnyH_take (i := 1) (oi := { dst := some 52, op := Go.Op.move (Go.Operand.tmp 0), type := 36, pos := "law.go:83", after := #[], guard := none }) (v := ?_) rfl (by kernel_rfl) (by kernel_rfl) (by kernel_rfl) (fun _ _ _ h => h) (Or.inl ⟨by rfl, ?_⟩) (by assumption) ?_
        rotate_left
        · intro wS hSw
          (try dsimp only at hSw)
          go_simp
          (try with_reducible rfl)
        (try simp only [Act.put, List.setIfInBounds_toArray, List.set_cons_zero, List.set_cons_succ])
        refine wpAnyH_take (i := 3) (oi := { dst := some 54, op := Go.Op.load 25 (Go.Operand.tmp 4), type := 25, pos := "law.go:83", after := #[], guard := none }) (v := ?_) rfl (by kernel_rfl) (by kernel_rfl) (by kernel_rfl) (fun _ _ _ h => h) (Or.inl ⟨by rfl, ?_⟩) (by assumption) ?_
        rotate_left
        · intro wS hSw
          refine exec_loadM (x := .tmp 4) (cs := [.int .i64 K, .int .i64 N, .int .u32 (gen : Int)]) ?_ ?_ ((HPX.out wS ((Own.refl tb w1).trans hSw)).range0) Tryd.underlying25 rfl info_rplanJ <;> rfl
        (try simp only [Act.put, List.setIfInBounds_toArray, List.set_cons_zero, List.set_cons_succ])
        refine wpAnyH_ready (rs := [2]) (by kernel_rfl) (by simp) ?_
        refine AllReadyH.cons (o := { dst := some 53, op := Go.Op.call { callee := Go.Callee.value (Go.Operand.func 21), args := #[Go.Operand.tmp 52], argTypes := #[36] }, type := 29, pos := "law.go:83", after := #[{ on := 1, ground := Go.Ground.data }], guard := none }) rfl (fun K hK => ?_) AllReadyH.nil
        go_simp
        (refine (give_any tb n cs oa S W1 hT_0.lt (HSW.out _ (hP_0)) HN9.out).mono ?_; rintro e V_1 ⟨og, kg, rfl, hg1, hg2, hSh, hb⟩; have HSH := Lib.hid hSh; have HGK := Lib.hid (show n ≤ kg ∧ kg ≤ maxLen from ⟨hg1, hg2⟩); have hP_1 := hP_0.then_fresh hb; have hT_1 := hT_0.below hb; clear hb hSh hg1 hg2 hP_0 hT_0; skip)
        (try go_wp2_with fail)
        refine hK.out _ _ ?_ (fun hHeld => ?_)
        · (try dsimp only)
          first | assumption
        clear hK K
        (try simp only [Act.put, List.setIfInBounds_toArray, List.set_cons_zero, List.set_cons_succ])
        refine wpAnyH_ready (rs := [4]) (by kernel_rfl) (by simp) ?_
        refine AllReadyH.cons (o := { dst := some 55, op := Go.Op.call { callee := Go.Callee.value (Go.Operand.func 20), args := #[Go.Operand.tmp 51, Go.Operand.tmp 53, Go.Operand.tmp 54], argTypes := #[34, 29, 28] }, type := 47, pos := "law.go:83", after := #[{ on := 0, ground := Go.Ground.data }, { on := 2, ground := Go.Ground.data }, { on := 3, ground := Go.Ground.data }, { on := 2, ground := Go.Ground.chain }], guard := none }) rfl (fun K hK => ?_) AllReadyH.nil
        go_simp
        (refine (HJA.out tb kg og V_1 hT_1 HSH.out HGK.out.1 HGK.out.2).mono ?_; rintro e V_2 ⟨so, sl, sc, ev, rfl, hE, hC, hL⟩; have HEV := Lib.hid hE; have HCS := Lib.hid hC; have hP_2 := hP_1.trans hL.2; have hT_2 := hL.1; clear hE hC hL hP_1 hT_1 HSH HGK; skip)
        (try go_wp2_with fail)
        refine hK.out _ _ ?_ (fun hHeld => ?_)
        · (try dsimp only)
          first | assumption
        clear hK K
        (try simp only [Act.put, List.setIfInBounds_toArray, List.set_cons_zero, List.set_cons_succ])
        refine wpAnyH_take (i := 5) (oi := { dst := some 50, op := Go.Op.move (Go.Operand.tmp 55), type := 47, pos := "law.go:83", after := #[{ on := 4, ground := Go.Ground.data }], guard := none }) (v := ?_) rfl (by kernel_rfl) (by kernel_rfl) (by kernel_rfl) (fun _ _ _ h => h) (Or.inl ⟨by rfl, ?_⟩) (by assumption) ?_
        rotate_left
        · intro wS hSw
          (try dsimp only at hSw)
          go_simp
          (try with_reducible rfl)
        (try simp only [Act.put, List.setIfInBounds_toArray, List.set_cons_zero, List.set_cons_succ])
        refine wpAnyH_take (i := 6) (oi := { dst := some 56, op := Go.Op.extract (Go.Operand.tmp 50) 0, type := 22, pos := "law.go:83", after := #[{ on := 5, ground := Go.Ground.data }], guard := none }) (v := ?_) rfl (by kernel_rfl) (by kernel_rfl) (by kernel_rfl) (fun _ _ _ h => h) (Or.inl ⟨by rfl, ?_⟩) (by assumption) ?_
        rotate_left
        · intro wS hSw
          (try dsimp only at hSw)
          go_simp
          (try with_reducible rfl)
        (try simp only [Act.put, List.setIfInBounds_toArray, List.set_cons_zero, List.set_cons_succ])
        refine wpAnyH_take (i := 7) (oi := { dst := some 57, op := Go.Op.extract (Go.Operand.tmp 50) 1, type := 31, pos := "law.go:83", after := #[{ on := 5, ground := Go.Ground.data }, { on := 8, ground := Go.Ground.gcOnly Go.Departure.lateStores }], guard := none }) (v := ?_) rfl (by kernel_rfl) (by kernel_rfl) (by kernel_rfl) (fun _ _ _ h => h) (Or.inl ⟨by rfl, ?_⟩) (by assumption) ?_
        rotate_left
        · intro wS hSw
          (try dsimp only at hSw)
          go_simp
          (try with_reducible rfl)
        (try simp only [Act.put, List.setIfInBounds_toArray, List.set_cons_zero, List.set_cons_succ])
        refine wpAnyH_take (i := 8) (oi := { dst := some 9, op := Go.Op.assign (Go.Operand.tmp 56), type := 22, pos := "law.go:83", after := #[{ on := 6, ground := Go.Ground.data }, { on := 4, ground := Go.Ground.chain }, { on := 0, ground := Go.Ground.phase }, { on := 1, ground := Go.Ground.phase }, { on := 2, ground := Go.Ground.phase }, { on := 3, ground := Go.Ground.phase }, { on := 4, ground := Go.Ground.phase }, { on := 5, ground := Go.Ground.phase }, { on := 6, ground := Go.Ground.phase }, { on := 7, ground := Go.Ground.textOnly Go.Departure.lateStores }], guard := none }) (v := ?_) rfl (by kernel_rfl) (by kernel_rfl) (by kernel_rfl) (fun _ _ _ h => h) (Or.inl ⟨by rfl, ?_⟩) (by assumption) ?_
        rotate_left
        · intro wS hSw
          (try dsimp only at hSw)
          go_simp
          (try with_reducible rfl)
        (try simp only [Act.put, List.setIfInBounds_toArray, List.set_cons_zero, List.set_cons_succ])
        refine wpAnyH_take (i := 9) (oi := { dst := some 10, op := Go.Op.assign (Go.Operand.tmp 57), type := 31, pos := "law.go:83", after := #[{ on := 7, ground := Go.Ground.data }, { on := 8, ground := Go.Ground.chain }, { on := 0, ground := Go.Ground.phase }, { on := 1, ground := Go.Ground.phase }, { on := 2, ground := Go.Ground.phase }, { on := 3, ground := Go.Ground.phase }, { on := 4, ground := Go.Ground.phase }, { on := 5, ground := Go.Ground.phase }, { on := 6, ground := Go.Ground.phase }, { on := 7, ground := Go.Ground.phase }, { on := 8, ground := Go.Ground.phase }], guard := none }) (v := ?_) rfl (by kernel_rfl) (by kernel_rfl) (by kernel_rfl) (fun _ _ _ h => h) (Or.inl ⟨by rfl, ?_⟩) (by assumption) ?_
        rotate_left
        · intro wS hSw
          (try dsimp only at hSw)
          go_simp
          (try with_reducible rfl)
        (try simp only [Act.put, List.setIfInBounds_toArray, List.set_cons_zero, List.set_cons_succ])
        refine wpAnyH_done (by kernel_rfl) ?_ _
        have HO4 := Lib.hid hP_2
        have HT4 := Lib.hid hT_2
        have HRA := Lib.hid (HJB.out 0 tb cs oa V_2 (by decide) hT_2.lt (HSW.out _ hP_2))
        have HPZ := Lib.hid (HPX.out V_2 hP_2)
        have c0 : V_2.cell? ⟨b4, 0, none⟩ = some (.int .i64 K) := by rw [Blk.cell HPZ.out]; rfl
        have c1 : V_2.cell? ⟨b4, 1, none⟩ = some (.int .i64 N) := by rw [Blk.cell HPZ.out]; rfl
        have c2 : V_2.cell? ⟨b4, 2, none⟩ = some (.int .u32 (gen : Int)) := by rw [Blk.cell HPZ.out]; rfl
        clear hP_2 hT_2
        go_wp2_with fail
        refine HRA.out.mono ?_
        rintro e w5 ⟨oo, ol, oc, rfl, hC, hb⟩
        have HCO := Lib.hid hC
        have HO5 := Lib.hid (HO4.out.then_fresh hb)
        have HO45 : Hid (Own tb V_2 w5) := Lib.hid (Own.of_below hb)
        have hT5 : TabIn w5 tb := HT4.out.below hb
        have hT_0 : TabIn w5.drew tb := hT5
        have hP_0 : Own tb w5 w5.drew := (Own.refl _ _).drew
        have hz := zsh_run
        clear hb hC c0 c1 c2 HRA HPZ HT4 HO4 hT5
        go_wp2_with fail
        refine wp_region_held_drew (S := (Own tb w5)) (by kernel_rfl) ?_ (fun hHeld => ?_)
        · (try dsimp only)
          first | assumption
        generalize w5.drew = W5 at *
        refine wpAnyH_take (i := 0) (oi := { dst := some 65, op := Go.Op.move (Go.Operand.tmp 8), type := 34, pos := "law.go:85", after := #[], guard := none }) (v := ?_) rfl (by kernel_rfl) (by kernel_rfl) (by kernel_rfl) (fun _ _ _ h => h) (Or.inl ⟨by rfl, ?_⟩) (by assumption) ?_
        rotate_left
        · intro wS hSw
          (try dsimp only at hSw)
          go_simp
          (try with_reducible rfl)
        (try simp only [Act.put, List.setIfInBounds_toArray, List.set_cons_zero, List.set_cons_succ])
        refine wpAnyH_take (i := 1) (oi := { dst := some 66, op := Go.Op.move (Go.Operand.tmp 0), type := 36, pos := "law.go:85", after := #[], guard := none }) (v := ?_) rfl (by kernel_rfl) (by kernel_rfl) (by kernel_rfl) (fun _ _ _ h => h) (Or.inl ⟨by rfl, ?_⟩) (by assumption) ?_
        rotate_left
        · intro wS hSw
          (try dsimp only at hSw)
          go_simp
          (try with_reducible rfl)
        (try simp only [Act.put, List.setIfInBounds_toArray, List.set_cons_zero, List.set_cons_succ])
        refine wpAnyH_take (i := 3) (oi := { dst := some 68, op := Go.Op.load 25 (Go.Operand.tmp 4), type := 25, pos := "law.go:85", after := #[], guard := none }) (v := ?_) rfl (by kernel_rfl) (by kernel_rfl) (by kernel_rfl) (fun _ _ _ h => h) (Or.inl ⟨by rfl, ?_⟩) (by assumption) ?_
        rotate_left
        · intro wS hSw
          refine exec_loadM (x := .tmp 4) (cs := [.int .i64 K, .int .i64 N, .int .u32 (gen : Int)]) ?_ ?_ ((HPX.out wS (HO5.out.trans hSw)).range0) Tryd.underlying25 rfl info_rplanJ <;> rfl
        (try simp only [Act.put, List.setIfInBounds_toArray, List.set_cons_zero, List.set_cons_succ])
        refine wpAnyH_take (i := 4) (oi := { dst := some 69, op := Go.Op.move (Go.Operand.tmp 2), type := 5, pos := "law.go:85", after := #[], guard := none }) (v := ?_) rfl (by kernel_rfl) (by kernel_rfl) (by kernel_rfl) (fun _ _ _ h => h) (Or.inl ⟨by rfl, ?_⟩) (by assumption) ?_
        rotate_left
        · intro wS hSw
          (try dsimp only at hSw)
          go_simp
          (try with_reducible rfl)
        (try simp only [Act.put, List.setIfInBounds_toArray, List.set_cons_zero, List.set_cons_succ])
        refine wpAnyH_ready (rs := [2, 9]) (by kernel_rfl) (by simp) ?_
        refine AllReadyH.cons (o := { dst := some 67, op := Go.Op.call { callee := Go.Callee.value (Go.Operand.func 21), args := #[Go.Operand.tmp 66], argTypes := #[36] }, type := 29, pos := "law.go:85", after := #[{ on := 1, ground := Go.Ground.data }], guard := none }) rfl (fun K hK => ?_) ?_
        · skip
          go_simp
          (refine (give_any tb n cs oa S W5 hT_0.lt (HSW.out _ (HO5.out.trans hP_0)) HN9.out).mono ?_; rintro e V_1 ⟨og, kg, rfl, hg1, hg2, hSh, hb⟩; have HSH := Lib.hid hSh; have HGK := Lib.hid (show n ≤ kg ∧ kg ≤ maxLen from ⟨hg1, hg2⟩); have hP_1 := hP_0.then_fresh hb; have hT_1 := hT_0.below hb; clear hb hSh hg1 hg2 hP_0 hT_0; skip)
          (try go_wp2_with fail)
          refine hK.out _ _ ?_ (fun hHeld => ?_)
          · (try dsimp only)
            first | assumption
          clear hK K
          (try simp only [Act.put, List.setIfInBounds_toArray, List.set_cons_zero, List.set_cons_succ])
          refine wpAnyH_ready (rs := [5, 9]) (by kernel_rfl) (by simp) ?_
          refine AllReadyH.cons (o := { dst := some 70, op := Go.Op.call { callee := Go.Callee.value (Go.Operand.func 23), args := #[Go.Operand.tmp 65, Go.Operand.tmp 67, Go.Operand.tmp 68, Go.Operand.tmp 69], argTypes := #[34, 29, 28, 5] }, type := 53, pos := "law.go:85", after := #[{ on := 0, ground := Go.Ground.data }, { on := 2, ground := Go.Ground.data }, { on := 3, ground := Go.Ground.data }, { on := 4, ground := Go.Ground.data }, { on := 2, ground := Go.Ground.chain }], guard := none }) rfl (fun K hK => ?_) ?_
          · skip
            go_simp
            (refine (HAN.out kg og V_1).mono ?_; rintro e V_2 ⟨rfl, hb⟩; have hP_2 := hP_1.then_fresh hb; have hT_2 := hT_1.below hb; clear hb hP_1 hT_1 HSH HGK; skip)
            (try go_wp2_with fail)
            refine hK.out _ _ ?_ (fun hHeld => ?_)
            · (try dsimp only)
              first | assumption
            clear hK K
            (try simp only [Act.put, List.setIfInBounds_toArray, List.set_cons_zero, List.set_cons_succ])
            refine wpAnyH_take (i := 6) (oi := { dst := some 64, op := Go.Op.move (Go.Operand.tmp 70), type := 53, pos := "law.go:85", after := #[{ on := 5, ground := Go.Ground.data }], guard := none }) (v := ?_) rfl (by kernel_rfl) (by kernel_rfl) (by kernel_rfl) (fun _ _ _ h => h) (Or.inl ⟨by rfl, ?_⟩) (by assumption) ?_
            rotate_left
            · intro wS hSw
              (try dsimp only at hSw)
              go_simp
              (try with_reducible rfl)
            (try simp only [Act.put, List.setIfInBounds_toArray, List.set_cons_zero, List.set_cons_succ])
            refine wpAnyH_take (i := 7) (oi := { dst := some 71, op := Go.Op.extract (Go.Operand.tmp 64) 0, type := 52, pos := "law.go:85", after := #[{ on := 6, ground := Go.Ground.data }], guard := none }) (v := ?_) rfl (by kernel_rfl) (by kernel_rfl) (by kernel_rfl) (fun _ _ _ h => h) (Or.inl ⟨by rfl, ?_⟩) (by assumption) ?_
            rotate_left
            · intro wS hSw
              (try dsimp only at hSw)
              go_simp
              (try with_reducible rfl)
            (try simp only [Act.put, List.setIfInBounds_toArray, List.set_cons_zero, List.set_cons_succ])
            refine wpAnyH_take (i := 8) (oi := { dst := some 72, op := Go.Op.extract (Go.Operand.tmp 64) 1, type := 31, pos := "law.go:85", after := #[{ on := 6, ground := Go.Ground.data }, { on := 10, ground := Go.Ground.gcOnly Go.Departure.lateStores }], guard := none }) (v := ?_) rfl (by kernel_rfl) (by kernel_rfl) (by kernel_rfl) (fun _ _ _ h => h) (Or.inl ⟨by rfl, ?_⟩) (by assumption) ?_
            rotate_left
            · intro wS hSw
              (try dsimp only at hSw)
              go_simp
              (try with_reducible rfl)
            (try simp only [Act.put, List.setIfInBounds_toArray, List.set_cons_zero, List.set_cons_succ])
            refine wpAnyH_ready (rs := [9]) (by kernel_rfl) (by simp) ?_
            refine AllReadyH.cons (o := { dst := some 13, op := Go.Op.alloc 52, type := 0, pos := "law.go:85", after := #[], guard := none }) rfl (fun K hK => ?_) AllReadyH.nil
            go_simp
            (obtain ⟨ba, hba⟩ : ∃ z, V_2.heap.size = z := ⟨_, rfl⟩; obtain ⟨V_3, hw⟩ : ∃ z, V_2.alloc (.cells #[.int .u8 0, .int .u32 0, .slice none 0 0] 52) = z := ⟨_, rfl⟩; rw [hw, hba]; have hb : Below V_2.heap.size V_2 V_3 := (by rw [← hw]; exact (Below.refl _ _).alloc (Nat.le_refl _) _); have hA_3 : Blk V_3 ba #[.int .u8 0, .int .u32 0, .slice none 0 0] 52 := (by rw [← hw, ← hba]; exact Blk.new _ _ _); have hbt : ba ≠ tb := (by have := hT_2.lt; omega); have HBA : Hid (w5.heap.size ≤ ba) := Lib.hid (by rw [← hba]; exact hP_2.size); have hP_3 := hP_2.then_fresh hb; have hT_3 := hT_2.below hb; clear hb hw hba hP_2 hT_2; skip)
            (try go_wp2_with fail)
            refine hK.out _ _ ?_ (fun hHeld => ?_)
            · (try dsimp only)
              first | assumption
            clear hK K
            (try simp only [Act.put, List.setIfInBounds_toArray, List.set_cons_zero, List.set_cons_succ])
            refine wpAnyH_ready (rs := [10]) (by kernel_rfl) (by simp) ?_
            refine AllReadyH.cons (o := { dst := none, op := Go.Op.store 52 (Go.Operand.tmp 13) (Go.Operand.tmp 71), type := 0, pos := "law.go:85", after := #[{ on := 9, ground := Go.Ground.data }, { on := 7, ground := Go.Ground.data }, { on := 5, ground := Go.Ground.chain }, { on := 0, ground := Go.Ground.phase }, { on := 1, ground := Go.Ground.phase }, { on := 2, ground := Go.Ground.phase }, { on := 3, ground := Go.Ground.phase }, { on := 4, ground := Go.Ground.phase }, { on := 5, ground := Go.Ground.phase }, { on := 6, ground := Go.Ground.phase }, { on := 7, ground := Go.Ground.phase }, { on := 8, ground := Go.Ground.textOnly Go.Departure.lateStores }, { on := 9, ground := Go.Ground.phase }], guard := none }) rfl (fun K hK => ?_) AllReadyH.nil
            (refine step_storeM rfl 52 (.tmp 13) (.tmp 71) rfl ba 0 #[.int .u8 0, .int .u32 0, .slice none 0 0] rfl rfl (hA_3.there (Nat.le_refl 3)) info_share3 (one_share _ _ _ _ _ _ _) ?_; obtain ⟨V_4, hw⟩ : ∃ z, V_3.setCells ba 0 [.int .u8 0, .int .u32 0, .slice none 0 0] = z := ⟨_, rfl⟩; have hO : Own ba V_3 V_4 := (by rw [← hw]; exact Own.setCells (b := ba) [.int .u8 0, .int .u32 0, .slice none 0 0] 0 V_3); have hA_4 : Blk V_4 ba #[.int .u8 0, .int .u32 0, .slice none 0 0] 52 := (by rw [← hw]; exact hA_3.whole3 rfl _ _ _); have hP_4 := hP_3.then_new hO HBA.out; have hT_4 := hT_3.own hO (Ne.symm hbt); rw [hw]; clear hO hw hA_3 hP_3 hT_3; skip)
            refine hK.out _ _ ?_ (fun hHeld => ?_)
            · (try dsimp only)
              first | assumption
            clear hK K
            (try simp only [Act.put, List.setIfInBounds_toArray, List.set_cons_zero, List.set_cons_succ])
            refine wpAnyH_take (i := 11) (oi := { dst := some 14, op := Go.Op.assign (Go.Operand.tmp 72), type := 31, pos := "law.go:85", after := #[{ on := 8, ground := Go.Ground.data }, { on := 10, ground := Go.Ground.chain }, { on := 0, ground := Go.Ground.phase }, { on := 1, ground := Go.Ground.phase }, { on := 2, ground := Go.Ground.phase }, { on := 3, ground := Go.Ground.phase }, { on := 4, ground := Go.Ground.phase }, { on := 5, ground := Go.Ground.phase }, { on := 6, ground := Go.Ground.phase }, { on := 7, ground := Go.Ground.phase }, { on := 8, ground := Go.Ground.phase }, { on := 9, ground := Go.Ground.phase }, { on := 10, ground := Go.Ground.phase }], guard := none }) (v := ?_) rfl (by kernel_rfl) (by kernel_rfl) (by kernel_rfl) (fun _ _ _ h => h) (Or.inl ⟨by rfl, ?_⟩) (by assumption) ?_
            rotate_left
            · intro wS hSw
              (try dsimp only at hSw)
              go_simp
              (try with_reducible rfl)
            (try simp only [Act.put, List.setIfInBounds_toArray, List.set_cons_zero, List.set_cons_succ])
            refine wpAnyH_done (by kernel_rfl) ?_ _
            have HO6a := Lib.hid (HO5.out.trans hP_4)
            have HO35 := Lib.hid (HO45.out.trans hP_4)
            have HO55 := Lib.hid hP_4
            have HA5 := Lib.hid hA_4
            have HT6 := Lib.hid hT_4
            have HRB := Lib.hid (HJB.out x tb cs oa V_4 HX8.out hT_4.lt (HSW.out _ HO6a.out))
            have HPZ := Lib.hid (HPX.out V_4 HO6a.out)
            have c0 : V_4.cell? ⟨b4, 0, none⟩ = some (.int .i64 K) := by rw [Blk.cell HPZ.out]; rfl
            have c1 : V_4.cell? ⟨b4, 1, none⟩ = some (.int .i64 N) := by rw [Blk.cell HPZ.out]; rfl
            have c2 : V_4.cell? ⟨b4, 2, none⟩ = some (.int .u32 (gen : Int)) := by rw [Blk.cell HPZ.out]; rfl
            clear hP_4 hA_4 hT_4 HO5 HO45 hz
            go_wp2_with fail
            refine HRB.out.mono ?_
            rintro e w6 ⟨bo, bl, bc, rfl, hC, hb⟩
            have HCB := Lib.hid hC
            have HO6 := Lib.hid (HO6a.out.then_fresh hb)
            have HO67 := Lib.hid (HO35.out.then_fresh hb)
            have HO57 := Lib.hid (HO55.out.then_fresh hb)
            have HA6 := Lib.hid (Blk.below HA5.out hb (Blk.lt HA5.out))
            have hT6 : TabIn w6 tb := HT6.out.below hb
            have hT_0 : TabIn w6.drew tb := hT6
            have hP_0 : Own tb w6 w6.drew := (Own.refl _ _).drew
            clear hb hC c0 c1 c2 HRB HPZ HT6 hT6
            go_wp2_with fail
            refine wp_region_held_drew (S := (Own tb w6)) (by kernel_rfl) ?_ (fun hHeld => ?_)
            · (try dsimp only)
              first | assumption
            generalize w6.drew = W6 at *
            refine wpAnyH_take (i := 0) (oi := { dst := some 81, op := Go.Op.move (Go.Operand.tmp 0), type := 36, pos := "law.go:87", after := #[], guard := none }) (v := ?_) rfl (by kernel_rfl) (by kernel_rfl) (by kernel_rfl) (fun _ _ _ h => h) (Or.inl ⟨by rfl, ?_⟩) (by assumption) ?_
            rotate_left
            · intro wS hSw
              (try dsimp only at hSw)
              go_simp
              (try with_reducible rfl)
            (try simp only [Act.put, List.setIfInBounds_toArray, List.set_cons_zero, List.set_cons_succ])
            refine wpAnyH_take (i := 2) (oi := { dst := some 83, op := Go.Op.load 25 (Go.Operand.tmp 4), type := 25, pos := "law.go:87", after := #[], guard := none }) (v := ?_) rfl (by kernel_rfl) (by kernel_rfl) (by kernel_rfl) (fun _ _ _ h => h) (Or.inl ⟨by rfl, ?_⟩) (by assumption) ?_
            rotate_left
            · intro wS hSw
              refine exec_loadM (x := .tmp 4) (cs := [.int .i64 K, .int .i64 N, .int .u32 (gen : Int)]) ?_ ?_ ((HPX.out wS (HO6.out.trans hSw)).range0) Tryd.underlying25 rfl info_rplanJ <;> rfl
            (try simp only [Act.put, List.setIfInBounds_toArray, List.set_cons_zero, List.set_cons_succ])
            refine wpAnyH_ready (rs := [1]) (by kernel_rfl) (by simp) ?_
            refine AllReadyH.cons (o := { dst := some 82, op := Go.Op.call { callee := Go.Callee.value (Go.Operand.func 21), args := #[Go.Operand.tmp 81], argTypes := #[36] }, type := 29, pos := "law.go:87", after := #[{ on := 0, ground := Go.Ground.data }], guard := none }) rfl (fun K hK => ?_) AllReadyH.nil
            go_simp
            (refine (give_any tb n cs oa S W6 hT_0.lt (HSW.out _ (HO6.out.trans hP_0)) HN9.out).mono ?_; rintro e V_1 ⟨og, kg, rfl, hg1, hg2, hSh, hb⟩; have HSH := Lib.hid hSh; have HGK := Lib.hid (show n ≤ kg ∧ kg ≤ maxLen from ⟨hg1, hg2⟩); have hP_1 := hP_0.then_fresh hb; have hT_1 := hT_0.below hb; clear hb hSh hg1 hg2 hP_0 hT_0; skip)
            (try go_wp2_with fail)
            refine hK.out _ _ ?_ (fun hHeld => ?_)
            · (try dsimp only)
              first | assumption
            clear hK K
            (try simp only [Act.put, List.setIfInBounds_toArray, List.set_cons_zero, List.set_cons_succ])
            refine wpAnyH_ready (rs := [3]) (by kernel_rfl) (by simp) ?_
            refine AllReadyH.cons (o := { dst := some 84, op := Go.Op.call { callee := Go.Callee.value (Go.Operand.func 20), args := #[Go.Operand.const (Go.Value.pointer none), Go.Operand.tmp 82, Go.Operand.tmp 83], argTypes := #[34, 29, 28] }, type := 47, pos := "law.go:87", after := #[{ on := 1, ground := Go.Ground.data }, { on := 2, ground := Go.Ground.data }, { on := 1, ground := Go.Ground.chain }], guard := none }) rfl (fun K hK => ?_) AllReadyH.nil
            go_simp
            (refine (HCN.out kg og V_1).mono ?_; rintro e V_2 ⟨rfl, hb⟩; have hP_2 := hP_1.then_fresh hb; clear hb hP_1 hT_1 HSH HGK; skip)
            (try go_wp2_with fail)
            refine hK.out _ _ ?_ (fun hHeld => ?_)
            · (try dsimp only)
              first | assumption
            clear hK K
            (try simp only [Act.put, List.setIfInBounds_toArray, List.set_cons_zero, List.set_cons_succ])
            refine wpAnyH_take (i := 4) (oi := { dst := some 80, op := Go.Op.move (Go.Operand.tmp 84), type := 47, pos := "law.go:87", after := #[{ on := 3, ground := Go.Ground.data }], guard := none }) (v := ?_) rfl (by kernel_rfl) (by kernel_rfl) (by kernel_rfl) (fun _ _ _ h => h) (Or.inl ⟨by rfl, ?_⟩) (by assumption) ?_
            rotate_left
            · intro wS hSw
              (try dsimp only at hSw)
              go_simp
              (try with_reducible rfl)
            (try simp only [Act.put, List.setIfInBounds_toArray, List.set_cons_zero, List.set_cons_succ])
            refine wpAnyH_take (i := 5) (oi := { dst := some 85, op := Go.Op.extract (Go.Operand.tmp 80) 0, type := 22, pos := "law.go:87", after := #[{ on := 4, ground := Go.Ground.data }], guard := none }) (v := ?_) rfl (by kernel_rfl) (by kernel_rfl) (by kernel_rfl) (fun _ _ _ h => h) (Or.inl ⟨by rfl, ?_⟩) (by assumption) ?_
            rotate_left
            · intro wS hSw
              (try dsimp only at hSw)
              go_simp
              (try with_reducible rfl)
            (try simp only [Act.put, List.setIfInBounds_toArray, List.set_cons_zero, List.set_cons_succ])
            refine wpAnyH_take (i := 6) (oi := { dst := some 86, op := Go.Op.extract (Go.Operand.tmp 80) 1, type := 31, pos := "law.go:87", after := #[{ on := 4, ground := Go.Ground.data }, { on := 7, ground := Go.Ground.gcOnly Go.Departure.lateStores }], guard := none }) (v := ?_) rfl (by kernel_rfl) (by kernel_rfl) (by kernel_rfl) (fun _ _ _ h => h) (Or.inl ⟨by rfl, ?_⟩) (by assumption) ?_
            rotate_left
            · intro wS hSw
              (try dsimp only at hSw)
              go_simp
              (try with_reducible rfl)
            (try simp only [Act.put, List.setIfInBounds_toArray, List.set_cons_zero, List.set_cons_succ])
            refine wpAnyH_take (i := 7) (oi := { dst := some 17, op := Go.Op.assign (Go.Operand.tmp 85), type := 22, pos := "law.go:87", after := #[{ on := 5, ground := Go.Ground.data }, { on := 3, ground := Go.Ground.chain }, { on := 0, ground := Go.Ground.phase }, { on := 1, ground := Go.Ground.phase }, { on := 2, ground := Go.Ground.phase }, { on := 3, ground := Go.Ground.phase }, { on := 4, ground := Go.Ground.phase }, { on := 5, ground := Go.Ground.phase }, { on := 6, ground := Go.Ground.textOnly Go.Departure.lateStores }], guard := none }) (v := ?_) rfl (by kernel_rfl) (by kernel_rfl) (by kernel_rfl) (fun _ _ _ h => h) (Or.inl ⟨by rfl, ?_⟩) (by assumption) ?_
            rotate_left
            · intro wS hSw
              (try dsimp only at hSw)
              go_simp
              (try with_reducible rfl)
            (try simp only [Act.put, List.setIfInBounds_toArray, List.set_cons_zero, List.set_cons_succ])
            refine wpAnyH_take (i := 8) (oi := { dst := some 18, op := Go.Op.assign (Go.Operand.tmp 86), type := 31, pos := "law.go:87", after := #[{ on := 6, ground := Go.Ground.data }, { on := 7, ground := Go.Ground.chain }, { on := 0, ground := Go.Ground.phase }, { on := 1, ground := Go.Ground.phase }, { on := 2, ground := Go.Ground.phase }, { on := 3, ground := Go.Ground.phase }, { on := 4, ground := Go.Ground.phase }, { on := 5, ground := Go.Ground.phase }, { on := 6, ground := Go.Ground.phase }, { on := 7, ground := Go.Ground.phase }], guard := none }) (v := ?_) rfl (by kernel_rfl) (by kernel_rfl) (by kernel_rfl) (fun _ _ _ h => h) (Or.inl ⟨by rfl, ?_⟩) (by assumption) ?_
            rotate_left
            · intro wS hSw
              (try dsimp only at hSw)
              go_simp
              (try with_reducible rfl)
            (try simp only [Act.put, List.setIfInBounds_toArray, List.set_cons_zero, List.set_cons_succ])
            refine wpAnyH_done (by kernel_rfl) ?_ _
            have HO7 := Lib.hid (HO6.out.trans hP_2)
            have HA7 := Lib.hid (hP_2.blk HA6.out hbt)
            have HB7 := Lib.hid (HBL.out _ HO7.out)
            have hv1 := HCS.out V_2 (HO67.out.trans hP_2)
            have hv2 := HCO.out V_2 (HO57.out.trans hP_2)
            have HV3 := Lib.hid (HCB.out.own hP_2)
            clear hP_2
            go_wp2_with fail
            refine (num_errj HEV.out V_2 (HG.out.below HB7.out HG.out.2)).mono ?_
            rintro e w8 ⟨rfl, hb⟩
            have HB8 := Lib.hid (HB7.out.trans (hb.mono HB7.out.size))
            have HX8b := Lib.hid hb
            clear hb hv1 hv2
            go_wp2_with fail
            refine (num_err03 1 w8 (HG.out.below HB8.out HG.out.2)).mono ?_
            rintro e w9 ⟨rfl, hb⟩
            have HB9 := Lib.hid (HB8.out.trans (hb.mono HB8.out.size))
            have HW9 : Hid (Below V_2.heap.size V_2 w9) := Lib.hid (HX8b.out.trans (hb.mono HX8b.out.size))
            have HA9 := Lib.hid (Blk.below HA7.out HW9.out (Blk.lt HA7.out))
            have HP9 := Lib.hid (HPX.out w9 (HO7.out.then_fresh HW9.out))
            have c1 : w9.cell? ⟨b4, 1, none⟩ = some (.int .i64 N) := by rw [Blk.cell HP9.out]; rfl
            clear hb
            go_wp2_with fail
            refine (num_err03 1 w9 (HG.out.below HB9.out HG.out.2)).mono ?_
            rintro e w10 ⟨rfl, hb⟩
            have HB10 := Lib.hid (HB9.out.trans (hb.mono HB9.out.size))
            have HA10 := Lib.hid (Blk.below HA9.out hb (Blk.lt HA9.out))
            have HP10 := Lib.hid (Blk.below HP9.out hb (Blk.lt HP9.out))
            have HW10 : Hid (Below V_2.heap.size V_2 w10) := Lib.hid (HW9.out.trans (hb.mono HW9.out.size))
            have a0 := Blk.cell HA10.out 0
            have a1 := Blk.cell HA10.out 1
            have a2 := Blk.cell HA10.out 2
            have c2 : w10.cell? ⟨b4, 2, none⟩ = some (.int .u32 (gen : Int)) := by rw [Blk.cell HP10.out]; rfl
            have HSU := Lib.hid (sure03 w10 (HG.out.below HB10.out HG.out.2))
            simp at a0 a1 a2
            clear hb
            go_wp2_with fail
            refine HSU.out.mono ?_
            rintro e w11 ⟨rfl, hb⟩
            have HBE := Lib.hid (HB10.out.trans (hb.mono HB10.out.size))
            clear hb
            go_wp2_with fail
            go_ret
            exact ⟨rfl, HBE.out⟩
          refine AllReadyH.cons (o := { dst := some 13, op := Go.Op.alloc 52, type := 0, pos := "law.go:85", after := #[], guard := none }) rfl (fun K hK => ?_) AllReadyH.nil
          go_simp
          (obtain ⟨ba, hba⟩ : ∃ z, V_1.heap.size = z := ⟨_, rfl⟩; obtain ⟨V_2, hw⟩ : ∃ z, V_1.alloc (.cells #[.int .u8 0, .int .u32 0, .slice none 0 0] 52) = z := ⟨_, rfl⟩; rw [hw, hba]; have hb : Below V_1.heap.size V_1 V_2 := (by rw [← hw]; exact (Below.refl _ _).alloc (Nat.le_refl _) _); have hA_2 : Blk V_2 ba #[.int .u8 0, .int .u32 0, .slice none 0 0] 52 := (by rw [← hw, ← hba]; exact Blk.new _ _ _); have hbt : ba ≠ tb := (by have := hT_1.lt; omega); have HBA : Hid (w5.heap.size ≤ ba) := Lib.hid (by rw [← hba]; exact hP_1.size); have hP_2 := hP_1.then_fresh hb; have hT_2 := hT_1.below hb; replace HSH := Lib.hid (HSH.out.later hb); clear hb hw hba hP_1 hT_1; skip)
          (try go_wp2_with fail)
          refine hK.out _ _ ?_ (fun hHeld => ?_)
          · (try dsimp only)
            first | assumption
          clear hK K
          (try simp only [Act.put, List.setIfInBounds_toArray, List.set_cons_zero, List.set_cons_succ])
          refine wpAnyH_ready (rs := [5]) (by kernel_rfl) (by simp) ?_
          refine AllReadyH.cons (o := { dst := some 70, op := Go.Op.call { callee := Go.Callee.value (Go.Operand.func 23), args := #[Go.Operand.tmp 65, Go.Operand.tmp 67, Go.Operand.tmp 68, Go.Operand.tmp 69], argTypes := #[34, 29, 28, 5] }, type := 53, pos := "law.go:85", after := #[{ on := 0, ground := Go.Ground.data }, { on := 2, ground := Go.Ground.data }, { on := 3, ground := Go.Ground.data }, { on := 4, ground := Go.Ground.data }, { on := 2, ground := Go.Ground.chain }], guard := none }) rfl (fun K hK => ?_) AllReadyH.nil
          go_simp
          (refine (HAN.out kg og V_2).mono ?_; rintro e V_3 ⟨rfl, hb⟩; have hP_3 := hP_2.then_fresh hb; have hT_3 := hT_2.below hb; have hA_3 := Blk.below hA_2 hb (Blk.lt hA_2); clear hA_2; clear hb hP_2 hT_2 HSH HGK; skip)
          (try go_wp2_with fail)
          refine hK.out _ _ ?_ (fun hHeld => ?_)
          · (try dsimp only)
            first | assumption
          clear hK K
          (try simp only [Act.put, List.setIfInBounds_toArray, List.set_cons_zero, List.set_cons_succ])
          refine wpAnyH_take (i := 6) (oi := { dst := some 64, op := Go.Op.move (Go.Operand.tmp 70), type := 53, pos := "law.go:85", after := #[{ on := 5, ground := Go.Ground.data }], guard := none }) (v := ?_) rfl (by kernel_rfl) (by kernel_rfl) (by kernel_rfl) (fun _ _ _ h => h) (Or.inl ⟨by rfl, ?_⟩) (by assumption) ?_
          rotate_left
          · intro wS hSw
            (try dsimp only at hSw)
            go_simp
            (try with_reducible rfl)
          (try simp only [Act.put, List.setIfInBounds_toArray, List.set_cons_zero, List.set_cons_succ])
          refine wpAnyH_take (i := 7) (oi := { dst := some 71, op := Go.Op.extract (Go.Operand.tmp 64) 0, type := 52, pos := "law.go:85", after := #[{ on := 6, ground := Go.Ground.data }], guard := none }) (v := ?_) rfl (by kernel_rfl) (by kernel_rfl) (by kernel_rfl) (fun _ _ _ h => h) (Or.inl ⟨by rfl, ?_⟩) (by assumption) ?_
          rotate_left
          · intro wS hSw
            (try dsimp only at hSw)
            go_simp
            (try with_reducible rfl)
          (try simp only [Act.put, List.setIfInBounds_toArray, List.set_cons_zero, List.set_cons_succ])
          refine wpAnyH_take (i := 8) (oi := { dst := some 72, op := Go.Op.extract (Go.Operand.tmp 64) 1, type := 31, pos := "law.go:85", after := #[{ on := 6, ground := Go.Ground.data }, { on := 10, ground := Go.Ground.gcOnly Go.Departure.lateStores }], guard := none }) (v := ?_) rfl (by kernel_rfl) (by kernel_rfl) (by kernel_rfl) (fun _ _ _ h => h) (Or.inl ⟨by rfl, ?_⟩) (by assumption) ?_
          rotate_left
          · intro wS hSw
            (try dsimp only at hSw)
            go_simp
            (try with_reducible rfl)
          (try simp only [Act.put, List.setIfInBounds_toArray, List.set_cons_zero, List.set_cons_succ])
          refine wpAnyH_ready (rs := [10]) (by kernel_rfl) (by simp) ?_
          refine AllReadyH.cons (o := { dst := none, op := Go.Op.store 52 (Go.Operand.tmp 13) (Go.Operand.tmp 71), type := 0, pos := "law.go:85", after := #[{ on := 9, ground := Go.Ground.data }, { on := 7, ground := Go.Ground.data }, { on := 5, ground := Go.Ground.chain }, { on := 0, ground := Go.Ground.phase }, { on := 1, ground := Go.Ground.phase }, { on := 2, ground := Go.Ground.phase }, { on := 3, ground := Go.Ground.phase }, { on := 4, ground := Go.Ground.phase }, { on := 5, ground := Go.Ground.phase }, { on := 6, ground := Go.Ground.phase }, { on := 7, ground := Go.Ground.phase }, { on := 8, ground := Go.Ground.textOnly Go.Departure.lateStores }, { on := 9, ground := Go.Ground.phase }], guard := none }) rfl (fun K hK => ?_) AllReadyH.nil
          (refine step_storeM rfl 52 (.tmp 13) (.tmp 71) rfl ba 0 #[.int .u8 0, .int .u32 0, .slice none 0 0] rfl rfl (hA_3.there (Nat.le_refl 3)) info_share3 (one_share _ _ _ _ _ _ _) ?_; obtain ⟨V_4, hw⟩ : ∃ z, V_3.setCells ba 0 [.int .u8 0, .int .u32 0, .slice none 0 0] = z := ⟨_, rfl⟩; have hO : Own ba V_3 V_4 := (by rw [← hw]; exact Own.setCells (b := ba) [.int .u8 0, .int .u32 0, .slice none 0 0] 0 V_3); have hA_4 : Blk V_4 ba #[.int .u8 0, .int .u32 0, .slice none 0 0] 52 := (by rw [← hw]; exact hA_3.whole3 rfl _ _ _); have hP_4 := hP_3.then_new hO HBA.out; have hT_4 := hT_3.own hO (Ne.symm hbt); rw [hw]; clear hO hw hA_3 hP_3 hT_3; skip)
          refine hK.out _ _ ?_ (fun hHeld => ?_)
          · (try dsimp only)
            first | assumption
          clear hK K
          (try simp only [Act.put, List.setIfInBounds_toArray, List.set_cons_zero, List.set_cons_succ])
          refine wpAnyH_take (i := 11) (oi := { dst := some 14, op := Go.Op.assign (Go.Operand.tmp 72), type := 31, pos := "law.go:85", after := #[{ on := 8, ground := Go.Ground.data }, { on := 10, ground := Go.Ground.chain }, { on := 0, ground := Go.Ground.phase }, { on := 1, ground := Go.Ground.phase }, { on := 2, ground := Go.Ground.phase }, { on := 3, ground := Go.Ground.phase }, { on := 4, ground := Go.Ground.phase }, { on := 5, ground := Go.Ground.phase }, { on := 6, ground := Go.Ground.phase }, { on := 7, ground := Go.Ground.phase }, { on := 8, ground := Go.Ground.phase }, { on := 9, ground := Go.Ground.phase }, { on := 10, ground := Go.Ground.phase }], guard := none }) (v := ?_) rfl (by kernel_rfl) (by kernel_rfl) (by kernel_rfl) (fun _ _ _ h => h) (Or.inl ⟨by rfl, ?_⟩) (by assumption) ?_
          rotate_left
          · intro wS hSw
            (try dsimp only at hSw)
            go_simp
            (try with_reducible rfl)
          (try simp only [Act.put, List.setIfInBounds_toArray, List.set_cons_zero, List.set_cons_succ])
          refine wpAnyH_done (by kernel_rfl) ?_ _
          have HO6a := Lib.hid (HO5.out.trans hP_4)
          have HO35 := Lib.hid (HO45.out.trans hP_4)
          have HO55 := Lib.hid hP_4
          have HA5 := Lib.hid hA_4
          have HT6 := Lib.hid hT_4
          have HRB := Lib.hid (HJB.out x tb cs oa V_4 HX8.out hT_4.lt (HSW.out _ HO6a.out))
          have HPZ := Lib.hid (HPX.out V_4 HO6a.out)
          have c0 : V_4.cell? ⟨b4, 0, none⟩ = some (.int .i64 K) := by rw [Blk.cell HPZ.out]; rfl
          have c1 : V_4.cell? ⟨b4, 1, none⟩ = some (.int .i64 N) := by rw [Blk.cell HPZ.out]; rfl
          have c2 : V_4.cell? ⟨b4, 2, none⟩ = some (.int .u32 (gen : Int)) := by rw [Blk.cell HPZ.out]; rfl
          clear hP_4 hA_4 hT_4 HO5 HO45 hz
          go_wp2_with fail
          refine HRB.out.mono ?_
          rintro e w6 ⟨bo, bl, bc, rfl, hC, hb⟩
          have HCB := Lib.hid hC
          have HO6 := Lib.hid (HO6a.out.then_fresh hb)
          have HO67 := Lib.hid (HO35.out.then_fresh hb)
          have HO57 := Lib.hid (HO55.out.then_fresh hb)
          have HA6 := Lib.hid (Blk.below HA5.out hb (Blk.lt HA5.out))
          have hT6 : TabIn w6 tb := HT6.out.below hb
          have hT_0 : TabIn w6.drew tb := hT6
          have hP_0 : Own tb w6 w6.drew := (Own.refl _ _).drew
          clear hb hC c0 c1 c2 HRB HPZ HT6 hT6
          go_wp2_with fail
          refine wp_region_held_drew (S := (Own tb w6)) (by kernel_rfl) ?_ (fun hHeld => ?_)
          · (try dsimp only)
            first | assumption
          generalize w6.drew = W6 at *
          refine wpAnyH_take (i := 0) (oi := { dst := some 81, op := Go.Op.move (Go.Operand.tmp 0), type := 36, pos := "law.go:87", after := #[], guard := none }) (v := ?_) rfl (by kernel_rfl) (by kernel_rfl) (by kernel_rfl) (fun _ _ _ h => h) (Or.inl ⟨by rfl, ?_⟩) (by assumption) ?_
          rotate_left
          · intro wS hSw
            (try dsimp only at hSw)
            go_simp
            (try with_reducible rfl)
          (try simp only [Act.put, List.setIfInBounds_toArray, List.set_cons_zero, List.set_cons_succ])
          refine wpAnyH_take (i := 2) (oi := { dst := some 83, op := Go.Op.load 25 (Go.Operand.tmp 4), type := 25, pos := "law.go:87", after := #[], guard := none }) (v := ?_) rfl (by kernel_rfl) (by kernel_rfl) (by kernel_rfl) (fun _ _ _ h => h) (Or.inl ⟨by rfl, ?_⟩) (by assumption) ?_
          rotate_left
          · intro wS hSw
            refine exec_loadM (x := .tmp 4) (cs := [.int .i64 K, .int .i64 N, .int .u32 (gen : Int)]) ?_ ?_ ((HPX.out wS (HO6.out.trans hSw)).range0) Tryd.underlying25 rfl info_rplanJ <;> rfl
          (try simp only [Act.put, List.setIfInBounds_toArray, List.set_cons_zero, List.set_cons_succ])
          refine wpAnyH_ready (rs := [1]) (by kernel_rfl) (by simp) ?_
          refine AllReadyH.cons (o := { dst := some 82, op := Go.Op.call { callee := Go.Callee.value (Go.Operand.func 21), args := #[Go.Operand.tmp 81], argTypes := #[36] }, type := 29, pos := "law.go:87", after := #[{ on := 0, ground := Go.Ground.data }], guard := none }) rfl (fun K hK => ?_) AllReadyH.nil
          go_simp
          (refine (give_any tb n cs oa S W6 hT_0.lt (HSW.out _ (HO6.out.trans hP_0)) HN9.out).mono ?_; rintro e V_1 ⟨og, kg, rfl, hg1, hg2, hSh, hb⟩; have HSH := Lib.hid hSh; have HGK := Lib.hid (show n ≤ kg ∧ kg ≤ maxLen from ⟨hg1, hg2⟩); have hP_1 := hP_0.then_fresh hb; have hT_1 := hT_0.below hb; clear hb hSh hg1 hg2 hP_0 hT_0; skip)
          (try go_wp2_with fail)
          refine hK.out _ _ ?_ (fun hHeld => ?_)
          · (try dsimp only)
            first | assumption
          clear hK K
          (try simp only [Act.put, List.setIfInBounds_toArray, List.set_cons_zero, List.set_cons_succ])
          refine wpAnyH_ready (rs := [3]) (by kernel_rfl) (by simp) ?_
          refine AllReadyH.cons (o := { dst := some 84, op := Go.Op.call { callee := Go.Callee.value (Go.Operand.func 20), args := #[Go.Operand.const (Go.Value.pointer none), Go.Operand.tmp 82, Go.Operand.tmp 83], argTypes := #[34, 29, 28] }, type := 47, pos := "law.go:87", after := #[{ on := 1, ground := Go.Ground.data }, { on := 2, ground := Go.Ground.data }, { on := 1, ground := Go.Ground.chain }], guard := none }) rfl (fun K hK => ?_) AllReadyH.nil
          go_simp
          (refine (HCN.out kg og V_1).mono ?_; rintro e V_2 ⟨rfl, hb⟩; have hP_2 := hP_1.then_fresh hb; clear hb hP_1 hT_1 HSH HGK; skip)
          (try go_wp2_with fail)
          refine hK.out _ _ ?_ (fun hHeld => ?_)
          · (try dsimp only)
            first | assumption
          clear hK K
          (try simp only [Act.put, List.setIfInBounds_toArray, List.set_cons_zero, List.set_cons_succ])
          refine wpAnyH_take (i := 4) (oi := { dst := some 80, op := Go.Op.move (Go.Operand.tmp 84), type := 47, pos := "law.go:87", after := #[{ on := 3, ground := Go.Ground.data }], guard := none }) (v := ?_) rfl (by kernel_rfl) (by kernel_rfl) (by kernel_rfl) (fun _ _ _ h => h) (Or.inl ⟨by rfl, ?_⟩) (by assumption) ?_
          rotate_left
          · intro wS hSw
            (try dsimp only at hSw)
            go_simp
            (try with_reducible rfl)
          (try simp only [Act.put, List.setIfInBounds_toArray, List.set_cons_zero, List.set_cons_succ])
          refine wpAnyH_take (i := 5) (oi := { dst := some 85, op := Go.Op.extract (Go.Operand.tmp 80) 0, type := 22, pos := "law.go:87", after := #[{ on := 4, ground := Go.Ground.data }], guard := none }) (v := ?_) rfl (by kernel_rfl) (by kernel_rfl) (by kernel_rfl) (fun _ _ _ h => h) (Or.inl ⟨by rfl, ?_⟩) (by assumption) ?_
          rotate_left
          · intro wS hSw
            (try dsimp only at hSw)
            go_simp
            (try with_reducible rfl)
          (try simp only [Act.put, List.setIfInBounds_toArray, List.set_cons_zero, List.set_cons_succ])
          refine wpAnyH_take (i := 6) (oi := { dst := some 86, op := Go.Op.extract (Go.Operand.tmp 80) 1, type := 31, pos := "law.go:87", after := #[{ on := 4, ground := Go.Ground.data }, { on := 7, ground := Go.Ground.gcOnly Go.Departure.lateStores }], guard := none }) (v := ?_) rfl (by kernel_rfl) (by kernel_rfl) (by kernel_rfl) (fun _ _ _ h => h) (Or.inl ⟨by rfl, ?_⟩) (by assumption) ?_
          rotate_left
          · intro wS hSw
            (try dsimp only at hSw)
            go_simp
            (try with_reducible rfl)
          (try simp only [Act.put, List.setIfInBounds_toArray, List.set_cons_zero, List.set_cons_succ])
          refine wpAnyH_take (i := 7) (oi := { dst := some 17, op := Go.Op.assign (Go.Operand.tmp 85), type := 22, pos := "law.go:87", after := #[{ on := 5, ground := Go.Ground.data }, { on := 3, ground := Go.Ground.chain }, { on := 0, ground := Go.Ground.phase }, { on := 1, ground := Go.Ground.phase }, { on := 2, ground := Go.Ground.phase }, { on := 3, ground := Go.Ground.phase }, { on := 4, ground := Go.Ground.phase }, { on := 5, ground := Go.Ground.phase }, { on := 6, ground := Go.Ground.textOnly Go.Departure.lateStores }], guard := none }) (v := ?_) rfl (by kernel_rfl) (by kernel_rfl) (by kernel_rfl) (fun _ _ _ h => h) (Or.inl ⟨by rfl, ?_⟩) (by assumption) ?_
          rotate_left
          · intro wS hSw
            (try dsimp only at hSw)
            go_simp
            (try with_reducible rfl)
          (try simp only [Act.put, List.setIfInBounds_toArray, List.set_cons_zero, List.set_cons_succ])
          refine wpAnyH_take (i := 8) (oi := { dst := some 18, op := Go.Op.assign (Go.Operand.tmp 86), type := 31, pos := "law.go:87", after := #[{ on := 6, ground := Go.Ground.data }, { on := 7, ground := Go.Ground.chain }, { on := 0, ground := Go.Ground.phase }, { on := 1, ground := Go.Ground.phase }, { on := 2, ground := Go.Ground.phase }, { on := 3, ground := Go.Ground.phase }, { on := 4, ground := Go.Ground.phase }, { on := 5, ground := Go.Ground.phase }, { on := 6, ground := Go.Ground.phase }, { on := 7, ground := Go.Ground.phase }], guard := none }) (v := ?_) rfl (by kernel_rfl) (by kernel_rfl) (by kernel_rfl) (fun _ _ _ h => h) (Or.inl ⟨by rfl, ?_⟩) (by assumption) ?_
          rotate_left
          · intro wS hSw
            (try dsimp only at hSw)
            go_simp
            (try with_reducible rfl)
          (try simp only [Act.put, List.setIfInBounds_toArray, List.set_cons_zero, List.set_cons_succ])
          refine wpAnyH_done (by kernel_rfl) ?_ _
          have HO7 := Lib.hid (HO6.out.trans hP_2)
          have HA7 := Lib.hid (hP_2.blk HA6.out hbt)
          have HB7 := Lib.hid (HBL.out _ HO7.out)
          have hv1 := HCS.out V_2 (HO67.out.trans hP_2)
          have hv2 := HCO.out V_2 (HO57.out.trans hP_2)
          have HV3 := Lib.hid (HCB.out.own hP_2)
          clear hP_2
          go_wp2_with fail
          refine (num_errj HEV.out V_2 (HG.out.below HB7.out HG.out.2)).mono ?_
          rintro e w8 ⟨rfl, hb⟩
          have HB8 := Lib.hid (HB7.out.trans (hb.mono HB7.out.size))
          have HX8b := Lib.hid hb
          clear hb hv1 hv2
          go_wp2_with fail
          refine (num_err03 1 w8 (HG.out.below HB8.out HG.out.2)).mono ?_
          rintro e w9 ⟨rfl, hb⟩
          have HB9 := Lib.hid (HB8.out.trans (hb.mono HB8.out.size))
          have HW9 : Hid (Below V_2.heap.size V_2 w9) := Lib.hid (HX8b.out.trans (hb.mono HX8b.out.size))
          have HA9 := Lib.hid (Blk.below HA7.out HW9.out (Blk.lt HA7.out))
          have HP9 := Lib.hid (HPX.out w9 (HO7.out.then_fresh HW9.out))
          have c1 : w9.cell? ⟨b4, 1, none⟩ = some (.int .i64 N) := by rw [Blk.cell HP9.out]; rfl
          clear hb
          go_wp2_with fail
          refine (num_err03 1 w9 (HG.out.below HB9.out HG.out.2)).mono ?_
          rintro e w10 ⟨rfl, hb⟩
          have HB10 := Lib.hid (HB9.out.trans (hb.mono HB9.out.size))
          have HA10 := Lib.hid (Blk.below HA9.out hb (Blk.lt HA9.out))
          have HP10 := Lib.hid (Blk.below HP9.out hb (Blk.lt HP9.out))
          have HW10 : Hid (Below V_2.heap.size V_2 w10) := Lib.hid (HW9.out.trans (hb.mono HW9.out.size))
          have a0 := Blk.cell HA10.out 0
          have a1 := Blk.cell HA10.out 1
          have a2 := Blk.cell HA10.out 2
          have c2 : w10.cell? ⟨b4, 2, none⟩ = some (.int .u32 (gen : Int)) := by rw [Blk.cell HP10.out]; rfl
          have HSU := Lib.hid (sure03 w10 (HG.out.below HB10.out HG.out.2))
          simp at a0 a1 a2
          clear hb
          go_wp2_with fail
          refine HSU.out.mono ?_
          rintro e w11 ⟨rfl, hb⟩
          have HBE := Lib.hid (HB10.out.trans (hb.mono HB10.out.size))
          clear hb
          go_wp2_with fail
          go_ret
          exact ⟨rfl, HBE.out⟩
        refine AllReadyH.cons (o := { dst := some 13, op := Go.Op.alloc 52, type := 0, pos := "law.go:85", after := #[], guard := none }) rfl (fun K hK => ?_) AllReadyH.nil
        go_simp
        (obtain ⟨ba, hba⟩ : ∃ z, W5.heap.size = z := ⟨_, rfl⟩; obtain ⟨V_1, hw⟩ : ∃ z, W5.alloc (.cells #[.int .u8 0, .int .u32 0, .slice none 0 0] 52) = z := ⟨_, rfl⟩; rw [hw, hba]; have hb : Below W5.heap.size W5 V_1 := (by rw [← hw]; exact (Below.refl _ _).alloc (Nat.le_refl _) _); have hA_1 : Blk V_1 ba #[.int .u8 0, .int .u32 0, .slice none 0 0] 52 := (by rw [← hw, ← hba]; exact Blk.new _ _ _); have hbt : ba ≠ tb := (by have := hT_0.lt; omega); have HBA : Hid (w5.heap.size ≤ ba) := Lib.hid (by rw [← hba]; exact hP_0.size); have hP_1 := hP_0.then_fresh hb; have hT_1 := hT_0.below hb; clear hb hw hba hP_0 hT_0; skip)
        (try go_wp2_with fail)
        refine hK.out _ _ ?_ (fun hHeld => ?_)
        · (try dsimp only)
          first | assumption
        clear hK K
        (try simp only [Act.put, List.setIfInBounds_toArray, List.set_cons_zero, List.set_cons_succ])
        refine wpAnyH_ready (rs := [2]) (by kernel_rfl) (by simp) ?_
        refine AllReadyH.cons (o := { dst := some 67, op := Go.Op.call { callee := Go.Callee.value (Go.Operand.func 21), args := #[Go.Operand.tmp 66], argTypes := #[36] }, type := 29, pos := "law.go:85", after := #[{ on := 1, ground := Go.Ground.data }], guard := none }) rfl (fun K hK => ?_) AllReadyH.nil
        go_simp
        (refine (give_any tb n cs oa S V_1 hT_1.lt (HSW.out _ (HO5.out.trans hP_1)) HN9.out).mono ?_; rintro e V_2 ⟨og, kg, rfl, hg1, hg2, hSh, hb⟩; have HSH := Lib.hid hSh; have HGK := Lib.hid (show n ≤ kg ∧ kg ≤ maxLen from ⟨hg1, hg2⟩); have hP_2 := hP_1.then_fresh hb; have hT_2 := hT_1.below hb; have hA_2 := Blk.below hA_1 hb (Blk.lt hA_1); clear hA_1; clear hb hSh hg1 hg2 hP_1 hT_1; skip)
        (try go_wp2_with fail)
        refine hK.out _ _ ?_ (fun hHeld => ?_)
        · (try dsimp only)
          first | assumption
        clear hK K
        (try simp only [Act.put, List.setIfInBounds_toArray, List.set_cons_zero, List.set_cons_succ])
        refine wpAnyH_ready (rs := [5]) (by kernel_rfl) (by simp) ?_
        refine AllReadyH.cons (o := { dst := some 70, op := Go.Op.call { callee := Go.Callee.value (Go.Operand.func 23), args := #[Go.Operand.tmp 65, Go.Operand.tmp 67, Go.Operand.tmp 68, Go.Operand.tmp 69], argTypes := #[34, 29, 28, 5] }, type := 53, pos := "law.go:85", after := #[{ on := 0, ground := Go.Ground.data }, { on := 2, ground := Go.Ground.data }, { on := 3, ground := Go.Ground.data }, { on := 4, ground := Go.Ground.data }, { on := 2, ground := Go.Ground.chain }], guard := none }) rfl (fun K hK => ?_) AllReadyH.nil
        go_simp
        (refine (HAN.out kg og V_2).mono ?_; rintro e V_3 ⟨rfl, hb⟩; have hP_3 := hP_2.then_fresh hb; have hT_3 := hT_2.below hb; have hA_3 := Blk.below hA_2 hb (Blk.lt hA_2); clear hA_2; clear hb hP_2 hT_2 HSH HGK; skip)
        (try go_wp2_with fail)
        refine hK.out _ _ ?_ (fun hHeld => ?_)
        · (try dsimp only)
          first | assumption
        clear hK K
        (try simp only [Act.put, List.setIfInBounds_toArray, List.set_cons_zero, List.set_cons_succ])
        refine wpAnyH_take (i := 6) (oi := { dst := some 64, op := Go.Op.move (Go.Operand.tmp 70), type := 53, pos := "law.go:85", after := #[{ on := 5, ground := Go.Ground.data }], guard := none }) (v := ?_) rfl (by kernel_rfl) (by kernel_rfl) (by kernel_rfl) (fun _ _ _ h => h) (Or.inl ⟨by rfl, ?_⟩) (by assumption) ?_
        rotate_left
        · intro wS hSw
          (try dsimp only at hSw)
          go_simp
          (try with_reducible rfl)
        (try simp only [Act.put, List.setIfInBounds_toArray, List.set_cons_zero, List.set_cons_succ])
        refine wpAnyH_take (i := 7) (oi := { dst := some 71, op := Go.Op.extract (Go.Operand.tmp 64) 0, type := 52, pos := "law.go:85", after := #[{ on := 6, ground := Go.Ground.data }], guard := none }) (v := ?_) rfl (by kernel_rfl) (by kernel_rfl) (by kernel_rfl) (fun _ _ _ h => h) (Or.inl ⟨by rfl, ?_⟩) (by assumption) ?_
        rotate_left
        · intro wS hSw
          (try dsimp only at hSw)
          go_simp
          (try with_reducible rfl)
        (try simp only [Act.put, List.setIfInBounds_toArray, List.set_cons_zero, List.set_cons_succ])
        refine wpAnyH_take (i := 8) (oi := { dst := some 72, op := Go.Op.extract (Go.Operand.tmp 64) 1, type := 31, pos := "law.go:85", after := #[{ on := 6, ground := Go.Ground.data }, { on := 10, ground := Go.Ground.gcOnly Go.Departure.lateStores }], guard := none }) (v := ?_) rfl (by kernel_rfl) (by kernel_rfl) (by kernel_rfl) (fun _ _ _ h => h) (Or.inl ⟨by rfl, ?_⟩) (by assumption) ?_
        rotate_left
        · intro wS hSw
          (try dsimp only at hSw)
          go_simp
          (try with_reducible rfl)
        (try simp only [Act.put, List.setIfInBounds_toArray, List.set_cons_zero, List.set_cons_succ])
        refine wpAnyH_ready (rs := [10]) (by kernel_rfl) (by simp) ?_
        refine AllReadyH.cons (o := { dst := none, op := Go.Op.store 52 (Go.Operand.tmp 13) (Go.Operand.tmp 71), type := 0, pos := "law.go:85", after := #[{ on := 9, ground := Go.Ground.data }, { on := 7, ground := Go.Ground.data }, { on := 5, ground := Go.Ground.chain }, { on := 0, ground := Go.Ground.phase }, { on := 1, ground := Go.Ground.phase }, { on := 2, ground := Go.Ground.phase }, { on := 3, ground := Go.Ground.phase }, { on := 4, ground := Go.Ground.phase }, { on := 5, ground := Go.Ground.phase }, { on := 6, ground := Go.Ground.phase }, { on := 7, ground := Go.Ground.phase }, { on := 8, ground := Go.Ground.textOnly Go.Departure.lateStores }, { on := 9, ground := Go.Ground.phase }], guard := none }) rfl (fun K hK => ?_) AllReadyH.nil
        (refine step_storeM rfl 52 (.tmp 13) (.tmp 71) rfl ba 0 #[.int .u8 0, .int .u32 0, .slice none 0 0] rfl rfl (hA_3.there (Nat.le_refl 3)) info_share3 (one_share _ _ _ _ _ _ _) ?_; obtain ⟨V_4, hw⟩ : ∃ z, V_3.setCells ba 0 [.int .u8 0, .int .u32 0, .slice none 0 0] = z := ⟨_, rfl⟩; have hO : Own ba V_3 V_4 := (by rw [← hw]; exact Own.setCells (b := ba) [.int .u8 0, .int .u32 0, .slice none 0 0] 0 V_3); have hA_4 : Blk V_4 ba #[.int .u8 0, .int .u32 0, .slice none 0 0] 52 := (by rw [← hw]; exact hA_3.whole3 rfl _ _ _); have hP_4 := hP_3.then_new hO HBA.out; have hT_4 := hT_3.own hO (Ne.symm hbt); rw [hw]; clear hO hw hA_3 hP_3 hT_3; skip)
        refine hK.out _ _ ?_ (fun hHeld => ?_)
        · (try dsimp only)
          first | assumption
        clear hK K
        (try simp only [Act.put, List.setIfInBounds_toArray, List.set_cons_zero, List.set_cons_succ])
        refine wpAnyH_take (i := 11) (oi := { dst := some 14, op := Go.Op.assign (Go.Operand.tmp 72), type := 31, pos := "law.go:85", after := #[{ on := 8, ground := Go.Ground.data }, { on := 10, ground := Go.Ground.chain }, { on := 0, ground := Go.Ground.phase }, { on := 1, ground := Go.Ground.phase }, { on := 2, ground := Go.Ground.phase }, { on := 3, ground := Go.Ground.phase }, { on := 4, ground := Go.Ground.phase }, { on := 5, ground := Go.Ground.phase }, { on := 6, ground := Go.Ground.phase }, { on := 7, ground := Go.Ground.phase }, { on := 8, ground := Go.Ground.phase }, { on := 9, ground := Go.Ground.phase }, { on := 10, ground := Go.Ground.phase }], guard := none }) (v := ?_) rfl (by kernel_rfl) (by kernel_rfl) (by kernel_rfl) (fun _ _ _ h => h) (Or.inl ⟨by rfl, ?_⟩) (by assumption) ?_
        rotate_left
        · intro wS hSw
          (try dsimp only at hSw)
          go_simp
          (try with_reducible rfl)
        (try simp only [Act.put, List.setIfInBounds_toArray, List.set_cons_zero, List.set_cons_succ])
        refine wpAnyH_done (by kernel_rfl) ?_ _
        have HO6a := Lib.hid (HO5.out.trans hP_4)
        have HO35 := Lib.hid (HO45.out.trans hP_4)
        have HO55 := Lib.hid hP_4
        have HA5 := Lib.hid hA_4
        have HT6 := Lib.hid hT_4
        have HRB := Lib.hid (HJB.out x tb cs oa V_4 HX8.out hT_4.lt (HSW.out _ HO6a.out))
        have HPZ := Lib.hid (HPX.out V_4 HO6a.out)
        have c0 : V_4.cell? ⟨b4, 0, none⟩ = some (.int .i64 K) := by rw [Blk.cell HPZ.out]; rfl
        have c1 : V_4.cell? ⟨b4, 1, none⟩ = some (.int .i64 N) := by rw [Blk.cell HPZ.out]; rfl
        have c2 : V_4.cell? ⟨b4, 2, none⟩ = some (.int .u32 (gen : Int)) := by rw [Blk.cell HPZ.out]; rfl
        clear hP_4 hA_4 hT_4 HO5 HO45 hz
        go_wp2_with fail
        refine HRB.out.mono ?_
        rintro e w6 ⟨bo, bl, bc, rfl, hC, hb⟩
        have HCB := Lib.hid hC
        have HO6 := Lib.hid (HO6a.out.then_fresh hb)
        have HO67 := Lib.hid (HO35.out.then_fresh hb)
        have HO57 := Lib.hid (HO55.out.then_fresh hb)
        have HA6 := Lib.hid (Blk.below HA5.out hb (Blk.lt HA5.out))
        have hT6 : TabIn w6 tb := HT6.out.below hb
        have hT_0 : TabIn w6.drew tb := hT6
        have hP_0 : Own tb w6 w6.drew := (Own.refl _ _).drew
        clear hb hC c0 c1 c2 HRB HPZ HT6 hT6
        go_wp2_with fail
        refine wp_region_held_drew (S := (Own tb w6)) (by kernel_rfl) ?_ (fun hHeld => ?_)
        · (try dsimp only)
          first | assumption
        generalize w6.drew = W6 at *
        refine wpAnyH_take (i := 0) (oi := { dst := some 81, op := Go.Op.move (Go.Operand.tmp 0), type := 36, pos := "law.go:87", after := #[], guard := none }) (v := ?_) rfl (by kernel_rfl) (by kernel_rfl) (by kernel_rfl) (fun _ _ _ h => h) (Or.inl ⟨by rfl, ?_⟩) (by assumption) ?_
        rotate_left
        · intro wS hSw
          (try dsimp only at hSw)
          go_simp
          (try with_reducible rfl)
        (try simp only [Act.put, List.setIfInBounds_toArray, List.set_cons_zero, List.set_cons_succ])
        refine wpAnyH_take (i := 2) (oi := { dst := some 83, op := Go.Op.load 25 (Go.Operand.tmp 4), type := 25, pos := "law.go:87", after := #[], guard := none }) (v := ?_) rfl (by kernel_rfl) (by kernel_rfl) (by kernel_rfl) (fun _ _ _ h => h) (Or.inl ⟨by rfl, ?_⟩) (by assumption) ?_
        rotate_left
        · intro wS hSw
          refine exec_loadM (x := .tmp 4) (cs := [.int .i64 K, .int .i64 N, .int .u32 (gen : Int)]) ?_ ?_ ((HPX.out wS (HO6.out.trans hSw)).range0) Tryd.underlying25 rfl info_rplanJ <;> rfl
        (try simp only [Act.put, List.setIfInBounds_toArray, List.set_cons_zero, List.set_cons_succ])
        refine wpAnyH_ready (rs := [1]) (by kernel_rfl) (by simp) ?_
        refine AllReadyH.cons (o := { dst := some 82, op := Go.Op.call { callee := Go.Callee.value (Go.Operand.func 21), args := #[Go.Operand.tmp 81], argTypes := #[36] }, type := 29, pos := "law.go:87", after := #[{ on := 0, ground := Go.Ground.data }], guard := none }) rfl (fun K hK => ?_) AllReadyH.nil
        go_simp
        (refine (give_any tb n cs oa S W6 hT_0.lt (HSW.out _ (HO6.out.trans hP_0)) HN9.out).mono ?_; rintro e V_1 ⟨og, kg, rfl, hg1, hg2, hSh, hb⟩; have HSH := Lib.hid hSh; have HGK := Lib.hid (show n ≤ kg ∧ kg ≤ maxLen from ⟨hg1, hg2⟩); have hP_1 := hP_0.then_fresh hb; have hT_1 := hT_0.below hb; clear hb hSh hg1 hg2 hP_0 hT_0; skip)
        (try go_wp2_with fail)
        refine hK.out _ _ ?_ (fun hHeld => ?_)
        · (try dsimp only)
          first | assumption
        clear hK K
        (try simp only [Act.put, List.setIfInBounds_toArray, List.set_cons_zero, List.set_cons_succ])
        refine wpAnyH_ready (rs := [3]) (by kernel_rfl) (by simp) ?_
        refine AllReadyH.cons (o := { dst := some 84, op := Go.Op.call { callee := Go.Callee.value (Go.Operand.func 20), args := #[Go.Operand.const (Go.Value.pointer none), Go.Operand.tmp 82, Go.Operand.tmp 83], argTypes := #[34, 29, 28] }, type := 47, pos := "law.go:87", after := #[{ on := 1, ground := Go.Ground.data }, { on := 2, ground := Go.Ground.data }, { on := 1, ground := Go.Ground.chain }], guard := none }) rfl (fun K hK => ?_) AllReadyH.nil
        go_simp
        (refine (HCN.out kg og V_1).mono ?_; rintro e V_2 ⟨rfl, hb⟩; have hP_2 := hP_1.then_fresh hb; clear hb hP_1 hT_1 HSH HGK; skip)
        (try go_wp2_with fail)
        refine hK.out _ _ ?_ (fun hHeld => ?_)
        · (try dsimp only)
          first | assumption
        clear hK K
        (try simp only [Act.put, List.setIfInBounds_toArray, List.set_cons_zero, List.set_cons_succ])
        refine wpAnyH_take (i := 4) (oi := { dst := some 80, op := Go.Op.move (Go.Operand.tmp 84), type := 47, pos := "law.go:87", after := #[{ on := 3, ground := Go.Ground.data }], guard := none }) (v := ?_) rfl (by kernel_rfl) (by kernel_rfl) (by kernel_rfl) (fun _ _ _ h => h) (Or.inl ⟨by rfl, ?_⟩) (by assumption) ?_
        rotate_left
        · intro wS hSw
          (try dsimp only at hSw)
          go_simp
          (try with_reducible rfl)
        (try simp only [Act.put, List.setIfInBounds_toArray, List.set_cons_zero, List.set_cons_succ])
        refine wpAnyH_take (i := 5) (oi := { dst := some 85, op := Go.Op.extract (Go.Operand.tmp 80) 0, type := 22, pos := "law.go:87", after := #[{ on := 4, ground := Go.Ground.data }], guard := none }) (v := ?_) rfl (by kernel_rfl) (by kernel_rfl) (by kernel_rfl) (fun _ _ _ h => h) (Or.inl ⟨by rfl, ?_⟩) (by assumption) ?_
        rotate_left
        · intro wS hSw
          (try dsimp only at hSw)
          go_simp
          (try with_reducible rfl)
        (try simp only [Act.put, List.setIfInBounds_toArray, List.set_cons_zero, List.set_cons_succ])
        refine wpAnyH_take (i := 6) (oi := { dst := some 86, op := Go.Op.extract (Go.Operand.tmp 80) 1, type := 31, pos := "law.go:87", after := #[{ on := 4, ground := Go.Ground.data }, { on := 7, ground := Go.Ground.gcOnly Go.Departure.lateStores }], guard := none }) (v := ?_) rfl (by kernel_rfl) (by kernel_rfl) (by kernel_rfl) (fun _ _ _ h => h) (Or.inl ⟨by rfl, ?_⟩) (by assumption) ?_
        rotate_left
        · intro wS hSw
          (try dsimp only at hSw)
          go_simp
          (try with_reducible rfl)
        (try simp only [Act.put, List.setIfInBounds_toArray, List.set_cons_zero, List.set_cons_succ])
        refine wpAnyH_take (i := 7) (oi := { dst := some 17, op := Go.Op.assign (Go.Operand.tmp 85), type := 22, pos := "law.go:87", after := #[{ on := 5, ground := Go.Ground.data }, { on := 3, ground := Go.Ground.chain }, { on := 0, ground := Go.Ground.phase }, { on := 1, ground := Go.Ground.phase }, { on := 2, ground := Go.Ground.phase }, { on := 3, ground := Go.Ground.phase }, { on := 4, ground := Go.Ground.phase }, { on := 5, ground := Go.Ground.phase }, { on := 6, ground := Go.Ground.textOnly Go.Departure.lateStores }], guard := none }) (v := ?_) rfl (by kernel_rfl) (by kernel_rfl) (by kernel_rfl) (fun _ _ _ h => h) (Or.inl ⟨by rfl, ?_⟩) (by assumption) ?_
        rotate_left
        · intro wS hSw
          (try dsimp only at hSw)
          go_simp
          (try with_reducible rfl)
        (try simp only [Act.put, List.setIfInBounds_toArray, List.set_cons_zero, List.set_cons_succ])
        refine wpAnyH_take (i := 8) (oi := { dst := some 18, op := Go.Op.assign (Go.Operand.tmp 86), type := 31, pos := "law.go:87", after := #[{ on := 6, ground := Go.Ground.data }, { on := 7, ground := Go.Ground.chain }, { on := 0, ground := Go.Ground.phase }, { on := 1, ground := Go.Ground.phase }, { on := 2, ground := Go.Ground.phase }, { on := 3, ground := Go.Ground.phase }, { on := 4, ground := Go.Ground.phase }, { on := 5, ground := Go.Ground.phase }, { on := 6, ground := Go.Ground.phase }, { on := 7, ground := Go.Ground.phase }], guard := none }) (v := ?_) rfl (by kernel_rfl) (by kernel_rfl) (by kernel_rfl) (fun _ _ _ h => h) (Or.inl ⟨by rfl, ?_⟩) (by assumption) ?_
        rotate_left
        · intro wS hSw
          (try dsimp only at hSw)
          go_simp
          (try with_reducible rfl)
        (try simp only [Act.put, List.setIfInBounds_toArray, List.set_cons_zero, List.set_cons_succ])
        refine wpAnyH_done (by kernel_rfl) ?_ _
        have HO7 := Lib.hid (HO6.out.trans hP_2)
        have HA7 := Lib.hid (hP_2.blk HA6.out hbt)
        have HB7 := Lib.hid (HBL.out _ HO7.out)
        have hv1 := HCS.out V_2 (HO67.out.trans hP_2)
        have hv2 := HCO.out V_2 (HO57.out.trans hP_2)
        have HV3 := Lib.hid (HCB.out.own hP_2)
        clear hP_2
        go_wp2_with fail
        refine (num_errj HEV.out V_2 (HG.out.below HB7.out HG.out.2)).mono ?_
        rintro e w8 ⟨rfl, hb⟩
        have HB8 := Lib.hid (HB7.out.trans (hb.mono HB7.out.size))
        have HX8b := Lib.hid hb
        clear hb hv1 hv2
        go_wp2_with fail
        refine (num_err03 1 w8 (HG.out.below HB8.out HG.out.2)).mono ?_
        rintro e w9 ⟨rfl, hb⟩
        have HB9 := Lib.hid (HB8.out.trans (hb.mono HB8.out.size))
        have HW9 : Hid (Below V_2.heap.size V_2 w9) := Lib.hid (HX8b.out.trans (hb.mono HX8b.out.size))
        have HA9 := Lib.hid (Blk.below HA7.out HW9.out (Blk.lt HA7.out))
        have HP9 := Lib.hid (HPX.out w9 (HO7.out.then_fresh HW9.out))
        have c1 : w9.cell? ⟨b4, 1, none⟩ = some (.int .i64 N) := by rw [Blk.cell HP9.out]; rfl
        clear hb
        go_wp2_with fail
        refine (num_err03 1 w9 (HG.out.below HB9.out HG.out.2)).mono ?_
        rintro e w10 ⟨rfl, hb⟩
        have HB10 := Lib.hid (HB9.out.trans (hb.mono HB9.out.size))
        have HA10 := Lib.hid (Blk.below HA9.out hb (Blk.lt HA9.out))
        have HP10 := Lib.hid (Blk.below HP9.out hb (Blk.lt HP9.out))
        have HW10 : Hid (Below V_2.heap.size V_2 w10) := Lib.hid (HW9.out.trans (hb.mono HW9.out.size))
        have a0 := Blk.cell HA10.out 0
        have a1 := Blk.cell HA10.out 1
        have a2 := Blk.cell HA10.out 2
        have c2 : w10.cell? ⟨b4, 2, none⟩ = some (.int .u32 (gen : Int)) := by rw [Blk.cell HP10.out]; rfl
        have HSU := Lib.hid (sure03 w10 (HG.out.below HB10.out HG.out.2))
        simp at a0 a1 a2
        clear hb
        go_wp2_with fail
        refine HSU.out.mono ?_
        rintro e w11 ⟨rfl, hb⟩
        have HBE := Lib.hid (HB10.out.trans (hb.mono HB10.out.size))
        clear hb
        go_wp2_with fail
        go_ret
        exact ⟨rfl, HBE.out⟩
      have HXR : Hid (1 ≤ x ∧ (x : Int) ≤ N) := Lib.hid (by omega)
      have r2 : ((x : Int) == 0) = false := by rw [beq_eq_false_iff_ne]; omega
      have r3 : decide (N < (x : Int)) = false := decide_eq_false (by omega)
      clear hR
      by_cases hE : E = 0
      · subst hE
        have HE0 : Hid ((0 : Nat) = 0) := Lib.hid rfl
        go_wp2_with fail
        refine wp_region_held_drew (S := (Own tb w1)) (by kernel_rfl) ?_ (fun hHeld => ?_)
        · (try dsimp only)
          first | assumption
        generalize w1.drew = W1 at *
        refine wpAnyH_take (i := 0) (oi := { dst := some 51, op := Go.Op.move (Go.Operand.tmp 8), type := 34, pos := "law.go:83", after := #[], guard := none }) (v := ?_) rfl (by kernel_rfl) (by kernel_rfl) (by kernel_rfl) (fun _ _ _ h => h) (Or.inl ⟨by rfl, ?_⟩) (by assumption) ?_
        rotate_left
        · intro wS hSw
          (try dsimp only at hSw)
          go_simp
          (try with_reducible rfl)
        (try simp only [Act.put, List.setIfInBounds_toArray, List.set_cons_zero, List.set_cons_succ])
        refine wpAnyH_take (i := 1) (oi := { dst := some 52, op := Go.Op.move (Go.Operand.tmp 0), type := 36, pos := "law.go:83", after := #[], guard := none }) (v := ?_) rfl (by kernel_rfl) (by kernel_rfl) (by kernel_rfl) (fun _ _ _ h => h) (Or.inl ⟨by rfl, ?_⟩) (by assumption) ?_
        rotate_left
        · intro wS hSw
          (try dsimp only at hSw)
          go_simp
          (try with_reducible rfl)
        (try simp only [Act.put, List.setIfInBounds_toArray, List.set_cons_zero, List.set_cons_succ])
        refine wpAnyH_take (i := 3) (oi := { dst := some 54, op := Go.Op.load 25 (Go.Operand.tmp 4), type := 25, pos := "law.go:83", after := #[], guard := none }) (v := ?_) rfl (by kernel_rfl) (by kernel_rfl) (by kernel_rfl) (fun _ _ _ h => h) (Or.inl ⟨by rfl, ?_⟩) (by assumption) ?_
        rotate_left
        · intro wS hSw
          refine exec_loadM (x := .tmp 4) (cs := [.int .i64 K, .int .i64 N, .int .u32 (gen : Int)]) ?_ ?_ ((HPX.out wS ((Own.refl tb w1).trans hSw)).range0) Tryd.underlying25 rfl info_rplanJ <;> rfl
        (try simp only [Act.put, List.setIfInBounds_toArray, List.set_cons_zero, List.set_cons_succ])
        refine wpAnyH_ready (rs := [2]) (by kernel_rfl) (by simp) ?_
        refine AllReadyH.cons (o := { dst := some 53, op := Go.Op.call { callee := Go.Callee.value (Go.Operand.func 21), args := #[Go.Operand.tmp 52], argTypes := #[36] }, type := 29, pos := "law.go:83", after := #[{ on := 1, ground := Go.Ground.data }], guard := none }) rfl (fun K hK => ?_) AllReadyH.nil
        go_simp
        (refine (give_any tb n cs oa S W1 hT_0.lt (HSW.out _ (hP_0)) HN9.out).mono ?_; rintro e V_1 ⟨og, kg, rfl, hg1, hg2, hSh, hb⟩; have HSH := Lib.hid hSh; have HGK := Lib.hid (show n ≤ kg ∧ kg ≤ maxLen from ⟨hg1, hg2⟩); have hP_1 := hP_0.then_fresh hb; have hT_1 := hT_0.below hb; clear hb hSh hg1 hg2 hP_0 hT_0; skip)
        (try go_wp2_with fail)
        refine hK.out _ _ ?_ (fun hHeld => ?_)
        · (try dsimp only)
          first | assumption
        clear hK K
        (try simp only [Act.put, List.setIfInBounds_toArray, List.set_cons_zero, List.set_cons_succ])
        refine wpAnyH_ready (rs := [4]) (by kernel_rfl) (by simp) ?_
        refine AllReadyH.cons (o := { dst := some 55, op := Go.Op.call { callee := Go.Callee.value (Go.Operand.func 20), args := #[Go.Operand.tmp 51, Go.Operand.tmp 53, Go.Operand.tmp 54], argTypes := #[34, 29, 28] }, type := 47, pos := "law.go:83", after := #[{ on := 0, ground := Go.Ground.data }, { on := 2, ground := Go.Ground.data }, { on := 3, ground := Go.Ground.data }, { on := 2, ground := Go.Ground.chain }], guard := none }) rfl (fun K hK => ?_) AllReadyH.nil
        go_simp
        (refine (HJA.out tb kg og V_1 hT_1 HSH.out HGK.out.1 HGK.out.2).mono ?_; rintro e V_2 ⟨so, sl, sc, ev, rfl, hE, hC, hL⟩; have HEV := Lib.hid hE; have HCS := Lib.hid hC; have hP_2 := hP_1.trans hL.2; have hT_2 := hL.1; clear hE hC hL hP_1 hT_1 HSH HGK; skip)
        (try go_wp2_with fail)
        refine hK.out _ _ ?_ (fun hHeld => ?_)
        · (try dsimp only)
          first | assumption
        clear hK K
        (try simp only [Act.put, List.setIfInBounds_toArray, List.set_cons_zero, List.set_cons_succ])
        refine wpAnyH_take (i := 5) (oi := { dst := some 50, op := Go.Op.move (Go.Operand.tmp 55), type := 47, pos := "law.go:83", after := #[{ on := 4, ground := Go.Ground.data }], guard := none }) (v := ?_) rfl (by kernel_rfl) (by kernel_rfl) (by kernel_rfl) (fun _ _ _ h => h) (Or.inl ⟨by rfl, ?_⟩) (by assumption) ?_
        rotate_left
        · intro wS hSw
          (try dsimp only at hSw)
          go_simp
          (try with_reducible rfl)
        (try simp only [Act.put, List.setIfInBounds_toArray, List.set_cons_zero, List.set_cons_succ])
        refine wpAnyH_take (i := 6) (oi := { dst := some 56, op := Go.Op.extract (Go.Operand.tmp 50) 0, type := 22, pos := "law.go:83", after := #[{ on := 5, ground := Go.Ground.data }], guard := none }) (v := ?_) rfl (by kernel_rfl) (by kernel_rfl) (by kernel_rfl) (fun _ _ _ h => h) (Or.inl ⟨by rfl, ?_⟩) (by assumption) ?_
        rotate_left
        · intro wS hSw
          (try dsimp only at hSw)
          go_simp
          (try with_reducible rfl)
        (try simp only [Act.put, List.setIfInBounds_toArray, List.set_cons_zero, List.set_cons_succ])
        refine wpAnyH_take (i := 7) (oi := { dst := some 57, op := Go.Op.extract (Go.Operand.tmp 50) 1, type := 31, pos := "law.go:83", after := #[{ on := 5, ground := Go.Ground.data }, { on := 8, ground := Go.Ground.gcOnly Go.Departure.lateStores }], guard := none }) (v := ?_) rfl (by kernel_rfl) (by kernel_rfl) (by kernel_rfl) (fun _ _ _ h => h) (Or.inl ⟨by rfl, ?_⟩) (by assumption) ?_
        rotate_left
        · intro wS hSw
          (try dsimp only at hSw)
          go_simp
          (try with_reducible rfl)
        (try simp only [Act.put, List.setIfInBounds_toArray, List.set_cons_zero, List.set_cons_succ])
        refine wpAnyH_take (i := 8) (oi := { dst := some 9, op := Go.Op.assign (Go.Operand.tmp 56), type := 22, pos := "law.go:83", after := #[{ on := 6, ground := Go.Ground.data }, { on := 4, ground := Go.Ground.chain }, { on := 0, ground := Go.Ground.phase }, { on := 1, ground := Go.Ground.phase }, { on := 2, ground := Go.Ground.phase }, { on := 3, ground := Go.Ground.phase }, { on := 4, ground := Go.Ground.phase }, { on := 5, ground := Go.Ground.phase }, { on := 6, ground := Go.Ground.phase }, { on := 7, ground := Go.Ground.textOnly Go.Departure.lateStores }], guard := none }) (v := ?_) rfl (by kernel_rfl) (by kernel_rfl) (by kernel_rfl) (fun _ _ _ h => h) (Or.inl ⟨by rfl, ?_⟩) (by assumption) ?_
        rotate_left
        · intro wS hSw
          (try dsimp only at hSw)
          go_simp
          (try with_reducible rfl)
        (try simp only [Act.put, List.setIfInBounds_toArray, List.set_cons_zero, List.set_cons_succ])
        refine wpAnyH_take (i := 9) (oi := { dst := some 10, op := Go.Op.assign (Go.Operand.tmp 57), type := 31, pos := "law.go:83", after := #[{ on := 7, ground := Go.Ground.data }, { on := 8, ground := Go.Ground.chain }, { on := 0, ground := Go.Ground.phase }, { on := 1, ground := Go.Ground.phase }, { on := 2, ground := Go.Ground.phase }, { on := 3, ground := Go.Ground.phase }, { on := 4, ground := Go.Ground.phase }, { on := 5, ground := Go.Ground.phase }, { on := 6, ground := Go.Ground.phase }, { on := 7, ground := Go.Ground.phase }, { on := 8, ground := Go.Ground.phase }], guard := none }) (v := ?_) rfl (by kernel_rfl) (by kernel_rfl) (by kernel_rfl) (fun _ _ _ h => h) (Or.inl ⟨by rfl, ?_⟩) (by assumption) ?_
        rotate_left
        · intro wS hSw
          (try dsimp only at hSw)
          go_simp
          (try with_reducible rfl)
        (try simp only [Act.put, List.setIfInBounds_toArray, List.set_cons_zero, List.set_cons_succ])
        refine wpAnyH_done (by kernel_rfl) ?_ _
        have HO4 := Lib.hid hP_2
        have HT4 := Lib.hid hT_2
        have HRA := Lib.hid (HJB.out 0 tb cs oa V_2 (by decide) hT_2.lt (HSW.out _ hP_2))
        have HPZ := Lib.hid (HPX.out V_2 hP_2)
        have c0 : V_2.cell? ⟨b4, 0, none⟩ = some (.int .i64 K) := by rw [Blk.cell HPZ.out]; rfl
        have c1 : V_2.cell? ⟨b4, 1, none⟩ = some (.int .i64 N) := by rw [Blk.cell HPZ.out]; rfl
        have c2 : V_2.cell? ⟨b4, 2, none⟩ = some (.int .u32 (gen : Int)) := by rw [Blk.cell HPZ.out]; rfl
        clear hP_2 hT_2
        go_wp2_with fail
        refine HRA.out.mono ?_
        rintro e w5 ⟨oo, ol, oc, rfl, hC, hb⟩
        have HCO := Lib.hid hC
        have HO5 := Lib.hid (HO4.out.then_fresh hb)
        have HO45 : Hid (Own tb V_2 w5) := Lib.hid (Own.of_below hb)
        have hT5 : TabIn w5 tb := HT4.out.below hb
        have hT_0 : TabIn w5.drew tb := hT5
        have hP_0 : Own tb w5 w5.drew := (Own.refl _ _).drew
        have hz := zsh_run
        clear hb hC c0 c1 c2 HRA HPZ HT4 HO4 hT5
        go_wp2_with fail
        refine wp_region_held_drew (S := (Own tb w5)) (by kernel_rfl) ?_ (fun hHeld => ?_)
        · (try dsimp only)
          first | assumption
        generalize w5.drew = W5 at *
        refine wpAnyH_take (i := 0) (oi := { dst := some 65, op := Go.Op.move (Go.Operand.tmp 8), type := 34, pos := "law.go:85", after := #[], guard := none }) (v := ?_) rfl (by kernel_rfl) (by kernel_rfl) (by kernel_rfl) (fun _ _ _ h => h) (Or.inl ⟨by rfl, ?_⟩) (by assumption) ?_
        rotate_left
        · intro wS hSw
          (try dsimp only at hSw)
          go_simp
          (try with_reducible rfl)
        (try simp only [Act.put, List.setIfInBounds_toArray, List.set_cons_zero, List.set_cons_succ])
        refine wpAnyH_take (i := 1) (oi := { dst := some 66, op := Go.Op.move (Go.Operand.tmp 0), type := 36, pos := "law.go:85", after := #[], guard := none }) (v := ?_) rfl (by kernel_rfl) (by kernel_rfl) (by kernel_rfl) (fun _ _ _ h => h) (Or.inl ⟨by rfl, ?_⟩) (by assumption) ?_
        rotate_left
        · intro wS hSw
          (try dsimp only at hSw)
          go_simp
          (try with_reducible rfl)
        (try simp only [Act.put, List.setIfInBounds_toArray, List.set_cons_zero, List.set_cons_succ])
        refine wpAnyH_take (i := 3) (oi := { dst := some 68, op := Go.Op.load 25 (Go.Operand.tmp 4), type := 25, pos := "law.go:85", after := #[], guard := none }) (v := ?_) rfl (by kernel_rfl) (by kernel_rfl) (by kernel_rfl) (fun _ _ _ h => h) (Or.inl ⟨by rfl, ?_⟩) (by assumption) ?_
        rotate_left
        · intro wS hSw
          refine exec_loadM (x := .tmp 4) (cs := [.int .i64 K, .int .i64 N, .int .u32 (gen : Int)]) ?_ ?_ ((HPX.out wS (HO5.out.trans hSw)).range0) Tryd.underlying25 rfl info_rplanJ <;> rfl
        (try simp only [Act.put, List.setIfInBounds_toArray, List.set_cons_zero, List.set_cons_succ])
        refine wpAnyH_take (i := 4) (oi := { dst := some 69, op := Go.Op.move (Go.Operand.tmp 2), type := 5, pos := "law.go:85", after := #[], guard := none }) (v := ?_) rfl (by kernel_rfl) (by kernel_rfl) (by kernel_rfl) (fun _ _ _ h => h) (Or.inl ⟨by rfl, ?_⟩) (by assumption) ?_
        rotate_left
        · intro wS hSw
          (try dsimp only at hSw)
          go_simp
          (try with_reducible rfl)
        (try simp only [Act.put, List.setIfInBounds_toArray, List.set_cons_zero, List.set_cons_succ])
        refine wpAnyH_ready (rs := [2, 9]) (by kernel_rfl) (by simp) ?_
        refine AllReadyH.cons (o := { dst := some 67, op := Go.Op.call { callee := Go.Callee.value (Go.Operand.func 21), args := #[Go.Operand.tmp 66], argTypes := #[36] }, type := 29, pos := "law.go:85", after := #[{ on := 1, ground := Go.Ground.data }], guard := none }) rfl (fun K hK => ?_) ?_
        · skip
          go_simp
          (refine (give_any tb n cs oa S W5 hT_0.lt (HSW.out _ (HO5.out.trans hP_0)) HN9.out).mono ?_; rintro e V_1 ⟨og, kg, rfl, hg1, hg2, hSh, hb⟩; have HSH := Lib.hid hSh; have HGK := Lib.hid (show n ≤ kg ∧ kg ≤ maxLen from ⟨hg1, hg2⟩); have hP_1 := hP_0.then_fresh hb; have hT_1 := hT_0.below hb; clear hb hSh hg1 hg2 hP_0 hT_0; skip)
          (try go_wp2_with fail)
          refine hK.out _ _ ?_ (fun hHeld => ?_)
          · (try dsimp only)
            first | assumption
          clear hK K
          (try simp only [Act.put, List.setIfInBounds_toArray, List.set_cons_zero, List.set_cons_succ])
          refine wpAnyH_ready (rs := [5, 9]) (by kernel_rfl) (by simp) ?_
          refine AllReadyH.cons (o := { dst := some 70, op := Go.Op.call { callee := Go.Callee.value (Go.Operand.func 23), args := #[Go.Operand.tmp 65, Go.Operand.tmp 67, Go.Operand.tmp 68, Go.Operand.tmp 69], argTypes := #[34, 29, 28, 5] }, type := 53, pos := "law.go:85", after := #[{ on := 0, ground := Go.Ground.data }, { on := 2, ground := Go.Ground.data }, { on := 3, ground := Go.Ground.data }, { on := 4, ground := Go.Ground.data }, { on := 2, ground := Go.Ground.chain }], guard := none }) rfl (fun K hK => ?_) ?_
          · skip
            go_simp
            (refine (HJC.out x tb kg og V_1 HXR.out.1 HXR.out.2 HX8.out hT_1 HSH.out HGK.out.1 HGK.out.2).mono ?_; rintro e V_2 ⟨ao, al, ac, hr, hC, hL⟩; obtain rfl := (hr.resolve_right (fun h => h.1 rfl)).2; obtain ⟨lo, hlo⟩ : ∃ z, V_1.heap.size = z := ⟨_, rfl⟩; obtain ⟨hi, hhi⟩ : ∃ z, V_2.heap.size = z := ⟨_, rfl⟩; rw [hlo, hhi] at hC; have hC_2 := hC; have HLO := Lib.hid (show V_1.heap.size = lo ∧ V_2.heap.size = hi ∧ tb < lo from ⟨hlo, hhi, by have := hT_1.lt; omega⟩); have hP_2 := hP_1.trans hL.2; have hT_2 := hL.1; clear hr hC hL hlo hhi hP_1 hT_1 HSH HGK; skip)
            (try go_wp2_with fail)
            refine hK.out _ _ ?_ (fun hHeld => ?_)
            · (try dsimp only)
              first | assumption
            clear hK K
            (try simp only [Act.put, List.setIfInBounds_toArray, List.set_cons_zero, List.set_cons_succ])
            refine wpAnyH_take (i := 6) (oi := { dst := some 64, op := Go.Op.move (Go.Operand.tmp 70), type := 53, pos := "law.go:85", after := #[{ on := 5, ground := Go.Ground.data }], guard := none }) (v := ?_) rfl (by kernel_rfl) (by kernel_rfl) (by kernel_rfl) (fun _ _ _ h => h) (Or.inl ⟨by rfl, ?_⟩) (by assumption) ?_
            rotate_left
            · intro wS hSw
              (try dsimp only at hSw)
              go_simp
              (try with_reducible rfl)
            (try simp only [Act.put, List.setIfInBounds_toArray, List.set_cons_zero, List.set_cons_succ])
            refine wpAnyH_take (i := 7) (oi := { dst := some 71, op := Go.Op.extract (Go.Operand.tmp 64) 0, type := 52, pos := "law.go:85", after := #[{ on := 6, ground := Go.Ground.data }], guard := none }) (v := ?_) rfl (by kernel_rfl) (by kernel_rfl) (by kernel_rfl) (fun _ _ _ h => h) (Or.inl ⟨by rfl, ?_⟩) (by assumption) ?_
            rotate_left
            · intro wS hSw
              (try dsimp only at hSw)
              go_simp
              (try with_reducible rfl)
            (try simp only [Act.put, List.setIfInBounds_toArray, List.set_cons_zero, List.set_cons_succ])
            refine wpAnyH_take (i := 8) (oi := { dst := some 72, op := Go.Op.extract (Go.Operand.tmp 64) 1, type := 31, pos := "law.go:85", after := #[{ on := 6, ground := Go.Ground.data }, { on := 10, ground := Go.Ground.gcOnly Go.Departure.lateStores }], guard := none }) (v := ?_) rfl (by kernel_rfl) (by kernel_rfl) (by kernel_rfl) (fun _ _ _ h => h) (Or.inl ⟨by rfl, ?_⟩) (by assumption) ?_
            rotate_left
            · intro wS hSw
              (try dsimp only at hSw)
              go_simp
              (try with_reducible rfl)
            (try simp only [Act.put, List.setIfInBounds_toArray, List.set_cons_zero, List.set_cons_succ])
            refine wpAnyH_ready (rs := [9]) (by kernel_rfl) (by simp) ?_
            refine AllReadyH.cons (o := { dst := some 13, op := Go.Op.alloc 52, type := 0, pos := "law.go:85", after := #[], guard := none }) rfl (fun K hK => ?_) AllReadyH.nil
            go_simp
            (obtain ⟨ba, hba⟩ : ∃ z, V_2.heap.size = z := ⟨_, rfl⟩; obtain ⟨V_3, hw⟩ : ∃ z, V_2.alloc (.cells #[.int .u8 0, .int .u32 0, .slice none 0 0] 52) = z := ⟨_, rfl⟩; rw [hw, hba]; have hb : Below V_2.heap.size V_2 V_3 := (by rw [← hw]; exact (Below.refl _ _).alloc (Nat.le_refl _) _); have hA_3 : Blk V_3 ba #[.int .u8 0, .int .u32 0, .slice none 0 0] 52 := (by rw [← hw, ← hba]; exact Blk.new _ _ _); have hbt : ba ≠ tb := (by have := hT_2.lt; omega); have HBA : Hid (w5.heap.size ≤ ba) := Lib.hid (by rw [← hba]; exact hP_2.size); have hP_3 := hP_2.then_fresh hb; have hT_3 := hT_2.below hb; have hC_3 := hC_2.later hb; have HBJ : Hid (ba < lo ∨ hi ≤ ba) := Lib.hid (.inr (by have := hC_2.1; omega)); clear hC_2; clear hb hw hba hP_2 hT_2; skip)
            (try go_wp2_with fail)
            refine hK.out _ _ ?_ (fun hHeld => ?_)
            · (try dsimp only)
              first | assumption
            clear hK K
            (try simp only [Act.put, List.setIfInBounds_toArray, List.set_cons_zero, List.set_cons_succ])
            refine wpAnyH_ready (rs := [10]) (by kernel_rfl) (by simp) ?_
            refine AllReadyH.cons (o := { dst := none, op := Go.Op.store 52 (Go.Operand.tmp 13) (Go.Operand.tmp 71), type := 0, pos := "law.go:85", after := #[{ on := 9, ground := Go.Ground.data }, { on := 7, ground := Go.Ground.data }, { on := 5, ground := Go.Ground.chain }, { on := 0, ground := Go.Ground.phase }, { on := 1, ground := Go.Ground.phase }, { on := 2, ground := Go.Ground.phase }, { on := 3, ground := Go.Ground.phase }, { on := 4, ground := Go.Ground.phase }, { on := 5, ground := Go.Ground.phase }, { on := 6, ground := Go.Ground.phase }, { on := 7, ground := Go.Ground.phase }, { on := 8, ground := Go.Ground.textOnly Go.Departure.lateStores }, { on := 9, ground := Go.Ground.phase }], guard := none }) rfl (fun K hK => ?_) AllReadyH.nil
            (refine step_storeM rfl 52 (.tmp 13) (.tmp 71) rfl ba 0 #[.int .u8 (x : Int), .int .u32 (gen : Int), .slice ao al ac] rfl rfl (hA_3.there (Nat.le_refl 3)) info_share3 (one_share _ _ _ _ _ _ _) ?_; obtain ⟨V_4, hw⟩ : ∃ z, V_3.setCells ba 0 [.int .u8 (x : Int), .int .u32 (gen : Int), .slice ao al ac] = z := ⟨_, rfl⟩; have hO : Own ba V_3 V_4 := (by rw [← hw]; exact Own.setCells (b := ba) [.int .u8 (x : Int), .int .u32 (gen : Int), .slice ao al ac] 0 V_3); have hA_4 : Blk V_4 ba #[.int .u8 (x : Int), .int .u32 (gen : Int), .slice ao al ac] 52 := (by rw [← hw]; exact hA_3.whole3 rfl _ _ _); have hP_4 := hP_3.then_new hO HBA.out; have hT_4 := hT_3.own hO (Ne.symm hbt); rw [hw]; have hC_4 := hC_3.own hO HBJ.out; clear hC_3; clear hO hw hA_3 hP_3 hT_3; skip)
            refine hK.out _ _ ?_ (fun hHeld => ?_)
            · (try dsimp only)
              first | assumption
            clear hK K
            (try simp only [Act.put, List.setIfInBounds_toArray, List.set_cons_zero, List.set_cons_succ])
            refine wpAnyH_take (i := 11) (oi := { dst := some 14, op := Go.Op.assign (Go.Operand.tmp 72), type := 31, pos := "law.go:85", after := #[{ on := 8, ground := Go.Ground.data }, { on := 10, ground := Go.Ground.chain }, { on := 0, ground := Go.Ground.phase }, { on := 1, ground := Go.Ground.phase }, { on := 2, ground := Go.Ground.phase }, { on := 3, ground := Go.Ground.phase }, { on := 4, ground := Go.Ground.phase }, { on := 5, ground := Go.Ground.phase }, { on := 6, ground := Go.Ground.phase }, { on := 7, ground := Go.Ground.phase }, { on := 8, ground := Go.Ground.phase }, { on := 9, ground := Go.Ground.phase }, { on := 10, ground := Go.Ground.phase }], guard := none }) (v := ?_) rfl (by kernel_rfl) (by kernel_rfl) (by kernel_rfl) (fun _ _ _ h => h) (Or.inl ⟨by rfl, ?_⟩) (by assumption) ?_
            rotate_left
            · intro wS hSw
              (try dsimp only at hSw)
              go_simp
              (try with_reducible rfl)
            (try simp only [Act.put, List.setIfInBounds_toArray, List.set_cons_zero, List.set_cons_succ])
            refine wpAnyH_done (by kernel_rfl) ?_ _
            have HO6a := Lib.hid (HO5.out.trans hP_4)
            have HO35 := Lib.hid (HO45.out.trans hP_4)
            have HO55 := Lib.hid hP_4
            have HA5 := Lib.hid hA_4
            have HT6 := Lib.hid hT_4
            have HCA5 := Lib.hid hC_4
            have HRB := Lib.hid (HJB.out x tb cs oa V_4 HX8.out hT_4.lt (HSW.out _ HO6a.out))
            have HPZ := Lib.hid (HPX.out V_4 HO6a.out)
            have c0 : V_4.cell? ⟨b4, 0, none⟩ = some (.int .i64 K) := by rw [Blk.cell HPZ.out]; rfl
            have c1 : V_4.cell? ⟨b4, 1, none⟩ = some (.int .i64 N) := by rw [Blk.cell HPZ.out]; rfl
            have c2 : V_4.cell? ⟨b4, 2, none⟩ = some (.int .u32 (gen : Int)) := by rw [Blk.cell HPZ.out]; rfl
            clear hP_4 hA_4 hT_4 HO5 HO45 hz hC_4
            go_wp2_with fail
            refine HRB.out.mono ?_
            rintro e w6 ⟨bo, bl, bc, rfl, hC, hb⟩
            have HCB := Lib.hid hC
            have HO6 := Lib.hid (HO6a.out.then_fresh hb)
            have HO67 := Lib.hid (HO35.out.then_fresh hb)
            have HO57 := Lib.hid (HO55.out.then_fresh hb)
            have HA6 := Lib.hid (Blk.below HA5.out hb (Blk.lt HA5.out))
            have hT6 : TabIn w6 tb := HT6.out.below hb
            have hT_0 : TabIn w6.drew tb := hT6
            have hP_0 : Own tb w6 w6.drew := (Own.refl _ _).drew
            have HCA6 := Lib.hid (HCA5.out.later hb)
            clear hb hC c0 c1 c2 HRB HPZ HT6 hT6
            go_wp2_with fail
            refine wp_region_held_drew (S := (Own tb w6)) (by kernel_rfl) ?_ (fun hHeld => ?_)
            · (try dsimp only)
              first | assumption
            generalize w6.drew = W6 at *
            refine wpAnyH_take (i := 0) (oi := { dst := some 81, op := Go.Op.move (Go.Operand.tmp 0), type := 36, pos := "law.go:87", after := #[], guard := none }) (v := ?_) rfl (by kernel_rfl) (by kernel_rfl) (by kernel_rfl) (fun _ _ _ h => h) (Or.inl ⟨by rfl, ?_⟩) (by assumption) ?_
            rotate_left
            · intro wS hSw
              (try dsimp only at hSw)
              go_simp
              (try with_reducible rfl)
            (try simp only [Act.put, List.setIfInBounds_toArray, List.set_cons_zero, List.set_cons_succ])
            refine wpAnyH_take (i := 2) (oi := { dst := some 83, op := Go.Op.load 25 (Go.Operand.tmp 4), type := 25, pos := "law.go:87", after := #[], guard := none }) (v := ?_) rfl (by kernel_rfl) (by kernel_rfl) (by kernel_rfl) (fun _ _ _ h => h) (Or.inl ⟨by rfl, ?_⟩) (by assumption) ?_
            rotate_left
            · intro wS hSw
              refine exec_loadM (x := .tmp 4) (cs := [.int .i64 K, .int .i64 N, .int .u32 (gen : Int)]) ?_ ?_ ((HPX.out wS (HO6.out.trans hSw)).range0) Tryd.underlying25 rfl info_rplanJ <;> rfl
            (try simp only [Act.put, List.setIfInBounds_toArray, List.set_cons_zero, List.set_cons_succ])
            refine wpAnyH_ready (rs := [1]) (by kernel_rfl) (by simp) ?_
            refine AllReadyH.cons (o := { dst := some 82, op := Go.Op.call { callee := Go.Callee.value (Go.Operand.func 21), args := #[Go.Operand.tmp 81], argTypes := #[36] }, type := 29, pos := "law.go:87", after := #[{ on := 0, ground := Go.Ground.data }], guard := none }) rfl (fun K hK => ?_) AllReadyH.nil
            go_simp
            (refine (give_any tb n cs oa S W6 hT_0.lt (HSW.out _ (HO6.out.trans hP_0)) HN9.out).mono ?_; rintro e V_1 ⟨og, kg, rfl, hg1, hg2, hSh, hb⟩; have HSH := Lib.hid hSh; have HGK := Lib.hid (show n ≤ kg ∧ kg ≤ maxLen from ⟨hg1, hg2⟩); have hP_1 := hP_0.then_fresh hb; have hT_1 := hT_0.below hb; clear hb hSh hg1 hg2 hP_0 hT_0; skip)
            (try go_wp2_with fail)
            refine hK.out _ _ ?_ (fun hHeld => ?_)
            · (try dsimp only)
              first | assumption
            clear hK K
            (try simp only [Act.put, List.setIfInBounds_toArray, List.set_cons_zero, List.set_cons_succ])
            refine wpAnyH_ready (rs := [3]) (by kernel_rfl) (by simp) ?_
            refine AllReadyH.cons (o := { dst := some 84, op := Go.Op.call { callee := Go.Callee.value (Go.Operand.func 20), args := #[Go.Operand.const (Go.Value.pointer none), Go.Operand.tmp 82, Go.Operand.tmp 83], argTypes := #[34, 29, 28] }, type := 47, pos := "law.go:87", after := #[{ on := 1, ground := Go.Ground.data }, { on := 2, ground := Go.Ground.data }, { on := 1, ground := Go.Ground.chain }], guard := none }) rfl (fun K hK => ?_) AllReadyH.nil
            go_simp
            (refine (HCN.out kg og V_1).mono ?_; rintro e V_2 ⟨rfl, hb⟩; have hP_2 := hP_1.then_fresh hb; clear hb hP_1 hT_1 HSH HGK; skip)
            (try go_wp2_with fail)
            refine hK.out _ _ ?_ (fun hHeld => ?_)
            · (try dsimp only)
              first | assumption
            clear hK K
            (try simp only [Act.put, List.setIfInBounds_toArray, List.set_cons_zero, List.set_cons_succ])
            refine wpAnyH_take (i := 4) (oi := { dst := some 80, op := Go.Op.move (Go.Operand.tmp 84), type := 47, pos := "law.go:87", after := #[{ on := 3, ground := Go.Ground.data }], guard := none }) (v := ?_) rfl (by kernel_rfl) (by kernel_rfl) (by kernel_rfl) (fun _ _ _ h => h) (Or.inl ⟨by rfl, ?_⟩) (by assumption) ?_
            rotate_left
            · intro wS hSw
              (try dsimp only at hSw)
              go_simp
              (try with_reducible rfl)
            (try simp only [Act.put, List.setIfInBounds_toArray, List.set_cons_zero, List.set_cons_succ])
            refine wpAnyH_take (i := 5) (oi := { dst := some 85, op := Go.Op.extract (Go.Operand.tmp 80) 0, type := 22, pos := "law.go:87", after := #[{ on := 4, ground := Go.Ground.data }], guard := none }) (v := ?_) rfl (by kernel_rfl) (by kernel_rfl) (by kernel_rfl) (fun _ _ _ h => h) (Or.inl ⟨by rfl, ?_⟩) (by assumption) ?_
            rotate_left
            · intro wS hSw
              (try dsimp only at hSw)
              go_simp
              (try with_reducible rfl)
            (try simp only [Act.put, List.setIfInBounds_toArray, List.set_cons_zero, List.set_cons_succ])
            refine wpAnyH_take (i := 6) (oi := { dst := some 86, op := Go.Op.extract (Go.Operand.tmp 80) 1, type := 31, pos := "law.go:87", after := #[{ on := 4, ground := Go.Ground.data }, { on := 7, ground := Go.Ground.gcOnly Go.Departure.lateStores }], guard := none }) (v := ?_) rfl (by kernel_rfl) (by kernel_rfl) (by kernel_rfl) (fun _ _ _ h => h) (Or.inl ⟨by rfl, ?_⟩) (by assumption) ?_
            rotate_left
            · intro wS hSw
              (try dsimp only at hSw)
              go_simp
              (try with_reducible rfl)
            (try simp only [Act.put, List.setIfInBounds_toArray, List.set_cons_zero, List.set_cons_succ])
            refine wpAnyH_take (i := 7) (oi := { dst := some 17, op := Go.Op.assign (Go.Operand.tmp 85), type := 22, pos := "law.go:87", after := #[{ on := 5, ground := Go.Ground.data }, { on := 3, ground := Go.Ground.chain }, { on := 0, ground := Go.Ground.phase }, { on := 1, ground := Go.Ground.phase }, { on := 2, ground := Go.Ground.phase }, { on := 3, ground := Go.Ground.phase }, { on := 4, ground := Go.Ground.phase }, { on := 5, ground := Go.Ground.phase }, { on := 6, ground := Go.Ground.textOnly Go.Departure.lateStores }], guard := none }) (v := ?_) rfl (by kernel_rfl) (by kernel_rfl) (by kernel_rfl) (fun _ _ _ h => h) (Or.inl ⟨by rfl, ?_⟩) (by assumption) ?_
            rotate_left
            · intro wS hSw
              (try dsimp only at hSw)
              go_simp
              (try with_reducible rfl)
            (try simp only [Act.put, List.setIfInBounds_toArray, List.set_cons_zero, List.set_cons_succ])
            refine wpAnyH_take (i := 8) (oi := { dst := some 18, op := Go.Op.assign (Go.Operand.tmp 86), type := 31, pos := "law.go:87", after := #[{ on := 6, ground := Go.Ground.data }, { on := 7, ground := Go.Ground.chain }, { on := 0, ground := Go.Ground.phase }, { on := 1, ground := Go.Ground.phase }, { on := 2, ground := Go.Ground.phase }, { on := 3, ground := Go.Ground.phase }, { on := 4, ground := Go.Ground.phase }, { on := 5, ground := Go.Ground.phase }, { on := 6, ground := Go.Ground.phase }, { on := 7, ground := Go.Ground.phase }], guard := none }) (v := ?_) rfl (by kernel_rfl) (by kernel_rfl) (by kernel_rfl) (fun _ _ _ h => h) (Or.inl ⟨by rfl, ?_⟩) (by assumption) ?_
            rotate_left
            · intro wS hSw
              (try dsimp only at hSw)
              go_simp
              (try with_reducible rfl)
            (try simp only [Act.put, List.setIfInBounds_toArray, List.set_cons_zero, List.set_cons_succ])
            refine wpAnyH_done (by kernel_rfl) ?_ _
            have HO7 := Lib.hid (HO6.out.trans hP_2)
            have HA7 := Lib.hid (hP_2.blk HA6.out hbt)
            have HB7 := Lib.hid (HBL.out _ HO7.out)
            have hv1 := HCS.out V_2 (HO67.out.trans hP_2)
            have hv2 := HCO.out V_2 (HO57.out.trans hP_2)
            have HV3 := Lib.hid (HCB.out.own hP_2)
            have HV4 := Lib.hid (HCA6.out.own hP_2 (.inl HLO.out.2.2))
            clear hP_2
            go_wp2_with fail
            refine (num_errj HEV.out V_2 (HG.out.below HB7.out HG.out.2)).mono ?_
            rintro e w8 ⟨rfl, hb⟩
            have HB8 := Lib.hid (HB7.out.trans (hb.mono HB7.out.size))
            have HX8b := Lib.hid hb
            clear hb hv1 hv2
            go_wp2_with fail
            refine (num_err03 1 w8 (HG.out.below HB8.out HG.out.2)).mono ?_
            rintro e w9 ⟨rfl, hb⟩
            have HB9 := Lib.hid (HB8.out.trans (hb.mono HB8.out.size))
            have HW9 : Hid (Below V_2.heap.size V_2 w9) := Lib.hid (HX8b.out.trans (hb.mono HX8b.out.size))
            have HA9 := Lib.hid (Blk.below HA7.out HW9.out (Blk.lt HA7.out))
            have HP9 := Lib.hid (HPX.out w9 (HO7.out.then_fresh HW9.out))
            have c1 : w9.cell? ⟨b4, 1, none⟩ = some (.int .i64 N) := by rw [Blk.cell HP9.out]; rfl
            clear hb
            go_wp2_with fail
            refine (num_nil03 w9).mono ?_
            rintro e w10 ⟨rfl, hb⟩
            have HB10 := Lib.hid (HB9.out.trans (hb.mono HB9.out.size))
            have HA10 := Lib.hid (Blk.below HA9.out hb (Blk.lt HA9.out))
            have HP10 := Lib.hid (Blk.below HP9.out hb (Blk.lt HP9.out))
            have HW10 : Hid (Below V_2.heap.size V_2 w10) := Lib.hid (HW9.out.trans (hb.mono HW9.out.size))
            have a0 := Blk.cell HA10.out 0
            have a1 := Blk.cell HA10.out 1
            have a2 := Blk.cell HA10.out 2
            have c2 : w10.cell? ⟨b4, 2, none⟩ = some (.int .u32 (gen : Int)) := by rw [Blk.cell HP10.out]; rfl
            have hv3 := HV3.out w10 (Own.of_below HW10.out)
            have hv4 := (HV4.out.later HW10.out).get
            have HSU := Lib.hid (sure03 w10 (HG.out.below HB10.out HG.out.2))
            simp at a0 a1 a2
            clear hb
            go_wp2_with fail
            refine HSU.out.mono ?_
            rintro e w11 ⟨rfl, hb⟩
            have HBE := Lib.hid (HB10.out.trans (hb.mono HB10.out.size))
            clear hb
            go_wp2_with fail
            go_ret
            exact ⟨rfl, HBE.out⟩
          refine AllReadyH.cons (o := { dst := some 13, op := Go.Op.alloc 52, type := 0, pos := "law.go:85", after := #[], guard := none }) rfl (fun K hK => ?_) AllReadyH.nil
          go_simp
          (obtain ⟨ba, hba⟩ : ∃ z, V_1.heap.size = z := ⟨_, rfl⟩; obtain ⟨V_2, hw⟩ : ∃ z, V_1.alloc (.cells #[.int .u8 0, .int .u32 0, .slice none 0 0] 52) = z := ⟨_, rfl⟩; rw [hw, hba]; have hb : Below V_1.heap.size V_1 V_2 := (by rw [← hw]; exact (Below.refl _ _).alloc (Nat.le_refl _) _); have hA_2 : Blk V_2 ba #[.int .u8 0, .int .u32 0, .slice none 0 0] 52 := (by rw [← hw, ← hba]; exact Blk.new _ _ _); have hbt : ba ≠ tb := (by have := hT_1.lt; omega); have HBA : Hid (w5.heap.size ≤ ba) := Lib.hid (by rw [← hba]; exact hP_1.size); have hP_2 := hP_1.then_fresh hb; have hT_2 := hT_1.below hb; replace HSH := Lib.hid (HSH.out.later hb); clear hb hw hba hP_1 hT_1; skip)
          (try go_wp2_with fail)
          refine hK.out _ _ ?_ (fun hHeld => ?_)
          · (try dsimp only)
            first | assumption
          clear hK K
          (try simp only [Act.put, List.setIfInBounds_toArray, List.set_cons_zero, List.set_cons_succ])
          refine wpAnyH_ready (rs := [5]) (by kernel_rfl) (by simp) ?_
          refine AllReadyH.cons (o := { dst := some 70, op := Go.Op.call { callee := Go.Callee.value (Go.Operand.func 23), args := #[Go.Operand.tmp 65, Go.Operand.tmp 67, Go.Operand.tmp 68, Go.Operand.tmp 69], argTypes := #[34, 29, 28, 5] }, type := 53, pos := "law.go:85", after := #[{ on := 0, ground := Go.Ground.data }, { on := 2, ground := Go.Ground.data }, { on := 3, ground := Go.Ground.data }, { on := 4, ground := Go.Ground.data }, { on := 2, ground := Go.Ground.chain }], guard := none }) rfl (fun K hK => ?_) AllReadyH.nil
          go_simp
          (refine (HJC.out x tb kg og V_2 HXR.out.1 HXR.out.2 HX8.out hT_2 HSH.out HGK.out.1 HGK.out.2).mono ?_; rintro e V_3 ⟨ao, al, ac, hr, hC, hL⟩; obtain rfl := (hr.resolve_right (fun h => h.1 rfl)).2; obtain ⟨lo, hlo⟩ : ∃ z, V_2.heap.size = z := ⟨_, rfl⟩; obtain ⟨hi, hhi⟩ : ∃ z, V_3.heap.size = z := ⟨_, rfl⟩; rw [hlo, hhi] at hC; have hC_3 := hC; have HLO := Lib.hid (show V_2.heap.size = lo ∧ V_3.heap.size = hi ∧ tb < lo from ⟨hlo, hhi, by have := hT_2.lt; omega⟩); have HBJ : Hid (ba < lo ∨ hi ≤ ba) := Lib.hid (.inl (by have := Blk.lt hA_2; omega)); have hP_3 := hP_2.trans hL.2; have hT_3 := hL.1; have hA_3 := hL.2.blk hA_2 hbt; clear hA_2; clear hr hC hL hlo hhi hP_2 hT_2 HSH HGK; skip)
          (try go_wp2_with fail)
          refine hK.out _ _ ?_ (fun hHeld => ?_)
          · (try dsimp only)
            first | assumption
          clear hK K
          (try simp only [Act.put, List.setIfInBounds_toArray, List.set_cons_zero, List.set_cons_succ])
          refine wpAnyH_take (i := 6) (oi := { dst := some 64, op := Go.Op.move (Go.Operand.tmp 70), type := 53, pos := "law.go:85", after := #[{ on := 5, ground := Go.Ground.data }], guard := none }) (v := ?_) rfl (by kernel_rfl) (by kernel_rfl) (by kernel_rfl) (fun _ _ _ h => h) (Or.inl ⟨by rfl, ?_⟩) (by assumption) ?_
          rotate_left
          · intro wS hSw
            (try dsimp only at hSw)
            go_simp
            (try with_reducible rfl)
          (try simp only [Act.put, List.setIfInBounds_toArray, List.set_cons_zero, List.set_cons_succ])
          refine wpAnyH_take (i := 7) (oi := { dst := some 71, op := Go.Op.extract (Go.Operand.tmp 64) 0, type := 52, pos := "law.go:85", after := #[{ on := 6, ground := Go.Ground.data }], guard := none }) (v := ?_) rfl (by kernel_rfl) (by kernel_rfl) (by kernel_rfl) (fun _ _ _ h => h) (Or.inl ⟨by rfl, ?_⟩) (by assumption) ?_
          rotate_left
          · intro wS hSw
            (try dsimp only at hSw)
            go_simp
            (try with_reducible rfl)
          (try simp only [Act.put, List.setIfInBounds_toArray, List.set_cons_zero, List.set_cons_succ])
          refine wpAnyH_take (i := 8) (oi := { dst := some 72, op := Go.Op.extract (Go.Operand.tmp 64) 1, type := 31, pos := "law.go:85", after := #[{ on := 6, ground := Go.Ground.data }, { on := 10, ground := Go.Ground.gcOnly Go.Departure.lateStores }], guard := none }) (v := ?_) rfl (by kernel_rfl) (by kernel_rfl) (by kernel_rfl) (fun _ _ _ h => h) (Or.inl ⟨by rfl, ?_⟩) (by assumption) ?_
          rotate_left
          · intro wS hSw
            (try dsimp only at hSw)
            go_simp
            (try with_reducible rfl)
          (try simp only [Act.put, List.setIfInBounds_toArray, List.set_cons_zero, List.set_cons_succ])
          refine wpAnyH_ready (rs := [10]) (by kernel_rfl) (by simp) ?_
          refine AllReadyH.cons (o := { dst := none, op := Go.Op.store 52 (Go.Operand.tmp 13) (Go.Operand.tmp 71), type := 0, pos := "law.go:85", after := #[{ on := 9, ground := Go.Ground.data }, { on := 7, ground := Go.Ground.data }, { on := 5, ground := Go.Ground.chain }, { on := 0, ground := Go.Ground.phase }, { on := 1, ground := Go.Ground.phase }, { on := 2, ground := Go.Ground.phase }, { on := 3, ground := Go.Ground.phase }, { on := 4, ground := Go.Ground.phase }, { on := 5, ground := Go.Ground.phase }, { on := 6, ground := Go.Ground.phase }, { on := 7, ground := Go.Ground.phase }, { on := 8, ground := Go.Ground.textOnly Go.Departure.lateStores }, { on := 9, ground := Go.Ground.phase }], guard := none }) rfl (fun K hK => ?_) AllReadyH.nil
          (refine step_storeM rfl 52 (.tmp 13) (.tmp 71) rfl ba 0 #[.int .u8 (x : Int), .int .u32 (gen : Int), .slice ao al ac] rfl rfl (hA_3.there (Nat.le_refl 3)) info_share3 (one_share _ _ _ _ _ _ _) ?_; obtain ⟨V_4, hw⟩ : ∃ z, V_3.setCells ba 0 [.int .u8 (x : Int), .int .u32 (gen : Int), .slice ao al ac] = z := ⟨_, rfl⟩; have hO : Own ba V_3 V_4 := (by rw [← hw]; exact Own.setCells (b := ba) [.int .u8 (x : Int), .int .u32 (gen : Int), .slice ao al ac] 0 V_3); have hA_4 : Blk V_4 ba #[.int .u8 (x : Int), .int .u32 (gen : Int), .slice ao al ac] 52 := (by rw [← hw]; exact hA_3.whole3 rfl _ _ _); have hP_4 := hP_3.then_new hO HBA.out; have hT_4 := hT_3.own hO (Ne.symm hbt); rw [hw]; have hC_4 := hC_3.own hO HBJ.out; clear hC_3; clear hO hw hA_3 hP_3 hT_3; skip)
          refine hK.out _ _ ?_ (fun hHeld => ?_)
          · (try dsimp only)
            first | assumption
          clear hK K
          (try simp only [Act.put, List.setIfInBounds_toArray, List.set_cons_zero, List.set_cons_succ])
          refine wpAnyH_take (i := 11) (oi := { dst := some 14, op := Go.Op.assign (Go.Operand.tmp 72), type := 31, pos := "law.go:85", after := #[{ on := 8, ground := Go.Ground.data }, { on := 10, ground := Go.Ground.chain }, { on := 0, ground := Go.Ground.phase }, { on := 1, ground := Go.Ground.phase }, { on := 2, ground := Go.Ground.phase }, { on := 3, ground := Go.Ground.phase }, { on := 4, ground := Go.Ground.phase }, { on := 5, ground := Go.Ground.phase }, { on := 6, ground := Go.Ground.phase }, { on := 7, ground := Go.Ground.phase }, { on := 8, ground := Go.Ground.phase }, { on := 9, ground := Go.Ground.phase }, { on := 10, ground := Go.Ground.phase }], guard := none }) (v := ?_) rfl (by kernel_rfl) (by kernel_rfl) (by kernel_rfl) (fun _ _ _ h => h) (Or.inl ⟨by rfl, ?_⟩) (by assumption) ?_
          rotate_left
          · intro wS hSw
            (try dsimp only at hSw)
            go_simp
            (try with_reducible rfl)
          (try simp only [Act.put, List.setIfInBounds_toArray, List.set_cons_zero, List.set_cons_succ])
          refine wpAnyH_done (by kernel_rfl) ?_ _
          have HO6a := Lib.hid (HO5.out.trans hP_4)
          have HO35 := Lib.hid (HO45.out.trans hP_4)
          have HO55 := Lib.hid hP_4
          have HA5 := Lib.hid hA_4
          have HT6 := Lib.hid hT_4
          have HCA5 := Lib.hid hC_4
          have HRB := Lib.hid (HJB.out x tb cs oa V_4 HX8.out hT_4.lt (HSW.out _ HO6a.out))
          have HPZ := Lib.hid (HPX.out V_4 HO6a.out)
          have c0 : V_4.cell? ⟨b4, 0, none⟩ = some (.int .i64 K) := by rw [Blk.cell HPZ.out]; rfl
          have c1 : V_4.cell? ⟨b4, 1, none⟩ = some (.int .i64 N) := by rw [Blk.cell HPZ.out]; rfl
          have c2 : V_4.cell? ⟨b4, 2, none⟩ = some (.int .u32 (gen : Int)) := by rw [Blk.cell HPZ.out]; rfl
          clear hP_4 hA_4 hT_4 HO5 HO45 hz hC_4
          go_wp2_with fail
          refine HRB.out.mono ?_
          rintro e w6 ⟨bo, bl, bc, rfl, hC, hb⟩
          have HCB := Lib.hid hC
          have HO6 := Lib.hid (HO6a.out.then_fresh hb)
          have HO67 := Lib.hid (HO35.out.then_fresh hb)
          have HO57 := Lib.hid (HO55.out.then_fresh hb)
          have HA6 := Lib.hid (Blk.below HA5.out hb (Blk.lt HA5.out))
          have hT6 : TabIn w6 tb := HT6.out.below hb
          have hT_0 : TabIn w6.drew tb := hT6
          have hP_0 : Own tb w6 w6.drew := (Own.refl _ _).drew
          have HCA6 := Lib.hid (HCA5.out.later hb)
          clear hb hC c0 c1 c2 HRB HPZ HT6 hT6
          go_wp2_with fail
          refine wp_region_held_drew (S := (Own tb w6)) (by kernel_rfl) ?_ (fun hHeld => ?_)
          · (try dsimp only)
            first | assumption
          generalize w6.drew = W6 at *
          refine wpAnyH_take (i := 0) (oi := { dst := some 81, op := Go.Op.move (Go.Operand.tmp 0), type := 36, pos := "law.go:87", after := #[], guard := none }) (v := ?_) rfl (by kernel_rfl) (by kernel_rfl) (by kernel_rfl) (fun _ _ _ h => h) (Or.inl ⟨by rfl, ?_⟩) (by assumption) ?_
          rotate_left
          · intro wS hSw
            (try dsimp only at hSw)
            go_simp
            (try with_reducible rfl)
          (try simp only [Act.put, List.setIfInBounds_toArray, List.set_cons_zero, List.set_cons_succ])
          refine wpAnyH_take (i := 2) (oi := { dst := some 83, op := Go.Op.load 25 (Go.Operand.tmp 4), type := 25, pos := "law.go:87", after := #[], guard := none }) (v := ?_) rfl (by kernel_rfl) (by kernel_rfl) (by kernel_rfl) (fun _ _ _ h => h) (Or.inl ⟨by rfl, ?_⟩) (by assumption) ?_
          rotate_left
          · intro wS hSw
            refine exec_loadM (x := .tmp 4) (cs := [.int .i64 K, .int .i64 N, .int .u32 (gen : Int)]) ?_ ?_ ((HPX.out wS (HO6.out.trans hSw)).range0) Tryd.underlying25 rfl info_rplanJ <;> rfl
          (try simp only [Act.put, List.setIfInBounds_toArray, List.set_cons_zero, List.set_cons_succ])
          refine wpAnyH_ready (rs := [1]) (by kernel_rfl) (by simp) ?_
          refine AllReadyH.cons (o := { dst := some 82, op := Go.Op.call { callee := Go.Callee.value (Go.Operand.func 21), args := #[Go.Operand.tmp 81], argTypes := #[36] }, type := 29, pos := "law.go:87", after := #[{ on := 0, ground := Go.Ground.data }], guard := none }) rfl (fun K hK => ?_) AllReadyH.nil
          go_simp
          (refine (give_any tb n cs oa S W6 hT_0.lt (HSW.out _ (HO6.out.trans hP_0)) HN9.out).mono ?_; rintro e V_1 ⟨og, kg, rfl, hg1, hg2, hSh, hb⟩; have HSH := Lib.hid hSh; have HGK := Lib.hid (show n ≤ kg ∧ kg ≤ maxLen from ⟨hg1, hg2⟩); have hP_1 := hP_0.then_fresh hb; have hT_1 := hT_0.below hb; clear hb hSh hg1 hg2 hP_0 hT_0; skip)
          (try go_wp2_with fail)
          refine hK.out _ _ ?_ (fun hHeld => ?_)
          · (try dsimp only)
            first | assumption
          clear hK K
          (try simp only [Act.put, List.setIfInBounds_toArray, List.set_cons_zero, List.set_cons_succ])
          refine wpAnyH_ready (rs := [3]) (by kernel_rfl) (by simp) ?_
          refine AllReadyH.cons (o := { dst := some 84, op := Go.Op.call { callee := Go.Callee.value (Go.Operand.func 20), args := #[Go.Operand.const (Go.Value.pointer none), Go.Operand.tmp 82, Go.Operand.tmp 83], argTypes := #[34, 29, 28] }, type := 47, pos := "law.go:87", after := #[{ on := 1, ground := Go.Ground.data }, { on := 2, ground := Go.Ground.data }, { on := 1, ground := Go.Ground.chain }], guard := none }) rfl (fun K hK => ?_) AllReadyH.nil
          go_simp
          (refine (HCN.out kg og V_1).mono ?_; rintro e V_2 ⟨rfl, hb⟩; have hP_2 := hP_1.then_fresh hb; clear hb hP_1 hT_1 HSH HGK; skip)
          (try go_wp2_with fail)
          refine hK.out _ _ ?_ (fun hHeld => ?_)
          · (try dsimp only)
            first | assumption
          clear hK K
          (try simp only [Act.put, List.setIfInBounds_toArray, List.set_cons_zero, List.set_cons_succ])
          refine wpAnyH_take (i := 4) (oi := { dst := some 80, op := Go.Op.move (Go.Operand.tmp 84), type := 47, pos := "law.go:87", after := #[{ on := 3, ground := Go.Ground.data }], guard := none }) (v := ?_) rfl (by kernel_rfl) (by kernel_rfl) (by kernel_rfl) (fun _ _ _ h => h) (Or.inl ⟨by rfl, ?_⟩) (by assumption) ?_
          rotate_left
          · intro wS hSw
            (try dsimp only at hSw)
            go_simp
            (try with_reducible rfl)
          (try simp only [Act.put, List.setIfInBounds_toArray, List.set_cons_zero, List.set_cons_succ])
          refine wpAnyH_take (i := 5) (oi := { dst := some 85, op := Go.Op.extract (Go.Operand.tmp 80) 0, type := 22, pos := "law.go:87", after := #[{ on := 4, ground := Go.Ground.data }], guard := none }) (v := ?_) rfl (by kernel_rfl) (by kernel_rfl) (by kernel_rfl) (fun _ _ _ h => h) (Or.inl ⟨by rfl, ?_⟩) (by assumption) ?_
          rotate_left
          · intro wS hSw
            (try dsimp only at hSw)
            go_simp
            (try with_reducible rfl)
          (try simp only [Act.put, List.setIfInBounds_toArray, List.set_cons_zero, List.set_cons_succ])
          refine wpAnyH_take (i := 6) (oi := { dst := some 86, op := Go.Op.extract (Go.Operand.tmp 80) 1, type := 31, pos := "law.go:87", after := #[{ on := 4, ground := Go.Ground.data }, { on := 7, ground := Go.Ground.gcOnly Go.Departure.lateStores }], guard := none }) (v := ?_) rfl (by kernel_rfl) (by kernel_rfl) (by kernel_rfl) (fun _ _ _ h => h) (Or.inl ⟨by rfl, ?_⟩) (by assumption) ?_
          rotate_left
          · intro wS hSw
            (try dsimp only at hSw)
            go_simp
            (try with_reducible rfl)
          (try simp only [Act.put, List.setIfInBounds_toArray, List.set_cons_zero, List.set_cons_succ])
          refine wpAnyH_take (i := 7) (oi := { dst := some 17, op := Go.Op.assign (Go.Operand.tmp 85), type := 22, pos := "law.go:87", after := #[{ on := 5, ground := Go.Ground.data }, { on := 3, ground := Go.Ground.chain }, { on := 0, ground := Go.Ground.phase }, { on := 1, ground := Go.Ground.phase }, { on := 2, ground := Go.Ground.phase }, { on := 3, ground := Go.Ground.phase }, { on := 4, ground := Go.Ground.phase }, { on := 5, ground := Go.Ground.phase }, { on := 6, ground := Go.Ground.textOnly Go.Departure.lateStores }], guard := none }) (v := ?_) rfl (by kernel_rfl) (by kernel_rfl) (by kernel_rfl) (fun _ _ _ h => h) (Or.inl ⟨by rfl, ?_⟩) (by assumption) ?_
          rotate_left
          · intro wS hSw
            (try dsimp only at hSw)
            go_simp
            (try with_reducible rfl)
          (try simp only [Act.put, List.setIfInBounds_toArray, List.set_cons_zero, List.set_cons_succ])
          refine wpAnyH_take (i := 8) (oi := { dst := some 18, op := Go.Op.assign (Go.Operand.tmp 86), type := 31, pos := "law.go:87", after := #[{ on := 6, ground := Go.Ground.data }, { on := 7, ground := Go.Ground.chain }, { on := 0, ground := Go.Ground.phase }, { on := 1, ground := Go.Ground.phase }, { on := 2, ground := Go.Ground.phase }, { on := 3, ground := Go.Ground.phase }, { on := 4, ground := Go.Ground.phase }, { on := 5, ground := Go.Ground.phase }, { on := 6, ground := Go.Ground.phase }, { on := 7, ground := Go.Ground.phase }], guard := none }) (v := ?_) rfl (by kernel_rfl) (by kernel_rfl) (by kernel_rfl) (fun _ _ _ h => h) (Or.inl ⟨by rfl, ?_⟩) (by assumption) ?_
          rotate_left
          · intro wS hSw
            (try dsimp only at hSw)
            go_simp
            (try with_reducible rfl)
          (try simp only [Act.put, List.setIfInBounds_toArray, List.set_cons_zero, List.set_cons_succ])
          refine wpAnyH_done (by kernel_rfl) ?_ _
          have HO7 := Lib.hid (HO6.out.trans hP_2)
          have HA7 := Lib.hid (hP_2.blk HA6.out hbt)
          have HB7 := Lib.hid (HBL.out _ HO7.out)
          have hv1 := HCS.out V_2 (HO67.out.trans hP_2)
          have hv2 := HCO.out V_2 (HO57.out.trans hP_2)
          have HV3 := Lib.hid (HCB.out.own hP_2)
          have HV4 := Lib.hid (HCA6.out.own hP_2 (.inl HLO.out.2.2))
          clear hP_2
          go_wp2_with fail
          refine (num_errj HEV.out V_2 (HG.out.below HB7.out HG.out.2)).mono ?_
          rintro e w8 ⟨rfl, hb⟩
          have HB8 := Lib.hid (HB7.out.trans (hb.mono HB7.out.size))
          have HX8b := Lib.hid hb
          clear hb hv1 hv2
          go_wp2_with fail
          refine (num_err03 1 w8 (HG.out.below HB8.out HG.out.2)).mono ?_
          rintro e w9 ⟨rfl, hb⟩
          have HB9 := Lib.hid (HB8.out.trans (hb.mono HB8.out.size))
          have HW9 : Hid (Below V_2.heap.size V_2 w9) := Lib.hid (HX8b.out.trans (hb.mono HX8b.out.size))
          have HA9 := Lib.hid (Blk.below HA7.out HW9.out (Blk.lt HA7.out))
          have HP9 := Lib.hid (HPX.out w9 (HO7.out.then_fresh HW9.out))
          have c1 : w9.cell? ⟨b4, 1, none⟩ = some (.int .i64 N) := by rw [Blk.cell HP9.out]; rfl
          clear hb
          go_wp2_with fail
          refine (num_nil03 w9).mono ?_
          rintro e w10 ⟨rfl, hb⟩
          have HB10 := Lib.hid (HB9.out.trans (hb.mono HB9.out.size))
          have HA10 := Lib.hid (Blk.below HA9.out hb (Blk.lt HA9.out))
          have HP10 := Lib.hid (Blk.below HP9.out hb (Blk.lt HP9.out))
          have HW10 : Hid (Below V_2.heap.size V_2 w10) := Lib.hid (HW9.out.trans (hb.mono HW9.out.size))
          have a0 := Blk.cell HA10.out 0
          have a1 := Blk.cell HA10.out 1
          have a2 := Blk.cell HA10.out 2
          have c2 : w10.cell? ⟨b4, 2, none⟩ = some (.int .u32 (gen : Int)) := by rw [Blk.cell HP10.out]; rfl
          have hv3 := HV3.out w10 (Own.of_below HW10.out)
          have hv4 := (HV4.out.later HW10.out).get
          have HSU := Lib.hid (sure03 w10 (HG.out.below HB10.out HG.out.2))
          simp at a0 a1 a2
          clear hb
          go_wp2_with fail
          refine HSU.out.mono ?_
          rintro e w11 ⟨rfl, hb⟩
          have HBE := Lib.hid (HB10.out.trans (hb.mono HB10.out.size))
          clear hb
          go_wp2_with fail
          go_ret
          exact ⟨rfl, HBE.out⟩
        refine AllReadyH.cons (o := { dst := some 13, op := Go.Op.alloc 52, type := 0, pos := "law.go:85", after := #[], guard := none }) rfl (fun K hK => ?_) AllReadyH.nil
        go_simp
        (obtain ⟨ba, hba⟩ : ∃ z, W5.heap.size = z := ⟨_, rfl⟩; obtain ⟨V_1, hw⟩ : ∃ z, W5.alloc (.cells #[.int .u8 0, .int .u32 0, .slice none 0 0] 52) = z := ⟨_, rfl⟩; rw [hw, hba]; have hb : Below W5.heap.size W5 V_1 := (by rw [← hw]; exact (Below.refl _ _).alloc (Nat.le_refl _) _); have hA_1 : Blk V_1 ba #[.int .u8 0, .int .u32 0, .slice none 0 0] 52 := (by rw [← hw, ← hba]; exact Blk.new _ _ _); have hbt : ba ≠ tb := (by have := hT_0.lt; omega); have HBA : Hid (w5.heap.size ≤ ba) := Lib.hid (by rw [← hba]; exact hP_0.size); have hP_1 := hP_0.then_fresh hb; have hT_1 := hT_0.below hb; clear hb hw hba hP_0 hT_0; skip)
        (try go_wp2_with fail)
        refine hK.out _ _ ?_ (fun hHeld => ?_)
        · (try dsimp only)
          first | assumption
        clear hK K
        (try simp only [Act.put, List.setIfInBounds_toArray, List.set_cons_zero, List.set_cons_succ])
        refine wpAnyH_ready (rs := [2]) (by kernel_rfl) (by simp) ?_
        refine AllReadyH.cons (o := { dst := some 67, op := Go.Op.call { callee := Go.Callee.value (Go.Operand.func 21), args := #[Go.Operand.tmp 66], argTypes := #[36] }, type := 29, pos := "law.go:85", after := #[{ on := 1, ground := Go.Ground.data }], guard := none }) rfl (fun K hK => ?_) AllReadyH.nil
        go_simp
        (refine (give_any tb n cs oa S V_1 hT_1.lt (HSW.out _ (HO5.out.trans hP_1)) HN9.out).mono ?_; rintro e V_2 ⟨og, kg, rfl, hg1, hg2, hSh, hb⟩; have HSH := Lib.hid hSh; have HGK := Lib.hid (show n ≤ kg ∧ kg ≤ maxLen from ⟨hg1, hg2⟩); have hP_2 := hP_1.then_fresh hb; have hT_2 := hT_1.below hb; have hA_2 := Blk.below hA_1 hb (Blk.lt hA_1); clear hA_1; clear hb hSh hg1 hg2 hP_1 hT_1; skip)
        (try go_wp2_with fail)
        refine hK.out _ _ ?_ (fun hHeld => ?_)
        · (try dsimp only)
          first | assumption
        clear hK K
        (try simp only [Act.put, List.setIfInBounds_toArray, List.set_cons_zero, List.set_cons_succ])
        refine wpAnyH_ready (rs := [5]) (by kernel_rfl) (by simp) ?_
        refine AllReadyH.cons (o := { dst := some 70, op := Go.Op.call { callee := Go.Callee.value (Go.Operand.func 23), args := #[Go.Operand.tmp 65, Go.Operand.tmp 67, Go.Operand.tmp 68, Go.Operand.tmp 69], argTypes := #[34, 29, 28, 5] }, type := 53, pos := "law.go:85", after := #[{ on := 0, ground := Go.Ground.data }, { on := 2, ground := Go.Ground.data }, { on := 3, ground := Go.Ground.data }, { on := 4, ground := Go.Ground.data }, { on := 2, ground := Go.Ground.chain }], guard := none }) rfl (fun K hK => ?_) AllReadyH.nil
        go_simp
        (refine (HJC.out x tb kg og V_2 HXR.out.1 HXR.out.2 HX8.out hT_2 HSH.out HGK.out.1 HGK.out.2).mono ?_; rintro e V_3 ⟨ao, al, ac, hr, hC, hL⟩; obtain rfl := (hr.resolve_right (fun h => h.1 rfl)).2; obtain ⟨lo, hlo⟩ : ∃ z, V_2.heap.size = z := ⟨_, rfl⟩; obtain ⟨hi, hhi⟩ : ∃ z, V_3.heap.size = z := ⟨_, rfl⟩; rw [hlo, hhi] at hC; have hC_3 := hC; have HLO := Lib.hid (show V_2.heap.size = lo ∧ V_3.heap.size = hi ∧ tb < lo from ⟨hlo, hhi, by have := hT_2.lt; omega⟩); have HBJ : Hid (ba < lo ∨ hi ≤ ba) := Lib.hid (.inl (by have := Blk.lt hA_2; omega)); have hP_3 := hP_2.trans hL.2; have hT_3 := hL.1; have hA_3 := hL.2.blk hA_2 hbt; clear hA_2; clear hr hC hL hlo hhi hP_2 hT_2 HSH HGK; skip)
        (try go_wp2_with fail)
        refine hK.out _ _ ?_ (fun hHeld => ?_)
        · (try dsimp only)
          first | assumption
        clear hK K
        (try simp only [Act.put, List.setIfInBounds_toArray, List.set_cons_zero, List.set_cons_succ])
        refine wpAnyH_take (i := 6) (oi := { dst := some 64, op := Go.Op.move (Go.Operand.tmp 70), type := 53, pos := "law.go:85", after := #[{ on := 5, ground := Go.Ground.data }], guard := none }) (v := ?_) rfl (by kernel_rfl) (by kernel_rfl) (by kernel_rfl) (fun _ _ _ h => h) (Or.inl ⟨by rfl, ?_⟩) (by assumption) ?_
        rotate_left
        · intro wS hSw
          (try dsimp only at hSw)
          go_simp
          (try with_reducible rfl)
        (try simp only [Act.put, List.setIfInBounds_toArray, List.set_cons_zero, List.set_cons_succ])
        refine wpAnyH_take (i := 7) (oi := { dst := some 71, op := Go.Op.extract (Go.Operand.tmp 64) 0, type := 52, pos := "law.go:85", after := #[{ on := 6, ground := Go.Ground.data }], guard := none }) (v := ?_) rfl (by kernel_rfl) (by kernel_rfl) (by kernel_rfl) (fun _ _ _ h => h) (Or.inl ⟨by rfl, ?_⟩) (by assumption) ?_
        rotate_left
        · intro wS hSw
          (try dsimp only at hSw)
          go_simp
          (try with_reducible rfl)
        (try simp only [Act.put, List.setIfInBounds_toArray, List.set_cons_zero, List.set_cons_succ])
        refine wpAnyH_take (i := 8) (oi := { dst := some 72, op := Go.Op.extract (Go.Operand.tmp 64) 1, type := 31, pos := "law.go:85", after := #[{ on := 6, ground := Go.Ground.data }, { on := 10, ground := Go.Ground.gcOnly Go.Departure.lateStores }], guard := none }) (v := ?_) rfl (by kernel_rfl) (by kernel_rfl) (by kernel_rfl) (fun _ _ _ h => h) (Or.inl ⟨by rfl, ?_⟩) (by assumption) ?_
        rotate_left
        · intro wS hSw
          (try dsimp only at hSw)
          go_simp
          (try with_reducible rfl)
        (try simp only [Act.put, List.setIfInBounds_toArray, List.set_cons_zero, List.set_cons_succ])
        refine wpAnyH_ready (rs := [10]) (by kernel_rfl) (by simp) ?_
        refine AllReadyH.cons (o := { dst := none, op := Go.Op.store 52 (Go.Operand.tmp 13) (Go.Operand.tmp 71), type := 0, pos := "law.go:85", after := #[{ on := 9, ground := Go.Ground.data }, { on := 7, ground := Go.Ground.data }, { on := 5, ground := Go.Ground.chain }, { on := 0, ground := Go.Ground.phase }, { on := 1, ground := Go.Ground.phase }, { on := 2, ground := Go.Ground.phase }, { on := 3, ground := Go.Ground.phase }, { on := 4, ground := Go.Ground.phase }, { on := 5, ground := Go.Ground.phase }, { on := 6, ground := Go.Ground.phase }, { on := 7, ground := Go.Ground.phase }, { on := 8, ground := Go.Ground.textOnly Go.Departure.lateStores }, { on := 9, ground := Go.Ground.phase }], guard := none }) rfl (fun K hK => ?_) AllReadyH.nil
        (refine step_storeM rfl 52 (.tmp 13) (.tmp 71) rfl ba 0 #[.int .u8 (x : Int), .int .u32 (gen : Int), .slice ao al ac] rfl rfl (hA_3.there (Nat.le_refl 3)) info_share3 (one_share _ _ _ _ _ _ _) ?_; obtain ⟨V_4, hw⟩ : ∃ z, V_3.setCells ba 0 [.int .u8 (x : Int), .int .u32 (gen : Int), .slice ao al ac] = z := ⟨_, rfl⟩; have hO : Own ba V_3 V_4 := (by rw [← hw]; exact Own.setCells (b := ba) [.int .u8 (x : Int), .int .u32 (gen : Int), .slice ao al ac] 0 V_3); have hA_4 : Blk V_4 ba #[.int .u8 (x : Int), .int .u32 (gen : Int), .slice ao al ac] 52 := (by rw [← hw]; exact hA_3.whole3 rfl _ _ _); have hP_4 := hP_3.then_new hO HBA.out; have hT_4 := hT_3.own hO (Ne.symm hbt); rw [hw]; have hC_4 := hC_3.own hO HBJ.out; clear hC_3; clear hO hw hA_3 hP_3 hT_3; skip)
        refine hK.out _ _ ?_ (fun hHeld => ?_)
        · (try dsimp only)
          first | assumption
        clear hK K
        (try simp only [Act.put, List.setIfInBounds_toArray, List.set_cons_zero, List.set_cons_succ])
        refine wpAnyH_take (i := 11) (oi := { dst := some 14, op := Go.Op.assign (Go.Operand.tmp 72), type := 31, pos := "law.go:85", after := #[{ on := 8, ground := Go.Ground.data }, { on := 10, ground := Go.Ground.chain }, { on := 0, ground := Go.Ground.phase }, { on := 1, ground := Go.Ground.phase }, { on := 2, ground := Go.Ground.phase }, { on := 3, ground := Go.Ground.phase }, { on := 4, ground := Go.Ground.phase }, { on := 5, ground := Go.Ground.phase }, { on := 6, ground := Go.Ground.phase }, { on := 7, ground := Go.Ground.phase }, { on := 8, ground := Go.Ground.phase }, { on := 9, ground := Go.Ground.phase }, { on := 10, ground := Go.Ground.phase }], guard := none }) (v := ?_) rfl (by kernel_rfl) (by kernel_rfl) (by kernel_rfl) (fun _ _ _ h => h) (Or.inl ⟨by rfl, ?_⟩) (by assumption) ?_
        rotate_left
        · intro wS hSw
          (try dsimp only at hSw)
          go_simp
          (try with_reducible rfl)
        (try simp only [Act.put, List.setIfInBounds_toArray, List.set_cons_zero, List.set_cons_succ])
        refine wpAnyH_done (by kernel_rfl) ?_ _
        have HO6a := Lib.hid (HO5.out.trans hP_4)
        have HO35 := Lib.hid (HO45.out.trans hP_4)
        have HO55 := Lib.hid hP_4
        have HA5 := Lib.hid hA_4
        have HT6 := Lib.hid hT_4
        have HCA5 := Lib.hid hC_4
        have HRB := Lib.hid (HJB.out x tb cs oa V_4 HX8.out hT_4.lt (HSW.out _ HO6a.out))
        have HPZ := Lib.hid (HPX.out V_4 HO6a.out)
        have c0 : V_4.cell? ⟨b4, 0, none⟩ = some (.int .i64 K) := by rw [Blk.cell HPZ.out]; rfl
        have c1 : V_4.cell? ⟨b4, 1, none⟩ = some (.int .i64 N) := by rw [Blk.cell HPZ.out]; rfl
        have c2 : V_4.cell? ⟨b4, 2, none⟩ = some (.int .u32 (gen : Int)) := by rw [Blk.cell HPZ.out]; rfl
        clear hP_4 hA_4 hT_4 HO5 HO45 hz hC_4
        go_wp2_with fail
        refine HRB.out.mono ?_
        rintro e w6 ⟨bo, bl, bc, rfl, hC, hb⟩
        have HCB := Lib.hid hC
        have HO6 := Lib.hid (HO6a.out.then_fresh hb)
        have HO67 := Lib.hid (HO35.out.then_fresh hb)
        have HO57 := Lib.hid (HO55.out.then_fresh hb)
        have HA6 := Lib.hid (Blk.below HA5.out hb (Blk.lt HA5.out))
        have hT6 : TabIn w6 tb := HT6.out.below hb
        have hT_0 : TabIn w6.drew tb := hT6
        have hP_0 : Own tb w6 w6.drew := (Own.refl _ _).drew
        have HCA6 := Lib.hid (HCA5.out.later hb)
        clear hb hC c0 c1 c2 HRB HPZ HT6 hT6
        go_wp2_with fail
        refine wp_region_held_drew (S := (Own tb w6)) (by kernel_rfl) ?_ (fun hHeld => ?_)
        · (try dsimp only)
          first | assumption
        generalize w6.drew = W6 at *
        refine wpAnyH_take (i := 0) (oi := { dst := some 81, op := Go.Op.move (Go.Operand.tmp 0), type := 36, pos := "law.go:87", after := #[], guard := none }) (v := ?_) rfl (by kernel_rfl) (by kernel_rfl) (by kernel_rfl) (fun _ _ _ h => h) (Or.inl ⟨by rfl, ?_⟩) (by assumption) ?_
        rotate_left
        · intro wS hSw
          (try dsimp only at hSw)
          go_simp
          (try with_reducible rfl)
        (try simp only [Act.put, List.setIfInBounds_toArray, List.set_cons_zero, List.set_cons_succ])
        refine wpAnyH_take (i := 2) (oi := { dst := some 83, op := Go.Op.load 25 (Go.Operand.tmp 4), type := 25, pos := "law.go:87", after := #[], guard := none }) (v := ?_) rfl (by kernel_rfl) (by kernel_rfl) (by kernel_rfl) (fun _ _ _ h => h) (Or.inl ⟨by rfl, ?_⟩) (by assumption) ?_
        rotate_left
        · intro wS hSw
          refine exec_loadM (x := .tmp 4) (cs := [.int .i64 K, .int .i64 N, .int .u32 (gen : Int)]) ?_ ?_ ((HPX.out wS (HO6.out.trans hSw)).range0) Tryd.underlying25 rfl info_rplanJ <;> rfl
        (try simp only [Act.put, List.setIfInBounds_toArray, List.set_cons_zero, List.set_cons_succ])
        refine wpAnyH_ready (rs := [1]) (by kernel_rfl) (by simp) ?_
        refine AllReadyH.cons (o := { dst := some 82, op := Go.Op.call { callee := Go.Callee.value (Go.Operand.func 21), args := #[Go.Operand.tmp 81], argTypes := #[36] }, type := 29, pos := "law.go:87", after := #[{ on := 0, ground := Go.Ground.data }], guard := none }) rfl (fun K hK => ?_) AllReadyH.nil
        go_simp
        (refine (give_any tb n cs oa S W6 hT_0.lt (HSW.out _ (HO6.out.trans hP_0)) HN9.out).mono ?_; rintro e V_1 ⟨og, kg, rfl, hg1, hg2, hSh, hb⟩; have HSH := Lib.hid hSh; have HGK := Lib.hid (show n ≤ kg ∧ kg ≤ maxLen from ⟨hg1, hg2⟩); have hP_1 := hP_0.then_fresh hb; have hT_1 := hT_0.below hb; clear hb hSh hg1 hg2 hP_0 hT_0; skip)
        (try go_wp2_with fail)
        refine hK.out _ _ ?_ (fun hHeld => ?_)
        · (try dsimp only)
          first | assumption
        clear hK K
        (try simp only [Act.put, List.setIfInBounds_toArray, List.set_cons_zero, List.set_cons_succ])
        refine wpAnyH_ready (rs := [3]) (by kernel_rfl) (by simp) ?_
        refine AllReadyH.cons (o := { dst := some 84, op := Go.Op.call { callee := Go.Callee.value (Go.Operand.func 20), args := #[Go.Operand.const (Go.Value.pointer none), Go.Operand.tmp 82, Go.Operand.tmp 83], argTypes := #[34, 29, 28] }, type := 47, pos := "law.go:87", after := #[{ on := 1, ground := Go.Ground.data }, { on := 2, ground := Go.Ground.data }, { on := 1, ground := Go.Ground.chain }], guard := none }) rfl (fun K hK => ?_) AllReadyH.nil
        go_simp
        (refine (HCN.out kg og V_1).mono ?_; rintro e V_2 ⟨rfl, hb⟩; have hP_2 := hP_1.then_fresh hb; clear hb hP_1 hT_1 HSH HGK; skip)
        (try go_wp2_with fail)
        refine hK.out _ _ ?_ (fun hHeld => ?_)
        · (try dsimp only)
          first | assumption
        clear hK K
        (try simp only [Act.put, List.setIfInBounds_toArray, List.set_cons_zero, List.set_cons_succ])
        refine wpAnyH_take (i := 4) (oi := { dst := some 80, op := Go.Op.move (Go.Operand.tmp 84), type := 47, pos := "law.go:87", after := #[{ on := 3, ground := Go.Ground.data }], guard := none }) (v := ?_) rfl (by kernel_rfl) (by kernel_rfl) (by kernel_rfl) (fun _ _ _ h => h) (Or.inl ⟨by rfl, ?_⟩) (by assumption) ?_
        rotate_left
        · intro wS hSw
          (try dsimp only at hSw)
          go_simp
          (try with_reducible rfl)
        (try simp only [Act.put, List.setIfInBounds_toArray, List.set_cons_zero, List.set_cons_succ])
        refine wpAnyH_take (i := 5) (oi := { dst := some 85, op := Go.Op.extract (Go.Operand.tmp 80) 0, type := 22, pos := "law.go:87", after := #[{ on := 4, ground := Go.Ground.data }], guard := none }) (v := ?_) rfl (by kernel_rfl) (by kernel_rfl) (by kernel_rfl) (fun _ _ _ h => h) (Or.inl ⟨by rfl, ?_⟩) (by assumption) ?_
        rotate_left
        · intro wS hSw
          (try dsimp only at hSw)
          go_simp
          (try with_reducible rfl)
        (try simp only [Act.put, List.setIfInBounds_toArray, List.set_cons_zero, List.set_cons_succ])
        refine wpAnyH_take (i := 6) (oi := { dst := some 86, op := Go.Op.extract (Go.Operand.tmp 80) 1, type := 31, pos := "law.go:87", after := #[{ on := 4, ground := Go.Ground.data }, { on := 7, ground := Go.Ground.gcOnly Go.Departure.lateStores }], guard := none }) (v := ?_) rfl (by kernel_rfl) (by kernel_rfl) (by kernel_rfl) (fun _ _ _ h => h) (Or.inl ⟨by rfl, ?_⟩) (by assumption) ?_
        rotate_left
        · intro wS hSw
          (try dsimp only at hSw)
          go_simp
          (try with_reducible rfl)
        (try simp only [Act.put, List.setIfInBounds_toArray, List.set_cons_zero, List.set_cons_succ])
        refine wpAnyH_take (i := 7) (oi := { dst := some 17, op := Go.Op.assign (Go.Operand.tmp 85), type := 22, pos := "law.go:87", after := #[{ on := 5, ground := Go.Ground.data }, { on := 3, ground := Go.Ground.chain }, { on := 0, ground := Go.Ground.phase }, { on := 1, ground := Go.Ground.phase }, { on := 2, ground := Go.Ground.phase }, { on := 3, ground := Go.Ground.phase }, { on := 4, ground := Go.Ground.phase }, { on := 5, ground := Go.Ground.phase }, { on := 6, ground := Go.Ground.textOnly Go.Departure.lateStores }], guard := none }) (v := ?_) rfl (by kernel_rfl) (by kernel_rfl) (by kernel_rfl) (fun _ _ _ h => h) (Or.inl ⟨by rfl, ?_⟩) (by assumption) ?_
        rotate_left
        · intro wS hSw
          (try dsimp only at hSw)
          go_simp
          (try with_reducible rfl)
        (try simp only [Act.put, List.setIfInBounds_toArray, List.set_cons_zero, List.set_cons_succ])
        refine wpAnyH_take (i := 8) (oi := { dst := some 18, op := Go.Op.assign (Go.Operand.tmp 86), type := 31, pos := "law.go:87", after := #[{ on := 6, ground := Go.Ground.data }, { on := 7, ground := Go.Ground.chain }, { on := 0, ground := Go.Ground.phase }, { on := 1, ground := Go.Ground.phase }, { on := 2, ground := Go.Ground.phase }, { on := 3, ground := Go.Ground.phase }, { on := 4, ground := Go.Ground.phase }, { on := 5, ground := Go.Ground.phase }, { on := 6, ground := Go.Ground.phase }, { on := 7, ground := Go.Ground.phase }], guard := none }) (v := ?_) rfl (by kernel_rfl) (by kernel_rfl) (by kernel_rfl) (fun _ _ _ h => h) (Or.inl ⟨by rfl, ?_⟩) (by assumption) ?_
        rotate_left
        · intro wS hSw
          (try dsimp only at hSw)
          go_simp
          (try with_reducible rfl)
        (try simp only [Act.put, List.setIfInBounds_toArray, List.set_cons_zero, List.set_cons_succ])
        refine wpAnyH_done (by kernel_rfl) ?_ _
        have HO7 := Lib.hid (HO6.out.trans hP_2)
        have HA7 := Lib.hid (hP_2.blk HA6.out hbt)
        have HB7 := Lib.hid (HBL.out _ HO7.out)
        have hv1 := HCS.out V_2 (HO67.out.trans hP_2)
        have hv2 := HCO.out V_2 (HO57.out.trans hP_2)
        have HV3 := Lib.hid (HCB.out.own hP_2)
        have HV4 := Lib.hid (HCA6.out.own hP_2 (.inl HLO.out.2.2))
        clear hP_2
        go_wp2_with fail
        refine (num_errj HEV.out V_2 (HG.out.below HB7.out HG.out.2)).mono ?_
        rintro e w8 ⟨rfl, hb⟩
        have HB8 := Lib.hid (HB7.out.trans (hb.mono HB7.out.size))
        have HX8b := Lib.hid hb
        clear hb hv1 hv2
        go_wp2_with fail
        refine (num_err03 1 w8 (HG.out.below HB8.out HG.out.2)).mono ?_
        rintro e w9 ⟨rfl, hb⟩
        have HB9 := Lib.hid (HB8.out.trans (hb.mono HB8.out.size))
        have HW9 : Hid (Below V_2.heap.size V_2 w9) := Lib.hid (HX8b.out.trans (hb.mono HX8b.out.size))
        have HA9 := Lib.hid (Blk.below HA7.out HW9.out (Blk.lt HA7.out))
        have HP9 := Lib.hid (HPX.out w9 (HO7.out.then_fresh HW9.out))
        have c1 : w9.cell? ⟨b4, 1, none⟩ = some (.int .i64 N) := by rw [Blk.cell HP9.out]; rfl
        clear hb
        go_wp2_with fail
        refine (num_nil03 w9).mono ?_
        rintro e w10 ⟨rfl, hb⟩
        have HB10 := Lib.hid (HB9.out.trans (hb.mono HB9.out.size))
        have HA10 := Lib.hid (Blk.below HA9.out hb (Blk.lt HA9.out))
        have HP10 := Lib.hid (Blk.below HP9.out hb (Blk.lt HP9.out))
        have HW10 : Hid (Below V_2.heap.size V_2 w10) := Lib.hid (HW9.out.trans (hb.mono HW9.out.size))
        have a0 := Blk.cell HA10.out 0
        have a1 := Blk.cell HA10.out 1
        have a2 := Blk.cell HA10.out 2
        have c2 : w10.cell? ⟨b4, 2, none⟩ = some (.int .u32 (gen : Int)) := by rw [Blk.cell HP10.out]; rfl
        have hv3 := HV3.out w10 (Own.of_below HW10.out)
        have hv4 := (HV4.out.later HW10.out).get
        have HSU := Lib.hid (sure03 w10 (HG.out.below HB10.out HG.out.2))
        simp at a0 a1 a2
        clear hb
        go_wp2_with fail
        refine HSU.out.mono ?_
        rintro e w11 ⟨rfl, hb⟩
        have HBE := Lib.hid (HB10.out.trans (hb.mono HB10.out.size))
        clear hb
        go_wp2_with fail
        go_ret
        exact ⟨rfl, HBE.out⟩
      have HE0 := Lib.hid hE
      clear hE
      go_wp2_with fail
      refine wp_region_held_drew (S := (Own tb w1)) (by kernel_rfl) ?_ (fun hHeld => ?_)
      · (try dsimp only)
        first | assumption
      generalize w1.drew = W1 at *
      refine wpAnyH_take (i := 0) (oi := { dst := some 51, op := Go.Op.move (Go.Operand.tmp 8), type := 34, pos := "law.go:83", after := #[], guard := none }) (v := ?_) rfl (by kernel_rfl) (by kernel_rfl) (by kernel_rfl) (fun _ _ _ h => h) (Or.inl ⟨by rfl, ?_⟩) (by assumption) ?_
      rotate_left
      · intro wS hSw
        (try dsimp only at hSw)
        go_simp
        (try with_reducible rfl)
      (try simp only [Act.put, List.setIfInBounds_toArray, List.set_cons_zero, List.set_cons_succ])
      refine wpAnyH_take (i := 1) (oi := { dst := some 52, op := Go.Op.move (Go.Operand.tmp 0), type := 36, pos := "law.go:83", after := #[], guard := none }) (v := ?_) rfl (by kernel_rfl) (by kernel_rfl) (by kernel_rfl) (fun _ _ _ h => h) (Or.inl ⟨by rfl, ?_⟩) (by assumption) ?_
      rotate_left
      · intro wS hSw
        (try dsimp only at hSw)
        go_simp
        (try with_reducible rfl)
      (try simp only [Act.put, List.setIfInBounds_toArray, List.set_cons_zero, List.set_cons_succ])
      refine wpAnyH_take (i := 3) (oi := { dst := some 54, op := Go.Op.load 25 (Go.Operand.tmp 4), type := 25, pos := "law.go:83", after := #[], guard := none }) (v := ?_) rfl (by kernel_rfl) (by kernel_rfl) (by kernel_rfl) (fun _ _ _ h => h) (Or.inl ⟨by rfl, ?_⟩) (by assumption) ?_
      rotate_left
      · intro wS hSw
        refine exec_loadM (x := .tmp 4) (cs := [.int .i64 K, .int .i64 N, .int .u32 (gen : Int)]) ?_ ?_ ((HPX.out wS ((Own.refl tb w1).trans hSw)).range0) Tryd.underlying25 rfl info_rplanJ <;> rfl
      (try simp only [Act.put, List.setIfInBounds_toArray, List.set_cons_zero, List.set_cons_succ])
      refine wpAnyH_ready (rs := [2]) (by kernel_rfl) (by simp) ?_
      refine AllReadyH.cons (o := { dst := some 53, op := Go.Op.call { callee := Go.Callee.value (Go.Operand.func 21), args := #[Go.Operand.tmp 52], argTypes := #[36] }, type := 29, pos := "law.go:83", after := #[{ on := 1, ground := Go.Ground.data }], guard := none }) rfl (fun K hK => ?_) AllReadyH.nil
      go_simp
      (refine (give_any tb n cs oa S W1 hT_0.lt (HSW.out _ (hP_0)) HN9.out).mono ?_; rintro e V_1 ⟨og, kg, rfl, hg1, hg2, hSh, hb⟩; have HSH := Lib.hid hSh; have HGK := Lib.hid (show n ≤ kg ∧ kg ≤ maxLen from ⟨hg1, hg2⟩); have hP_1 := hP_0.then_fresh hb; have hT_1 := hT_0.below hb; clear hb hSh hg1 hg2 hP_0 hT_0; skip)
      (try go_wp2_with fail)
      refine hK.out _ _ ?_ (fun hHeld => ?_)
      · (try dsimp only)
        first | assumption
      clear hK K
      (try simp only [Act.put, List.setIfInBounds_toArray, List.set_cons_zero, List.set_cons_succ])
      refine wpAnyH_ready (rs := [4]) (by kernel_rfl) (by simp) ?_
      refine AllReadyH.cons (o := { dst := some 55, op := Go.Op.call { callee := Go.Callee.value (Go.Operand.func 20), args := #[Go.Operand.tmp 51, Go.Operand.tmp 53, Go.Operand.tmp 54], argTypes := #[34, 29, 28] }, type := 47, pos := "law.go:83", after := #[{ on := 0, ground := Go.Ground.data }, { on := 2, ground := Go.Ground.data }, { on := 3, ground := Go.Ground.data }, { on := 2, ground := Go.Ground.chain }], guard := none }) rfl (fun K hK => ?_) AllReadyH.nil
      go_simp
      (refine (HJA.out tb kg og V_1 hT_1 HSH.out HGK.out.1 HGK.out.2).mono ?_; rintro e V_2 ⟨so, sl, sc, ev, rfl, hE, hC, hL⟩; have HEV := Lib.hid hE; have HCS := Lib.hid hC; have hP_2 := hP_1.trans hL.2; have hT_2 := hL.1; clear hE hC hL hP_1 hT_1 HSH HGK; skip)
      (try go_wp2_with fail)
      refine hK.out _ _ ?_ (fun hHeld => ?_)
      · (try dsimp only)
        first | assumption
      clear hK K
      (try simp only [Act.put, List.setIfInBounds_toArray, List.set_cons_zero, List.set_cons_succ])
      refine wpAnyH_take (i := 5) (oi := { dst := some 50, op := Go.Op.move (Go.Operand.tmp 55), type := 47, pos := "law.go:83", after := #[{ on := 4, ground := Go.Ground.data }], guard := none }) (v := ?_) rfl (by kernel_rfl) (by kernel_rfl) (by kernel_rfl) (fun _ _ _ h => h) (Or.inl ⟨by rfl, ?_⟩) (by assumption) ?_
      rotate_left
      · intro wS hSw
        (try dsimp only at hSw)
        go_simp
        (try with_reducible rfl)
      (try simp only [Act.put, List.setIfInBounds_toArray, List.set_cons_zero, List.set_cons_succ])
      refine wpAnyH_take (i := 6) (oi := { dst := some 56, op := Go.Op.extract (Go.Operand.tmp 50) 0, type := 22, pos := "law.go:83", after := #[{ on := 5, ground := Go.Ground.data }], guard := none }) (v := ?_) rfl (by kernel_rfl) (by kernel_rfl) (by kernel_rfl) (fun _ _ _ h => h) (Or.inl ⟨by rfl, ?_⟩) (by assumption) ?_
      rotate_left
      · intro wS hSw
        (try dsimp only at hSw)
        go_simp
        (try with_reducible rfl)
      (try simp only [Act.put, List.setIfInBounds_toArray, List.set_cons_zero, List.set_cons_succ])
      refine wpAnyH_take (i := 7) (oi := { dst := some 57, op := Go.Op.extract (Go.Operand.tmp 50) 1, type := 31, pos := "law.go:83", after := #[{ on := 5, ground := Go.Ground.data }, { on := 8, ground := Go.Ground.gcOnly Go.Departure.lateStores }], guard := none }) (v := ?_) rfl (by kernel_rfl) (by kernel_rfl) (by kernel_rfl) (fun _ _ _ h => h) (Or.inl ⟨by rfl, ?_⟩) (by assumption) ?_
      rotate_left
      · intro wS hSw
        (try dsimp only at hSw)
        go_simp
        (try with_reducible rfl)
      (try simp only [Act.put, List.setIfInBounds_toArray, List.set_cons_zero, List.set_cons_succ])
      refine wpAnyH_take (i := 8) (oi := { dst := some 9, op := Go.Op.assign (Go.Operand.tmp 56), type := 22, pos := "law.go:83", after := #[{ on := 6, ground := Go.Ground.data }, { on := 4, ground := Go.Ground.chain }, { on := 0, ground := Go.Ground.phase }, { on := 1, ground := Go.Ground.phase }, { on := 2, ground := Go.Ground.phase }, { on := 3, ground := Go.Ground.phase }, { on := 4, ground := Go.Ground.phase }, { on := 5, ground := Go.Ground.phase }, { on := 6, ground := Go.Ground.phase }, { on := 7, ground := Go.Ground.textOnly Go.Departure.lateStores }], guard := none }) (v := ?_) rfl (by kernel_rfl) (by kernel_rfl) (by kernel_rfl) (fun _ _ _ h => h) (Or.inl ⟨by rfl, ?_⟩) (by assumption) ?_
      rotate_left
      · intro wS hSw
        (try dsimp only at hSw)
        go_simp
        (try with_reducible rfl)
      (try simp only [Act.put, List.setIfInBounds_toArray, List.set_cons_zero, List.set_cons_succ])
      refine wpAnyH_take (i := 9) (oi := { dst := some 10, op := Go.Op.assign (Go.Operand.tmp 57), type := 31, pos := "law.go:83", after := #[{ on := 7, ground := Go.Ground.data }, { on := 8, ground := Go.Ground.chain }, { on := 0, ground := Go.Ground.phase }, { on := 1, ground := Go.Ground.phase }, { on := 2, ground := Go.Ground.phase }, { on := 3, ground := Go.Ground.phase }, { on := 4, ground := Go.Ground.phase }, { on := 5, ground := Go.Ground.phase }, { on := 6, ground := Go.Ground.phase }, { on := 7, ground := Go.Ground.phase }, { on := 8, ground := Go.Ground.phase }], guard := none }) (v := ?_) rfl (by kernel_rfl) (by kernel_rfl) (by kernel_rfl) (fun _ _ _ h => h) (Or.inl ⟨by rfl, ?_⟩) (by assumption) ?_
      rotate_left
      · intro wS hSw
        (try dsimp only at hSw)
        go_simp
        (try with_reducible rfl)
      (try simp only [Act.put, List.setIfInBounds_toArray, List.set_cons_zero, List.set_cons_succ])
      refine wpAnyH_done (by kernel_rfl) ?_ _
      have HO4 := Lib.hid hP_2
      have HT4 := Lib.hid hT_2
      have HRA := Lib.hid (HJB.out 0 tb cs oa V_2 (by decide) hT_2.lt (HSW.out _ hP_2))
      have HPZ := Lib.hid (HPX.out V_2 hP_2)
      have c0 : V_2.cell? ⟨b4, 0, none⟩ = some (.int .i64 K) := by rw [Blk.cell HPZ.out]; rfl
      have c1 : V_2.cell? ⟨b4, 1, none⟩ = some (.int .i64 N) := by rw [Blk.cell HPZ.out]; rfl
      have c2 : V_2.cell? ⟨b4, 2, none⟩ = some (.int .u32 (gen : Int)) := by rw [Blk.cell HPZ.out]; rfl
      clear hP_2 hT_2
      go_wp2_with fail
      refine HRA.out.mono ?_
      rintro e w5 ⟨oo, ol, oc, rfl, hC, hb⟩
      have HCO := Lib.hid hC
      have HO5 := Lib.hid (HO4.out.then_fresh hb)
      have HO45 : Hid (Own tb V_2 w5) := Lib.hid (Own.of_below hb)
      have hT5 : TabIn w5 tb := HT4.out.below hb
      have hT_0 : TabIn w5.drew tb := hT5
      have hP_0 : Own tb w5 w5.drew := (Own.refl _ _).drew
      have hz := zsh_run
      clear hb hC c0 c1 c2 HRA HPZ HT4 HO4 hT5
      go_wp2_with fail
      refine wp_region_held_drew (S := (Own tb w5)) (by kernel_rfl) ?_ (fun hHeld => ?_)
      · (try dsimp only)
        first | assumption
      generalize w5.drew = W5 at *
      refine wpAnyH_take (i := 0) (oi := { dst := some 65, op := Go.Op.move (Go.Operand.tmp 8), type := 34, pos := "law.go:85", after := #[], guard := none }) (v := ?_) rfl (by kernel_rfl) (by kernel_rfl) (by kernel_rfl) (fun _ _ _ h => h) (Or.inl ⟨by rfl, ?_⟩) (by assumption) ?_
      rotate_left
      · intro wS hSw
        (try dsimp only at hSw)
        go_simp
        (try with_reducible rfl)
      (try simp only [Act.put, List.setIfInBounds_toArray, List.set_cons_zero, List.set_cons_succ])
      refine wpAnyH_take (i := 1) (oi := { dst := some 66, op := Go.Op.move (Go.Operand.tmp 0), type := 36, pos := "law.go:85", after := #[], guard := none }) (v := ?_) rfl (by kernel_rfl) (by kernel_rfl) (by kernel_rfl) (fun _ _ _ h => h) (Or.inl ⟨by rfl, ?_⟩) (by assumption) ?_
      rotate_left
      · intro wS hSw
        (try dsimp only at hSw)
        go_simp
        (try with_reducible rfl)
      (try simp only [Act.put, List.setIfInBounds_toArray, List.set_cons_zero, List.set_cons_succ])
      refine wpAnyH_take (i := 3) (oi := { dst := some 68, op := Go.Op.load 25 (Go.Operand.tmp 4), type := 25, pos := "law.go:85", after := #[], guard := none }) (v := ?_) rfl (by kernel_rfl) (by kernel_rfl) (by kernel_rfl) (fun _ _ _ h => h) (Or.inl ⟨by rfl, ?_⟩) (by assumption) ?_
      rotate_left
      · intro wS hSw
        refine exec_loadM (x := .tmp 4) (cs := [.int .i64 K, .int .i64 N, .int .u32 (gen : Int)]) ?_ ?_ ((HPX.out wS (HO5.out.trans hSw)).range0) Tryd.underlying25 rfl info_rplanJ <;> rfl
      (try simp only [Act.put, List.setIfInBounds_toArray, List.set_cons_zero, List.set_cons_succ])
      refine wpAnyH_take (i := 4) (oi := { dst := some 69, op := Go.Op.move (Go.Operand.tmp 2), type := 5, pos := "law.go:85", after := #[], guard := none }) (v := ?_) rfl (by kernel_rfl) (by kernel_rfl) (by kernel_rfl) (fun _ _ _ h => h) (Or.inl ⟨by rfl, ?_⟩) (by assumption) ?_
      rotate_left
      · intro wS hSw
        (try dsimp only at hSw)
        go_simp
        (try with_reducible rfl)
      (try simp only [Act.put, List.setIfInBounds_toArray, List.set_cons_zero, List.set_cons_succ])
      refine wpAnyH_ready (rs := [2, 9]) (by kernel_rfl) (by simp) ?_
      refine AllReadyH.cons (o := { dst := some 67, op := Go.Op.call { callee := Go.Callee.value (Go.Operand.func 21), args := #[Go.Operand.tmp 66], argTypes := #[36] }, type := 29, pos := "law.go:85", after := #[{ on := 1, ground := Go.Ground.data }], guard := none }) rfl (fun K hK => ?_) ?_
      · skip
        go_simp
        (refine (give_any tb n cs oa S W5 hT_0.lt (HSW.out _ (HO5.out.trans hP_0)) HN9.out).mono ?_; rintro e V_1 ⟨og, kg, rfl, hg1, hg2, hSh, hb⟩; have HSH := Lib.hid hSh; have HGK := Lib.hid (show n ≤ kg ∧ kg ≤ maxLen from ⟨hg1, hg2⟩); have hP_1 := hP_0.then_fresh hb; have hT_1 := hT_0.below hb; clear hb hSh hg1 hg2 hP_0 hT_0; skip)
        (try go_wp2_with fail)
        refine hK.out _ _ ?_ (fun hHeld => ?_)
        · (try dsimp only)
          first | assumption
        clear hK K
        (try simp only [Act.put, List.setIfInBounds_toArray, List.set_cons_zero, List.set_cons_succ])
        refine wpAnyH_ready (rs := [5, 9]) (by kernel_rfl) (by simp) ?_
        refine AllReadyH.cons (o := { dst := some 70, op := Go.Op.call { callee := Go.Callee.value (Go.Operand.func 23), args := #[Go.Operand.tmp 65, Go.Operand.tmp 67, Go.Operand.tmp 68, Go.Operand.tmp 69], argTypes := #[34, 29, 28, 5] }, type := 53, pos := "law.go:85", after := #[{ on := 0, ground := Go.Ground.data }, { on := 2, ground := Go.Ground.data }, { on := 3, ground := Go.Ground.data }, { on := 4, ground := Go.Ground.data }, { on := 2, ground := Go.Ground.chain }], guard := none }) rfl (fun K hK => ?_) ?_
        · skip
          go_simp
          (refine (HJC.out x tb kg og V_1 HXR.out.1 HXR.out.2 HX8.out hT_1 HSH.out HGK.out.1 HGK.out.2).mono ?_; rintro e V_2 ⟨ao, al, ac, hr, hC, hL⟩; obtain rfl := (hr.resolve_left (fun h => HE0.out h.1)).2; obtain ⟨lo, hlo⟩ : ∃ z, V_1.heap.size = z := ⟨_, rfl⟩; obtain ⟨hi, hhi⟩ : ∃ z, V_2.heap.size = z := ⟨_, rfl⟩; rw [hlo, hhi] at hC; have hC_2 := hC; have HLO := Lib.hid (show V_1.heap.size = lo ∧ V_2.heap.size = hi ∧ tb < lo from ⟨hlo, hhi, by have := hT_1.lt; omega⟩); have hP_2 := hP_1.trans hL.2; have hT_2 := hL.1; clear hr hC hL hlo hhi hP_1 hT_1 HSH HGK; skip)
          (try go_wp2_with fail)
          refine hK.out _ _ ?_ (fun hHeld => ?_)
          · (try dsimp only)
            first | assumption
          clear hK K
          (try simp only [Act.put, List.setIfInBounds_toArray, List.set_cons_zero, List.set_cons_succ])
          refine wpAnyH_take (i := 6) (oi := { dst := some 64, op := Go.Op.move (Go.Operand.tmp 70), type := 53, pos := "law.go:85", after := #[{ on := 5, ground := Go.Ground.data }], guard := none }) (v := ?_) rfl (by kernel_rfl) (by kernel_rfl) (by kernel_rfl) (fun _ _ _ h => h) (Or.inl ⟨by rfl, ?_⟩) (by assumption) ?_
          rotate_left
          · intro wS hSw
            (try dsimp only at hSw)
            go_simp
            (try with_reducible rfl)
          (try simp only [Act.put, List.setIfInBounds_toArray, List.set_cons_zero, List.set_cons_succ])
          refine wpAnyH_take (i := 7) (oi := { dst := some 71, op := Go.Op.extract (Go.Operand.tmp 64) 0, type := 52, pos := "law.go:85", after := #[{ on := 6, ground := Go.Ground.data }], guard := none }) (v := ?_) rfl (by kernel_rfl) (by kernel_rfl) (by kernel_rfl) (fun _ _ _ h => h) (Or.inl ⟨by rfl, ?_⟩) (by assumption) ?_
          rotate_left
          · intro wS hSw
            (try dsimp only at hSw)
            go_simp
            (try with_reducible rfl)
          (try simp only [Act.put, List.setIfInBounds_toArray, List.set_cons_zero, List.set_cons_succ])
          refine wpAnyH_take (i := 8) (oi := { dst := some 72, op := Go.Op.extract (Go.Operand.tmp 64) 1, type := 31, pos := "law.go:85", after := #[{ on := 6, ground := Go.Ground.data }, { on := 10, ground := Go.Ground.gcOnly Go.Departure.lateStores }], guard := none }) (v := ?_) rfl (by kernel_rfl) (by kernel_rfl) (by kernel_rfl) (fun _ _ _ h => h) (Or.inl ⟨by rfl, ?_⟩) (by assumption) ?_
          rotate_left
          · intro wS hSw
            (try dsimp only at hSw)
            go_simp
            (try with_reducible rfl)
          (try simp only [Act.put, List.setIfInBounds_toArray, List.set_cons_zero, List.set_cons_succ])
          refine wpAnyH_ready (rs := [9]) (by kernel_rfl) (by simp) ?_
          refine AllReadyH.cons (o := { dst := some 13, op := Go.Op.alloc 52, type := 0, pos := "law.go:85", after := #[], guard := none }) rfl (fun K hK => ?_) AllReadyH.nil
          go_simp
          (obtain ⟨ba, hba⟩ : ∃ z, V_2.heap.size = z := ⟨_, rfl⟩; obtain ⟨V_3, hw⟩ : ∃ z, V_2.alloc (.cells #[.int .u8 0, .int .u32 0, .slice none 0 0] 52) = z := ⟨_, rfl⟩; rw [hw, hba]; have hb : Below V_2.heap.size V_2 V_3 := (by rw [← hw]; exact (Below.refl _ _).alloc (Nat.le_refl _) _); have hA_3 : Blk V_3 ba #[.int .u8 0, .int .u32 0, .slice none 0 0] 52 := (by rw [← hw, ← hba]; exact Blk.new _ _ _); have hbt : ba ≠ tb := (by have := hT_2.lt; omega); have HBA : Hid (w5.heap.size ≤ ba) := Lib.hid (by rw [← hba]; exact hP_2.size); have hP_3 := hP_2.then_fresh hb; have hT_3 := hT_2.below hb; have hC_3 := hC_2.later hb; have HBJ : Hid (ba < lo ∨ hi ≤ ba) := Lib.hid (.inr (by have := hC_2.1; omega)); clear hC_2; clear hb hw hba hP_2 hT_2; skip)
          (try go_wp2_with fail)
          refine hK.out _ _ ?_ (fun hHeld => ?_)
          · (try dsimp only)
            first | assumption
          clear hK K
          (try simp only [Act.put, List.setIfInBounds_toArray, List.set_cons_zero, List.set_cons_succ])
          refine wpAnyH_ready (rs := [10]) (by kernel_rfl) (by simp) ?_
          refine AllReadyH.cons (o := { dst := none, op := Go.Op.store 52 (Go.Operand.tmp 13) (Go.Operand.tmp 71), type := 0, pos := "law.go:85", after := #[{ on := 9, ground := Go.Ground.data }, { on := 7, ground := Go.Ground.data }, { on := 5, ground := Go.Ground.chain }, { on := 0, ground := Go.Ground.phase }, { on := 1, ground := Go.Ground.phase }, { on := 2, ground := Go.Ground.phase }, { on := 3, ground := Go.Ground.phase }, { on := 4, ground := Go.Ground.phase }, { on := 5, ground := Go.Ground.phase }, { on := 6, ground := Go.Ground.phase }, { on := 7, ground := Go.Ground.phase }, { on := 8, ground := Go.Ground.textOnly Go.Departure.lateStores }, { on := 9, ground := Go.Ground.phase }], guard := none }) rfl (fun K hK => ?_) AllReadyH.nil
          (refine step_storeM rfl 52 (.tmp 13) (.tmp 71) rfl ba 0 #[.int .u8 0, .int .u32 0, .slice ao al ac] rfl rfl (hA_3.there (Nat.le_refl 3)) info_share3 (one_share _ _ _ _ _ _ _) ?_; obtain ⟨V_4, hw⟩ : ∃ z, V_3.setCells ba 0 [.int .u8 0, .int .u32 0, .slice ao al ac] = z := ⟨_, rfl⟩; have hO : Own ba V_3 V_4 := (by rw [← hw]; exact Own.setCells (b := ba) [.int .u8 0, .int .u32 0, .slice ao al ac] 0 V_3); have hA_4 : Blk V_4 ba #[.int .u8 0, .int .u32 0, .slice ao al ac] 52 := (by rw [← hw]; exact hA_3.whole3 rfl _ _ _); have hP_4 := hP_3.then_new hO HBA.out; have hT_4 := hT_3.own hO (Ne.symm hbt); rw [hw]; have hC_4 := hC_3.own hO HBJ.out; clear hC_3; clear hO hw hA_3 hP_3 hT_3; skip)
          refine hK.out _ _ ?_ (fun hHeld => ?_)
          · (try dsimp only)
            first | assumption
          clear hK K
          (try simp only [Act.put, List.setIfInBounds_toArray, List.set_cons_zero, List.set_cons_succ])
          refine wpAnyH_take (i := 11) (oi := { dst := some 14, op := Go.Op.assign (Go.Operand.tmp 72), type := 31, pos := "law.go:85", after := #[{ on := 8, ground := Go.Ground.data }, { on := 10, ground := Go.Ground.chain }, { on := 0, ground := Go.Ground.phase }, { on := 1, ground := Go.Ground.phase }, { on := 2, ground := Go.Ground.phase }, { on := 3, ground := Go.Ground.phase }, { on := 4, ground := Go.Ground.phase }, { on := 5, ground := Go.Ground.phase }, { on := 6, ground := Go.Ground.phase }, { on := 7, ground := Go.Ground.phase }, { on := 8, ground := Go.Ground.phase }, { on := 9, ground := Go.Ground.phase }, { on := 10, ground := Go.Ground.phase }], guard := none }) (v := ?_) rfl (by kernel_rfl) (by kernel_rfl) (by kernel_rfl) (fun _ _ _ h => h) (Or.inl ⟨by rfl, ?_⟩) (by assumption) ?_
          rotate_left
          · intro wS hSw
            (try dsimp only at hSw)
            go_simp
            (try with_reducible rfl)
          (try simp only [Act.put, List.setIfInBounds_toArray, List.set_cons_zero, List.set_cons_succ])
          refine wpAnyH_done (by kernel_rfl) ?_ _
          have HO6a := Lib.hid (HO5.out.trans hP_4)
          have HO35 := Lib.hid (HO45.out.trans hP_4)
          have HO55 := Lib.hid hP_4
          have HA5 := Lib.hid hA_4
          have HT6 := Lib.hid hT_4
          have HCA5 := Lib.hid hC_4
          have HRB := Lib.hid (HJB.out x tb cs oa V_4 HX8.out hT_4.lt (HSW.out _ HO6a.out))
          have HPZ := Lib.hid (HPX.out V_4 HO6a.out)
          have c0 : V_4.cell? ⟨b4, 0, none⟩ = some (.int .i64 K) := by rw [Blk.cell HPZ.out]; rfl
          have c1 : V_4.cell? ⟨b4, 1, none⟩ = some (.int .i64 N) := by rw [Blk.cell HPZ.out]; rfl
          have c2 : V_4.cell? ⟨b4, 2, none⟩ = some (.int .u32 (gen : Int)) := by rw [Blk.cell HPZ.out]; rfl
          clear hP_4 hA_4 hT_4 HO5 HO45 hz hC_4
          go_wp2_with fail
          refine HRB.out.mono ?_
          rintro e w6 ⟨bo, bl, bc, rfl, hC, hb⟩
          have HCB := Lib.hid hC
          have HO6 := Lib.hid (HO6a.out.then_fresh hb)
          have HO67 := Lib.hid (HO35.out.then_fresh hb)
          have HO57 := Lib.hid (HO55.out.then_fresh hb)
          have HA6 := Lib.hid (Blk.below HA5.out hb (Blk.lt HA5.out))
          have hT6 : TabIn w6 tb := HT6.out.below hb
          have hT_0 : TabIn w6.drew tb := hT6
          have hP_0 : Own tb w6 w6.drew := (Own.refl _ _).drew
          have HCA6 := Lib.hid (HCA5.out.later hb)
          clear hb hC c0 c1 c2 HRB HPZ HT6 hT6
          go_wp2_with fail
          refine wp_region_held_drew (S := (Own tb w6)) (by kernel_rfl) ?_ (fun hHeld => ?_)
          · (try dsimp only)
            first | assumption
          generalize w6.drew = W6 at *
          refine wpAnyH_take (i := 0) (oi := { dst := some 81, op := Go.Op.move (Go.Operand.tmp 0), type := 36, pos := "law.go:87", after := #[], guard := none }) (v := ?_) rfl (by kernel_rfl) (by kernel_rfl) (by kernel_rfl) (fun _ _ _ h => h) (Or.inl ⟨by rfl, ?_⟩) (by assumption) ?_
          rotate_left
          · intro wS hSw
            (try dsimp only at hSw)
            go_simp
            (try with_reducible rfl)
          (try simp only [Act.put, List.setIfInBounds_toArray, List.set_cons_zero, List.set_cons_succ])
          refine wpAnyH_take (i := 2) (oi := { dst := some 83, op := Go.Op.load 25 (Go.Operand.tmp 4), type := 25, pos := "law.go:87", after := #[], guard := none }) (v := ?_) rfl (by kernel_rfl) (by kernel_rfl) (by kernel_rfl) (fun _ _ _ h => h) (Or.inl ⟨by rfl, ?_⟩) (by assumption) ?_
          rotate_left
          · intro wS hSw
            refine exec_loadM (x := .tmp 4) (cs := [.int .i64 K, .int .i64 N, .int .u32 (gen : Int)]) ?_ ?_ ((HPX.out wS (HO6.out.trans hSw)).range0) Tryd.underlying25 rfl info_rplanJ <;> rfl
          (try simp only [Act.put, List.setIfInBounds_toArray, List.set_cons_zero, List.set_cons_succ])
          refine wpAnyH_ready (rs := [1]) (by kernel_rfl) (by simp) ?_
          refine AllReadyH.cons (o := { dst := some 82, op := Go.Op.call { callee := Go.Callee.value (Go.Operand.func 21), args := #[Go.Operand.tmp 81], argTypes := #[36] }, type := 29, pos := "law.go:87", after := #[{ on := 0, ground := Go.Ground.data }], guard := none }) rfl (fun K hK => ?_) AllReadyH.nil
          go_simp
          (refine (give_any tb n cs oa S W6 hT_0.lt (HSW.out _ (HO6.out.trans hP_0)) HN9.out).mono ?_; rintro e V_1 ⟨og, kg, rfl, hg1, hg2, hSh, hb⟩; have HSH := Lib.hid hSh; have HGK := Lib.hid (show n ≤ kg ∧ kg ≤ maxLen from ⟨hg1, hg2⟩); have hP_1 := hP_0.then_fresh hb; have hT_1 := hT_0.below hb; clear hb hSh hg1 hg2 hP_0 hT_0; skip)
          (try go_wp2_with fail)
          refine hK.out _ _ ?_ (fun hHeld => ?_)
          · (try dsimp only)
            first | assumption
          clear hK K
          (try simp only [Act.put, List.setIfInBounds_toArray, List.set_cons_zero, List.set_cons_succ])
          refine wpAnyH_ready (rs := [3]) (by kernel_rfl) (by simp) ?_
          refine AllReadyH.cons (o := { dst := some 84, op := Go.Op.call { callee := Go.Callee.value (Go.Operand.func 20), args := #[Go.Operand.const (Go.Value.pointer none), Go.Operand.tmp 82, Go.Operand.tmp 83], argTypes := #[34, 29, 28] }, type := 47, pos := "law.go:87", after := #[{ on := 1, ground := Go.Ground.data }, { on := 2, ground := Go.Ground.data }, { on := 1, ground := Go.Ground.chain }], guard := none }) rfl (fun K hK => ?_) AllReadyH.nil
          go_simp
          (refine (HCN.out kg og V_1).mono ?_; rintro e V_2 ⟨rfl, hb⟩; have hP_2 := hP_1.then_fresh hb; clear hb hP_1 hT_1 HSH HGK; skip)
          (try go_wp2_with fail)
          refine hK.out _ _ ?_ (fun hHeld => ?_)
          · (try dsimp only)
            first | assumption
          clear hK K
          (try simp only [Act.put, List.setIfInBounds_toArray, List.set_cons_zero, List.set_cons_succ])
          refine wpAnyH_take (i := 4) (oi := { dst := some 80, op := Go.Op.move (Go.Operand.tmp 84), type := 47, pos := "law.go:87", after := #[{ on := 3, ground := Go.Ground.data }], guard := none }) (v := ?_) rfl (by kernel_rfl) (by kernel_rfl) (by kernel_rfl) (fun _ _ _ h => h) (Or.inl ⟨by rfl, ?_⟩) (by assumption) ?_
          rotate_left
          · intro wS hSw
            (try dsimp only at hSw)
            go_simp
            (try with_reducible rfl)
          (try simp only [Act.put, List.setIfInBounds_toArray, List.set_cons_zero, List.set_cons_succ])
          refine wpAnyH_take (i := 5) (oi := { dst := some 85, op := Go.Op.extract (Go.Operand.tmp 80) 0, type := 22, pos := "law.go:87", after := #[{ on := 4, ground := Go.Ground.data }], guard := none }) (v := ?_) rfl (by kernel_rfl) (by kernel_rfl) (by kernel_rfl) (fun _ _ _ h => h) (Or.inl ⟨by rfl, ?_⟩) (by assumption) ?_
          rotate_left
          · intro wS hSw
            (try dsimp only at hSw)
            go_simp
            (try with_reducible rfl)
          (try simp only [Act.put, List.setIfInBounds_toArray, List.set_cons_zero, List.set_cons_succ])
          refine wpAnyH_take (i := 6) (oi := { dst := some 86, op := Go.Op.extract (Go.Operand.tmp 80) 1, type := 31, pos := "law.go:87", after := #[{ on := 4, ground := Go.Ground.data }, { on := 7, ground := Go.Ground.gcOnly Go.Departure.lateStores }], guard := none }) (v := ?_) rfl (by kernel_rfl) (by kernel_rfl) (by kernel_rfl) (fun _ _ _ h => h) (Or.inl ⟨by rfl, ?_⟩) (by assumption) ?_
          rotate_left
          · intro wS hSw
            (try dsimp only at hSw)
            go_simp
            (try with_reducible rfl)
          (try simp only [Act.put, List.setIfInBounds_toArray, List.set_cons_zero, List.set_cons_succ])
          refine wpAnyH_take (i := 7) (oi := { dst := some 17, op := Go.Op.assign (Go.Operand.tmp 85), type := 22, pos := "law.go:87", after := #[{ on := 5, ground := Go.Ground.data }, { on := 3, ground := Go.Ground.chain }, { on := 0, ground := Go.Ground.phase }, { on := 1, ground := Go.Ground.phase }, { on := 2, ground := Go.Ground.phase }, { on := 3, ground := Go.Ground.phase }, { on := 4, ground := Go.Ground.phase }, { on := 5, ground := Go.Ground.phase }, { on := 6, ground := Go.Ground.textOnly Go.Departure.lateStores }], guard := none }) (v := ?_) rfl (by kernel_rfl) (by kernel_rfl) (by kernel_rfl) (fun _ _ _ h => h) (Or.inl ⟨by rfl, ?_⟩) (by assumption) ?_
          rotate_left
          · intro wS hSw
            (try dsimp only at hSw)
            go_simp
            (try with_reducible rfl)
          (try simp only [Act.put, List.setIfInBounds_toArray, List.set_cons_zero, List.set_cons_succ])
          refine wpAnyH_take (i := 8) (oi := { dst := some 18, op := Go.Op.assign (Go.Operand.tmp 86), type := 31, pos := "law.go:87", after := #[{ on := 6, ground := Go.Ground.data }, { on := 7, ground := Go.Ground.chain }, { on := 0, ground := Go.Ground.phase }, { on := 1, ground := Go.Ground.phase }, { on := 2, ground := Go.Ground.phase }, { on := 3, ground := Go.Ground.phase }, { on := 4, ground := Go.Ground.phase }, { on := 5, ground := Go.Ground.phase }, { on := 6, ground := Go.Ground.phase }, { on := 7, ground := Go.Ground.phase }], guard := none }) (v := ?_) rfl (by kernel_rfl) (by kernel_rfl) (by kernel_rfl) (fun _ _ _ h => h) (Or.inl ⟨by rfl, ?_⟩) (by assumption) ?_
          rotate_left
          · intro wS hSw
            (try dsimp only at hSw)
            go_simp
            (try with_reducible rfl)
          (try simp only [Act.put, List.setIfInBounds_toArray, List.set_cons_zero, List.set_cons_succ])
          refine wpAnyH_done (by kernel_rfl) ?_ _
          have HO7 := Lib.hid (HO6.out.trans hP_2)
          have HA7 := Lib.hid (hP_2.blk HA6.out hbt)
          have HB7 := Lib.hid (HBL.out _ HO7.out)
          have hv1 := HCS.out V_2 (HO67.out.trans hP_2)
          have hv2 := HCO.out V_2 (HO57.out.trans hP_2)
          have HV3 := Lib.hid (HCB.out.own hP_2)
          have HV4 := Lib.hid (HCA6.out.own hP_2 (.inl HLO.out.2.2))
          clear hP_2
          go_wp2_with fail
          refine (num_errj HEV.out V_2 (HG.out.below HB7.out HG.out.2)).mono ?_
          rintro e w8 ⟨rfl, hb⟩
          have HB8 := Lib.hid (HB7.out.trans (hb.mono HB7.out.size))
          have HX8b := Lib.hid hb
          clear hb hv1 hv2
          go_wp2_with fail
          refine (num_err03 1 w8 (HG.out.below HB8.out HG.out.2)).mono ?_
          rintro e w9 ⟨rfl, hb⟩
          have HB9 := Lib.hid (HB8.out.trans (hb.mono HB8.out.size))
          have HW9 : Hid (Below V_2.heap.size V_2 w9) := Lib.hid (HX8b.out.trans (hb.mono HX8b.out.size))
          have HA9 := Lib.hid (Blk.below HA7.out HW9.out (Blk.lt HA7.out))
          have HP9 := Lib.hid (HPX.out w9 (HO7.out.then_fresh HW9.out))
          have c1 : w9.cell? ⟨b4, 1, none⟩ = some (.int .i64 N) := by rw [Blk.cell HP9.out]; rfl
          clear hb
          go_wp2_with fail
          refine (num_err03 E w9 (HG.out.below HB9.out HG.out.2)).mono ?_
          rintro e w10 ⟨rfl, hb⟩
          have HB10 := Lib.hid (HB9.out.trans (hb.mono HB9.out.size))
          have HA10 := Lib.hid (Blk.below HA9.out hb (Blk.lt HA9.out))
          have HP10 := Lib.hid (Blk.below HP9.out hb (Blk.lt HP9.out))
          have HW10 : Hid (Below V_2.heap.size V_2 w10) := Lib.hid (HW9.out.trans (hb.mono HW9.out.size))
          have a0 := Blk.cell HA10.out 0
          have a1 := Blk.cell HA10.out 1
          have a2 := Blk.cell HA10.out 2
          have c2 : w10.cell? ⟨b4, 2, none⟩ = some (.int .u32 (gen : Int)) := by rw [Blk.cell HP10.out]; rfl
          have hv3 := HV3.out w10 (Own.of_below HW10.out)
          have hv4 := (HV4.out.later HW10.out).get
          have HSU := Lib.hid (sure03 w10 (HG.out.below HB10.out HG.out.2))
          simp at a0 a1 a2
          clear hb
          go_wp2_with fail
          refine HSU.out.mono ?_
          rintro e w11 ⟨rfl, hb⟩
          have HBE := Lib.hid (HB10.out.trans (hb.mono HB10.out.size))
          clear hb
          go_wp2_with fail
          go_ret
          exact ⟨rfl, HBE.out⟩
        refine AllReadyH.cons (o := { dst := some 13, op := Go.Op.alloc 52, type := 0, pos := "law.go:85", after := #[], guard := none }) rfl (fun K hK => ?_) AllReadyH.nil
        go_simp
        (obtain ⟨ba, hba⟩ : ∃ z, V_1.heap.size = z := ⟨_, rfl⟩; obtain ⟨V_2, hw⟩ : ∃ z, V_1.alloc (.cells #[.int .u8 0, .int .u32 0, .slice none 0 0] 52) = z := ⟨_, rfl⟩; rw [hw, hba]; have hb : Below V_1.heap.size V_1 V_2 := (by rw [← hw]; exact (Below.refl _ _).alloc (Nat.le_refl _) _); have hA_2 : Blk V_2 ba #[.int .u8 0, .int .u32 0, .slice none 0 0] 52 := (by rw [← hw, ← hba]; exact Blk.new _ _ _); have hbt : ba ≠ tb := (by have := hT_1.lt; omega); have HBA : Hid (w5.heap.size ≤ ba) := Lib.hid (by rw [← hba]; exact hP_1.size); have hP_2 := hP_1.then_fresh hb; have hT_2 := hT_1.below hb; replace HSH := Lib.hid (HSH.out.later hb); clear hb hw hba hP_1 hT_1; skip)
        (try go_wp2_with fail)
        refine hK.out _ _ ?_ (fun hHeld => ?_)
        · (try dsimp only)
          first | assumption
        clear hK K
        (try simp only [Act.put, List.setIfInBounds_toArray, List.set_cons_zero, List.set_cons_succ])
        refine wpAnyH_ready (rs := [5]) (by kernel_rfl) (by simp) ?_
        refine AllReadyH.cons (o := { dst := some 70, op := Go.Op.call { callee := Go.Callee.value (Go.Operand.func 23), args := #[Go.Operand.tmp 65, Go.Operand.tmp 67, Go.Operand.tmp 68, Go.Operand.tmp 69], argTypes := #[34, 29, 28, 5] }, type := 53, pos := "law.go:85", after := #[{ on := 0, ground := Go.Ground.data }, { on := 2, ground := Go.Ground.data }, { on := 3, ground := Go.Ground.data }, { on := 4, ground := Go.Ground.data }, { on := 2, ground := Go.Ground.chain }], guard := none }) rfl (fun K hK => ?_) AllReadyH.nil
        go_simp
        (refine (HJC.out x tb kg og V_2 HXR.out.1 HXR.out.2 HX8.out hT_2 HSH.out HGK.out.1 HGK.out.2).mono ?_; rintro e V_3 ⟨ao, al, ac, hr, hC, hL⟩; obtain rfl := (hr.resolve_left (fun h => HE0.out h.1)).2; obtain ⟨lo, hlo⟩ : ∃ z, V_2.heap.size = z := ⟨_, rfl⟩; obtain ⟨hi, hhi⟩ : ∃ z, V_3.heap.size = z := ⟨_, rfl⟩; rw [hlo, hhi] at hC; have hC_3 := hC; have HLO := Lib.hid (show V_2.heap.size = lo ∧ V_3.heap.size = hi ∧ tb < lo from ⟨hlo, hhi, by have := hT_2.lt; omega⟩); have HBJ : Hid (ba < lo ∨ hi ≤ ba) := Lib.hid (.inl (by have := Blk.lt hA_2; omega)); have hP_3 := hP_2.trans hL.2; have hT_3 := hL.1; have hA_3 := hL.2.blk hA_2 hbt; clear hA_2; clear hr hC hL hlo hhi hP_2 hT_2 HSH HGK; skip)
        (try go_wp2_with fail)
        refine hK.out _ _ ?_ (fun hHeld => ?_)
        · (try dsimp only)
          first | assumption
        clear hK K
        (try simp only [Act.put, List.setIfInBounds_toArray, List.set_cons_zero, List.set_cons_succ])
        refine wpAnyH_take (i := 6) (oi := { dst := some 64, op := Go.Op.move (Go.Operand.tmp 70), type := 53, pos := "law.go:85", after := #[{ on := 5, ground := Go.Ground.data }], guard := none }) (v := ?_) rfl (by kernel_rfl) (by kernel_rfl) (by kernel_rfl) (fun _ _ _ h => h) (Or.inl ⟨by rfl, ?_⟩) (by assumption) ?_
        rotate_left
        · intro wS hSw
          (try dsimp only at hSw)
          go_simp
          (try with_reducible rfl)
        (try simp only [Act.put, List.setIfInBounds_toArray, List.set_cons_zero, List.set_cons_succ])
        refine wpAnyH_take (i := 7) (oi := { dst := some 71, op := Go.Op.extract (Go.Operand.tmp 64) 0, type := 52, pos := "law.go:85", after := #[{ on := 6, ground := Go.Ground.data }], guard := none }) (v := ?_) rfl (by kernel_rfl) (by kernel_rfl) (by kernel_rfl) (fun _ _ _ h => h) (Or.inl ⟨by rfl, ?_⟩) (by assumption) ?_
        rotate_left
        · intro wS hSw
          (try dsimp only at hSw)
          go_simp
          (try with_reducible rfl)
        (try simp only [Act.put, List.setIfInBounds_toArray, List.set_cons_zero, List.set_cons_succ])
        refine wpAnyH_take (i := 8) (oi := { dst := some 72, op := Go.Op.extract (Go.Operand.tmp 64) 1, type := 31, pos := "law.go:85", after := #[{ on := 6, ground := Go.Ground.data }, { on := 10, ground := Go.Ground.gcOnly Go.Departure.lateStores }], guard := none }) (v := ?_) rfl (by kernel_rfl) (by kernel_rfl) (by kernel_rfl) (fun _ _ _ h => h) (Or.inl ⟨by rfl, ?_⟩) (by assumption) ?_
        rotate_left
        · intro wS hSw
          (try dsimp only at hSw)
          go_simp
          (try with_reducible rfl)
        (try simp only [Act.put, List.setIfInBounds_toArray, List.set_cons_zero, List.set_cons_succ])
        refine wpAnyH_ready (rs := [10]) (by kernel_rfl) (by simp) ?_
        refine AllReadyH.cons (o := { dst := none, op := Go.Op.store 52 (Go.Operand.tmp 13) (Go.Operand.tmp 71), type := 0, pos := "law.go:85", after := #[{ on := 9, ground := Go.Ground.data }, { on := 7, ground := Go.Ground.data }, { on := 5, ground := Go.Ground.chain }, { on := 0, ground := Go.Ground.phase }, { on := 1, ground := Go.Ground.phase }, { on := 2, ground := Go.Ground.phase }, { on := 3, ground := Go.Ground.phase }, { on := 4, ground := Go.Ground.phase }, { on := 5, ground := Go.Ground.phase }, { on := 6, ground := Go.Ground.phase }, { on := 7, ground := Go.Ground.phase }, { on := 8, ground := Go.Ground.textOnly Go.Departure.lateStores }, { on := 9, ground := Go.Ground.phase }], guard := none }) rfl (fun K hK => ?_) AllReadyH.nil
        (refine step_storeM rfl 52 (.tmp 13) (.tmp 71) rfl ba 0 #[.int .u8 0, .int .u32 0, .slice ao al ac] rfl rfl (hA_3.there (Nat.le_refl 3)) info_share3 (one_share _ _ _ _ _ _ _) ?_; obtain ⟨V_4, hw⟩ : ∃ z, V_3.setCells ba 0 [.int .u8 0, .int .u32 0, .slice ao al ac] = z := ⟨_, rfl⟩; have hO : Own ba V_3 V_4 := (by rw [← hw]; exact Own.setCells (b := ba) [.int .u8 0, .int .u32 0, .slice ao al ac] 0 V_3); have hA_4 : Blk V_4 ba #[.int .u8 0, .int .u32 0, .slice ao al ac] 52 := (by rw [← hw]; exact hA_3.whole3 rfl _ _ _); have hP_4 := hP_3.then_new hO HBA.out; have hT_4 := hT_3.own hO (Ne.symm hbt); rw [hw]; have hC_4 := hC_3.own hO HBJ.out; clear hC_3; clear hO hw hA_3 hP_3 hT_3; skip)
        refine hK.out _ _ ?_ (fun hHeld => ?_)
        · (try dsimp only)
          first | assumption
        clear hK K
        (try simp only [Act.put, List.setIfInBounds_toArray, List.set_cons_zero, List.set_cons_succ])
        refine wpAnyH_take (i := 11) (oi := { dst := some 14, op := Go.Op.assign (Go.Operand.tmp 72), type := 31, pos := "law.go:85", after := #[{ on := 8, ground := Go.Ground.data }, { on := 10, ground := Go.Ground.chain }, { on := 0, ground := Go.Ground.phase }, { on := 1, ground := Go.Ground.phase }, { on := 2, ground := Go.Ground.phase }, { on := 3, ground := Go.Ground.phase }, { on := 4, ground := Go.Ground.phase }, { on := 5, ground := Go.Ground.phase }, { on := 6, ground := Go.Ground.phase }, { on := 7, ground := Go.Ground.phase }, { on := 8, ground := Go.Ground.phase }, { on := 9, ground := Go.Ground.phase }, { on := 10, ground := Go.Ground.phase }], guard := none }) (v := ?_) rfl (by kernel_rfl) (by kernel_rfl) (by kernel_rfl) (fun _ _ _ h => h) (Or.inl ⟨by rfl, ?_⟩) (by assumption) ?_
        rotate_left
        · intro wS hSw
          (try dsimp only at hSw)
          go_simp
          (try with_reducible rfl)
        (try simp only [Act.put, List.setIfInBounds_toArray, List.set_cons_zero, List.set_cons_succ])
        refine wpAnyH_done (by kernel_rfl) ?_ _
        have HO6a := Lib.hid (HO5.out.trans hP_4)
        have HO35 := Lib.hid (HO45.out.trans hP_4)
        have HO55 := Lib.hid hP_4
        have HA5 := Lib.hid hA_4
        have HT6 := Lib.hid hT_4
        have HCA5 := Lib.hid hC_4
        have HRB := Lib.hid (HJB.out x tb cs oa V_4 HX8.out hT_4.lt (HSW.out _ HO6a.out))
        have HPZ := Lib.hid (HPX.out V_4 HO6a.out)
        have c0 : V_4.cell? ⟨b4, 0, none⟩ = some (.int .i64 K) := by rw [Blk.cell HPZ.out]; rfl
        have c1 : V_4.cell? ⟨b4, 1, none⟩ = some (.int .i64 N) := by rw [Blk.cell HPZ.out]; rfl
        have c2 : V_4.cell? ⟨b4, 2, none⟩ = some (.int .u32 (gen : Int)) := by rw [Blk.cell HPZ.out]; rfl
        clear hP_4 hA_4 hT_4 HO5 HO45 hz hC_4
        go_wp2_with fail
        refine HRB.out.mono ?_
        rintro e w6 ⟨bo, bl, bc, rfl, hC, hb⟩
        have HCB := Lib.hid hC
        have HO6 := Lib.hid (HO6a.out.then_fresh hb)
        have HO67 := Lib.hid (HO35.out.then_fresh hb)
        have HO57 := Lib.hid (HO55.out.then_fresh hb)
        have HA6 := Lib.hid (Blk.below HA5.out hb (Blk.lt HA5.out))
        have hT6 : TabIn w6 tb := HT6.out.below hb
        have hT_0 : TabIn w6.drew tb := hT6
        have hP_0 : Own tb w6 w6.drew := (Own.refl _ _).drew
        have HCA6 := Lib.hid (HCA5.out.later hb)
        clear hb hC c0 c1 c2 HRB HPZ HT6 hT6
        go_wp2_with fail
        refine wp_region_held_drew (S := (Own tb w6)) (by kernel_rfl) ?_ (fun hHeld => ?_)
        · (try dsimp only)
          first | assumption
        generalize w6.drew = W6 at *
        refine wpAnyH_take (i := 0) (oi := { dst := some 81, op := Go.Op.move (Go.Operand.tmp 0), type := 36, pos := "law.go:87", after := #[], guard := none }) (v := ?_) rfl (by kernel_rfl) (by kernel_rfl) (by kernel_rfl) (fun _ _ _ h => h) (Or.inl ⟨by rfl, ?_⟩) (by assumption) ?_
        rotate_left
        · intro wS hSw
          (try dsimp only at hSw)
          go_simp
          (try with_reducible rfl)
        (try simp only [Act.put, List.setIfInBounds_toArray, List.set_cons_zero, List.set_cons_succ])
        refine wpAnyH_take (i := 2) (oi := { dst := some 83, op := Go.Op.load 25 (Go.Operand.tmp 4), type := 25, pos := "law.go:87", after := #[], guard := none }) (v := ?_) rfl (by kernel_rfl) (by kernel_rfl) (by kernel_rfl) (fun _ _ _ h => h) (Or.inl ⟨by rfl, ?_⟩) (by assumption) ?_
        rotate_left
        · intro wS hSw
          refine exec_loadM (x := .tmp 4) (cs := [.int .i64 K, .int .i64 N, .int .u32 (gen : Int)]) ?_ ?_ ((HPX.out wS (HO6.out.trans hSw)).range0) Tryd.underlying25 rfl info_rplanJ <;> rfl
        (try simp only [Act.put, List.setIfInBounds_toArray, List.set_cons_zero, List.set_cons_succ])
        refine wpAnyH_ready (rs := [1]) (by kernel_rfl) (by simp) ?_
        refine AllReadyH.cons (o := { dst := some 82, op := Go.Op.call { callee := Go.Callee.value (Go.Operand.func 21), args := #[Go.Operand.tmp 81], argTypes := #[36] }, type := 29, pos := "law.go:87", after := #[{ on := 0, ground := Go.Ground.data }], guard := none }) rfl (fun K hK => ?_) AllReadyH.nil
        go_simp
        (refine (give_any tb n cs oa S W6 hT_0.lt (HSW.out _ (HO6.out.trans hP_0)) HN9.out).mono ?_; rintro e V_1 ⟨og, kg, rfl, hg1, hg2, hSh, hb⟩; have HSH := Lib.hid hSh; have HGK := Lib.hid (show n ≤ kg ∧ kg ≤ maxLen from ⟨hg1, hg2⟩); have hP_1 := hP_0.then_fresh hb; have hT_1 := hT_0.below hb; clear hb hSh hg1 hg2 hP_0 hT_0; skip)
        (try go_wp2_with fail)
        refine hK.out _ _ ?_ (fun hHeld => ?_)
        · (try dsimp only)
          first | assumption
        clear hK K
        (try simp only [Act.put, List.setIfInBounds_toArray, List.set_cons_zero, List.set_cons_succ])
        refine wpAnyH_ready (rs := [3]) (by kernel_rfl) (by simp) ?_
        refine AllReadyH.cons (o := { dst := some 84, op := Go.Op.call { callee := Go.Callee.value (Go.Operand.func 20), args := #[Go.Operand.const (Go.Value.pointer none), Go.Operand.tmp 82, Go.Operand.tmp 83], argTypes := #[34, 29, 28] }, type := 47, pos := "law.go:87", after := #[{ on := 1, ground := Go.Ground.data }, { on := 2, ground := Go.Ground.data }, { on := 1, ground := Go.Ground.chain }], guard := none }) rfl (fun K hK => ?_) AllReadyH.nil
        go_simp
        (refine (HCN.out kg og V_1).mono ?_; rintro e V_2 ⟨rfl, hb⟩; have hP_2 := hP_1.then_fresh hb; clear hb hP_1 hT_1 HSH HGK; skip)
        (try go_wp2_with fail)
        refine hK.out _ _ ?_ (fun hHeld => ?_)
        · (try dsimp only)
          first | assumption
        clear hK K
        (try simp only [Act.put, List.setIfInBounds_toArray, List.set_cons_zero, List.set_cons_succ])
        refine wpAnyH_take (i := 4) (oi := { dst := some 80, op := Go.Op.move (Go.Operand.tmp 84), type := 47, pos := "law.go:87", after := #[{ on := 3, ground := Go.Ground.data }], guard := none }) (v := ?_) rfl (by kernel_rfl) (by kernel_rfl) (by kernel_rfl) (fun _ _ _ h => h) (Or.inl ⟨by rfl, ?_⟩) (by assumption) ?_
        rotate_left
        · intro wS hSw
          (try dsimp only at hSw)
          go_simp
          (try with_reducible rfl)
        (try simp only [Act.put, List.setIfInBounds_toArray, List.set_cons_zero, List.set_cons_succ])
        refine wpAnyH_take (i := 5) (oi := { dst := some 85, op := Go.Op.extract (Go.Operand.tmp 80) 0, type := 22, pos := "law.go:87", after := #[{ on := 4, ground := Go.Ground.data }], guard := none }) (v := ?_) rfl (by kernel_rfl) (by kernel_rfl) (by kernel_rfl) (fun _ _ _ h => h) (Or.inl ⟨by rfl, ?_⟩) (by assumption) ?_
        rotate_left
        · intro wS hSw
          (try dsimp only at hSw)
          go_simp
          (try with_reducible rfl)
        (try simp only [Act.put, List.setIfInBounds_toArray, List.set_cons_zero, List.set_cons_succ])
        refine wpAnyH_take (i := 6) (oi := { dst := some 86, op := Go.Op.extract (Go.Operand.tmp 80) 1, type := 31, pos := "law.go:87", after := #[{ on := 4, ground := Go.Ground.data }, { on := 7, ground := Go.Ground.gcOnly Go.Departure.lateStores }], guard := none }) (v := ?_) rfl (by kernel_rfl) (by kernel_rfl) (by kernel_rfl) (fun _ _ _ h => h) (Or.inl ⟨by rfl, ?_⟩) (by assumption) ?_
        rotate_left
        · intro wS hSw
          (try dsimp only at hSw)
          go_simp
          (try with_reducible rfl)
        (try simp only [Act.put, List.setIfInBounds_toArray, List.set_cons_zero, List.set_cons_succ])
        refine wpAnyH_take (i := 7) (oi := { dst := some 17, op := Go.Op.assign (Go.Operand.tmp 85), type := 22, pos := "law.go:87", after := #[{ on := 5, ground := Go.Ground.data }, { on := 3, ground := Go.Ground.chain }, { on := 0, ground := Go.Ground.phase }, { on := 1, ground := Go.Ground.phase }, { on := 2, ground := Go.Ground.phase }, { on := 3, ground := Go.Ground.phase }, { on := 4, ground := Go.Ground.phase }, { on := 5, ground := Go.Ground.phase }, { on := 6, ground := Go.Ground.textOnly Go.Departure.lateStores }], guard := none }) (v := ?_) rfl (by kernel_rfl) (by kernel_rfl) (by kernel_rfl) (fun _ _ _ h => h) (Or.inl ⟨by rfl, ?_⟩) (by assumption) ?_
        rotate_left
        · intro wS hSw
          (try dsimp only at hSw)
          go_simp
          (try with_reducible rfl)
        (try simp only [Act.put, List.setIfInBounds_toArray, List.set_cons_zero, List.set_cons_succ])
        refine wpAnyH_take (i := 8) (oi := { dst := some 18, op := Go.Op.assign (Go.Operand.tmp 86), type := 31, pos := "law.go:87", after := #[{ on := 6, ground := Go.Ground.data }, { on := 7, ground := Go.Ground.chain }, { on := 0, ground := Go.Ground.phase }, { on := 1, ground := Go.Ground.phase }, { on := 2, ground := Go.Ground.phase }, { on := 3, ground := Go.Ground.phase }, { on := 4, ground := Go.Ground.phase }, { on := 5, ground := Go.Ground.phase }, { on := 6, ground := Go.Ground.phase }, { on := 7, ground := Go.Ground.phase }], guard := none }) (v := ?_) rfl (by kernel_rfl) (by kernel_rfl) (by kernel_rfl) (fun _ _ _ h => h) (Or.inl ⟨by rfl, ?_⟩) (by assumption) ?_
        rotate_left
        · intro wS hSw
          (try dsimp only at hSw)
          go_simp
          (try with_reducible rfl)
        (try simp only [Act.put, List.setIfInBounds_toArray, List.set_cons_zero, List.set_cons_succ])
        refine wpAnyH_done (by kernel_rfl) ?_ _
        have HO7 := Lib.hid (HO6.out.trans hP_2)
        have HA7 := Lib.hid (hP_2.blk HA6.out hbt)
        have HB7 := Lib.hid (HBL.out _ HO7.out)
        have hv1 := HCS.out V_2 (HO67.out.trans hP_2)
        have hv2 := HCO.out V_2 (HO57.out.trans hP_2)
        have HV3 := Lib.hid (HCB.out.own hP_2)
        have HV4 := Lib.hid (HCA6.out.own hP_2 (.inl HLO.out.2.2))
        clear hP_2
        go_wp2_with fail
        refine (num_errj HEV.out V_2 (HG.out.below HB7.out HG.out.2)).mono ?_
        rintro e w8 ⟨rfl, hb⟩
        have HB8 := Lib.hid (HB7.out.trans (hb.mono HB7.out.size))
        have HX8b := Lib.hid hb
        clear hb hv1 hv2
        go_wp2_with fail
        refine (num_err03 1 w8 (HG.out.below HB8.out HG.out.2)).mono ?_
        rintro e w9 ⟨rfl, hb⟩
        have HB9 := Lib.hid (HB8.out.trans (hb.mono HB8.out.size))
        have HW9 : Hid (Below V_2.heap.size V_2 w9) := Lib.hid (HX8b.out.trans (hb.mono HX8b.out.size))
        have HA9 := Lib.hid (Blk.below HA7.out HW9.out (Blk.lt HA7.out))
        have HP9 := Lib.hid (HPX.out w9 (HO7.out.then_fresh HW9.out))
        have c1 : w9.cell? ⟨b4, 1, none⟩ = some (.int .i64 N) := by rw [Blk.cell HP9.out]; rfl
        clear hb
        go_wp2_with fail
        refine (num_err03 E w9 (HG.out.below HB9.out HG.out.2)).mono ?_
        rintro e w10 ⟨rfl, hb⟩
        have HB10 := Lib.hid (HB9.out.trans (hb.mono HB9.out.size))
        have HA10 := Lib.hid (Blk.below HA9.out hb (Blk.lt HA9.out))
        have HP10 := Lib.hid (Blk.below HP9.out hb (Blk.lt HP9.out))
        have HW10 : Hid (Below V_2.heap.size V_2 w10) := Lib.hid (HW9.out.trans (hb.mono HW9.out.size))
        have a0 := Blk.cell HA10.out 0
        have a1 := Blk.cell HA10.out 1
        have a2 := Blk.cell HA10.out 2
        have c2 : w10.cell? ⟨b4, 2, none⟩ = some (.int .u32 (gen : Int)) := by rw [Blk.cell HP10.out]; rfl
        have hv3 := HV3.out w10 (Own.of_below HW10.out)
        have hv4 := (HV4.out.later HW10.out).get
        have HSU := Lib.hid (sure03 w10 (HG.out.below HB10.out HG.out.2))
        simp at a0 a1 a2
        clear hb
        go_wp2_with fail
        refine HSU.out.mono ?_
        rintro e w11 ⟨rfl, hb⟩
        have HBE := Lib.hid (HB10.out.trans (hb.mono HB10.out.size))
        clear hb
        go_wp2_with fail
        go_ret
        exact ⟨rfl, HBE.out⟩
      refine AllReadyH.cons (o := { dst := some 13, op := Go.Op.alloc 52, type := 0, pos := "law.go:85", after := #[], guard := none }) rfl (fun K hK => ?_) AllReadyH.nil
      go_simp
      (obtain ⟨ba, hba⟩ : ∃ z, W5.heap.size = z := ⟨_, rfl⟩; obtain ⟨V_1, hw⟩ : ∃ z, W5.alloc (.cells #[.int .u8 0, .int .u32 0, .slice none 0 0] 52) = z := ⟨_, rfl⟩; rw [hw, hba]; have hb : Below W5.heap.size W5 V_1 := (by rw [← hw]; exact (Below.refl _ _).alloc (Nat.le_refl _) _); have hA_1 : Blk V_1 ba #[.int .u8 0, .int .u32 0, .slice none 0 0] 52 := (by rw [← hw, ← hba]; exact Blk.new _ _ _); have hbt : ba ≠ tb := (by have := hT_0.lt; omega); have HBA : Hid (w5.heap.size ≤ ba) := Lib.hid (by rw [← hba]; exact hP_0.size); have hP_1 := hP_0.then_fresh hb; have hT_1 := hT_0.below hb; clear hb hw hba hP_0 hT_0; skip)
      (try go_wp2_with fail)
      refine hK.out _ _ ?_ (fun hHeld => ?_)
      · (try dsimp only)
        first | assumption
      clear hK K
      (try simp only [Act.put, List.setIfInBounds_toArray, List.set_cons_zero, List.set_cons_succ])
      refine wpAnyH_ready (rs := [2]) (by kernel_rfl) (by simp) ?_
      refine AllReadyH.cons (o := { dst := some 67, op := Go.Op.call { callee := Go.Callee.value (Go.Operand.func 21), args := #[Go.Operand.tmp 66], argTypes := #[36] }, type := 29, pos := "law.go:85", after := #[{ on := 1, ground := Go.Ground.data }], guard := none }) rfl (fun K hK => ?_) AllReadyH.nil
      go_simp
      (refine (give_any tb n cs oa S V_1 hT_1.lt (HSW.out _ (HO5.out.trans hP_1)) HN9.out).mono ?_; rintro e V_2 ⟨og, kg, rfl, hg1, hg2, hSh, hb⟩; have HSH := Lib.hid hSh; have HGK := Lib.hid (show n ≤ kg ∧ kg ≤ maxLen from ⟨hg1, hg2⟩); have hP_2 := hP_1.then_fresh hb; have hT_2 := hT_1.below hb; have hA_2 := Blk.below hA_1 hb (Blk.lt hA_1); clear hA_1; clear hb hSh hg1 hg2 hP_1 hT_1; skip)
      (try go_wp2_with fail)
      refine hK.out _ _ ?_ (fun hHeld => ?_)
      · (try dsimp only)
        first | assumption
      clear hK K
      (try simp only [Act.put, List.setIfInBounds_toArray, List.set_cons_zero, List.set_cons_succ])
      refine wpAnyH_ready (rs := [5]) (by kernel_rfl) (by simp) ?_
      refine AllReadyH.cons (o := { dst := some 70, op := Go.Op.call { callee := Go.Callee.value (Go.Operand.func 23), args := #[Go.Operand.tmp 65, Go.Operand.tmp 67, Go.Operand.tmp 68, Go.Operand.tmp 69], argTypes := #[34, 29, 28, 5] }, type := 53, pos := "law.go:85", after := #[{ on := 0, ground := Go.Ground.data }, { on := 2, ground := Go.Ground.data }, { on := 3, ground := Go.Ground.data }, { on := 4, ground := Go.Ground.data }, { on := 2, ground := Go.Ground.chain }], guard := none }) rfl (fun K hK => ?_) AllReadyH.nil
      go_simp
      (refine (HJC.out x tb kg og V_2 HXR.out.1 HXR.out.2 HX8.out hT_2 HSH.out HGK.out.1 HGK.out.2).mono ?_; rintro e V_3 ⟨ao, al, ac, hr, hC, hL⟩; obtain rfl := (hr.resolve_left (fun h => HE0.out h.1)).2; obtain ⟨lo, hlo⟩ : ∃ z, V_2.heap.size = z := ⟨_, rfl⟩; obtain ⟨hi, hhi⟩ : ∃ z, V_3.heap.size = z := ⟨_, rfl⟩; rw [hlo, hhi] at hC; have hC_3 := hC; have HLO := Lib.hid (show V_2.heap.size = lo ∧ V_3.heap.size = hi ∧ tb < lo from ⟨hlo, hhi, by have := hT_2.lt; omega⟩); have HBJ : Hid (ba < lo ∨ hi ≤ ba) := Lib.hid (.inl (by have := Blk.lt hA_2; omega)); have hP_3 := hP_2.trans hL.2; have hT_3 := hL.1; have hA_3 := hL.2.blk hA_2 hbt; clear hA_2; clear hr hC hL hlo hhi hP_2 hT_2 HSH HGK; skip)
      (try go_wp2_with fail)
      refine hK.out _ _ ?_ (fun hHeld => ?_)
      · (try dsimp only)
        first | assumption
      clear hK K
      (try simp only [Act.put, List.setIfInBounds_toArray, List.set_cons_zero, List.set_cons_succ])
      refine wpAnyH_take (i := 6) (oi := { dst := some 64, op := Go.Op.move (Go.Operand.tmp 70), type := 53, pos := "law.go:85", after := #[{ on := 5, ground := Go.Ground.data }], guard := none }) (v := ?_) rfl (by kernel_rfl) (by kernel_rfl) (by kernel_rfl) (fun _ _ _ h => h) (Or.inl ⟨by rfl, ?_⟩) (by assumption) ?_
      rotate_left
      · intro wS hSw
        (try dsimp only at hSw)
        go_simp
        (try with_reducible rfl)
      (try simp only [Act.put, List.setIfInBounds_toArray, List.set_cons_zero, List.set_cons_succ])
      refine wpAnyH_take (i := 7) (oi := { dst := some 71, op := Go.Op.extract (Go.Operand.tmp 64) 0, type := 52, pos := "law.go:85", after := #[{ on := 6, ground := Go.Ground.data }], guard := none }) (v := ?_) rfl (by kernel_rfl) (by kernel_rfl) (by kernel_rfl) (fun _ _ _ h => h) (Or.inl ⟨by rfl, ?_⟩) (by assumption) ?_
      rotate_left
      · intro wS hSw
        (try dsimp only at hSw)
        go_simp
        (try with_reducible rfl)
      (try simp only [Act.put, List.setIfInBounds_toArray, List.set_cons_zero, List.set_cons_succ])
      refine wpAnyH_take (i := 8) (oi := { dst := some 72, op := Go.Op.extract (Go.Operand.tmp 64) 1, type := 31, pos := "law.go:85", after := #[{ on := 6, ground := Go.Ground.data }, { on := 10, ground := Go.Ground.gcOnly Go.Departure.lateStores }], guard := none }) (v := ?_) rfl (by kernel_rfl) (by kernel_rfl) (by kernel_rfl) (fun _ _ _ h => h) (Or.inl ⟨by rfl, ?_⟩) (by assumption) ?_
      rotate_left
      · intro wS hSw
        (try dsimp only at hSw)
        go_simp
        (try with_reducible rfl)
      (try simp only [Act.put, List.setIfInBounds_toArray, List.set_cons_zero, List.set_cons_succ])
      refine wpAnyH_ready (rs := [10]) (by kernel_rfl) (by simp) ?_
      refine AllReadyH.cons (o := { dst := none, op := Go.Op.store 52 (Go.Operand.tmp 13) (Go.Operand.tmp 71), type := 0, pos := "law.go:85", after := #[{ on := 9, ground := Go.Ground.data }, { on := 7, ground := Go.Ground.data }, { on := 5, ground := Go.Ground.chain }, { on := 0, ground := Go.Ground.phase }, { on := 1, ground := Go.Ground.phase }, { on := 2, ground := Go.Ground.phase }, { on := 3, ground := Go.Ground.phase }, { on := 4, ground := Go.Ground.phase }, { on := 5, ground := Go.Ground.phase }, { on := 6, ground := Go.Ground.phase }, { on := 7, ground := Go.Ground.phase }, { on := 8, ground := Go.Ground.textOnly Go.Departure.lateStores }, { on := 9, ground := Go.Ground.phase }], guard := none }) rfl (fun K hK => ?_) AllReadyH.nil
      (refine step_storeM rfl 52 (.tmp 13) (.tmp 71) rfl ba 0 #[.int .u8 0, .int .u32 0, .slice ao al ac] rfl rfl (hA_3.there (Nat.le_refl 3)) info_share3 (one_share _ _ _ _ _ _ _) ?_; obtain ⟨V_4, hw⟩ : ∃ z, V_3.setCells ba 0 [.int .u8 0, .int .u32 0, .slice ao al ac] = z := ⟨_, rfl⟩; have hO : Own ba V_3 V_4 := (by rw [← hw]; exact Own.setCells (b := ba) [.int .u8 0, .int .u32 0, .slice ao al ac] 0 V_3); have hA_4 : Blk V_4 ba #[.int .u8 0, .int .u32 0, .slice ao al ac] 52 := (by rw [← hw]; exact hA_3.whole3 rfl _ _ _); have hP_4 := hP_3.then_new hO HBA.out; have hT_4 := hT_3.own hO (Ne.symm hbt); rw [hw]; have hC_4 := hC_3.own hO HBJ.out; clear hC_3; clear hO hw hA_3 hP_3 hT_3; skip)
      refine hK.out _ _ ?_ (fun hHeld => ?_)
      · (try dsimp only)
        first | assumption
      clear hK K
      (try simp only [Act.put, List.setIfInBounds_toArray, List.set_cons_zero, List.set_cons_succ])
      refine wpAnyH_take (i := 11) (oi := { dst := some 14, op := Go.Op.assign (Go.Operand.tmp 72), type := 31, pos := "law.go:85", after := #[{ on := 8, ground := Go.Ground.data }, { on := 10, ground := Go.Ground.chain }, { on := 0, ground := Go.Ground.phase }, { on := 1, ground := Go.Ground.phase }, { on := 2, ground := Go.Ground.phase }, { on := 3, ground := Go.Ground.phase }, { on := 4, ground := Go.Ground.phase }, { on := 5, ground := Go.Ground.phase }, { on := 6, ground := Go.Ground.phase }, { on := 7, ground := Go.Ground.phase }, { on := 8, ground := Go.Ground.phase }, { on := 9, ground := Go.Ground.phase }, { on := 10, ground := Go.Ground.phase }], guard := none }) (v := ?_) rfl (by kernel_rfl) (by kernel_rfl) (by kernel_rfl) (fun _ _ _ h => h) (Or.inl ⟨by rfl, ?_⟩) (by assumption) ?_
      rotate_left
      · intro wS hSw
        (try dsimp only at hSw)
        go_simp
        (try with_reducible rfl)
      (try simp only [Act.put, List.setIfInBounds_toArray, List.set_cons_zero, List.set_cons_succ])
      refine wpAnyH_done (by kernel_rfl) ?_ _
      have HO6a := Lib.hid (HO5.out.trans hP_4)
      have HO35 := Lib.hid (HO45.out.trans hP_4)
      have HO55 := Lib.hid hP_4
      have HA5 := Lib.hid hA_4
      have HT6 := Lib.hid hT_4
      have HCA5 := Lib.hid hC_4
      have HRB := Lib.hid (HJB.out x tb cs oa V_4 HX8.out hT_4.lt (HSW.out _ HO6a.out))
      have HPZ := Lib.hid (HPX.out V_4 HO6a.out)
      have c0 : V_4.cell? ⟨b4, 0, none⟩ = some (.int .i64 K) := by rw [Blk.cell HPZ.out]; rfl
      have c1 : V_4.cell? ⟨b4, 1, none⟩ = some (.int .i64 N) := by rw [Blk.cell HPZ.out]; rfl
      have c2 : V_4.cell? ⟨b4, 2, none⟩ = some (.int .u32 (gen : Int)) := by rw [Blk.cell HPZ.out]; rfl
      clear hP_4 hA_4 hT_4 HO5 HO45 hz hC_4
      go_wp2_with fail
      refine HRB.out.mono ?_
      rintro e w6 ⟨bo, bl, bc, rfl, hC, hb⟩
      have HCB := Lib.hid hC
      have HO6 := Lib.hid (HO6a.out.then_fresh hb)
      have HO67 := Lib.hid (HO35.out.then_fresh hb)
      have HO57 := Lib.hid (HO55.out.then_fresh hb)
      have HA6 := Lib.hid (Blk.below HA5.out hb (Blk.lt HA5.out))
      have hT6 : TabIn w6 tb := HT6.out.below hb
      have hT_0 : TabIn w6.drew tb := hT6
      have hP_0 : Own tb w6 w6.drew := (Own.refl _ _).drew
      have HCA6 := Lib.hid (HCA5.out.later hb)
      clear hb hC c0 c1 c2 HRB HPZ HT6 hT6
      go_wp2_with fail
      refine wp_region_held_drew (S := (Own tb w6)) (by kernel_rfl) ?_ (fun hHeld => ?_)
      · (try dsimp only)
        first | assumption
      generalize w6.drew = W6 at *
      refine wpAnyH_take (i := 0) (oi := { dst := some 81, op := Go.Op.move (Go.Operand.tmp 0), type := 36, pos := "law.go:87", after := #[], guard := none }) (v := ?_) rfl (by kernel_rfl) (by kernel_rfl) (by kernel_rfl) (fun _ _ _ h => h) (Or.inl ⟨by rfl, ?_⟩) (by assumption) ?_
      rotate_left
      · intro wS hSw
        (try dsimp only at hSw)
        go_simp
        (try with_reducible rfl)
      (try simp only [Act.put, List.setIfInBounds_toArray, List.set_cons_zero, List.set_cons_succ])
      refine wpAnyH_take (i := 2) (oi := { dst := some 83, op := Go.Op.load 25 (Go.Operand.tmp 4), type := 25, pos := "law.go:87", after := #[], guard := none }) (v := ?_) rfl (by kernel_rfl) (by kernel_rfl) (by kernel_rfl) (fun _ _ _ h => h) (Or.inl ⟨by rfl, ?_⟩) (by assumption) ?_
      rotate_left
      · intro wS hSw
        refine exec_loadM (x := .tmp 4) (cs := [.int .i64 K, .int .i64 N, .int .u32 (gen : Int)]) ?_ ?_ ((HPX.out wS (HO6.out.trans hSw)).range0) Tryd.underlying25 rfl info_rplanJ <;> rfl
      (try simp only [Act.put, List.setIfInBounds_toArray, List.set_cons_zero, List.set_cons_succ])
      refine wpAnyH_ready (rs := [1]) (by kernel_rfl) (by simp) ?_
      refine AllReadyH.cons (o := { dst := some 82, op := Go.Op.call { callee := Go.Callee.value (Go.Operand.func 21), args := #[Go.Operand.tmp 81], argTypes := #[36] }, type := 29, pos := "law.go:87", after := #[{ on := 0, ground := Go.Ground.data }], guard := none }) rfl (fun K hK => ?_) AllReadyH.nil
      go_simp
      (refine (give_any tb n cs oa S W6 hT_0.lt (HSW.out _ (HO6.out.trans hP_0)) HN9.out).mono ?_; rintro e V_1 ⟨og, kg, rfl, hg1, hg2, hSh, hb⟩; have HSH := Lib.hid hSh; have HGK := Lib.hid (show n ≤ kg ∧ kg ≤ maxLen from ⟨hg1, hg2⟩); have hP_1 := hP_0.then_fresh hb; have hT_1 := hT_0.below hb; clear hb hSh hg1 hg2 hP_0 hT_0; skip)
      (try go_wp2_with fail)
      refine hK.out _ _ ?_ (fun hHeld => ?_)
      · (try dsimp only)
        first | assumption
      clear hK K
      (try simp only [Act.put, List.setIfInBounds_toArray, List.set_cons_zero, List.set_cons_succ])
      refine wpAnyH_ready (rs := [3]) (by kernel_rfl) (by simp) ?_
      refine AllReadyH.cons (o := { dst := some 84, op := Go.Op.call { callee := Go.Callee.value (Go.Operand.func 20), args := #[Go.Operand.const (Go.Value.pointer none), Go.Operand.tmp 82, Go.Operand.tmp 83], argTypes := #[34, 29, 28] }, type := 47, pos := "law.go:87", after := #[{ on := 1, ground := Go.Ground.data }, { on := 2, ground := Go.Ground.data }, { on := 1, ground := Go.Ground.chain }], guard := none }) rfl (fun K hK => ?_) AllReadyH.nil
      go_simp
      (refine (HCN.out kg og V_1).mono ?_; rintro e V_2 ⟨rfl, hb⟩; have hP_2 := hP_1.then_fresh hb; clear hb hP_1 hT_1 HSH HGK; skip)
      (try go_wp2_with fail)
      refine hK.out _ _ ?_ (fun hHeld => ?_)
      · (try dsimp only)
        first | assumption
      clear hK K
      (try simp only [Act.put, List.setIfInBounds_toArray, List.set_cons_zero, List.set_cons_succ])
      refine wpAnyH_take (i := 4) (oi := { dst := some 80, op := Go.Op.move (Go.Operand.tmp 84), type := 47, pos := "law.go:87", after := #[{ on := 3, ground := Go.Ground.data }], guard := none }) (v := ?_) rfl (by kernel_rfl) (by kernel_rfl) (by kernel_rfl) (fun _ _ _ h => h) (Or.inl ⟨by rfl, ?_⟩) (by assumption) ?_
      rotate_left
      · intro wS hSw
        (try dsimp only at hSw)
        go_simp
        (try with_reducible rfl)
      (try simp only [Act.put, List.setIfInBounds_toArray, List.set_cons_zero, List.set_cons_succ])
      refine wpAnyH_take (i := 5) (oi := { dst := some 85, op := Go.Op.extract (Go.Operand.tmp 80) 0, type := 22, pos := "law.go:87", after := #[{ on := 4, ground := Go.Ground.data }], guard := none }) (v := ?_) rfl (by kernel_rfl) (by kernel_rfl) (by kernel_rfl) (fun _ _ _ h => h) (Or.inl ⟨by rfl, ?_⟩) (by assumption) ?_
      rotate_left
      · intro wS hSw
        (try dsimp only at hSw)
        go_simp
        (try with_reducible rfl)
      (try simp only [Act.put, List.setIfInBounds_toArray, List.set_cons_zero, List.set_cons_succ])
      refine wpAnyH_take (i := 6) (oi := { dst := some 86, op := Go.Op.extract (Go.Operand.tmp 80) 1, type := 31, pos := "law.go:87", after := #[{ on := 4, ground := Go.Ground.data }, { on := 7, ground := Go.Ground.gcOnly Go.Departure.lateStores }], guard := none }) (v := ?_) rfl (by kernel_rfl) (by kernel_rfl) (by kernel_rfl) (fun _ _ _ h => h) (Or.inl ⟨by rfl, ?_⟩) (by assumption) ?_
      rotate_left
      · intro wS hSw
        (try dsimp only at hSw)
        go_simp
        (try with_reducible rfl)
      (try simp only [Act.put, List.setIfInBounds_toArray, List.set_cons_zero, List.set_cons_succ])
      refine wpAnyH_take (i := 7) (oi := { dst := some 17, op := Go.Op.assign (Go.Operand.tmp 85), type := 22, pos := "law.go:87", after := #[{ on := 5, ground := Go.Ground.data }, { on := 3, ground := Go.Ground.chain }, { on := 0, ground := Go.Ground.phase }, { on := 1, ground := Go.Ground.phase }, { on := 2, ground := Go.Ground.phase }, { on := 3, ground := Go.Ground.phase }, { on := 4, ground := Go.Ground.phase }, { on := 5, ground := Go.Ground.phase }, { on := 6, ground := Go.Ground.textOnly Go.Departure.lateStores }], guard := none }) (v := ?_) rfl (by kernel_rfl) (by kernel_rfl) (by kernel_rfl) (fun _ _ _ h => h) (Or.inl ⟨by rfl, ?_⟩) (by assumption) ?_
      rotate_left
      · intro wS hSw
        (try dsimp only at hSw)
        go_simp
        (try with_reducible rfl)
      (try simp only [Act.put, List.setIfInBounds_toArray, List.set_cons_zero, List.set_cons_succ])
      refine wpAnyH_take (i := 8) (oi := { dst := some 18, op := Go.Op.assign (Go.Operand.tmp 86), type := 31, pos := "law.go:87", after := #[{ on := 6, ground := Go.Ground.data }, { on := 7, ground := Go.Ground.chain }, { on := 0, ground := Go.Ground.phase }, { on := 1, ground := Go.Ground.phase }, { on := 2, ground := Go.Ground.phase }, { on := 3, ground := Go.Ground.phase }, { on := 4, ground := Go.Ground.phase }, { on := 5, ground := Go.Ground.phase }, { on := 6, ground := Go.Ground.phase }, { on := 7, ground := Go.Ground.phase }], guard := none }) (v := ?_) rfl (by kernel_rfl) (by kernel_rfl) (by kernel_rfl) (fun _ _ _ h => h) (Or.inl ⟨by rfl, ?_⟩) (by assumption) ?_
      rotate_left
      · intro wS hSw
        (try dsimp only at hSw)
        go_simp
        (try with_reducible rfl)
      (try simp only [Act.put, List.setIfInBounds_toArray, List.set_cons_zero, List.set_cons_succ])
      refine wpAnyH_done (by kernel_rfl) ?_ _
      have HO7 := Lib.hid (HO6.out.trans hP_2)
      have HA7 := Lib.hid (hP_2.blk HA6.out hbt)
      have HB7 := Lib.hid (HBL.out _ HO7.out)
      have hv1 := HCS.out V_2 (HO67.out.trans hP_2)
      have hv2 := HCO.out V_2 (HO57.out.trans hP_2)
      have HV3 := Lib.hid (HCB.out.own hP_2)
      have HV4 := Lib.hid (HCA6.out.own hP_2 (.inl HLO.out.2.2))
      clear hP_2
      go_wp2_with fail
      refine (num_errj HEV.out V_2 (HG.out.below HB7.out HG.out.2)).mono ?_
      rintro e w8 ⟨rfl, hb⟩
      have HB8 := Lib.hid (HB7.out.trans (hb.mono HB7.out.size))
      have HX8b := Lib.hid hb
      clear hb hv1 hv2
      go_wp2_with fail
      refine (num_err03 1 w8 (HG.out.below HB8.out HG.out.2)).mono ?_
      rintro e w9 ⟨rfl, hb⟩
      have HB9 := Lib.hid (HB8.out.trans (hb.mono HB8.out.size))
      have HW9 : Hid (Below V_2.heap.size V_2 w9) := Lib.hid (HX8b.out.trans (hb.mono HX8b.out.size))
      have HA9 := Lib.hid (Blk.below HA7.out HW9.out (Blk.lt HA7.out))
      have HP9 := Lib.hid (HPX.out w9 (HO7.out.then_fresh HW9.out))
      have c1 : w9.cell? ⟨b4, 1, none⟩ = some (.int .i64 N) := by rw [Blk.cell HP9.out]; rfl
      clear hb
      go_wp2_with fail
      refine (num_err03 E w9 (HG.out.below HB9.out HG.out.2)).mono ?_
      rintro e w10 ⟨rfl, hb⟩
      have HB10 := Lib.hid (HB9.out.trans (hb.mono HB9.out.size))
      have HA10 := Lib.hid (Blk.below HA9.out hb (Blk.lt HA9.out))
      have HP10 := Lib.hid (Blk.below HP9.out hb (Blk.lt HP9.out))
      have HW10 : Hid (Below V_2.heap.size V_2 w10) := Lib.hid (HW9.out.trans (hb.mono HW9.out.size))
      have a0 := Blk.cell HA10.out 0
      have a1 := Blk.cell HA10.out 1
      have a2 := Blk.cell HA10.out 2
      have c2 : w10.cell? ⟨b4, 2, none⟩ = some (.int .u32 (gen : Int)) := by rw [Blk.cell HP10.out]; rfl
      have hv3 := HV3.out w10 (Own.of_below HW10.out)
      have hv4 := (HV4.out.later HW10.out).get
      have HSU := Lib.hid (sure03 w10 (HG.out.below HB10.out HG.out.2))
      simp at a0 a1 a2
      clear hb
      go_wp2_with fail
      refine HSU.out.mono ?_
      rintro e w11 ⟨rfl, hb⟩
      have HBE := Lib.hid (HB10.out.trans (hb.mono HB10.out.size))
      clear hb
      go_wp2_with fail
      go_ret
      exact ⟨rfl, HBE.out⟩
end Go.Proofs.YtmhofofidmbgfaaDoor
