/- SharecodeBack. -/
import Derived.Test.YtmhofofidmbgfaaDoorScA
namespace Go.Proofs.YtmhofofidmbgfaaDoor
set_option linter.unusedVariables false
set_option linter.unusedSimpArgs false
open Go.RowKit

/-- Decode of a part's bytes. -/
theorem dec_enc {ix gen n c : Nat} {oa : Option Addr} {f : Nat → Nat} (w : World) (hm : MayS ix n) (hg : gen < 4294967296) (hB : Bytes w oa (8 + n) (encF ix gen n f)) (hc : 8 + n ≤ c) :
    Calls Tryd.prog 31 #[.slice oa (8 + n) c] w fun e w' => ∃ g c, e = .returned (.tuple #[.agg #[.int .u8 (ix : Nat), .int .u32 (gen : Nat), .slice (some ⟨g, 0, none⟩) n c], .nilIface]) ∧ n ≤ c ∧ Bytes w' (some ⟨g, 0, none⟩) n f ∧ Below w.heap.size w w' := by
  refine (dec_any (8 + n) c oa (encF ix gen n f) w hB hc (isEnc_enc hm)).mono ?_
  rintro e w' ⟨g, c', rfl, _, h2, _, h4, h5⟩
  rw [show 8 + n - 8 = n by omega] at h2 h4
  refine ⟨g, c', ?_, h2, fun k hk => ?_, h5⟩
  · rw [encF_6, genOf_enc hg, show 8 + n - 8 = n by omega]
  · have := h4 k hk
    simp only [encF_hi] at this
    exact this
theorem not_enc_cut {ix gen n k : Nat} {f g : Nat → Nat} (hk : k ≠ 8 + n) (he : ∀ i, i < k → i < 8 + n → g i = encF ix gen n f i) (hn : 1 ≤ n) : ¬ IsEnc k g := fun h => by
  have lo := h.lo
  have := h.len
  rw [he 7 (by omega) (by omega), encF_7] at this
  omega
theorem cut_mod (cut : Int) (M : Nat) (h : 0 < M) (hM : M < 1000) : ∃ K : Nat, K < M ∧ (IntKind.u64.wrap cut).tmod (M : Int) = (K : Int) ∧ IntKind.u64.wrap cut % (M : Int) = (K : Int) := by
  have h0 : 0 ≤ IntKind.u64.wrap cut := by rw [IntKind.wrap_u64]; omega
  have h1 := Int.emod_nonneg (IntKind.u64.wrap cut) (show (M : Int) ≠ 0 by omega)
  have h2 := Int.emod_lt_of_pos (IntKind.u64.wrap cut) (show (0 : Int) < (M : Int) by omega)
  exact ⟨(IntKind.u64.wrap cut % (M : Int)).toNat, by omega, by rw [Int.tmod_eq_emod_of_nonneg h0]; omega, by omega⟩
set_option maxRecDepth 100000 in
set_option maxHeartbeats 16000000 in
theorem back_any (ix gen n cap m cm : Nat) (oa ob : Option Addr) (f F : Nat → Nat) (cut : Int) (w : World) (hg : Handle w) (hix : ix < 256) (hgen : gen < 4294967296) (hB : Bytes w oa n f) (hnc : n ≤ cap) (hcm : cap ≤ maxLen) (hno : oa = none → n = 0) (hBb : Bytes w ob m F) (hmc : m ≤ cm) (hmm : cm ≤ maxLen) (hno2 : ob = none → m = 0) :
    Calls Tryd.prog 9 #[.agg #[.int .u8 (ix : Int), .int .u32 (gen : Int), .slice oa n cap], .slice ob m cm, .int .i64 cut] w fun e w' => e = .returned (.bool true) ∧ Below w.heap.size w w' := by
  have hn9 : n < 9223372036854775808 := by unfold maxLen at hcm; omega
  have hm9 : m < 9223372036854775808 := by unfold maxLen at hmm; omega
  obtain ⟨w0, hw0⟩ : ∃ y, w.alloc (.cells #[.int .u8 (ix : Int), .int .u32 (gen : Int), .slice oa n cap] 46) = y := ⟨_, rfl⟩
  obtain ⟨b3, hb3⟩ : ∃ y, w.heap.size = y := ⟨_, rfl⟩
  have HB0 : Hid (Below w.heap.size w w0) := Lib.hid (by rw [← hw0]; exact (Below.refl _ _).alloc (Nat.le_refl _) _)
  have HBX : Hid (Blk w0 b3 #[.int .u8 (ix : Int), .int .u32 (gen : Int), .slice oa n cap] 46) := Lib.hid (by rw [← hw0, ← hb3]; exact Blk.new _ _ _)
  have c0 : w0.cell? ⟨b3, 0, none⟩ = some (.int .u8 (ix : Int)) := by rw [Blk.cell HBX.out]; rfl
  have c1 : w0.cell? ⟨b3, 1, none⟩ = some (.int .u32 (gen : Int)) := by rw [Blk.cell HBX.out]; rfl
  have c2 : w0.cell? ⟨b3, 2, none⟩ = some (.slice oa n cap) := by rw [Blk.cell HBX.out]; rfl
  have HG := Lib.hid (show ∀ w', Below w.heap.size w w' → Handle w' from fun w' h => hg.below h hg.2)
  have HS : Hid (∀ w', Below w.heap.size w w' → Bytes w' oa n f) := Lib.hid fun w' h => hB.later h
  have HBB : Hid (∀ w', Below w.heap.size w w' → Bytes w' ob m F) := Lib.hid fun w' h => hBb.later h
  have HNN : Hid ((oa = none → n = 0) ∧ (ob = none → m = 0) ∧ n ≤ cap ∧ m ≤ cm) := Lib.hid ⟨hno, hno2, hnc, hmc⟩
  have HIX : Hid (ix < 256 ∧ gen < 4294967296) := Lib.hid ⟨hix, hgen⟩
  have HSU : Hid (∀ w', Below w.heap.size w w' → Calls Tryd.prog 27 #[] w' fun e w2 => e = .returned (.bool true) ∧ Below w'.heap.size w' w2) := Lib.hid fun w' h => sure04 w' (HG.out w' h)
  clear hg hix hgen hB hnc hcm hno hBb hmc hmm hno2
  by_cases ha : 300 < n
  · have q : (300 : Int) < (n : Int) := by omega
    clear ha
    go_enter Tryd.func9, Tryd.ntmps9
    rw [hb3]
    go_wp2_with fail
    refine (HSU.out w0 HB0.out).mono ?_
    rintro e w9 ⟨rfl, hb⟩
    have HBF := Lib.hid (HB0.out.trans (hb.mono HB0.out.size))
    clear hb
    go_wp2_with fail
    go_ret
    exact ⟨rfl, hb3 ▸ HBF.out⟩
  by_cases ha2 : 1000 < m
  · have q : decide ((300 : Int) < (n : Int)) = false := decide_eq_false (by omega)
    have q2 : (1000 : Int) < (m : Int) := by omega
    clear ha ha2
    go_enter Tryd.func9, Tryd.ntmps9
    rw [hb3]
    go_wp2_with fail
    refine (HSU.out w0 HB0.out).mono ?_
    rintro e w9 ⟨rfl, hb⟩
    have HBF := Lib.hid (HB0.out.trans (hb.mono HB0.out.size))
    clear hb
    go_wp2_with fail
    go_ret
    exact ⟨rfl, hb3 ▸ HBF.out⟩
  have q : decide ((300 : Int) < (n : Int)) = false := decide_eq_false (by omega)
  have q2 : decide ((1000 : Int) < (m : Int)) = false := decide_eq_false (by omega)
  have HN3 : Hid (n ≤ 300 ∧ m ≤ 1000) := Lib.hid (by omega)
  clear ha ha2
  by_cases hmay : MayS ix n
  · have HM := Lib.hid hmay
    have HE := Lib.hid (enc_any ix gen n cap oa f w0 hmay HIX.out.1 HIX.out.2 (HS.out w0 HB0.out))
    clear hmay
    go_enter Tryd.func9, Tryd.ntmps9
    rw [hb3]
    go_wp2_with fail
    refine HE.out.mono ?_
    rintro e w1 ⟨g1, k1, rfl, hge, hk1, hkm, hB1, hb1⟩
    have H1 := Lib.hid hb1
    have HR1 := Lib.hid (show 8 + n ≤ k1 ∧ k1 ≤ maxLen ∧ w0.heap.size ≤ g1 from ⟨hk1, hkm, hge⟩)
    have HY1 := Lib.hid hB1
    have hx1 := Blk.below HBX.out hb1 (Blk.lt HBX.out)
    replace c0 : w1.cell? ⟨b3, 0, none⟩ = some (.int .u8 (ix : Int)) := by rw [Blk.cell hx1]; rfl
    replace c1 : w1.cell? ⟨b3, 1, none⟩ = some (.int .u32 (gen : Int)) := by rw [Blk.cell hx1]; rfl
    replace c2 : w1.cell? ⟨b3, 2, none⟩ = some (.slice oa n cap) := by rw [Blk.cell hx1]; rfl
    have HW1 := Lib.hid (HB0.out.trans (hb1.mono HB0.out.size))
    have HTX := Lib.hid (text_any ix gen n cap oa f w1 HM.out HIX.out.1 HIX.out.2 (HS.out w1 HW1.out))
    obtain ⟨TX, hTX⟩ : ∃ y, txtS ix gen n f = y := ⟨_, rfl⟩
    rw [hTX] at HTX
    have HPT : Hid (∀ w', _) := Lib.hid (fun w' => parse_txt (ix := ix) (gen := gen) (n := n) (f := f) w' HM.out HIX.out.1 HIX.out.2 (fun i hi => ((HS.out w1 HW1.out) i hi).1))
    rw [hTX] at HPT
    obtain ⟨M, hM⟩ : ∃ y, 8 + n = y := ⟨_, rfl⟩
    have HMN := Lib.hid (show 8 + n = M ∧ 1 ≤ n ∧ n ≤ 64 from ⟨hM, HM.out.2.1, HM.out.2.2⟩)
    rw [hM] at HY1 HR1 ⊢
    have hM1 : ¬ (M : Int) = 0 := by omega
    have hM2 : ((M : Int) == 0) = false := by rw [beq_eq_false_iff_ne]; exact hM1
    have hM3 : (0 : Int) < (M : Int) := by omega
    have hM4 : ¬ M = 0 := by omega
    clear hge hk1 hkm hB1 hb1 hx1 HE hM hTX
    go_wp2_with fail
    refine HTX.out.mono ?_
    rintro e w2 ⟨rfl, hb2⟩
    have H2 := Lib.hid hb2
    have HW2 := Lib.hid (HW1.out.trans (hb2.mono HW1.out.size))
    clear hb2 c0 c1 c2 HTX
    go_wp2_with fail
    have hD3 : Below w2.heap.size w2 w2.drew := ⟨rfl, rfl, rfl, Nat.le_refl _, fun _ _ => rfl⟩
    refine wp_region_held_drew (S := (Below w2.heap.size w2)) (by kernel_rfl) ?_ (fun hHeld => ?_)
    · (try dsimp only)
      assumption
    generalize w2.drew = W3 at *
    refine wpAnyH_take (i := 0) (oi := { dst := some 43, op := Go.Op.move (Go.Operand.tmp 8), type := 31, pos := "law.go:62", after := #[], guard := none }) (v := ?_) rfl (by kernel_rfl) (by kernel_rfl) (by kernel_rfl) (fun _ _ _ h => h) (Or.inl ⟨by rfl, ?_⟩) (by assumption) ?_
    rotate_left
    · intro wS hSw
      (try dsimp only at hSw)
      go_simp
      (try with_reducible rfl)
    (try simp only [Act.put, List.setIfInBounds_toArray, List.set_cons_zero, List.set_cons_succ])
    refine wpAnyH_take (i := 1) (oi := { dst := some 44, op := Go.Op.binOp Go.BinOp.eql 31 (Go.Operand.tmp 43) (Go.Operand.const Go.Value.nilIface) 31, type := 4, pos := "law.go:62", after := #[{ on := 0, ground := Go.Ground.data }], guard := none }) (v := ?_) rfl (by kernel_rfl) (by kernel_rfl) (by kernel_rfl) (fun _ _ _ h => h) (Or.inl ⟨by rfl, ?_⟩) (by assumption) ?_
    rotate_left
    · intro wS hSw
      (try dsimp only at hSw)
      go_simp
      (try with_reducible rfl)
    (try simp only [Act.put, List.setIfInBounds_toArray, List.set_cons_zero, List.set_cons_succ])
    refine wpAnyH_take (i := 2) (oi := { dst := some 45, op := Go.Op.move (Go.Operand.tmp 10), type := 31, pos := "law.go:62", after := #[], guard := none }) (v := ?_) rfl (by kernel_rfl) (by kernel_rfl) (by kernel_rfl) (fun _ _ _ h => h) (Or.inl ⟨by rfl, ?_⟩) (by assumption) ?_
    rotate_left
    · intro wS hSw
      (try dsimp only at hSw)
      go_simp
      (try with_reducible rfl)
    (try simp only [Act.put, List.setIfInBounds_toArray, List.set_cons_zero, List.set_cons_succ])
    refine wpAnyH_take (i := 3) (oi := { dst := some 46, op := Go.Op.binOp Go.BinOp.eql 31 (Go.Operand.tmp 45) (Go.Operand.const Go.Value.nilIface) 31, type := 4, pos := "law.go:62", after := #[{ on := 2, ground := Go.Ground.data }], guard := none }) (v := ?_) rfl (by kernel_rfl) (by kernel_rfl) (by kernel_rfl) (fun _ _ _ h => h) (Or.inl ⟨by rfl, ?_⟩) (by assumption) ?_
    rotate_left
    · intro wS hSw
      (try dsimp only at hSw)
      go_simp
      (try with_reducible rfl)
    (try simp only [Act.put, List.setIfInBounds_toArray, List.set_cons_zero, List.set_cons_succ])
    refine wpAnyH_take (i := 4) (oi := { dst := some 47, op := Go.Op.binOp Go.BinOp.neq 4 (Go.Operand.tmp 44) (Go.Operand.tmp 46) 4, type := 4, pos := "law.go:62", after := #[{ on := 1, ground := Go.Ground.data }, { on := 3, ground := Go.Ground.data }], guard := none }) (v := ?_) rfl (by kernel_rfl) (by kernel_rfl) (by kernel_rfl) (fun _ _ _ h => h) (Or.inl ⟨by rfl, ?_⟩) (by assumption) ?_
    rotate_left
    · intro wS hSw
      (try dsimp only at hSw)
      go_simp
      (try with_reducible rfl)
    (try simp only [Act.put, List.setIfInBounds_toArray, List.set_cons_zero, List.set_cons_succ])
    refine wpAnyH_take (i := 5) (oi := { dst := some 48, op := Go.Op.move (Go.Operand.tmp 47), type := 4, pos := "law.go:62", after := #[{ on := 4, ground := Go.Ground.data }], guard := none }) (v := ?_) rfl (by kernel_rfl) (by kernel_rfl) (by kernel_rfl) (fun _ _ _ h => h) (Or.inl ⟨by rfl, ?_⟩) (by assumption) ?_
    rotate_left
    · intro wS hSw
      (try dsimp only at hSw)
      go_simp
      (try with_reducible rfl)
    (try simp only [Act.put, List.setIfInBounds_toArray, List.set_cons_zero, List.set_cons_succ])
    refine wpAnyH_take (i := 6) (oi := { dst := some 49, op := Go.Op.move (Go.Operand.tmp 8), type := 31, pos := "law.go:62", after := #[{ on := 5, ground := Go.Ground.guard }], guard := some (5, false) }) (v := ?_) rfl (by kernel_rfl) (by kernel_rfl) (by kernel_rfl) (fun _ _ _ h => h) (Or.inl ⟨by rfl, ?_⟩) (by assumption) ?_
    rotate_left
    · intro wS hSw
      (try dsimp only at hSw)
      go_simp
      (try with_reducible rfl)
    (try simp only [Act.put, List.setIfInBounds_toArray, List.set_cons_zero, List.set_cons_succ])
    refine wpAnyH_take (i := 7) (oi := { dst := some 50, op := Go.Op.binOp Go.BinOp.eql 31 (Go.Operand.tmp 49) (Go.Operand.const Go.Value.nilIface) 31, type := 4, pos := "law.go:62", after := #[{ on := 6, ground := Go.Ground.data }, { on := 5, ground := Go.Ground.guard }], guard := some (5, false) }) (v := ?_) rfl (by kernel_rfl) (by kernel_rfl) (by kernel_rfl) (fun _ _ _ h => h) (Or.inl ⟨by rfl, ?_⟩) (by assumption) ?_
    rotate_left
    · intro wS hSw
      (try dsimp only at hSw)
      go_simp
      (try with_reducible rfl)
    (try simp only [Act.put, List.setIfInBounds_toArray, List.set_cons_zero, List.set_cons_succ])
    refine wpAnyH_take (i := 8) (oi := { dst := some 51, op := Go.Op.move (Go.Operand.tmp 50), type := 4, pos := "law.go:62", after := #[{ on := 7, ground := Go.Ground.data }, { on := 5, ground := Go.Ground.chain }, { on := 5, ground := Go.Ground.guard }], guard := some (5, false) }) (v := ?_) rfl (by kernel_rfl) (by kernel_rfl) (by kernel_rfl) (fun _ _ _ h => h) (Or.inl ⟨by rfl, ?_⟩) (by assumption) ?_
    rotate_left
    · intro wS hSw
      (try dsimp only at hSw)
      go_simp
      (try with_reducible rfl)
    (try simp only [Act.put, List.setIfInBounds_toArray, List.set_cons_zero, List.set_cons_succ])
    refine wpAnyH_take (i := 9) (oi := { dst := some 52, op := Go.Op.move (Go.Operand.tmp 7), type := 22, pos := "law.go:62", after := #[{ on := 8, ground := Go.Ground.guard }], guard := some (8, true) }) (v := ?_) rfl (by kernel_rfl) (by kernel_rfl) (by kernel_rfl) (fun _ _ _ h => h) (Or.inl ⟨by rfl, ?_⟩) (by assumption) ?_
    rotate_left
    · intro wS hSw
      (try dsimp only at hSw)
      go_simp
      (try with_reducible rfl)
    (try simp only [Act.put, List.setIfInBounds_toArray, List.set_cons_zero, List.set_cons_succ])
    refine wpAnyH_take (i := 10) (oi := { dst := some 53, op := Go.Op.call { callee := Go.Callee.builtin Go.Builtin.len, args := #[Go.Operand.tmp 52], argTypes := #[22] }, type := 3, pos := "law.go:62", after := #[{ on := 9, ground := Go.Ground.data }, { on := 8, ground := Go.Ground.guard }], guard := some (8, true) }) (v := ?_) rfl (by kernel_rfl) (by kernel_rfl) (by kernel_rfl) (fun _ _ _ h => h) (Or.inl ⟨by rfl, ?_⟩) (by assumption) ?_
    rotate_left
    · intro wS hSw
      (try dsimp only at hSw)
      go_simp
      (try with_reducible rfl)
    (try simp only [Act.put, List.setIfInBounds_toArray, List.set_cons_zero, List.set_cons_succ])
    refine wpAnyH_take (i := 11) (oi := { dst := some 54, op := Go.Op.binOp Go.BinOp.eql 3 (Go.Operand.tmp 53) (Go.Operand.const (Go.Value.int Go.IntKind.i64 0)) 3, type := 4, pos := "law.go:62", after := #[{ on := 10, ground := Go.Ground.data }, { on := 8, ground := Go.Ground.guard }], guard := some (8, true) }) (v := ?_) rfl (by kernel_rfl) (by kernel_rfl) (by kernel_rfl) (fun _ _ _ h => h) (Or.inl ⟨by rfl, ?_⟩) (by assumption) ?_
    rotate_left
    · intro wS hSw
      (try dsimp only at hSw)
      go_simp
      (try with_reducible rfl)
    (try simp only [Act.put, List.setIfInBounds_toArray, List.set_cons_zero, List.set_cons_succ])
    refine wpAnyH_take (i := 12) (oi := { dst := some 55, op := Go.Op.pick (Go.Operand.tmp 51) (Go.Operand.tmp 54) (Go.Operand.const (Go.Value.bool false)), type := 4, pos := "law.go:62", after := #[{ on := 8, ground := Go.Ground.data }, { on := 11, ground := Go.Ground.data }, { on := 5, ground := Go.Ground.guard }], guard := some (5, false) }) (v := ?_) rfl (by kernel_rfl) (by kernel_rfl) (by kernel_rfl) (fun _ _ _ h => h) (Or.inl ⟨by rfl, ?_⟩) (by assumption) ?_
    rotate_left
    · intro wS hSw
      (try dsimp only at hSw)
      go_simp
      (try with_reducible rfl)
    (try simp only [Act.put, List.setIfInBounds_toArray, List.set_cons_zero, List.set_cons_succ])
    refine wpAnyH_take (i := 13) (oi := { dst := some 56, op := Go.Op.pick (Go.Operand.tmp 48) (Go.Operand.const (Go.Value.bool true)) (Go.Operand.tmp 55), type := 4, pos := "law.go:62", after := #[{ on := 5, ground := Go.Ground.data }, { on := 12, ground := Go.Ground.data }], guard := none }) (v := ?_) rfl (by kernel_rfl) (by kernel_rfl) (by kernel_rfl) (fun _ _ _ h => h) (Or.inl ⟨by rfl, ?_⟩) (by assumption) ?_
    rotate_left
    · intro wS hSw
      (try dsimp only at hSw)
      go_simp
      (try with_reducible rfl)
    (try simp only [Act.put, List.setIfInBounds_toArray, List.set_cons_zero, List.set_cons_succ])
    refine wpAnyH_done (by kernel_rfl) ?_ _
    have HW3 : Hid (Below w.heap.size w W3) := Lib.hid (HW2.out.trans (hD3.mono HW2.out.size))
    have H13 : Hid (Below w1.heap.size w1 W3) := Lib.hid (H2.out.trans (hD3.mono H2.out.size))
    clear hD3
    have HD4 := Lib.hid (dec_enc (ix := ix) (gen := gen) (n := n) (f := f) (c := k1) W3 HM.out HIX.out.2 (by rw [HMN.out.1]; exact HY1.out.later H13.out) (by rw [HMN.out.1]; exact HR1.out.1))
    rw [HMN.out.1] at HD4
    go_wp2_with fail
    refine HD4.out.mono ?_
    rintro e w4 ⟨g4, k4, rfl, hk4, hB4, hb4⟩
    obtain ⟨w5, hw5⟩ : ∃ y, w4.alloc (.cells #[.int .u8 (ix : Nat), .int .u32 (gen : Nat), .slice (some ⟨g4, 0, none⟩) n k4] 52) = y := ⟨_, rfl⟩
    have hb5 : Below w4.heap.size w4 w5 := by rw [← hw5]; exact (Below.refl _ _).alloc (Nat.le_refl _) _
    have hS5 : Blk w5 w4.heap.size #[.int .u8 (ix : Nat), .int .u32 (gen : Nat), .slice (some ⟨g4, 0, none⟩) n k4] 52 := by rw [← hw5]; exact Blk.new _ _ _
    obtain ⟨b11, hb11⟩ : ∃ y, w4.heap.size = y := ⟨_, rfl⟩
    have HS5 := Lib.hid hS5
    have HY4 := Lib.hid hB4
    have H45 := Lib.hid hb5
    have HW5 := Lib.hid (HW3.out.trans ((hb4.trans (hb5.mono hb4.size)).mono HW3.out.size))
    have H15 := Lib.hid (H13.out.trans ((hb4.trans (hb5.mono hb4.size)).mono H13.out.size))
    have HB11 := Lib.hid hb11
    clear hk4 hB4 hb4 hb5 hS5 HD4
    go_wp2_with fail
    refine (HPT.out _).mono ?_
    rintro e w6 ⟨g6, k6, rfl, -, hk6, -, hB6, hb6⟩
    obtain ⟨w7, hw7⟩ : ∃ y, w6.alloc (.cells #[.int .u8 (ix : Nat), .int .u32 (gen : Nat), .slice (some ⟨g6, 0, none⟩) n k6] 52) = y := ⟨_, rfl⟩
    have hb7 : Below w6.heap.size w6 w7 := by rw [← hw7]; exact (Below.refl _ _).alloc (Nat.le_refl _) _
    have hS7 : Blk w7 w6.heap.size #[.int .u8 (ix : Nat), .int .u32 (gen : Nat), .slice (some ⟨g6, 0, none⟩) n k6] 52 := by rw [← hw7]; exact Blk.new _ _ _
    have HS7 := Lib.hid hS7
    have HY6 := Lib.hid hB6
    have H67 := Lib.hid hb7
    have H57 := Lib.hid (hb6.trans (hb7.mono hb6.size))
    have HW7 := Lib.hid (HW5.out.trans (H57.out.mono HW5.out.size))
    have H17 := Lib.hid (H15.out.trans (H57.out.mono H15.out.size))
    obtain ⟨K, hKM, hk1', hk2'⟩ := cut_mod cut M (by have := HMN.out; omega) (by have := HMN.out; omega)
    have hKk : K ≤ k1 := by have := HR1.out; omega
    have hK0 : (0 : Int) ≤ (K : Int) ∧ (K : Int) ≤ (k1 : Int) := by omega
    have hKw : IntKind.i64.wrap (K : Int) = (K : Int) := by have := HMN.out; rw [IntWalk.i64_in _ (by omega)]
    have hMw : IntKind.u64.wrap (M : Int) = (M : Int) := by have := HMN.out; rw [IntKind.wrap_u64]; omega
    have HK := Lib.hid (show K < M from hKM)
    have HDC := Lib.hid (dec_bad K k1 (some ⟨g1, 0, none⟩) (encF ix gen n f) w7 (by have := HMN.out; omega) ((HY1.out.later H17.out).mono (by omega)) (not_enc_cut (ix := ix) (gen := gen) (f := f) (by have := HMN.out; omega) (fun _ _ _ => rfl) HMN.out.2.1))
    unfold zSh eN at HDC
    clear hk6 hB6 hb6 hb7 hS7 hKM hb11
    go_wp2_with fail
    refine HDC.out.mono ?_
    rintro e w8 ⟨rfl, hb8⟩
    have hb9 : Below w8.heap.size w8 ((w8.alloc (.cells #[.int .u8 0, .int .u32 0, .slice none 0 0] 52)).alloc (.cells #[] 5)) := ((Below.refl _ w8).alloc (Nat.le_refl _) _).alloc (by simp) _
    have H79 := Lib.hid (hb8.trans (hb9.mono hb8.size))
    have H89 := Lib.hid hb9
    have hgr : Grow ((w8.alloc (.cells #[.int .u8 0, .int .u32 0, .slice none 0 0] 52)).alloc (.cells #[] 5)) w8.heap.size (.slice (some ⟨w8.heap.size + 1, 0, none⟩) 0 0) 0 (fun _ => 0) := Grow.empty (by simpa using Blk.new (w8.alloc (.cells #[.int .u8 0, .int .u32 0, .slice none 0 0] 52)) #[] 5) (Nat.le_succ _) _
    have HGR := Lib.hid hgr
    have HY9 : Hid (Bytes ((w8.alloc (.cells #[.int .u8 0, .int .u32 0, .slice none 0 0] 52)).alloc (.cells #[] 5)) (some ⟨g1, 0, none⟩) M (encF ix gen n f)) := Lib.hid ((HY1.out.later H17.out).later H79.out)
    have H78 := Lib.hid hb8
    clear hb8 hb9 hgr HDC hk1' hk2' hKk hK0 hKw hMw hw5 hw7
    go_wp2_with (first
      | (refine wpList_appO rfl (.tmp 83) (.tmp 84) rfl w8.heap.size (.slice (some ⟨w8.heap.size + 1, 0, none⟩) 0 0) 0 M k1 (some ⟨g1, 0, none⟩) (fun _ => 0) (encF ix gen n f) ((w8.alloc (.cells #[.int .u8 0, .int .u32 0, .slice none 0 0] 52)).alloc (.cells #[] 5)) rfl HGR.out rfl (fun e => by cases e) HY9.out (by have := HMN.out; omega) H89.out.size ?_
         refine Hid.out ?_))
    refine Lib.hid ?_
    intro v10 w10 hG10 hg10 ho10
    have H810 := Lib.hid (H89.out.trans (grow_bel HGR.out H89.out.size hg10))
    have HG10 : Hid (Grow w10 w8.heap.size v10 M (encF ix gen n f)) := Lib.hid (by
      (try rw [Nat.zero_add] at hG10)
      exact hG10.congr fun i hi => by unfold catF; rw [if_neg (by omega), Nat.sub_zero])
    have hb11' : Below w8.heap.size w8 (w10.alloc (.cells #[.int .u8 0] 5)) := H810.out.trans ((Below.refl _ w10).alloc H810.out.size _)
    have H811 := Lib.hid hb11'
    have HG11 : Hid (Grow (w10.alloc (.cells #[.int .u8 0] 5)) w8.heap.size v10 M (encF ix gen n f)) := Lib.hid (HG10.out.later ((Below.refl _ w10).alloc (Nat.le_refl _) _))
    clear hG10 hg10 ho10 hb11'
    go_wp2_with (first
      | (refine wpList_appO rfl (.tmp 85) (.tmp 86) rfl w8.heap.size v10 M 1 1 (some ⟨w10.heap.size, 0, none⟩) (encF ix gen n f) (fun _ => 0) (w10.alloc (.cells #[.int .u8 0] 5)) rfl HG11.out rfl (fun e => by cases e) (one_byte (x := 0) (by decide)) (by have := HMN.out; omega) H811.out.size ?_
         refine Hid.out ?_))
    refine Lib.hid ?_
    intro v12 w12 hG12 hg12 ho12
    have H812 := Lib.hid (H811.out.trans (grow_bel HG11.out H811.out.size hg12))
    have hbd : ∀ i, i < M + 1 → catF M (encF ix gen n f) (fun _ => 0) i < 256 := catF_b (fun i hi => by
      have := HMN.out
      exact encF_lt HIX.out.1 (by omega) (fun k hk => ((HS.out w1 HW1.out) k hk).1) i (by omega)) (fun _ _ => by decide)
    obtain ⟨o12, k12, hv12, hB12, hk12, -⟩ := hG12.bytesC hbd
    subst hv12
    have H712 := Lib.hid (H78.out.trans (H812.out.mono H78.out.size))
    have HDB2 := Lib.hid (dec_bad (M + 1) k12 o12 (catF M (encF ix gen n f) (fun _ => 0)) w12 (by have := HMN.out; omega) hB12 (not_enc_cut (ix := ix) (gen := gen) (n := n) (f := f) (by have := HMN.out; omega) (fun i _ hi => by unfold catF; rw [if_pos (by have := HMN.out; omega)]) HMN.out.2.1))
    unfold zSh eN at HDB2
    clear hG12 hg12 ho12 hbd hB12 hk12
    go_wp2_with fail
    refine HDB2.out.mono ?_
    rintro e w13 ⟨rfl, hb13⟩
    obtain ⟨w14, hw14⟩ : ∃ y, (w13.alloc (.cells #[.int .u8 0, .int .u32 0, .slice none 0 0] 52)) = y := ⟨_, rfl⟩
    have hb14 : Below w13.heap.size w13 w14 := by rw [← hw14]; exact (Below.refl _ _).alloc (Nat.le_refl _) _
    have H7e := Lib.hid (H712.out.trans ((hb13.trans (hb14.mono hb13.size)).mono H712.out.size))
    have H5e := Lib.hid (H57.out.trans (H7e.out.mono H57.out.size))
    have H1e := Lib.hid (H17.out.trans (H7e.out.mono H17.out.size))
    have H0e := Lib.hid (H1.out.trans (H1e.out.mono H1.out.size))
    have H4e := Lib.hid (H45.out.trans (H5e.out.mono H45.out.size))
    have H6e := Lib.hid (H67.out.trans (H7e.out.mono H67.out.size))
    have HWe := Lib.hid (HW7.out.trans (H7e.out.mono HW7.out.size))
    have hx3 := Blk.below HBX.out H0e.out (Blk.lt HBX.out)
    have hx11 := Blk.below HS5.out H5e.out (Blk.lt HS5.out)
    have hx13 := Blk.below HS7.out H7e.out (Blk.lt HS7.out)
    rw [HB11.out] at hx11
    have HX3 := Lib.hid hx3
    have HX11 := Lib.hid hx11
    have HX13 := Lib.hid hx13
    have c0 : w14.cell? ⟨b3, 0, none⟩ = some (.int .u8 (ix : Int)) := by rw [Blk.cell hx3]; rfl
    have c1 : w14.cell? ⟨b3, 1, none⟩ = some (.int .u32 (gen : Int)) := by rw [Blk.cell hx3]; rfl
    have c2 : w14.cell? ⟨b3, 2, none⟩ = some (.slice oa n cap) := by rw [Blk.cell hx3]; rfl
    have d0 : w14.cell? ⟨b11, 0, none⟩ = some (.int .u8 (ix : Int)) := by rw [Blk.cell hx11]; rfl
    have d1 : w14.cell? ⟨b11, 1, none⟩ = some (.int .u32 (gen : Int)) := by rw [Blk.cell hx11]; rfl
    have d2 : w14.cell? ⟨b11, 2, none⟩ = some (.slice (some ⟨g4, 0, none⟩) n k4) := by rw [Blk.cell hx11]; rfl
    have HI1 := Lib.hid (isshare_any ix gen n n k4 cap (some ⟨g4, 0, none⟩) oa (strF n f) w14 (fun w' h => ((HY4.out.later H4e.out).later h).conv) (fun w' h => conv_any (HS.out w' (HWe.out.trans (h.mono HWe.out.size))) HNN.out.1))
    clear hb13 hb14 hx3 hx11 hx13 HDB2
    subst hw14
    go_wp2_with (first | (go_at_call 37; refine HI1.out.mono ?_; refine Hid.out ?_))
    refine Lib.hid ?_
    rintro e w15 ⟨rfl, hb15⟩
    have hx3 := Blk.below HX3.out hb15 (Blk.lt HX3.out)
    have hx13 := Blk.below HX13.out hb15 (Blk.lt HX13.out)
    have H6f := Lib.hid (H6e.out.trans (hb15.mono H6e.out.size))
    have HWf := Lib.hid (HWe.out.trans (hb15.mono HWe.out.size))
    have c0 : w15.cell? ⟨b3, 0, none⟩ = some (.int .u8 (ix : Int)) := by rw [Blk.cell hx3]; rfl
    have c1 : w15.cell? ⟨b3, 1, none⟩ = some (.int .u32 (gen : Int)) := by rw [Blk.cell hx3]; rfl
    have c2 : w15.cell? ⟨b3, 2, none⟩ = some (.slice oa n cap) := by rw [Blk.cell hx3]; rfl
    have d0 : w15.cell? ⟨w6.heap.size, 0, none⟩ = some (.int .u8 (ix : Int)) := by rw [Blk.cell hx13]; rfl
    have d1 : w15.cell? ⟨w6.heap.size, 1, none⟩ = some (.int .u32 (gen : Int)) := by rw [Blk.cell hx13]; rfl
    have d2 : w15.cell? ⟨w6.heap.size, 2, none⟩ = some (.slice (some ⟨g6, 0, none⟩) n k6) := by rw [Blk.cell hx13]; rfl
    have HI2 := Lib.hid (isshare_any ix gen n n k6 cap (some ⟨g6, 0, none⟩) oa (strF n f) w15 (fun w' h => ((HY6.out.later H6f.out).later h).conv) (fun w' h => conv_any (HS.out w' (HWf.out.trans (h.mono HWf.out.size))) HNN.out.1))
    clear hb15 hx3 hx13 HI1
    go_wp2_with (first | (go_at_call 37; refine HI2.out.mono ?_; refine Hid.out ?_))
    refine Lib.hid ?_
    rintro e w16 ⟨rfl, hb16⟩
    have HWg := Lib.hid (HWf.out.trans (hb16.mono HWf.out.size))
    have HN1 := Lib.hid (num_err04 4 w16 (HG.out w16 HWg.out))
    clear hb16 c0 c1 c2 d0 d1 d2 HI2
    go_wp2_with (first | (go_at_call 35; refine HN1.out.mono ?_; refine Hid.out ?_))
    refine Lib.hid ?_
    rintro e w17 ⟨rfl, hb17⟩
    have HWh := Lib.hid (HWg.out.trans (hb17.mono HWg.out.size))
    have HN2 := Lib.hid (num_err04 4 w17 (HG.out w17 HWh.out))
    clear hb17 HN1
    go_wp2_with (first | (go_at_call 35; refine HN2.out.mono ?_; refine Hid.out ?_))
    refine Lib.hid ?_
    rintro e w18 ⟨rfl, hb18⟩
    have HWi := Lib.hid (HWh.out.trans (hb18.mono HWh.out.size))
    clear hb18 HN2
    have HB2y := Lib.hid (HBB.out w18 HWi.out)
    go_wp2_with fail
    by_cases hE : IsEnc m F
    · refine (dec_any m cm ob F w18 HB2y.out HNN.out.2.2.2 hE).mono ?_
      rintro e x1 ⟨gd, kd, rfl, hgd, hkd, hkm2, hBd, hbd⟩
      have hlo := hE.lo
      have hhi := hE.hi
      have HE2 := Lib.hid hE
      have hfb : ∀ i, i < m → F i < 256 := fun i hi => (HB2y.out i hi).1
      obtain ⟨i6, e6⟩ : ∃ y, F 6 = y := ⟨_, rfl⟩
      obtain ⟨gg, eg⟩ : ∃ y, genOf F = y := ⟨_, rfl⟩
      obtain ⟨M2, eM⟩ : ∃ y, m - 8 = y := ⟨_, rfl⟩
      have HX1 := Lib.hid (HWi.out.trans (hbd.mono HWi.out.size))
      have HQ := Lib.hid (show F 6 = i6 ∧ genOf F = gg ∧ m - 8 = M2 from ⟨e6, eg, eM⟩)
      have HMM : Hid (MayS i6 M2) := Lib.hid ⟨by rw [← e6]; exact hE.ix, by omega, by omega⟩
      have hi6 : i6 < 256 := by rw [← e6]; exact hfb 6 (by omega)
      have hgg : gg < 4294967296 := by rw [← eg]; exact genOf_lt hfb (by omega)
      rw [eM] at hBd hkd
      obtain ⟨x2, hx2⟩ : ∃ y, x1.alloc (.cells #[.int .u8 (i6 : Nat), .int .u32 (gg : Nat), .slice (some ⟨gd, 0, none⟩) M2 kd] 52) = y := ⟨_, rfl⟩
      have hbx2 : Below x1.heap.size x1 x2 := by rw [← hx2]; exact (Below.refl _ _).alloc (Nat.le_refl _) _
      have hS2 : Blk x2 x1.heap.size #[.int .u8 (i6 : Nat), .int .u32 (gg : Nat), .slice (some ⟨gd, 0, none⟩) M2 kd] 52 := by rw [← hx2]; exact Blk.new _ _ _
      have y0 : x2.cell? ⟨x1.heap.size, 0, none⟩ = some (.int .u8 (i6 : Int)) := by rw [Blk.cell hS2]; rfl
      have y1 : x2.cell? ⟨x1.heap.size, 1, none⟩ = some (.int .u32 (gg : Int)) := by rw [Blk.cell hS2]; rfl
      have y2 : x2.cell? ⟨x1.heap.size, 2, none⟩ = some (.slice (some ⟨gd, 0, none⟩) M2 kd) := by rw [Blk.cell hS2]; rfl
      have HX2 := Lib.hid (HX1.out.trans (hbx2.mono HX1.out.size))
      have HEN := Lib.hid (enc_any i6 gg M2 kd (some ⟨gd, 0, none⟩) (fun k => F (8 + k)) x2 HMM.out hi6 hgg (hBd.later hbx2))
      have HS3 : Hid (strF (8 + M2) (encF i6 gg M2 (fun k => F (8 + k))) = strF m F) := Lib.hid (by
        rw [show 8 + M2 = m by omega]
        refine strF_congr fun i hi => ?_
        have := enc_of hfb hE i hi
        rwa [e6, eg, eM] at this)
      rw [e6, eg, eM]
      clear e6 eg eM hE hlo hhi hfb hi6 hgg hBd hkd hkm2 hgd hbd hbx2 hS2
      go_wp2_with fail
      refine HEN.out.mono ?_
      rintro e x3 ⟨ge, ke, rfl, -, hke, hkm3, hBe, hbe⟩
      have HX3 := Lib.hid (HX2.out.trans (hbe.mono HX2.out.size))
      have s1 : (convert 22 9 (.slice (some ⟨ge, 0, none⟩) (8 + M2) ke)).run Tryd.prog x3 = .ok (.string (strF m F)) x3 := by rw [← HS3.out]; exact hBe.conv
      have s2 : (convert 22 9 (.slice ob m cm)).run Tryd.prog x3 = .ok (.string (strF m F)) x3 := conv_any (HBB.out x3 HX3.out) HNN.out.2.1
      obtain ⟨SS, hSS⟩ : ∃ y, strF m F = y := ⟨_, rfl⟩
      rw [hSS] at s1 s2
      clear hke hkm3 hBe hbe y0 y1 y2 hx2 hSS
      go_wp2_with (first
        | (refine wpList_valueG rfl (exec_convO (x := .tmp 146) rfl rfl s1) ?_)
        | (refine wpList_valueG rfl (exec_convO (x := .tmp 148) rfl rfl s2) ?_)
        | (go_at_call 27; refine (HSU.out x3 HX3.out).mono ?_; refine Hid.out ?_))
      refine Lib.hid ?_
      rintro e x4 ⟨rfl, hb⟩
      have HX4 := Lib.hid (HX3.out.trans (hb.mono HX3.out.size))
      clear hb
      go_wp2_with fail
      go_ret
      exact ⟨rfl, hb3 ▸ HX4.out⟩
    · have HDB := Lib.hid (dec_bad m cm ob F w18 (by have := HN3.out; omega) HB2y.out hE)
      unfold zSh eN at HDB
      refine HDB.out.mono ?_
      rintro e x1 ⟨rfl, hb⟩
      have HX1 := Lib.hid (HWi.out.trans (hb.mono HWi.out.size))
      have HX2 : Hid (Below w.heap.size w (x1.alloc (.cells #[.int .u8 0, .int .u32 0, .slice none 0 0] 52))) := Lib.hid (HX1.out.trans ((Below.refl _ x1).alloc HX1.out.size _))
      clear hb hE HDB
      go_wp2_with (first
        | (go_at_call 27; refine (HSU.out _ HX2.out).mono ?_; refine Hid.out ?_))
      refine Lib.hid ?_
      rintro e x4 ⟨rfl, hb⟩
      have HX4 := Lib.hid (HX2.out.trans (hb.mono HX2.out.size))
      clear hb
      go_wp2_with fail
      go_ret
      exact ⟨rfl, hb3 ▸ HX4.out⟩
  · have HM := Lib.hid hmay
    have HE := Lib.hid (enc_bad ix gen n cap oa w0 (by have := HN3.out; omega) hmay)
    unfold eN at HE
    clear hmay
    go_enter Tryd.func9, Tryd.ntmps9
    rw [hb3]
    go_wp2_with fail
    refine HE.out.mono ?_
    rintro e w1 ⟨rfl, hb1⟩
    have H1 := Lib.hid hb1
    have hx1 := Blk.below HBX.out hb1 (Blk.lt HBX.out)
    replace c0 : w1.cell? ⟨b3, 0, none⟩ = some (.int .u8 (ix : Int)) := by rw [Blk.cell hx1]; rfl
    replace c1 : w1.cell? ⟨b3, 1, none⟩ = some (.int .u32 (gen : Int)) := by rw [Blk.cell hx1]; rfl
    replace c2 : w1.cell? ⟨b3, 2, none⟩ = some (.slice oa n cap) := by rw [Blk.cell hx1]; rfl
    have HW1 := Lib.hid (HB0.out.trans (hb1.mono HB0.out.size))
    have HTX := Lib.hid (text_bad ix gen n cap oa w1 (by have := HN3.out; omega) HM.out)
    unfold eN at HTX
    clear hb1 hx1 HE
    go_wp2_with fail
    refine HTX.out.mono ?_
    rintro e w2 ⟨rfl, hb2⟩
    have HW2 := Lib.hid (HW1.out.trans (hb2.mono HW1.out.size))
    clear hb2 c0 c1 c2 HTX
    have hD3 : Below w2.heap.size w2 w2.drew := ⟨rfl, rfl, rfl, Nat.le_refl _, fun _ _ => rfl⟩
    go_wp2_with fail
    refine wp_region_held_drew (S := (Below w2.heap.size w2)) (by kernel_rfl) ?_ (fun hHeld => ?_)
    · (try dsimp only)
      assumption
    generalize w2.drew = W3 at *
    refine wpAnyH_take (i := 0) (oi := { dst := some 43, op := Go.Op.move (Go.Operand.tmp 8), type := 31, pos := "law.go:62", after := #[], guard := none }) (v := ?_) rfl (by kernel_rfl) (by kernel_rfl) (by kernel_rfl) (fun _ _ _ h => h) (Or.inl ⟨by rfl, ?_⟩) (by assumption) ?_
    rotate_left
    · intro wS hSw
      (try dsimp only at hSw)
      go_simp
      (try with_reducible rfl)
    (try simp only [Act.put, List.setIfInBounds_toArray, List.set_cons_zero, List.set_cons_succ])
    refine wpAnyH_take (i := 1) (oi := { dst := some 44, op := Go.Op.binOp Go.BinOp.eql 31 (Go.Operand.tmp 43) (Go.Operand.const Go.Value.nilIface) 31, type := 4, pos := "law.go:62", after := #[{ on := 0, ground := Go.Ground.data }], guard := none }) (v := ?_) rfl (by kernel_rfl) (by kernel_rfl) (by kernel_rfl) (fun _ _ _ h => h) (Or.inl ⟨by rfl, ?_⟩) (by assumption) ?_
    rotate_left
    · intro wS hSw
      (try dsimp only at hSw)
      go_simp
      (try with_reducible rfl)
    (try simp only [Act.put, List.setIfInBounds_toArray, List.set_cons_zero, List.set_cons_succ])
    refine wpAnyH_take (i := 2) (oi := { dst := some 45, op := Go.Op.move (Go.Operand.tmp 10), type := 31, pos := "law.go:62", after := #[], guard := none }) (v := ?_) rfl (by kernel_rfl) (by kernel_rfl) (by kernel_rfl) (fun _ _ _ h => h) (Or.inl ⟨by rfl, ?_⟩) (by assumption) ?_
    rotate_left
    · intro wS hSw
      (try dsimp only at hSw)
      go_simp
      (try with_reducible rfl)
    (try simp only [Act.put, List.setIfInBounds_toArray, List.set_cons_zero, List.set_cons_succ])
    refine wpAnyH_take (i := 3) (oi := { dst := some 46, op := Go.Op.binOp Go.BinOp.eql 31 (Go.Operand.tmp 45) (Go.Operand.const Go.Value.nilIface) 31, type := 4, pos := "law.go:62", after := #[{ on := 2, ground := Go.Ground.data }], guard := none }) (v := ?_) rfl (by kernel_rfl) (by kernel_rfl) (by kernel_rfl) (fun _ _ _ h => h) (Or.inl ⟨by rfl, ?_⟩) (by assumption) ?_
    rotate_left
    · intro wS hSw
      (try dsimp only at hSw)
      go_simp
      (try with_reducible rfl)
    (try simp only [Act.put, List.setIfInBounds_toArray, List.set_cons_zero, List.set_cons_succ])
    refine wpAnyH_take (i := 4) (oi := { dst := some 47, op := Go.Op.binOp Go.BinOp.neq 4 (Go.Operand.tmp 44) (Go.Operand.tmp 46) 4, type := 4, pos := "law.go:62", after := #[{ on := 1, ground := Go.Ground.data }, { on := 3, ground := Go.Ground.data }], guard := none }) (v := ?_) rfl (by kernel_rfl) (by kernel_rfl) (by kernel_rfl) (fun _ _ _ h => h) (Or.inl ⟨by rfl, ?_⟩) (by assumption) ?_
    rotate_left
    · intro wS hSw
      (try dsimp only at hSw)
      go_simp
      (try with_reducible rfl)
    (try simp only [Act.put, List.setIfInBounds_toArray, List.set_cons_zero, List.set_cons_succ])
    refine wpAnyH_take (i := 5) (oi := { dst := some 48, op := Go.Op.move (Go.Operand.tmp 47), type := 4, pos := "law.go:62", after := #[{ on := 4, ground := Go.Ground.data }], guard := none }) (v := ?_) rfl (by kernel_rfl) (by kernel_rfl) (by kernel_rfl) (fun _ _ _ h => h) (Or.inl ⟨by rfl, ?_⟩) (by assumption) ?_
    rotate_left
    · intro wS hSw
      (try dsimp only at hSw)
      go_simp
      (try with_reducible rfl)
    (try simp only [Act.put, List.setIfInBounds_toArray, List.set_cons_zero, List.set_cons_succ])
    refine wpAnyH_take (i := 6) (oi := { dst := some 49, op := Go.Op.move (Go.Operand.tmp 8), type := 31, pos := "law.go:62", after := #[{ on := 5, ground := Go.Ground.guard }], guard := some (5, false) }) (v := ?_) rfl (by kernel_rfl) (by kernel_rfl) (by kernel_rfl) (fun _ _ _ h => h) (Or.inl ⟨by rfl, ?_⟩) (by assumption) ?_
    rotate_left
    · intro wS hSw
      (try dsimp only at hSw)
      go_simp
      (try with_reducible rfl)
    (try simp only [Act.put, List.setIfInBounds_toArray, List.set_cons_zero, List.set_cons_succ])
    refine wpAnyH_take (i := 7) (oi := { dst := some 50, op := Go.Op.binOp Go.BinOp.eql 31 (Go.Operand.tmp 49) (Go.Operand.const Go.Value.nilIface) 31, type := 4, pos := "law.go:62", after := #[{ on := 6, ground := Go.Ground.data }, { on := 5, ground := Go.Ground.guard }], guard := some (5, false) }) (v := ?_) rfl (by kernel_rfl) (by kernel_rfl) (by kernel_rfl) (fun _ _ _ h => h) (Or.inl ⟨by rfl, ?_⟩) (by assumption) ?_
    rotate_left
    · intro wS hSw
      (try dsimp only at hSw)
      go_simp
      (try with_reducible rfl)
    (try simp only [Act.put, List.setIfInBounds_toArray, List.set_cons_zero, List.set_cons_succ])
    refine wpAnyH_take (i := 8) (oi := { dst := some 51, op := Go.Op.move (Go.Operand.tmp 50), type := 4, pos := "law.go:62", after := #[{ on := 7, ground := Go.Ground.data }, { on := 5, ground := Go.Ground.chain }, { on := 5, ground := Go.Ground.guard }], guard := some (5, false) }) (v := ?_) rfl (by kernel_rfl) (by kernel_rfl) (by kernel_rfl) (fun _ _ _ h => h) (Or.inl ⟨by rfl, ?_⟩) (by assumption) ?_
    rotate_left
    · intro wS hSw
      (try dsimp only at hSw)
      go_simp
      (try with_reducible rfl)
    (try simp only [Act.put, List.setIfInBounds_toArray, List.set_cons_zero, List.set_cons_succ])
    refine wpAnyH_take (i := 9) (oi := { dst := some 52, op := Go.Op.move (Go.Operand.tmp 7), type := 22, pos := "law.go:62", after := #[{ on := 8, ground := Go.Ground.guard }], guard := some (8, true) }) (v := undef) rfl (by kernel_rfl) (by kernel_rfl) (by kernel_rfl) (fun _ _ _ h => h) (Or.inr ⟨by rfl, rfl⟩) (by assumption) ?_
    (try simp only [Act.put, List.setIfInBounds_toArray, List.set_cons_zero, List.set_cons_succ])
    refine wpAnyH_take (i := 10) (oi := { dst := some 53, op := Go.Op.call { callee := Go.Callee.builtin Go.Builtin.len, args := #[Go.Operand.tmp 52], argTypes := #[22] }, type := 3, pos := "law.go:62", after := #[{ on := 9, ground := Go.Ground.data }, { on := 8, ground := Go.Ground.guard }], guard := some (8, true) }) (v := undef) rfl (by kernel_rfl) (by kernel_rfl) (by kernel_rfl) (fun _ _ _ h => h) (Or.inr ⟨by rfl, rfl⟩) (by assumption) ?_
    (try simp only [Act.put, List.setIfInBounds_toArray, List.set_cons_zero, List.set_cons_succ])
    refine wpAnyH_take (i := 11) (oi := { dst := some 54, op := Go.Op.binOp Go.BinOp.eql 3 (Go.Operand.tmp 53) (Go.Operand.const (Go.Value.int Go.IntKind.i64 0)) 3, type := 4, pos := "law.go:62", after := #[{ on := 10, ground := Go.Ground.data }, { on := 8, ground := Go.Ground.guard }], guard := some (8, true) }) (v := undef) rfl (by kernel_rfl) (by kernel_rfl) (by kernel_rfl) (fun _ _ _ h => h) (Or.inr ⟨by rfl, rfl⟩) (by assumption) ?_
    (try simp only [Act.put, List.setIfInBounds_toArray, List.set_cons_zero, List.set_cons_succ])
    refine wpAnyH_take (i := 12) (oi := { dst := some 55, op := Go.Op.pick (Go.Operand.tmp 51) (Go.Operand.tmp 54) (Go.Operand.const (Go.Value.bool false)), type := 4, pos := "law.go:62", after := #[{ on := 8, ground := Go.Ground.data }, { on := 11, ground := Go.Ground.data }, { on := 5, ground := Go.Ground.guard }], guard := some (5, false) }) (v := ?_) rfl (by kernel_rfl) (by kernel_rfl) (by kernel_rfl) (fun _ _ _ h => h) (Or.inl ⟨by rfl, ?_⟩) (by assumption) ?_
    rotate_left
    · intro wS hSw
      (try dsimp only at hSw)
      go_simp
      (try with_reducible rfl)
    (try simp only [Act.put, List.setIfInBounds_toArray, List.set_cons_zero, List.set_cons_succ])
    refine wpAnyH_take (i := 13) (oi := { dst := some 56, op := Go.Op.pick (Go.Operand.tmp 48) (Go.Operand.const (Go.Value.bool true)) (Go.Operand.tmp 55), type := 4, pos := "law.go:62", after := #[{ on := 5, ground := Go.Ground.data }, { on := 12, ground := Go.Ground.data }], guard := none }) (v := ?_) rfl (by kernel_rfl) (by kernel_rfl) (by kernel_rfl) (fun _ _ _ h => h) (Or.inl ⟨by rfl, ?_⟩) (by assumption) ?_
    rotate_left
    · intro wS hSw
      (try dsimp only at hSw)
      go_simp
      (try with_reducible rfl)
    (try simp only [Act.put, List.setIfInBounds_toArray, List.set_cons_zero, List.set_cons_succ])
    refine wpAnyH_done (by kernel_rfl) ?_ _
    have HW3 : Hid (Below w.heap.size w W3) := Lib.hid (HW2.out.trans (hD3.mono HW2.out.size))
    clear hD3
    have HB2y := Lib.hid (HBB.out W3 HW3.out)
    go_wp2_with fail
    by_cases hE : IsEnc m F
    · refine (dec_any m cm ob F W3 HB2y.out HNN.out.2.2.2 hE).mono ?_
      rintro e x1 ⟨gd, kd, rfl, hgd, hkd, hkm2, hBd, hbd⟩
      have hlo := hE.lo
      have hhi := hE.hi
      have HE2 := Lib.hid hE
      have hfb : ∀ i, i < m → F i < 256 := fun i hi => (HB2y.out i hi).1
      obtain ⟨i6, e6⟩ : ∃ y, F 6 = y := ⟨_, rfl⟩
      obtain ⟨gg, eg⟩ : ∃ y, genOf F = y := ⟨_, rfl⟩
      obtain ⟨M2, eM⟩ : ∃ y, m - 8 = y := ⟨_, rfl⟩
      have HX1 := Lib.hid (HW3.out.trans (hbd.mono HW3.out.size))
      have HQ := Lib.hid (show F 6 = i6 ∧ genOf F = gg ∧ m - 8 = M2 from ⟨e6, eg, eM⟩)
      have HMM : Hid (MayS i6 M2) := Lib.hid ⟨by rw [← e6]; exact hE.ix, by omega, by omega⟩
      have hi6 : i6 < 256 := by rw [← e6]; exact hfb 6 (by omega)
      have hgg : gg < 4294967296 := by rw [← eg]; exact genOf_lt hfb (by omega)
      rw [eM] at hBd hkd
      obtain ⟨x2, hx2⟩ : ∃ y, x1.alloc (.cells #[.int .u8 (i6 : Nat), .int .u32 (gg : Nat), .slice (some ⟨gd, 0, none⟩) M2 kd] 52) = y := ⟨_, rfl⟩
      have hbx2 : Below x1.heap.size x1 x2 := by rw [← hx2]; exact (Below.refl _ _).alloc (Nat.le_refl _) _
      have hS2 : Blk x2 x1.heap.size #[.int .u8 (i6 : Nat), .int .u32 (gg : Nat), .slice (some ⟨gd, 0, none⟩) M2 kd] 52 := by rw [← hx2]; exact Blk.new _ _ _
      have y0 : x2.cell? ⟨x1.heap.size, 0, none⟩ = some (.int .u8 (i6 : Int)) := by rw [Blk.cell hS2]; rfl
      have y1 : x2.cell? ⟨x1.heap.size, 1, none⟩ = some (.int .u32 (gg : Int)) := by rw [Blk.cell hS2]; rfl
      have y2 : x2.cell? ⟨x1.heap.size, 2, none⟩ = some (.slice (some ⟨gd, 0, none⟩) M2 kd) := by rw [Blk.cell hS2]; rfl
      have HX2 := Lib.hid (HX1.out.trans (hbx2.mono HX1.out.size))
      have HEN := Lib.hid (enc_any i6 gg M2 kd (some ⟨gd, 0, none⟩) (fun k => F (8 + k)) x2 HMM.out hi6 hgg (hBd.later hbx2))
      have HS3 : Hid (strF (8 + M2) (encF i6 gg M2 (fun k => F (8 + k))) = strF m F) := Lib.hid (by
        rw [show 8 + M2 = m by omega]
        refine strF_congr fun i hi => ?_
        have := enc_of hfb hE i hi
        rwa [e6, eg, eM] at this)
      rw [e6, eg, eM]
      clear e6 eg eM hE hlo hhi hfb hi6 hgg hBd hkd hkm2 hgd hbd hbx2 hS2
      go_wp2_with fail
      refine HEN.out.mono ?_
      rintro e x3 ⟨ge, ke, rfl, -, hke, hkm3, hBe, hbe⟩
      have HX3 := Lib.hid (HX2.out.trans (hbe.mono HX2.out.size))
      have s1 : (convert 22 9 (.slice (some ⟨ge, 0, none⟩) (8 + M2) ke)).run Tryd.prog x3 = .ok (.string (strF m F)) x3 := by rw [← HS3.out]; exact hBe.conv
      have s2 : (convert 22 9 (.slice ob m cm)).run Tryd.prog x3 = .ok (.string (strF m F)) x3 := conv_any (HBB.out x3 HX3.out) HNN.out.2.1
      obtain ⟨SS, hSS⟩ : ∃ y, strF m F = y := ⟨_, rfl⟩
      rw [hSS] at s1 s2
      clear hke hkm3 hBe hbe y0 y1 y2 hx2 hSS
      go_wp2_with (first
        | (refine wpList_valueG rfl (exec_convO (x := .tmp 146) rfl rfl s1) ?_)
        | (refine wpList_valueG rfl (exec_convO (x := .tmp 148) rfl rfl s2) ?_)
        | (go_at_call 27; refine (HSU.out x3 HX3.out).mono ?_; refine Hid.out ?_))
      refine Lib.hid ?_
      rintro e x4 ⟨rfl, hb⟩
      have HX4 := Lib.hid (HX3.out.trans (hb.mono HX3.out.size))
      clear hb
      go_wp2_with fail
      go_ret
      exact ⟨rfl, hb3 ▸ HX4.out⟩
    · have HDB := Lib.hid (dec_bad m cm ob F W3 (by have := HN3.out; omega) HB2y.out hE)
      unfold zSh eN at HDB
      refine HDB.out.mono ?_
      rintro e x1 ⟨rfl, hb⟩
      have HX1 := Lib.hid (HW3.out.trans (hb.mono HW3.out.size))
      have HX2 : Hid (Below w.heap.size w (x1.alloc (.cells #[.int .u8 0, .int .u32 0, .slice none 0 0] 52))) := Lib.hid (HX1.out.trans ((Below.refl _ x1).alloc HX1.out.size _))
      clear hb hE HDB
      go_wp2_with (first
        | (go_at_call 27; refine (HSU.out _ HX2.out).mono ?_; refine Hid.out ?_))
      refine Lib.hid ?_
      rintro e x4 ⟨rfl, hb⟩
      have HX4 := Lib.hid (HX2.out.trans (hb.mono HX2.out.size))
      clear hb
      go_wp2_with fail
      go_ret
      exact ⟨rfl, hb3 ▸ HX4.out⟩
end Go.Proofs.YtmhofofidmbgfaaDoor
