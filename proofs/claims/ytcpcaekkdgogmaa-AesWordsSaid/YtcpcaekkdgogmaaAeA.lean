/- AES: AesWords walked. -/
import Derived.Test.YtcpcaekkdgogmaaAe9
namespace Go.Proofs.Ytcpcaekkdgogmaa
set_option linter.unusedVariables false
set_option linter.unusedSimpArgs false
open Go.RowKit

theorem AW.own {w0 wr w' : World} {kb bx g : Nat} {W : Nat → Nat} {F : Array Value} (h : AW w0 kb bx W F wr) (hO : Own g wr w') (hg : kb < g) : AW w0 kb bx W F w' := by
  obtain ⟨h1, h2, h3, h4⟩ := h
  exact ⟨hO.blk h1 (by omega), hO.blk h2 (by omega), h3.trans (hO.below (by omega) h3.size), h4⟩
set_option maxRecDepth 100000 in
set_option maxHeartbeats 4000000 in
theorem words_any (f : Nat → Nat) (p : Nat) (w : World) (hf : ∀ i, i < 32 → f i < 256) (hp : p < 256) :
    Calls Try.prog 4 #[.agg (rowC 32 f).toArray, .int .u8 (p : Nat)] w fun e w' => e = .returned (.bool true) ∧ Below w.heap.size w w' := by
  obtain ⟨F, hF⟩ : ∃ C, (rowC 32 f).toArray = C := ⟨_, rfl⟩
  obtain ⟨n, hn⟩ : ∃ n, p % 60 = n := ⟨_, rfl⟩
  obtain ⟨m, hm⟩ : ∃ m, p % 8 = m := ⟨_, rfl⟩
  obtain ⟨j, hj⟩ : ∃ j, 4 * m = j := ⟨_, rfl⟩
  have hm8 : m < 8 := by omega
  have hn60 : n < 60 := by omega
  have HJ : Hid (j = 4 * m ∧ j < 32) := Lib.hid (by omega)
  have p0 : (0 : Int) ≤ (p : Int) := by omega
  have p1 : (p : Int) < 256 := by omega
  have hpn : (p : Int) % 60 = (n : Int) := by omega
  have hpm : (p : Int) % 8 = (m : Int) := by omega
  have tpn : (p : Int).tmod 60 = (n : Int) := by rw [Int.tmod_eq_emod_of_nonneg (by omega)]; omega
  have tpm : (p : Int).tmod 8 = (m : Int) := by rw [Int.tmod_eq_emod_of_nonneg (by omega)]; omega
  have hwj : IntKind.i64.wrap (4 * (m : Int)) = (j : Int) := by rw [IntWalk.i64_in _ (by omega)]; omega
  have h4j : 4 * (m : Int) = (j : Int) := by omega
  have n0 : (0 : Int) ≤ (n : Int) := by omega
  have n1 : (n : Int) < 60 := by omega
  have m0 : (0 : Int) ≤ (m : Int) := by omega
  have m1 : (m : Int) < 8 := by omega
  have j0 : (0 : Int) ≤ (j : Int) := by omega
  have j1 : (j : Int) < 32 := by omega
  have HN60 := Lib.hid hn60
  have HM8 := Lib.hid hm8
  obtain ⟨W, hW⟩ : ∃ W, exK f 60 = W := ⟨_, rfl⟩
  have HW0 : Hid (W m = kwN f m) := Lib.hid (by rw [← hW]; exact exK_lo f hm8)
  have HWL : Hid (∀ i, W i < 4294967296) := Lib.hid (by rw [← hW]; exact exK_lt hf 60 (Nat.le_refl _))
  have HWLO : Hid (n < 8 → W n = kwN f n) := Lib.hid fun h => by rw [← hW]; exact exK_lo f h
  have HWHI : Hid (8 ≤ n → n % 4 ≠ 0 → W n = W (n - 8) ^^^ W (n - 1)) := Lib.hid fun h h4 => by rw [← hW]; exact exK_hi f h hn60 h4
  obtain ⟨w0, hw0⟩ : ∃ q, w.alloc (.cells F 22) = q := ⟨_, rfl⟩
  have q0 : Blk w0 w.heap.size F 22 := by rw [← hw0]; exact Blk.new w _ _
  have qO : Below w.heap.size w w0 := by rw [← hw0]; exact (Below.refl _ _).alloc (Nat.le_refl _) _
  have hby : Bytes w0 (some ⟨w.heap.size, 0, none⟩) 32 f := B32.bytes (show B32 w0 _ f by unfold B32; rw [hF]; exact q0) hf
  have HNEW := Lib.hid (new_any f _ 32 w0 hby)
  have HCF : Hid (∃ f, F = (rowC 32 f).toArray) := Lib.hid ⟨f, hF.symm⟩
  have HCZ : Hid (∃ f, zero32 = (rowC 32 f).toArray) := Lib.hid ⟨_, rfl⟩
  have HFR : Hid (∀ w' g, Blk w' g F 22 → B32 w' g f) := Lib.hid fun w' g h => by unfold B32; rw [hF]; exact h
  have HF := Lib.hid hf
  have HWE := Lib.hid hW
  have Q0 := Lib.hid q0
  have QO := Lib.hid qO
  have hfj : f j < 256 := hf j (by omega)
  obtain ⟨x, hx⟩ : ∃ x, f j = x := ⟨_, rfl⟩
  rw [hx] at hfj
  obtain ⟨y, hy⟩ : ∃ y, x ^^^ 1 = y := ⟨_, rfl⟩
  have hyl : y < 256 := by rw [← hy]; exact xlt hfj (by decide)
  have hxy : bits .xor .u8 (x : Int) 1 = (y : Int) := by rw [← hy]; exact u8_xor_nat x 1 hfj (by decide)
  have HX : Hid (f j = x ∧ x < 256 ∧ y < 256) := Lib.hid ⟨hx, hfj, hyl⟩
  obtain ⟨V, hV⟩ : ∃ V, W m = V := ⟨_, rfl⟩
  obtain ⟨U, hU⟩ : ∃ U, kwN (upd f j y) m = U := ⟨_, rfl⟩
  have hUV : (U : Int) ≠ (V : Int) := by
    have h1 := kw_ne (f := f) (m := m) (fun k hk => hf _ (by omega))
    rw [hj, hx, hy, hU, ← HW0.out, hV] at h1
    omega
  have HVU : Hid (W m = V ∧ exK (upd f j y) 60 m = U) := Lib.hid ⟨hV, (exK_lo _ hm8).trans hU⟩
  have HB2 : Hid (∀ i, i < 32 → upd f j y i < 256) := Lib.hid fun i hi => by
    unfold upd; split
    · exact hyl
    · exact hf i hi
  have hz := zero32_run
  have HUB : Hid (((U : Int) != (V : Int)) = true) := Lib.hid (bne_iff_ne.2 hUV)
  have hUV' : ¬ U = V := fun e => hUV (by rw [e])
  rw [hF]
  clear hF hn hm hj hm8 hn60 hp hf hby q0 qO hV hU hx hy hfj hyl HW0
  go_enter Try.func4, Try.ntmps4
  go_wp2_with fail
  clear hw0
  refine HNEW.out.mono ?_
  rintro e w1 ⟨kb, bx, rfl, hN1⟩
  have HAW : Hid (AW w kb bx W F w1) := Lib.hid (by
    obtain ⟨a1, a2, a3, a4, a5⟩ := hN1
    rw [HWE.out] at a1
    exact ⟨a1, Blk.below Q0.out a3 (Blk.lt Q0.out), QO.out.trans (a3.mono QO.out.size), by have := Blk.lt Q0.out; omega⟩)
  clear hN1 HNEW hW
  go_wp2_with fail
  refine (kword_in kb bx W n _ HAW.out.k HN60.out).mono ?_
  rintro e w2 ⟨rfl, hb2⟩
  have HAW2 := Lib.hid (HAW.out.below hb2)
  clear hb2 HAW
  by_cases h8 : n < 8
  · have i8 : (n : Int) < 8 := by omega
    obtain ⟨j0', hj0⟩ : ∃ j, 4 * n = j := ⟨_, rfl⟩
    obtain ⟨j1', hj1⟩ : ∃ j, 4 * n + 1 = j := ⟨_, rfl⟩
    obtain ⟨j2', hj2⟩ : ∃ j, 4 * n + 2 = j := ⟨_, rfl⟩
    obtain ⟨j3', hj3⟩ : ∃ j, 4 * n + 3 = j := ⟨_, rfl⟩
    have k0 : IntKind.i64.wrap (4 * (n : Int)) = (j0' : Int) := by rw [IntWalk.i64_in _ (by omega)]; omega
    have k1 : IntKind.i64.wrap ((j0' : Int) + 1) = (j1' : Int) := by rw [IntWalk.i64_in _ (by omega)]; omega
    have k2 : IntKind.i64.wrap ((j0' : Int) + 2) = (j2' : Int) := by rw [IntWalk.i64_in _ (by omega)]; omega
    have k3 : IntKind.i64.wrap ((j0' : Int) + 3) = (j3' : Int) := by rw [IntWalk.i64_in _ (by omega)]; omega
    have a0 : (0 : Int) ≤ (j0' : Int) := by omega
    have a1 : (j0' : Int) < 32 := by omega
    have a2 : (0 : Int) ≤ (j1' : Int) := by omega
    have a3 : (j1' : Int) < 32 := by omega
    have a4 : (0 : Int) ≤ (j2' : Int) := by omega
    have a5 : (j2' : Int) < 32 := by omega
    have a6 : (0 : Int) ≤ (j3' : Int) := by omega
    have a7 : (j3' : Int) < 32 := by omega
    have hkw : kwN f n = f j0' * 16777216 + f j1' * 65536 + f j2' * 256 + f j3' := by unfold kwN; rw [hj1, hj2, hj3, hj0]
    have HC : ∀ i, i < 32 → Hid (∀ w', AW w kb bx W F w' → w'.cell? ⟨w.heap.size, i, none⟩ = some (.int .u8 (f i : Nat))) := fun i hi => Lib.hid fun w' h => B32.cell (HFR.out _ _ h.a) hi
    have HC0 := HC j0' (by omega)
    have HC1 := HC j1' (by omega)
    have HC2 := HC j2' (by omega)
    have HC3 := HC j3' (by omega)
    have b0 := HF.out j0' (by omega)
    have b1 := HF.out j1' (by omega)
    have b2 := HF.out j2' (by omega)
    have b3 := HF.out j3' (by omega)
    have hwn := HWLO.out h8
    rw [hkw] at hwn
    clear hkw hj0 hj1 hj2 hj3 HC
    generalize f j0' = x0 at *
    generalize f j1' = x1 at *
    generalize f j2' = x2 at *
    generalize f j3' = x3 at *
    have c0 : IntKind.u32.wrap (x0 : Int) = (x0 : Int) := by rw [IntKind.wrap_u32]; omega
    have c1 : IntKind.u32.wrap (x1 : Int) = (x1 : Int) := by rw [IntKind.wrap_u32]; omega
    have c2 : IntKind.u32.wrap (x2 : Int) = (x2 : Int) := by rw [IntKind.wrap_u32]; omega
    have c3 : IntKind.u32.wrap (x3 : Int) = (x3 : Int) := by rw [IntKind.wrap_u32]; omega
    have d0 : IntKind.u32.wrap ((x0 : Int) * 16777216) = (x0 : Int) * 16777216 := by rw [IntKind.wrap_u32]; omega
    have d1 : IntKind.u32.wrap ((x1 : Int) * 65536) = (x1 : Int) * 65536 := by rw [IntKind.wrap_u32]; omega
    have d2 : IntKind.u32.wrap ((x2 : Int) * 256) = (x2 : Int) * 256 := by rw [IntKind.wrap_u32]; omega
    have d3 : IntKind.u32.wrap ((x0 : Int) * 16777216 + (x1 : Int) * 65536) = (x0 : Int) * 16777216 + (x1 : Int) * 65536 := by rw [IntKind.wrap_u32]; omega
    have d4 : IntKind.u32.wrap ((x0 : Int) * 16777216 + (x1 : Int) * 65536 + (x2 : Int) * 256) = (x0 : Int) * 16777216 + (x1 : Int) * 65536 + (x2 : Int) * 256 := by rw [IntKind.wrap_u32]; omega
    have d5 : IntKind.u32.wrap ((x0 : Int) * 16777216 + (x1 : Int) * 65536 + (x2 : Int) * 256 + (x3 : Int)) = ((W n : Nat) : Int) := by rw [IntKind.wrap_u32, hwn]; omega
    clear hwn b0 b1 b2 b3 HWLO HWHI
    generalize W n = Z at *
    go_wp2_with fail
    have hP_0 : AW w kb bx W F w2.drew := HAW2.out.below (Below.refl _ w2).drew
    refine wp_region_held_drew (S := (AW w kb bx W F)) (by kernel_rfl) ?_ (fun hHeld => ?_)
    · (try dsimp only)
      first | assumption
    generalize w2.drew = w5 at *
    refine wpAnyH_take (i := 0) (oi := { dst := some 27, op := Go.Op.move (Go.Operand.tmp 8), type := 34, pos := "law.go:76", after := #[], guard := none }) (v := ?_) rfl (by kernel_rfl) (by kernel_rfl) (by kernel_rfl) (fun _ _ _ h => h) (Or.inl ⟨by rfl, ?_⟩) (by assumption) ?_
    rotate_left
    · intro wS hSw
      (try dsimp only at hSw)
      go_simp
      (try with_reducible rfl)
    (try simp only [Act.put, List.setIfInBounds_toArray, List.set_cons_zero, List.set_cons_succ])
    refine wpAnyH_take (i := 1) (oi := { dst := some 28, op := Go.Op.move (Go.Operand.tmp 7), type := 3, pos := "law.go:76", after := #[], guard := none }) (v := ?_) rfl (by kernel_rfl) (by kernel_rfl) (by kernel_rfl) (fun _ _ _ h => h) (Or.inl ⟨by rfl, ?_⟩) (by assumption) ?_
    rotate_left
    · intro wS hSw
      (try dsimp only at hSw)
      go_simp
      (try with_reducible rfl)
    (try simp only [Act.put, List.setIfInBounds_toArray, List.set_cons_zero, List.set_cons_succ])
    refine wpAnyH_take (i := 2) (oi := { dst := some 29, op := Go.Op.binOp Go.BinOp.mul 3 (Go.Operand.const (Go.Value.int Go.IntKind.i64 4)) (Go.Operand.tmp 28) 3, type := 3, pos := "law.go:76", after := #[{ on := 1, ground := Go.Ground.data }], guard := none }) (v := ?_) rfl (by kernel_rfl) (by kernel_rfl) (by kernel_rfl) (fun _ _ _ h => h) (Or.inl ⟨by rfl, ?_⟩) (by assumption) ?_
    rotate_left
    · intro wS hSw
      (try dsimp only at hSw)
      go_simp
      (try with_reducible rfl)
    (try simp only [Act.put, List.setIfInBounds_toArray, List.set_cons_zero, List.set_cons_succ])
    refine wpAnyH_take (i := 3) (oi := { dst := some 30, op := Go.Op.indexAddr 22 (Go.Operand.tmp 2) (Go.Operand.tmp 29), type := 0, pos := "law.go:76", after := #[{ on := 2, ground := Go.Ground.data }], guard := none }) (v := ?_) rfl (by kernel_rfl) (by kernel_rfl) (by kernel_rfl) (fun _ _ _ h => h) (Or.inl ⟨by rfl, ?_⟩) (by assumption) ?_
    rotate_left
    · intro wS hSw
      (try dsimp only at hSw)
      go_simp
      (try with_reducible rfl)
    (try simp only [Act.put, List.setIfInBounds_toArray, List.set_cons_zero, List.set_cons_succ])
    refine wpAnyH_take (i := 4) (oi := { dst := some 31, op := Go.Op.load 5 (Go.Operand.tmp 30), type := 5, pos := "law.go:76", after := #[{ on := 3, ground := Go.Ground.data }], guard := none }) (v := ?_) rfl (by kernel_rfl) (by kernel_rfl) (by kernel_rfl) (fun _ _ _ h => h) (Or.inl ⟨by rfl, ?_⟩) (by assumption) ?_
    rotate_left
    · intro wS hSw
      (have c9 := HC0.out _ hSw; go_simp; (try with_reducible rfl))
    (try simp only [Act.put, List.setIfInBounds_toArray, List.set_cons_zero, List.set_cons_succ])
    refine wpAnyH_take (i := 5) (oi := { dst := some 32, op := Go.Op.convert 5 34 (Go.Operand.tmp 31), type := 34, pos := "law.go:76", after := #[{ on := 4, ground := Go.Ground.data }], guard := none }) (v := ?_) rfl (by kernel_rfl) (by kernel_rfl) (by kernel_rfl) (fun _ _ _ h => h) (Or.inl ⟨by rfl, ?_⟩) (by assumption) ?_
    rotate_left
    · intro wS hSw
      (try dsimp only at hSw)
      go_simp
      (try with_reducible rfl)
    (try simp only [Act.put, List.setIfInBounds_toArray, List.set_cons_zero, List.set_cons_succ])
    refine wpAnyH_take (i := 6) (oi := { dst := some 33, op := Go.Op.binOp Go.BinOp.shl 34 (Go.Operand.tmp 32) (Go.Operand.const (Go.Value.int Go.IntKind.u64 24)) 36, type := 34, pos := "law.go:76", after := #[{ on := 5, ground := Go.Ground.data }], guard := none }) (v := ?_) rfl (by kernel_rfl) (by kernel_rfl) (by kernel_rfl) (fun _ _ _ h => h) (Or.inl ⟨by rfl, ?_⟩) (by assumption) ?_
    rotate_left
    · intro wS hSw
      (try dsimp only at hSw)
      go_simp
      (try with_reducible rfl)
    (try simp only [Act.put, List.setIfInBounds_toArray, List.set_cons_zero, List.set_cons_succ])
    refine wpAnyH_take (i := 7) (oi := { dst := some 34, op := Go.Op.move (Go.Operand.tmp 7), type := 3, pos := "law.go:76", after := #[], guard := none }) (v := ?_) rfl (by kernel_rfl) (by kernel_rfl) (by kernel_rfl) (fun _ _ _ h => h) (Or.inl ⟨by rfl, ?_⟩) (by assumption) ?_
    rotate_left
    · intro wS hSw
      (try dsimp only at hSw)
      go_simp
      (try with_reducible rfl)
    (try simp only [Act.put, List.setIfInBounds_toArray, List.set_cons_zero, List.set_cons_succ])
    refine wpAnyH_take (i := 8) (oi := { dst := some 35, op := Go.Op.binOp Go.BinOp.mul 3 (Go.Operand.const (Go.Value.int Go.IntKind.i64 4)) (Go.Operand.tmp 34) 3, type := 3, pos := "law.go:76", after := #[{ on := 7, ground := Go.Ground.data }], guard := none }) (v := ?_) rfl (by kernel_rfl) (by kernel_rfl) (by kernel_rfl) (fun _ _ _ h => h) (Or.inl ⟨by rfl, ?_⟩) (by assumption) ?_
    rotate_left
    · intro wS hSw
      (try dsimp only at hSw)
      go_simp
      (try with_reducible rfl)
    (try simp only [Act.put, List.setIfInBounds_toArray, List.set_cons_zero, List.set_cons_succ])
    refine wpAnyH_take (i := 9) (oi := { dst := some 36, op := Go.Op.binOp Go.BinOp.add 3 (Go.Operand.tmp 35) (Go.Operand.const (Go.Value.int Go.IntKind.i64 1)) 3, type := 3, pos := "law.go:76", after := #[{ on := 8, ground := Go.Ground.data }], guard := none }) (v := ?_) rfl (by kernel_rfl) (by kernel_rfl) (by kernel_rfl) (fun _ _ _ h => h) (Or.inl ⟨by rfl, ?_⟩) (by assumption) ?_
    rotate_left
    · intro wS hSw
      (try dsimp only at hSw)
      go_simp
      (try with_reducible rfl)
    (try simp only [Act.put, List.setIfInBounds_toArray, List.set_cons_zero, List.set_cons_succ])
    refine wpAnyH_take (i := 10) (oi := { dst := some 37, op := Go.Op.indexAddr 22 (Go.Operand.tmp 2) (Go.Operand.tmp 36), type := 0, pos := "law.go:76", after := #[{ on := 9, ground := Go.Ground.data }], guard := none }) (v := ?_) rfl (by kernel_rfl) (by kernel_rfl) (by kernel_rfl) (fun _ _ _ h => h) (Or.inl ⟨by rfl, ?_⟩) (by assumption) ?_
    rotate_left
    · intro wS hSw
      (try dsimp only at hSw)
      go_simp
      (try with_reducible rfl)
    (try simp only [Act.put, List.setIfInBounds_toArray, List.set_cons_zero, List.set_cons_succ])
    refine wpAnyH_take (i := 11) (oi := { dst := some 38, op := Go.Op.load 5 (Go.Operand.tmp 37), type := 5, pos := "law.go:76", after := #[{ on := 10, ground := Go.Ground.data }], guard := none }) (v := ?_) rfl (by kernel_rfl) (by kernel_rfl) (by kernel_rfl) (fun _ _ _ h => h) (Or.inl ⟨by rfl, ?_⟩) (by assumption) ?_
    rotate_left
    · intro wS hSw
      (have c9 := HC1.out _ hSw; go_simp; (try with_reducible rfl))
    (try simp only [Act.put, List.setIfInBounds_toArray, List.set_cons_zero, List.set_cons_succ])
    refine wpAnyH_take (i := 12) (oi := { dst := some 39, op := Go.Op.convert 5 34 (Go.Operand.tmp 38), type := 34, pos := "law.go:76", after := #[{ on := 11, ground := Go.Ground.data }], guard := none }) (v := ?_) rfl (by kernel_rfl) (by kernel_rfl) (by kernel_rfl) (fun _ _ _ h => h) (Or.inl ⟨by rfl, ?_⟩) (by assumption) ?_
    rotate_left
    · intro wS hSw
      (try dsimp only at hSw)
      go_simp
      (try with_reducible rfl)
    (try simp only [Act.put, List.setIfInBounds_toArray, List.set_cons_zero, List.set_cons_succ])
    refine wpAnyH_take (i := 13) (oi := { dst := some 40, op := Go.Op.binOp Go.BinOp.shl 34 (Go.Operand.tmp 39) (Go.Operand.const (Go.Value.int Go.IntKind.u64 16)) 36, type := 34, pos := "law.go:76", after := #[{ on := 12, ground := Go.Ground.data }], guard := none }) (v := ?_) rfl (by kernel_rfl) (by kernel_rfl) (by kernel_rfl) (fun _ _ _ h => h) (Or.inl ⟨by rfl, ?_⟩) (by assumption) ?_
    rotate_left
    · intro wS hSw
      (try dsimp only at hSw)
      go_simp
      (try with_reducible rfl)
    (try simp only [Act.put, List.setIfInBounds_toArray, List.set_cons_zero, List.set_cons_succ])
    refine wpAnyH_take (i := 14) (oi := { dst := some 41, op := Go.Op.binOp Go.BinOp.add 34 (Go.Operand.tmp 33) (Go.Operand.tmp 40) 34, type := 34, pos := "law.go:76", after := #[{ on := 6, ground := Go.Ground.data }, { on := 13, ground := Go.Ground.data }], guard := none }) (v := ?_) rfl (by kernel_rfl) (by kernel_rfl) (by kernel_rfl) (fun _ _ _ h => h) (Or.inl ⟨by rfl, ?_⟩) (by assumption) ?_
    rotate_left
    · intro wS hSw
      (try dsimp only at hSw)
      go_simp
      (try with_reducible rfl)
    (try simp only [Act.put, List.setIfInBounds_toArray, List.set_cons_zero, List.set_cons_succ])
    refine wpAnyH_take (i := 15) (oi := { dst := some 42, op := Go.Op.move (Go.Operand.tmp 7), type := 3, pos := "law.go:76", after := #[], guard := none }) (v := ?_) rfl (by kernel_rfl) (by kernel_rfl) (by kernel_rfl) (fun _ _ _ h => h) (Or.inl ⟨by rfl, ?_⟩) (by assumption) ?_
    rotate_left
    · intro wS hSw
      (try dsimp only at hSw)
      go_simp
      (try with_reducible rfl)
    (try simp only [Act.put, List.setIfInBounds_toArray, List.set_cons_zero, List.set_cons_succ])
    refine wpAnyH_take (i := 16) (oi := { dst := some 43, op := Go.Op.binOp Go.BinOp.mul 3 (Go.Operand.const (Go.Value.int Go.IntKind.i64 4)) (Go.Operand.tmp 42) 3, type := 3, pos := "law.go:76", after := #[{ on := 15, ground := Go.Ground.data }], guard := none }) (v := ?_) rfl (by kernel_rfl) (by kernel_rfl) (by kernel_rfl) (fun _ _ _ h => h) (Or.inl ⟨by rfl, ?_⟩) (by assumption) ?_
    rotate_left
    · intro wS hSw
      (try dsimp only at hSw)
      go_simp
      (try with_reducible rfl)
    (try simp only [Act.put, List.setIfInBounds_toArray, List.set_cons_zero, List.set_cons_succ])
    refine wpAnyH_take (i := 17) (oi := { dst := some 44, op := Go.Op.binOp Go.BinOp.add 3 (Go.Operand.tmp 43) (Go.Operand.const (Go.Value.int Go.IntKind.i64 2)) 3, type := 3, pos := "law.go:76", after := #[{ on := 16, ground := Go.Ground.data }], guard := none }) (v := ?_) rfl (by kernel_rfl) (by kernel_rfl) (by kernel_rfl) (fun _ _ _ h => h) (Or.inl ⟨by rfl, ?_⟩) (by assumption) ?_
    rotate_left
    · intro wS hSw
      (try dsimp only at hSw)
      go_simp
      (try with_reducible rfl)
    (try simp only [Act.put, List.setIfInBounds_toArray, List.set_cons_zero, List.set_cons_succ])
    refine wpAnyH_take (i := 18) (oi := { dst := some 45, op := Go.Op.indexAddr 22 (Go.Operand.tmp 2) (Go.Operand.tmp 44), type := 0, pos := "law.go:76", after := #[{ on := 17, ground := Go.Ground.data }], guard := none }) (v := ?_) rfl (by kernel_rfl) (by kernel_rfl) (by kernel_rfl) (fun _ _ _ h => h) (Or.inl ⟨by rfl, ?_⟩) (by assumption) ?_
    rotate_left
    · intro wS hSw
      (try dsimp only at hSw)
      go_simp
      (try with_reducible rfl)
    (try simp only [Act.put, List.setIfInBounds_toArray, List.set_cons_zero, List.set_cons_succ])
    refine wpAnyH_take (i := 19) (oi := { dst := some 46, op := Go.Op.load 5 (Go.Operand.tmp 45), type := 5, pos := "law.go:76", after := #[{ on := 18, ground := Go.Ground.data }], guard := none }) (v := ?_) rfl (by kernel_rfl) (by kernel_rfl) (by kernel_rfl) (fun _ _ _ h => h) (Or.inl ⟨by rfl, ?_⟩) (by assumption) ?_
    rotate_left
    · intro wS hSw
      (have c9 := HC2.out _ hSw; go_simp; (try with_reducible rfl))
    (try simp only [Act.put, List.setIfInBounds_toArray, List.set_cons_zero, List.set_cons_succ])
    refine wpAnyH_take (i := 20) (oi := { dst := some 47, op := Go.Op.convert 5 34 (Go.Operand.tmp 46), type := 34, pos := "law.go:76", after := #[{ on := 19, ground := Go.Ground.data }], guard := none }) (v := ?_) rfl (by kernel_rfl) (by kernel_rfl) (by kernel_rfl) (fun _ _ _ h => h) (Or.inl ⟨by rfl, ?_⟩) (by assumption) ?_
    rotate_left
    · intro wS hSw
      (try dsimp only at hSw)
      go_simp
      (try with_reducible rfl)
    (try simp only [Act.put, List.setIfInBounds_toArray, List.set_cons_zero, List.set_cons_succ])
    refine wpAnyH_take (i := 21) (oi := { dst := some 48, op := Go.Op.binOp Go.BinOp.shl 34 (Go.Operand.tmp 47) (Go.Operand.const (Go.Value.int Go.IntKind.u64 8)) 36, type := 34, pos := "law.go:76", after := #[{ on := 20, ground := Go.Ground.data }], guard := none }) (v := ?_) rfl (by kernel_rfl) (by kernel_rfl) (by kernel_rfl) (fun _ _ _ h => h) (Or.inl ⟨by rfl, ?_⟩) (by assumption) ?_
    rotate_left
    · intro wS hSw
      (try dsimp only at hSw)
      go_simp
      (try with_reducible rfl)
    (try simp only [Act.put, List.setIfInBounds_toArray, List.set_cons_zero, List.set_cons_succ])
    refine wpAnyH_take (i := 22) (oi := { dst := some 49, op := Go.Op.binOp Go.BinOp.add 34 (Go.Operand.tmp 41) (Go.Operand.tmp 48) 34, type := 34, pos := "law.go:76", after := #[{ on := 14, ground := Go.Ground.data }, { on := 21, ground := Go.Ground.data }], guard := none }) (v := ?_) rfl (by kernel_rfl) (by kernel_rfl) (by kernel_rfl) (fun _ _ _ h => h) (Or.inl ⟨by rfl, ?_⟩) (by assumption) ?_
    rotate_left
    · intro wS hSw
      (try dsimp only at hSw)
      go_simp
      (try with_reducible rfl)
    (try simp only [Act.put, List.setIfInBounds_toArray, List.set_cons_zero, List.set_cons_succ])
    refine wpAnyH_take (i := 23) (oi := { dst := some 50, op := Go.Op.move (Go.Operand.tmp 7), type := 3, pos := "law.go:76", after := #[], guard := none }) (v := ?_) rfl (by kernel_rfl) (by kernel_rfl) (by kernel_rfl) (fun _ _ _ h => h) (Or.inl ⟨by rfl, ?_⟩) (by assumption) ?_
    rotate_left
    · intro wS hSw
      (try dsimp only at hSw)
      go_simp
      (try with_reducible rfl)
    (try simp only [Act.put, List.setIfInBounds_toArray, List.set_cons_zero, List.set_cons_succ])
    refine wpAnyH_take (i := 24) (oi := { dst := some 51, op := Go.Op.binOp Go.BinOp.mul 3 (Go.Operand.const (Go.Value.int Go.IntKind.i64 4)) (Go.Operand.tmp 50) 3, type := 3, pos := "law.go:76", after := #[{ on := 23, ground := Go.Ground.data }], guard := none }) (v := ?_) rfl (by kernel_rfl) (by kernel_rfl) (by kernel_rfl) (fun _ _ _ h => h) (Or.inl ⟨by rfl, ?_⟩) (by assumption) ?_
    rotate_left
    · intro wS hSw
      (try dsimp only at hSw)
      go_simp
      (try with_reducible rfl)
    (try simp only [Act.put, List.setIfInBounds_toArray, List.set_cons_zero, List.set_cons_succ])
    refine wpAnyH_take (i := 25) (oi := { dst := some 52, op := Go.Op.binOp Go.BinOp.add 3 (Go.Operand.tmp 51) (Go.Operand.const (Go.Value.int Go.IntKind.i64 3)) 3, type := 3, pos := "law.go:76", after := #[{ on := 24, ground := Go.Ground.data }], guard := none }) (v := ?_) rfl (by kernel_rfl) (by kernel_rfl) (by kernel_rfl) (fun _ _ _ h => h) (Or.inl ⟨by rfl, ?_⟩) (by assumption) ?_
    rotate_left
    · intro wS hSw
      (try dsimp only at hSw)
      go_simp
      (try with_reducible rfl)
    (try simp only [Act.put, List.setIfInBounds_toArray, List.set_cons_zero, List.set_cons_succ])
    refine wpAnyH_take (i := 26) (oi := { dst := some 53, op := Go.Op.indexAddr 22 (Go.Operand.tmp 2) (Go.Operand.tmp 52), type := 0, pos := "law.go:76", after := #[{ on := 25, ground := Go.Ground.data }], guard := none }) (v := ?_) rfl (by kernel_rfl) (by kernel_rfl) (by kernel_rfl) (fun _ _ _ h => h) (Or.inl ⟨by rfl, ?_⟩) (by assumption) ?_
    rotate_left
    · intro wS hSw
      (try dsimp only at hSw)
      go_simp
      (try with_reducible rfl)
    (try simp only [Act.put, List.setIfInBounds_toArray, List.set_cons_zero, List.set_cons_succ])
    refine wpAnyH_take (i := 27) (oi := { dst := some 54, op := Go.Op.load 5 (Go.Operand.tmp 53), type := 5, pos := "law.go:76", after := #[{ on := 26, ground := Go.Ground.data }], guard := none }) (v := ?_) rfl (by kernel_rfl) (by kernel_rfl) (by kernel_rfl) (fun _ _ _ h => h) (Or.inl ⟨by rfl, ?_⟩) (by assumption) ?_
    rotate_left
    · intro wS hSw
      (have c9 := HC3.out _ hSw; go_simp; (try with_reducible rfl))
    (try simp only [Act.put, List.setIfInBounds_toArray, List.set_cons_zero, List.set_cons_succ])
    refine wpAnyH_take (i := 28) (oi := { dst := some 55, op := Go.Op.convert 5 34 (Go.Operand.tmp 54), type := 34, pos := "law.go:76", after := #[{ on := 27, ground := Go.Ground.data }], guard := none }) (v := ?_) rfl (by kernel_rfl) (by kernel_rfl) (by kernel_rfl) (fun _ _ _ h => h) (Or.inl ⟨by rfl, ?_⟩) (by assumption) ?_
    rotate_left
    · intro wS hSw
      (try dsimp only at hSw)
      go_simp
      (try with_reducible rfl)
    (try simp only [Act.put, List.setIfInBounds_toArray, List.set_cons_zero, List.set_cons_succ])
    refine wpAnyH_take (i := 29) (oi := { dst := some 56, op := Go.Op.binOp Go.BinOp.add 34 (Go.Operand.tmp 49) (Go.Operand.tmp 55) 34, type := 34, pos := "law.go:76", after := #[{ on := 22, ground := Go.Ground.data }, { on := 28, ground := Go.Ground.data }], guard := none }) (v := ?_) rfl (by kernel_rfl) (by kernel_rfl) (by kernel_rfl) (fun _ _ _ h => h) (Or.inl ⟨by rfl, ?_⟩) (by assumption) ?_
    rotate_left
    · intro wS hSw
      (try dsimp only at hSw)
      go_simp
      (try with_reducible rfl)
    (try simp only [Act.put, List.setIfInBounds_toArray, List.set_cons_zero, List.set_cons_succ])
    refine wpAnyH_take (i := 30) (oi := { dst := some 57, op := Go.Op.binOp Go.BinOp.eql 34 (Go.Operand.tmp 27) (Go.Operand.tmp 56) 34, type := 4, pos := "law.go:76", after := #[{ on := 0, ground := Go.Ground.data }, { on := 29, ground := Go.Ground.data }], guard := none }) (v := ?_) rfl (by kernel_rfl) (by kernel_rfl) (by kernel_rfl) (fun _ _ _ h => h) (Or.inl ⟨by rfl, ?_⟩) (by assumption) ?_
    rotate_left
    · intro wS hSw
      (try dsimp only at hSw)
      go_simp
      (try with_reducible rfl)
    (try simp only [Act.put, List.setIfInBounds_toArray, List.set_cons_zero, List.set_cons_succ])
    refine wpAnyH_take (i := 31) (oi := { dst := some 58, op := Go.Op.move (Go.Operand.tmp 57), type := 4, pos := "law.go:76", after := #[{ on := 30, ground := Go.Ground.data }], guard := none }) (v := ?_) rfl (by kernel_rfl) (by kernel_rfl) (by kernel_rfl) (fun _ _ _ h => h) (Or.inl ⟨by rfl, ?_⟩) (by assumption) ?_
    rotate_left
    · intro wS hSw
      (try dsimp only at hSw)
      go_simp
      (try with_reducible rfl)
    (try simp only [Act.put, List.setIfInBounds_toArray, List.set_cons_zero, List.set_cons_succ])
    refine wpAnyH_ready (rs := [32]) (by kernel_rfl) (by simp) ?_
    refine AllReadyH.cons (o := { dst := some 59, op := Go.Op.call { callee := Go.Callee.value (Go.Operand.func 7), args := #[], argTypes := #[] }, type := 4, pos := "law.go:76", after := #[{ on := 31, ground := Go.Ground.chain }, { on := 31, ground := Go.Ground.guard }], guard := some (31, true) }) rfl (fun K hK => ?_) AllReadyH.nil
    go_simp
    (refine (aes_sure _).mono ?_; rintro e v_1 ⟨rfl, hb_1⟩; have hP_1 := AW.below hP_0 hb_1; clear hP_0 hb_1; skip)
    (try go_wp2_with fail)
    refine hK.out _ _ ?_ (fun hHeld => ?_)
    · (try dsimp only)
      first | assumption
    clear hK K
    (try simp only [Act.put, List.setIfInBounds_toArray, List.set_cons_zero, List.set_cons_succ])
    refine wpAnyH_take (i := 33) (oi := { dst := some 60, op := Go.Op.pick (Go.Operand.tmp 58) (Go.Operand.tmp 59) (Go.Operand.const (Go.Value.bool false)), type := 4, pos := "law.go:76", after := #[{ on := 31, ground := Go.Ground.data }, { on := 32, ground := Go.Ground.data }], guard := none }) (v := ?_) rfl (by kernel_rfl) (by kernel_rfl) (by kernel_rfl) (fun _ _ _ h => h) (Or.inl ⟨by rfl, ?_⟩) (by assumption) ?_
    rotate_left
    · intro wS hSw
      (try dsimp only at hSw)
      go_simp
      (try with_reducible rfl)
    (try simp only [Act.put, List.setIfInBounds_toArray, List.set_cons_zero, List.set_cons_succ])
    refine wpAnyH_take (i := 34) (oi := { dst := some 4, op := Go.Op.assign (Go.Operand.tmp 60), type := 4, pos := "law.go:76", after := #[{ on := 33, ground := Go.Ground.data }, { on := 32, ground := Go.Ground.chain }, { on := 0, ground := Go.Ground.phase }, { on := 1, ground := Go.Ground.phase }, { on := 2, ground := Go.Ground.phase }, { on := 3, ground := Go.Ground.phase }, { on := 4, ground := Go.Ground.phase }, { on := 5, ground := Go.Ground.phase }, { on := 6, ground := Go.Ground.phase }, { on := 7, ground := Go.Ground.phase }, { on := 8, ground := Go.Ground.phase }, { on := 9, ground := Go.Ground.phase }, { on := 10, ground := Go.Ground.phase }, { on := 11, ground := Go.Ground.phase }, { on := 12, ground := Go.Ground.phase }, { on := 13, ground := Go.Ground.phase }, { on := 14, ground := Go.Ground.phase }, { on := 15, ground := Go.Ground.phase }, { on := 16, ground := Go.Ground.phase }, { on := 17, ground := Go.Ground.phase }, { on := 18, ground := Go.Ground.phase }, { on := 19, ground := Go.Ground.phase }, { on := 20, ground := Go.Ground.phase }, { on := 21, ground := Go.Ground.phase }, { on := 22, ground := Go.Ground.phase }, { on := 23, ground := Go.Ground.phase }, { on := 24, ground := Go.Ground.phase }, { on := 25, ground := Go.Ground.phase }, { on := 26, ground := Go.Ground.phase }, { on := 27, ground := Go.Ground.phase }, { on := 28, ground := Go.Ground.phase }, { on := 29, ground := Go.Ground.phase }, { on := 30, ground := Go.Ground.phase }, { on := 31, ground := Go.Ground.phase }, { on := 32, ground := Go.Ground.phase }, { on := 33, ground := Go.Ground.phase }], guard := none }) (v := ?_) rfl (by kernel_rfl) (by kernel_rfl) (by kernel_rfl) (fun _ _ _ h => h) (Or.inl ⟨by rfl, ?_⟩) (by assumption) ?_
    rotate_left
    · intro wS hSw
      (try dsimp only at hSw)
      go_simp
      (try with_reducible rfl)
    (try simp only [Act.put, List.setIfInBounds_toArray, List.set_cons_zero, List.set_cons_succ])
    refine wpAnyH_done (by kernel_rfl) ?_ _
    have HO9 := Lib.hid hP_1.o
    clear hP_1
    go_wp2_with fail
    go_ret
    exact ⟨rfl, HO9.out⟩
  · have i8 : ¬ (n : Int) < 8 := by omega
    obtain ⟨k8, hk8⟩ : ∃ k, n - 8 = k := ⟨_, rfl⟩
    obtain ⟨k1, hk1⟩ : ∃ k, n - 1 = k := ⟨_, rfl⟩
    have s8 : IntKind.i64.wrap ((n : Int) - 8) = (k8 : Int) := by rw [IntWalk.i64_in _ (by omega)]; omega
    have s1 : IntKind.i64.wrap ((n : Int) - 1) = (k1 : Int) := by rw [IntWalk.i64_in _ (by omega)]; omega
    have u8 : (n : Int) - 8 = (k8 : Int) := by omega
    have u1 : (n : Int) - 1 = (k1 : Int) := by omega
    have HK : Hid (k8 < 60 ∧ k1 < 60) := Lib.hid (by have := HN60.out; omega)
    by_cases h4 : n % 4 = 0
    · have m4 : (n : Int) % 4 = 0 := by omega
      clear HWHI HWLO h8 h4
      generalize W n = Z at *
      obtain ⟨wa, hwa⟩ : ∃ q, w2.alloc (.cells zero32 22) = q := ⟨_, rfl⟩
      obtain ⟨g, hg⟩ : ∃ q, w2.heap.size = q := ⟨_, rfl⟩
      have hgk : kb < g := by rw [← hg]; exact Blk.lt HAW2.out.k
      have hAa : Blk wa g zero32 22 := by rw [← hwa, ← hg]; exact Blk.new _ _ _
      have hWa : AW w kb bx W F wa := by rw [← hwa]; exact HAW2.out.below ((Below.refl _ _).alloc (Nat.le_refl _) _)
      obtain ⟨wb, hwb⟩ : ∃ q, wa.setCells g 0 F.toList = q := ⟨_, rfl⟩
      have hAb : Blk wb g F 22 := by rw [← hwb]; exact Blk.store32 hAa HCF.out HCZ.out
      have hWb : AW w kb bx W F wb := by rw [← hwb]; exact hWa.own (Own.setCells _ _ _) hgk
      have cj : wb.cell? ⟨g, j, none⟩ = some (.int .u8 (x : Nat)) := by have := (HFR.out _ _ hAb).cell HJ.out.2; rw [HX.out.1] at this; exact this
      have fj : wb.frozen? ⟨g, j, none⟩ = false := Blk.free hAb j
      obtain ⟨wc, hwc⟩ : ∃ q, wb.setCell ⟨g, j, none⟩ (.int .u8 (y : Nat)) = q := ⟨_, rfl⟩
      have hAc : B32 wc g (upd f j y) := by rw [← hwc]; exact (HFR.out _ _ hAb).set j y
      have hWc : AW w kb bx W F wc := by rw [← hwc]; exact hWb.own ((Own.refl _ _).set _ _) hgk
      have HNEW2 := Lib.hid (new_any (upd f j y) _ 32 wc (hAc.bytes HB2.out))
      have HAA := Lib.hid hAa
      have HWC := Lib.hid hWc
      have HWA := Lib.hid HAW2.out.a
      clear hAa hWa hAb hWb hAc hWc hgk
      go_wp2_with (first | (refine wpList_load32 rfl (.tmp 2) rfl w.heap.size rfl F HWA.out HCF.out ?_) | (refine wpList_store32 rfl (.tmp 9) (.tmp 77) rfl g rfl F zero32 rfl HAA.out HCF.out HCZ.out ?_))
      refine HNEW2.out.mono ?_
      rintro e wd ⟨ko, bo, rfl, hN2⟩
      have HWD := Lib.hid (HWC.out.below hN2.2.2.1)
      have HO1 : Hid (Calls Try.prog 8 #[.pointer (some ⟨ko, 0, none⟩), .int .i64 (m : Nat)] wd fun e w' => e = .returned (.int .u32 (U : Nat)) ∧ Below wd.heap.size wd w') := Lib.hid (by
        have := kword_in ko bo _ m wd hN2.1 (show m < 60 by have := HM8.out; omega)
        rw [HVU.out.2] at this; exact this)
      clear hN2 HNEW2 cj fj hwa hwb hwc hg HAA HWC HWA
      go_wp2_with fail
      refine HO1.out.mono ?_
      rintro e we ⟨rfl, hbe⟩
      have HWE2 := Lib.hid (HWD.out.below hbe)
      have HO2 : Hid (Calls Try.prog 8 #[.pointer (some ⟨kb, 0, none⟩), .int .i64 (m : Nat)] we fun e w' => e = .returned (.int .u32 (V : Nat)) ∧ Below we.heap.size we w') := Lib.hid (by
        have := kword_in kb bx W m we HWE2.out.k (show m < 60 by have := HM8.out; omega)
        rw [HVU.out.1] at this; exact this)
      clear hbe HO1 HWD
      go_wp2_with fail
      refine HO2.out.mono ?_
      rintro e wf ⟨rfl, hbf⟩
      have HWF := Lib.hid (HWE2.out.below hbf)
      clear hbf HO2 HWE2
      go_wp2_with fail
      refine (kword_neg kb _).mono ?_
      rintro e wg ⟨rfl, hbg⟩
      have HWG := Lib.hid (HWF.out.below hbg)
      clear hbg HWF
      go_wp2_with fail
      refine (aes_sure _).mono ?_
      rintro e wh ⟨rfl, hbh⟩
      have HWH := Lib.hid (HWG.out.below hbh).o
      clear hbh HWG
      go_wp2_with fail
      go_ret
      exact ⟨congrArg (fun b => Ending.returned (Value.bool b)) HUB.out, HWH.out⟩
    · have m4 : ¬ (n : Int) % 4 = 0 := by omega
      have hz4 := HWHI.out (by omega) h4
      rw [hk8, hk1] at hz4
      have hA := HWL.out k8
      have hB := HWL.out k1
      have HA1 := Lib.hid (kword_in kb bx W k8 w2 HAW2.out.k HK.out.1)
      have HB1 : Hid (∀ w', AW w kb bx W F w' → Calls Try.prog 8 #[.pointer (some ⟨kb, 0, none⟩), .int .i64 (k1 : Nat)] w' fun e w'' => e = .returned (.int .u32 (W k1 : Nat)) ∧ Below w'.heap.size w' w'') := Lib.hid fun w' h => kword_in kb bx W k1 w' h.k HK.out.2
      have hx4 : bits .xor .u32 (W k8 : Int) (W k1 : Int) = ((W n : Nat) : Int) := by rw [hz4]; exact u32_xor_nat _ _ hA hB
      clear HWHI HWLO h8 h4 hz4 hA hB hk8 hk1
      generalize W n = Z at *
      generalize W k8 = A8 at *
      generalize W k1 = A1 at *
      go_wp2_with fail
      refine HA1.out.mono ?_
      rintro e w3 ⟨rfl, hb3⟩
      have HAW3 := Lib.hid (HAW2.out.below hb3)
      clear hb3 HA1 HAW2
      go_wp2_with fail
      refine (HB1.out _ HAW3.out).mono ?_
      rintro e w4 ⟨rfl, hb4⟩
      have HAW4 := Lib.hid (HAW3.out.below hb4)
      clear hb4 HB1 HAW3
      obtain ⟨wa, hwa⟩ : ∃ q, w4.alloc (.cells zero32 22) = q := ⟨_, rfl⟩
      obtain ⟨g, hg⟩ : ∃ q, w4.heap.size = q := ⟨_, rfl⟩
      have hgk : kb < g := by rw [← hg]; exact Blk.lt HAW4.out.k
      have hAa : Blk wa g zero32 22 := by rw [← hwa, ← hg]; exact Blk.new _ _ _
      have hWa : AW w kb bx W F wa := by rw [← hwa]; exact HAW4.out.below ((Below.refl _ _).alloc (Nat.le_refl _) _)
      obtain ⟨wb, hwb⟩ : ∃ q, wa.setCells g 0 F.toList = q := ⟨_, rfl⟩
      have hAb : Blk wb g F 22 := by rw [← hwb]; exact Blk.store32 hAa HCF.out HCZ.out
      have hWb : AW w kb bx W F wb := by rw [← hwb]; exact hWa.own (Own.setCells _ _ _) hgk
      have cj : wb.cell? ⟨g, j, none⟩ = some (.int .u8 (x : Nat)) := by have := (HFR.out _ _ hAb).cell HJ.out.2; rw [HX.out.1] at this; exact this
      have fj : wb.frozen? ⟨g, j, none⟩ = false := Blk.free hAb j
      obtain ⟨wc, hwc⟩ : ∃ q, wb.setCell ⟨g, j, none⟩ (.int .u8 (y : Nat)) = q := ⟨_, rfl⟩
      have hAc : B32 wc g (upd f j y) := by rw [← hwc]; exact (HFR.out _ _ hAb).set j y
      have hWc : AW w kb bx W F wc := by rw [← hwc]; exact hWb.own ((Own.refl _ _).set _ _) hgk
      have HNEW2 := Lib.hid (new_any (upd f j y) _ 32 wc (hAc.bytes HB2.out))
      have HAA := Lib.hid hAa
      have HWC := Lib.hid hWc
      have HWA := Lib.hid HAW4.out.a
      clear hAa hWa hAb hWb hAc hWc hgk
      go_wp2_with (first | (refine wpList_load32 rfl (.tmp 2) rfl w.heap.size rfl F HWA.out HCF.out ?_) | (refine wpList_store32 rfl (.tmp 9) (.tmp 77) rfl g rfl F zero32 rfl HAA.out HCF.out HCZ.out ?_))
      refine HNEW2.out.mono ?_
      rintro e wd ⟨ko, bo, rfl, hN2⟩
      have HWD := Lib.hid (HWC.out.below hN2.2.2.1)
      have HO1 : Hid (Calls Try.prog 8 #[.pointer (some ⟨ko, 0, none⟩), .int .i64 (m : Nat)] wd fun e w' => e = .returned (.int .u32 (U : Nat)) ∧ Below wd.heap.size wd w') := Lib.hid (by
        have := kword_in ko bo _ m wd hN2.1 (show m < 60 by have := HM8.out; omega)
        rw [HVU.out.2] at this; exact this)
      clear hN2 HNEW2 cj fj hwa hwb hwc hg HAA HWC HWA
      go_wp2_with fail
      refine HO1.out.mono ?_
      rintro e we ⟨rfl, hbe⟩
      have HWE2 := Lib.hid (HWD.out.below hbe)
      have HO2 : Hid (Calls Try.prog 8 #[.pointer (some ⟨kb, 0, none⟩), .int .i64 (m : Nat)] we fun e w' => e = .returned (.int .u32 (V : Nat)) ∧ Below we.heap.size we w') := Lib.hid (by
        have := kword_in kb bx W m we HWE2.out.k (show m < 60 by have := HM8.out; omega)
        rw [HVU.out.1] at this; exact this)
      clear hbe HO1 HWD
      go_wp2_with fail
      refine HO2.out.mono ?_
      rintro e wf ⟨rfl, hbf⟩
      have HWF := Lib.hid (HWE2.out.below hbf)
      clear hbf HO2 HWE2
      go_wp2_with fail
      refine (kword_neg kb _).mono ?_
      rintro e wg ⟨rfl, hbg⟩
      have HWG := Lib.hid (HWF.out.below hbg)
      clear hbg HWF
      go_wp2_with fail
      refine (aes_sure _).mono ?_
      rintro e wh ⟨rfl, hbh⟩
      have HWH := Lib.hid (HWG.out.below hbh).o
      clear hbh HWG
      go_wp2_with fail
      go_ret
      exact ⟨congrArg (fun b => Ending.returned (Value.bool b)) HUB.out, HWH.out⟩
end Go.Proofs.Ytcpcaekkdgogmaa
