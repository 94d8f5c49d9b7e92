/- AES, the document's side: columns. -/
import Derived.Test.YtkcbckafibjflaaGreatDoorAd2
import Derived.Test.YtkcbckafibjflaaGreatDoorAr16
import Derived.Test.YtkcbckafibjflaaGreatDoorAe3
namespace Go.Proofs.YtkcbckafibjflaaGreatDoor
set_option linter.unusedVariables false
set_option linter.unusedSimpArgs false
open Go.RowKit

/-- An array of 16 bytes: as a fact on a world. -/
def AS (g : Nat) (f : Nat → Nat) (w' : World) : Prop := A16 w' g f
theorem AS.later {g : Nat} {f : Nat → Nat} {w w' : World} (h : AS g f w) (hb : Below w.heap.size w w') : AS g f w' := Blk.below h hb (Blk.lt h)
theorem AS.cell {g : Nat} {f : Nat → Nat} {w : World} (h : AS g f w) {i x : Nat} (hx : f i = x ∧ i < 16) : w.cell? ⟨g, i, none⟩ = some (.int .u8 (x : Nat)) := by rw [← hx.1]; exact A16.cell h hx.2
theorem AS.set {g b : Nat} {f : Nat → Nat} {w : World} (h : AS g f w) (hn : g ≠ b) (k : Nat) (v : Value) : AS g f (w.setCell ⟨b, k, none⟩ v) := Blk.set_other h hn v
/-- Behind n bytes. -/
def MD (w0 : World) (f : Nat → Nat) (n : Nat) (wr : World) : Prop := A16 wr w0.heap.size f ∧ A16 wr (w0.heap.size + 1) (fun _ => 0) ∧ A16 wr (w0.heap.size + 1 + 1) (fun j => if j < n then mxA f j else 0) ∧ Below w0.heap.size w0 wr
set_option maxRecDepth 100000 in
set_option maxHeartbeats 4000000 in
theorem rmixed_any (f : Nat → Nat) (w : World) (hf : ∀ i, i < 16 → f i < 256) :
    Calls Tryz.prog 38 #[.agg (rowC 16 f).toArray] w fun e w' => e = .returned (.agg (rowC 16 (mxA f)).toArray) ∧ Below w.heap.size w w' := by
  have hz := zero16a_run
  have HF := Lib.hid hf
  obtain ⟨C, hC⟩ : ∃ C, (rowC 16 f).toArray = C := ⟨_, rfl⟩
  have HT : Hid (MD w f 0 (((w.alloc (.cells C 40)).alloc (.cells zero16 40)).alloc (.cells zero16 40))) := Lib.hid (by
    rw [← hC]
    refine ⟨((Blk.new w _ 40).alloc _).alloc _, ?_, ?_, (((Below.refl _ _).alloc (Nat.le_refl _) _).alloc (by simp) _).alloc (by simp; omega) _⟩
    · have := (Blk.new (w.alloc (.cells (rowC 16 f).toArray 40)) zero16 40).alloc (.cells zero16 40)
      show Blk _ _ zero16 _; simpa using this
    · have := Blk.new ((w.alloc (.cells (rowC 16 f).toArray 40)).alloc (.cells zero16 40)) zero16 40
      refine A16.congr (f := fun _ => 0) ?_ fun i _ => (if_neg (Nat.not_lt_zero _)).symm
      show Blk _ _ zero16 _; simpa using this)
  rw [hC]
  clear hf hC
  go_enter Tryz.func38, Tryz.ntmps38
  go_wp2_with fail
  clear hz
  go_loopw [4] (fun v wr => ∃ i : Nat, i ≤ 16 ∧ v = .int .i64 (i : Int) ∧ MD w f i wr) (fun v _ => 16 - (intOf v).toNat)
  case atStart => exact ⟨0, Nat.zero_le _, rfl, HT.out⟩
  case round =>
    clear HT
    obtain ⟨i, hi, rfl, hX, hR, hY, hO⟩ := hrel
    by_cases hlt : i < 16
    · have i0 : (0 : Int) ≤ (i : Int) := by omega
      have i1 : (i : Int) < 16 := by omega
      have hat : mxA f i = dmx f i := (dmx_eq f i).symm
      unfold dmx at hat
      obtain ⟨q, hq⟩ : ∃ q, i / 4 = q := ⟨_, rfl⟩
      obtain ⟨c, hc⟩ : ∃ c, q * 4 = c := ⟨_, rfl⟩
      obtain ⟨j1, hj1⟩ : ∃ r, i + 1 = r := ⟨_, rfl⟩
      obtain ⟨j2, hj2⟩ : ∃ r, i + 2 = r := ⟨_, rfl⟩
      obtain ⟨j3, hj3⟩ : ∃ r, i + 3 = r := ⟨_, rfl⟩
      obtain ⟨r1, hr1⟩ : ∃ r, j1 % 4 = r := ⟨_, rfl⟩
      obtain ⟨r2, hr2⟩ : ∃ r, j2 % 4 = r := ⟨_, rfl⟩
      obtain ⟨r3, hr3⟩ : ∃ r, j3 % 4 = r := ⟨_, rfl⟩
      obtain ⟨k1, hk1⟩ : ∃ k, c + r1 = k := ⟨_, rfl⟩
      obtain ⟨k2, hk2⟩ : ∃ k, c + r2 = k := ⟨_, rfl⟩
      obtain ⟨k3, hk3⟩ : ∃ k, c + r3 = k := ⟨_, rfl⟩
      rw [hq, hc, hj1, hj2, hj3, hr1, hr2, hr3, hk1, hk2, hk3] at hat
      have HAT := Lib.hid hat
      clear hat
      have hk116 : k1 < 16 := by omega
      have hk216 : k2 < 16 := by omega
      have hk316 : k3 < 16 := by omega
      have hc16 : c < 16 := by omega
      have d1 := tdk (m := 4) rfl hq
      have d2 := wrm (m := 4) rfl hc (by omega)
      have p1 := wrk (m := 1) rfl hj1 (by omega)
      have p2 := wrk (m := 2) rfl hj2 (by omega)
      have p3 := wrk (m := 3) rfl hj3 (by omega)
      have t1 := tmk (m := 4) rfl hr1
      have t2 := tmk (m := 4) rfl hr2
      have t3 := tmk (m := 4) rfl hr3
      have s1 := wrs hk1 (by omega)
      have s2 := wrs hk2 (by omega)
      have s3 := wrs hk3 (by omega)
      have e1 : (i : Int) / 4 = (q : Int) := by omega
      have e2 : (q : Int) * 4 = (c : Int) := by omega
      clear hq hc hj1 hj2 hj3 hr1 hr2 hr3 hk1 hk2 hk3
      obtain ⟨k10, k11⟩ := ix hk116
      obtain ⟨k20, k21⟩ := ix hk216
      obtain ⟨k30, k31⟩ := ix hk316
      have q0 : (0 : Int) ≤ (q : Int) := by omega
      have q1 : (q : Int) < 16 := by omega
      have c0 : (0 : Int) ≤ (c : Int) := by omega
      have c1 : (c : Int) < 16 := by omega
      have b0 := HF.out i hlt
      have b1 := HF.out k1 hk116
      have b2 := HF.out k2 hk216
      have b3 := HF.out k3 hk316
      obtain ⟨M, hM⟩ : ∃ M, mxA f i = M := ⟨_, rfl⟩
      have hat := HAT.out
      clear HAT
      rw [hM] at hat
      obtain ⟨x0, h0⟩ : ∃ x, f i = x := ⟨_, rfl⟩
      obtain ⟨x1, h1⟩ : ∃ x, f k1 = x := ⟨_, rfl⟩
      obtain ⟨x2, h2⟩ : ∃ x, f k2 = x := ⟨_, rfl⟩
      obtain ⟨x3, h3⟩ : ∃ x, f k3 = x := ⟨_, rfl⟩
      rw [h0] at b0 hat
      rw [h1] at b1 hat
      rw [h2] at b2 hat
      rw [h3] at b3 hat
      have HX0 : Hid (f i = x0 ∧ i < 16) := Lib.hid ⟨h0, hlt⟩
      have HX1 : Hid (f k1 = x1 ∧ k1 < 16) := Lib.hid ⟨h1, hk116⟩
      have HX2 : Hid (f k2 = x2 ∧ k2 < 16) := Lib.hid ⟨h2, hk216⟩
      have HX3 : Hid (f k3 = x3 ∧ k3 < 16) := Lib.hid ⟨h3, hk316⟩
      clear h0 h1 h2 h3 hk116 hk216 hk316 hc16
      have f1 : bits .xor .u8 (dbl x0 : Nat) (dbl x1 ^^^ x1 : Nat) = ((dbl x0 ^^^ (dbl x1 ^^^ x1) : Nat) : Int) := u8_xor_nat _ _ (dbl_lt b0) (xlt (dbl_lt b1) b1)
      have f2 : bits .xor .u8 ((dbl x0 ^^^ (dbl x1 ^^^ x1) : Nat) : Int) (x2 : Int) = ((dbl x0 ^^^ (dbl x1 ^^^ x1) ^^^ x2 : Nat) : Int) := u8_xor_nat _ _ (xlt (dbl_lt b0) (xlt (dbl_lt b1) b1)) b2
      have f3 : bits .xor .u8 ((dbl x0 ^^^ (dbl x1 ^^^ x1) ^^^ x2 : Nat) : Int) (x3 : Int) = (M : Int) := by rw [hat]; exact u8_xor_nat _ _ (xlt (xlt (dbl_lt b0) (xlt (dbl_lt b1) b1)) b2) b3
      have HC2 := Lib.hid (fun w' => rt2_any x0 w' b0)
      have HC3 := Lib.hid (fun w' => rt3_any x1 w' b1)
      generalize dbl x0 ^^^ (dbl x1 ^^^ x1) ^^^ x2 = z2 at *
      generalize dbl x0 ^^^ (dbl x1 ^^^ x1) = z1 at *
      generalize dbl x1 ^^^ x1 = y1 at *
      generalize dbl x0 = y0 at *
      have HM := Lib.hid hM
      have HX := Lib.hid hX
      have HR := Lib.hid hR
      have HY := Lib.hid hY
      have HO := Lib.hid hO
      clear hX hR hY hO hM hat b0 b1 b2 b3 hlt hi
      go_wp2_with fail
      have hP_0 : Below wr.heap.size wr wr.drew := (Below.refl _ wr).drew
      have hA_0 : AS w.heap.size f wr.drew := HX.out
      refine wp_region_held_drew (S := (AS w.heap.size f)) (by kernel_rfl) ?_ (fun hHeld => ?_)
      · (try dsimp only)
        first | assumption
      generalize wr.drew = W0 at *
      refine wpAnyH_take (i := 0) (oi := { dst := some 13, op := Go.Op.move (Go.Operand.tmp 4), type := 3, pos := "ref.go:84", after := #[], guard := none }) (v := ?_) rfl (by kernel_rfl) (by kernel_rfl) (by kernel_rfl) (fun _ _ _ h => h) (Or.inl ⟨by rfl, ?_⟩) (by assumption) ?_
      rotate_left
      · intro wS hSw
        (try dsimp only at hSw)
        go_simp
        (try with_reducible rfl)
      (try simp only [Act.put, List.setIfInBounds_toArray, List.set_cons_zero, List.set_cons_succ])
      refine wpAnyH_take (i := 1) (oi := { dst := some 14, op := Go.Op.move (Go.Operand.tmp 4), type := 3, pos := "ref.go:84", after := #[], guard := none }) (v := ?_) rfl (by kernel_rfl) (by kernel_rfl) (by kernel_rfl) (fun _ _ _ h => h) (Or.inl ⟨by rfl, ?_⟩) (by assumption) ?_
      rotate_left
      · intro wS hSw
        (try dsimp only at hSw)
        go_simp
        (try with_reducible rfl)
      (try simp only [Act.put, List.setIfInBounds_toArray, List.set_cons_zero, List.set_cons_succ])
      refine wpAnyH_take (i := 2) (oi := { dst := some 15, op := Go.Op.indexAddr 40 (Go.Operand.tmp 1) (Go.Operand.tmp 14), type := 0, pos := "ref.go:84", after := #[{ on := 1, ground := Go.Ground.data }], guard := none }) (v := ?_) rfl (by kernel_rfl) (by kernel_rfl) (by kernel_rfl) (fun _ _ _ h => h) (Or.inl ⟨by rfl, ?_⟩) (by assumption) ?_
      rotate_left
      · intro wS hSw
        (try dsimp only at hSw)
        go_simp
        (try with_reducible rfl)
      (try simp only [Act.put, List.setIfInBounds_toArray, List.set_cons_zero, List.set_cons_succ])
      refine wpAnyH_take (i := 3) (oi := { dst := some 16, op := Go.Op.load 5 (Go.Operand.tmp 15), type := 5, pos := "ref.go:84", after := #[{ on := 2, ground := Go.Ground.data }], guard := none }) (v := ?_) rfl (by kernel_rfl) (by kernel_rfl) (by kernel_rfl) (fun _ _ _ h => h) (Or.inl ⟨by rfl, ?_⟩) (by assumption) ?_
      rotate_left
      · intro wS hSw
        (have c9 := AS.cell hSw HX0.out; go_simp; (try with_reducible rfl))
      (try simp only [Act.put, List.setIfInBounds_toArray, List.set_cons_zero, List.set_cons_succ])
      refine wpAnyH_take (i := 5) (oi := { dst := some 18, op := Go.Op.move (Go.Operand.tmp 5), type := 3, pos := "ref.go:84", after := #[], guard := none }) (v := ?_) rfl (by kernel_rfl) (by kernel_rfl) (by kernel_rfl) (fun _ _ _ h => h) (Or.inl ⟨by rfl, ?_⟩) (by assumption) ?_
      rotate_left
      · intro wS hSw
        (try dsimp only at hSw)
        go_simp
        (try with_reducible rfl)
      (try simp only [Act.put, List.setIfInBounds_toArray, List.set_cons_zero, List.set_cons_succ])
      refine wpAnyH_take (i := 6) (oi := { dst := some 19, op := Go.Op.move (Go.Operand.tmp 4), type := 3, pos := "ref.go:84", after := #[], guard := none }) (v := ?_) rfl (by kernel_rfl) (by kernel_rfl) (by kernel_rfl) (fun _ _ _ h => h) (Or.inl ⟨by rfl, ?_⟩) (by assumption) ?_
      rotate_left
      · intro wS hSw
        (try dsimp only at hSw)
        go_simp
        (try with_reducible rfl)
      (try simp only [Act.put, List.setIfInBounds_toArray, List.set_cons_zero, List.set_cons_succ])
      refine wpAnyH_take (i := 7) (oi := { dst := some 20, op := Go.Op.binOp Go.BinOp.add 3 (Go.Operand.tmp 19) (Go.Operand.const (Go.Value.int Go.IntKind.i64 1)) 3, type := 3, pos := "ref.go:84", after := #[{ on := 6, ground := Go.Ground.data }], guard := none }) (v := ?_) rfl (by kernel_rfl) (by kernel_rfl) (by kernel_rfl) (fun _ _ _ h => h) (Or.inl ⟨by rfl, ?_⟩) (by assumption) ?_
      rotate_left
      · intro wS hSw
        (try dsimp only at hSw)
        go_simp
        (try with_reducible rfl)
      (try simp only [Act.put, List.setIfInBounds_toArray, List.set_cons_zero, List.set_cons_succ])
      refine wpAnyH_take (i := 8) (oi := { dst := some 21, op := Go.Op.binOp Go.BinOp.rem 3 (Go.Operand.tmp 20) (Go.Operand.const (Go.Value.int Go.IntKind.i64 4)) 3, type := 3, pos := "ref.go:84", after := #[{ on := 7, ground := Go.Ground.data }], guard := none }) (v := ?_) rfl (by kernel_rfl) (by kernel_rfl) (by kernel_rfl) (fun _ _ _ h => h) (Or.inl ⟨by rfl, ?_⟩) (by assumption) ?_
      rotate_left
      · intro wS hSw
        (try dsimp only at hSw)
        go_simp
        (try with_reducible rfl)
      (try simp only [Act.put, List.setIfInBounds_toArray, List.set_cons_zero, List.set_cons_succ])
      refine wpAnyH_take (i := 9) (oi := { dst := some 22, op := Go.Op.binOp Go.BinOp.add 3 (Go.Operand.tmp 18) (Go.Operand.tmp 21) 3, type := 3, pos := "ref.go:84", after := #[{ on := 5, ground := Go.Ground.data }, { on := 8, ground := Go.Ground.data }], guard := none }) (v := ?_) rfl (by kernel_rfl) (by kernel_rfl) (by kernel_rfl) (fun _ _ _ h => h) (Or.inl ⟨by rfl, ?_⟩) (by assumption) ?_
      rotate_left
      · intro wS hSw
        (try dsimp only at hSw)
        go_simp
        (try with_reducible rfl)
      (try simp only [Act.put, List.setIfInBounds_toArray, List.set_cons_zero, List.set_cons_succ])
      refine wpAnyH_take (i := 10) (oi := { dst := some 23, op := Go.Op.indexAddr 40 (Go.Operand.tmp 1) (Go.Operand.tmp 22), type := 0, pos := "ref.go:84", after := #[{ on := 9, ground := Go.Ground.data }], guard := none }) (v := ?_) rfl (by kernel_rfl) (by kernel_rfl) (by kernel_rfl) (fun _ _ _ h => h) (Or.inl ⟨by rfl, ?_⟩) (by assumption) ?_
      rotate_left
      · intro wS hSw
        (try dsimp only at hSw)
        go_simp
        (try with_reducible rfl)
      (try simp only [Act.put, List.setIfInBounds_toArray, List.set_cons_zero, List.set_cons_succ])
      refine wpAnyH_take (i := 11) (oi := { dst := some 24, op := Go.Op.load 5 (Go.Operand.tmp 23), type := 5, pos := "ref.go:84", after := #[{ on := 10, ground := Go.Ground.data }], guard := none }) (v := ?_) rfl (by kernel_rfl) (by kernel_rfl) (by kernel_rfl) (fun _ _ _ h => h) (Or.inl ⟨by rfl, ?_⟩) (by assumption) ?_
      rotate_left
      · intro wS hSw
        (have c9 := AS.cell hSw HX1.out; go_simp; (try with_reducible rfl))
      (try simp only [Act.put, List.setIfInBounds_toArray, List.set_cons_zero, List.set_cons_succ])
      refine wpAnyH_take (i := 14) (oi := { dst := some 27, op := Go.Op.move (Go.Operand.tmp 5), type := 3, pos := "ref.go:84", after := #[], guard := none }) (v := ?_) rfl (by kernel_rfl) (by kernel_rfl) (by kernel_rfl) (fun _ _ _ h => h) (Or.inl ⟨by rfl, ?_⟩) (by assumption) ?_
      rotate_left
      · intro wS hSw
        (try dsimp only at hSw)
        go_simp
        (try with_reducible rfl)
      (try simp only [Act.put, List.setIfInBounds_toArray, List.set_cons_zero, List.set_cons_succ])
      refine wpAnyH_take (i := 15) (oi := { dst := some 28, op := Go.Op.move (Go.Operand.tmp 4), type := 3, pos := "ref.go:84", after := #[], guard := none }) (v := ?_) rfl (by kernel_rfl) (by kernel_rfl) (by kernel_rfl) (fun _ _ _ h => h) (Or.inl ⟨by rfl, ?_⟩) (by assumption) ?_
      rotate_left
      · intro wS hSw
        (try dsimp only at hSw)
        go_simp
        (try with_reducible rfl)
      (try simp only [Act.put, List.setIfInBounds_toArray, List.set_cons_zero, List.set_cons_succ])
      refine wpAnyH_take (i := 16) (oi := { dst := some 29, op := Go.Op.binOp Go.BinOp.add 3 (Go.Operand.tmp 28) (Go.Operand.const (Go.Value.int Go.IntKind.i64 2)) 3, type := 3, pos := "ref.go:84", after := #[{ on := 15, ground := Go.Ground.data }], guard := none }) (v := ?_) rfl (by kernel_rfl) (by kernel_rfl) (by kernel_rfl) (fun _ _ _ h => h) (Or.inl ⟨by rfl, ?_⟩) (by assumption) ?_
      rotate_left
      · intro wS hSw
        (try dsimp only at hSw)
        go_simp
        (try with_reducible rfl)
      (try simp only [Act.put, List.setIfInBounds_toArray, List.set_cons_zero, List.set_cons_succ])
      refine wpAnyH_take (i := 17) (oi := { dst := some 30, op := Go.Op.binOp Go.BinOp.rem 3 (Go.Operand.tmp 29) (Go.Operand.const (Go.Value.int Go.IntKind.i64 4)) 3, type := 3, pos := "ref.go:84", after := #[{ on := 16, ground := Go.Ground.data }], guard := none }) (v := ?_) rfl (by kernel_rfl) (by kernel_rfl) (by kernel_rfl) (fun _ _ _ h => h) (Or.inl ⟨by rfl, ?_⟩) (by assumption) ?_
      rotate_left
      · intro wS hSw
        (try dsimp only at hSw)
        go_simp
        (try with_reducible rfl)
      (try simp only [Act.put, List.setIfInBounds_toArray, List.set_cons_zero, List.set_cons_succ])
      refine wpAnyH_take (i := 18) (oi := { dst := some 31, op := Go.Op.binOp Go.BinOp.add 3 (Go.Operand.tmp 27) (Go.Operand.tmp 30) 3, type := 3, pos := "ref.go:84", after := #[{ on := 14, ground := Go.Ground.data }, { on := 17, ground := Go.Ground.data }], guard := none }) (v := ?_) rfl (by kernel_rfl) (by kernel_rfl) (by kernel_rfl) (fun _ _ _ h => h) (Or.inl ⟨by rfl, ?_⟩) (by assumption) ?_
      rotate_left
      · intro wS hSw
        (try dsimp only at hSw)
        go_simp
        (try with_reducible rfl)
      (try simp only [Act.put, List.setIfInBounds_toArray, List.set_cons_zero, List.set_cons_succ])
      refine wpAnyH_take (i := 19) (oi := { dst := some 32, op := Go.Op.indexAddr 40 (Go.Operand.tmp 1) (Go.Operand.tmp 31), type := 0, pos := "ref.go:84", after := #[{ on := 18, ground := Go.Ground.data }], guard := none }) (v := ?_) rfl (by kernel_rfl) (by kernel_rfl) (by kernel_rfl) (fun _ _ _ h => h) (Or.inl ⟨by rfl, ?_⟩) (by assumption) ?_
      rotate_left
      · intro wS hSw
        (try dsimp only at hSw)
        go_simp
        (try with_reducible rfl)
      (try simp only [Act.put, List.setIfInBounds_toArray, List.set_cons_zero, List.set_cons_succ])
      refine wpAnyH_take (i := 20) (oi := { dst := some 33, op := Go.Op.load 5 (Go.Operand.tmp 32), type := 5, pos := "ref.go:84", after := #[{ on := 19, ground := Go.Ground.data }], guard := none }) (v := ?_) rfl (by kernel_rfl) (by kernel_rfl) (by kernel_rfl) (fun _ _ _ h => h) (Or.inl ⟨by rfl, ?_⟩) (by assumption) ?_
      rotate_left
      · intro wS hSw
        (have c9 := AS.cell hSw HX2.out; go_simp; (try with_reducible rfl))
      (try simp only [Act.put, List.setIfInBounds_toArray, List.set_cons_zero, List.set_cons_succ])
      refine wpAnyH_take (i := 22) (oi := { dst := some 35, op := Go.Op.move (Go.Operand.tmp 5), type := 3, pos := "ref.go:84", after := #[], guard := none }) (v := ?_) rfl (by kernel_rfl) (by kernel_rfl) (by kernel_rfl) (fun _ _ _ h => h) (Or.inl ⟨by rfl, ?_⟩) (by assumption) ?_
      rotate_left
      · intro wS hSw
        (try dsimp only at hSw)
        go_simp
        (try with_reducible rfl)
      (try simp only [Act.put, List.setIfInBounds_toArray, List.set_cons_zero, List.set_cons_succ])
      refine wpAnyH_take (i := 23) (oi := { dst := some 36, op := Go.Op.move (Go.Operand.tmp 4), type := 3, pos := "ref.go:84", after := #[], guard := none }) (v := ?_) rfl (by kernel_rfl) (by kernel_rfl) (by kernel_rfl) (fun _ _ _ h => h) (Or.inl ⟨by rfl, ?_⟩) (by assumption) ?_
      rotate_left
      · intro wS hSw
        (try dsimp only at hSw)
        go_simp
        (try with_reducible rfl)
      (try simp only [Act.put, List.setIfInBounds_toArray, List.set_cons_zero, List.set_cons_succ])
      refine wpAnyH_take (i := 24) (oi := { dst := some 37, op := Go.Op.binOp Go.BinOp.add 3 (Go.Operand.tmp 36) (Go.Operand.const (Go.Value.int Go.IntKind.i64 3)) 3, type := 3, pos := "ref.go:84", after := #[{ on := 23, ground := Go.Ground.data }], guard := none }) (v := ?_) rfl (by kernel_rfl) (by kernel_rfl) (by kernel_rfl) (fun _ _ _ h => h) (Or.inl ⟨by rfl, ?_⟩) (by assumption) ?_
      rotate_left
      · intro wS hSw
        (try dsimp only at hSw)
        go_simp
        (try with_reducible rfl)
      (try simp only [Act.put, List.setIfInBounds_toArray, List.set_cons_zero, List.set_cons_succ])
      refine wpAnyH_take (i := 25) (oi := { dst := some 38, op := Go.Op.binOp Go.BinOp.rem 3 (Go.Operand.tmp 37) (Go.Operand.const (Go.Value.int Go.IntKind.i64 4)) 3, type := 3, pos := "ref.go:84", after := #[{ on := 24, ground := Go.Ground.data }], guard := none }) (v := ?_) rfl (by kernel_rfl) (by kernel_rfl) (by kernel_rfl) (fun _ _ _ h => h) (Or.inl ⟨by rfl, ?_⟩) (by assumption) ?_
      rotate_left
      · intro wS hSw
        (try dsimp only at hSw)
        go_simp
        (try with_reducible rfl)
      (try simp only [Act.put, List.setIfInBounds_toArray, List.set_cons_zero, List.set_cons_succ])
      refine wpAnyH_take (i := 26) (oi := { dst := some 39, op := Go.Op.binOp Go.BinOp.add 3 (Go.Operand.tmp 35) (Go.Operand.tmp 38) 3, type := 3, pos := "ref.go:84", after := #[{ on := 22, ground := Go.Ground.data }, { on := 25, ground := Go.Ground.data }], guard := none }) (v := ?_) rfl (by kernel_rfl) (by kernel_rfl) (by kernel_rfl) (fun _ _ _ h => h) (Or.inl ⟨by rfl, ?_⟩) (by assumption) ?_
      rotate_left
      · intro wS hSw
        (try dsimp only at hSw)
        go_simp
        (try with_reducible rfl)
      (try simp only [Act.put, List.setIfInBounds_toArray, List.set_cons_zero, List.set_cons_succ])
      refine wpAnyH_take (i := 27) (oi := { dst := some 40, op := Go.Op.indexAddr 40 (Go.Operand.tmp 1) (Go.Operand.tmp 39), type := 0, pos := "ref.go:84", after := #[{ on := 26, ground := Go.Ground.data }], guard := none }) (v := ?_) rfl (by kernel_rfl) (by kernel_rfl) (by kernel_rfl) (fun _ _ _ h => h) (Or.inl ⟨by rfl, ?_⟩) (by assumption) ?_
      rotate_left
      · intro wS hSw
        (try dsimp only at hSw)
        go_simp
        (try with_reducible rfl)
      (try simp only [Act.put, List.setIfInBounds_toArray, List.set_cons_zero, List.set_cons_succ])
      refine wpAnyH_take (i := 28) (oi := { dst := some 41, op := Go.Op.load 5 (Go.Operand.tmp 40), type := 5, pos := "ref.go:84", after := #[{ on := 27, ground := Go.Ground.data }], guard := none }) (v := ?_) rfl (by kernel_rfl) (by kernel_rfl) (by kernel_rfl) (fun _ _ _ h => h) (Or.inl ⟨by rfl, ?_⟩) (by assumption) ?_
      rotate_left
      · intro wS hSw
        (have c9 := AS.cell hSw HX3.out; go_simp; (try with_reducible rfl))
      (try simp only [Act.put, List.setIfInBounds_toArray, List.set_cons_zero, List.set_cons_succ])
      refine wpAnyH_ready (rs := [4]) (by kernel_rfl) (by simp) ?_
      refine AllReadyH.cons (o := { dst := some 17, op := Go.Op.call { callee := Go.Callee.value (Go.Operand.func 53), args := #[Go.Operand.tmp 16, Go.Operand.const (Go.Value.int Go.IntKind.i64 2)], argTypes := #[5, 3] }, type := 5, pos := "ref.go:84", after := #[{ on := 3, ground := Go.Ground.data }], guard := none }) rfl (fun K hK => ?_) AllReadyH.nil
      go_simp
      (refine (HC2.out _).mono ?_; rintro e v_1 ⟨rfl, hb_1⟩; have hP_1 := hP_0.trans (hb_1.mono hP_0.size); have hA_1 := AS.later hA_0 hb_1; clear hb_1 hP_0 hA_0; skip)
      (try go_wp2_with fail)
      refine hK.out _ _ ?_ (fun hHeld => ?_)
      · (try dsimp only)
        first | assumption
      clear hK K
      (try simp only [Act.put, List.setIfInBounds_toArray, List.set_cons_zero, List.set_cons_succ])
      refine wpAnyH_ready (rs := [12]) (by kernel_rfl) (by simp) ?_
      refine AllReadyH.cons (o := { dst := some 25, op := Go.Op.call { callee := Go.Callee.value (Go.Operand.func 53), args := #[Go.Operand.tmp 24, Go.Operand.const (Go.Value.int Go.IntKind.i64 3)], argTypes := #[5, 3] }, type := 5, pos := "ref.go:84", after := #[{ on := 11, ground := Go.Ground.data }, { on := 4, ground := Go.Ground.chain }], guard := none }) rfl (fun K hK => ?_) AllReadyH.nil
      go_simp
      (refine (HC3.out _).mono ?_; rintro e v_2 ⟨rfl, hb_2⟩; have hP_2 := hP_1.trans (hb_2.mono hP_1.size); have hA_2 := AS.later hA_1 hb_2; clear hb_2 hP_1 hA_1; skip)
      (try go_wp2_with fail)
      refine hK.out _ _ ?_ (fun hHeld => ?_)
      · (try dsimp only)
        first | assumption
      clear hK K
      (try simp only [Act.put, List.setIfInBounds_toArray, List.set_cons_zero, List.set_cons_succ])
      refine wpAnyH_take (i := 13) (oi := { dst := some 26, op := Go.Op.binOp Go.BinOp.xor 5 (Go.Operand.tmp 17) (Go.Operand.tmp 25) 5, type := 5, pos := "ref.go:84", after := #[{ on := 4, ground := Go.Ground.data }, { on := 12, ground := Go.Ground.data }], guard := none }) (v := ?_) rfl (by kernel_rfl) (by kernel_rfl) (by kernel_rfl) (fun _ _ _ h => h) (Or.inl ⟨by rfl, ?_⟩) (by assumption) ?_
      rotate_left
      · intro wS hSw
        (try dsimp only at hSw)
        go_simp
        (try with_reducible rfl)
      (try simp only [Act.put, List.setIfInBounds_toArray, List.set_cons_zero, List.set_cons_succ])
      refine wpAnyH_take (i := 21) (oi := { dst := some 34, op := Go.Op.binOp Go.BinOp.xor 5 (Go.Operand.tmp 26) (Go.Operand.tmp 33) 5, type := 5, pos := "ref.go:84", after := #[{ on := 13, ground := Go.Ground.data }, { on := 20, ground := Go.Ground.data }], guard := none }) (v := ?_) rfl (by kernel_rfl) (by kernel_rfl) (by kernel_rfl) (fun _ _ _ h => h) (Or.inl ⟨by rfl, ?_⟩) (by assumption) ?_
      rotate_left
      · intro wS hSw
        (try dsimp only at hSw)
        go_simp
        (try with_reducible rfl)
      (try simp only [Act.put, List.setIfInBounds_toArray, List.set_cons_zero, List.set_cons_succ])
      refine wpAnyH_take (i := 29) (oi := { dst := some 42, op := Go.Op.binOp Go.BinOp.xor 5 (Go.Operand.tmp 34) (Go.Operand.tmp 41) 5, type := 5, pos := "ref.go:84", after := #[{ on := 21, ground := Go.Ground.data }, { on := 28, ground := Go.Ground.data }], guard := none }) (v := ?_) rfl (by kernel_rfl) (by kernel_rfl) (by kernel_rfl) (fun _ _ _ h => h) (Or.inl ⟨by rfl, ?_⟩) (by assumption) ?_
      rotate_left
      · intro wS hSw
        (try dsimp only at hSw)
        go_simp
        (try with_reducible rfl)
      (try simp only [Act.put, List.setIfInBounds_toArray, List.set_cons_zero, List.set_cons_succ])
      refine wpAnyH_take (i := 30) (oi := { dst := some 43, op := Go.Op.indexAddr 40 (Go.Operand.tmp 3) (Go.Operand.tmp 13), type := 0, pos := "ref.go:84", after := #[{ on := 0, ground := Go.Ground.data }, { on := 0, ground := Go.Ground.phase }, { on := 1, ground := Go.Ground.phase }, { on := 2, ground := Go.Ground.phase }, { on := 3, ground := Go.Ground.phase }, { on := 4, ground := Go.Ground.phase }, { on := 5, ground := Go.Ground.phase }, { on := 6, ground := Go.Ground.phase }, { on := 7, ground := Go.Ground.phase }, { on := 8, ground := Go.Ground.phase }, { on := 9, ground := Go.Ground.phase }, { on := 10, ground := Go.Ground.phase }, { on := 11, ground := Go.Ground.phase }, { on := 12, ground := Go.Ground.phase }, { on := 13, ground := Go.Ground.phase }, { on := 14, ground := Go.Ground.phase }, { on := 15, ground := Go.Ground.phase }, { on := 16, ground := Go.Ground.phase }, { on := 17, ground := Go.Ground.phase }, { on := 18, ground := Go.Ground.phase }, { on := 19, ground := Go.Ground.phase }, { on := 20, ground := Go.Ground.phase }, { on := 21, ground := Go.Ground.phase }, { on := 22, ground := Go.Ground.phase }, { on := 23, ground := Go.Ground.phase }, { on := 24, ground := Go.Ground.phase }, { on := 25, ground := Go.Ground.phase }, { on := 26, ground := Go.Ground.phase }, { on := 27, ground := Go.Ground.phase }, { on := 28, ground := Go.Ground.phase }, { on := 29, ground := Go.Ground.phase }], guard := none }) (v := ?_) rfl (by kernel_rfl) (by kernel_rfl) (by kernel_rfl) (fun _ _ _ h => h) (Or.inl ⟨by rfl, ?_⟩) (by assumption) ?_
      rotate_left
      · intro wS hSw
        (try dsimp only at hSw)
        go_simp
        (try with_reducible rfl)
      (try simp only [Act.put, List.setIfInBounds_toArray, List.set_cons_zero, List.set_cons_succ])
      refine wpAnyH_ready (rs := [31]) (by kernel_rfl) (by simp) ?_
      refine AllReadyH.cons (o := { dst := none, op := Go.Op.store 5 (Go.Operand.tmp 43) (Go.Operand.tmp 42), type := 0, pos := "ref.go:84", after := #[{ on := 30, ground := Go.Ground.data }, { on := 29, ground := Go.Ground.data }, { on := 12, ground := Go.Ground.chain }, { on := 0, ground := Go.Ground.phase }, { on := 1, ground := Go.Ground.phase }, { on := 2, ground := Go.Ground.phase }, { on := 3, ground := Go.Ground.phase }, { on := 4, ground := Go.Ground.phase }, { on := 5, ground := Go.Ground.phase }, { on := 6, ground := Go.Ground.phase }, { on := 7, ground := Go.Ground.phase }, { on := 8, ground := Go.Ground.phase }, { on := 9, ground := Go.Ground.phase }, { on := 10, ground := Go.Ground.phase }, { on := 11, ground := Go.Ground.phase }, { on := 12, ground := Go.Ground.phase }, { on := 13, ground := Go.Ground.phase }, { on := 14, ground := Go.Ground.phase }, { on := 15, ground := Go.Ground.phase }, { on := 16, ground := Go.Ground.phase }, { on := 17, ground := Go.Ground.phase }, { on := 18, ground := Go.Ground.phase }, { on := 19, ground := Go.Ground.phase }, { on := 20, ground := Go.Ground.phase }, { on := 21, ground := Go.Ground.phase }, { on := 22, ground := Go.Ground.phase }, { on := 23, ground := Go.Ground.phase }, { on := 24, ground := Go.Ground.phase }, { on := 25, ground := Go.Ground.phase }, { on := 26, ground := Go.Ground.phase }, { on := 27, ground := Go.Ground.phase }, { on := 28, ground := Go.Ground.phase }, { on := 29, ground := Go.Ground.phase }], guard := none }) rfl (fun K hK => ?_) AllReadyH.nil
      (have hY9 := Blk.below HY.out hP_2 (Blk.lt HY.out); have c8 : v_2.cell? ⟨w.heap.size + 1 + 1, i, none⟩ = some (.int .u8 0) := (by have h8 := A16.cell hY9 HX0.out.2; rw [if_neg (Nat.lt_irrefl _)] at h8; exact h8); have z8 : v_2.frozen? ⟨w.heap.size + 1 + 1, i, none⟩ = false := Blk.free hY9 _; have HY9 := Lib.hid hY9; clear hY9; go_simp; clear c8 z8; obtain ⟨v_3, hw_3⟩ : ∃ q, v_2.setCell ⟨w.heap.size + 1 + 1, i, none⟩ (.int .u8 (M : Nat)) = q := ⟨_, rfl⟩; rw [hw_3]; have hA_3 := AS.set hA_2 (b := w.heap.size + 1 + 1) (by omega) i (.int .u8 (M : Nat)); rw [hw_3] at hA_3; have HN : Hid (MD w f (i + 1) v_3) := Lib.hid (by
              have hO8 := HO.out.trans (hP_2.mono HO.out.size)
              rw [← hw_3]
              refine ⟨Blk.set_other (Blk.below HX.out hP_2 (Blk.lt HX.out)) (by simp; omega) _, Blk.set_other (Blk.below HR.out hP_2 (Blk.lt HR.out)) (by simp) _, (A16.set HY9.out i M).congr fun j hj => ?_, hO8.setCell (by simp; omega) _⟩
              unfold upd
              by_cases e : j = i
              · rw [if_pos e, e, if_pos (by omega), HM.out]
              · rw [if_neg e]
                show (if j < i then mxA f j else 0) = if j < i + 1 then mxA f j else 0
                by_cases h5 : j < i
                · rw [if_pos h5, if_pos (by omega)]
                · rw [if_neg h5, if_neg (by omega)]); clear hP_2 hA_2 hw_3; skip)
      refine hK.out _ _ ?_ (fun hHeld => ?_)
      · (try dsimp only)
        first | assumption
      clear hK K
      (try simp only [Act.put, List.setIfInBounds_toArray, List.set_cons_zero, List.set_cons_succ])
      refine wpAnyH_done (by kernel_rfl) ?_ _
      clear hA_3 p1 p2 p3
      have HX00 := HX0.out.2
      go_wp2_with fail
      go_roundw
      case rel => exact ⟨i + 1, by omega, by go_num, HN.out⟩
      case measure => simp [intOf]; omega
    · obtain rfl : i = 16 := by omega
      obtain ⟨E, hE⟩ : ∃ C, (rowC 16 (mxA f)).toArray = C := ⟨_, rfl⟩
      have HCE : Hid (∃ f, E = (rowC 16 f).toArray) := Lib.hid ⟨_, hE.symm⟩
      have HC0 : Hid (∃ f, zero16 = (rowC 16 f).toArray) := Lib.hid ⟨_, rfl⟩
      have HX5 : Hid (Blk wr (w.heap.size + 1 + 1) E 40) := Lib.hid (hE ▸ (hY.congr fun i hi => if_pos hi))
      have HR5 : Hid (Blk wr (w.heap.size + 1) zero16 40) := Lib.hid hR
      have HN : Hid (Blk (wr.setCells (w.heap.size + 1) 0 E.toList) (w.heap.size + 1) E 40) := Lib.hid (Blk.store16a HR5.out HCE.out HC0.out)
      have HO5 : Hid (Below w.heap.size w (wr.setCells (w.heap.size + 1) 0 E.toList)) := Lib.hid (Below.set16 (g := w.heap.size + 1) hO (by omega) hO.size _)
      have HE := Lib.hid hE
      clear hX hR hY hO hE hlt hi
      go_wp2_with (first
        | (refine wpList_load16a rfl (.tmp 3) rfl (w.heap.size + 1 + 1) rfl E HX5.out HCE.out ?_)
        | (refine wpList_store16a rfl (.tmp 2) (.tmp 44) rfl (w.heap.size + 1) rfl E zero16 rfl HR5.out HCE.out HC0.out ?_))
      refine bodyPost_ret (v := .agg E) ?_ rfl ⟨by rw [HE.out], HO5.out⟩
      exact res16a Tryz.results38 _ _ (w.heap.size + 1) E rfl HN.out HCE.out
end Go.Proofs.YtkcbckafibjflaaGreatDoor
