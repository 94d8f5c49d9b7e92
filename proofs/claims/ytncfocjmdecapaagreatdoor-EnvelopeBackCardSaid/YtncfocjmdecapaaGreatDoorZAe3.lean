/- AES: columns. -/
import Derived.Test.YtncfocjmdecapaaGreatDoorZB0
import Derived.Test.YtncfocjmdecapaaGreatDoorZS1
import Derived.Test.YtncfocjmdecapaaGreatDoorZS2
import Derived.Test.YtncfocjmdecapaaGreatDoorZSh4
import Derived.Test.YtncfocjmdecapaaGreatDoorZA0
import Derived.Test.YtncfocjmdecapaaGreatDoorZS5
import Derived.Test.YtncfocjmdecapaaGreatDoorZSh7
import Derived.Test.YtncfocjmdecapaaGreatDoorZS8
import Derived.Test.YtncfocjmdecapaaGreatDoorZHm2
import Derived.Test.YtncfocjmdecapaaGreatDoorZAs
import Derived.Test.YtncfocjmdecapaaGreatDoorZR0
import Derived.Test.YtncfocjmdecapaaGreatDoorZF1
import Derived.Test.YtncfocjmdecapaaGreatDoorZF2
import Derived.Test.YtncfocjmdecapaaGreatDoorZB16
import Derived.Test.YtncfocjmdecapaaGreatDoorZAe1
import Derived.Test.YtncfocjmdecapaaGreatDoorZAe2
namespace Go.Proofs.YtncfocjmdecapaaGreatDoor
set_option linter.unusedVariables false
set_option linter.unusedSimpArgs false
open Go.RowKit
theorem tm1 {i r : Nat} (h : (i + 1) % 4 = r) : ((i : Int) + 1).tmod 4 = (r : Int) := by rw [Int.tmod_eq_emod_of_nonneg (by omega)]; omega
theorem tm2 {i r : Nat} (h : (i + 2) % 4 = r) : ((i : Int) + 2).tmod 4 = (r : Int) := by rw [Int.tmod_eq_emod_of_nonneg (by omega)]; omega
theorem tm3 {i r : Nat} (h : (i + 3) % 4 = r) : ((i : Int) + 3).tmod 4 = (r : Int) := by rw [Int.tmod_eq_emod_of_nonneg (by omega)]; omega
theorem wr4 {c r k : Nat} (h : 4 * c + r = k) (hk : k < 100) : IntKind.i64.wrap (4 * (c : Int) + (r : Int)) = (k : Int) := by rw [IntWalk.i64_in _ (by omega)]; omega
theorem wr1 {i : Nat} (h : i < 4) : IntKind.i64.wrap ((i : Int) + 1) = (i : Int) + 1 ∧ IntKind.i64.wrap ((i : Int) + 2) = (i : Int) + 2 ∧ IntKind.i64.wrap ((i : Int) + 3) = (i : Int) + 3 ∧ IntKind.i64.wrap (4 * (i : Int)) = 4 * (i : Int) :=
  ⟨IntWalk.i64_in _ (by omega), IntWalk.i64_in _ (by omega), IntWalk.i64_in _ (by omega), IntWalk.i64_in _ (by omega)⟩
theorem lt16 {c r k : Nat} (h : 4 * c + r = k) (hc : c < 4) (hr : r < 4) : k < 16 := by omega
theorem ix {k : Nat} (h : k < 16) : (0 : Int) ≤ (k : Int) ∧ (k : Int) < 16 := by omega
/-- Behind n bytes. -/
def MX (w0 : World) (f : Nat → Nat) (n : Nat) (wr : World) : Prop := B16 wr w0.heap.size f ∧ B16 wr (w0.heap.size + 1) (fun _ => 0) ∧ B16 wr (w0.heap.size + 1 + 1) (fun j => if j < n then mxA f j else 0) ∧ Below w0.heap.size w0 wr
set_option maxRecDepth 100000 in
set_option maxHeartbeats 4000000 in
theorem mixed_anyG (f : Nat → Nat) (w : World) (hf : ∀ i, i < 16 → f i < 256) :
    Calls Tryz.prog 80 #[.agg (rowC 16 f).toArray] w fun e w' => e = .returned (.agg (rowC 16 (mxA f)).toArray) ∧ Below w.heap.size w w' := by
  have hz := zero16_run
  have HF := Lib.hid hf
  obtain ⟨C, hC⟩ : ∃ C, (rowC 16 f).toArray = C := ⟨_, rfl⟩
  have HT : Hid (MX w f 0 (((w.alloc (.cells C 82)).alloc (.cells zero16 82)).alloc (.cells zero16 82))) := Lib.hid (by
    rw [← hC]
    refine ⟨((Blk.new w _ 82).alloc _).alloc _, ?_, ?_, (((Below.refl _ _).alloc (Nat.le_refl _) _).alloc (by simp) _).alloc (by simp; omega) _⟩
    · have := (Blk.new (w.alloc (.cells (rowC 16 f).toArray 82)) zero16 82).alloc (.cells zero16 82)
      show Blk _ _ zero16 _; simpa using this
    · have := Blk.new ((w.alloc (.cells (rowC 16 f).toArray 82)).alloc (.cells zero16 82)) zero16 82
      refine B16.congr (f := fun _ => 0) ?_ fun i _ => (if_neg (Nat.not_lt_zero _)).symm
      show Blk _ _ zero16 _; simpa using this)
  rw [hC]
  clear hf hC
  go_enter Tryz.func80, Tryz.ntmps80
  go_wp2_with fail
  clear hz
  go_loopw [9] (fun v wr => ∃ c : Nat, c ≤ 4 ∧ v = .int .i64 (c : Int) ∧ MX w f (4 * c) wr) (fun v _ => 4 - (intOf v).toNat)
  case atStart => exact ⟨0, Nat.zero_le _, rfl, HT.out⟩
  case round =>
    clear HT
    obtain ⟨c, hc, rfl, hM⟩ := hrel
    by_cases hlt : c < 4
    · have c0 : (0 : Int) ≤ (c : Int) := by omega
      have c1 : (c : Int) < 4 := by omega
      have HM := Lib.hid hM
      clear hM
      go_wp2_with fail
      go_loopw [12] (fun v wi => ∃ i : Nat, i ≤ 4 ∧ v = .int .i64 (i : Int) ∧ MX w f (4 * c + i) wi) (fun v _ => 4 - (intOf v).toNat)
      case atStart => exact ⟨0, Nat.zero_le _, rfl, HM.out⟩
      case round =>
        clear HM
        obtain ⟨i, hi, rfl, hX, hR, hY, hO⟩ := hrel
        by_cases hli : i < 4
        · have i0 : (0 : Int) ≤ (i : Int) := by omega
          have i1 : (i : Int) < 4 := by omega
          have hat := mxA_at f c i hli
          obtain ⟨n, hn⟩ : ∃ n, 4 * c + i = n := ⟨_, rfl⟩
          obtain ⟨r1, hr1⟩ : ∃ r, (i + 1) % 4 = r := ⟨_, rfl⟩
          obtain ⟨r2, hr2⟩ : ∃ r, (i + 2) % 4 = r := ⟨_, rfl⟩
          obtain ⟨r3, hr3⟩ : ∃ r, (i + 3) % 4 = r := ⟨_, rfl⟩
          obtain ⟨k1, hk1⟩ : ∃ k, 4 * c + r1 = k := ⟨_, rfl⟩
          obtain ⟨k2, hk2⟩ : ∃ k, 4 * c + r2 = k := ⟨_, rfl⟩
          obtain ⟨k3, hk3⟩ : ∃ k, 4 * c + r3 = k := ⟨_, rfl⟩
          rw [hn, hr1, hr2, hr3, hk1, hk2, hk3] at hat
          have HAT := Lib.hid hat
          clear hat
          obtain ⟨_, _, _, m1⟩ := wr1 hlt
          obtain ⟨p1, p2, p3, _⟩ := wr1 hli
          have q1 := tm1 hr1
          have q2 := tm2 hr2
          have q3 := tm3 hr3
          have hr14 : r1 < 4 := hr1 ▸ Nat.mod_lt _ (by decide)
          have hr24 : r2 < 4 := hr2 ▸ Nat.mod_lt _ (by decide)
          have hr34 : r3 < 4 := hr3 ▸ Nat.mod_lt _ (by decide)
          clear hr1 hr2 hr3
          have hn16 := lt16 hn hlt hli
          have hk116 := lt16 hk1 hlt hr14
          have hk216 := lt16 hk2 hlt hr24
          have hk316 := lt16 hk3 hlt hr34
          have m2 := wr4 hn (Nat.lt_of_lt_of_le hn16 (by decide))
          have s1 := wr4 hk1 (Nat.lt_of_lt_of_le hk116 (by decide))
          have s2 := wr4 hk2 (Nat.lt_of_lt_of_le hk216 (by decide))
          have s3 := wr4 hk3 (Nat.lt_of_lt_of_le hk316 (by decide))
          obtain ⟨n0, n1⟩ := ix hn16
          obtain ⟨k10, k11⟩ := ix hk116
          obtain ⟨k20, k21⟩ := ix hk216
          obtain ⟨k30, k31⟩ := ix hk316
          have b0 := HF.out n hn16
          have b1 := HF.out k1 hk116
          have b2 := HF.out k2 hk216
          have b3 := HF.out k3 hk316
          have HC0 : Hid (wr.cell? ⟨w.heap.size, n, none⟩ = some (.int .u8 (f n : Nat))) := Lib.hid (hX.cell hn16)
          have HC1 : Hid (wr.cell? ⟨w.heap.size, k1, none⟩ = some (.int .u8 (f k1 : Nat))) := Lib.hid (hX.cell hk116)
          have HC2 : Hid (wr.cell? ⟨w.heap.size, k2, none⟩ = some (.int .u8 (f k2 : Nat))) := Lib.hid (hX.cell hk216)
          have HC3 : Hid (wr.cell? ⟨w.heap.size, k3, none⟩ = some (.int .u8 (f k3 : Nat))) := Lib.hid (hX.cell hk316)
          have hat := HAT.out
          clear HAT
          obtain ⟨M, hMx⟩ : ∃ M, mxA f n = M := ⟨_, rfl⟩
          rw [hMx] at hat
          have HMx := Lib.hid hMx
          clear hMx
          generalize f n = x0 at *
          generalize f k1 = x1 at *
          generalize f k2 = x2 at *
          generalize f k3 = x3 at *
          have e1 : bits .xor .u8 (x2 : Int) (x3 : Int) = ((x2 ^^^ x3 : Nat) : Int) := u8_xor_nat _ _ b2 b3
          have e2 : bits .xor .u8 (dbl x0 : Nat) (dbl x1 : Nat) = ((dbl x0 ^^^ dbl x1 : Nat) : Int) := u8_xor_nat _ _ (dbl_lt b0) (dbl_lt b1)
          have e3 : bits .xor .u8 ((dbl x0 ^^^ dbl x1 : Nat) : Int) (x1 : Int) = ((dbl x0 ^^^ dbl x1 ^^^ x1 : Nat) : Int) := u8_xor_nat _ _ (xlt (dbl_lt b0) (dbl_lt b1)) b1
          have e4 : bits .xor .u8 ((dbl x0 ^^^ dbl x1 ^^^ x1 : Nat) : Int) ((x2 ^^^ x3 : Nat) : Int) = (M : Int) := by rw [hat]; exact u8_xor_nat _ _ (xlt (xlt (dbl_lt b0) (dbl_lt b1)) b1) (xlt b2 b3)
          generalize x2 ^^^ x3 = o at *
          generalize dbl x0 ^^^ dbl x1 ^^^ x1 = z2 at *
          generalize dbl x0 ^^^ dbl x1 = z1 at *
          have HB0 := Lib.hid b0
          have HB1 := Lib.hid b1
          have HX := Lib.hid hX
          have HR := Lib.hid hR
          have HY := Lib.hid hY
          have HO := Lib.hid hO
          have HNN : Hid (4 * c + i = n ∧ n < 16) := Lib.hid ⟨hn, hn16⟩
          clear hX hR hY hO hn hk1 hk2 hk3 hat b0 b1 b2 b3 hr14 hr24 hr34 hn16 hk116 hk216 hk316
          go_wp2_with fail
          have hP_0 : Below wr.heap.size wr wr.drew := (Below.refl _ wr).drew
          refine wp_region_held_drew (S := (Below wr.heap.size wr)) (by kernel_rfl) ?_ (fun hHeld => ?_)
          · (try dsimp only)
            first | assumption
          generalize wr.drew = w5 at *
          refine wpAnyH_take (i := 0) (oi := { dst := some 15, op := Go.Op.move (Go.Operand.tmp 4), type := 3, pos := "aes.go:80", after := #[], guard := none }) (v := ?_) rfl (by kernel_rfl) (by kernel_rfl) (by kernel_rfl) (fun _ _ _ h => h) (Or.inl ⟨by rfl, ?_⟩) (by assumption) ?_
          rotate_left
          · intro wS hSw
            (try dsimp only at hSw)
            go_simp
            (try with_reducible rfl)
          (try simp only [Act.put, List.setIfInBounds_toArray, List.set_cons_zero, List.set_cons_succ])
          refine wpAnyH_take (i := 1) (oi := { dst := some 16, op := Go.Op.binOp Go.BinOp.mul 3 (Go.Operand.const (Go.Value.int Go.IntKind.i64 4)) (Go.Operand.tmp 15) 3, type := 3, pos := "aes.go:80", after := #[{ on := 0, ground := Go.Ground.data }], guard := none }) (v := ?_) rfl (by kernel_rfl) (by kernel_rfl) (by kernel_rfl) (fun _ _ _ h => h) (Or.inl ⟨by rfl, ?_⟩) (by assumption) ?_
          rotate_left
          · intro wS hSw
            (try dsimp only at hSw)
            go_simp
            (try with_reducible rfl)
          (try simp only [Act.put, List.setIfInBounds_toArray, List.set_cons_zero, List.set_cons_succ])
          refine wpAnyH_take (i := 2) (oi := { dst := some 17, op := Go.Op.move (Go.Operand.tmp 5), type := 3, pos := "aes.go:80", after := #[], guard := none }) (v := ?_) rfl (by kernel_rfl) (by kernel_rfl) (by kernel_rfl) (fun _ _ _ h => h) (Or.inl ⟨by rfl, ?_⟩) (by assumption) ?_
          rotate_left
          · intro wS hSw
            (try dsimp only at hSw)
            go_simp
            (try with_reducible rfl)
          (try simp only [Act.put, List.setIfInBounds_toArray, List.set_cons_zero, List.set_cons_succ])
          refine wpAnyH_take (i := 3) (oi := { dst := some 18, op := Go.Op.binOp Go.BinOp.add 3 (Go.Operand.tmp 16) (Go.Operand.tmp 17) 3, type := 3, pos := "aes.go:80", after := #[{ on := 1, ground := Go.Ground.data }, { on := 2, ground := Go.Ground.data }], guard := none }) (v := ?_) rfl (by kernel_rfl) (by kernel_rfl) (by kernel_rfl) (fun _ _ _ h => h) (Or.inl ⟨by rfl, ?_⟩) (by assumption) ?_
          rotate_left
          · intro wS hSw
            (try dsimp only at hSw)
            go_simp
            (try with_reducible rfl)
          (try simp only [Act.put, List.setIfInBounds_toArray, List.set_cons_zero, List.set_cons_succ])
          refine wpAnyH_take (i := 4) (oi := { dst := some 19, op := Go.Op.indexAddr 82 (Go.Operand.tmp 1) (Go.Operand.tmp 18), type := 0, pos := "aes.go:80", after := #[{ on := 3, ground := Go.Ground.data }], guard := none }) (v := ?_) rfl (by kernel_rfl) (by kernel_rfl) (by kernel_rfl) (fun _ _ _ h => h) (Or.inl ⟨by rfl, ?_⟩) (by assumption) ?_
          rotate_left
          · intro wS hSw
            (try dsimp only at hSw)
            go_simp
            (try with_reducible rfl)
          (try simp only [Act.put, List.setIfInBounds_toArray, List.set_cons_zero, List.set_cons_succ])
          refine wpAnyH_take (i := 5) (oi := { dst := some 20, op := Go.Op.load 5 (Go.Operand.tmp 19), type := 5, pos := "aes.go:80", after := #[{ on := 4, ground := Go.Ground.data }], guard := none }) (v := ?_) rfl (by kernel_rfl) (by kernel_rfl) (by kernel_rfl) (fun _ _ _ h => h) (Or.inl ⟨by rfl, ?_⟩) (by assumption) ?_
          rotate_left
          · intro wS hSw
            (have c9 := cell_below hSw HC0.out; go_simp; (try with_reducible rfl))
          (try simp only [Act.put, List.setIfInBounds_toArray, List.set_cons_zero, List.set_cons_succ])
          refine wpAnyH_take (i := 6) (oi := { dst := some 21, op := Go.Op.move (Go.Operand.tmp 4), type := 3, pos := "aes.go:80", after := #[{ on := 14, ground := Go.Ground.gcOnly Go.Departure.lateStores }], guard := none }) (v := ?_) rfl (by kernel_rfl) (by kernel_rfl) (by kernel_rfl) (fun _ _ _ h => h) (Or.inl ⟨by rfl, ?_⟩) (by assumption) ?_
          rotate_left
          · intro wS hSw
            (try dsimp only at hSw)
            go_simp
            (try with_reducible rfl)
          (try simp only [Act.put, List.setIfInBounds_toArray, List.set_cons_zero, List.set_cons_succ])
          refine wpAnyH_take (i := 7) (oi := { dst := some 22, op := Go.Op.binOp Go.BinOp.mul 3 (Go.Operand.const (Go.Value.int Go.IntKind.i64 4)) (Go.Operand.tmp 21) 3, type := 3, pos := "aes.go:80", after := #[{ on := 6, ground := Go.Ground.data }, { on := 14, ground := Go.Ground.gcOnly Go.Departure.lateStores }], guard := none }) (v := ?_) rfl (by kernel_rfl) (by kernel_rfl) (by kernel_rfl) (fun _ _ _ h => h) (Or.inl ⟨by rfl, ?_⟩) (by assumption) ?_
          rotate_left
          · intro wS hSw
            (try dsimp only at hSw)
            go_simp
            (try with_reducible rfl)
          (try simp only [Act.put, List.setIfInBounds_toArray, List.set_cons_zero, List.set_cons_succ])
          refine wpAnyH_take (i := 8) (oi := { dst := some 23, op := Go.Op.move (Go.Operand.tmp 5), type := 3, pos := "aes.go:80", after := #[{ on := 14, ground := Go.Ground.gcOnly Go.Departure.lateStores }], guard := none }) (v := ?_) rfl (by kernel_rfl) (by kernel_rfl) (by kernel_rfl) (fun _ _ _ h => h) (Or.inl ⟨by rfl, ?_⟩) (by assumption) ?_
          rotate_left
          · intro wS hSw
            (try dsimp only at hSw)
            go_simp
            (try with_reducible rfl)
          (try simp only [Act.put, List.setIfInBounds_toArray, List.set_cons_zero, List.set_cons_succ])
          refine wpAnyH_take (i := 9) (oi := { dst := some 24, op := Go.Op.binOp Go.BinOp.add 3 (Go.Operand.tmp 23) (Go.Operand.const (Go.Value.int Go.IntKind.i64 1)) 3, type := 3, pos := "aes.go:80", after := #[{ on := 8, ground := Go.Ground.data }, { on := 14, ground := Go.Ground.gcOnly Go.Departure.lateStores }], guard := none }) (v := ?_) rfl (by kernel_rfl) (by kernel_rfl) (by kernel_rfl) (fun _ _ _ h => h) (Or.inl ⟨by rfl, ?_⟩) (by assumption) ?_
          rotate_left
          · intro wS hSw
            (try dsimp only at hSw)
            go_simp
            (try with_reducible rfl)
          (try simp only [Act.put, List.setIfInBounds_toArray, List.set_cons_zero, List.set_cons_succ])
          refine wpAnyH_take (i := 10) (oi := { dst := some 25, op := Go.Op.binOp Go.BinOp.rem 3 (Go.Operand.tmp 24) (Go.Operand.const (Go.Value.int Go.IntKind.i64 4)) 3, type := 3, pos := "aes.go:80", after := #[{ on := 9, ground := Go.Ground.data }, { on := 14, ground := Go.Ground.gcOnly Go.Departure.lateStores }], guard := none }) (v := ?_) rfl (by kernel_rfl) (by kernel_rfl) (by kernel_rfl) (fun _ _ _ h => h) (Or.inl ⟨by rfl, ?_⟩) (by assumption) ?_
          rotate_left
          · intro wS hSw
            (try dsimp only at hSw)
            go_simp
            (try with_reducible rfl)
          (try simp only [Act.put, List.setIfInBounds_toArray, List.set_cons_zero, List.set_cons_succ])
          refine wpAnyH_take (i := 11) (oi := { dst := some 26, op := Go.Op.binOp Go.BinOp.add 3 (Go.Operand.tmp 22) (Go.Operand.tmp 25) 3, type := 3, pos := "aes.go:80", after := #[{ on := 7, ground := Go.Ground.data }, { on := 10, ground := Go.Ground.data }, { on := 14, ground := Go.Ground.gcOnly Go.Departure.lateStores }], guard := none }) (v := ?_) rfl (by kernel_rfl) (by kernel_rfl) (by kernel_rfl) (fun _ _ _ h => h) (Or.inl ⟨by rfl, ?_⟩) (by assumption) ?_
          rotate_left
          · intro wS hSw
            (try dsimp only at hSw)
            go_simp
            (try with_reducible rfl)
          (try simp only [Act.put, List.setIfInBounds_toArray, List.set_cons_zero, List.set_cons_succ])
          refine wpAnyH_take (i := 12) (oi := { dst := some 27, op := Go.Op.indexAddr 82 (Go.Operand.tmp 1) (Go.Operand.tmp 26), type := 0, pos := "aes.go:80", after := #[{ on := 11, ground := Go.Ground.data }, { on := 14, ground := Go.Ground.gcOnly Go.Departure.lateStores }], guard := none }) (v := ?_) rfl (by kernel_rfl) (by kernel_rfl) (by kernel_rfl) (fun _ _ _ h => h) (Or.inl ⟨by rfl, ?_⟩) (by assumption) ?_
          rotate_left
          · intro wS hSw
            (try dsimp only at hSw)
            go_simp
            (try with_reducible rfl)
          (try simp only [Act.put, List.setIfInBounds_toArray, List.set_cons_zero, List.set_cons_succ])
          refine wpAnyH_take (i := 13) (oi := { dst := some 28, op := Go.Op.load 5 (Go.Operand.tmp 27), type := 5, pos := "aes.go:80", after := #[{ on := 12, ground := Go.Ground.data }, { on := 14, ground := Go.Ground.gcOnly Go.Departure.lateStores }], guard := none }) (v := ?_) rfl (by kernel_rfl) (by kernel_rfl) (by kernel_rfl) (fun _ _ _ h => h) (Or.inl ⟨by rfl, ?_⟩) (by assumption) ?_
          rotate_left
          · intro wS hSw
            (have c9 := cell_below hSw HC1.out; go_simp; (try with_reducible rfl))
          (try simp only [Act.put, List.setIfInBounds_toArray, List.set_cons_zero, List.set_cons_succ])
          refine wpAnyH_take (i := 14) (oi := { dst := some 6, op := Go.Op.assign (Go.Operand.tmp 20), type := 5, pos := "aes.go:80", after := #[{ on := 5, ground := Go.Ground.data }, { on := 0, ground := Go.Ground.phase }, { on := 1, ground := Go.Ground.phase }, { on := 2, ground := Go.Ground.phase }, { on := 3, ground := Go.Ground.phase }, { on := 4, ground := Go.Ground.phase }, { on := 5, ground := Go.Ground.phase }, { on := 6, ground := Go.Ground.textOnly Go.Departure.lateStores }, { on := 7, ground := Go.Ground.textOnly Go.Departure.lateStores }, { on := 8, ground := Go.Ground.textOnly Go.Departure.lateStores }, { on := 9, ground := Go.Ground.textOnly Go.Departure.lateStores }, { on := 10, ground := Go.Ground.textOnly Go.Departure.lateStores }, { on := 11, ground := Go.Ground.textOnly Go.Departure.lateStores }, { on := 12, ground := Go.Ground.textOnly Go.Departure.lateStores }, { on := 13, ground := Go.Ground.textOnly Go.Departure.lateStores }], guard := none }) (v := ?_) rfl (by kernel_rfl) (by kernel_rfl) (by kernel_rfl) (fun _ _ _ h => h) (Or.inl ⟨by rfl, ?_⟩) (by assumption) ?_
          rotate_left
          · intro wS hSw
            (try dsimp only at hSw)
            go_simp
            (try with_reducible rfl)
          (try simp only [Act.put, List.setIfInBounds_toArray, List.set_cons_zero, List.set_cons_succ])
          refine wpAnyH_take (i := 15) (oi := { dst := some 7, op := Go.Op.assign (Go.Operand.tmp 28), type := 5, pos := "aes.go:80", after := #[{ on := 13, ground := Go.Ground.data }, { on := 14, ground := Go.Ground.chain }, { on := 0, ground := Go.Ground.phase }, { on := 1, ground := Go.Ground.phase }, { on := 2, ground := Go.Ground.phase }, { on := 3, ground := Go.Ground.phase }, { on := 4, ground := Go.Ground.phase }, { on := 5, ground := Go.Ground.phase }, { on := 6, ground := Go.Ground.phase }, { on := 7, ground := Go.Ground.phase }, { on := 8, ground := Go.Ground.phase }, { on := 9, ground := Go.Ground.phase }, { on := 10, ground := Go.Ground.phase }, { on := 11, ground := Go.Ground.phase }, { on := 12, ground := Go.Ground.phase }, { on := 13, ground := Go.Ground.phase }, { on := 14, ground := Go.Ground.phase }], guard := none }) (v := ?_) rfl (by kernel_rfl) (by kernel_rfl) (by kernel_rfl) (fun _ _ _ h => h) (Or.inl ⟨by rfl, ?_⟩) (by assumption) ?_
          rotate_left
          · intro wS hSw
            (try dsimp only at hSw)
            go_simp
            (try with_reducible rfl)
          (try simp only [Act.put, List.setIfInBounds_toArray, List.set_cons_zero, List.set_cons_succ])
          refine wpAnyH_done (by kernel_rfl) ?_ _
          have hP0' : Below wr.heap.size wr w5.drew := hP_0.drew
          clear hP_0
          have hP_0 := hP0'
          clear hP0'
          go_wp2_with fail
          refine wp_region_held_drew (S := (Below wr.heap.size wr)) (by kernel_rfl) ?_ (fun hHeld => ?_)
          · (try dsimp only)
            first | assumption
          generalize w5.drew = w6 at *
          refine wpAnyH_take (i := 0) (oi := { dst := some 29, op := Go.Op.move (Go.Operand.tmp 4), type := 3, pos := "aes.go:81", after := #[], guard := none }) (v := ?_) rfl (by kernel_rfl) (by kernel_rfl) (by kernel_rfl) (fun _ _ _ h => h) (Or.inl ⟨by rfl, ?_⟩) (by assumption) ?_
          rotate_left
          · intro wS hSw
            (try dsimp only at hSw)
            go_simp
            (try with_reducible rfl)
          (try simp only [Act.put, List.setIfInBounds_toArray, List.set_cons_zero, List.set_cons_succ])
          refine wpAnyH_take (i := 1) (oi := { dst := some 30, op := Go.Op.binOp Go.BinOp.mul 3 (Go.Operand.const (Go.Value.int Go.IntKind.i64 4)) (Go.Operand.tmp 29) 3, type := 3, pos := "aes.go:81", after := #[{ on := 0, ground := Go.Ground.data }], guard := none }) (v := ?_) rfl (by kernel_rfl) (by kernel_rfl) (by kernel_rfl) (fun _ _ _ h => h) (Or.inl ⟨by rfl, ?_⟩) (by assumption) ?_
          rotate_left
          · intro wS hSw
            (try dsimp only at hSw)
            go_simp
            (try with_reducible rfl)
          (try simp only [Act.put, List.setIfInBounds_toArray, List.set_cons_zero, List.set_cons_succ])
          refine wpAnyH_take (i := 2) (oi := { dst := some 31, op := Go.Op.move (Go.Operand.tmp 5), type := 3, pos := "aes.go:81", after := #[], guard := none }) (v := ?_) rfl (by kernel_rfl) (by kernel_rfl) (by kernel_rfl) (fun _ _ _ h => h) (Or.inl ⟨by rfl, ?_⟩) (by assumption) ?_
          rotate_left
          · intro wS hSw
            (try dsimp only at hSw)
            go_simp
            (try with_reducible rfl)
          (try simp only [Act.put, List.setIfInBounds_toArray, List.set_cons_zero, List.set_cons_succ])
          refine wpAnyH_take (i := 3) (oi := { dst := some 32, op := Go.Op.binOp Go.BinOp.add 3 (Go.Operand.tmp 31) (Go.Operand.const (Go.Value.int Go.IntKind.i64 2)) 3, type := 3, pos := "aes.go:81", after := #[{ on := 2, ground := Go.Ground.data }], guard := none }) (v := ?_) rfl (by kernel_rfl) (by kernel_rfl) (by kernel_rfl) (fun _ _ _ h => h) (Or.inl ⟨by rfl, ?_⟩) (by assumption) ?_
          rotate_left
          · intro wS hSw
            (try dsimp only at hSw)
            go_simp
            (try with_reducible rfl)
          (try simp only [Act.put, List.setIfInBounds_toArray, List.set_cons_zero, List.set_cons_succ])
          refine wpAnyH_take (i := 4) (oi := { dst := some 33, op := Go.Op.binOp Go.BinOp.rem 3 (Go.Operand.tmp 32) (Go.Operand.const (Go.Value.int Go.IntKind.i64 4)) 3, type := 3, pos := "aes.go:81", after := #[{ on := 3, ground := Go.Ground.data }], guard := none }) (v := ?_) rfl (by kernel_rfl) (by kernel_rfl) (by kernel_rfl) (fun _ _ _ h => h) (Or.inl ⟨by rfl, ?_⟩) (by assumption) ?_
          rotate_left
          · intro wS hSw
            (try dsimp only at hSw)
            go_simp
            (try with_reducible rfl)
          (try simp only [Act.put, List.setIfInBounds_toArray, List.set_cons_zero, List.set_cons_succ])
          refine wpAnyH_take (i := 5) (oi := { dst := some 34, op := Go.Op.binOp Go.BinOp.add 3 (Go.Operand.tmp 30) (Go.Operand.tmp 33) 3, type := 3, pos := "aes.go:81", after := #[{ on := 1, ground := Go.Ground.data }, { on := 4, ground := Go.Ground.data }], guard := none }) (v := ?_) rfl (by kernel_rfl) (by kernel_rfl) (by kernel_rfl) (fun _ _ _ h => h) (Or.inl ⟨by rfl, ?_⟩) (by assumption) ?_
          rotate_left
          · intro wS hSw
            (try dsimp only at hSw)
            go_simp
            (try with_reducible rfl)
          (try simp only [Act.put, List.setIfInBounds_toArray, List.set_cons_zero, List.set_cons_succ])
          refine wpAnyH_take (i := 6) (oi := { dst := some 35, op := Go.Op.indexAddr 82 (Go.Operand.tmp 1) (Go.Operand.tmp 34), type := 0, pos := "aes.go:81", after := #[{ on := 5, ground := Go.Ground.data }], guard := none }) (v := ?_) rfl (by kernel_rfl) (by kernel_rfl) (by kernel_rfl) (fun _ _ _ h => h) (Or.inl ⟨by rfl, ?_⟩) (by assumption) ?_
          rotate_left
          · intro wS hSw
            (try dsimp only at hSw)
            go_simp
            (try with_reducible rfl)
          (try simp only [Act.put, List.setIfInBounds_toArray, List.set_cons_zero, List.set_cons_succ])
          refine wpAnyH_take (i := 7) (oi := { dst := some 36, op := Go.Op.load 5 (Go.Operand.tmp 35), type := 5, pos := "aes.go:81", after := #[{ on := 6, ground := Go.Ground.data }], guard := none }) (v := ?_) rfl (by kernel_rfl) (by kernel_rfl) (by kernel_rfl) (fun _ _ _ h => h) (Or.inl ⟨by rfl, ?_⟩) (by assumption) ?_
          rotate_left
          · intro wS hSw
            (have c9 := cell_below hSw HC2.out; go_simp; (try with_reducible rfl))
          (try simp only [Act.put, List.setIfInBounds_toArray, List.set_cons_zero, List.set_cons_succ])
          refine wpAnyH_take (i := 8) (oi := { dst := some 37, op := Go.Op.move (Go.Operand.tmp 4), type := 3, pos := "aes.go:81", after := #[], guard := none }) (v := ?_) rfl (by kernel_rfl) (by kernel_rfl) (by kernel_rfl) (fun _ _ _ h => h) (Or.inl ⟨by rfl, ?_⟩) (by assumption) ?_
          rotate_left
          · intro wS hSw
            (try dsimp only at hSw)
            go_simp
            (try with_reducible rfl)
          (try simp only [Act.put, List.setIfInBounds_toArray, List.set_cons_zero, List.set_cons_succ])
          refine wpAnyH_take (i := 9) (oi := { dst := some 38, op := Go.Op.binOp Go.BinOp.mul 3 (Go.Operand.const (Go.Value.int Go.IntKind.i64 4)) (Go.Operand.tmp 37) 3, type := 3, pos := "aes.go:81", after := #[{ on := 8, ground := Go.Ground.data }], guard := none }) (v := ?_) rfl (by kernel_rfl) (by kernel_rfl) (by kernel_rfl) (fun _ _ _ h => h) (Or.inl ⟨by rfl, ?_⟩) (by assumption) ?_
          rotate_left
          · intro wS hSw
            (try dsimp only at hSw)
            go_simp
            (try with_reducible rfl)
          (try simp only [Act.put, List.setIfInBounds_toArray, List.set_cons_zero, List.set_cons_succ])
          refine wpAnyH_take (i := 10) (oi := { dst := some 39, op := Go.Op.move (Go.Operand.tmp 5), type := 3, pos := "aes.go:81", after := #[], guard := none }) (v := ?_) rfl (by kernel_rfl) (by kernel_rfl) (by kernel_rfl) (fun _ _ _ h => h) (Or.inl ⟨by rfl, ?_⟩) (by assumption) ?_
          rotate_left
          · intro wS hSw
            (try dsimp only at hSw)
            go_simp
            (try with_reducible rfl)
          (try simp only [Act.put, List.setIfInBounds_toArray, List.set_cons_zero, List.set_cons_succ])
          refine wpAnyH_take (i := 11) (oi := { dst := some 40, op := Go.Op.binOp Go.BinOp.add 3 (Go.Operand.tmp 39) (Go.Operand.const (Go.Value.int Go.IntKind.i64 3)) 3, type := 3, pos := "aes.go:81", after := #[{ on := 10, ground := Go.Ground.data }], guard := none }) (v := ?_) rfl (by kernel_rfl) (by kernel_rfl) (by kernel_rfl) (fun _ _ _ h => h) (Or.inl ⟨by rfl, ?_⟩) (by assumption) ?_
          rotate_left
          · intro wS hSw
            (try dsimp only at hSw)
            go_simp
            (try with_reducible rfl)
          (try simp only [Act.put, List.setIfInBounds_toArray, List.set_cons_zero, List.set_cons_succ])
          refine wpAnyH_take (i := 12) (oi := { dst := some 41, op := Go.Op.binOp Go.BinOp.rem 3 (Go.Operand.tmp 40) (Go.Operand.const (Go.Value.int Go.IntKind.i64 4)) 3, type := 3, pos := "aes.go:81", after := #[{ on := 11, ground := Go.Ground.data }], guard := none }) (v := ?_) rfl (by kernel_rfl) (by kernel_rfl) (by kernel_rfl) (fun _ _ _ h => h) (Or.inl ⟨by rfl, ?_⟩) (by assumption) ?_
          rotate_left
          · intro wS hSw
            (try dsimp only at hSw)
            go_simp
            (try with_reducible rfl)
          (try simp only [Act.put, List.setIfInBounds_toArray, List.set_cons_zero, List.set_cons_succ])
          refine wpAnyH_take (i := 13) (oi := { dst := some 42, op := Go.Op.binOp Go.BinOp.add 3 (Go.Operand.tmp 38) (Go.Operand.tmp 41) 3, type := 3, pos := "aes.go:81", after := #[{ on := 9, ground := Go.Ground.data }, { on := 12, ground := Go.Ground.data }], guard := none }) (v := ?_) rfl (by kernel_rfl) (by kernel_rfl) (by kernel_rfl) (fun _ _ _ h => h) (Or.inl ⟨by rfl, ?_⟩) (by assumption) ?_
          rotate_left
          · intro wS hSw
            (try dsimp only at hSw)
            go_simp
            (try with_reducible rfl)
          (try simp only [Act.put, List.setIfInBounds_toArray, List.set_cons_zero, List.set_cons_succ])
          refine wpAnyH_take (i := 14) (oi := { dst := some 43, op := Go.Op.indexAddr 82 (Go.Operand.tmp 1) (Go.Operand.tmp 42), type := 0, pos := "aes.go:81", after := #[{ on := 13, ground := Go.Ground.data }], guard := none }) (v := ?_) rfl (by kernel_rfl) (by kernel_rfl) (by kernel_rfl) (fun _ _ _ h => h) (Or.inl ⟨by rfl, ?_⟩) (by assumption) ?_
          rotate_left
          · intro wS hSw
            (try dsimp only at hSw)
            go_simp
            (try with_reducible rfl)
          (try simp only [Act.put, List.setIfInBounds_toArray, List.set_cons_zero, List.set_cons_succ])
          refine wpAnyH_take (i := 15) (oi := { dst := some 44, op := Go.Op.load 5 (Go.Operand.tmp 43), type := 5, pos := "aes.go:81", after := #[{ on := 14, ground := Go.Ground.data }], guard := none }) (v := ?_) rfl (by kernel_rfl) (by kernel_rfl) (by kernel_rfl) (fun _ _ _ h => h) (Or.inl ⟨by rfl, ?_⟩) (by assumption) ?_
          rotate_left
          · intro wS hSw
            (have c9 := cell_below hSw HC3.out; go_simp; (try with_reducible rfl))
          (try simp only [Act.put, List.setIfInBounds_toArray, List.set_cons_zero, List.set_cons_succ])
          refine wpAnyH_take (i := 16) (oi := { dst := some 45, op := Go.Op.binOp Go.BinOp.xor 5 (Go.Operand.tmp 36) (Go.Operand.tmp 44) 5, type := 5, pos := "aes.go:81", after := #[{ on := 7, ground := Go.Ground.data }, { on := 15, ground := Go.Ground.data }], guard := none }) (v := ?_) rfl (by kernel_rfl) (by kernel_rfl) (by kernel_rfl) (fun _ _ _ h => h) (Or.inl ⟨by rfl, ?_⟩) (by assumption) ?_
          rotate_left
          · intro wS hSw
            (try dsimp only at hSw)
            go_simp
            (try with_reducible rfl)
          (try simp only [Act.put, List.setIfInBounds_toArray, List.set_cons_zero, List.set_cons_succ])
          refine wpAnyH_take (i := 17) (oi := { dst := some 8, op := Go.Op.assign (Go.Operand.tmp 45), type := 5, pos := "aes.go:81", after := #[{ on := 16, ground := Go.Ground.data }, { on := 0, ground := Go.Ground.phase }, { on := 1, ground := Go.Ground.phase }, { on := 2, ground := Go.Ground.phase }, { on := 3, ground := Go.Ground.phase }, { on := 4, ground := Go.Ground.phase }, { on := 5, ground := Go.Ground.phase }, { on := 6, ground := Go.Ground.phase }, { on := 7, ground := Go.Ground.phase }, { on := 8, ground := Go.Ground.phase }, { on := 9, ground := Go.Ground.phase }, { on := 10, ground := Go.Ground.phase }, { on := 11, ground := Go.Ground.phase }, { on := 12, ground := Go.Ground.phase }, { on := 13, ground := Go.Ground.phase }, { on := 14, ground := Go.Ground.phase }, { on := 15, ground := Go.Ground.phase }, { on := 16, ground := Go.Ground.phase }], guard := none }) (v := ?_) rfl (by kernel_rfl) (by kernel_rfl) (by kernel_rfl) (fun _ _ _ h => h) (Or.inl ⟨by rfl, ?_⟩) (by assumption) ?_
          rotate_left
          · intro wS hSw
            (try dsimp only at hSw)
            go_simp
            (try with_reducible rfl)
          (try simp only [Act.put, List.setIfInBounds_toArray, List.set_cons_zero, List.set_cons_succ])
          refine wpAnyH_done (by kernel_rfl) ?_ _
          have HP9 := Lib.hid hP_0
          clear hP_0 m1 m2 p1 p2 p3 q1 q2 q3 s1 s2 s3
          go_wp2_with fail
          refine (dbl_any x0 _ HB0.out).mono ?_
          rintro e w7 ⟨rfl, hb7⟩
          have HP7 := Lib.hid (HP9.out.trans (hb7.mono HP9.out.size))
          clear hb7
          go_wp2_with fail
          refine (dbl_any x1 _ HB1.out).mono ?_
          rintro e w8 ⟨rfl, hb8⟩
          have hP8 := HP7.out.trans (hb8.mono HP7.out.size)
          have hY8 := Blk.below HY.out hP8 (Blk.lt HY.out)
          have hO8 := HO.out.trans (hP8.mono HO.out.size)
          have hnn := HNN.out
          have c8 : w8.cell? ⟨w.heap.size + 1 + 1, 4 * c + i, none⟩ = some (.int .u8 0) := by
            have h8 := B16.cell hY8 (show 4 * c + i < 16 by omega); rw [if_neg (Nat.lt_irrefl _)] at h8; exact h8
          have z8 : w8.frozen? ⟨w.heap.size + 1 + 1, 4 * c + i, none⟩ = false := Blk.free hY8 _
          have HN : Hid (MX w f (4 * c + (i + 1)) (w8.setCell ⟨w.heap.size + 1 + 1, 4 * c + i, none⟩ (.int .u8 (M : Nat)))) := Lib.hid (by
            refine ⟨Blk.set_other (Blk.below HX.out hP8 (Blk.lt HX.out)) (by simp; omega) _, Blk.set_other (Blk.below HR.out hP8 (Blk.lt HR.out)) (by simp) _, (B16.set hY8 (4 * c + i) M).congr fun j hj => ?_, hO8.setCell (by simp; omega) _⟩
            unfold upd
            by_cases e : j = 4 * c + i
            · rw [if_pos e, e, if_pos (by omega), hnn.1, HMx.out]
            · rw [if_neg e]
              show (if j < 4 * c + i then mxA f j else 0) = if j < 4 * c + (i + 1) then mxA f j else 0
              by_cases h5 : j < 4 * c + i
              · rw [if_pos h5, if_pos (by omega)]
              · rw [if_neg h5, if_neg (by omega)])
          clear hP8 hY8 hO8 hb8 hnn
          go_wp2_with fail
          go_roundw
          case rel => exact ⟨i + 1, by omega, by go_num, HN.out⟩
          case measure => simp [intOf]; omega
        · obtain rfl : i = 4 := by omega
          have HM : Hid (MX w f (4 * (c + 1)) wr) := Lib.hid (by rw [show 4 * (c + 1) = 4 * c + 4 by omega]; exact ⟨hX, hR, hY, hO⟩)
          clear hX hR hY hO
          go_wp2_with fail
          go_roundw
          case rel => exact ⟨c + 1, by omega, by go_num, HM.out⟩
          case measure => simp [intOf]; omega
    · obtain rfl : c = 4 := by omega
      obtain ⟨hX, hR, hY, hO⟩ := hM
      obtain ⟨E, hE⟩ : ∃ C, (rowC 16 (mxA f)).toArray = C := ⟨_, rfl⟩
      have HCE : Hid (∃ f, E = (rowC 16 f).toArray) := Lib.hid ⟨_, hE.symm⟩
      have HC0 : Hid (∃ f, zero16 = (rowC 16 f).toArray) := Lib.hid ⟨_, rfl⟩
      have HX5 : Hid (Blk wr (w.heap.size + 1 + 1) E 82) := Lib.hid (hE ▸ (hY.congr fun i hi => if_pos (by omega)))
      have HR5 : Hid (Blk wr (w.heap.size + 1) zero16 82) := Lib.hid hR
      have HN : Hid (Blk (wr.setCells (w.heap.size + 1) 0 E.toList) (w.heap.size + 1) E 82) := Lib.hid (Blk.store16 HR5.out HCE.out HC0.out)
      have HO5 : Hid (Below w.heap.size w (wr.setCells (w.heap.size + 1) 0 E.toList)) := Lib.hid (Below.set16 (g := w.heap.size + 1) hO (by omega) hO.size _)
      have HE := Lib.hid hE
      clear hX hR hY hO hE hlt hc
      go_wp2_with (first
        | (refine wpList_load16 rfl (.tmp 3) rfl (w.heap.size + 1 + 1) rfl E HX5.out HCE.out ?_)
        | (refine wpList_store16 rfl (.tmp 2) (.tmp 62) rfl (w.heap.size + 1) rfl E zero16 rfl HR5.out HCE.out HC0.out ?_))
      refine bodyPost_ret (v := .agg E) ?_ rfl ⟨by rw [HE.out], HO5.out⟩
      exact res16 Tryz.results80 _ _ (w.heap.size + 1) E rfl HN.out HCE.out
end Go.Proofs.YtncfocjmdecapaaGreatDoor
