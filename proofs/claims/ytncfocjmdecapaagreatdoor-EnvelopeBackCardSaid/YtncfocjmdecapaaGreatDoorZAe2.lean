/- AES: bytes put in the place of others; columns. -/
import Derived.Test.YtncfocjmdecapaaGreatDoorZB0
import Derived.Test.YtncfocjmdecapaaGreatDoorZS1
import Derived.Test.YtncfocjmdecapaaGreatDoorZS2
import Derived.Test.YtncfocjmdecapaaGreatDoorZSh4
import Derived.Test.YtncfocjmdecapaaGreatDoorZA0
import Derived.Test.YtncfocjmdecapaaGreatDoorZS5
import Derived.Test.YtncfocjmdecapaaGreatDoorZSh7
import Derived.Test.YtncfocjmdecapaaGreatDoorZS8
import Derived.Test.YtncfocjmdecapaaGreatDoorZHm2
import Derived.Test.YtncfocjmdecapaaGreatDoorZAs
import Derived.Test.YtncfocjmdecapaaGreatDoorZR0
import Derived.Test.YtncfocjmdecapaaGreatDoorZF1
import Derived.Test.YtncfocjmdecapaaGreatDoorZF2
import Derived.Test.YtncfocjmdecapaaGreatDoorZB16
import Derived.Test.YtncfocjmdecapaaGreatDoorZAe1
namespace Go.Proofs.YtncfocjmdecapaaGreatDoor
set_option linter.unusedVariables false
set_option linter.unusedSimpArgs false
open Go.RowKit
/-- Behind n bytes. -/
def MV (w0 : World) (bx : Nat) (f : Nat → Nat) (n : Nat) (wr : World) : Prop := B16 wr w0.heap.size f ∧ B16 wr (w0.heap.size + 1) (fun _ => 0) ∧ B16 wr (w0.heap.size + 1 + 1) (fun j => if j < n then mvA subN f j else 0) ∧ BoxIn wr bx ∧ Own bx w0 wr
theorem mvA_at (f : Nat → Nat) (c i : Nat) (hi : i < 4) : mvA subN f (4 * c + i) = subN (f (4 * ((c + i) % 4) + i)) := by
  unfold mvA; rw [show (4 * c + i) / 4 = c by omega, show (4 * c + i) % 4 = i by omega]
theorem mxA_at (f : Nat → Nat) (c i : Nat) (hi : i < 4) : mxA f (4 * c + i) = dbl (f (4 * c + i)) ^^^ dbl (f (4 * c + (i + 1) % 4)) ^^^ f (4 * c + (i + 1) % 4) ^^^ (f (4 * c + (i + 2) % 4) ^^^ f (4 * c + (i + 3) % 4)) := by
  unfold mxA; rw [show (4 * c + i) / 4 = c by omega, show (4 * c + i) % 4 = i by omega]
theorem cell_set_ne {w : World} {a b : Addr} (h : b.block ≠ a.block) (v : Value) : (w.setCell a v).cell? b = w.cell? b := by
  simp only [World.cell?, Below.heap_setCell _ _ _ _ h]
/-- Where the table lies, and a byte. -/
def MS (kb bx g k p : Nat) (w' : World) : Prop := w'.cell? ⟨kb, 60, none⟩ = some (.pointer (some ⟨bx, 0, none⟩)) ∧ w'.cell? ⟨g, k, none⟩ = some (.int .u8 (p : Nat))
theorem MS.own {kb bx g k p : Nat} {w w' : World} (h : MS kb bx g k p w) (hO : Own bx w w') (h1 : kb ≠ bx) (h2 : g ≠ bx) : MS kb bx g k p w' := ⟨hO.cell h.1 h1, hO.cell h.2 h2⟩
theorem MS.set {kb bx g k p : Nat} {w : World} (h : MS kb bx g k p w) {a : Addr} (h1 : kb ≠ a.block) (h2 : g ≠ a.block) (v : Value) : MS kb bx g k p (w.setCell a v) := ⟨(cell_set_ne h1 v).trans h.1, (cell_set_ne h2 v).trans h.2⟩
set_option maxRecDepth 100000 in
set_option maxHeartbeats 4000000 in
theorem moved_any (kb bx : Nat) (W f : Nat → Nat) (w : World) (hK : KeyB w kb W bx) (hB : BoxIn w bx) (hne : kb ≠ bx) (hf : ∀ i, i < 16 → f i < 256) :
    Calls Tryz.prog 79 #[.pointer (some ⟨kb, 0, none⟩), .agg (rowC 16 f).toArray] w fun e w' => e = .returned (.agg (rowC 16 (mvA subN f)).toArray) ∧ BoxIn w' bx ∧ Own bx w w' := by
  have hz := zero16_run
  have HF := Lib.hid hf
  obtain ⟨C, hC⟩ : ∃ C, (rowC 16 f).toArray = C := ⟨_, rfl⟩
  have hbx := hB.lt
  have HT : Hid (MV w bx f 0 (((w.alloc (.cells C 82)).alloc (.cells zero16 82)).alloc (.cells zero16 82))) := Lib.hid (by
    rw [← hC]
    refine ⟨((Blk.new w _ 82).alloc _).alloc _, ?_, ?_, ?_, (((Own.refl bx w).alloc _).alloc _).alloc _⟩
    · have := (Blk.new (w.alloc (.cells (rowC 16 f).toArray 82)) zero16 82).alloc (.cells zero16 82)
      show Blk _ _ zero16 _; simpa using this
    · have := Blk.new ((w.alloc (.cells (rowC 16 f).toArray 82)).alloc (.cells zero16 82)) zero16 82
      refine B16.congr (f := fun _ => 0) ?_ fun i _ => (if_neg (Nat.not_lt_zero _)).symm
      show Blk _ _ zero16 _; simpa using this
    · exact hB.below ((((Below.refl _ _).alloc (Nat.le_refl _) _).alloc (by simp) _).alloc (by simp; omega) _))
  have HK := Lib.hid hK
  have HNE := Lib.hid hne
  have HBX := Lib.hid hbx
  rw [hC]
  clear hf hC hK hB hne hbx
  go_enter Tryz.func79, Tryz.ntmps79
  go_wp2_with fail
  clear hz
  go_loopw [8] (fun v wr => ∃ c : Nat, c ≤ 4 ∧ v = .int .i64 (c : Int) ∧ MV w bx f (4 * c) wr) (fun v _ => 4 - (intOf v).toNat)
  case atStart => exact ⟨0, Nat.zero_le _, rfl, HT.out⟩
  case round =>
    clear HT
    obtain ⟨c, hc, rfl, hM⟩ := hrel
    by_cases hlt : c < 4
    · have c0 : (0 : Int) ≤ (c : Int) := by omega
      have c1 : (c : Int) < 4 := by omega
      have HM := Lib.hid hM
      clear hM
      go_wp2_with fail
      go_loopw [11] (fun v wi => ∃ i : Nat, i ≤ 4 ∧ v = .int .i64 (i : Int) ∧ MV w bx f (4 * c + i) wi) (fun v _ => 4 - (intOf v).toNat)
      case atStart => exact ⟨0, Nat.zero_le _, rfl, HM.out⟩
      case round =>
        clear HM
        obtain ⟨i, hi, rfl, hX, hR, hY, hBx, hO⟩ := hrel
        by_cases hli : i < 4
        · have i0 : (0 : Int) ≤ (i : Int) := by omega
          have i1 : (i : Int) < 4 := by omega
          have hkb := Blk.lt HK.out
          have hbx := HBX.out
          have hne := HNE.out
          obtain ⟨p, hp⟩ : ∃ p, f (4 * ((c + i) % 4) + i) = p := ⟨_, rfl⟩
          obtain ⟨r, hr⟩ : ∃ r, (c + i) % 4 = r := ⟨_, rfl⟩
          obtain ⟨k, hk⟩ : ∃ k, 4 * r + i = k := ⟨_, rfl⟩
          obtain ⟨n, hn⟩ : ∃ n, 4 * c + i = n := ⟨_, rfl⟩
          have m1 : IntKind.i64.wrap (4 * (c : Int)) = 4 * (c : Int) := IntWalk.i64_in _ (by omega)
          have m2 : IntKind.i64.wrap (4 * (c : Int) + (i : Int)) = (n : Int) := by rw [IntWalk.i64_in _ (by omega)]; omega
          have m3 : IntKind.i64.wrap ((c : Int) + (i : Int)) = (c : Int) + (i : Int) := IntWalk.i64_in _ (by omega)
          have m4 : ((c : Int) + (i : Int)).tmod 4 = (r : Int) := by rw [Int.tmod_eq_emod_of_nonneg (by omega)]; omega
          have m5 : IntKind.i64.wrap (4 * (r : Int)) = 4 * (r : Int) := IntWalk.i64_in _ (by omega)
          have m6 : IntKind.i64.wrap (4 * (r : Int) + (i : Int)) = (k : Int) := by rw [IntWalk.i64_in _ (by omega)]; omega
          have n0 : (0 : Int) ≤ (n : Int) := by omega
          have n1 : (n : Int) < 16 := by omega
          have k0 : (0 : Int) ≤ (k : Int) := by omega
          have k1 : (k : Int) < 16 := by omega
          have hp8 : p < 256 := by rw [← hp]; exact HF.out _ (by omega)
          have HCB : Hid (wr.cell? ⟨kb, 60, none⟩ = some (.pointer (some ⟨bx, 0, none⟩))) := Lib.hid (KeyB.box (show KeyB wr kb W bx from hO.blk HK.out hne))
          have HCX : Hid (wr.cell? ⟨w.heap.size, k, none⟩ = some (.int .u8 (p : Nat))) := Lib.hid (by rw [← hp, hr, hk]; exact hX.cell (by omega))
          have HX := Lib.hid hX
          have HR := Lib.hid hR
          have HY := Lib.hid hY
          have HBI := Lib.hid hBx
          have HOO := Lib.hid hO
          have HP := Lib.hid hp
          have HNN : Hid (4 * c + i = n ∧ n < 16) := Lib.hid ⟨hn, by omega⟩
          have HP8 := Lib.hid hp8
          have HNX : Hid (w.heap.size ≠ bx ∧ w.heap.size + 1 ≠ bx ∧ w.heap.size + 1 + 1 ≠ bx ∧ kb ≠ bx ∧ kb ≠ w.heap.size + 1 + 1) := Lib.hid ⟨by omega, by omega, by omega, hne, by omega⟩
          clear hX hR hY hBx hO hp hp8 hkb hbx hne hr hk hn
          go_wp2_with fail
          have hQ_0 : Own bx wr wr.drew := (Own.refl bx wr).drew
          have hI_0 : BoxIn wr.drew bx := HBI.out
          have hM_0 : MS kb bx w.heap.size k p wr.drew := ⟨HCB.out, HCX.out⟩
          refine wp_region_held_drew (S := (MS kb bx w.heap.size k p)) (by kernel_rfl) ?_ (fun hHeld => ?_)
          · (try dsimp only)
            first | assumption
          generalize wr.drew = W0 at *
          refine wpAnyH_take (i := 0) (oi := { dst := some 14, op := Go.Op.move (Go.Operand.tmp 6), type := 3, pos := "aes.go:66", after := #[], guard := none }) (v := ?_) rfl (by kernel_rfl) (by kernel_rfl) (by kernel_rfl) (fun _ _ _ h => h) (Or.inl ⟨by rfl, ?_⟩) (by assumption) ?_
          rotate_left
          · intro wS hSw
            (try dsimp only at hSw)
            go_simp
            (try with_reducible rfl)
          (try simp only [Act.put, List.setIfInBounds_toArray, List.set_cons_zero, List.set_cons_succ])
          refine wpAnyH_take (i := 1) (oi := { dst := some 15, op := Go.Op.binOp Go.BinOp.mul 3 (Go.Operand.const (Go.Value.int Go.IntKind.i64 4)) (Go.Operand.tmp 14) 3, type := 3, pos := "aes.go:66", after := #[{ on := 0, ground := Go.Ground.data }], guard := none }) (v := ?_) rfl (by kernel_rfl) (by kernel_rfl) (by kernel_rfl) (fun _ _ _ h => h) (Or.inl ⟨by rfl, ?_⟩) (by assumption) ?_
          rotate_left
          · intro wS hSw
            (try dsimp only at hSw)
            go_simp
            (try with_reducible rfl)
          (try simp only [Act.put, List.setIfInBounds_toArray, List.set_cons_zero, List.set_cons_succ])
          refine wpAnyH_take (i := 2) (oi := { dst := some 16, op := Go.Op.move (Go.Operand.tmp 7), type := 3, pos := "aes.go:66", after := #[], guard := none }) (v := ?_) rfl (by kernel_rfl) (by kernel_rfl) (by kernel_rfl) (fun _ _ _ h => h) (Or.inl ⟨by rfl, ?_⟩) (by assumption) ?_
          rotate_left
          · intro wS hSw
            (try dsimp only at hSw)
            go_simp
            (try with_reducible rfl)
          (try simp only [Act.put, List.setIfInBounds_toArray, List.set_cons_zero, List.set_cons_succ])
          refine wpAnyH_take (i := 3) (oi := { dst := some 17, op := Go.Op.binOp Go.BinOp.add 3 (Go.Operand.tmp 15) (Go.Operand.tmp 16) 3, type := 3, pos := "aes.go:66", after := #[{ on := 1, ground := Go.Ground.data }, { on := 2, ground := Go.Ground.data }], guard := none }) (v := ?_) rfl (by kernel_rfl) (by kernel_rfl) (by kernel_rfl) (fun _ _ _ h => h) (Or.inl ⟨by rfl, ?_⟩) (by assumption) ?_
          rotate_left
          · intro wS hSw
            (try dsimp only at hSw)
            go_simp
            (try with_reducible rfl)
          (try simp only [Act.put, List.setIfInBounds_toArray, List.set_cons_zero, List.set_cons_succ])
          refine wpAnyH_take (i := 4) (oi := { dst := some 18, op := Go.Op.move (Go.Operand.tmp 0), type := 111, pos := "aes.go:66", after := #[], guard := none }) (v := ?_) rfl (by kernel_rfl) (by kernel_rfl) (by kernel_rfl) (fun _ _ _ h => h) (Or.inl ⟨by rfl, ?_⟩) (by assumption) ?_
          rotate_left
          · intro wS hSw
            (try dsimp only at hSw)
            go_simp
            (try with_reducible rfl)
          (try simp only [Act.put, List.setIfInBounds_toArray, List.set_cons_zero, List.set_cons_succ])
          refine wpAnyH_take (i := 5) (oi := { dst := some 19, op := Go.Op.nilCheck (Go.Operand.tmp 18), type := 0, pos := "aes.go:66", after := #[{ on := 4, ground := Go.Ground.data }], guard := none }) (v := ?_) rfl (by kernel_rfl) (by kernel_rfl) (by kernel_rfl) (fun _ _ _ h => h) (Or.inl ⟨by rfl, ?_⟩) (by assumption) ?_
          rotate_left
          · intro wS hSw
            (try dsimp only at hSw)
            go_simp
            (try with_reducible rfl)
          (try simp only [Act.put, List.setIfInBounds_toArray, List.set_cons_zero, List.set_cons_succ])
          refine wpAnyH_take (i := 6) (oi := { dst := some 20, op := Go.Op.fieldAddr 155 (Go.Operand.tmp 19) 1, type := 0, pos := "aes.go:66", after := #[{ on := 5, ground := Go.Ground.data }], guard := none }) (v := ?_) rfl (by kernel_rfl) (by kernel_rfl) (by kernel_rfl) (fun _ _ _ h => h) (Or.inl ⟨by rfl, ?_⟩) (by assumption) ?_
          rotate_left
          · intro wS hSw
            (try dsimp only at hSw)
            go_simp
            (try with_reducible rfl)
          (try simp only [Act.put, List.setIfInBounds_toArray, List.set_cons_zero, List.set_cons_succ])
          refine wpAnyH_take (i := 7) (oi := { dst := some 21, op := Go.Op.load 151 (Go.Operand.tmp 20), type := 151, pos := "aes.go:66", after := #[{ on := 6, ground := Go.Ground.data }], guard := none }) (v := ?_) rfl (by kernel_rfl) (by kernel_rfl) (by kernel_rfl) (fun _ _ _ h => h) (Or.inl ⟨by rfl, ?_⟩) (by assumption) ?_
          rotate_left
          · intro wS hSw
            (have c9 := hSw.1; go_simp; (try with_reducible rfl))
          (try simp only [Act.put, List.setIfInBounds_toArray, List.set_cons_zero, List.set_cons_succ])
          refine wpAnyH_take (i := 8) (oi := { dst := some 22, op := Go.Op.move (Go.Operand.tmp 6), type := 3, pos := "aes.go:66", after := #[], guard := none }) (v := ?_) rfl (by kernel_rfl) (by kernel_rfl) (by kernel_rfl) (fun _ _ _ h => h) (Or.inl ⟨by rfl, ?_⟩) (by assumption) ?_
          rotate_left
          · intro wS hSw
            (try dsimp only at hSw)
            go_simp
            (try with_reducible rfl)
          (try simp only [Act.put, List.setIfInBounds_toArray, List.set_cons_zero, List.set_cons_succ])
          refine wpAnyH_take (i := 9) (oi := { dst := some 23, op := Go.Op.move (Go.Operand.tmp 7), type := 3, pos := "aes.go:66", after := #[], guard := none }) (v := ?_) rfl (by kernel_rfl) (by kernel_rfl) (by kernel_rfl) (fun _ _ _ h => h) (Or.inl ⟨by rfl, ?_⟩) (by assumption) ?_
          rotate_left
          · intro wS hSw
            (try dsimp only at hSw)
            go_simp
            (try with_reducible rfl)
          (try simp only [Act.put, List.setIfInBounds_toArray, List.set_cons_zero, List.set_cons_succ])
          refine wpAnyH_take (i := 10) (oi := { dst := some 24, op := Go.Op.binOp Go.BinOp.add 3 (Go.Operand.tmp 22) (Go.Operand.tmp 23) 3, type := 3, pos := "aes.go:66", after := #[{ on := 8, ground := Go.Ground.data }, { on := 9, ground := Go.Ground.data }], guard := none }) (v := ?_) rfl (by kernel_rfl) (by kernel_rfl) (by kernel_rfl) (fun _ _ _ h => h) (Or.inl ⟨by rfl, ?_⟩) (by assumption) ?_
          rotate_left
          · intro wS hSw
            (try dsimp only at hSw)
            go_simp
            (try with_reducible rfl)
          (try simp only [Act.put, List.setIfInBounds_toArray, List.set_cons_zero, List.set_cons_succ])
          refine wpAnyH_take (i := 11) (oi := { dst := some 25, op := Go.Op.binOp Go.BinOp.rem 3 (Go.Operand.tmp 24) (Go.Operand.const (Go.Value.int Go.IntKind.i64 4)) 3, type := 3, pos := "aes.go:66", after := #[{ on := 10, ground := Go.Ground.data }], guard := none }) (v := ?_) rfl (by kernel_rfl) (by kernel_rfl) (by kernel_rfl) (fun _ _ _ h => h) (Or.inl ⟨by rfl, ?_⟩) (by assumption) ?_
          rotate_left
          · intro wS hSw
            (try dsimp only at hSw)
            go_simp
            (try with_reducible rfl)
          (try simp only [Act.put, List.setIfInBounds_toArray, List.set_cons_zero, List.set_cons_succ])
          refine wpAnyH_take (i := 12) (oi := { dst := some 26, op := Go.Op.binOp Go.BinOp.mul 3 (Go.Operand.const (Go.Value.int Go.IntKind.i64 4)) (Go.Operand.tmp 25) 3, type := 3, pos := "aes.go:66", after := #[{ on := 11, ground := Go.Ground.data }], guard := none }) (v := ?_) rfl (by kernel_rfl) (by kernel_rfl) (by kernel_rfl) (fun _ _ _ h => h) (Or.inl ⟨by rfl, ?_⟩) (by assumption) ?_
          rotate_left
          · intro wS hSw
            (try dsimp only at hSw)
            go_simp
            (try with_reducible rfl)
          (try simp only [Act.put, List.setIfInBounds_toArray, List.set_cons_zero, List.set_cons_succ])
          refine wpAnyH_take (i := 13) (oi := { dst := some 27, op := Go.Op.move (Go.Operand.tmp 7), type := 3, pos := "aes.go:66", after := #[], guard := none }) (v := ?_) rfl (by kernel_rfl) (by kernel_rfl) (by kernel_rfl) (fun _ _ _ h => h) (Or.inl ⟨by rfl, ?_⟩) (by assumption) ?_
          rotate_left
          · intro wS hSw
            (try dsimp only at hSw)
            go_simp
            (try with_reducible rfl)
          (try simp only [Act.put, List.setIfInBounds_toArray, List.set_cons_zero, List.set_cons_succ])
          refine wpAnyH_take (i := 14) (oi := { dst := some 28, op := Go.Op.binOp Go.BinOp.add 3 (Go.Operand.tmp 26) (Go.Operand.tmp 27) 3, type := 3, pos := "aes.go:66", after := #[{ on := 12, ground := Go.Ground.data }, { on := 13, ground := Go.Ground.data }], guard := none }) (v := ?_) rfl (by kernel_rfl) (by kernel_rfl) (by kernel_rfl) (fun _ _ _ h => h) (Or.inl ⟨by rfl, ?_⟩) (by assumption) ?_
          rotate_left
          · intro wS hSw
            (try dsimp only at hSw)
            go_simp
            (try with_reducible rfl)
          (try simp only [Act.put, List.setIfInBounds_toArray, List.set_cons_zero, List.set_cons_succ])
          refine wpAnyH_take (i := 15) (oi := { dst := some 29, op := Go.Op.indexAddr 82 (Go.Operand.tmp 3) (Go.Operand.tmp 28), type := 0, pos := "aes.go:66", after := #[{ on := 14, ground := Go.Ground.data }], guard := none }) (v := ?_) rfl (by kernel_rfl) (by kernel_rfl) (by kernel_rfl) (fun _ _ _ h => h) (Or.inl ⟨by rfl, ?_⟩) (by assumption) ?_
          rotate_left
          · intro wS hSw
            (try dsimp only at hSw)
            go_simp
            (try with_reducible rfl)
          (try simp only [Act.put, List.setIfInBounds_toArray, List.set_cons_zero, List.set_cons_succ])
          refine wpAnyH_take (i := 16) (oi := { dst := some 30, op := Go.Op.load 5 (Go.Operand.tmp 29), type := 5, pos := "aes.go:66", after := #[{ on := 15, ground := Go.Ground.data }], guard := none }) (v := ?_) rfl (by kernel_rfl) (by kernel_rfl) (by kernel_rfl) (fun _ _ _ h => h) (Or.inl ⟨by rfl, ?_⟩) (by assumption) ?_
          rotate_left
          · intro wS hSw
            (have c9 := hSw.2; go_simp; (try with_reducible rfl))
          (try simp only [Act.put, List.setIfInBounds_toArray, List.set_cons_zero, List.set_cons_succ])
          refine wpAnyH_ready (rs := [17]) (by kernel_rfl) (by simp) ?_
          refine AllReadyH.cons (o := { dst := some 31, op := Go.Op.call { callee := Go.Callee.value (Go.Operand.func 92), args := #[Go.Operand.tmp 21, Go.Operand.tmp 30], argTypes := #[151, 5] }, type := 5, pos := "aes.go:66", after := #[{ on := 7, ground := Go.Ground.data }, { on := 16, ground := Go.Ground.data }], guard := none }) rfl (fun K hK => ?_) AllReadyH.nil
          go_simp
          (refine (sub_any bx p _ hI_0 HP8.out).mono ?_; rintro e v_1 ⟨rfl, hb_1⟩; have hQ_1 := Own.trans hQ_0 hb_1.2; have hI_1 := hb_1.1; have hM_1 := MS.own hM_0 hb_1.2 HNX.out.2.2.2.1 HNX.out.1; clear hb_1 hQ_0 hI_0 hM_0; skip)
          (try go_wp2_with fail)
          refine hK.out _ _ ?_ (fun hHeld => ?_)
          · (try dsimp only)
            first | assumption
          clear hK K
          (try simp only [Act.put, List.setIfInBounds_toArray, List.set_cons_zero, List.set_cons_succ])
          refine wpAnyH_take (i := 18) (oi := { dst := some 32, op := Go.Op.indexAddr 82 (Go.Operand.tmp 5) (Go.Operand.tmp 17), type := 0, pos := "aes.go:66", after := #[{ on := 3, ground := Go.Ground.data }, { on := 0, ground := Go.Ground.phase }, { on := 1, ground := Go.Ground.phase }, { on := 2, ground := Go.Ground.phase }, { on := 3, ground := Go.Ground.phase }, { on := 4, ground := Go.Ground.phase }, { on := 5, ground := Go.Ground.phase }, { on := 6, ground := Go.Ground.phase }, { on := 7, ground := Go.Ground.phase }, { on := 8, ground := Go.Ground.phase }, { on := 9, ground := Go.Ground.phase }, { on := 10, ground := Go.Ground.phase }, { on := 11, ground := Go.Ground.phase }, { on := 12, ground := Go.Ground.phase }, { on := 13, ground := Go.Ground.phase }, { on := 14, ground := Go.Ground.phase }, { on := 15, ground := Go.Ground.phase }, { on := 16, ground := Go.Ground.phase }, { on := 17, ground := Go.Ground.phase }], guard := none }) (v := ?_) rfl (by kernel_rfl) (by kernel_rfl) (by kernel_rfl) (fun _ _ _ h => h) (Or.inl ⟨by rfl, ?_⟩) (by assumption) ?_
          rotate_left
          · intro wS hSw
            (try dsimp only at hSw)
            go_simp
            (try with_reducible rfl)
          (try simp only [Act.put, List.setIfInBounds_toArray, List.set_cons_zero, List.set_cons_succ])
          refine wpAnyH_ready (rs := [19]) (by kernel_rfl) (by simp) ?_
          refine AllReadyH.cons (o := { dst := none, op := Go.Op.store 5 (Go.Operand.tmp 32) (Go.Operand.tmp 31), type := 0, pos := "aes.go:66", after := #[{ on := 18, ground := Go.Ground.data }, { on := 17, ground := Go.Ground.data }, { on := 17, ground := Go.Ground.chain }, { on := 0, ground := Go.Ground.phase }, { on := 1, ground := Go.Ground.phase }, { on := 2, ground := Go.Ground.phase }, { on := 3, ground := Go.Ground.phase }, { on := 4, ground := Go.Ground.phase }, { on := 5, ground := Go.Ground.phase }, { on := 6, ground := Go.Ground.phase }, { on := 7, ground := Go.Ground.phase }, { on := 8, ground := Go.Ground.phase }, { on := 9, ground := Go.Ground.phase }, { on := 10, ground := Go.Ground.phase }, { on := 11, ground := Go.Ground.phase }, { on := 12, ground := Go.Ground.phase }, { on := 13, ground := Go.Ground.phase }, { on := 14, ground := Go.Ground.phase }, { on := 15, ground := Go.Ground.phase }, { on := 16, ground := Go.Ground.phase }, { on := 17, ground := Go.Ground.phase }], guard := none }) rfl (fun K hK => ?_) AllReadyH.nil
          (have hY9 := Own.blk hQ_1 HY.out HNX.out.2.2.1; rw [HNN.out.1] at hY9; have c8 : v_1.cell? ⟨w.heap.size + 1 + 1, n, none⟩ = some (.int .u8 0) := (by have h8 := B16.cell hY9 HNN.out.2; rw [if_neg (Nat.lt_irrefl _)] at h8; exact h8); have z8 : v_1.frozen? ⟨w.heap.size + 1 + 1, n, none⟩ = false := Blk.free hY9 _; have HY9 := Lib.hid hY9; clear hY9; go_simp; clear c8 z8; obtain ⟨v_2, hw_2⟩ : ∃ q, v_1.setCell ⟨w.heap.size + 1 + 1, n, none⟩ (.int .u8 (subN p : Nat)) = q := ⟨_, rfl⟩; rw [hw_2]; have hM_2 := MS.set hM_1 (a := ⟨w.heap.size + 1 + 1, n, none⟩) HNX.out.2.2.2.2 (by simp; omega) (.int .u8 (subN p : Nat)); rw [hw_2] at hM_2; have HN : Hid (MV w bx f (4 * c + (i + 1)) v_2) := Lib.hid (by
              have hn := HNX.out
              have hO8 := HOO.out.trans hQ_1
              rw [← hw_2]
              refine ⟨Blk.set_other (Own.blk hQ_1 HX.out hn.1) (by simp; omega) _, Blk.set_other (Own.blk hQ_1 HR.out hn.2.1) (by simp) _, (B16.set HY9.out n (subN p)).congr fun j hj => ?_, BoxIn.own hI_1 ((Own.refl _ _).set _ _) (fun e => hn.2.2.1 e.symm), hO8.two ((Own.refl _ _).set _ _) (by omega)⟩
              unfold upd
              have hnn := HNN.out
              by_cases e : j = n
              · rw [if_pos e, e, if_pos (by omega), ← hnn.1, mvA_at f c i (by omega), HP.out]
              · rw [if_neg e]
                show (if j < n then mvA subN f j else 0) = if j < 4 * c + (i + 1) then mvA subN f j else 0
                by_cases h5 : j < n
                · rw [if_pos h5, if_pos (by omega)]
                · rw [if_neg h5, if_neg (by omega)]); clear hQ_1 hI_1 hM_1 hw_2; skip)
          refine hK.out _ _ ?_ (fun hHeld => ?_)
          · (try dsimp only)
            first | assumption
          clear hK K
          (try simp only [Act.put, List.setIfInBounds_toArray, List.set_cons_zero, List.set_cons_succ])
          refine wpAnyH_done (by kernel_rfl) ?_ _
          clear hM_2
          go_wp2_with fail
          go_roundw
          case rel => exact ⟨i + 1, by omega, by go_num, HN.out⟩
          case measure => simp [intOf]; omega
        · obtain rfl : i = 4 := by omega
          have HM : Hid (MV w bx f (4 * (c + 1)) wr) := Lib.hid (by rw [show 4 * (c + 1) = 4 * c + 4 by omega]; exact ⟨hX, hR, hY, hBx, hO⟩)
          clear hX hR hY hBx hO
          go_wp2_with fail
          go_roundw
          case rel => exact ⟨c + 1, by omega, by go_num, HM.out⟩
          case measure => simp [intOf]; omega
    · obtain rfl : c = 4 := by omega
      obtain ⟨hX, hR, hY, hBx, hO⟩ := hM
      have hbx := HBX.out
      obtain ⟨E, hE⟩ : ∃ C, (rowC 16 (mvA subN f)).toArray = C := ⟨_, rfl⟩
      have HCE : Hid (∃ f, E = (rowC 16 f).toArray) := Lib.hid ⟨_, hE.symm⟩
      have HC0 : Hid (∃ f, zero16 = (rowC 16 f).toArray) := Lib.hid ⟨_, rfl⟩
      have HX5 : Hid (Blk wr (w.heap.size + 1 + 1) E 82) := Lib.hid (hE ▸ (hY.congr fun i hi => if_pos (by omega)))
      have HR5 : Hid (Blk wr (w.heap.size + 1) zero16 82) := Lib.hid hR
      have HN : Hid (Blk (wr.setCells (w.heap.size + 1) 0 E.toList) (w.heap.size + 1) E 82) := Lib.hid (Blk.store16 HR5.out HCE.out HC0.out)
      have HO5 : Hid (BoxIn (wr.setCells (w.heap.size + 1) 0 E.toList) bx ∧ Own bx w (wr.setCells (w.heap.size + 1) 0 E.toList)) := Lib.hid ⟨hBx.own (Own.setCells _ _ _) (by omega), hO.two (Own.setCells _ _ _) (by omega)⟩
      have HE := Lib.hid hE
      clear hX hR hY hBx hO hE hlt hc hbx
      go_wp2_with (first
        | (refine wpList_load16 rfl (.tmp 5) rfl (w.heap.size + 1 + 1) rfl E HX5.out HCE.out ?_)
        | (refine wpList_store16 rfl (.tmp 4) (.tmp 35) rfl (w.heap.size + 1) rfl E zero16 rfl HR5.out HCE.out HC0.out ?_))
      refine bodyPost_ret (v := .agg E) ?_ rfl ⟨by rw [HE.out], HO5.out⟩
      exact res16 Tryz.results79 _ _ (w.heap.size + 1) E rfl HN.out HCE.out
end Go.Proofs.YtncfocjmdecapaaGreatDoor
