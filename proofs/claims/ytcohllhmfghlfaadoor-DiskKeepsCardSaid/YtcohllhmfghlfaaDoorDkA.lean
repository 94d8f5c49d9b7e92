/- A disk: what was synced is there behind any crash. -/
import Derived.Test.YtcohllhmfghlfaaDoorDk9
namespace Go.Proofs.YtcohllhmfghlfaaDoor
set_option linter.unusedVariables false
set_option linter.unusedSimpArgs false
open Go.RowKit

set_option maxRecDepth 100000 in
set_option maxHeartbeats 8000000 in
theorem dkkeeps_any (n1 c1 n2 c2 nk ck : Nat) (o1 o2 ok : Option Addr) (f1 f2 : Nat → Nat) (fk : Nat → Bool) (w : World) (hB1 : Bytes w o1 n1 f1) (hl1 : n1 ≤ maxLen) (hB2 : Bytes w o2 n2 f2) (hl2 : n2 ≤ maxLen) (hBk : Bools w ok nk fk) (hlk : nk ≤ maxLen) (hg : Handle w) :
    Calls Tryd.prog 4 #[.slice o1 n1 c1, .slice o2 n2 c2, .slice ok nk ck] w fun e w' => e = .returned (.bool true) ∧ Below w.heap.size w w' := by
  have HG := Lib.hid hg
  have HB1 := Lib.hid hB1
  have HB2 := Lib.hid hB2
  have HBK := Lib.hid hBk
  have HLK := Lib.hid hlk
  have l1 : (n1 : Int) ≤ 9223372036854775807 := by unfold maxLen at hl1; omega
  have l2 : (n2 : Int) ≤ 9223372036854775807 := by unfold maxLen at hl2; omega
  have lk : (nk : Int) ≤ 9223372036854775807 := by unfold maxLen at hlk; omega
  clear hg hB1 hB2 hBk hl1 hl2 hlk
  go_enter Tryd.func4, Tryd.ntmps4
  go_wp2_with fail
  refine (new_any 8 w (by decide) (by decide)).mono ?_
  rintro e A0 ⟨d, sb, rfl, hk, hb, h1, h2⟩
  have X0 := Lib.hid (show DX w d sb (.slice none 0 0) (newS 8) A0 from ⟨hk, hb⟩)
  clear hk hb h1 h2
  have HSU := Lib.hid (sure13 A0 (HG.out.below X0.out.2 HG.out.2))
  by_cases h40 : n1 ≤ 40
  rotate_left
  · have g1 : (40 : Int) < (n1 : Int) := by omega
    have g2 : decide ((40 : Int) < (n1 : Int)) = true := decide_eq_true g1
    clear h40
    go_wp2_with fail
    refine HSU.out.mono ?_
    rintro e A1 ⟨rfl, hb⟩
    have hb2 := Lib.hid (X0.out.2.trans (hb.mono X0.out.2.size))
    clear hb
    go_wp2_with fail
    go_ret
    exact ⟨rfl, hb2.out⟩
  have g1 : ¬ (40 : Int) < (n1 : Int) := by omega
  have g2 : decide ((40 : Int) < (n1 : Int)) = false := decide_eq_false g1
  by_cases h42 : n2 ≤ 40
  rotate_left
  · have g3 : (40 : Int) < (n2 : Int) := by omega
    have g4 : decide ((40 : Int) < (n2 : Int)) = true := decide_eq_true g3
    clear h42 h40
    go_wp2_with fail
    refine HSU.out.mono ?_
    rintro e A1 ⟨rfl, hb⟩
    have hb2 := Lib.hid (X0.out.2.trans (hb.mono X0.out.2.size))
    clear hb
    go_wp2_with fail
    go_ret
    exact ⟨rfl, hb2.out⟩
  have g3 : ¬ (40 : Int) < (n2 : Int) := by omega
  have g4 : decide ((40 : Int) < (n2 : Int)) = false := decide_eq_false g3
  have HL := Lib.hid (show n1 ≤ 40 ∧ n2 ≤ 40 from ⟨h40, h42⟩)
  clear h40 h42 HSU
  obtain ⟨A1, hA1⟩ : ∃ x, A0.alloc (.cells (rowC 8 (fun _ => 0)).toArray 5) = x := ⟨_, rfl⟩
  have hb1 : Below A0.heap.size A0 A1 := by rw [← hA1]; exact (Below.refl _ _).alloc (Nat.le_refl _) _
  have hR1 : Row A1 A0.heap.size 8 (fun _ => 0) := by rw [← hA1]; exact Blk.new _ _ _
  obtain ⟨gw, hgw⟩ : ∃ x, A0.heap.size = x := ⟨_, rfl⟩
  go_wp2_with (first
    | (refine wpList_mk rfl (.const (.int .i64 8)) (.const (.int .i64 8)) rfl 8 rfl rfl (by decide) ?_; rw [hA1, hgw]; clear hA1))
  have I0 : Hid (KI w d sb gw allK 0 (fun _ => 0) (fun _ => 0) A1) := Lib.hid ⟨_, _, X0.out.later hb1, ⟨rfl, rfl, rfl, rfl, fun j _ => by
      show (fun _ => 0) = secF 1 (fun _ => 0)
      funext k; unfold secF; split <;> rfl⟩, ⟨by have := X0.out.1.lt; omega, by have := X0.out.1.lt; omega, (fun e => by cases e)⟩, by rw [← hgw]; exact hR1⟩
  have HGW := Lib.hid (show w.heap.size ≤ gw by rw [← hgw]; exact X0.out.2.size)
  clear hb1 hR1 hgw X0
  go_loopw [10] (fun x wr => ∃ i : Nat, i ≤ n1 ∧ x = .int .i64 (i : Int) ∧ ∃ T : Nat → Nat, (∀ j, j < 8 → T j < 256) ∧ KI w d sb gw allK i T T wr) (fun x _ => n1 - (intOf x).toNat)
  case atStart => exact ⟨0, Nat.zero_le _, rfl, _, fun _ _ => by decide, I0.out⟩
  case round =>
    obtain ⟨i, hi, rfl, W, hT8, hK⟩ := hrel
    have HK := Lib.hid hK
    have HT8 := Lib.hid hT8
    clear hK hT8 I0
    by_cases hlt : i < n1
    · as_aux_lemma =>
      obtain ⟨hx256, b, off, rfl, hcell⟩ := HB1.out i hlt
      obtain ⟨x, hx⟩ : ∃ x, f1 i = x := ⟨_, rfl⟩
      rw [hx] at hcell hx256
      have hcr : wr.cell? ⟨b, off + i, none⟩ = some (.int .u8 (x : Int)) := cell_below HK.out.below hcell
      have i1 : (i : Int) < (n1 : Int) := by omega
      have i0 : (0 : Int) ≤ (i : Int) := by omega
      obtain ⟨i2, hi2⟩ : ∃ y, i + 1 = y := ⟨_, rfl⟩
      obtain ⟨y, hy⟩ : ∃ y, i + 1 = y := ⟨_, rfl⟩
      have hL := HL.out
      have k4 : IntKind.i64.wrap ((i : Int) + 1) = (i2 : Int) := by rw [IntWalk.i64_in _ (by omega)]; omega
      have k5 : (i2 : Int) = (y : Int) := by omega
      have k8 : IntKind.u8.wrap (i2 : Int) = (y : Int) := by rw [k5]; exact IntWalk.u8_in _ (by omega)
      have k6 : IntKind.u8.wrap (y : Int) = (y : Int) := IntWalk.u8_in _ (by omega)
      have k7 : (y : Int) % 256 = (y : Int) := by omega
      obtain ⟨q, hq⟩ : ∃ q, x % 8 = q := ⟨_, rfl⟩
      have x0 : (x : Int) % 256 = (x : Int) := by omega
      have x1 : IntKind.i64.wrap (x : Int) = (x : Int) := IntWalk.i64_in _ (by omega)
      have x2 : (x : Int).tmod 8 = (q : Int) := by rw [Int.tmod_eq_emod_of_nonneg (by omega)]; omega
      have x3 : (x : Int) % 8 = (q : Int) := by omega
      have x4 : (q : Int) % 256 = (q : Int) := by omega
      have q8 : (q : Int) < 8 := by omega
      have q0 : (0 : Int) ≤ (q : Int) := by omega
      have HI := Lib.hid (show i < n1 ∧ i + 1 = i2 ∧ i + 1 = y ∧ y < 256 ∧ q < 8 ∧ i < 1000 by omega)
      obtain ⟨v, s, hdx, hkf, hkg, hrow⟩ := HK.out
      have HX := Lib.hid (hdx.later (Below.refl _ wr).drew)
      have HKF := Lib.hid hkf
      have HKG := Lib.hid hkg
      have HRW := Lib.hid (hrow.later (Below.refl _ wr).drew)
      have HC : Hid (∀ A', Below w.heap.size w A' → A'.cell? ⟨b, off + i, none⟩ = some (.int .u8 (x : Int))) := Lib.hid fun A' hA => cell_below hA hcell
      have hS0 : Below w.heap.size w wr.drew := HX.out.2
      clear hdx hkf hkg hrow hcell hL hlt hi hx hx256 hi2 hy hq HK
      go_upto_region 8 with fail
      clear hcr
      refine wp_region_held_drew (S := (Below w.heap.size w)) (by kernel_rfl) ?_ (fun hHeld => ?_)
      · (try dsimp only)
        (first | assumption)
      generalize wr.drew = WR at *
      refine wpAnyH_take (i := 0) (oi := { dst := some 47, op := Go.Op.move (Go.Operand.tmp 7), type := 23, pos := "law.go:123", after := #[], guard := none }) (v := ?_) rfl (by kernel_rfl) (by kernel_rfl) (by kernel_rfl) (fun _ _ _ h => h) (Or.inl ⟨by rfl, ?_⟩) (by assumption) ?_
      rotate_left
      · intro wS hSw
        (try dsimp only at hSw)
        go_simp
        (try with_reducible rfl)
      (try simp only [Act.put, List.setIfInBounds_toArray, List.set_cons_zero, List.set_cons_succ])
      refine wpAnyH_take (i := 1) (oi := { dst := some 48, op := Go.Op.move (Go.Operand.tmp 0), type := 22, pos := "law.go:123", after := #[], guard := none }) (v := ?_) rfl (by kernel_rfl) (by kernel_rfl) (by kernel_rfl) (fun _ _ _ h => h) (Or.inl ⟨by rfl, ?_⟩) (by assumption) ?_
      rotate_left
      · intro wS hSw
        (try dsimp only at hSw)
        go_simp
        (try with_reducible rfl)
      (try simp only [Act.put, List.setIfInBounds_toArray, List.set_cons_zero, List.set_cons_succ])
      refine wpAnyH_take (i := 2) (oi := { dst := some 49, op := Go.Op.move (Go.Operand.tmp 10), type := 3, pos := "law.go:123", after := #[], guard := none }) (v := ?_) rfl (by kernel_rfl) (by kernel_rfl) (by kernel_rfl) (fun _ _ _ h => h) (Or.inl ⟨by rfl, ?_⟩) (by assumption) ?_
      rotate_left
      · intro wS hSw
        (try dsimp only at hSw)
        go_simp
        (try with_reducible rfl)
      (try simp only [Act.put, List.setIfInBounds_toArray, List.set_cons_zero, List.set_cons_succ])
      refine wpAnyH_take (i := 3) (oi := { dst := some 50, op := Go.Op.indexAddr 22 (Go.Operand.tmp 48) (Go.Operand.tmp 49), type := 0, pos := "law.go:123", after := #[{ on := 1, ground := Go.Ground.data }, { on := 2, ground := Go.Ground.data }], guard := none }) (v := ?_) rfl (by kernel_rfl) (by kernel_rfl) (by kernel_rfl) (fun _ _ _ h => h) (Or.inl ⟨by rfl, ?_⟩) (by assumption) ?_
      rotate_left
      · intro wS hSw
        (try dsimp only at hSw)
        go_simp
        (try with_reducible rfl)
      (try simp only [Act.put, List.setIfInBounds_toArray, List.set_cons_zero, List.set_cons_succ])
      refine wpAnyH_take (i := 4) (oi := { dst := some 51, op := Go.Op.load 5 (Go.Operand.tmp 50), type := 5, pos := "law.go:123", after := #[{ on := 3, ground := Go.Ground.data }], guard := none }) (v := ?_) rfl (by kernel_rfl) (by kernel_rfl) (by kernel_rfl) (fun _ _ _ h => h) (Or.inl ⟨by rfl, ?_⟩) (by assumption) ?_
      rotate_left
      · intro wS hSw
        have c0 := HC.out wS hSw
        go_simp
        (try with_reducible rfl)
      (try simp only [Act.put, List.setIfInBounds_toArray, List.set_cons_zero, List.set_cons_succ])
      refine wpAnyH_take (i := 5) (oi := { dst := some 52, op := Go.Op.convert 5 3 (Go.Operand.tmp 51), type := 3, pos := "law.go:123", after := #[{ on := 4, ground := Go.Ground.data }], guard := none }) (v := ?_) rfl (by kernel_rfl) (by kernel_rfl) (by kernel_rfl) (fun _ _ _ h => h) (Or.inl ⟨by rfl, ?_⟩) (by assumption) ?_
      rotate_left
      · intro wS hSw
        (try dsimp only at hSw)
        go_simp
        (try with_reducible rfl)
      (try simp only [Act.put, List.setIfInBounds_toArray, List.set_cons_zero, List.set_cons_succ])
      refine wpAnyH_take (i := 6) (oi := { dst := some 53, op := Go.Op.binOp Go.BinOp.rem 3 (Go.Operand.tmp 52) (Go.Operand.const (Go.Value.int Go.IntKind.i64 8)) 3, type := 3, pos := "law.go:123", after := #[{ on := 5, ground := Go.Ground.data }], guard := none }) (v := ?_) rfl (by kernel_rfl) (by kernel_rfl) (by kernel_rfl) (fun _ _ _ h => h) (Or.inl ⟨by rfl, ?_⟩) (by assumption) ?_
      rotate_left
      · intro wS hSw
        (try dsimp only at hSw)
        go_simp
        (try with_reducible rfl)
      (try simp only [Act.put, List.setIfInBounds_toArray, List.set_cons_zero, List.set_cons_succ])
      refine wpAnyH_take (i := 7) (oi := { dst := some 54, op := Go.Op.move (Go.Operand.tmp 10), type := 3, pos := "law.go:123", after := #[], guard := none }) (v := ?_) rfl (by kernel_rfl) (by kernel_rfl) (by kernel_rfl) (fun _ _ _ h => h) (Or.inl ⟨by rfl, ?_⟩) (by assumption) ?_
      rotate_left
      · intro wS hSw
        (try dsimp only at hSw)
        go_simp
        (try with_reducible rfl)
      (try simp only [Act.put, List.setIfInBounds_toArray, List.set_cons_zero, List.set_cons_succ])
      refine wpAnyH_take (i := 8) (oi := { dst := some 55, op := Go.Op.binOp Go.BinOp.add 3 (Go.Operand.tmp 54) (Go.Operand.const (Go.Value.int Go.IntKind.i64 1)) 3, type := 3, pos := "law.go:123", after := #[{ on := 7, ground := Go.Ground.data }], guard := none }) (v := ?_) rfl (by kernel_rfl) (by kernel_rfl) (by kernel_rfl) (fun _ _ _ h => h) (Or.inl ⟨by rfl, ?_⟩) (by assumption) ?_
      rotate_left
      · intro wS hSw
        (try dsimp only at hSw)
        go_simp
        (try with_reducible rfl)
      (try simp only [Act.put, List.setIfInBounds_toArray, List.set_cons_zero, List.set_cons_succ])
      refine wpAnyH_take (i := 9) (oi := { dst := some 56, op := Go.Op.convert 3 5 (Go.Operand.tmp 55), type := 5, pos := "law.go:123", after := #[{ on := 8, ground := Go.Ground.data }], guard := none }) (v := ?_) rfl (by kernel_rfl) (by kernel_rfl) (by kernel_rfl) (fun _ _ _ h => h) (Or.inl ⟨by rfl, ?_⟩) (by assumption) ?_
      rotate_left
      · intro wS hSw
        (try dsimp only at hSw)
        go_simp
        (try with_reducible rfl)
      (try simp only [Act.put, List.setIfInBounds_toArray, List.set_cons_zero, List.set_cons_succ])
      refine wpAnyH_ready (rs := [10]) (by kernel_rfl) (by simp) ?_
      refine AllReadyH.cons (o := { dst := some 57, op := Go.Op.buildSlice 22 1 #[(0, Go.Operand.tmp 56)], type := 22, pos := "law.go:123", after := #[{ on := 9, ground := Go.Ground.data }], guard := none }) rfl (fun K hK => ?_) AllReadyH.nil
      go_simp
      (obtain ⟨W1, hW1⟩ : ∃ q, WR.alloc (.cells #[.int .u8 (y : Int)] 5) = q := ⟨_, rfl⟩; rw [hW1]; have hb1 : Below WR.heap.size WR W1 := (by rw [← hW1]; exact (Below.refl _ _).alloc (Nat.le_refl _) _); have hK1 : Blk W1 WR.heap.size #[.int .u8 (y : Int)] 5 := (by rw [← hW1]; exact Blk.new _ _ _); have HBY : Hid (Bytes W1 (some ⟨WR.heap.size, 0, none⟩) 1 (fun _ => y)) := Lib.hid (fun k hk => ⟨HI.out.2.2.2.1, WR.heap.size, 0, rfl, by rw [show k = 0 by omega, Blk.cell hK1]; rfl⟩); have hS1 : Below w.heap.size w W1 := hS0.trans (hb1.mono hS0.size); clear hW1 hK1; skip)
      (try go_wp2_with fail)
      refine hK.out _ _ ?_ (fun hHeld => ?_)
      · (try dsimp only)
        (first | assumption)
      clear hK K
      (try simp only [Act.put, List.setIfInBounds_toArray, List.set_cons_zero, List.set_cons_succ])
      refine wpAnyH_ready (rs := [11]) (by kernel_rfl) (by simp) ?_
      refine AllReadyH.cons (o := { dst := some 58, op := Go.Op.call { callee := Go.Callee.value (Go.Operand.func 11), args := #[Go.Operand.tmp 57], argTypes := #[22] }, type := 22, pos := "law.go:123", after := #[{ on := 10, ground := Go.Ground.data }], guard := none }) rfl (fun K hK => ?_) AllReadyH.nil
      go_simp
      (refine (sector_any (some ⟨WR.heap.size, 0, none⟩) 1 1 (fun _ => y) W1 HBY.out (by decide)).mono ?_; rintro e V2 ⟨rfl, hr2, hb2⟩; have R2 := Lib.hid hr2; have hb3 : Below WR.heap.size WR V2 := hb1.trans (hb2.mono hb1.size); have HP2 := Lib.hid (show WR.heap.size ≤ W1.heap.size from hb1.size); have HXV := Lib.hid (HX.out.later hb3); have HRV := Lib.hid (HRW.out.later hb3); have hS2 := HXV.out.2; clear hr2 hb2 HBY hb1; skip)
      (try go_wp2_with fail)
      refine hK.out _ _ ?_ (fun hHeld => ?_)
      · (try dsimp only)
        (first | assumption)
      clear hK K
      (try simp only [Act.put, List.setIfInBounds_toArray, List.set_cons_zero, List.set_cons_succ])
      refine wpAnyH_ready (rs := [12]) (by kernel_rfl) (by simp) ?_
      refine AllReadyH.cons (o := { dst := some 59, op := Go.Op.call { callee := Go.Callee.value (Go.Operand.func 10), args := #[Go.Operand.tmp 47, Go.Operand.tmp 53, Go.Operand.tmp 58], argTypes := #[23, 3, 22] }, type := 25, pos := "law.go:123", after := #[{ on := 0, ground := Go.Ground.data }, { on := 6, ground := Go.Ground.data }, { on := 11, ground := Go.Ground.data }, { on := 11, ground := Go.Ground.chain }], guard := none }) rfl (fun K hK => ?_) AllReadyH.nil
      go_simp
      (refine (write_KI HX.out HXV.out HKF.out HKG.out HRV.out HP2.out HI.out.2.2.2.2.1 HI.out.2.2.2.2.2 R2.out HI.out.2.2.2.1).mono ?_; rintro e A2 ⟨rfl, hd2⟩; have D2 := Lib.hid hd2; have hS3 := D2.out.below; clear hd2 hb3; skip)
      (try go_wp2_with fail)
      refine hK.out _ _ ?_ (fun hHeld => ?_)
      · (try dsimp only)
        (first | assumption)
      clear hK K
      (try simp only [Act.put, List.setIfInBounds_toArray, List.set_cons_zero, List.set_cons_succ])
      refine wpAnyH_take (i := 13) (oi := { dst := some 60, op := Go.Op.binOp Go.BinOp.neq 25 (Go.Operand.tmp 59) (Go.Operand.const Go.Value.nilIface) 25, type := 4, pos := "law.go:123", after := #[{ on := 12, ground := Go.Ground.data }], guard := none }) (v := ?_) rfl (by kernel_rfl) (by kernel_rfl) (by kernel_rfl) (fun _ _ _ h => h) (Or.inl ⟨by rfl, ?_⟩) (by assumption) ?_
      rotate_left
      · intro wS hSw
        (try dsimp only at hSw)
        go_simp
        (try with_reducible rfl)
      (try simp only [Act.put, List.setIfInBounds_toArray, List.set_cons_zero, List.set_cons_succ])
      refine wpAnyH_done (by kernel_rfl) ?_ _
      have hcr : A2.cell? ⟨b, off + i, none⟩ = some (.int .u8 (x : Int)) := HC.out A2 hS3
      have hst := D2.out.store HGW.out q y
      have fr : A2.frozen? ⟨gw, q, none⟩ = false := Blk.free D2.out.row _
      have cc : A2.cell? ⟨gw, q, none⟩ = some (.int .u8 (W q : Nat)) := Row.cell D2.out.row HI.out.2.2.2.2.1
      have HST := Lib.hid hst
      clear hst hS3 HX HXV HRV HRW HKF HKG R2
      go_wp2_with fail
      go_roundw
      case rel =>
        refine ⟨i2, by have := HI.out; omega, by rw [show y = i2 by have := HI.out; omega], upd W q y, fun t ht => ?_, ?_⟩
        · unfold upd; split
          · exact HI.out.2.2.2.1
          · exact HT8.out t ht
        · have h9 := HST.out
          rw [if_pos (show allK i = true from rfl)] at h9
          rw [← HI.out.2.1]; exact h9
      case measure => have := HI.out; simp [intOf]; omega
    · obtain rfl : i = n1 := by omega
      have i1 : ¬ (i : Int) < (i : Int) := by omega
      clear hlt hi
      go_wp2_with fail
      refine (sync_KI (kp := keepP nk fk) HK.out).mono ?_
      rintro e A2 ⟨rfl, hk⟩
      have HK2 := Lib.hid hk
      clear hk HK
      go_wp2_with fail
      go_loopw [11] (fun x wr => ∃ j : Nat, j ≤ n2 ∧ x = .int .i64 (j : Int) ∧ ∃ T : Nat → Nat, (∀ t, t < 8 → T t < 256) ∧ KI w d sb gw (keepP nk fk) j T T wr) (fun x _ => n2 - (intOf x).toNat)
      case atStart => exact ⟨0, Nat.zero_le _, rfl, _, HT8.out, HK2.out⟩
      case round =>
        clear HT8 HK2
        obtain ⟨j, hj, rfl, W, hT8, hK⟩ := hrel
        have HK := Lib.hid hK
        have HT8 := Lib.hid hT8
        clear hK hT8
        by_cases hlt : j < n2
        · as_aux_lemma =>
          obtain ⟨hx256, b, off, rfl, hcell⟩ := HB2.out j hlt
          obtain ⟨x, hx⟩ : ∃ x, f2 j = x := ⟨_, rfl⟩
          rw [hx] at hcell hx256
          have hcr : wr.cell? ⟨b, off + j, none⟩ = some (.int .u8 (x : Int)) := cell_below HK.out.below hcell
          have i1 : (j : Int) < (n2 : Int) := by omega
          have i0 : (0 : Int) ≤ (j : Int) := by omega
          obtain ⟨i2, hi2⟩ : ∃ y, j + 1 = y := ⟨_, rfl⟩
          obtain ⟨y, hy⟩ : ∃ y, 100 + j = y := ⟨_, rfl⟩
          have hL := HL.out
          have k4 : IntKind.i64.wrap ((j : Int) + 1) = (i2 : Int) := by rw [IntWalk.i64_in _ (by omega)]; omega
          have k5 : IntKind.i64.wrap (100 + (j : Int)) = (y : Int) := by rw [IntWalk.i64_in _ (by omega)]; omega
          have k6 : IntKind.u8.wrap (y : Int) = (y : Int) := IntWalk.u8_in _ (by omega)
          have k7 : (y : Int) % 256 = (y : Int) := by omega
          obtain ⟨q, hq⟩ : ∃ q, x % 8 = q := ⟨_, rfl⟩
          have x0 : (x : Int) % 256 = (x : Int) := by omega
          have x1 : IntKind.i64.wrap (x : Int) = (x : Int) := IntWalk.i64_in _ (by omega)
          have x2 : (x : Int).tmod 8 = (q : Int) := by rw [Int.tmod_eq_emod_of_nonneg (by omega)]; omega
          have x3 : (x : Int) % 8 = (q : Int) := by omega
          have x4 : (q : Int) % 256 = (q : Int) := by omega
          have q8 : (q : Int) < 8 := by omega
          have q0 : (0 : Int) ≤ (q : Int) := by omega
          have HI := Lib.hid (show j < n2 ∧ j + 1 = i2 ∧ 100 + j = y ∧ y < 256 ∧ q < 8 ∧ j < 1000 by omega)
          obtain ⟨v, s, hdx, hkf, hkg, hrow⟩ := HK.out
          have HX := Lib.hid (hdx.later (Below.refl _ wr).drew)
          have HKF := Lib.hid hkf
          have HKG := Lib.hid hkg
          have HRW := Lib.hid (hrow.later (Below.refl _ wr).drew)
          have HC : Hid (∀ A', Below w.heap.size w A' → A'.cell? ⟨b, off + j, none⟩ = some (.int .u8 (x : Int))) := Lib.hid fun A' hA => cell_below hA hcell
          have hS0 : Below w.heap.size w wr.drew := HX.out.2
          clear hdx hkf hkg hrow hcell hL hlt hj hx hx256 hi2 hy hq HK
          go_upto_region 16 with fail
          clear hcr
          refine wp_region_held_drew (S := (Below w.heap.size w)) (by kernel_rfl) ?_ (fun hHeld => ?_)
          · (try dsimp only)
            (first | assumption)
          generalize wr.drew = WR at *
          refine wpAnyH_take (i := 0) (oi := { dst := some 80, op := Go.Op.move (Go.Operand.tmp 7), type := 23, pos := "law.go:132", after := #[], guard := none }) (v := ?_) rfl (by kernel_rfl) (by kernel_rfl) (by kernel_rfl) (fun _ _ _ h => h) (Or.inl ⟨by rfl, ?_⟩) (by assumption) ?_
          rotate_left
          · intro wS hSw
            (try dsimp only at hSw)
            go_simp
            (try with_reducible rfl)
          (try simp only [Act.put, List.setIfInBounds_toArray, List.set_cons_zero, List.set_cons_succ])
          refine wpAnyH_take (i := 1) (oi := { dst := some 81, op := Go.Op.move (Go.Operand.tmp 1), type := 22, pos := "law.go:132", after := #[], guard := none }) (v := ?_) rfl (by kernel_rfl) (by kernel_rfl) (by kernel_rfl) (fun _ _ _ h => h) (Or.inl ⟨by rfl, ?_⟩) (by assumption) ?_
          rotate_left
          · intro wS hSw
            (try dsimp only at hSw)
            go_simp
            (try with_reducible rfl)
          (try simp only [Act.put, List.setIfInBounds_toArray, List.set_cons_zero, List.set_cons_succ])
          refine wpAnyH_take (i := 2) (oi := { dst := some 82, op := Go.Op.move (Go.Operand.tmp 11), type := 3, pos := "law.go:132", after := #[], guard := none }) (v := ?_) rfl (by kernel_rfl) (by kernel_rfl) (by kernel_rfl) (fun _ _ _ h => h) (Or.inl ⟨by rfl, ?_⟩) (by assumption) ?_
          rotate_left
          · intro wS hSw
            (try dsimp only at hSw)
            go_simp
            (try with_reducible rfl)
          (try simp only [Act.put, List.setIfInBounds_toArray, List.set_cons_zero, List.set_cons_succ])
          refine wpAnyH_take (i := 3) (oi := { dst := some 83, op := Go.Op.indexAddr 22 (Go.Operand.tmp 81) (Go.Operand.tmp 82), type := 0, pos := "law.go:132", after := #[{ on := 1, ground := Go.Ground.data }, { on := 2, ground := Go.Ground.data }], guard := none }) (v := ?_) rfl (by kernel_rfl) (by kernel_rfl) (by kernel_rfl) (fun _ _ _ h => h) (Or.inl ⟨by rfl, ?_⟩) (by assumption) ?_
          rotate_left
          · intro wS hSw
            (try dsimp only at hSw)
            go_simp
            (try with_reducible rfl)
          (try simp only [Act.put, List.setIfInBounds_toArray, List.set_cons_zero, List.set_cons_succ])
          refine wpAnyH_take (i := 4) (oi := { dst := some 84, op := Go.Op.load 5 (Go.Operand.tmp 83), type := 5, pos := "law.go:132", after := #[{ on := 3, ground := Go.Ground.data }], guard := none }) (v := ?_) rfl (by kernel_rfl) (by kernel_rfl) (by kernel_rfl) (fun _ _ _ h => h) (Or.inl ⟨by rfl, ?_⟩) (by assumption) ?_
          rotate_left
          · intro wS hSw
            have c0 := HC.out wS hSw
            go_simp
            (try with_reducible rfl)
          (try simp only [Act.put, List.setIfInBounds_toArray, List.set_cons_zero, List.set_cons_succ])
          refine wpAnyH_take (i := 5) (oi := { dst := some 85, op := Go.Op.convert 5 3 (Go.Operand.tmp 84), type := 3, pos := "law.go:132", after := #[{ on := 4, ground := Go.Ground.data }], guard := none }) (v := ?_) rfl (by kernel_rfl) (by kernel_rfl) (by kernel_rfl) (fun _ _ _ h => h) (Or.inl ⟨by rfl, ?_⟩) (by assumption) ?_
          rotate_left
          · intro wS hSw
            (try dsimp only at hSw)
            go_simp
            (try with_reducible rfl)
          (try simp only [Act.put, List.setIfInBounds_toArray, List.set_cons_zero, List.set_cons_succ])
          refine wpAnyH_take (i := 6) (oi := { dst := some 86, op := Go.Op.binOp Go.BinOp.rem 3 (Go.Operand.tmp 85) (Go.Operand.const (Go.Value.int Go.IntKind.i64 8)) 3, type := 3, pos := "law.go:132", after := #[{ on := 5, ground := Go.Ground.data }], guard := none }) (v := ?_) rfl (by kernel_rfl) (by kernel_rfl) (by kernel_rfl) (fun _ _ _ h => h) (Or.inl ⟨by rfl, ?_⟩) (by assumption) ?_
          rotate_left
          · intro wS hSw
            (try dsimp only at hSw)
            go_simp
            (try with_reducible rfl)
          (try simp only [Act.put, List.setIfInBounds_toArray, List.set_cons_zero, List.set_cons_succ])
          refine wpAnyH_take (i := 7) (oi := { dst := some 87, op := Go.Op.move (Go.Operand.tmp 11), type := 3, pos := "law.go:132", after := #[], guard := none }) (v := ?_) rfl (by kernel_rfl) (by kernel_rfl) (by kernel_rfl) (fun _ _ _ h => h) (Or.inl ⟨by rfl, ?_⟩) (by assumption) ?_
          rotate_left
          · intro wS hSw
            (try dsimp only at hSw)
            go_simp
            (try with_reducible rfl)
          (try simp only [Act.put, List.setIfInBounds_toArray, List.set_cons_zero, List.set_cons_succ])
          refine wpAnyH_take (i := 8) (oi := { dst := some 88, op := Go.Op.binOp Go.BinOp.add 3 (Go.Operand.const (Go.Value.int Go.IntKind.i64 100)) (Go.Operand.tmp 87) 3, type := 3, pos := "law.go:132", after := #[{ on := 7, ground := Go.Ground.data }], guard := none }) (v := ?_) rfl (by kernel_rfl) (by kernel_rfl) (by kernel_rfl) (fun _ _ _ h => h) (Or.inl ⟨by rfl, ?_⟩) (by assumption) ?_
          rotate_left
          · intro wS hSw
            (try dsimp only at hSw)
            go_simp
            (try with_reducible rfl)
          (try simp only [Act.put, List.setIfInBounds_toArray, List.set_cons_zero, List.set_cons_succ])
          refine wpAnyH_take (i := 9) (oi := { dst := some 89, op := Go.Op.convert 3 5 (Go.Operand.tmp 88), type := 5, pos := "law.go:132", after := #[{ on := 8, ground := Go.Ground.data }], guard := none }) (v := ?_) rfl (by kernel_rfl) (by kernel_rfl) (by kernel_rfl) (fun _ _ _ h => h) (Or.inl ⟨by rfl, ?_⟩) (by assumption) ?_
          rotate_left
          · intro wS hSw
            (try dsimp only at hSw)
            go_simp
            (try with_reducible rfl)
          (try simp only [Act.put, List.setIfInBounds_toArray, List.set_cons_zero, List.set_cons_succ])
          refine wpAnyH_ready (rs := [10]) (by kernel_rfl) (by simp) ?_
          refine AllReadyH.cons (o := { dst := some 90, op := Go.Op.buildSlice 22 1 #[(0, Go.Operand.tmp 89)], type := 22, pos := "law.go:132", after := #[{ on := 9, ground := Go.Ground.data }], guard := none }) rfl (fun K hK => ?_) AllReadyH.nil
          go_simp
          (obtain ⟨W1, hW1⟩ : ∃ q, WR.alloc (.cells #[.int .u8 (y : Int)] 5) = q := ⟨_, rfl⟩; rw [hW1]; have hb1 : Below WR.heap.size WR W1 := (by rw [← hW1]; exact (Below.refl _ _).alloc (Nat.le_refl _) _); have hK1 : Blk W1 WR.heap.size #[.int .u8 (y : Int)] 5 := (by rw [← hW1]; exact Blk.new _ _ _); have HBY : Hid (Bytes W1 (some ⟨WR.heap.size, 0, none⟩) 1 (fun _ => y)) := Lib.hid (fun k hk => ⟨HI.out.2.2.2.1, WR.heap.size, 0, rfl, by rw [show k = 0 by omega, Blk.cell hK1]; rfl⟩); have hS1 : Below w.heap.size w W1 := hS0.trans (hb1.mono hS0.size); clear hW1 hK1; skip)
          (try go_wp2_with fail)
          refine hK.out _ _ ?_ (fun hHeld => ?_)
          · (try dsimp only)
            (first | assumption)
          clear hK K
          (try simp only [Act.put, List.setIfInBounds_toArray, List.set_cons_zero, List.set_cons_succ])
          refine wpAnyH_ready (rs := [11]) (by kernel_rfl) (by simp) ?_
          refine AllReadyH.cons (o := { dst := some 91, op := Go.Op.call { callee := Go.Callee.value (Go.Operand.func 11), args := #[Go.Operand.tmp 90], argTypes := #[22] }, type := 22, pos := "law.go:132", after := #[{ on := 10, ground := Go.Ground.data }], guard := none }) rfl (fun K hK => ?_) AllReadyH.nil
          go_simp
          (refine (sector_any (some ⟨WR.heap.size, 0, none⟩) 1 1 (fun _ => y) W1 HBY.out (by decide)).mono ?_; rintro e V2 ⟨rfl, hr2, hb2⟩; have R2 := Lib.hid hr2; have hb3 : Below WR.heap.size WR V2 := hb1.trans (hb2.mono hb1.size); have HP2 := Lib.hid (show WR.heap.size ≤ W1.heap.size from hb1.size); have HXV := Lib.hid (HX.out.later hb3); have HRV := Lib.hid (HRW.out.later hb3); have hS2 := HXV.out.2; clear hr2 hb2 HBY hb1; skip)
          (try go_wp2_with fail)
          refine hK.out _ _ ?_ (fun hHeld => ?_)
          · (try dsimp only)
            (first | assumption)
          clear hK K
          (try simp only [Act.put, List.setIfInBounds_toArray, List.set_cons_zero, List.set_cons_succ])
          refine wpAnyH_ready (rs := [12]) (by kernel_rfl) (by simp) ?_
          refine AllReadyH.cons (o := { dst := some 92, op := Go.Op.call { callee := Go.Callee.value (Go.Operand.func 10), args := #[Go.Operand.tmp 80, Go.Operand.tmp 86, Go.Operand.tmp 91], argTypes := #[23, 3, 22] }, type := 25, pos := "law.go:132", after := #[{ on := 0, ground := Go.Ground.data }, { on := 6, ground := Go.Ground.data }, { on := 11, ground := Go.Ground.data }, { on := 11, ground := Go.Ground.chain }], guard := none }) rfl (fun K hK => ?_) AllReadyH.nil
          go_simp
          (refine (write_KI HX.out HXV.out HKF.out HKG.out HRV.out HP2.out HI.out.2.2.2.2.1 HI.out.2.2.2.2.2 R2.out HI.out.2.2.2.1).mono ?_; rintro e A2 ⟨rfl, hd2⟩; have D2 := Lib.hid hd2; have hS3 := D2.out.below; clear hd2 hb3; skip)
          (try go_wp2_with fail)
          refine hK.out _ _ ?_ (fun hHeld => ?_)
          · (try dsimp only)
            (first | assumption)
          clear hK K
          (try simp only [Act.put, List.setIfInBounds_toArray, List.set_cons_zero, List.set_cons_succ])
          refine wpAnyH_take (i := 13) (oi := { dst := some 93, op := Go.Op.binOp Go.BinOp.neq 25 (Go.Operand.tmp 92) (Go.Operand.const Go.Value.nilIface) 25, type := 4, pos := "law.go:132", after := #[{ on := 12, ground := Go.Ground.data }], guard := none }) (v := ?_) rfl (by kernel_rfl) (by kernel_rfl) (by kernel_rfl) (fun _ _ _ h => h) (Or.inl ⟨by rfl, ?_⟩) (by assumption) ?_
          rotate_left
          · intro wS hSw
            (try dsimp only at hSw)
            go_simp
            (try with_reducible rfl)
          (try simp only [Act.put, List.setIfInBounds_toArray, List.set_cons_zero, List.set_cons_succ])
          refine wpAnyH_done (by kernel_rfl) ?_ _
          by_cases hk2 : j < nk
          · obtain ⟨bk, offk, rfl, hck⟩ := HBK.out j hk2
            have hck2 : A2.cell? ⟨bk, offk + j, none⟩ = some (.bool (fk j)) := cell_below hS3 hck
            have m1 : (j : Int) < (nk : Int) := by omega
            have m2 : decide ((j : Int) < (nk : Int)) = true := decide_eq_true m1
            have m3 : decide (j < nk) = true := decide_eq_true hk2
            have HM3 := Lib.hid m3
            clear hk2 hck
            cases hf : fk j with
            | true =>
              rw [hf] at hck2
              have hcr : A2.cell? ⟨b, off + j, none⟩ = some (.int .u8 (x : Int)) := HC.out A2 hS3
              have hst := D2.out.store HGW.out q y
              rw [if_pos (show keepP nk fk j = true by unfold keepP; rw [m3, hf]; decide), HI.out.2.1] at hst
              have fr : A2.frozen? ⟨gw, q, none⟩ = false := Blk.free D2.out.row _
              have cc : A2.cell? ⟨gw, q, none⟩ = some (.int .u8 (W q : Nat)) := Row.cell D2.out.row HI.out.2.2.2.2.1
              have HST := Lib.hid hst
              clear hst hS3 HX HXV HRV HRW HKF HKG R2 hf D2
              go_wp2_with fail
              go_roundw
              case rel =>
                refine ⟨i2, by have := HI.out; omega, rfl, upd W q y, fun t ht => ?_, HST.out⟩
                unfold upd; split
                · exact HI.out.2.2.2.1
                · exact HT8.out t ht
              case measure => have := HI.out; simp [intOf]; omega
            | false =>
              rw [hf] at hck2
              have h9 := D2.out
              rw [if_neg (show ¬ keepP nk fk j = true by unfold keepP; rw [m3, hf]; decide), HI.out.2.1] at h9
              have H9 := Lib.hid h9
              clear h9 hS3 HX HXV HRV HRW HKF HKG R2 D2
              go_wp2_with fail
              go_roundw
              case rel => exact ⟨i2, by have := HI.out; omega, rfl, W, HT8.out, H9.out⟩
              case measure => have := HI.out; simp [intOf]; omega
          · have m1 : ¬ (j : Int) < (nk : Int) := by omega
            have m2 : decide ((j : Int) < (nk : Int)) = false := decide_eq_false m1
            have m3 : decide (j < nk) = false := decide_eq_false hk2
            clear hk2
            have h9 := D2.out
            rw [if_neg (show ¬ keepP nk fk j = true by unfold keepP; rw [m3, Bool.false_and]; decide), HI.out.2.1] at h9
            have H9 := Lib.hid h9
            clear h9 hS3 HX HXV HRV HRW HKF HKG R2 D2
            go_wp2_with fail
            go_roundw
            case rel => exact ⟨i2, by have := HI.out; omega, rfl, W, HT8.out, H9.out⟩
            case measure => have := HI.out; simp [intOf]; omega
        · obtain rfl : j = n2 := by omega
          have i1 : ¬ (j : Int) < (j : Int) := by omega
          clear hlt hj
          go_wp2_with fail
          refine (waits_KI HK.out).mono ?_
          rintro e A3 ⟨rfl, rfl⟩
          go_wp2_with fail
          refine (crash_KI (kp := allK) HK.out HBK.out HLK.out).mono ?_
          rintro e A3 ⟨⟨y, rfl⟩, hk⟩
          have HK3 := Lib.hid hk
          clear hk HK
          go_wp2_with fail
          go_loopw [12, 13, 14] (fun x y z wr => ∃ t : Nat, t ≤ 8 ∧ x = .int .i64 (t : Int) ∧ KI w d sb gw allK 0 W W wr) (fun x _ _ _ => 8 - (intOf x).toNat)
          case atStart => exact ⟨0, Nat.zero_le _, rfl, HK3.out⟩
          case round =>
            clear HK3
            obtain ⟨t, ht, rfl, hK⟩ := hrel
            have HK := Lib.hid hK
            clear hK
            by_cases hlt : t < 8
            · as_aux_lemma =>
              have i1 : (t : Int) < 8 := by omega
              have i0 : (0 : Int) ≤ (t : Int) := by omega
              obtain ⟨t2, ht2⟩ : ∃ y, t + 1 = y := ⟨_, rfl⟩
              have k4 : IntKind.i64.wrap ((t : Int) + 1) = (t2 : Int) := by rw [IntWalk.i64_in _ (by omega)]; omega
              obtain ⟨y, hy⟩ : ∃ y, W t = y := ⟨_, rfl⟩
              have HI := Lib.hid (show t < 8 ∧ t + 1 = t2 ∧ W t = y ∧ y < 256 from ⟨hlt, ht2, hy, by rw [← hy]; exact HT8.out t hlt⟩)
              clear hlt ht ht2 hy
              go_wp2_with fail
              refine (read_KI HK.out HI.out.1).mono ?_
              rintro e A4 ⟨od, cq, rfl, hbr, hno, hb⟩
              rw [HI.out.2.2.1] at hbr
              have HK4 := Lib.hid (HK.out.later hb)
              have HBR := Lib.hid hbr
              have HNO := Lib.hid hno
              have HRW := Lib.hid (show Row A4.drew gw 8 W from HK4.out.row)
              have HK5 := Lib.hid (show KI w d sb gw allK 0 W W A4.drew from HK4.out.later (Below.refl _ A4).drew)
              have hS0 : Below A4.drew.heap.size A4.drew A4.drew := Below.refl _ _
              have HC : Hid (∀ A', Below A4.drew.heap.size A4.drew A' → A'.cell? ⟨gw, t, none⟩ = some (.int .u8 (y : Int))) := Lib.hid fun A' hA => by
                rw [← HI.out.2.2.1]; exact Row.cell (HRW.out.later hA) HI.out.1
              have HCV : Hid (∀ A', Below A4.drew.heap.size A4.drew A' → (convert 22 9 (.slice od 64 cq)).run Tryd.prog A' = .ok (.string (strF 64 (secF 1 fun _ => y))) A') := Lib.hid fun A' hA => conv_any (Bytes.later (show Bytes A4.drew od 64 (secF 1 fun _ => y) from fun k hk => HBR.out k hk) hA) (fun e => absurd (HNO.out e) (by decide))
              clear hbr hno hb HK HBR HNO HK4
              go_upto_region 27 with fail
              refine wp_region_held_drew (S := (Below A4.drew.heap.size A4.drew)) (by kernel_rfl) ?_ (fun hHeld => ?_)
              · (try dsimp only)
                (first | assumption)
              generalize A4.drew = WR at *
              refine wpAnyH_take (i := 0) (oi := { dst := some 132, op := Go.Op.move (Go.Operand.tmp 14), type := 25, pos := "law.go:145", after := #[], guard := none }) (v := ?_) rfl (by kernel_rfl) (by kernel_rfl) (by kernel_rfl) (fun _ _ _ h => h) (Or.inl ⟨by rfl, ?_⟩) (by assumption) ?_
              rotate_left
              · intro wS hSw
                (try dsimp only at hSw)
                go_simp
                (try with_reducible rfl)
              (try simp only [Act.put, List.setIfInBounds_toArray, List.set_cons_zero, List.set_cons_succ])
              refine wpAnyH_take (i := 1) (oi := { dst := some 133, op := Go.Op.binOp Go.BinOp.neq 25 (Go.Operand.tmp 132) (Go.Operand.const Go.Value.nilIface) 25, type := 4, pos := "law.go:145", after := #[{ on := 0, ground := Go.Ground.data }], guard := none }) (v := ?_) rfl (by kernel_rfl) (by kernel_rfl) (by kernel_rfl) (fun _ _ _ h => h) (Or.inl ⟨by rfl, ?_⟩) (by assumption) ?_
              rotate_left
              · intro wS hSw
                (try dsimp only at hSw)
                go_simp
                (try with_reducible rfl)
              (try simp only [Act.put, List.setIfInBounds_toArray, List.set_cons_zero, List.set_cons_succ])
              refine wpAnyH_take (i := 2) (oi := { dst := some 134, op := Go.Op.move (Go.Operand.tmp 133), type := 4, pos := "law.go:145", after := #[{ on := 1, ground := Go.Ground.data }], guard := none }) (v := ?_) rfl (by kernel_rfl) (by kernel_rfl) (by kernel_rfl) (fun _ _ _ h => h) (Or.inl ⟨by rfl, ?_⟩) (by assumption) ?_
              rotate_left
              · intro wS hSw
                (try dsimp only at hSw)
                go_simp
                (try with_reducible rfl)
              (try simp only [Act.put, List.setIfInBounds_toArray, List.set_cons_zero, List.set_cons_succ])
              refine wpAnyH_take (i := 3) (oi := { dst := some 135, op := Go.Op.move (Go.Operand.tmp 13), type := 22, pos := "law.go:145", after := #[{ on := 2, ground := Go.Ground.guard }], guard := some (2, false) }) (v := ?_) rfl (by kernel_rfl) (by kernel_rfl) (by kernel_rfl) (fun _ _ _ h => h) (Or.inl ⟨by rfl, ?_⟩) (by assumption) ?_
              rotate_left
              · intro wS hSw
                (try dsimp only at hSw)
                go_simp
                (try with_reducible rfl)
              (try simp only [Act.put, List.setIfInBounds_toArray, List.set_cons_zero, List.set_cons_succ])
              refine wpAnyH_take (i := 4) (oi := { dst := some 136, op := Go.Op.convert 22 9 (Go.Operand.tmp 135), type := 9, pos := "law.go:145", after := #[{ on := 3, ground := Go.Ground.data }, { on := 2, ground := Go.Ground.guard }], guard := some (2, false) }) (v := ?_) rfl (by kernel_rfl) (by kernel_rfl) (by kernel_rfl) (fun _ _ _ h => h) (Or.inl ⟨by rfl, ?_⟩) (by assumption) ?_
              rotate_left
              · intro wS hSw
                refine exec_convO (x := .tmp 135) ?_ ?_ (HCV.out wS hSw) <;> rfl
              (try simp only [Act.put, List.setIfInBounds_toArray, List.set_cons_zero, List.set_cons_succ])
              refine wpAnyH_take (i := 5) (oi := { dst := some 137, op := Go.Op.move (Go.Operand.tmp 9), type := 22, pos := "law.go:145", after := #[{ on := 2, ground := Go.Ground.guard }], guard := some (2, false) }) (v := ?_) rfl (by kernel_rfl) (by kernel_rfl) (by kernel_rfl) (fun _ _ _ h => h) (Or.inl ⟨by rfl, ?_⟩) (by assumption) ?_
              rotate_left
              · intro wS hSw
                (try dsimp only at hSw)
                go_simp
                (try with_reducible rfl)
              (try simp only [Act.put, List.setIfInBounds_toArray, List.set_cons_zero, List.set_cons_succ])
              refine wpAnyH_take (i := 6) (oi := { dst := some 138, op := Go.Op.move (Go.Operand.tmp 12), type := 3, pos := "law.go:145", after := #[{ on := 2, ground := Go.Ground.guard }], guard := some (2, false) }) (v := ?_) rfl (by kernel_rfl) (by kernel_rfl) (by kernel_rfl) (fun _ _ _ h => h) (Or.inl ⟨by rfl, ?_⟩) (by assumption) ?_
              rotate_left
              · intro wS hSw
                (try dsimp only at hSw)
                go_simp
                (try with_reducible rfl)
              (try simp only [Act.put, List.setIfInBounds_toArray, List.set_cons_zero, List.set_cons_succ])
              refine wpAnyH_take (i := 7) (oi := { dst := some 139, op := Go.Op.indexAddr 22 (Go.Operand.tmp 137) (Go.Operand.tmp 138), type := 0, pos := "law.go:145", after := #[{ on := 5, ground := Go.Ground.data }, { on := 6, ground := Go.Ground.data }, { on := 2, ground := Go.Ground.guard }], guard := some (2, false) }) (v := ?_) rfl (by kernel_rfl) (by kernel_rfl) (by kernel_rfl) (fun _ _ _ h => h) (Or.inl ⟨by rfl, ?_⟩) (by assumption) ?_
              rotate_left
              · intro wS hSw
                (try dsimp only at hSw)
                go_simp
                (try with_reducible rfl)
              (try simp only [Act.put, List.setIfInBounds_toArray, List.set_cons_zero, List.set_cons_succ])
              refine wpAnyH_take (i := 8) (oi := { dst := some 140, op := Go.Op.load 5 (Go.Operand.tmp 139), type := 5, pos := "law.go:145", after := #[{ on := 7, ground := Go.Ground.data }, { on := 2, ground := Go.Ground.guard }], guard := some (2, false) }) (v := ?_) rfl (by kernel_rfl) (by kernel_rfl) (by kernel_rfl) (fun _ _ _ h => h) (Or.inl ⟨by rfl, ?_⟩) (by assumption) ?_
              rotate_left
              · intro wS hSw
                have c0 := HC.out wS hSw
                go_simp
                (try with_reducible rfl)
              (try simp only [Act.put, List.setIfInBounds_toArray, List.set_cons_zero, List.set_cons_succ])
              refine wpAnyH_ready (rs := [9]) (by kernel_rfl) (by simp) ?_
              refine AllReadyH.cons (o := { dst := some 141, op := Go.Op.buildSlice 22 1 #[(0, Go.Operand.tmp 140)], type := 22, pos := "law.go:145", after := #[{ on := 8, ground := Go.Ground.data }, { on := 2, ground := Go.Ground.guard }], guard := some (2, false) }) rfl (fun K hK => ?_) AllReadyH.nil
              go_simp
              (obtain ⟨W1, hW1⟩ : ∃ q, WR.alloc (.cells #[.int .u8 (y : Int)] 5) = q := ⟨_, rfl⟩; rw [hW1]; have hb1 : Below WR.heap.size WR W1 := (by rw [← hW1]; exact (Below.refl _ _).alloc (Nat.le_refl _) _); have hK1 : Blk W1 WR.heap.size #[.int .u8 (y : Int)] 5 := (by rw [← hW1]; exact Blk.new _ _ _); have HBY : Hid (Bytes W1 (some ⟨WR.heap.size, 0, none⟩) 1 (fun _ => y)) := Lib.hid (fun k hk => ⟨HI.out.2.2.2, WR.heap.size, 0, rfl, by rw [show k = 0 by omega, Blk.cell hK1]; rfl⟩); clear hW1 hK1; skip)
              (try go_wp2_with fail)
              refine hK.out _ _ ?_ (fun hHeld => ?_)
              · (try dsimp only)
                (first | assumption)
              clear hK K
              (try simp only [Act.put, List.setIfInBounds_toArray, List.set_cons_zero, List.set_cons_succ])
              refine wpAnyH_ready (rs := [10]) (by kernel_rfl) (by simp) ?_
              refine AllReadyH.cons (o := { dst := some 142, op := Go.Op.call { callee := Go.Callee.value (Go.Operand.func 11), args := #[Go.Operand.tmp 141], argTypes := #[22] }, type := 22, pos := "law.go:145", after := #[{ on := 9, ground := Go.Ground.data }, { on := 2, ground := Go.Ground.chain }, { on := 2, ground := Go.Ground.guard }], guard := some (2, false) }) rfl (fun K hK => ?_) AllReadyH.nil
              go_simp
              (refine (sector_any (some ⟨WR.heap.size, 0, none⟩) 1 1 (fun _ => y) W1 HBY.out (by decide)).mono ?_; rintro e V2 ⟨rfl, hr2, hb2⟩; have R2 := Lib.hid hr2; have hb3 : Below WR.heap.size WR V2 := hb1.trans (hb2.mono hb1.size); have HKV := Lib.hid (HK5.out.later hb3); clear hr2 hb2 HBY hb1; skip)
              (try go_wp2_with fail)
              refine hK.out _ _ ?_ (fun hHeld => ?_)
              · (try dsimp only)
                (first | assumption)
              clear hK K
              (try simp only [Act.put, List.setIfInBounds_toArray, List.set_cons_zero, List.set_cons_succ])
              refine wpAnyH_ready (rs := [11]) (by kernel_rfl) (by simp) ?_
              refine AllReadyH.cons (o := { dst := some 143, op := Go.Op.convert 22 9 (Go.Operand.tmp 142), type := 9, pos := "law.go:145", after := #[{ on := 10, ground := Go.Ground.data }, { on := 2, ground := Go.Ground.guard }], guard := some (2, false) }) rfl (fun K hK => ?_) AllReadyH.nil
              (refine step_valueG (by rfl) (exec_convO (x := .tmp 142) rfl rfl (conv_any (R2.out.bytes (secF_lt fun _ _ => HI.out.2.2.2)) (fun e => by cases e))) ?_; skip)
              refine hK.out _ _ ?_ (fun hHeld => ?_)
              · (try dsimp only)
                (first | assumption)
              clear hK K
              (try simp only [Act.put, List.setIfInBounds_toArray, List.set_cons_zero, List.set_cons_succ])
              refine wpAnyH_take (i := 12) (oi := { dst := some 144, op := Go.Op.binOp Go.BinOp.neq 9 (Go.Operand.tmp 136) (Go.Operand.tmp 143) 9, type := 4, pos := "law.go:145", after := #[{ on := 4, ground := Go.Ground.data }, { on := 11, ground := Go.Ground.data }, { on := 2, ground := Go.Ground.guard }], guard := some (2, false) }) (v := ?_) rfl (by kernel_rfl) (by kernel_rfl) (by kernel_rfl) (fun _ _ _ h => h) (Or.inl ⟨by rfl, ?_⟩) (by assumption) ?_
              rotate_left
              · intro wS hSw
                (try dsimp only at hSw)
                go_simp
                (try with_reducible rfl)
              (try simp only [Act.put, List.setIfInBounds_toArray, List.set_cons_zero, List.set_cons_succ])
              refine wpAnyH_take (i := 13) (oi := { dst := some 145, op := Go.Op.pick (Go.Operand.tmp 134) (Go.Operand.const (Go.Value.bool true)) (Go.Operand.tmp 144), type := 4, pos := "law.go:145", after := #[{ on := 2, ground := Go.Ground.data }, { on := 12, ground := Go.Ground.data }], guard := none }) (v := ?_) rfl (by kernel_rfl) (by kernel_rfl) (by kernel_rfl) (fun _ _ _ h => h) (Or.inl ⟨by rfl, ?_⟩) (by assumption) ?_
              rotate_left
              · intro wS hSw
                (try dsimp only at hSw)
                go_simp
                (try with_reducible rfl)
              (try simp only [Act.put, List.setIfInBounds_toArray, List.set_cons_zero, List.set_cons_succ])
              refine wpAnyH_done (by kernel_rfl) ?_ _
              clear HCV HC HRW R2 HK5
              go_wp2_with fail
              go_roundw
              case rel => exact ⟨t2, by have := HI.out; omega, rfl, HKV.out⟩
              case measure => have := HI.out; simp [intOf]; omega
            · obtain rfl : t = 8 := by omega
              have i1 : ¬ ((8 : Nat) : Int) < 8 := by omega
              clear hlt ht
              go_wp2_with fail
              refine (waits_KI HK.out).mono ?_
              rintro e A4 ⟨rfl, rfl⟩
              go_wp2_with fail
              refine (down_KI HK.out).mono ?_
              rintro e A4 ⟨rfl, rfl⟩
              go_wp2_with fail
              refine (sure13 _ (HG.out.below HK.out.below HG.out.2)).mono ?_
              rintro e A5 ⟨rfl, hb⟩
              have hb2 := Lib.hid (HK.out.below.trans (hb.mono HK.out.below.size))
              clear hb
              go_wp2_with fail
              go_ret
              exact ⟨rfl, hb2.out⟩
end Go.Proofs.YtcohllhmfghlfaaDoor
