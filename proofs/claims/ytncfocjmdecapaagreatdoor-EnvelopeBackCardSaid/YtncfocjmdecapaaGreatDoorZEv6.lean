/- EnvelopeBack: what was sealed is opened; a bit of the tag, turned. -/
import Derived.Deep.RegionHeld3
import Derived.Test.YtncfocjmdecapaaGreatDoorZB0
import Derived.Test.YtncfocjmdecapaaGreatDoorZS1
import Derived.Test.YtncfocjmdecapaaGreatDoorZS2
import Derived.Test.YtncfocjmdecapaaGreatDoorZSh4
import Derived.Test.YtncfocjmdecapaaGreatDoorZA0
import Derived.Test.YtncfocjmdecapaaGreatDoorZS5
import Derived.Test.YtncfocjmdecapaaGreatDoorZSh7
import Derived.Test.YtncfocjmdecapaaGreatDoorZS8
import Derived.Test.YtncfocjmdecapaaGreatDoorZHm2
import Derived.Test.YtncfocjmdecapaaGreatDoorZAs
import Derived.Test.YtncfocjmdecapaaGreatDoorZR0
import Derived.Test.YtncfocjmdecapaaGreatDoorZK0
import Derived.Test.YtncfocjmdecapaaGreatDoorZK1
import Derived.Test.YtncfocjmdecapaaGreatDoorZK4
import Derived.Test.YtncfocjmdecapaaGreatDoorZKr5
import Derived.Test.YtncfocjmdecapaaGreatDoorZF1
import Derived.Test.YtncfocjmdecapaaGreatDoorZF2
import Derived.Test.YtncfocjmdecapaaGreatDoorZB16
import Derived.Test.YtncfocjmdecapaaGreatDoorZAe1
import Derived.Test.YtncfocjmdecapaaGreatDoorZAe2
import Derived.Test.YtncfocjmdecapaaGreatDoorZAe4
import Derived.Test.YtncfocjmdecapaaGreatDoorZAe5
import Derived.Test.YtncfocjmdecapaaGreatDoorZQ0
import Derived.Test.YtncfocjmdecapaaGreatDoorZC0
import Derived.Test.YtncfocjmdecapaaGreatDoorZC2
import Derived.Test.YtncfocjmdecapaaGreatDoorZGc5
import Derived.Test.YtncfocjmdecapaaGreatDoorZV1
import Derived.Test.YtncfocjmdecapaaGreatDoorZK6
import Derived.Test.YtncfocjmdecapaaGreatDoorZEv2
import Derived.Test.YtncfocjmdecapaaGreatDoorZEv3
import Derived.Test.YtncfocjmdecapaaGreatDoorZEv4
import Derived.Test.YtncfocjmdecapaaGreatDoorZEv5
namespace Go.Proofs.YtncfocjmdecapaaGreatDoor
set_option linter.unusedVariables false
set_option linter.unusedSimpArgs false
open Go.RowKit
theorem w64_small (k : Nat) (h : k < 1000) : wrap64 (k : Int) = (k : Int) := IntWalk.wrap64_in _ (by omega)
theorem u64_small (k : Nat) (h : k < 1000) : IntKind.u64.wrap (k : Int) = (k : Int) := IntWalk.u64_in _ (by omega)
theorem tdiv8 (r : Nat) : (r : Int).tdiv 8 = ((r / 8 : Nat) : Int) := (Int.ofNat_tdiv r 8).symm
theorem tmod8 (r : Nat) : (r : Int).tmod 8 = ((r % 8 : Nat) : Int) := (Int.ofNat_tmod r 8).symm
theorem flip_u8 (sh : Nat) (hs : sh < 8) (V : Nat) (hv : V < 256) : ∃ Y : Nat, Y < 256 ∧ Y ≠ V ∧ bits .xor .u8 (V : Int) (((2 : Int) ^ sh) % 256) = (Y : Int) := by
  have hp2 : ((2 : Int) ^ sh) % 256 = ((2 ^ sh : Nat) : Int) := by
    rcases (by omega : sh = 0 ∨ sh = 1 ∨ sh = 2 ∨ sh = 3 ∨ sh = 4 ∨ sh = 5 ∨ sh = 6 ∨ sh = 7) with h | h | h | h | h | h | h | h <;> subst h <;> decide
  have hpl : 2 ^ sh < 256 ∧ 2 ^ sh ≠ 0 := by
    rcases (by omega : sh = 0 ∨ sh = 1 ∨ sh = 2 ∨ sh = 3 ∨ sh = 4 ∨ sh = 5 ∨ sh = 6 ∨ sh = 7) with h | h | h | h | h | h | h | h <;> subst h <;> decide
  refine ⟨V ^^^ 2 ^ sh, xor_lt256 hv hpl.1, fun e => hpl.2 ?_, by rw [hp2]; exact u8_xor_nat _ _ hv hpl.1⟩
  have : V ^^^ (V ^^^ 2 ^ sh) = V ^^^ V := by rw [e]
  rw [← Nat.xor_assoc, Nat.xor_self, Nat.zero_xor] at this; exact this
theorem tm_rng {A : World} {b f n : Nat} {S : Nat → Nat} (h : A.rangeAt b f (tmL n S)) : A.rangeAt b (f + 1) (rowC 32 S).toArray.toList := fun j v hv => by
  rw [Nat.add_assoc, Nat.add_comm 1 j]
  exact h (j + 1) v (by unfold tmL; rw [List.getElem?_cons_succ]; simpa using hv)
set_option maxRecDepth 100000 in
set_option maxHeartbeats 16000000 in
theorem back_any (z : Int) (A R : Nat → Nat) (w : World) (hg : GH w) (hA : ∀ i, i < 32 → A i < 256) (hR : ∀ i, i < 32 → R i < 256) :
    Calls Tryz.prog 3 #[.agg (rowC 32 A).toArray, .agg (rowC 32 R).toArray, .int .i64 z] w fun e w' => e = .returned (.bool true) ∧ Below w.heap.size w w' := by
  obtain ⟨FA, hFA⟩ : ∃ q, (rowC 32 A).toArray = q := ⟨_, rfl⟩
  obtain ⟨FR, hFR⟩ : ∃ q, (rowC 32 R).toArray = q := ⟨_, rfl⟩
  rw [hFA, hFR]
  obtain ⟨b3, hb3⟩ : ∃ q, w.heap.size = q := ⟨_, rfl⟩
  obtain ⟨w0, hw0⟩ : ∃ q, w.alloc (.cells FA 22) = q := ⟨_, rfl⟩
  obtain ⟨b4, hb4⟩ : ∃ q, w0.heap.size = q := ⟨_, rfl⟩
  obtain ⟨w1, hw1⟩ : ∃ q, w0.alloc (.cells FR 22) = q := ⟨_, rfl⟩
  have hv0 : Below w.heap.size w w0 := by rw [← hw0]; exact (Below.refl _ _).alloc (Nat.le_refl _) _
  have hv1 : Below w0.heap.size w0 w1 := by rw [← hw1]; exact (Below.refl _ _).alloc (Nat.le_refl _) _
  have hB3 : Blk w0 b3 FA 22 := by rw [← hw0, ← hb3]; exact Blk.new _ _ _
  have hB4 : Blk w1 b4 FR 22 := by rw [← hw1, ← hb4]; exact Blk.new _ _ _
  have HFI : Hid (∀ w, Calls Tryz.prog 8 #[.agg FA] w fun e w' => ∃ g, e = .returned (.agg #[.slice (some ⟨g, 0, none⟩) 1 1]) ∧ TL w' (some ⟨g, 0, none⟩) 1 (fun _ => 1) (fun _ => A) ∧ Below w.heap.size w w') := Lib.hid fun w => by rw [← hFA]; exact first_any _ w
  have HIA : Hid ((Tryz.prog.info? 22).map (·.size) = some FA.size) := Lib.hid (by rw [← hFA, List.size_toArray, rowC_len]; exact info_a32)
  have HEQ : Hid (∀ w, (Op.equalIn 10000 22 (.agg FA) (.agg FA)).run Tryz.prog w = .ok true w) := Lib.hid fun w => by
    rw [← hFA]; have := eq32 A A w; rw [eqS_refl] at this; exact this
  have HFA := Lib.hid hFA
  have HB3 := Lib.hid (Blk.below hB3 hv1 (Blk.lt hB3))
  have HKA : Hid (Bytes w1 (some ⟨b3, 0, none⟩) 32 A) := Lib.hid (by have h9 := HB3.out; rw [← hFA] at h9; exact be_bytes h9 hA)
  have HKR : Hid (Bytes w1 (some ⟨b4, 0, none⟩) 32 R) := Lib.hid (by rw [← hFR] at hB4; exact be_bytes hB4 hR)
  have HW := Lib.hid (hv0.trans (hv1.mono hv0.size))
  have HAL := Lib.hid hA
  have HRL := Lib.hid hR
  have HG := Lib.hid hg
  have HLT : Hid (w.heap.size ≤ b3 ∧ b3 < b4) := Lib.hid ⟨Nat.le_of_eq hb3, by have := Blk.lt hB3; omega⟩
  obtain ⟨x, hx⟩ : ∃ x : Nat, z % 4294967296 = (x : Int) := ⟨(z % 4294967296).toNat, by omega⟩
  have hx1 : IntKind.u32.wrap z = (x : Int) := by rw [IntKind.wrap_u32]; exact hx
  have HX : Hid (x < 4294967296) := Lib.hid (by omega)
  obtain ⟨u, hu⟩ : ∃ u : Nat, IntKind.u64.wrap z = (u : Int) := Int.eq_ofNat_of_zero_le (by simp [IntKind.wrap, IntKind.bits, IntKind.signed]; exact Int.emod_nonneg _ (by decide))
  have HU := Lib.hid hu
  clear hv0 hv1 hB3 hB4 hA hR hg hFA hFR hx hu
  go_enter Tryz.func3, Tryz.ntmps3
  go_upto_region 2 with fail
  have hb : Below w1.heap.size w1 w1.drew := (Below.refl _ _).drew
  replace HW := Lib.hid (HW.out.trans (hb.mono HW.out.size))
  replace HKA := Lib.hid (HKA.out.later hb)
  replace HKR := Lib.hid (HKR.out.later hb)
  replace HB3 := Lib.hid (Blk.below HB3.out hb (Blk.lt HB3.out))
  clear hb
  refine wp_region_held_drew (S := (fun _ => True)) (by kernel_rfl) ?_ (fun hHeld => ?_)
  · (try dsimp only)
    (try trivial)
  generalize w1.drew = W0 at *
  refine wpAnyH_take (i := 0) (oi := { dst := some 24, op := Go.Op.slice 22 (Go.Operand.tmp 3) none none none, type := 24, pos := "law.go:85", after := #[], guard := none }) (v := ?_) rfl (by kernel_rfl) (by kernel_rfl) (by kernel_rfl) (fun _ _ _ h => h) (Or.inl ⟨by rfl, ?_⟩) (by assumption) ?_
  rotate_left
  · intro wS hSw
    (try dsimp only at hSw)
    go_simp
    (try with_reducible rfl)
  (try simp only [Act.put, List.setIfInBounds_toArray, List.set_cons_zero, List.set_cons_succ])
  refine wpAnyH_take (i := 1) (oi := { dst := some 25, op := Go.Op.slice 22 (Go.Operand.tmp 4) none none none, type := 24, pos := "law.go:85", after := #[], guard := none }) (v := ?_) rfl (by kernel_rfl) (by kernel_rfl) (by kernel_rfl) (fun _ _ _ h => h) (Or.inl ⟨by rfl, ?_⟩) (by assumption) ?_
  rotate_left
  · intro wS hSw
    (try dsimp only at hSw)
    go_simp
    (try with_reducible rfl)
  (try simp only [Act.put, List.setIfInBounds_toArray, List.set_cons_zero, List.set_cons_succ])
  refine wpAnyH_take (i := 2) (oi := { dst := some 26, op := Go.Op.move (Go.Operand.tmp 7), type := 23, pos := "law.go:85", after := #[], guard := none }) (v := ?_) rfl (by kernel_rfl) (by kernel_rfl) (by kernel_rfl) (fun _ _ _ h => h) (Or.inl ⟨by rfl, ?_⟩) (by assumption) ?_
  rotate_left
  · intro wS hSw
    (try dsimp only at hSw)
    go_simp
    (try with_reducible rfl)
  (try simp only [Act.put, List.setIfInBounds_toArray, List.set_cons_zero, List.set_cons_succ])
  refine wpAnyH_ready (rs := [3]) (by kernel_rfl) (by simp) ?_
  refine AllReadyH.cons (o := { dst := some 27, op := Go.Op.call { callee := Go.Callee.value (Go.Operand.func 5), args := #[Go.Operand.tmp 24, Go.Operand.tmp 25, Go.Operand.tmp 26], argTypes := #[24, 24, 23] }, type := 27, pos := "law.go:85", after := #[{ on := 0, ground := Go.Ground.data }, { on := 1, ground := Go.Ground.data }, { on := 2, ground := Go.Ground.data }], guard := none }) rfl (fun K hK => ?_) AllReadyH.nil
  go_simp
  (refine (eseal_any (some ⟨b3, 0, none⟩) (some ⟨b4, 0, none⟩) 32 32 x A R W0 HKA.out HKR.out (by decide) (by decide) (by unfold maxLen; omega) HX.out (HG.out.later HW.out).1).mono ?_; rintro e w2 ⟨v1, B1, rfl, hG1, hB1, hb⟩; have HG1 := Lib.hid (And.intro hG1 (And.intro hB1 hb)); clear hG1 hB1 hb; skip)
  (try go_wp2_with fail)
  refine hK.out _ _ ?_ (fun hHeld => ?_)
  · (try dsimp only)
    (try trivial)
  clear hK K
  (try simp only [Act.put, List.setIfInBounds_toArray, List.set_cons_zero, List.set_cons_succ])
  refine wpAnyH_take (i := 4) (oi := { dst := some 23, op := Go.Op.move (Go.Operand.tmp 27), type := 27, pos := "law.go:85", after := #[{ on := 3, ground := Go.Ground.data }], guard := none }) (v := ?_) rfl (by kernel_rfl) (by kernel_rfl) (by kernel_rfl) (fun _ _ _ h => h) (Or.inl ⟨by rfl, ?_⟩) (by assumption) ?_
  rotate_left
  · intro wS hSw
    (try dsimp only at hSw)
    go_simp
    (try with_reducible rfl)
  (try simp only [Act.put, List.setIfInBounds_toArray, List.set_cons_zero, List.set_cons_succ])
  refine wpAnyH_take (i := 5) (oi := { dst := some 28, op := Go.Op.extract (Go.Operand.tmp 23) 0, type := 24, pos := "law.go:85", after := #[{ on := 4, ground := Go.Ground.data }], guard := none }) (v := ?_) rfl (by kernel_rfl) (by kernel_rfl) (by kernel_rfl) (fun _ _ _ h => h) (Or.inl ⟨by rfl, ?_⟩) (by assumption) ?_
  rotate_left
  · intro wS hSw
    (try dsimp only at hSw)
    go_simp
    (try with_reducible rfl)
  (try simp only [Act.put, List.setIfInBounds_toArray, List.set_cons_zero, List.set_cons_succ])
  refine wpAnyH_take (i := 6) (oi := { dst := some 29, op := Go.Op.extract (Go.Operand.tmp 23) 1, type := 26, pos := "law.go:85", after := #[{ on := 4, ground := Go.Ground.data }, { on := 7, ground := Go.Ground.gcOnly Go.Departure.lateStores }], guard := none }) (v := ?_) rfl (by kernel_rfl) (by kernel_rfl) (by kernel_rfl) (fun _ _ _ h => h) (Or.inl ⟨by rfl, ?_⟩) (by assumption) ?_
  rotate_left
  · intro wS hSw
    (try dsimp only at hSw)
    go_simp
    (try with_reducible rfl)
  (try simp only [Act.put, List.setIfInBounds_toArray, List.set_cons_zero, List.set_cons_succ])
  refine wpAnyH_take (i := 7) (oi := { dst := some 8, op := Go.Op.assign (Go.Operand.tmp 28), type := 24, pos := "law.go:85", after := #[{ on := 5, ground := Go.Ground.data }, { on := 3, ground := Go.Ground.chain }, { on := 0, ground := Go.Ground.phase }, { on := 1, ground := Go.Ground.phase }, { on := 2, ground := Go.Ground.phase }, { on := 3, ground := Go.Ground.phase }, { on := 4, ground := Go.Ground.phase }, { on := 5, ground := Go.Ground.phase }, { on := 6, ground := Go.Ground.textOnly Go.Departure.lateStores }], guard := none }) (v := ?_) rfl (by kernel_rfl) (by kernel_rfl) (by kernel_rfl) (fun _ _ _ h => h) (Or.inl ⟨by rfl, ?_⟩) (by assumption) ?_
  rotate_left
  · intro wS hSw
    (try dsimp only at hSw)
    go_simp
    (try with_reducible rfl)
  (try simp only [Act.put, List.setIfInBounds_toArray, List.set_cons_zero, List.set_cons_succ])
  refine wpAnyH_take (i := 8) (oi := { dst := some 9, op := Go.Op.assign (Go.Operand.tmp 29), type := 26, pos := "law.go:85", after := #[{ on := 6, ground := Go.Ground.data }, { on := 7, ground := Go.Ground.chain }, { on := 0, ground := Go.Ground.phase }, { on := 1, ground := Go.Ground.phase }, { on := 2, ground := Go.Ground.phase }, { on := 3, ground := Go.Ground.phase }, { on := 4, ground := Go.Ground.phase }, { on := 5, ground := Go.Ground.phase }, { on := 6, ground := Go.Ground.phase }, { on := 7, ground := Go.Ground.phase }], guard := none }) (v := ?_) rfl (by kernel_rfl) (by kernel_rfl) (by kernel_rfl) (fun _ _ _ h => h) (Or.inl ⟨by rfl, ?_⟩) (by assumption) ?_
  rotate_left
  · intro wS hSw
    (try dsimp only at hSw)
    go_simp
    (try with_reducible rfl)
  (try simp only [Act.put, List.setIfInBounds_toArray, List.set_cons_zero, List.set_cons_succ])
  refine wpAnyH_done (by kernel_rfl) ?_ _
  have hb := HG1.out.2.2
  have HGE1 : Hid (W0.heap.size ≤ B1 ∧ b4 < W0.heap.size) := Lib.hid ⟨HG1.out.2.1, HKR.out.lt _ rfl (by decide)⟩
  have hsw := HW.out.size
  replace HW := Lib.hid (HW.out.trans (hb.mono HW.out.size))
  replace HKA := Lib.hid (HKA.out.later hb)
  replace HKR := Lib.hid (HKR.out.later hb)
  replace HB3 := Lib.hid (Blk.below HB3.out hb (Blk.lt HB3.out))
  obtain ⟨g1, p1, hv1, hge1, hQ1, hp1, hm1⟩ := HG1.out.1.someN (by decide) (ebF_lt HAL.out HRL.out HX.out)
  subst hv1
  have HGW1 := Lib.hid HG1.out.1
  have HP1 : Hid (48 ≤ p1 ∧ p1 ≤ maxLen ∧ b4 < g1 ∧ w.heap.size ≤ g1) := Lib.hid ⟨hp1, hm1, by have := HGE1.out; omega, by have := HGE1.out; omega⟩
  have HQ1 := Lib.hid hQ1
  clear hb hsw hge1 hQ1 hp1 hm1 HG1 HGE1
  go_wp2_with fail
  refine (eopen_any (some ⟨b3, 0, none⟩) g1 0 32 p1 x A (ebF A R x) w2 HKA.out HQ1.out (by decide) HP1.out.1 HP1.out.2.1 HX.out (HG.out.later HW.out).1).mono ?_
  rintro e w3 ⟨hb, ⟨_, v2, B2, rfl, hG2, _⟩ | ⟨hq, _⟩⟩
  rotate_left
  · exact absurd ((box_tag _ _ _ _ _ _).symm.trans hq) (by decide)
  replace HW := Lib.hid (HW.out.trans (hb.mono HW.out.size))
  replace HKA := Lib.hid (HKA.out.later hb)
  replace HKR := Lib.hid (HKR.out.later hb)
  replace HB3 := Lib.hid (Blk.below HB3.out hb (Blk.lt HB3.out))
  replace HGW1 := Lib.hid (HGW1.out.later hb)
  replace HQ1 := Lib.hid (HQ1.out.later hb)
  obtain ⟨g2, p2, rfl, -, hQ2, _, _⟩ := (hG2.congr (box_open _ _ _ _ _ _)).someN (by decide) HRL.out
  have HO2 := Lib.hid hQ2
  clear hG2 hQ2 hb
  go_upto_region 4 with fail
  have hb : Below w3.heap.size w3 w3.drew := (Below.refl _ _).drew
  replace HW := Lib.hid (HW.out.trans (hb.mono HW.out.size))
  replace HKA := Lib.hid (HKA.out.later hb)
  replace HKR := Lib.hid (HKR.out.later hb)
  replace HB3 := Lib.hid (Blk.below HB3.out hb (Blk.lt HB3.out))
  replace HGW1 := Lib.hid (HGW1.out.later hb)
  replace HQ1 := Lib.hid (HQ1.out.later hb)
  replace HO2 := Lib.hid (HO2.out.later hb)
  clear hb
  have hSW0 : w3.drew.rangeAt b3 0 FA.toList := HB3.out.rangeA
  refine wp_region_held_drew (S := (fun X => X.rangeAt b3 0 FA.toList)) (by kernel_rfl) ?_ (fun hHeld => ?_)
  · (try dsimp only)
    (first | assumption | (dsimp only; assumption))
  generalize w3.drew = W1 at *
  refine wpAnyH_take (i := 0) (oi := { dst := some 38, op := Go.Op.slice 22 (Go.Operand.tmp 4) none none none, type := 24, pos := "law.go:87", after := #[], guard := none }) (v := ?_) rfl (by kernel_rfl) (by kernel_rfl) (by kernel_rfl) (fun _ _ _ h => h) (Or.inl ⟨by rfl, ?_⟩) (by assumption) ?_
  rotate_left
  · intro wS hSw
    (try dsimp only at hSw)
    go_simp
    (try with_reducible rfl)
  (try simp only [Act.put, List.setIfInBounds_toArray, List.set_cons_zero, List.set_cons_succ])
  refine wpAnyH_take (i := 1) (oi := { dst := some 39, op := Go.Op.load 22 (Go.Operand.tmp 3), type := 22, pos := "law.go:87", after := #[], guard := none }) (v := ?_) rfl (by kernel_rfl) (by kernel_rfl) (by kernel_rfl) (fun _ _ _ h => h) (Or.inl ⟨by rfl, ?_⟩) (by assumption) ?_
  rotate_left
  · intro wS hSw
    (refine exec_loadA (x := .tmp 3) (C := FA) ?_ ?_ hSw Tryz.underlying22 rfl HIA.out <;> rfl)
  (try simp only [Act.put, List.setIfInBounds_toArray, List.set_cons_zero, List.set_cons_succ])
  refine wpAnyH_ready (rs := [2]) (by kernel_rfl) (by simp) ?_
  refine AllReadyH.cons (o := { dst := some 40, op := Go.Op.call { callee := Go.Callee.value (Go.Operand.func 8), args := #[Go.Operand.tmp 39], argTypes := #[22] }, type := 32, pos := "law.go:87", after := #[{ on := 1, ground := Go.Ground.data }], guard := none }) rfl (fun K hK => ?_) AllReadyH.nil
  go_simp
  (refine (HFI.out W1).mono ?_; rintro e w4 ⟨gt, rfl, hT4, hb⟩; have HT4 := Lib.hid hT4; have HB43 := Lib.hid hb; have hSW4 : w4.rangeAt b3 0 FA.toList := (Blk.below HB3.out hb (Blk.lt HB3.out)).rangeA; clear hT4 hb; skip)
  (try go_wp2_with fail)
  refine hK.out _ _ ?_ (fun hHeld => ?_)
  · (try dsimp only)
    (first | assumption | (dsimp only; assumption))
  clear hK K
  (try simp only [Act.put, List.setIfInBounds_toArray, List.set_cons_zero, List.set_cons_succ])
  refine wpAnyH_ready (rs := [3]) (by kernel_rfl) (by simp) ?_
  refine AllReadyH.cons (o := { dst := some 41, op := Go.Op.call { callee := Go.Callee.value (Go.Operand.func 7), args := #[Go.Operand.tmp 38, Go.Operand.tmp 40], argTypes := #[24, 32] }, type := 27, pos := "law.go:87", after := #[{ on := 0, ground := Go.Ground.data }, { on := 2, ground := Go.Ground.data }, { on := 2, ground := Go.Ground.chain }], guard := none }) rfl (fun K hK => ?_) AllReadyH.nil
  go_simp
  (refine (esealring_ok (some ⟨b4, 0, none⟩) (some ⟨gt, 0, none⟩) 32 1 1 R (fun _ => 1) (fun _ => A) w4 (HKR.out.later HB43.out) HT4.out ok1 (fun _ j _ hj => HAL.out j hj) (by decide) (HG.out.later (HW.out.trans (HB43.out.mono HW.out.size))).1).mono ?_; rintro e w5 ⟨v4, B4, rfl, hG4, hB4, hb⟩; have HG4 := Lib.hid (And.intro hG4 (And.intro hB4 hb)); have hSW5 : w5.rangeAt b3 0 FA.toList := (Blk.below HB3.out (HB43.out.trans (hb.mono HB43.out.size)) (Blk.lt HB3.out)).rangeA; clear hG4 hB4 hb; skip)
  (try go_wp2_with fail)
  refine hK.out _ _ ?_ (fun hHeld => ?_)
  · (try dsimp only)
    (first | assumption | (dsimp only; assumption))
  clear hK K
  (try simp only [Act.put, List.setIfInBounds_toArray, List.set_cons_zero, List.set_cons_succ])
  refine wpAnyH_take (i := 4) (oi := { dst := some 37, op := Go.Op.move (Go.Operand.tmp 41), type := 27, pos := "law.go:87", after := #[{ on := 3, ground := Go.Ground.data }], guard := none }) (v := ?_) rfl (by kernel_rfl) (by kernel_rfl) (by kernel_rfl) (fun _ _ _ h => h) (Or.inl ⟨by rfl, ?_⟩) (by assumption) ?_
  rotate_left
  · intro wS hSw
    (try dsimp only at hSw)
    go_simp
    (try with_reducible rfl)
  (try simp only [Act.put, List.setIfInBounds_toArray, List.set_cons_zero, List.set_cons_succ])
  refine wpAnyH_take (i := 5) (oi := { dst := some 42, op := Go.Op.extract (Go.Operand.tmp 37) 0, type := 24, pos := "law.go:87", after := #[{ on := 4, ground := Go.Ground.data }], guard := none }) (v := ?_) rfl (by kernel_rfl) (by kernel_rfl) (by kernel_rfl) (fun _ _ _ h => h) (Or.inl ⟨by rfl, ?_⟩) (by assumption) ?_
  rotate_left
  · intro wS hSw
    (try dsimp only at hSw)
    go_simp
    (try with_reducible rfl)
  (try simp only [Act.put, List.setIfInBounds_toArray, List.set_cons_zero, List.set_cons_succ])
  refine wpAnyH_take (i := 6) (oi := { dst := some 43, op := Go.Op.extract (Go.Operand.tmp 37) 1, type := 26, pos := "law.go:87", after := #[{ on := 4, ground := Go.Ground.data }, { on := 7, ground := Go.Ground.gcOnly Go.Departure.lateStores }], guard := none }) (v := ?_) rfl (by kernel_rfl) (by kernel_rfl) (by kernel_rfl) (fun _ _ _ h => h) (Or.inl ⟨by rfl, ?_⟩) (by assumption) ?_
  rotate_left
  · intro wS hSw
    (try dsimp only at hSw)
    go_simp
    (try with_reducible rfl)
  (try simp only [Act.put, List.setIfInBounds_toArray, List.set_cons_zero, List.set_cons_succ])
  refine wpAnyH_take (i := 7) (oi := { dst := some 12, op := Go.Op.assign (Go.Operand.tmp 42), type := 24, pos := "law.go:87", after := #[{ on := 5, ground := Go.Ground.data }, { on := 3, ground := Go.Ground.chain }, { on := 0, ground := Go.Ground.phase }, { on := 1, ground := Go.Ground.phase }, { on := 2, ground := Go.Ground.phase }, { on := 3, ground := Go.Ground.phase }, { on := 4, ground := Go.Ground.phase }, { on := 5, ground := Go.Ground.phase }, { on := 6, ground := Go.Ground.textOnly Go.Departure.lateStores }], guard := none }) (v := ?_) rfl (by kernel_rfl) (by kernel_rfl) (by kernel_rfl) (fun _ _ _ h => h) (Or.inl ⟨by rfl, ?_⟩) (by assumption) ?_
  rotate_left
  · intro wS hSw
    (try dsimp only at hSw)
    go_simp
    (try with_reducible rfl)
  (try simp only [Act.put, List.setIfInBounds_toArray, List.set_cons_zero, List.set_cons_succ])
  refine wpAnyH_take (i := 8) (oi := { dst := some 13, op := Go.Op.assign (Go.Operand.tmp 43), type := 26, pos := "law.go:87", after := #[{ on := 6, ground := Go.Ground.data }, { on := 7, ground := Go.Ground.chain }, { on := 0, ground := Go.Ground.phase }, { on := 1, ground := Go.Ground.phase }, { on := 2, ground := Go.Ground.phase }, { on := 3, ground := Go.Ground.phase }, { on := 4, ground := Go.Ground.phase }, { on := 5, ground := Go.Ground.phase }, { on := 6, ground := Go.Ground.phase }, { on := 7, ground := Go.Ground.phase }], guard := none }) (v := ?_) rfl (by kernel_rfl) (by kernel_rfl) (by kernel_rfl) (fun _ _ _ h => h) (Or.inl ⟨by rfl, ?_⟩) (by assumption) ?_
  rotate_left
  · intro wS hSw
    (try dsimp only at hSw)
    go_simp
    (try with_reducible rfl)
  (try simp only [Act.put, List.setIfInBounds_toArray, List.set_cons_zero, List.set_cons_succ])
  refine wpAnyH_done (by kernel_rfl) ?_ _
  have hb : Below W1.heap.size W1 w5 := HB43.out.trans (HG4.out.2.2.mono HB43.out.size)
  have HGE4 : Hid (W1.heap.size ≤ B4 ∧ g1 < W1.heap.size) := Lib.hid ⟨Nat.le_trans HB43.out.size HG4.out.2.1, HQ1.out.lt _ rfl (by decide)⟩
  replace HW := Lib.hid (HW.out.trans (hb.mono HW.out.size))
  replace HKA := Lib.hid (HKA.out.later hb)
  replace HKR := Lib.hid (HKR.out.later hb)
  replace HB3 := Lib.hid (Blk.below HB3.out hb (Blk.lt HB3.out))
  replace HGW1 := Lib.hid (HGW1.out.later hb)
  replace HQ1 := Lib.hid (HQ1.out.later hb)
  replace HO2 := Lib.hid (HO2.out.later hb)
  obtain ⟨g4, p4, hv4, hge4, hQ4, hp4, hm4⟩ := HG4.out.1.someN (by decide) (rbF_lt (by decide) (fun i hi => enc_lt (by decide) (fun _ j _ hj => HAL.out j hj) i hi))
  subst hv4
  have HGW4 := Lib.hid HG4.out.1
  have HP4 : Hid (63 ≤ p4 ∧ p4 ≤ maxLen ∧ g1 < g4) := Lib.hid ⟨hp4, hm4, by have := HGE4.out; omega⟩
  have HQ4 := Lib.hid hQ4
  clear hb hge4 hQ4 hp4 hm4 HG4 HGE4 HB43 HT4 hSW0 hSW4 hSW5
  go_wp2_with fail
  refine (openring_any (some ⟨b4, 0, none⟩) g4 0 32 63 p4 35 R (rbF R 35 (encF 1 (fun _ => A))) w5 HKR.out HQ4.out (by decide) rfl HP4.out.1 HP4.out.2.1 (by decide) (HG.out.later HW.out).1).mono ?_
  rintro e w6 ⟨hb, ⟨_, o5, p5, rfl, hT5⟩ | ⟨hno, _⟩⟩
  rotate_left
  · exact absurd ⟨rt_ok _ _ _, (enc_isring 1 (fun _ => A) (by decide)).congr (rd_ok _ _ _)⟩ hno
  replace HW := Lib.hid (HW.out.trans (hb.mono HW.out.size))
  replace HKA := Lib.hid (HKA.out.later hb)
  replace HKR := Lib.hid (HKR.out.later hb)
  replace HB3 := Lib.hid (Blk.below HB3.out hb (Blk.lt HB3.out))
  replace HGW1 := Lib.hid (HGW1.out.later hb)
  replace HQ1 := Lib.hid (HQ1.out.later hb)
  replace HO2 := Lib.hid (HO2.out.later hb)
  replace HGW4 := Lib.hid (HGW4.out.later hb)
  replace HQ4 := Lib.hid (HQ4.out.later hb)
  have hD2 : rdF R (rbF R 35 (encF 1 (fun _ => A))) 2 = 1 := (rd_ok R 35 (encF 1 (fun _ => A)) 2 (by decide)).trans rfl
  rw [hD2] at hT5 ⊢
  have hT6 := hT5.congr32 (U := fun _ => A) (fun i j hi hj => by obtain rfl : i = 0 := (by omega); show rdF R (rbF R 35 (encF 1 (fun _ => A))) (3 + 32 * 0 + j) = A j; rw [rd_ok _ _ _ _ (by omega)]; exact enc_key j hj)
  have HT6 := Lib.hid hT6
  clear hT5 hT6 hb hD2
  obtain ⟨b14, hq14⟩ : ∃ q, w6.heap.size = q := ⟨_, rfl⟩
  obtain ⟨w7, hw7⟩ : ∃ q, w6.alloc (.cells #[.slice o5 1 p5] 32) = q := ⟨_, rfl⟩
  have hb : Below w6.heap.size w6 w7 := by rw [← hw7]; exact (Below.refl _ _).alloc (Nat.le_refl _) _
  have h9 : Blk w7 b14 #[.slice o5 1 p5] 32 := by rw [← hw7, ← hq14]; exact Blk.new _ _ _
  replace HW := Lib.hid (HW.out.trans (hb.mono HW.out.size))
  replace HKA := Lib.hid (HKA.out.later hb)
  replace HKR := Lib.hid (HKR.out.later hb)
  replace HB3 := Lib.hid (Blk.below HB3.out hb (Blk.lt HB3.out))
  replace HGW1 := Lib.hid (HGW1.out.later hb)
  replace HQ1 := Lib.hid (HQ1.out.later hb)
  replace HO2 := Lib.hid (HO2.out.later hb)
  replace HGW4 := Lib.hid (HGW4.out.later hb)
  replace HQ4 := Lib.hid (HQ4.out.later hb)
  replace HT6 := Lib.hid (HT6.out.later hb)
  have HB14 := Lib.hid h9
  clear hb h9
  go_upto_region 6 with fail
  clear hw7 hq14
  have hb : Below w7.heap.size w7 w7.drew := (Below.refl _ _).drew
  replace HW := Lib.hid (HW.out.trans (hb.mono HW.out.size))
  replace HKA := Lib.hid (HKA.out.later hb)
  replace HKR := Lib.hid (HKR.out.later hb)
  replace HB3 := Lib.hid (Blk.below HB3.out hb (Blk.lt HB3.out))
  replace HGW1 := Lib.hid (HGW1.out.later hb)
  replace HQ1 := Lib.hid (HQ1.out.later hb)
  replace HO2 := Lib.hid (HO2.out.later hb)
  replace HGW4 := Lib.hid (HGW4.out.later hb)
  replace HQ4 := Lib.hid (HQ4.out.later hb)
  replace HT6 := Lib.hid (HT6.out.later hb)
  replace HB14 := Lib.hid (Blk.below HB14.out hb (Blk.lt HB14.out))
  clear hb
  obtain ⟨bt, ft, et, hrt⟩ := HT6.out 0 (by decide)
  subst et
  have hSW6 : Bytes w7.drew (some ⟨g2, 0, none⟩) 32 R ∧ Bytes w7.drew (some ⟨b4, 0, none⟩) 32 R ∧ w7.drew.cell? ⟨b14, 0, none⟩ = some (.slice (some ⟨bt, ft, none⟩) 1 p5) ∧ w7.drew.rangeAt bt (ft + 1) FA.toList ∧ w7.drew.rangeAt b3 0 FA.toList := ⟨HO2.out, HKR.out, by rw [Blk.cell HB14.out]; rfl, by rw [← HFA.out]; rw [Nat.zero_mul, Nat.add_zero] at hrt; exact tm_rng hrt, HB3.out.rangeA⟩
  clear hrt
  refine wp_region_held_drew (S := (fun X => Bytes X (some ⟨g2, 0, none⟩) 32 R ∧ Bytes X (some ⟨b4, 0, none⟩) 32 R ∧ X.cell? ⟨b14, 0, none⟩ = some (.slice (some ⟨bt, ft, none⟩) 1 p5) ∧ X.rangeAt bt (ft + 1) FA.toList ∧ X.rangeAt b3 0 FA.toList)) (by kernel_rfl) ?_ (fun hHeld => ?_)
  · (try dsimp only)
    (first | assumption | (dsimp only; assumption))
  refine wpAnyH_take (i := 0) (oi := { dst := some 50, op := Go.Op.move (Go.Operand.tmp 9), type := 26, pos := "law.go:89", after := #[], guard := none }) (v := ?_) rfl (by kernel_rfl) (by kernel_rfl) (by kernel_rfl) (fun _ _ _ h => h) (Or.inl ⟨by rfl, ?_⟩) (by assumption) ?_
  rotate_left
  · intro wS hSw
    (try dsimp only at hSw)
    go_simp
    (try with_reducible rfl)
  (try simp only [Act.put, List.setIfInBounds_toArray, List.set_cons_zero, List.set_cons_succ])
  refine wpAnyH_take (i := 1) (oi := { dst := some 51, op := Go.Op.binOp Go.BinOp.neq 26 (Go.Operand.tmp 50) (Go.Operand.const Go.Value.nilIface) 26, type := 4, pos := "law.go:89", after := #[{ on := 0, ground := Go.Ground.data }], guard := none }) (v := ?_) rfl (by kernel_rfl) (by kernel_rfl) (by kernel_rfl) (fun _ _ _ h => h) (Or.inl ⟨by rfl, ?_⟩) (by assumption) ?_
  rotate_left
  · intro wS hSw
    (try dsimp only at hSw)
    go_simp
    (try with_reducible rfl)
  (try simp only [Act.put, List.setIfInBounds_toArray, List.set_cons_zero, List.set_cons_succ])
  refine wpAnyH_take (i := 2) (oi := { dst := some 52, op := Go.Op.move (Go.Operand.tmp 51), type := 4, pos := "law.go:89", after := #[{ on := 1, ground := Go.Ground.data }], guard := none }) (v := ?_) rfl (by kernel_rfl) (by kernel_rfl) (by kernel_rfl) (fun _ _ _ h => h) (Or.inl ⟨by rfl, ?_⟩) (by assumption) ?_
  rotate_left
  · intro wS hSw
    (try dsimp only at hSw)
    go_simp
    (try with_reducible rfl)
  (try simp only [Act.put, List.setIfInBounds_toArray, List.set_cons_zero, List.set_cons_succ])
  refine wpAnyH_take (i := 3) (oi := { dst := some 53, op := Go.Op.move (Go.Operand.tmp 11), type := 26, pos := "law.go:89", after := #[{ on := 2, ground := Go.Ground.guard }], guard := some (2, false) }) (v := ?_) rfl (by kernel_rfl) (by kernel_rfl) (by kernel_rfl) (fun _ _ _ h => h) (Or.inl ⟨by rfl, ?_⟩) (by assumption) ?_
  rotate_left
  · intro wS hSw
    (try dsimp only at hSw)
    go_simp
    (try with_reducible rfl)
  (try simp only [Act.put, List.setIfInBounds_toArray, List.set_cons_zero, List.set_cons_succ])
  refine wpAnyH_take (i := 4) (oi := { dst := some 54, op := Go.Op.binOp Go.BinOp.neq 26 (Go.Operand.tmp 53) (Go.Operand.const Go.Value.nilIface) 26, type := 4, pos := "law.go:89", after := #[{ on := 3, ground := Go.Ground.data }, { on := 2, ground := Go.Ground.guard }], guard := some (2, false) }) (v := ?_) rfl (by kernel_rfl) (by kernel_rfl) (by kernel_rfl) (fun _ _ _ h => h) (Or.inl ⟨by rfl, ?_⟩) (by assumption) ?_
  rotate_left
  · intro wS hSw
    (try dsimp only at hSw)
    go_simp
    (try with_reducible rfl)
  (try simp only [Act.put, List.setIfInBounds_toArray, List.set_cons_zero, List.set_cons_succ])
  refine wpAnyH_take (i := 5) (oi := { dst := some 55, op := Go.Op.pick (Go.Operand.tmp 52) (Go.Operand.const (Go.Value.bool true)) (Go.Operand.tmp 54), type := 4, pos := "law.go:89", after := #[{ on := 2, ground := Go.Ground.data }, { on := 4, ground := Go.Ground.data }], guard := none }) (v := ?_) rfl (by kernel_rfl) (by kernel_rfl) (by kernel_rfl) (fun _ _ _ h => h) (Or.inl ⟨by rfl, ?_⟩) (by assumption) ?_
  rotate_left
  · intro wS hSw
    (try dsimp only at hSw)
    go_simp
    (try with_reducible rfl)
  (try simp only [Act.put, List.setIfInBounds_toArray, List.set_cons_zero, List.set_cons_succ])
  refine wpAnyH_take (i := 6) (oi := { dst := some 56, op := Go.Op.move (Go.Operand.tmp 55), type := 4, pos := "law.go:89", after := #[{ on := 5, ground := Go.Ground.data }, { on := 2, ground := Go.Ground.chain }], guard := none }) (v := ?_) rfl (by kernel_rfl) (by kernel_rfl) (by kernel_rfl) (fun _ _ _ h => h) (Or.inl ⟨by rfl, ?_⟩) (by assumption) ?_
  rotate_left
  · intro wS hSw
    (try dsimp only at hSw)
    go_simp
    (try with_reducible rfl)
  (try simp only [Act.put, List.setIfInBounds_toArray, List.set_cons_zero, List.set_cons_succ])
  refine wpAnyH_take (i := 7) (oi := { dst := some 57, op := Go.Op.move (Go.Operand.tmp 13), type := 26, pos := "law.go:89", after := #[{ on := 6, ground := Go.Ground.guard }], guard := some (6, false) }) (v := ?_) rfl (by kernel_rfl) (by kernel_rfl) (by kernel_rfl) (fun _ _ _ h => h) (Or.inl ⟨by rfl, ?_⟩) (by assumption) ?_
  rotate_left
  · intro wS hSw
    (try dsimp only at hSw)
    go_simp
    (try with_reducible rfl)
  (try simp only [Act.put, List.setIfInBounds_toArray, List.set_cons_zero, List.set_cons_succ])
  refine wpAnyH_take (i := 8) (oi := { dst := some 58, op := Go.Op.binOp Go.BinOp.neq 26 (Go.Operand.tmp 57) (Go.Operand.const Go.Value.nilIface) 26, type := 4, pos := "law.go:89", after := #[{ on := 7, ground := Go.Ground.data }, { on := 6, ground := Go.Ground.guard }], guard := some (6, false) }) (v := ?_) rfl (by kernel_rfl) (by kernel_rfl) (by kernel_rfl) (fun _ _ _ h => h) (Or.inl ⟨by rfl, ?_⟩) (by assumption) ?_
  rotate_left
  · intro wS hSw
    (try dsimp only at hSw)
    go_simp
    (try with_reducible rfl)
  (try simp only [Act.put, List.setIfInBounds_toArray, List.set_cons_zero, List.set_cons_succ])
  refine wpAnyH_take (i := 9) (oi := { dst := some 59, op := Go.Op.pick (Go.Operand.tmp 56) (Go.Operand.const (Go.Value.bool true)) (Go.Operand.tmp 58), type := 4, pos := "law.go:89", after := #[{ on := 6, ground := Go.Ground.data }, { on := 8, ground := Go.Ground.data }], guard := none }) (v := ?_) rfl (by kernel_rfl) (by kernel_rfl) (by kernel_rfl) (fun _ _ _ h => h) (Or.inl ⟨by rfl, ?_⟩) (by assumption) ?_
  rotate_left
  · intro wS hSw
    (try dsimp only at hSw)
    go_simp
    (try with_reducible rfl)
  (try simp only [Act.put, List.setIfInBounds_toArray, List.set_cons_zero, List.set_cons_succ])
  refine wpAnyH_take (i := 10) (oi := { dst := some 60, op := Go.Op.move (Go.Operand.tmp 59), type := 4, pos := "law.go:89", after := #[{ on := 9, ground := Go.Ground.data }, { on := 6, ground := Go.Ground.chain }], guard := none }) (v := ?_) rfl (by kernel_rfl) (by kernel_rfl) (by kernel_rfl) (fun _ _ _ h => h) (Or.inl ⟨by rfl, ?_⟩) (by assumption) ?_
  rotate_left
  · intro wS hSw
    (try dsimp only at hSw)
    go_simp
    (try with_reducible rfl)
  (try simp only [Act.put, List.setIfInBounds_toArray, List.set_cons_zero, List.set_cons_succ])
  refine wpAnyH_take (i := 11) (oi := { dst := some 61, op := Go.Op.move (Go.Operand.tmp 15), type := 26, pos := "law.go:89", after := #[{ on := 10, ground := Go.Ground.guard }], guard := some (10, false) }) (v := ?_) rfl (by kernel_rfl) (by kernel_rfl) (by kernel_rfl) (fun _ _ _ h => h) (Or.inl ⟨by rfl, ?_⟩) (by assumption) ?_
  rotate_left
  · intro wS hSw
    (try dsimp only at hSw)
    go_simp
    (try with_reducible rfl)
  (try simp only [Act.put, List.setIfInBounds_toArray, List.set_cons_zero, List.set_cons_succ])
  refine wpAnyH_take (i := 12) (oi := { dst := some 62, op := Go.Op.binOp Go.BinOp.neq 26 (Go.Operand.tmp 61) (Go.Operand.const Go.Value.nilIface) 26, type := 4, pos := "law.go:89", after := #[{ on := 11, ground := Go.Ground.data }, { on := 10, ground := Go.Ground.guard }], guard := some (10, false) }) (v := ?_) rfl (by kernel_rfl) (by kernel_rfl) (by kernel_rfl) (fun _ _ _ h => h) (Or.inl ⟨by rfl, ?_⟩) (by assumption) ?_
  rotate_left
  · intro wS hSw
    (try dsimp only at hSw)
    go_simp
    (try with_reducible rfl)
  (try simp only [Act.put, List.setIfInBounds_toArray, List.set_cons_zero, List.set_cons_succ])
  refine wpAnyH_take (i := 13) (oi := { dst := some 63, op := Go.Op.pick (Go.Operand.tmp 60) (Go.Operand.const (Go.Value.bool true)) (Go.Operand.tmp 62), type := 4, pos := "law.go:89", after := #[{ on := 10, ground := Go.Ground.data }, { on := 12, ground := Go.Ground.data }], guard := none }) (v := ?_) rfl (by kernel_rfl) (by kernel_rfl) (by kernel_rfl) (fun _ _ _ h => h) (Or.inl ⟨by rfl, ?_⟩) (by assumption) ?_
  rotate_left
  · intro wS hSw
    (try dsimp only at hSw)
    go_simp
    (try with_reducible rfl)
  (try simp only [Act.put, List.setIfInBounds_toArray, List.set_cons_zero, List.set_cons_succ])
  refine wpAnyH_take (i := 14) (oi := { dst := some 64, op := Go.Op.move (Go.Operand.tmp 63), type := 4, pos := "law.go:89", after := #[{ on := 13, ground := Go.Ground.data }, { on := 10, ground := Go.Ground.chain }], guard := none }) (v := ?_) rfl (by kernel_rfl) (by kernel_rfl) (by kernel_rfl) (fun _ _ _ h => h) (Or.inl ⟨by rfl, ?_⟩) (by assumption) ?_
  rotate_left
  · intro wS hSw
    (try dsimp only at hSw)
    go_simp
    (try with_reducible rfl)
  (try simp only [Act.put, List.setIfInBounds_toArray, List.set_cons_zero, List.set_cons_succ])
  refine wpAnyH_take (i := 15) (oi := { dst := some 65, op := Go.Op.move (Go.Operand.tmp 10), type := 24, pos := "law.go:89", after := #[{ on := 14, ground := Go.Ground.guard }], guard := some (14, false) }) (v := ?_) rfl (by kernel_rfl) (by kernel_rfl) (by kernel_rfl) (fun _ _ _ h => h) (Or.inl ⟨by rfl, ?_⟩) (by assumption) ?_
  rotate_left
  · intro wS hSw
    (try dsimp only at hSw)
    go_simp
    (try with_reducible rfl)
  (try simp only [Act.put, List.setIfInBounds_toArray, List.set_cons_zero, List.set_cons_succ])
  refine wpAnyH_take (i := 16) (oi := { dst := some 66, op := Go.Op.convert 24 9 (Go.Operand.tmp 65), type := 9, pos := "law.go:89", after := #[{ on := 15, ground := Go.Ground.data }, { on := 14, ground := Go.Ground.guard }], guard := some (14, false) }) (v := ?_) rfl (by kernel_rfl) (by kernel_rfl) (by kernel_rfl) (fun _ _ _ h => h) (Or.inl ⟨by rfl, ?_⟩) (by assumption) ?_
  rotate_left
  · intro wS hSw
    (refine exec_convO (x := .tmp 65) (cap := p2) ?_ ?_ (conv_any (cap := p2) hSw.1 (fun e => by cases e)) <;> rfl)
  (try simp only [Act.put, List.setIfInBounds_toArray, List.set_cons_zero, List.set_cons_succ])
  refine wpAnyH_take (i := 17) (oi := { dst := some 67, op := Go.Op.slice 22 (Go.Operand.tmp 4) none none none, type := 24, pos := "law.go:89", after := #[{ on := 14, ground := Go.Ground.guard }], guard := some (14, false) }) (v := ?_) rfl (by kernel_rfl) (by kernel_rfl) (by kernel_rfl) (fun _ _ _ h => h) (Or.inl ⟨by rfl, ?_⟩) (by assumption) ?_
  rotate_left
  · intro wS hSw
    (try dsimp only at hSw)
    go_simp
    (try with_reducible rfl)
  (try simp only [Act.put, List.setIfInBounds_toArray, List.set_cons_zero, List.set_cons_succ])
  refine wpAnyH_take (i := 18) (oi := { dst := some 68, op := Go.Op.convert 24 9 (Go.Operand.tmp 67), type := 9, pos := "law.go:89", after := #[{ on := 17, ground := Go.Ground.data }, { on := 14, ground := Go.Ground.guard }], guard := some (14, false) }) (v := ?_) rfl (by kernel_rfl) (by kernel_rfl) (by kernel_rfl) (fun _ _ _ h => h) (Or.inl ⟨by rfl, ?_⟩) (by assumption) ?_
  rotate_left
  · intro wS hSw
    (refine exec_convO (x := .tmp 67) (cap := 32) ?_ ?_ (conv_any (cap := 32) hSw.2.1 (fun e => by cases e)) <;> rfl)
  (try simp only [Act.put, List.setIfInBounds_toArray, List.set_cons_zero, List.set_cons_succ])
  refine wpAnyH_take (i := 19) (oi := { dst := some 69, op := Go.Op.binOp Go.BinOp.neq 9 (Go.Operand.tmp 66) (Go.Operand.tmp 68) 9, type := 4, pos := "law.go:89", after := #[{ on := 16, ground := Go.Ground.data }, { on := 18, ground := Go.Ground.data }, { on := 14, ground := Go.Ground.guard }], guard := some (14, false) }) (v := ?_) rfl (by kernel_rfl) (by kernel_rfl) (by kernel_rfl) (fun _ _ _ h => h) (Or.inl ⟨by rfl, ?_⟩) (by assumption) ?_
  rotate_left
  · intro wS hSw
    (try dsimp only at hSw)
    go_simp
    (try with_reducible rfl)
  (try simp only [Act.put, List.setIfInBounds_toArray, List.set_cons_zero, List.set_cons_succ])
  refine wpAnyH_take (i := 20) (oi := { dst := some 70, op := Go.Op.pick (Go.Operand.tmp 64) (Go.Operand.const (Go.Value.bool true)) (Go.Operand.tmp 69), type := 4, pos := "law.go:89", after := #[{ on := 14, ground := Go.Ground.data }, { on := 19, ground := Go.Ground.data }], guard := none }) (v := ?_) rfl (by kernel_rfl) (by kernel_rfl) (by kernel_rfl) (fun _ _ _ h => h) (Or.inl ⟨by rfl, ?_⟩) (by assumption) ?_
  rotate_left
  · intro wS hSw
    (try dsimp only at hSw)
    go_simp
    (try with_reducible rfl)
  (try simp only [Act.put, List.setIfInBounds_toArray, List.set_cons_zero, List.set_cons_succ])
  refine wpAnyH_take (i := 21) (oi := { dst := some 71, op := Go.Op.move (Go.Operand.tmp 70), type := 4, pos := "law.go:89", after := #[{ on := 20, ground := Go.Ground.data }, { on := 14, ground := Go.Ground.chain }], guard := none }) (v := ?_) rfl (by kernel_rfl) (by kernel_rfl) (by kernel_rfl) (fun _ _ _ h => h) (Or.inl ⟨by rfl, ?_⟩) (by assumption) ?_
  rotate_left
  · intro wS hSw
    (try dsimp only at hSw)
    go_simp
    (try with_reducible rfl)
  (try simp only [Act.put, List.setIfInBounds_toArray, List.set_cons_zero, List.set_cons_succ])
  refine wpAnyH_take (i := 22) (oi := { dst := some 72, op := Go.Op.fieldAddr 32 (Go.Operand.tmp 14) 0, type := 0, pos := "law.go:89", after := #[{ on := 21, ground := Go.Ground.guard }], guard := some (21, false) }) (v := ?_) rfl (by kernel_rfl) (by kernel_rfl) (by kernel_rfl) (fun _ _ _ h => h) (Or.inl ⟨by rfl, ?_⟩) (by assumption) ?_
  rotate_left
  · intro wS hSw
    (try dsimp only at hSw)
    go_simp
    (try with_reducible rfl)
  (try simp only [Act.put, List.setIfInBounds_toArray, List.set_cons_zero, List.set_cons_succ])
  refine wpAnyH_take (i := 23) (oi := { dst := some 73, op := Go.Op.load 30 (Go.Operand.tmp 72), type := 30, pos := "law.go:89", after := #[{ on := 22, ground := Go.Ground.data }, { on := 21, ground := Go.Ground.guard }], guard := some (21, false) }) (v := ?_) rfl (by kernel_rfl) (by kernel_rfl) (by kernel_rfl) (fun _ _ _ h => h) (Or.inl ⟨by rfl, ?_⟩) (by assumption) ?_
  rotate_left
  · intro wS hSw
    (have c := hSw.2.2.1; go_simp; (try with_reducible rfl))
  (try simp only [Act.put, List.setIfInBounds_toArray, List.set_cons_zero, List.set_cons_succ])
  refine wpAnyH_take (i := 24) (oi := { dst := some 74, op := Go.Op.call { callee := Go.Callee.builtin Go.Builtin.len, args := #[Go.Operand.tmp 73], argTypes := #[30] }, type := 3, pos := "law.go:89", after := #[{ on := 23, ground := Go.Ground.data }, { on := 21, ground := Go.Ground.guard }], guard := some (21, false) }) (v := ?_) rfl (by kernel_rfl) (by kernel_rfl) (by kernel_rfl) (fun _ _ _ h => h) (Or.inl ⟨by rfl, ?_⟩) (by assumption) ?_
  rotate_left
  · intro wS hSw
    (try dsimp only at hSw)
    go_simp
    (try with_reducible rfl)
  (try simp only [Act.put, List.setIfInBounds_toArray, List.set_cons_zero, List.set_cons_succ])
  refine wpAnyH_take (i := 25) (oi := { dst := some 75, op := Go.Op.binOp Go.BinOp.neq 3 (Go.Operand.tmp 74) (Go.Operand.const (Go.Value.int Go.IntKind.i64 1)) 3, type := 4, pos := "law.go:89", after := #[{ on := 24, ground := Go.Ground.data }, { on := 21, ground := Go.Ground.guard }], guard := some (21, false) }) (v := ?_) rfl (by kernel_rfl) (by kernel_rfl) (by kernel_rfl) (fun _ _ _ h => h) (Or.inl ⟨by rfl, ?_⟩) (by assumption) ?_
  rotate_left
  · intro wS hSw
    (try dsimp only at hSw)
    go_simp
    (try with_reducible rfl)
  (try simp only [Act.put, List.setIfInBounds_toArray, List.set_cons_zero, List.set_cons_succ])
  refine wpAnyH_take (i := 26) (oi := { dst := some 76, op := Go.Op.pick (Go.Operand.tmp 71) (Go.Operand.const (Go.Value.bool true)) (Go.Operand.tmp 75), type := 4, pos := "law.go:89", after := #[{ on := 21, ground := Go.Ground.data }, { on := 25, ground := Go.Ground.data }], guard := none }) (v := ?_) rfl (by kernel_rfl) (by kernel_rfl) (by kernel_rfl) (fun _ _ _ h => h) (Or.inl ⟨by rfl, ?_⟩) (by assumption) ?_
  rotate_left
  · intro wS hSw
    (try dsimp only at hSw)
    go_simp
    (try with_reducible rfl)
  (try simp only [Act.put, List.setIfInBounds_toArray, List.set_cons_zero, List.set_cons_succ])
  refine wpAnyH_take (i := 27) (oi := { dst := some 77, op := Go.Op.move (Go.Operand.tmp 76), type := 4, pos := "law.go:89", after := #[{ on := 26, ground := Go.Ground.data }, { on := 21, ground := Go.Ground.chain }], guard := none }) (v := ?_) rfl (by kernel_rfl) (by kernel_rfl) (by kernel_rfl) (fun _ _ _ h => h) (Or.inl ⟨by rfl, ?_⟩) (by assumption) ?_
  rotate_left
  · intro wS hSw
    (try dsimp only at hSw)
    go_simp
    (try with_reducible rfl)
  (try simp only [Act.put, List.setIfInBounds_toArray, List.set_cons_zero, List.set_cons_succ])
  refine wpAnyH_take (i := 28) (oi := { dst := some 78, op := Go.Op.fieldAddr 32 (Go.Operand.tmp 14) 0, type := 0, pos := "law.go:89", after := #[{ on := 27, ground := Go.Ground.guard }], guard := some (27, false) }) (v := ?_) rfl (by kernel_rfl) (by kernel_rfl) (by kernel_rfl) (fun _ _ _ h => h) (Or.inl ⟨by rfl, ?_⟩) (by assumption) ?_
  rotate_left
  · intro wS hSw
    (try dsimp only at hSw)
    go_simp
    (try with_reducible rfl)
  (try simp only [Act.put, List.setIfInBounds_toArray, List.set_cons_zero, List.set_cons_succ])
  refine wpAnyH_take (i := 29) (oi := { dst := some 79, op := Go.Op.load 30 (Go.Operand.tmp 78), type := 30, pos := "law.go:89", after := #[{ on := 28, ground := Go.Ground.data }, { on := 27, ground := Go.Ground.guard }], guard := some (27, false) }) (v := ?_) rfl (by kernel_rfl) (by kernel_rfl) (by kernel_rfl) (fun _ _ _ h => h) (Or.inl ⟨by rfl, ?_⟩) (by assumption) ?_
  rotate_left
  · intro wS hSw
    (have c := hSw.2.2.1; go_simp; (try with_reducible rfl))
  (try simp only [Act.put, List.setIfInBounds_toArray, List.set_cons_zero, List.set_cons_succ])
  refine wpAnyH_take (i := 30) (oi := { dst := some 80, op := Go.Op.indexAddr 30 (Go.Operand.tmp 79) (Go.Operand.const (Go.Value.int Go.IntKind.i64 0)), type := 0, pos := "law.go:89", after := #[{ on := 29, ground := Go.Ground.data }, { on := 27, ground := Go.Ground.guard }], guard := some (27, false) }) (v := ?_) rfl (by kernel_rfl) (by kernel_rfl) (by kernel_rfl) (fun _ _ _ h => h) (Or.inl ⟨by rfl, ?_⟩) (by assumption) ?_
  rotate_left
  · intro wS hSw
    (try dsimp only at hSw)
    go_simp
    (try with_reducible rfl)
  (try simp only [Act.put, List.setIfInBounds_toArray, List.set_cons_zero, List.set_cons_succ])
  refine wpAnyH_take (i := 31) (oi := { dst := some 81, op := Go.Op.fieldAddr 37 (Go.Operand.tmp 80) 1, type := 0, pos := "law.go:89", after := #[{ on := 30, ground := Go.Ground.data }, { on := 27, ground := Go.Ground.guard }], guard := some (27, false) }) (v := ?_) rfl (by kernel_rfl) (by kernel_rfl) (by kernel_rfl) (fun _ _ _ h => h) (Or.inl ⟨by rfl, ?_⟩) (by assumption) ?_
  rotate_left
  · intro wS hSw
    (try dsimp only at hSw)
    go_simp
    (try with_reducible rfl)
  (try simp only [Act.put, List.setIfInBounds_toArray, List.set_cons_zero, List.set_cons_succ])
  refine wpAnyH_take (i := 32) (oi := { dst := some 82, op := Go.Op.load 22 (Go.Operand.tmp 81), type := 22, pos := "law.go:89", after := #[{ on := 31, ground := Go.Ground.data }, { on := 27, ground := Go.Ground.guard }], guard := some (27, false) }) (v := ?_) rfl (by kernel_rfl) (by kernel_rfl) (by kernel_rfl) (fun _ _ _ h => h) (Or.inl ⟨by rfl, ?_⟩) (by assumption) ?_
  rotate_left
  · intro wS hSw
    (refine exec_loadA (x := .tmp 81) (C := FA) ?_ ?_ hSw.2.2.2.1 Tryz.underlying22 rfl HIA.out <;> rfl)
  (try simp only [Act.put, List.setIfInBounds_toArray, List.set_cons_zero, List.set_cons_succ])
  refine wpAnyH_take (i := 33) (oi := { dst := some 83, op := Go.Op.load 22 (Go.Operand.tmp 3), type := 22, pos := "law.go:89", after := #[{ on := 27, ground := Go.Ground.guard }], guard := some (27, false) }) (v := ?_) rfl (by kernel_rfl) (by kernel_rfl) (by kernel_rfl) (fun _ _ _ h => h) (Or.inl ⟨by rfl, ?_⟩) (by assumption) ?_
  rotate_left
  · intro wS hSw
    (refine exec_loadA (x := .tmp 3) (C := FA) ?_ ?_ hSw.2.2.2.2 Tryz.underlying22 rfl HIA.out <;> rfl)
  (try simp only [Act.put, List.setIfInBounds_toArray, List.set_cons_zero, List.set_cons_succ])
  refine wpAnyH_take (i := 34) (oi := { dst := some 84, op := Go.Op.binOp Go.BinOp.neq 22 (Go.Operand.tmp 82) (Go.Operand.tmp 83) 22, type := 4, pos := "law.go:89", after := #[{ on := 32, ground := Go.Ground.data }, { on := 33, ground := Go.Ground.data }, { on := 27, ground := Go.Ground.guard }], guard := some (27, false) }) (v := ?_) rfl (by kernel_rfl) (by kernel_rfl) (by kernel_rfl) (fun _ _ _ h => h) (Or.inl ⟨by rfl, ?_⟩) (by assumption) ?_
  rotate_left
  · intro wS hSw
    (refine exec_neq32 (x := .tmp 82) (y := .tmp 83) (r := 22) (C := FA) (D := FA) (b := true) ?_ ?_ ?_ HEQ.out <;> rfl)
  (try simp only [Act.put, List.setIfInBounds_toArray, List.set_cons_zero, List.set_cons_succ])
  refine wpAnyH_take (i := 35) (oi := { dst := some 85, op := Go.Op.pick (Go.Operand.tmp 77) (Go.Operand.const (Go.Value.bool true)) (Go.Operand.tmp 84), type := 4, pos := "law.go:89", after := #[{ on := 27, ground := Go.Ground.data }, { on := 34, ground := Go.Ground.data }], guard := none }) (v := ?_) rfl (by kernel_rfl) (by kernel_rfl) (by kernel_rfl) (fun _ _ _ h => h) (Or.inl ⟨by rfl, ?_⟩) (by assumption) ?_
  rotate_left
  · intro wS hSw
    (try dsimp only at hSw)
    go_simp
    (try with_reducible rfl)
  (try simp only [Act.put, List.setIfInBounds_toArray, List.set_cons_zero, List.set_cons_succ])
  refine wpAnyH_take (i := 36) (oi := { dst := some 86, op := Go.Op.move (Go.Operand.tmp 85), type := 4, pos := "law.go:89", after := #[{ on := 35, ground := Go.Ground.data }, { on := 27, ground := Go.Ground.chain }], guard := none }) (v := ?_) rfl (by kernel_rfl) (by kernel_rfl) (by kernel_rfl) (fun _ _ _ h => h) (Or.inl ⟨by rfl, ?_⟩) (by assumption) ?_
  rotate_left
  · intro wS hSw
    (try dsimp only at hSw)
    go_simp
    (try with_reducible rfl)
  (try simp only [Act.put, List.setIfInBounds_toArray, List.set_cons_zero, List.set_cons_succ])
  refine wpAnyH_take (i := 37) (oi := { dst := some 87, op := Go.Op.move (Go.Operand.tmp 8), type := 24, pos := "law.go:89", after := #[{ on := 36, ground := Go.Ground.guard }], guard := some (36, false) }) (v := ?_) rfl (by kernel_rfl) (by kernel_rfl) (by kernel_rfl) (fun _ _ _ h => h) (Or.inl ⟨by rfl, ?_⟩) (by assumption) ?_
  rotate_left
  · intro wS hSw
    (try dsimp only at hSw)
    go_simp
    (try with_reducible rfl)
  (try simp only [Act.put, List.setIfInBounds_toArray, List.set_cons_zero, List.set_cons_succ])
  refine wpAnyH_take (i := 38) (oi := { dst := some 88, op := Go.Op.call { callee := Go.Callee.builtin Go.Builtin.len, args := #[Go.Operand.tmp 87], argTypes := #[24] }, type := 3, pos := "law.go:89", after := #[{ on := 37, ground := Go.Ground.data }, { on := 36, ground := Go.Ground.guard }], guard := some (36, false) }) (v := ?_) rfl (by kernel_rfl) (by kernel_rfl) (by kernel_rfl) (fun _ _ _ h => h) (Or.inl ⟨by rfl, ?_⟩) (by assumption) ?_
  rotate_left
  · intro wS hSw
    (try dsimp only at hSw)
    go_simp
    (try with_reducible rfl)
  (try simp only [Act.put, List.setIfInBounds_toArray, List.set_cons_zero, List.set_cons_succ])
  refine wpAnyH_take (i := 39) (oi := { dst := some 89, op := Go.Op.binOp Go.BinOp.neq 3 (Go.Operand.tmp 88) (Go.Operand.const (Go.Value.int Go.IntKind.i64 48)) 3, type := 4, pos := "law.go:89", after := #[{ on := 38, ground := Go.Ground.data }, { on := 36, ground := Go.Ground.guard }], guard := some (36, false) }) (v := ?_) rfl (by kernel_rfl) (by kernel_rfl) (by kernel_rfl) (fun _ _ _ h => h) (Or.inl ⟨by rfl, ?_⟩) (by assumption) ?_
  rotate_left
  · intro wS hSw
    (try dsimp only at hSw)
    go_simp
    (try with_reducible rfl)
  (try simp only [Act.put, List.setIfInBounds_toArray, List.set_cons_zero, List.set_cons_succ])
  refine wpAnyH_take (i := 40) (oi := { dst := some 90, op := Go.Op.pick (Go.Operand.tmp 86) (Go.Operand.const (Go.Value.bool true)) (Go.Operand.tmp 89), type := 4, pos := "law.go:89", after := #[{ on := 36, ground := Go.Ground.data }, { on := 39, ground := Go.Ground.data }], guard := none }) (v := ?_) rfl (by kernel_rfl) (by kernel_rfl) (by kernel_rfl) (fun _ _ _ h => h) (Or.inl ⟨by rfl, ?_⟩) (by assumption) ?_
  rotate_left
  · intro wS hSw
    (try dsimp only at hSw)
    go_simp
    (try with_reducible rfl)
  (try simp only [Act.put, List.setIfInBounds_toArray, List.set_cons_zero, List.set_cons_succ])
  refine wpAnyH_take (i := 41) (oi := { dst := some 91, op := Go.Op.move (Go.Operand.tmp 90), type := 4, pos := "law.go:89", after := #[{ on := 40, ground := Go.Ground.data }, { on := 36, ground := Go.Ground.chain }], guard := none }) (v := ?_) rfl (by kernel_rfl) (by kernel_rfl) (by kernel_rfl) (fun _ _ _ h => h) (Or.inl ⟨by rfl, ?_⟩) (by assumption) ?_
  rotate_left
  · intro wS hSw
    (try dsimp only at hSw)
    go_simp
    (try with_reducible rfl)
  (try simp only [Act.put, List.setIfInBounds_toArray, List.set_cons_zero, List.set_cons_succ])
  refine wpAnyH_take (i := 42) (oi := { dst := some 92, op := Go.Op.move (Go.Operand.tmp 12), type := 24, pos := "law.go:89", after := #[{ on := 41, ground := Go.Ground.guard }], guard := some (41, false) }) (v := ?_) rfl (by kernel_rfl) (by kernel_rfl) (by kernel_rfl) (fun _ _ _ h => h) (Or.inl ⟨by rfl, ?_⟩) (by assumption) ?_
  rotate_left
  · intro wS hSw
    (try dsimp only at hSw)
    go_simp
    (try with_reducible rfl)
  (try simp only [Act.put, List.setIfInBounds_toArray, List.set_cons_zero, List.set_cons_succ])
  refine wpAnyH_take (i := 43) (oi := { dst := some 93, op := Go.Op.call { callee := Go.Callee.builtin Go.Builtin.len, args := #[Go.Operand.tmp 92], argTypes := #[24] }, type := 3, pos := "law.go:89", after := #[{ on := 42, ground := Go.Ground.data }, { on := 41, ground := Go.Ground.guard }], guard := some (41, false) }) (v := ?_) rfl (by kernel_rfl) (by kernel_rfl) (by kernel_rfl) (fun _ _ _ h => h) (Or.inl ⟨by rfl, ?_⟩) (by assumption) ?_
  rotate_left
  · intro wS hSw
    (try dsimp only at hSw)
    go_simp
    (try with_reducible rfl)
  (try simp only [Act.put, List.setIfInBounds_toArray, List.set_cons_zero, List.set_cons_succ])
  refine wpAnyH_take (i := 44) (oi := { dst := some 94, op := Go.Op.binOp Go.BinOp.neq 3 (Go.Operand.tmp 93) (Go.Operand.const (Go.Value.int Go.IntKind.i64 63)) 3, type := 4, pos := "law.go:89", after := #[{ on := 43, ground := Go.Ground.data }, { on := 41, ground := Go.Ground.guard }], guard := some (41, false) }) (v := ?_) rfl (by kernel_rfl) (by kernel_rfl) (by kernel_rfl) (fun _ _ _ h => h) (Or.inl ⟨by rfl, ?_⟩) (by assumption) ?_
  rotate_left
  · intro wS hSw
    (try dsimp only at hSw)
    go_simp
    (try with_reducible rfl)
  (try simp only [Act.put, List.setIfInBounds_toArray, List.set_cons_zero, List.set_cons_succ])
  refine wpAnyH_take (i := 45) (oi := { dst := some 95, op := Go.Op.pick (Go.Operand.tmp 91) (Go.Operand.const (Go.Value.bool true)) (Go.Operand.tmp 94), type := 4, pos := "law.go:89", after := #[{ on := 41, ground := Go.Ground.data }, { on := 44, ground := Go.Ground.data }], guard := none }) (v := ?_) rfl (by kernel_rfl) (by kernel_rfl) (by kernel_rfl) (fun _ _ _ h => h) (Or.inl ⟨by rfl, ?_⟩) (by assumption) ?_
  rotate_left
  · intro wS hSw
    (try dsimp only at hSw)
    go_simp
    (try with_reducible rfl)
  (try simp only [Act.put, List.setIfInBounds_toArray, List.set_cons_zero, List.set_cons_succ])
  refine wpAnyH_done (by kernel_rfl) ?_ _
  clear hSW6
  go_upto_region 9 with fail
  generalize w7.drew = wd at *
  have hm : ((u : Nat) : Int).tmod 128 = ((u % 128 : Nat) : Int) := (Int.ofNat_tmod u 128).symm
  rw [HU.out, hm]
  clear hm
  obtain ⟨r, hr⟩ : ∃ y, u % 128 = y := ⟨_, rfl⟩
  have hrl : r < 128 := by omega
  rw [hr, IntWalk.wrap64_in _ (show -9223372036854775808 ≤ ((r : Nat) : Int) ∧ ((r : Nat) : Int) ≤ 9223372036854775807 by omega)]
  obtain ⟨q, hq⟩ : ∃ y, r / 8 = y := ⟨_, rfl⟩
  obtain ⟨sh, hsh⟩ : ∃ y, r % 8 = y := ⟨_, rfl⟩
  obtain ⟨at1, hat1⟩ : ∃ y, 32 + q = y := ⟨_, rfl⟩
  obtain ⟨at2, hat2⟩ : ∃ y, 12 + (35 + q) = y := ⟨_, rfl⟩
  have HAT := Lib.hid (show 32 + q = at1 ∧ 12 + (35 + q) = at2 ∧ q < 16 ∧ sh < 8 by omega)
  have HAK := Lib.hid (show at1 < 48 ∧ at2 < 63 by omega)
  have z0 : (0 : Int) ≤ (sh : Int) := by omega
  have z1 : (sh : Int) < 8 := by omega
  have hsl : sh < 8 := by omega
  have m1 : q < 1000 ∧ at1 < 1000 ∧ at2 < 1000 ∧ r < 1000 := by omega
  have d3 : (32 : Int) + (q : Int) = (at1 : Int) := by omega
  have d5 : (47 : Int) + (q : Int) = (at2 : Int) := by omega
  have d1 := tdiv8 r
  have d8 := tmod8 r
  rw [hq] at d1
  rw [hsh] at d8
  have d2 := w64_small q m1.1
  have d4 := w64_small at1 m1.2.1
  have d6 := w64_small at2 m1.2.2.1
  have d7 := u64_small r m1.2.2.2
  have HD := Lib.hid (And.intro d1 (And.intro d2 (And.intro d3 (And.intro d4 (And.intro d5 (And.intro d6 (And.intro d7 d8)))))))
  clear hr hq hsh hrl hat1 hat2 m1 d1 d2 d3 d4 d5 d6 d7 d8
  obtain ⟨V1, hV1⟩ : ∃ y, ebF A R x at1 = y := ⟨_, rfl⟩
  obtain ⟨V2, hV2⟩ : ∃ y, rbF R 35 (encF 1 (fun _ => A)) at2 = y := ⟨_, rfl⟩
  have hl1 := ebF_lt HAL.out HRL.out HX.out
  have hl2 : ∀ i, i < 63 → rbF R 35 (encF 1 (fun _ => A)) i < 256 := rbF_lt (m := 35) (K := R) (G := encF 1 (fun _ => A)) (by decide) (fun i hi => enc_lt (n := 1) (by decide) (fun _ j _ hj => HAL.out j hj) i hi)
  obtain ⟨Y1, y1, n1, e1⟩ := flip_u8 sh hsl V1 (by rw [← hV1]; exact hl1 at1 HAK.out.1)
  obtain ⟨Y2, y2, n2, e2⟩ := flip_u8 sh hsl V2 (by rw [← hV2]; exact hl2 at2 HAK.out.2)
  have hc1 := grow_cell HGW1.out (i := at1) HAK.out.1
  have hc2 := grow_cell HGW4.out (i := at2) HAK.out.2
  rw [hV1] at hc1
  rw [hV2] at hc2
  have cv1 := hc1.1
  have fv1 := hc1.2
  have HQ1N := Lib.hid (grow_put HGW1.out (i := at1) HAK.out.1 y1 hl1)
  have HN1 := Lib.hid (show Y1 ≠ ebF A R x at1 by rw [hV1]; exact n1)
  have HN2 := Lib.hid (show Y2 ≠ rbF R 35 (encF 1 (fun _ => A)) at2 by rw [hV2]; exact n2)
  have HE1 := Lib.hid e1
  have HE2 := Lib.hid e2
  have HY2 := Lib.hid y2
  have HC2 := Lib.hid hc2
  have HL2 := Lib.hid hl2
  clear hV1 hV2 hl1 y1 n1 e1 y2 n2 e2 hc1 hc2 hl2 hsl
  obtain ⟨d1, d2, d3, d4, d5, d6, d7, d8⟩ := HD.out
  obtain ⟨n48, h48⟩ : ∃ y, 48 = y := ⟨_, rfl⟩
  rw [h48]
  have k1 : at1 < n48 := by rw [← h48]; exact HAK.out.1
  have H48 := Lib.hid h48
  clear h48
  go_upto_region 10 with fail
  have h48 := H48.out
  subst h48
  clear k1 d1 d2 d3 d4 d5 d6 d7 d8
  rw [HE1.out]
  have hp := HP1.out
  have hp4 := HP4.out
  have hl := HLT.out
  have hO8 : Own g1 wd (wd.setCell ⟨g1, at1, none⟩ (.int .u8 (Y1 : Int))) := (Own.refl _ _).set _ _
  obtain ⟨w8, hw8⟩ : ∃ y, wd.setCell ⟨g1, at1, none⟩ (.int .u8 (Y1 : Int)) = y := ⟨_, rfl⟩
  rw [hw8] at hO8 HQ1N ⊢
  have cv2 : w8.cell? ⟨g4, at2, none⟩ = some (.int .u8 (V2 : Int)) := hO8.cell HC2.out.1 (show g4 ≠ g1 by omega)
  have hG8 := HGW4.out.ownN hO8 (fun k hk => by have h8 : g4 = k := (by simpa [Value.ownBlock] using hk); omega)
  have fv2 : w8.frozen? ⟨g4, at2, none⟩ = false := (grow_cell hG8 (i := at2) HAK.out.2).2
  have HKA8 := Lib.hid (HKA.out.own hO8 (fun y hy _ => by cases hy; show b3 ≠ g1; omega))
  have HKR8 := Lib.hid (HKR.out.own hO8 (fun y hy _ => by cases hy; show b4 ≠ g1; omega))
  have HW8 := Lib.hid (HW.out.trans (hO8.below (show w.heap.size ≤ g1 by omega) HW.out.size))
  have HQ4N := Lib.hid (grow_put hG8 (i := at2) HAK.out.2 HY2.out HL2.out)
  clear hO8 hG8 cv1 fv1 hp hp4 hl hw8
  obtain ⟨d1, d2, d3, d4, d5, d6, d7, d8⟩ := HD.out
  obtain ⟨n63, h63⟩ : ∃ y, 63 = y := ⟨_, rfl⟩
  rw [h63]
  have k1 : at2 < n63 := by rw [← h63]; exact HAK.out.2
  have H63 := Lib.hid h63
  clear h63
  go_upto_region 11 with fail
  have h63 := H63.out
  subst h63
  clear k1 d1 d2 d3 d4 d5 d6 d7 d8
  rw [HE2.out]
  have hp := HP1.out
  have hp4 := HP4.out
  have hl := HLT.out
  have hO9 : Own g4 w8 (w8.setCell ⟨g4, at2, none⟩ (.int .u8 (Y2 : Int))) := (Own.refl _ _).set _ _
  obtain ⟨w9, hw9⟩ : ∃ y, w8.setCell ⟨g4, at2, none⟩ (.int .u8 (Y2 : Int)) = y := ⟨_, rfl⟩
  rw [hw9] at hO9 HQ4N ⊢
  have HKA9 := Lib.hid (HKA8.out.own hO9 (fun y hy _ => by cases hy; show b3 ≠ g4; omega))
  have HKR9 := Lib.hid (HKR8.out.own hO9 (fun y hy _ => by cases hy; show b4 ≠ g4; omega))
  have HQ19 := Lib.hid (HQ1N.out.own hO9 (fun y hy _ => by cases hy; show g1 ≠ g4; omega))
  have HW9 := Lib.hid (HW8.out.trans (hO9.below (show w.heap.size ≤ g4 by omega) HW8.out.size))
  clear hO9 cv2 fv2 hp hp4 hl hw9 z0 z1
  go_wp2_with fail
  refine (eopen_any (some ⟨b3, 0, none⟩) g1 0 32 p1 x A (upd (ebF A R x) at1 Y1) w9 HKA9.out HQ19.out (by decide) HP1.out.1 HP1.out.2.1 HX.out (HG.out.later HW9.out).1).mono ?_
  rintro e w10 ⟨hb, ⟨ht, _⟩ | ⟨_, rfl⟩⟩
  · have h9 := HN1.out
    have h8 := HAT.out
    rw [← h8.1] at h9 ht
    exact absurd ((box_flip _ _ _ _ _ _ q Y1 h8.2.2.1 h9).symm.trans ht) (by decide)
  have HB10 := Lib.hid hb
  clear hb
  go_wp2_with fail
  refine (openring_any (some ⟨b4, 0, none⟩) g4 0 32 63 p4 35 R (upd (rbF R 35 (encF 1 (fun _ => A))) at2 Y2) w10 (HKR9.out.later HB10.out) (HQ4N.out.later HB10.out) (by decide) rfl HP4.out.1 HP4.out.2.1 (by decide) ((HG.out.later HW9.out).later HB10.out).1).mono ?_
  rintro e w11 ⟨hb, ⟨⟨ht, _⟩, _⟩ | ⟨_, rfl⟩⟩
  · have h9 := HN2.out
    have h8 := HAT.out
    rw [← h8.2.1] at h9 ht
    exact absurd ((rt_flip R 35 _ q Y2 h8.2.2.1 h9).symm.trans ht) (by decide)
  have HW11 := Lib.hid ((HW9.out.trans (HB10.out.mono HW9.out.size)).trans (hb.mono (Nat.le_trans HW9.out.size HB10.out.size)))
  clear hb
  obtain ⟨b19, hb19⟩ : ∃ q, w11.heap.size = q := ⟨_, rfl⟩
  obtain ⟨w12, hw12⟩ : ∃ q, w11.alloc (.cells #[.slice none 0 0] 32) = q := ⟨_, rfl⟩
  have hv12 : Below w11.heap.size w11 w12 := by rw [← hw12]; exact (Below.refl _ _).alloc (Nat.le_refl _) _
  have hB19 : Blk w12 b19 #[.slice none 0 0] 32 := by rw [← hw12, ← hb19]; exact Blk.new _ _ _
  have c19 : w12.cell? ⟨b19, 0, none⟩ = some (.slice none 0 0) := by rw [Blk.cell hB19]; rfl
  have f19 : w12.frozen? ⟨b19, 0, none⟩ = false := Blk.free hB19 0
  obtain ⟨w13, hw13⟩ : ∃ q, w12.setCell ⟨b19, 0, none⟩ (.slice none 0 0) = q := ⟨_, rfl⟩
  have hO13 : Own b19 w12 w13 := by rw [← hw13]; exact (Own.refl b19 w12).set 0 _
  have hb12 := HW11.out.trans (hv12.mono HW11.out.size)
  have HW13 := Lib.hid (hb12.trans (hO13.below (by have := HW11.out.size; omega) hb12.size))
  clear hv12 hB19 hO13 hb12
  go_wp2_with fail
  refine (num_err 13 w13 (HG.out.later HW13.out).2).mono ?_
  rintro e w14 ⟨rfl, hb⟩
  have HW14 := Lib.hid (HW13.out.trans (hb.mono HW13.out.size))
  clear hb c19 f19
  go_wp2_with fail
  refine (num_err 11 w14 (HG.out.later HW14.out).2).mono ?_
  rintro e w15 ⟨rfl, hb⟩
  have HW15 := Lib.hid (HW14.out.trans (hb.mono HW14.out.size))
  clear hb
  go_wp2_with fail
  refine (sure22 w15 (HG.out.later HW15.out)).mono ?_
  rintro e w16 ⟨rfl, hb⟩
  have HW16 := Lib.hid (HW15.out.trans (hb.mono HW15.out.size))
  clear hb
  go_wp2_with fail
  go_ret
  exact ⟨rfl, HW16.out⟩
end Go.Proofs.YtncfocjmdecapaaGreatDoor
