/- A sum with a key: in plain mathematics; a hash into which a key is written. -/
import Derived.Test.YtncfocjmdecapaaGreatDoorZB0
import Derived.Test.YtncfocjmdecapaaGreatDoorZS1
import Derived.Test.YtncfocjmdecapaaGreatDoorZS2
import Derived.Test.YtncfocjmdecapaaGreatDoorZSh4
import Derived.Test.YtncfocjmdecapaaGreatDoorZA0
import Derived.Test.YtncfocjmdecapaaGreatDoorZS5
import Derived.Test.YtncfocjmdecapaaGreatDoorZSh7
import Derived.Test.YtncfocjmdecapaaGreatDoorZS8
namespace Go.Proofs.YtncfocjmdecapaaGreatDoor
set_option linter.unusedVariables false
set_option linter.unusedSimpArgs false
open Go.RowKit
/-- A key as 64 bytes. -/
def whK (n : Nat) (K : Nat → Nat) : Nat → Nat := fun i => if 64 < n then (if i < 32 then shaN n K i else 0) else if i < n then K i else 0
def xoK (W : Nat → Nat) (c : Nat) : Nat → Nat := fun i => W i ^^^ c
/-- The sum with a key. -/
def hmK (W : Nat → Nat) (m : Nat) (G : Nat → Nat) : Nat → Nat := shaN (64 + 32) (catF 64 (xoK W 92) (shaN (64 + m) (catF 64 (xoK W 54) G)))
theorem xor8 {a b : Nat} (ha : a < 256) (hb : b < 256) : a ^^^ b < 256 := Nat.xor_lt_two_pow (n := 8) ha hb
theorem shaN_b (n : Nat) (F : Nat → Nat) (i : Nat) : shaN n F i < 256 := numB_lt _ _ _
theorem whK_lt {n : Nat} {K : Nat → Nat} (h : ∀ i, i < n → K i < 256) (i : Nat) : whK n K i < 256 := by
  unfold whK
  by_cases e : 64 < n
  · rw [if_pos e]
    by_cases e2 : i < 32
    · rw [if_pos e2]; exact shaN_b _ _ _
    · rw [if_neg e2]; decide
  · rw [if_neg e]
    by_cases e2 : i < n
    · rw [if_pos e2]; exact h i e2
    · rw [if_neg e2]; decide
theorem RB.bytes {w : World} {t : TypeId} {n g : Nat} {f : Nat → Nat} (h : RB t n g f w) (hf : ∀ i, i < n → f i < 256) : Bytes w (some ⟨g, 0, none⟩) n f := fun k hk => ⟨hf k hk, g, 0, rfl, by rw [Nat.zero_add]; exact h.cell hk⟩
set_option maxRecDepth 100000 in
set_option maxHeartbeats 4000000 in
theorem begun_any (W : Nat → Nat) (c : Nat) (w : World) (hW : ∀ i, i < 64 → W i < 256) (hc : c < 256) (hg : GV w) :
    Calls Tryz.prog 62 #[.agg (rowC 64 W).toArray, .int .u8 (c : Nat)] w fun e w' => ∃ g, e = .returned (.pointer (some ⟨g, 0, none⟩)) ∧ HS w' g 64 (xoK W c) ∧ Below w.heap.size w w' ∧ w.heap.size ≤ g := by
  obtain ⟨C, hC⟩ : ∃ C, (rowC 64 W).toArray = C := ⟨_, rfl⟩
  have H0 : Hid (RB 124 64 w.heap.size (fun j => if j < 0 then xoK W c j else W j) (w.alloc (.cells C 124)) ∧ Below w.heap.size w (w.alloc (.cells C 124)) ∧ GV (w.alloc (.cells C 124))) := Lib.hid (by
    have hb : Below w.heap.size w (w.alloc (.cells C 124)) := (Below.refl _ _).alloc (Nat.le_refl _) _
    refine ⟨RB.congr (f := W) ?_ (fun i _ => (if_neg (Nat.not_lt_zero _)).symm), hb, hg.later hb⟩
    rw [← hC]; exact Blk.new w _ _)
  have HW := Lib.hid hW
  have HC := Lib.hid hc
  have HG := Lib.hid hg
  have HI : Hid ((Tryz.prog.info? 124).map (·.size) = some C.size) := Lib.hid (by rw [← hC, rowC_size]; kernel_rfl)
  have HI1 : Hid (C.all (·.oneCell') = true) := Lib.hid (by rw [← hC]; exact all_oneCell_toArray (rowC_one _ _))
  rw [hC]
  clear hW hc hg hC
  go_enter Tryz.func62, Tryz.ntmps62
  go_wp2_with fail
  go_loopw [7] (fun v wr => ∃ i : Nat, i ≤ 64 ∧ v = .int .i64 (i : Int) ∧ RB 124 64 w.heap.size (fun j => if j < i then xoK W c j else W j) wr ∧ Below w.heap.size w wr ∧ GV wr) (fun v _ => 64 - (intOf v).toNat)
  case atStart => exact ⟨0, Nat.zero_le _, rfl, H0.out⟩
  case round =>
    clear H0
    obtain ⟨i, hi, rfl, hR, hB, hG⟩ := hrel
    have hgl := hG.lt
    by_cases hli : i < 64
    · have i0 : (0 : Int) ≤ (i : Int) := by omega
      have i1 : (i : Int) < 64 := by omega
      obtain ⟨x, hx⟩ : ∃ x, W i = x := ⟨_, rfl⟩
      have hx8 : x < 256 := by rw [← hx]; exact HW.out i hli
      have hc1 : wr.cell? ⟨w.heap.size, i, none⟩ = some (.int .u8 (x : Nat)) := hR.val hli (by rw [if_neg (Nat.lt_irrefl _)]; exact hx)
      have xr : bits .xor .u8 (x : Int) (c : Int) = ((x ^^^ c : Nat) : Int) := u8_xor_nat _ _ hx8 HC.out
      have hz : wr.frozen? ⟨w.heap.size, i, none⟩ = false := hR.free _
      have HN : Hid (RB 124 64 w.heap.size (fun j => if j < i + 1 then xoK W c j else W j) (wr.setCell ⟨w.heap.size, i, none⟩ (.int .u8 (x ^^^ c : Nat))) ∧ Below w.heap.size w (wr.setCell ⟨w.heap.size, i, none⟩ (.int .u8 (x ^^^ c : Nat))) ∧ GV (wr.setCell ⟨w.heap.size, i, none⟩ (.int .u8 (x ^^^ c : Nat)))) := Lib.hid (by
        refine ⟨(hR.set i _).congr fun j hj => ?_, hB.setCell (Nat.le_refl _) _, ?_⟩
        · unfold upd
          by_cases e : j = i
          · subst e; rw [if_pos rfl, if_pos (by omega)]; unfold xoK; rw [hx]
          · rw [if_neg e]
            show (if j < i then xoK W c j else W j) = if j < i + 1 then xoK W c j else W j
            by_cases e2 : j < i
            · rw [if_pos e2, if_pos (by omega)]
            · rw [if_neg e2, if_neg (by omega)]
        · have hO : Own w.heap.size wr (wr.setCell ⟨w.heap.size, i, none⟩ (.int .u8 (x ^^^ c : Nat))) := (Own.refl _ _).set _ _
          have h0 := HG.out.lt
          exact hG.own hO (by omega) (by omega))
      generalize x ^^^ c = z at *
      clear hR hB hG hgl hx hx8 hi hli
      go_wp2_with fail
      clear hc1 xr hz
      go_roundw
      case rel => exact ⟨i + 1, by omega, by go_num, HN.out⟩
      case measure => simp [intOf] <;> omega
    · obtain rfl : i = 64 := by omega
      have H1 : Hid (RB 124 64 w.heap.size (xoK W c) wr ∧ Below w.heap.size w wr ∧ GV wr) := Lib.hid ⟨hR.congr fun j hj => if_pos hj, hB, hG⟩
      clear hR hB hG hgl hi hli
      go_wp2_with fail
      refine (hnew_any _ H1.out.2.2).mono ?_
      rintro e w1 ⟨g, rfl, hN, hb1, hge⟩
      have H2 : Hid (RB 124 64 w.heap.size (xoK W c) w1 ∧ Below w.heap.size w w1 ∧ GV w1 ∧ (∀ F, HS w1 g 0 F) ∧ w.heap.size < g) := Lib.hid (by
        obtain ⟨a1, a2, a3⟩ := H1.out
        have hlt := Blk.lt a1
        exact ⟨Blk.below a1 hb1 hlt, a2.trans (hb1.mono a2.size), a3.later hb1, hN, by omega⟩)
      clear hN hb1 hge H1
      go_wp2_with fail
      refine (write_any g 0 64 64 (some ⟨w.heap.size, 0, none⟩) (xoK W c) (xoK W c) _ (H2.out.2.2.2.1 _) (RB.bytes H2.out.1 fun i hi => xor8 (HW.out i hi) HC.out) (Nat.le_refl _) (fun a ha _ => by cases ha; have := H2.out.2.2.2.2; show w.heap.size ≠ g; omega) (by decide) H2.out.2.2.1).mono ?_
      rintro e w2 ⟨rfl, hS, hO⟩
      have H3 : Hid (HS w2 g 64 (xoK W c) ∧ Below w.heap.size w w2 ∧ w.heap.size ≤ g) := Lib.hid (by
        obtain ⟨a1, a2, a3, a4, a5⟩ := H2.out
        exact ⟨hS.cat0, a2.trans (hO.below (by omega) a2.size), by omega⟩)
      clear hS hO H2
      go_wp2_with fail
      go_ret
      exact ⟨_, rfl, H3.out⟩
end Go.Proofs.YtncfocjmdecapaaGreatDoor
