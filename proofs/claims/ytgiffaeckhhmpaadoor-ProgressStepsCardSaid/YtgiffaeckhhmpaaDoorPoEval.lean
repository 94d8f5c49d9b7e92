/- A polynomial at a place: the contract of poly.Eval. -/
import Derived.Test.YtgiffaeckhhmpaaDoorPoMath
import Derived.Test.YtgiffaeckhhmpaaDoorGfA
import Derived.Test.YtgiffaeckhhmpaaDoorApA
import Derived.Deep.RegionHeld3
import Derived.IntWalk
namespace Go.Proofs.YtgiffaeckhhmpaaDoor
set_option linter.unusedVariables false
set_option linter.unusedSimpArgs false
open Go.RowKit

/-- A slice lies in another block. -/
def Apart (tb : Nat) (oa : Option Addr) (n : Nat) : Prop := 0 < n → ∀ a, oa = some a → a.block ≠ tb
theorem Bytes.own {w w' : World} {oa : Option Addr} {n tb : Nat} {f : Nat → Nat} (h : Bytes w oa n f) (hO : Own tb w w') (ha : Apart tb oa n) : Bytes w' oa n f := fun k hk => by
  obtain ⟨h1, b, off, h2, h3⟩ := h k hk
  exact ⟨h1, b, off, h2, hO.cell h3 (show b ≠ tb from ha (by omega) _ h2)⟩
theorem Left.trans {b : Nat} {w w1 w2 : World} (h : Left b w w1) (k : Left b w1 w2) : Left b w w2 := ⟨k.1, h.2.trans k.2⟩
theorem Left.refl {b : Nat} {w : World} (h : TabIn w b) : Left b w w := ⟨h, Own.refl _ _⟩

theorem Own.undrew {b : Nat} {w w1 : World} (h : Own b w.drew w1) : Own b w w1 := ⟨h.os, h.tape, h.output, h.size, h.block⟩
theorem Left.undrew {b : Nat} {w w1 : World} (h : Left b w.drew w1) : Left b w w1 := ⟨h.1, h.2.undrew⟩

/-- A product, where a cell elsewhere stays. -/
theorem mul_keep {tb a c cb ck : Nat} {v : Value} (w : World) (h : TabIn w tb) (ha : a < 256) (hc : c < 256) (hcell : w.cell? ⟨cb, ck, none⟩ = some v) (hn : cb ≠ tb) :
    Calls Tryd.prog 35 #[.pointer (some ⟨tb, 0, none⟩), .int .u8 a, .int .u8 c] w fun e w' => e = .returned (.int .u8 (mulN a c)) ∧ Left tb w w' ∧ w'.cell? ⟨cb, ck, none⟩ = some v :=
  (mul_any tb a c w h ha hc).mono fun e w' ⟨he, hl⟩ => ⟨he, hl, hl.2.cell hcell hn⟩

set_option maxRecDepth 100000 in
set_option maxHeartbeats 1600000 in
theorem eval_any (tb : Nat) (oa : Option Addr) (n cp : Nat) (f : Nat → Nat) (x : Nat) (w : World) (h : TabIn w tb) (hb : Bytes w oa n f) (ha : Apart tb oa n) (hn : n ≤ maxLen) (hx : x < 256) :
    Calls Tryd.prog 23 #[.pointer (some ⟨tb, 0, none⟩), .slice oa n cp, .int .u8 x] w fun e w' => e = .returned (.int .u8 (evF f x 0 n : Nat)) ∧ Left tb w w' := by
  have hm : (n : Int) ≤ 9223372036854775807 := by unfold maxLen at hn; omega
  have HB : Hid _ := hb
  have HA : Hid _ := ha
  clear hb ha hn
  go_enter Tryd.func23, Tryd.ntmps23
  go_wp2_with fail
  go_loopw [7, 8] (fun s i wr => ∃ k : Nat, k ≤ n ∧ i = .int .i64 ((k : Int) - 1) ∧ s = .int .u8 (evF f x k (n - k) : Nat) ∧ TabIn wr tb ∧ Own tb w wr) (fun _ i _ => (intOf i + 1).toNat)
  case atStart => exact ⟨n, Nat.le_refl _, rfl, by rw [Nat.sub_self]; rfl, h, Own.refl _ _⟩
  case round =>
    obtain ⟨k, hk, rfl, rfl, hT, hO⟩ := hrel
    by_cases h0 : k = 0
    · subst h0
      rw [Nat.sub_zero]
      obtain ⟨s, hs⟩ : ∃ s, evF f x 0 n = s := ⟨_, rfl⟩
      have HS : Hid _ := hs
      rw [hs]
      clear hs
      go_wp2_with fail
      go_ret
      exact ⟨by rw [HS.out]; rfl, hT, hO⟩
    · obtain ⟨j, rfl⟩ : ∃ j, k = j + 1 := ⟨k - 1, by omega⟩
      have hj : ((j + 1 : Nat) : Int) - 1 = (j : Int) := by omega
      have hj0 : (0 : Int) ≤ (j : Int) := by omega
      have hj1 : (j : Int) < (n : Int) := by omega
      obtain ⟨hfj, cb, co, rfl, hcell⟩ := (Bytes.own HB.out hO HA.out) j (by omega)
      have hne : cb ≠ tb := HA.out (by omega) _ rfl
      have hs : evF f x j (n - j) = mulN (evF f x (j + 1) (n - (j + 1))) x ^^^ f j := by rw [show n - j = (n - (j + 1)) + 1 from by omega]; rfl
      have hsl : evF f x (j + 1) (n - (j + 1)) < 256 := evF_lt x _ _ fun i hi => (HB.out i (by omega)).1
      have hml := mulN_lt (evF f x (j + 1) (n - (j + 1))) x
      rw [hj]
      obtain ⟨s, hss⟩ : ∃ s, evF f x (j + 1) (n - (j + 1)) = s := ⟨_, rfl⟩
      rw [hss] at hs hsl hml ⊢
      have HS : Hid _ := hs
      clear hs hss h0 hj
      generalize f j = fj at *
      go_wp2_with fail
      go_region_held3 (fun w' => w'.cell? ⟨cb, co + j, none⟩ = some (.int .u8 fj)) (go_keep)
        (first
          | (go_at_call 35; refine (mul_keep (cb := cb) (ck := co + j) (v := .int .u8 fj) _ ?_ hsl hx ?_ hne).mono ?_; exact hT; assumption; rintro e w1 ⟨rfl, hL1, hc1⟩)
          | (go_at_call 34; refine (add_any _ _ _ hml hfj).mono ?_; rintro e w' ⟨rfl, rfl⟩))
      go_wp2_with fail
      go_roundw
      case rel => exact ⟨j, by omega, by go_num, by rw [HS.out], hL1.1, hO.trans hL1.undrew.2⟩
      case measure => simp [intOf]

end Go.Proofs.YtgiffaeckhhmpaaDoor
