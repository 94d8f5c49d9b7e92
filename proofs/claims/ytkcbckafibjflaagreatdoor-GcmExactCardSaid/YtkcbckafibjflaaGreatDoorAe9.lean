/- AES: the words of a key: what is needed. -/
import Derived.Test.YtkcbckafibjflaaGreatDoorAe5
namespace Go.Proofs.YtkcbckafibjflaaGreatDoor
set_option linter.unusedVariables false
set_option linter.unusedSimpArgs false
open Go.RowKit

def exS (f : Nat → Nat) (n : Nat) : Nat := if n < 8 then kwN f n else exK f n (n - 8) ^^^ lastN (exK f n) n
theorem exK_keep (f : Nat → Nat) {i : Nat} : ∀ n, i < n → exK f n i = exS f i
  | 0, h => by omega
  | n + 1, h => by
    show upd (exK f n) n (exS f n) i = _
    by_cases e : i = n
    · rw [e]; exact if_pos rfl
    · exact (if_neg e).trans (exK_keep f n (by omega))
theorem exK_lo (f : Nat → Nat) {i : Nat} (h : i < 8) : exK f 60 i = kwN f i := (exK_keep f 60 (by omega)).trans (if_pos h)
theorem exK_hi (f : Nat → Nat) {i : Nat} (h8 : 8 ≤ i) (h : i < 60) (h4 : i % 4 ≠ 0) : exK f 60 i = exK f 60 (i - 8) ^^^ exK f 60 (i - 1) := by
  rw [exK_keep f 60 h, exK_keep f 60 (show i - 8 < 60 by omega), exK_keep f 60 (show i - 1 < 60 by omega)]
  have e : exS f i = exK f i (i - 8) ^^^ lastN (exK f i) i := if_neg (by omega)
  rw [e, exK_keep f i (show i - 8 < i by omega)]
  have e2 : lastN (exK f i) i = exK f i (i - 1) := by
    unfold lastN
    rw [if_neg (by omega), if_neg (by omega)]
  rw [e2, exK_keep f i (show i - 1 < i by omega)]
theorem kw_ne {f : Nat → Nat} {m : Nat} (h : ∀ k, k < 4 → f (4 * m + k) < 256) : kwN (upd f (4 * m) (f (4 * m) ^^^ 1)) m ≠ kwN f m := by
  have h0 := h 0 (by decide); rw [Nat.add_zero] at h0
  have e0 : upd f (4 * m) (f (4 * m) ^^^ 1) (4 * m) = f (4 * m) ^^^ 1 := if_pos rfl
  have e1 : upd f (4 * m) (f (4 * m) ^^^ 1) (4 * m + 1) = f (4 * m + 1) := if_neg (by omega)
  have e2 : upd f (4 * m) (f (4 * m) ^^^ 1) (4 * m + 2) = f (4 * m + 2) := if_neg (by omega)
  have e3 : upd f (4 * m) (f (4 * m) ^^^ 1) (4 * m + 3) = f (4 * m + 3) := if_neg (by omega)
  have hx : f (4 * m) ^^^ 1 ≠ f (4 * m) := fun e => by
    have h1 : f (4 * m) ^^^ (f (4 * m) ^^^ 1) = f (4 * m) ^^^ f (4 * m) := by rw [e]
    rw [xor_self_left, Nat.xor_self] at h1; exact absurd h1 (by decide)
  unfold kwN
  rw [e0, e1, e2, e3]
  generalize f (4 * m) ^^^ 1 = y at *
  omega
end Go.Proofs.YtkcbckafibjflaaGreatDoor
