/- AES, the document's side: plain mathematics: a key's words byte by byte, the columns, the rows. -/
import Derived.Test.YtkcbckafibjflaaGreatDoorAe9
namespace Go.Proofs.YtkcbckafibjflaaGreatDoor
set_option linter.unusedVariables false
set_option linter.unusedSimpArgs false
open Go.RowKit

/-- The document's place in rows. -/
theorem ref_mv : ∀ i, i < 16 → (i + 4 * (i % 4)) % 16 = 4 * ((i / 4 + i % 4) % 4) + i % 4 := by decide
/-- The document's columns. -/
def dmx (f : Nat → Nat) : Nat → Nat := fun i => dbl (f i) ^^^ (dbl (f (i / 4 * 4 + (i + 1) % 4)) ^^^ f (i / 4 * 4 + (i + 1) % 4)) ^^^ f (i / 4 * 4 + (i + 2) % 4) ^^^ f (i / 4 * 4 + (i + 3) % 4)
theorem dmx_eq (f : Nat → Nat) (i : Nat) : dmx f i = mxA f i := by
  unfold dmx mxA
  rw [show i / 4 * 4 = 4 * (i / 4) by omega, show (i + 1) % 4 = (i % 4 + 1) % 4 by omega, show (i + 2) % 4 = (i % 4 + 2) % 4 by omega, show (i + 3) % 4 = (i % 4 + 3) % 4 by omega,
    show 4 * (i / 4) + i % 4 = i by omega]
  simp only [Nat.xor_assoc]
theorem numB_shift4 (n k : Nat) (hk : k < 4) : numB n 4 k = (n >>> (8 * (3 - k))) % 2 ^ 8 := by
  unfold numB
  rw [Nat.shiftRight_eq_div_pow, Nat.pow_mul]
theorem numB_xor4 (a b k : Nat) (hk : k < 4) : numB (a ^^^ b) 4 k = numB a 4 k ^^^ numB b 4 k := by
  rw [numB_shift4 _ _ hk, numB_shift4 _ _ hk, numB_shift4 _ _ hk, Nat.shiftRight_xor_distrib, Nat.xor_mod_two_pow]
theorem numB_kw {f : Nat → Nat} {i k : Nat} (h : ∀ k, k < 4 → f (4 * i + k) < 256) (hk : k < 4) : numB (kwN f i) 4 k = f (4 * i + k) := by
  have h0 := h 0 (by decide); have h1 := h 1 (by decide); have h2 := h 2 (by decide); have h3 := h 3 (by decide)
  rw [Nat.add_zero] at h0
  have e : kwN f i = f (4 * i) * 16777216 + f (4 * i + 1) * 65536 + f (4 * i + 2) * 256 + f (4 * i + 3) := rfl
  rw [e]; clear e
  rcases (by omega : k = 0 ∨ k = 1 ∨ k = 2 ∨ k = 3) with rfl | rfl | rfl | rfl
  all_goals
    try rw [Nat.add_zero]
    generalize f (4 * i) = a at *
    generalize f (4 * i + 1) = b at *
    generalize f (4 * i + 2) = c at *
    generalize f (4 * i + 3) = d at *
    unfold numB
    simp only [Nat.sub_zero, Nat.reduceSub, Nat.reducePow, Nat.pow_zero, Nat.pow_one, Nat.div_one]
    omega
theorem numB_word (x k : Nat) (hx : x < 4294967296) (hk : k < 4) : numB (wordN x) 4 k = subN (numB x 4 k) := by
  have h0 := subN_lt (x / 16777216); have h1 := subN_lt (x / 65536 % 256); have h2 := subN_lt (x / 256 % 256); have h3 := subN_lt (x % 256)
  rcases (by omega : k = 0 ∨ k = 1 ∨ k = 2 ∨ k = 3) with rfl | rfl | rfl | rfl
  · rw [show numB x 4 0 = x / 16777216 by unfold numB; simp only [Nat.sub_zero, Nat.reduceSub, Nat.reducePow]; omega]
    unfold numB wordN; simp only [Nat.sub_zero, Nat.reduceSub, Nat.reducePow]; omega
  · rw [show numB x 4 1 = x / 65536 % 256 by unfold numB; simp only [Nat.reduceSub, Nat.reducePow]]
    unfold numB wordN; simp only [Nat.reduceSub, Nat.reducePow]; omega
  · rw [show numB x 4 2 = x / 256 % 256 by unfold numB; simp only [Nat.reduceSub, Nat.reducePow]]
    unfold numB wordN; simp only [Nat.reduceSub, Nat.reducePow]; omega
  · rw [show numB x 4 3 = x % 256 by unfold numB; simp only [Nat.reduceSub, Nat.pow_zero, Nat.div_one]]
    unfold numB wordN; simp only [Nat.reduceSub, Nat.pow_zero, Nat.div_one]; omega
theorem or_add8 (a b : Nat) (ha : a < 16777216) (hb : b < 256) : (a * 256) ||| b = a * 256 + b := by
  have := Nat.shiftLeft_add_eq_or_of_lt (i := 8) hb a
  rw [Nat.shiftLeft_eq] at this
  exact this.symm
theorem rot8_add (x : Nat) (hx : x < 4294967296) : rot8 x = x % 16777216 * 256 + x / 16777216 := by
  unfold rot8
  rw [show x * 256 % 4294967296 = x % 16777216 * 256 by omega]
  exact or_add8 _ _ (by omega) (by omega)
theorem div4 (a b c d : Nat) (hb : b < 256) (hc : c < 256) (hd : d < 256) : (a * 16777216 + b * 65536 + c * 256 + d) / 16777216 = a ∧ (a * 16777216 + b * 65536 + c * 256 + d) / 65536 = a * 256 + b ∧ (a * 16777216 + b * 65536 + c * 256 + d) / 256 = a * 65536 + b * 256 + c :=
  ⟨by omega, by omega, by omega⟩
theorem numB_rot (x k : Nat) (hx : x < 4294967296) (hk : k < 4) : numB (rot8 x) 4 k = numB x 4 ((k + 1) % 4) := by
  rw [rot8_add x hx]
  obtain ⟨a, ha⟩ : ∃ a, x / 16777216 = a := ⟨_, rfl⟩
  obtain ⟨b, hb⟩ : ∃ b, x / 65536 % 256 = b := ⟨_, rfl⟩
  obtain ⟨c, hc⟩ : ∃ c, x / 256 % 256 = c := ⟨_, rfl⟩
  obtain ⟨d, hd⟩ : ∃ d, x % 256 = d := ⟨_, rfl⟩
  have h1 : x = a * 16777216 + b * 65536 + c * 256 + d := by omega
  have h5 : x % 16777216 = b * 65536 + c * 256 + d := by omega
  have h2 : a < 256 := by omega
  have h3 : b < 256 := by omega
  have h4 : c < 256 := by omega
  have h6 : d < 256 := by omega
  rw [ha, h5, h1, show (b * 65536 + c * 256 + d) * 256 + a = b * 16777216 + c * 65536 + d * 256 + a by omega]
  clear ha hb hc hd h1 h5 hx x
  obtain ⟨q0, q1, q2⟩ := div4 b c d a h4 h6 h2
  obtain ⟨r0, r1, r2⟩ := div4 a b c d h3 h4 h6
  rcases (by omega : k = 0 ∨ k = 1 ∨ k = 2 ∨ k = 3) with rfl | rfl | rfl | rfl
  · show (b * 16777216 + c * 65536 + d * 256 + a) / 16777216 % 256 = (a * 16777216 + b * 65536 + c * 256 + d) / 65536 % 256; rw [q0, r1]; omega
  · show (b * 16777216 + c * 65536 + d * 256 + a) / 65536 % 256 = (a * 16777216 + b * 65536 + c * 256 + d) / 256 % 256; rw [q1, r2]; omega
  · show (b * 16777216 + c * 65536 + d * 256 + a) / 256 % 256 = (a * 16777216 + b * 65536 + c * 256 + d) / 1 % 256; rw [q2, Nat.div_one]; omega
  · show (b * 16777216 + c * 65536 + d * 256 + a) / 1 % 256 = (a * 16777216 + b * 65536 + c * 256 + d) / 16777216 % 256; rw [r0, Nat.div_one]; omega
theorem numB_rcon : ∀ d, d < 8 → 1 ≤ d → ∀ k, k < 4 → numB (2 ^ (23 + d)) 4 k = if k = 0 then 2 ^ (d - 1) else 0 := by decide
/-- A key's words, byte by byte, as the document has them. -/
def dW (f : Nat → Nat) (n k : Nat) : Nat := numB (exK f 60 n) 4 k
theorem dW_lt (f : Nat → Nat) (n k : Nat) : dW f n k < 256 := numB_lt _ _ _
theorem dW_lo {f : Nat → Nat} (hf : ∀ i, i < 32 → f i < 256) {n k : Nat} (hn : n < 8) (hk : k < 4) : dW f n k = f (4 * n + k) := by
  unfold dW; rw [exK_lo f hn]; exact numB_kw (fun k hk => hf _ (by omega)) hk
theorem dW_rec {f : Nat → Nat} (hf : ∀ i, i < 32 → f i < 256) {n k : Nat} (h8 : 8 ≤ n) (hn : n < 60) (hk : k < 4) :
    dW f n k = dW f (n - 8) k ^^^ (if n % 8 = 0 then (if k = 0 then subN (dW f (n - 1) 1) ^^^ 2 ^ (n / 8 - 1) else subN (dW f (n - 1) ((k + 1) % 4))) else if n % 8 = 4 then subN (dW f (n - 1) k) else dW f (n - 1) k) := by
  have hl := exK_lt hf 60 (Nat.le_refl _) (n - 1)
  have e : exK f 60 n = exK f 60 (n - 8) ^^^ lastN (exK f 60) n := by
    rw [exK_keep f 60 hn, exK_keep f 60 (show n - 8 < 60 by omega)]
    have e1 : exS f n = exK f n (n - 8) ^^^ lastN (exK f n) n := if_neg (by omega)
    have e2 : lastN (exK f n) n = lastN (exK f 60) n := by
      unfold lastN
      rw [exK_keep f n (show n - 1 < n by omega), exK_keep f 60 (show n - 1 < 60 by omega)]
    rw [e1, exK_keep f n (show n - 8 < n by omega), e2]
  have e3 : dW f n k = dW f (n - 8) k ^^^ numB (lastN (exK f 60) n) 4 k := by
    unfold dW; rw [e, numB_xor4 _ _ _ hk]
  rw [e3]
  congr 1
  unfold lastN dW
  by_cases h0 : n % 8 = 0
  · rw [if_pos h0, if_pos h0, numB_xor4 _ _ _ hk, numB_word _ _ (rot8_lt hl) hk, numB_rot _ _ hl hk, numB_rcon _ (by omega) (by omega) k hk]
    by_cases hk0 : k = 0
    · subst hk0; rw [if_pos rfl, if_pos rfl]
    · rw [if_neg hk0, if_neg hk0, Nat.xor_zero]
  · rw [if_neg h0, if_neg h0]
    by_cases h4 : n % 8 = 4
    · rw [if_pos h4, if_pos h4]; exact numB_word _ _ hl hk
    · rw [if_neg h4, if_neg h4]
end Go.Proofs.YtkcbckafibjflaaGreatDoor
