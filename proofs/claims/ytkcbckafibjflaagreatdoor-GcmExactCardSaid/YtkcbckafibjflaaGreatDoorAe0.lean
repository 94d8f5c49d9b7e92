/- AES in plain mathematics: unlike blocks are ciphered unlike. -/
import Derived.Test.YtkcbckafibjflaaGreatDoorGen
import Derived.Test.YtkcbckafibjflaaGreatDoorRow
namespace Go.Proofs.YtkcbckafibjflaaGreatDoor
set_option linter.unusedVariables false
set_option linter.unusedSimpArgs false
open Go.RowKit

theorem xor_self_left (a b : Nat) : a ^^^ (a ^^^ b) = b := by rw [← Nat.xor_assoc, Nat.xor_self, Nat.zero_xor]
theorem xor_left (a b c : Nat) : a ^^^ (b ^^^ c) = b ^^^ (a ^^^ c) := by rw [← Nat.xor_assoc, Nat.xor_comm a b, Nat.xor_assoc]
/-- A block with a round's words. -/
def addK (W : Nat → Nat) (r : Nat) (f : Nat → Nat) : Nat → Nat := fun i => f i ^^^ numB (W (4 * r + i / 4)) 4 (i % 4)
/-- What stands for each byte, in the places of other columns. -/
def mvA (s : Nat → Nat) (f : Nat → Nat) : Nat → Nat := fun i => s (f (4 * ((i / 4 + i % 4) % 4) + i % 4))
def dbl (a : Nat) : Nat := (a * 2 % 256) ^^^ (27 * (a / 128))
/-- Columns. -/
def mxA (f : Nat → Nat) : Nat → Nat := fun i => dbl (f (4 * (i / 4) + i % 4)) ^^^ dbl (f (4 * (i / 4) + (i % 4 + 1) % 4)) ^^^ f (4 * (i / 4) + (i % 4 + 1) % 4) ^^^ (f (4 * (i / 4) + (i % 4 + 2) % 4) ^^^ f (4 * (i / 4) + (i % 4 + 3) % 4))
def encK (s : Nat → Nat) (W : Nat → Nat) (f : Nat → Nat) : Nat → Nat → Nat
  | 0 => addK W 0 f
  | r + 1 => addK W (r + 1) (if r + 1 < 14 then mxA (mvA s (encK s W f r)) else mvA s (encK s W f r))
theorem dbl_lt {a : Nat} (h : a < 256) : dbl a < 256 := by
  unfold dbl
  refine Nat.xor_lt_two_pow (n := 8) (Nat.mod_lt _ (by decide)) ?_
  have : a / 128 < 2 := by omega
  show 27 * (a / 128) < 256
  omega
theorem dbl_xor {a b : Nat} (ha : a < 256) (hb : b < 256) : dbl (a ^^^ b) = dbl a ^^^ dbl b := by
  have h1 : (a ^^^ b) * 2 % 256 = (a * 2 % 256) ^^^ (b * 2 % 256) := by
    have e : ∀ n : Nat, n * 2 % 256 = (n % 2 ^ 7) <<< 1 := fun n => by rw [Nat.shiftLeft_eq]; omega
    rw [e, e, e, Nat.xor_mod_two_pow, ← Nat.shiftLeft_xor_distrib]
  have h2 : (a ^^^ b) / 128 = (a / 128) ^^^ (b / 128) := by
    have := Nat.shiftRight_xor_distrib (a := a) (b := b) (i := 7)
    simpa [Nat.shiftRight_eq_div_pow] using this
  have h3 : 27 * ((a / 128) ^^^ (b / 128)) = 27 * (a / 128) ^^^ 27 * (b / 128) := by
    have xa : a / 128 = 0 ∨ a / 128 = 1 := by omega
    have xb : b / 128 = 0 ∨ b / 128 = 1 := by omega
    rcases xa with h | h <;> rcases xb with h' | h' <;> rw [h, h'] <;> decide
  unfold dbl
  rw [h1, h2, h3]
  generalize a * 2 % 256 = p; generalize b * 2 % 256 = q; generalize 27 * (a / 128) = u; generalize 27 * (b / 128) = v
  rw [Nat.xor_assoc, Nat.xor_assoc, ← Nat.xor_assoc q, Nat.xor_comm q u, Nat.xor_assoc u]
theorem xlt {a b : Nat} (ha : a < 256) (hb : b < 256) : a ^^^ b < 256 := Nat.xor_lt_two_pow (n := 8) ha hb
theorem mxA_lt {f : Nat → Nat} (hf : ∀ i, i < 16 → f i < 256) (i : Nat) (hi : i < 16) : mxA f i < 256 := by
  have h : ∀ k, f (4 * (i / 4) + (i % 4 + k) % 4) < 256 := fun k => hf _ (by omega)
  have h0 : f (4 * (i / 4) + i % 4) < 256 := hf _ (by omega)
  exact xlt (xlt (xlt (dbl_lt h0) (dbl_lt (h 1))) (h 1)) (xlt (h 2) (h 3))
theorem mvA_lt {s f : Nat → Nat} (hs : ∀ x, s x < 256) (i : Nat) : mvA s f i < 256 := hs _
theorem addK_lt {W f : Nat → Nat} {r : Nat} (hf : ∀ i, i < 16 → f i < 256) (i : Nat) (hi : i < 16) : addK W r f i < 256 := xlt (hf i hi) (numB_lt _ _ _)
theorem encK_lt {s W f : Nat → Nat} (hs : ∀ x, s x < 256) (hf : ∀ i, i < 16 → f i < 256) : ∀ r i, i < 16 → encK s W f r i < 256
  | 0, i, hi => addK_lt hf i hi
  | r + 1, i, hi => by
    show addK W (r + 1) (if r + 1 < 14 then mxA (mvA s (encK s W f r)) else mvA s (encK s W f r)) i < 256
    split
    · exact addK_lt (mxA_lt fun j _ => mvA_lt hs j) i hi
    · exact addK_lt (fun j _ => mvA_lt hs j) i hi
theorem xor_cancel {a b c : Nat} (h : a ^^^ c = b ^^^ c) : a = b := by
  have := congrArg (· ^^^ c) h
  simp only [Nat.xor_assoc, Nat.xor_self, Nat.xor_zero] at this; exact this
theorem addK_inj {W f g : Nat → Nat} {r : Nat} (h : ∀ i, i < 16 → addK W r f i = addK W r g i) : ∀ i, i < 16 → f i = g i := fun i hi => xor_cancel (h i hi)
theorem mvA_inj {s f g : Nat → Nat} (hs : ∀ x y, x < 256 → y < 256 → s x = s y → x = y) (hf : ∀ i, i < 16 → f i < 256) (hg : ∀ i, i < 16 → g i < 256) (h : ∀ i, i < 16 → mvA s f i = mvA s g i) : ∀ i, i < 16 → f i = g i := fun i hi => by
  have := hs _ _ (hf _ (by omega)) (hg _ (by omega)) (h (4 * ((i / 4 + (4 - i % 4)) % 4) + i % 4) (by omega))
  have e : 4 * (((4 * ((i / 4 + (4 - i % 4)) % 4) + i % 4) / 4 + (4 * ((i / 4 + (4 - i % 4)) % 4) + i % 4) % 4) % 4) + (4 * ((i / 4 + (4 - i % 4)) % 4) + i % 4) % 4 = i := by omega
  rw [e] at this; exact this
/-- A column, four times mixed, is what it was. -/
def mc (a b c d : Nat) : Nat := dbl a ^^^ dbl b ^^^ b ^^^ (c ^^^ d)
theorem mc_two {a b c d : Nat} (ha : a < 256) (hb : b < 256) (hc : c < 256) (hd : d < 256) : mc (mc a b c d) (mc b c d a) (mc c d a b) (mc d a b c) = dbl (dbl a) ^^^ a ^^^ dbl (dbl c) := by
  have da := dbl_lt ha; have db := dbl_lt hb; have dc := dbl_lt hc; have dd := dbl_lt hd
  unfold mc
  have e1 : dbl (dbl a ^^^ dbl b ^^^ b ^^^ (c ^^^ d)) = dbl (dbl a) ^^^ dbl (dbl b) ^^^ dbl b ^^^ (dbl c ^^^ dbl d) := by
    rw [dbl_xor (xlt (xlt da db) hb) (xlt hc hd), dbl_xor (xlt da db) hb, dbl_xor da db, dbl_xor hc hd]
  have e2 : dbl (dbl b ^^^ dbl c ^^^ c ^^^ (d ^^^ a)) = dbl (dbl b) ^^^ dbl (dbl c) ^^^ dbl c ^^^ (dbl d ^^^ dbl a) := by
    rw [dbl_xor (xlt (xlt db dc) hc) (xlt hd ha), dbl_xor (xlt db dc) hc, dbl_xor db dc, dbl_xor hd ha]
  rw [e1, e2]
  generalize dbl (dbl a) = A2; generalize dbl (dbl b) = B2; generalize dbl (dbl c) = C2
  generalize dbl a = A; generalize dbl b = B; generalize dbl c = C; generalize dbl d = D
  simp only [Nat.xor_assoc, Nat.xor_comm, xor_left, Nat.xor_self, Nat.xor_zero, Nat.zero_xor, xor_self_left]
theorem mc_lt {a b c d : Nat} (ha : a < 256) (hb : b < 256) (hc : c < 256) (hd : d < 256) : mc a b c d < 256 := xlt (xlt (xlt (dbl_lt ha) (dbl_lt hb)) hb) (xlt hc hd)
def m2 (a c : Nat) : Nat := dbl (dbl a) ^^^ a ^^^ dbl (dbl c)
theorem m2_two {a c : Nat} (ha : a < 256) (hc : c < 256) : m2 (m2 a c) (m2 c a) = a := by
  have da := dbl_lt (dbl_lt ha); have dc := dbl_lt (dbl_lt hc)
  unfold m2
  have e1 : dbl (dbl (dbl (dbl a) ^^^ a ^^^ dbl (dbl c))) = dbl (dbl (dbl (dbl a))) ^^^ dbl (dbl a) ^^^ dbl (dbl (dbl (dbl c))) := by
    rw [dbl_xor (xlt da ha) dc, dbl_xor da ha, dbl_xor (xlt (dbl_lt da) (dbl_lt ha)) (dbl_lt dc), dbl_xor (dbl_lt da) (dbl_lt ha)]
  have e2 : dbl (dbl (dbl (dbl c) ^^^ c ^^^ dbl (dbl a))) = dbl (dbl (dbl (dbl c))) ^^^ dbl (dbl c) ^^^ dbl (dbl (dbl (dbl a))) := by
    rw [dbl_xor (xlt dc hc) da, dbl_xor dc hc, dbl_xor (xlt (dbl_lt dc) (dbl_lt hc)) (dbl_lt da), dbl_xor (dbl_lt dc) (dbl_lt hc)]
  rw [e1, e2]
  generalize dbl (dbl (dbl (dbl a))) = A4; generalize dbl (dbl (dbl (dbl c))) = C4
  generalize dbl (dbl a) = A2; generalize dbl (dbl c) = C2
  simp only [Nat.xor_assoc, Nat.xor_comm, xor_left, Nat.xor_self, Nat.xor_zero, Nat.zero_xor, xor_self_left]
/-- A column's four bytes come back. -/
theorem mc_inj {a b c d a' b' c' d' : Nat} (ha : a < 256) (hb : b < 256) (hc : c < 256) (hd : d < 256) (ha' : a' < 256) (hb' : b' < 256) (hc' : c' < 256) (hd' : d' < 256)
    (h0 : mc a b c d = mc a' b' c' d') (h1 : mc b c d a = mc b' c' d' a') (h2 : mc c d a b = mc c' d' a' b') (h3 : mc d a b c = mc d' a' b' c') : a = a' := by
  have s1 := mc_two ha hb hc hd
  have s2 := mc_two hc hd ha hb
  have t1 := mc_two ha' hb' hc' hd'
  have t2 := mc_two hc' hd' ha' hb'
  have e1 : m2 a c = m2 a' c' := by
    show dbl (dbl a) ^^^ a ^^^ dbl (dbl c) = dbl (dbl a') ^^^ a' ^^^ dbl (dbl c')
    rw [← s1, ← t1, h0, h1, h2, h3]
  have e2 : m2 c a = m2 c' a' := by
    show dbl (dbl c) ^^^ c ^^^ dbl (dbl a) = dbl (dbl c') ^^^ c' ^^^ dbl (dbl a')
    rw [← s2, ← t2, h0, h1, h2, h3]
  rw [← m2_two ha hc, ← m2_two ha' hc', e1, e2]
theorem mxA_mc (f : Nat → Nat) (i k : Nat) (hk : k < 4) : mxA f (4 * (i / 4) + k) = mc (f (4 * (i / 4) + k)) (f (4 * (i / 4) + (k + 1) % 4)) (f (4 * (i / 4) + (k + 2) % 4)) (f (4 * (i / 4) + (k + 3) % 4)) := by
  have e1 : (4 * (i / 4) + k) / 4 = i / 4 := by omega
  have e2 : (4 * (i / 4) + k) % 4 = k := by omega
  unfold mxA mc; rw [e1, e2]
theorem mxA_inj {f g : Nat → Nat} (hf : ∀ i, i < 16 → f i < 256) (hg : ∀ i, i < 16 → g i < 256) (h : ∀ i, i < 16 → mxA f i = mxA g i) : ∀ i, i < 16 → f i = g i := fun i hi => by
  have key : ∀ k, k < 4 → f (4 * (i / 4) + k) = g (4 * (i / 4) + k) := fun k hk => by
    have b : ∀ j, f (4 * (i / 4) + j % 4) < 256 := fun j => hf _ (by omega)
    have b' : ∀ j, g (4 * (i / 4) + j % 4) < 256 := fun j => hg _ (by omega)
    have bk : f (4 * (i / 4) + k) < 256 := hf _ (by omega)
    have bk' : g (4 * (i / 4) + k) < 256 := hg _ (by omega)
    have q : ∀ j, j < 4 → mc (f (4 * (i / 4) + j)) (f (4 * (i / 4) + (j + 1) % 4)) (f (4 * (i / 4) + (j + 2) % 4)) (f (4 * (i / 4) + (j + 3) % 4)) = mc (g (4 * (i / 4) + j)) (g (4 * (i / 4) + (j + 1) % 4)) (g (4 * (i / 4) + (j + 2) % 4)) (g (4 * (i / 4) + (j + 3) % 4)) := fun j hj => by
      rw [← mxA_mc f i j hj, ← mxA_mc g i j hj]; exact h _ (by omega)
    have q0 := q k hk
    have q1 := q ((k + 1) % 4) (by omega)
    have q2 := q ((k + 2) % 4) (by omega)
    have q3 := q ((k + 3) % 4) (by omega)
    have m1 : ((k + 1) % 4 + 1) % 4 = (k + 2) % 4 := by omega
    have m2 : ((k + 1) % 4 + 2) % 4 = (k + 3) % 4 := by omega
    have m3 : ((k + 1) % 4 + 3) % 4 = k := by omega
    have m4 : ((k + 2) % 4 + 1) % 4 = (k + 3) % 4 := by omega
    have m5 : ((k + 2) % 4 + 2) % 4 = k := by omega
    have m6 : ((k + 2) % 4 + 3) % 4 = (k + 1) % 4 := by omega
    have m7 : ((k + 3) % 4 + 1) % 4 = k := by omega
    have m8 : ((k + 3) % 4 + 2) % 4 = (k + 1) % 4 := by omega
    have m9 : ((k + 3) % 4 + 3) % 4 = (k + 2) % 4 := by omega
    rw [m1, m2, m3] at q1
    rw [m4, m5, m6] at q2
    rw [m7, m8, m9] at q3
    exact mc_inj bk (b _) (b _) (b _) bk' (b' _) (b' _) (b' _) q0 q1 q2 q3
  have := key (i % 4) (Nat.mod_lt _ (by decide))
  rw [show 4 * (i / 4) + i % 4 = i by omega] at this; exact this
/-- Unlike blocks are ciphered unlike. -/
theorem encK_inj {s W f g : Nat → Nat} (hs : ∀ x, s x < 256) (hi : ∀ x y, x < 256 → y < 256 → s x = s y → x = y) (hf : ∀ i, i < 16 → f i < 256) (hg : ∀ i, i < 16 → g i < 256) :
    ∀ r, (∀ i, i < 16 → encK s W f r i = encK s W g r i) → ∀ i, i < 16 → f i = g i
  | 0, h => addK_inj h
  | r + 1, h => by
    have h1 : ∀ i, i < 16 → (if r + 1 < 14 then mxA (mvA s (encK s W f r)) else mvA s (encK s W f r)) i = (if r + 1 < 14 then mxA (mvA s (encK s W g r)) else mvA s (encK s W g r)) i := addK_inj (r := r + 1) (W := W) h
    have h2 : ∀ i, i < 16 → mvA s (encK s W f r) i = mvA s (encK s W g r) i := by
      by_cases hr : r + 1 < 14
      · rw [if_pos hr, if_pos hr] at h1
        exact mxA_inj (fun j _ => mvA_lt hs j) (fun j _ => mvA_lt hs j) h1
      · rw [if_neg hr, if_neg hr] at h1; exact h1
    exact encK_inj hs hi hf hg r (mvA_inj hi (encK_lt hs hf r) (encK_lt hs hg r) h2)
end Go.Proofs.YtkcbckafibjflaaGreatDoor
