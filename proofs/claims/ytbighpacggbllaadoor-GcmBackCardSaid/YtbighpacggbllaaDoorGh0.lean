/- Blocks of 16 bytes as two words; products of them, bit by bit. -/
import Derived.Test.YtbighpacggbllaaDoorB16
import Derived.Test.YtbighpacggbllaaDoorAe0
import Derived.Test.YtbighpacggbllaaDoorRow
namespace Go.Proofs.YtbighpacggbllaaDoor
set_option linter.unusedVariables false
set_option linter.unusedSimpArgs false
open Go.RowKit

/-- Blocks: as two words. -/
def lowN : Nat := 0xe1 * 2 ^ 56
/-- Moved by one place: first, second. -/
def nx1 (a b : Nat) : Nat := a / 2 ^^^ (b % 2 * lowN)
def nx2 (a b : Nat) : Nat := b / 2 ||| (a * 2 ^ 63 % 2 ^ 64)
def vK (a b : Nat) : Nat → Nat × Nat
  | 0 => (a, b)
  | k + 1 => (nx1 (vK a b k).1 (vK a b k).2, nx2 (vK a b k).1 (vK a b k).2)
/-- Is a bit set? -/
def hasN (a b k : Nat) : Bool := if k < 64 then a * 2 ^ k % 2 ^ 64 / 2 ^ 63 == 1 else b * 2 ^ (k - 64) % 2 ^ 64 / 2 ^ 63 == 1
def zK (a b c d : Nat) : Nat → Nat × Nat
  | 0 => (0, 0)
  | k + 1 => if hasN a b k then ((zK a b c d k).1 ^^^ (vK c d k).1, (zK a b c d k).2 ^^^ (vK c d k).2) else zK a b c d k
def mulW (a b c d : Nat) : Nat × Nat := zK a b c d 128
theorem has_bit {a b k : Nat} (hk : k < 128) (ha : a < 2 ^ 64) (hb : b < 2 ^ 64) : hasN a b k = if k < 64 then a.testBit (63 - k) else b.testBit (127 - k) := by
  have key : ∀ x j, j < 64 → x < 2 ^ 64 → (x * 2 ^ j % 2 ^ 64 / 2 ^ 63 == 1) = x.testBit (63 - j) := by
    intro x j hj hx
    have h1 : x * 2 ^ j % 2 ^ 64 = x % 2 ^ (64 - j) * 2 ^ j := by
      have : (2 : Nat) ^ 64 = 2 ^ (64 - j) * 2 ^ j := by rw [← Nat.pow_add]; congr 1; omega
      rw [this, Nat.mul_mod_mul_right]
    have h2 : x % 2 ^ (64 - j) * 2 ^ j / 2 ^ 63 = x % 2 ^ (64 - j) / 2 ^ (63 - j) := by
      have : (2 : Nat) ^ 63 = 2 ^ (63 - j) * 2 ^ j := by rw [← Nat.pow_add]; congr 1; omega
      rw [this, Nat.mul_div_mul_right _ _ (Nat.pow_pos (by decide))]
    rw [h1, h2, Nat.testBit_eq_decide_div_mod_eq]
    have h3 : x % 2 ^ (64 - j) / 2 ^ (63 - j) = x / 2 ^ (63 - j) % 2 := by
      have : (2 : Nat) ^ (64 - j) = 2 ^ (63 - j) * 2 := by rw [← Nat.pow_succ]; congr 1; omega
      rw [this, Nat.mod_mul_right_div_self]
    rw [h3]
    by_cases h : x / 2 ^ (63 - j) % 2 = 1 <;> simp [h]
  unfold hasN
  by_cases h : k < 64
  · rw [if_pos h, if_pos h]; exact key a k h ha
  · rw [if_neg h, if_neg h]
    have := key b (k - 64) (by omega) hb
    rw [this]; congr 1; omega
theorem zK_xor (a b a' b' c d : Nat) (ha : a < 2 ^ 64) (hb : b < 2 ^ 64) (ha' : a' < 2 ^ 64) (hb' : b' < 2 ^ 64) : ∀ k, k ≤ 128 → zK (a ^^^ a') (b ^^^ b') c d k = ((zK a b c d k).1 ^^^ (zK a' b' c d k).1, (zK a b c d k).2 ^^^ (zK a' b' c d k).2)
  | 0, _ => by simp [zK]
  | k + 1, hk => by
    have ih := zK_xor a b a' b' c d ha hb ha' hb' k (by omega)
    have hx : hasN (a ^^^ a') (b ^^^ b') k = (hasN a b k ^^ hasN a' b' k) := by
      rw [has_bit (by omega) ha hb, has_bit (by omega) ha' hb', has_bit (by omega) (Nat.xor_lt_two_pow ha ha') (Nat.xor_lt_two_pow hb hb')]
      split <;> rw [Nat.testBit_xor]
    show (if hasN (a ^^^ a') (b ^^^ b') k then _ else _) = _
    rw [hx, ih]
    show _ = ((if hasN a b k then ((zK a b c d k).1 ^^^ (vK c d k).1, (zK a b c d k).2 ^^^ (vK c d k).2) else zK a b c d k).1 ^^^ (if hasN a' b' k then ((zK a' b' c d k).1 ^^^ (vK c d k).1, (zK a' b' c d k).2 ^^^ (vK c d k).2) else zK a' b' c d k).1, (if hasN a b k then ((zK a b c d k).1 ^^^ (vK c d k).1, (zK a b c d k).2 ^^^ (vK c d k).2) else zK a b c d k).2 ^^^ (if hasN a' b' k then ((zK a' b' c d k).1 ^^^ (vK c d k).1, (zK a' b' c d k).2 ^^^ (vK c d k).2) else zK a' b' c d k).2)
    have x1 : ∀ p q v : Nat, p ^^^ q ^^^ v = p ^^^ (q ^^^ v) := fun p q v => Nat.xor_assoc p q v
    have x2 : ∀ p q v : Nat, p ^^^ q ^^^ v = (p ^^^ v) ^^^ q := fun p q v => by rw [Nat.xor_assoc, Nat.xor_comm q, ← Nat.xor_assoc]
    have x3 : ∀ p q v : Nat, p ^^^ q = (p ^^^ v) ^^^ (q ^^^ v) := fun p q v => by
      refine Nat.eq_of_testBit_eq fun i => ?_
      simp only [Nat.testBit_xor]
      cases p.testBit i <;> cases q.testBit i <;> cases v.testBit i <;> rfl
    cases hasN a b k <;> cases hasN a' b' k
    · rfl
    · exact Prod.ext (x1 _ _ _) (x1 _ _ _)
    · exact Prod.ext (x2 _ _ _) (x2 _ _ _)
    · exact Prod.ext (x3 _ _ _) (x3 _ _ _)

/-- Bytes as a number, the highest first. -/
def beX (f : Nat → Nat) (a : Nat) : Nat → Nat | 0 => 0 | k + 1 => beX f a k * 256 + f (a + k)
theorem beX_lt {f : Nat → Nat} {a : Nat} : ∀ k, (∀ i, i < k → f (a + i) < 256) → beX f a k < 256 ^ k
  | 0, _ => Nat.one_pos
  | k + 1, h => by
    have h1 := beX_lt k fun i hi => h i (by omega)
    have h2 := h k (by omega)
    show beX f a k * 256 + f (a + k) < 256 ^ (k + 1)
    rw [Nat.pow_succ]; omega
/-- A block out of two words; products, sums. -/
def blkF (a b : Nat) : Nat → Nat := fun i => if i < 8 then numB a 8 i else numB b 8 (i - 8)
theorem blkF_lt (a b i : Nat) : blkF a b i < 256 := by unfold blkF; split <;> exact numB_lt _ _ _
def hiW (f : Nat → Nat) : Nat := beX f 0 8
def loW (f : Nat → Nat) : Nat := beX f 8 8
def mulF (f g : Nat → Nat) : Nat → Nat := blkF (mulW (hiW f) (loW f) (hiW g) (loW g)).1 (mulW (hiW f) (loW f) (hiW g) (loW g)).2
def addF (f g : Nat → Nat) : Nat → Nat := fun i => f i ^^^ g i
theorem hiW_lt {f : Nat → Nat} (hf : ∀ i, i < 16 → f i < 256) : hiW f < 18446744073709551616 := by
  have := beX_lt (f := f) (a := 0) 8 (fun i hi => hf _ (by omega)); simpa [hiW] using this
theorem loW_lt {f : Nat → Nat} (hf : ∀ i, i < 16 → f i < 256) : loW f < 18446744073709551616 := by
  have := beX_lt (f := f) (a := 8) 8 (fun i hi => hf _ (by omega)); simpa [loW] using this
theorem nx1_lt {a b : Nat} (ha : a < 2 ^ 64) : nx1 a b < 2 ^ 64 := by
  unfold nx1 lowN
  refine Nat.xor_lt_two_pow (by omega) ?_
  have : b % 2 < 2 := Nat.mod_lt _ (by decide)
  omega
theorem nx2_lt {a b : Nat} (hb : b < 2 ^ 64) : nx2 a b < 2 ^ 64 := by
  unfold nx2
  exact Nat.or_lt_two_pow (by omega) (Nat.mod_lt _ (by decide))
theorem vK_lt {a b : Nat} (ha : a < 2 ^ 64) (hb : b < 2 ^ 64) : ∀ k, (vK a b k).1 < 2 ^ 64 ∧ (vK a b k).2 < 2 ^ 64
  | 0 => ⟨ha, hb⟩
  | k + 1 => ⟨nx1_lt (vK_lt ha hb k).1, nx2_lt (vK_lt ha hb k).2⟩
theorem zK_lt {a b c d : Nat} (hc : c < 2 ^ 64) (hd : d < 2 ^ 64) : ∀ k, (zK a b c d k).1 < 2 ^ 64 ∧ (zK a b c d k).2 < 2 ^ 64
  | 0 => ⟨Nat.two_pow_pos 64, Nat.two_pow_pos 64⟩
  | k + 1 => by
    have h1 := zK_lt (a := a) (b := b) hc hd k
    have h2 := vK_lt hc hd k
    show (if hasN a b k then ((zK a b c d k).1 ^^^ (vK c d k).1, (zK a b c d k).2 ^^^ (vK c d k).2) else zK a b c d k).1 < _ ∧ (if hasN a b k then ((zK a b c d k).1 ^^^ (vK c d k).1, (zK a b c d k).2 ^^^ (vK c d k).2) else zK a b c d k).2 < _
    split
    · exact ⟨Nat.xor_lt_two_pow h1.1 h2.1, Nat.xor_lt_two_pow h1.2 h2.2⟩
    · exact h1
theorem pair_xor (a b x y : Nat) (hx : x < 256) (hy : y < 256) : (a * 256 + x) ^^^ (b * 256 + y) = (a ^^^ b) * 256 + (x ^^^ y) := by
  have h : ∀ n m, m < 256 → n * 256 + m = n <<< 8 ||| m := fun n m hm => by
    rw [Nat.shiftLeft_eq, show (256 : Nat) = 2 ^ 8 from rfl, Nat.mul_comm, Nat.two_pow_add_eq_or_of_lt (by simpa using hm)]
  rw [h a x hx, h b y hy, h (a ^^^ b) (x ^^^ y) (Nat.xor_lt_two_pow (n := 8) hx hy)]
  refine Nat.eq_of_testBit_eq fun i => ?_
  simp only [Nat.testBit_xor, Nat.testBit_or, Nat.testBit_shiftLeft]
  by_cases hi : 8 ≤ i
  · have hx' : x.testBit i = false := Nat.testBit_lt_two_pow (Nat.lt_of_lt_of_le hx (Nat.pow_le_pow_right (n := 2) (by decide) hi))
    have hy' : y.testBit i = false := Nat.testBit_lt_two_pow (Nat.lt_of_lt_of_le hy (Nat.pow_le_pow_right (n := 2) (by decide) hi))
    simp [hi, hx', hy']
  · simp [hi]
theorem beX_xor {f g : Nat → Nat} {a : Nat} : ∀ k, (∀ i, i < k → f (a + i) < 256) → (∀ i, i < k → g (a + i) < 256) → beX (addF f g) a k = beX f a k ^^^ beX g a k
  | 0, _, _ => (show (0 : Nat) = 0 ^^^ 0 by decide)
  | k + 1, hf, hg => by
    show beX (addF f g) a k * 256 + (f (a + k) ^^^ g (a + k)) = _
    rw [beX_xor k (fun i hi => hf i (by omega)) (fun i hi => hg i (by omega))]
    exact (pair_xor _ _ _ _ (hf k (by omega)) (hg k (by omega))).symm
theorem numB_xor (n m s i : Nat) : numB (n ^^^ m) s i = numB n s i ^^^ numB m s i := by
  unfold numB
  rw [show (256 : Nat) ^ (s - 1 - i) = 2 ^ (8 * (s - 1 - i)) by rw [Nat.pow_mul]]
  rw [← Nat.shiftRight_eq_div_pow, ← Nat.shiftRight_eq_div_pow, ← Nat.shiftRight_eq_div_pow, Nat.shiftRight_xor_distrib]
  rw [show (256 : Nat) = 2 ^ 8 from rfl, Nat.xor_mod_two_pow]
theorem mulF_add {f f' g : Nat → Nat} (hf : ∀ i, i < 16 → f i < 256) (hf' : ∀ i, i < 16 → f' i < 256) : mulF (addF f f') g = addF (mulF f g) (mulF f' g) := by
  have e1 : hiW (addF f f') = hiW f ^^^ hiW f' := beX_xor 8 (fun i hi => hf _ (by omega)) (fun i hi => hf' _ (by omega))
  have e2 : loW (addF f f') = loW f ^^^ loW f' := beX_xor 8 (fun i hi => hf _ (by omega)) (fun i hi => hf' _ (by omega))
  have e3 := zK_xor (hiW f) (loW f) (hiW f') (loW f') (hiW g) (loW g) (hiW_lt hf) (loW_lt hf) (hiW_lt hf') (loW_lt hf') 128 (Nat.le_refl _)
  funext i
  unfold mulF mulW
  rw [e1, e2, e3]
  unfold addF blkF
  split <;> exact numB_xor _ _ _ _
end Go.Proofs.YtbighpacggbllaaDoor
