/- The field of blocks: products of two words, put together by whatever way; a product is nought just if a factor is. -/
import Derived.Test.YtbighpacggbllaaDoorGh6
import Derived.ProofKit
namespace Go.Proofs.YtbighpacggbllaaDoor
set_option linter.unusedVariables false
set_option linter.unusedSimpArgs false
open Go.RowKit

/-- Two words as one number of the field. -/
def px (p q : Nat × Nat) : Nat × Nat := (p.1 ^^^ q.1, p.2 ^^^ q.2)
def nxP (p : Nat × Nat) : Nat × Nat := (nx1 p.1 p.2, nx2 p.1 p.2)
def bdP (p : Nat × Nat) : Prop := p.1 < 2 ^ 64 ∧ p.2 < 2 ^ 64
def vP (p : Nat × Nat) (k : Nat) : Nat × Nat := vK p.1 p.2 k
def zP (p q : Nat × Nat) (k : Nat) : Nat × Nat := zK p.1 p.2 q.1 q.2 k
def mP (p q : Nat × Nat) : Nat × Nat := zP p q 128
def noP : Nat × Nat := (0, 0)
def oneP : Nat × Nat := (2 ^ 63, 0)
theorem bd_px {p q : Nat × Nat} (hp : bdP p) (hq : bdP q) : bdP (px p q) := ⟨Nat.xor_lt_two_pow hp.1 hq.1, Nat.xor_lt_two_pow hp.2 hq.2⟩
theorem bd_nx {p : Nat × Nat} (hp : bdP p) : bdP (nxP p) := ⟨nx1_lt hp.1, nx2_lt hp.2⟩
theorem bd_v {p : Nat × Nat} (hp : bdP p) (k : Nat) : bdP (vP p k) := vK_lt hp.1 hp.2 k
theorem bd_z (p : Nat × Nat) {q : Nat × Nat} (hq : bdP q) (k : Nat) : bdP (zP p q k) := zK_lt hq.1 hq.2 k
theorem bd_m (p : Nat × Nat) {q : Nat × Nat} (hq : bdP q) : bdP (mP p q) := bd_z p hq 128
theorem bd_no : bdP noP := ⟨by decide, by decide⟩
theorem bd_one : bdP oneP := ⟨by decide, by decide⟩
theorem px_comm (p q : Nat × Nat) : px p q = px q p := Prod.ext (Nat.xor_comm _ _) (Nat.xor_comm _ _)
theorem px_assoc (p q r : Nat × Nat) : px (px p q) r = px p (px q r) := Prod.ext (Nat.xor_assoc _ _ _) (Nat.xor_assoc _ _ _)
theorem px_self (p : Nat × Nat) : px p p = noP := Prod.ext (Nat.xor_self _) (Nat.xor_self _)
theorem px_no (p : Nat × Nat) : px p noP = p := Prod.ext (Nat.xor_zero _) (Nat.xor_zero _)
theorem no_px (p : Nat × Nat) : px noP p = p := Prod.ext (Nat.zero_xor _) (Nat.zero_xor _)
theorem px_four (a b c d : Nat × Nat) : px (px a b) (px c d) = px (px a c) (px b d) := by
  rw [px_assoc, ← px_assoc b, px_comm b c, px_assoc c, ← px_assoc]
theorem px_cancel {p q : Nat × Nat} (h : px p q = noP) : p = q := by
  have := congrArg (fun x => px x q) h
  simp only [px_assoc, px_self, px_no, no_px] at this; exact this
theorem v_zero (p : Nat × Nat) : vP p 0 = p := rfl
theorem z_zero (p q : Nat × Nat) : zP p q 0 = noP := rfl
theorem v_succ (p : Nat × Nat) (k : Nat) : vP p (k + 1) = nxP (vP p k) := rfl
theorem z_succ (p q : Nat × Nat) (k : Nat) : zP p q (k + 1) = if hasN p.1 p.2 k then px (zP p q k) (vP q k) else zP p q k := rfl
theorem nx_xor {p q : Nat × Nat} (hp : bdP p) (hq : bdP q) : nxP (px p q) = px (nxP p) (nxP q) := by
  refine Prod.ext ?_ ?_
  · show (p.1 ^^^ q.1) / 2 ^^^ ((p.2 ^^^ q.2) % 2 * lowN) = (p.1 / 2 ^^^ (p.2 % 2 * lowN)) ^^^ (q.1 / 2 ^^^ (q.2 % 2 * lowN))
    have h1 : (p.1 ^^^ q.1) / 2 = p.1 / 2 ^^^ q.1 / 2 := by
      have := Nat.shiftRight_xor_distrib (a := p.1) (b := q.1) (i := 1)
      simpa [Nat.shiftRight_eq_div_pow] using this
    have h2 : (p.2 ^^^ q.2) % 2 * lowN = (p.2 % 2 * lowN) ^^^ (q.2 % 2 * lowN) := by
      have e : (p.2 ^^^ q.2) % 2 = (p.2 % 2) ^^^ (q.2 % 2) := by
        have := @Nat.xor_mod_two_pow p.2 q.2 1
        simpa using this
      rw [e]
      rcases Nat.mod_two_eq_zero_or_one p.2 with h | h <;> rcases Nat.mod_two_eq_zero_or_one q.2 with h' | h' <;> rw [h, h'] <;> decide
    rw [h1, h2]
    generalize p.1 / 2 = a; generalize q.1 / 2 = b; generalize p.2 % 2 * lowN = c; generalize q.2 % 2 * lowN = d
    rw [Nat.xor_assoc, Nat.xor_assoc, ← Nat.xor_assoc b, Nat.xor_comm b c, Nat.xor_assoc c]
  · show ((p.2 ^^^ q.2) / 2 ||| ((p.1 ^^^ q.1) * 2 ^ 63 % 2 ^ 64)) = (p.2 / 2 ||| (p.1 * 2 ^ 63 % 2 ^ 64)) ^^^ (q.2 / 2 ||| (q.1 * 2 ^ 63 % 2 ^ 64))
    refine Nat.eq_of_testBit_eq fun i => ?_
    simp only [Nat.testBit_or, Nat.testBit_xor, Nat.testBit_div_two, Nat.testBit_mod_two_pow, ← Nat.shiftLeft_eq, Nat.testBit_shiftLeft]
    by_cases h : i < 63
    · have h1 : ¬ 63 ≤ i := by omega
      simp [h1]
    · have hp2 : p.2.testBit (i + 1) = false := Nat.testBit_lt_two_pow (Nat.lt_of_lt_of_le hp.2 (Nat.pow_le_pow_right (by decide) (by omega)))
      have hq2 : q.2.testBit (i + 1) = false := Nat.testBit_lt_two_pow (Nat.lt_of_lt_of_le hq.2 (Nat.pow_le_pow_right (by decide) (by omega)))
      rw [hp2, hq2]
      by_cases h2 : i < 64 <;> simp [h2, show 63 ≤ i by omega]
theorem nx_no : nxP noP = noP := by decide
theorem v_nx (p : Nat × Nat) : ∀ k, vP (nxP p) k = nxP (vP p k)
  | 0 => rfl
  | k + 1 => by rw [v_succ, v_succ, v_nx p k]
theorem v_xor {p q : Nat × Nat} (hp : bdP p) (hq : bdP q) : ∀ k, vP (px p q) k = px (vP p k) (vP q k)
  | 0 => rfl
  | k + 1 => by rw [v_succ, v_xor hp hq k, nx_xor (bd_v hp k) (bd_v hq k)]; rfl
theorem z_xor2 (a : Nat × Nat) {p q : Nat × Nat} (hp : bdP p) (hq : bdP q) : ∀ k, zP a (px p q) k = px (zP a p k) (zP a q k)
  | 0 => by rw [z_zero, z_zero, z_zero]; decide
  | k + 1 => by
    rw [z_succ, z_succ, z_succ, z_xor2 a hp hq k, v_xor hp hq]
    split
    · exact px_four _ _ _ _
    · rfl
theorem z_xor1 {a b : Nat × Nat} (ha : bdP a) (hb : bdP b) (c : Nat × Nat) (k : Nat) (hk : k ≤ 128) : zP (px a b) c k = px (zP a c k) (zP b c k) :=
  zK_xor a.1 a.2 b.1 b.2 c.1 c.2 ha.1 ha.2 hb.1 hb.2 k hk
theorem z_nx (a : Nat × Nat) {p : Nat × Nat} (hp : bdP p) : ∀ k, zP a (nxP p) k = nxP (zP a p k)
  | 0 => nx_no.symm
  | k + 1 => by
    rw [z_succ, z_succ, z_nx a hp k, v_nx]
    split
    · exact (nx_xor (bd_z a hp k) (bd_v hp k)).symm
    · rfl
theorem m_v (a : Nat × Nat) {p : Nat × Nat} (hp : bdP p) : ∀ k, mP a (vP p k) = vP (mP a p) k
  | 0 => by rw [v_zero, v_zero]
  | k + 1 => by rw [v_succ, v_succ, ← m_v a hp k]; exact z_nx a (bd_v hp k) 128
theorem z_no (a : Nat × Nat) : ∀ k, zP a noP k = noP
  | 0 => rfl
  | k + 1 => by
    have hv : ∀ k, vP noP k = noP := fun k => by
      induction k with
      | zero => rfl
      | succ k ih => rw [v_succ, ih]; exact nx_no
    rw [z_succ, z_no a k, hv]
    split
    · exact px_no _
    · rfl
theorem m_z (a b : Nat × Nat) {c : Nat × Nat} (hc : bdP c) : ∀ k, mP a (zP b c k) = zP b (mP a c) k
  | 0 => by rw [z_zero, z_zero]; exact z_no a 128
  | k + 1 => by
    rw [z_succ, z_succ, ← m_z a b hc k, ← m_v a hc k]
    split
    · exact z_xor2 a (bd_z b hc k) (bd_v hc k) 128
    · rfl
theorem m_swap (a b : Nat × Nat) {c : Nat × Nat} (hc : bdP c) : mP a (mP b c) = mP b (mP a c) := m_z a b hc 128
/-- What 1 is, moved on. -/
theorem one_v : ∀ k, k < 128 → vP oneP k = if k < 64 then (2 ^ (63 - k), 0) else (0, 2 ^ (127 - k))
  | 0, _ => rfl
  | k + 1, h => by
    rw [v_succ, one_v k (by omega)]
    by_cases h1 : k + 1 < 64
    · rw [if_pos (by omega), if_pos h1]
      refine Prod.ext ?_ ?_
      · show (2 ^ (63 - k)) / 2 ^^^ (0 % 2 * lowN) = 2 ^ (63 - (k + 1))
        rw [show 63 - k = (63 - (k + 1)) + 1 by omega, Nat.pow_succ]; simp
      · show (0 / 2 ||| ((2 ^ (63 - k)) * 2 ^ 63 % 2 ^ 64)) = 0
        rw [show 63 - k = (63 - (k + 1)) + 1 by omega, Nat.pow_succ, Nat.mul_assoc, show 2 * 2 ^ 63 = 2 ^ 64 from rfl, Nat.mul_mod_left]; rfl
    · by_cases h2 : k < 64
      · obtain rfl : k = 63 := by omega
        decide
      · rw [if_neg h2, if_neg h1]
        have e : 127 - k = (127 - (k + 1)) + 1 := by omega
        refine Prod.ext ?_ ?_
        · show 0 / 2 ^^^ ((2 ^ (127 - k)) % 2 * lowN) = 0
          rw [e, Nat.pow_succ, Nat.mul_mod_left]; simp
        · show ((2 ^ (127 - k)) / 2 ||| (0 * 2 ^ 63 % 2 ^ 64)) = 2 ^ (127 - (k + 1))
          rw [e, Nat.pow_succ]; simp
theorem z_one {a : Nat × Nat} (ha : bdP a) : ∀ k, k ≤ 128 → ∀ i, (zP a oneP k).1.testBit i = (a.1.testBit i && decide (64 ≤ i + k)) ∧ (zP a oneP k).2.testBit i = (a.2.testBit i && decide (128 ≤ i + k))
  | 0, _, i => by
    show (0 : Nat).testBit i = _ ∧ (0 : Nat).testBit i = _
    rw [Nat.zero_testBit]
    constructor
    · by_cases h : 64 ≤ i
      · rw [Nat.testBit_lt_two_pow (Nat.lt_of_lt_of_le ha.1 (Nat.pow_le_pow_right (by decide) h))]; rfl
      · rw [decide_eq_false (by omega)]; simp
    · by_cases h : 64 ≤ i
      · rw [Nat.testBit_lt_two_pow (Nat.lt_of_lt_of_le ha.2 (Nat.pow_le_pow_right (by decide) h))]; rfl
      · rw [decide_eq_false (by omega)]; simp
  | k + 1, hk, i => by
    obtain ⟨h1, h2⟩ := z_one ha k (by omega) i
    rw [z_succ, one_v k (by omega), has_bit (by omega) ha.1 ha.2]
    by_cases hk6 : k < 64
    · rw [if_pos hk6, if_pos hk6]
      by_cases hb : a.1.testBit (63 - k) = true
      · rw [if_pos hb]
        constructor
        · show ((zP a oneP k).1 ^^^ 2 ^ (63 - k)).testBit i = _
          rw [Nat.testBit_xor, h1, Nat.testBit_two_pow]
          by_cases hi : 63 - k = i
          · subst hi; rw [hb, decide_eq_false (show ¬ 64 ≤ 63 - k + k by omega), decide_eq_true rfl, decide_eq_true (show 64 ≤ 63 - k + (k + 1) by omega)]; rfl
          · rw [decide_eq_false hi]
            by_cases h3 : 64 ≤ i + k
            · rw [decide_eq_true h3, decide_eq_true (show 64 ≤ i + (k + 1) by omega)]; simp
            · rw [decide_eq_false h3, decide_eq_false (show ¬ 64 ≤ i + (k + 1) by omega)]; simp
        · show ((zP a oneP k).2 ^^^ 0).testBit i = _
          rw [Nat.xor_zero, h2]
          by_cases h3 : 64 ≤ i
          · rw [Nat.testBit_lt_two_pow (Nat.lt_of_lt_of_le ha.2 (Nat.pow_le_pow_right (by decide) h3))]; rfl
          · rw [decide_eq_false (show ¬ 128 ≤ i + k by omega), decide_eq_false (show ¬ 128 ≤ i + (k + 1) by omega)]
      · rw [if_neg hb]
        rw [h1, h2]
        constructor
        · by_cases hi : 63 - k = i
          · subst hi; simp only [Bool.not_eq_true] at hb; rw [hb]; rfl
          · by_cases h3 : 64 ≤ i + k
            · rw [decide_eq_true h3, decide_eq_true (show 64 ≤ i + (k + 1) by omega)]
            · rw [decide_eq_false h3, decide_eq_false (show ¬ 64 ≤ i + (k + 1) by omega)]
        · by_cases h3 : 64 ≤ i
          · rw [Nat.testBit_lt_two_pow (Nat.lt_of_lt_of_le ha.2 (Nat.pow_le_pow_right (by decide) h3))]; rfl
          · rw [decide_eq_false (show ¬ 128 ≤ i + k by omega), decide_eq_false (show ¬ 128 ≤ i + (k + 1) by omega)]
    · rw [if_neg hk6, if_neg hk6]
      by_cases hb : a.2.testBit (127 - k) = true
      · rw [if_pos hb]
        constructor
        · show ((zP a oneP k).1 ^^^ 0).testBit i = _
          rw [Nat.xor_zero, h1, decide_eq_true (show 64 ≤ i + k by omega), decide_eq_true (show 64 ≤ i + (k + 1) by omega)]
        · show ((zP a oneP k).2 ^^^ 2 ^ (127 - k)).testBit i = _
          rw [Nat.testBit_xor, h2, Nat.testBit_two_pow]
          by_cases hi : 127 - k = i
          · subst hi; rw [hb, decide_eq_false (show ¬ 128 ≤ 127 - k + k by omega), decide_eq_true rfl, decide_eq_true (show 128 ≤ 127 - k + (k + 1) by omega)]; rfl
          · rw [decide_eq_false hi]
            by_cases h3 : 128 ≤ i + k
            · rw [decide_eq_true h3, decide_eq_true (show 128 ≤ i + (k + 1) by omega)]; simp
            · rw [decide_eq_false h3, decide_eq_false (show ¬ 128 ≤ i + (k + 1) by omega)]; simp
      · rw [if_neg hb, h1, h2]
        constructor
        · rw [decide_eq_true (show 64 ≤ i + k by omega), decide_eq_true (show 64 ≤ i + (k + 1) by omega)]
        · by_cases hi : 127 - k = i
          · subst hi; simp only [Bool.not_eq_true] at hb; rw [hb]; rfl
          · by_cases h3 : 128 ≤ i + k
            · rw [decide_eq_true h3, decide_eq_true (show 128 ≤ i + (k + 1) by omega)]
            · rw [decide_eq_false h3, decide_eq_false (show ¬ 128 ≤ i + (k + 1) by omega)]
theorem m_one {a : Nat × Nat} (ha : bdP a) : mP a oneP = a := by
  have h := z_one ha 128 (Nat.le_refl _)
  refine Prod.ext (Nat.eq_of_testBit_eq fun i => ?_) (Nat.eq_of_testBit_eq fun i => ?_)
  · show (zP a oneP 128).1.testBit i = _
    rw [(h i).1, decide_eq_true (by omega), Bool.and_true]
  · show (zP a oneP 128).2.testBit i = _
    rw [(h i).2, decide_eq_true (by omega), Bool.and_true]
theorem m_comm {a b : Nat × Nat} (ha : bdP a) (hb : bdP b) : mP a b = mP b a := by
  have h := m_swap a b bd_one
  rw [m_one ha, m_one hb] at h; exact h
theorem m_assoc {a b c : Nat × Nat} (ha : bdP a) (hb : bdP b) (hc : bdP c) : mP a (mP b c) = mP (mP a b) c := by
  rw [m_comm hb hc, m_swap a c hb, m_comm hc (bd_m a hb)]
theorem m_add2 (a : Nat × Nat) {p q : Nat × Nat} (hp : bdP p) (hq : bdP q) : mP a (px p q) = px (mP a p) (mP a q) := z_xor2 a hp hq 128
theorem m_add1 {a b : Nat × Nat} (ha : bdP a) (hb : bdP b) (c : Nat × Nat) : mP (px a b) c = px (mP a c) (mP b c) := z_xor1 ha hb c 128 (Nat.le_refl _)
theorem m_no (a : Nat × Nat) : mP a noP = noP := z_no a 128
theorem no_m {a : Nat × Nat} (ha : bdP a) : mP noP a = noP := by rw [m_comm bd_no ha]; exact m_no a
theorem one_m {a : Nat × Nat} (ha : bdP a) : mP oneP a = a := by rw [m_comm bd_one ha]; exact m_one ha
/-- Squares, again and again. -/
def sqK (a : Nat × Nat) : Nat → Nat × Nat | 0 => a | k + 1 => mP (sqK a k) (sqK a k)
theorem bd_sq {a : Nat × Nat} (ha : bdP a) : ∀ k, bdP (sqK a k)
  | 0 => ha
  | k + 1 => bd_m _ (bd_sq ha k)
theorem sq1_add {a b : Nat × Nat} (ha : bdP a) (hb : bdP b) : mP (px a b) (px a b) = px (mP a a) (mP b b) := by
  rw [m_add2 _ ha hb, m_add1 ha hb, m_add1 ha hb, m_comm hb ha, px_assoc, ← px_assoc (mP a b), px_self, no_px]
theorem sq_add {a b : Nat × Nat} (ha : bdP a) (hb : bdP b) : ∀ k, sqK (px a b) k = px (sqK a k) (sqK b k)
  | 0 => rfl
  | k + 1 => by
    show mP (sqK (px a b) k) (sqK (px a b) k) = _
    rw [sq_add ha hb k, sq1_add (bd_sq ha k) (bd_sq hb k)]; rfl
theorem sq1_m {a b : Nat × Nat} (ha : bdP a) (hb : bdP b) : mP (mP a b) (mP a b) = mP (mP a a) (mP b b) := by
  rw [← m_assoc ha hb (bd_m a hb), m_assoc hb ha hb, m_comm hb ha, ← m_assoc ha hb hb, m_assoc ha ha (bd_m b hb)]
theorem sq_m {a b : Nat × Nat} (ha : bdP a) (hb : bdP b) : ∀ k, sqK (mP a b) k = mP (sqK a k) (sqK b k)
  | 0 => rfl
  | k + 1 => by
    show mP (sqK (mP a b) k) (sqK (mP a b) k) = _
    rw [sq_m ha hb k, sq1_m (bd_sq ha k) (bd_sq hb k)]; rfl
theorem sq_one : ∀ k, sqK oneP k = oneP
  | 0 => rfl
  | k + 1 => by
    show mP (sqK oneP k) (sqK oneP k) = _
    rw [sq_one k]; exact m_one bd_one
theorem sq_no : ∀ k, sqK noP k = noP
  | 0 => rfl
  | k + 1 => by
    show mP (sqK noP k) (sqK noP k) = _
    rw [sq_no k]; exact m_no _
/-- Reckoned step by step. -/
def zT (a b : Nat) : Nat → Nat → Nat → Nat → Nat → Nat → Nat × Nat
  | 0, _, _, _, x, y => (x, y)
  | n + 1, k, c, d, x, y => bif hasN a b k then zT a b n (k + 1) (nx1 c d) (nx2 c d) (x ^^^ c) (y ^^^ d) else zT a b n (k + 1) (nx1 c d) (nx2 c d) x y
theorem zT_eq (p q : Nat × Nat) : ∀ n k, zT p.1 p.2 n k (vP q k).1 (vP q k).2 (zP p q k).1 (zP p q k).2 = zP p q (k + n)
  | 0, _ => rfl
  | n + 1, k => by
    show (bif hasN p.1 p.2 k then zT p.1 p.2 n (k + 1) (vP q (k + 1)).1 (vP q (k + 1)).2 (px (zP p q k) (vP q k)).1 (px (zP p q k) (vP q k)).2 else zT p.1 p.2 n (k + 1) (vP q (k + 1)).1 (vP q (k + 1)).2 (zP p q k).1 (zP p q k).2) = _
    have ih := zT_eq p q n (k + 1)
    rw [z_succ] at ih
    rw [show k + (n + 1) = k + 1 + n by omega, ← ih]
    cases hasN p.1 p.2 k <;> rfl
theorem mP_T (p q : Nat × Nat) : zT p.1 p.2 128 0 q.1 q.2 0 0 = mP p q := by
  have := zT_eq p q 128 0; rw [Nat.zero_add] at this; exact this
def sqT : Nat → Nat → Nat → Nat × Nat
  | 0, a, b => (a, b)
  | n + 1, a, b => sqT n (zT a b 128 0 a b 0 0).1 (zT a b 128 0 a b 0 0).2
theorem sqT_eq : ∀ n (p : Nat × Nat), sqT n p.1 p.2 = sqK p n
  | 0, _ => rfl
  | n + 1, p => by
    show sqT n (zT p.1 p.2 128 0 p.1 p.2 0 0).1 (zT p.1 p.2 128 0 p.1 p.2 0 0).2 = _
    rw [mP_T, sqT_eq n (mP p p)]
    have : ∀ m, sqK (mP p p) m = sqK p (m + 1) := fun m => by
      induction m with
      | zero => rfl
      | succ m ih => show mP (sqK (mP p p) m) (sqK (mP p p) m) = _; rw [ih]; rfl
    exact this n
/-- Back from a number and its square, put together. -/
def backLg : List (Nat × Nat) := [
  (1211553125252814566, 11482153953605671572),
  (2319167367686035785, 10507154630812261287),
  (6930853386113423689, 10507154630812261287),
  (3478221664002490862, 7493157187169294706),
  (4625010376899729737, 10507154630812261287),
  (6229288357682799550, 949234687851984212),
  (2325300159395643886, 7493157187169294706),
  (1765300327737708463, 10270502209744077107),
  (5201471129203153225, 10507154630812261287),
  (2511340982778319854, 7598586921877248370),
  (5941057981531087806, 949234687851984212),
  (7709974958907325679, 17677236521571534677),
  (2469415347471499758, 7493157187169294706),
  (5114969883848211601, 13495575813957678183),
  (1837357921775636399, 10270502209744077107),
  (7236662466109164679, 15029605954701183701),
  (5237499926222117193, 10507154630812261287),
  (6695216390347253150, 3250696143283977556),
  (2493326584268837870, 7598586921877248370),
  (4559512835008051544, 8427610647896987520),
  (5932050782276346814, 949234687851984212),
  (3541801084950812464, 6357903466084704832),
  (7705471359279955183, 17677236521571534677),
  (1460672315667774679, 13568258934384764659),
  (2471667147285185006, 7493157187169294706),
  (1883888836302121743, 10417582476890769715),
  (5113843983941368977, 13495575813957678183),
  (3176405148014935702, 5706425302753427122),
  (1836794971822215087, 10270502209744077107),
  (2693674125035737151, 16528924674596901683),
  (7236380991132454023, 15029605954701183701),
  (4744392677445447464, 4096784015165715366),
  (5237640663710472521, 10507154630812261287),
  (6694534753360431094, 3338170814099779796),
  (6695286759091430814, 3250696143283977556),
  (4791858183283592072, 2650408042124999590),
  (2493361768640926702, 7598586921877248370),
  (2706222835756168951, 17245680514504797939),
  (4559530427194095960, 8427610647896987520),
  (1941212625790130335, 11507656770866455411),
  (5932059578369369022, 949234687851984212),
  (4313475194924787097, 16304995377863888833),
  (3541805482997323568, 6357903466084704832),
  (256250083352541656, 1194954006985093056),
  (7705473558303210735, 17677236521571534677),
  (3159129674042010431, 14354054513269379891),
  (1460671216156146903, 13568258934384764659),
  (7606124675222701607, 17251787156168637077),
  (2471667697040998894, 7493157187169294706),
  (2435948785998169310, 8420276713947675442),
  (1883888561424214799, 10417582476890769715),
  (6265376245128827615, 11437038280790924629),
  (5113844121380322449, 13495575813957678183),
  (8636973649590145481, 16292058037884738471),
  (3176405216734412438, 5706425302753427122),
  (8307074116358214352, 8567895610785655846),
  (1836794937462476719, 10270502209744077107),
  (3241382546365552158, 5031110546674457394),
  (2693674142215606335, 16528924674596901683),
  (3956157049165101297, 15083256602826801729),
  (7236380982542519431, 15029605954701183701),
  (8853016062102900241, 15334711620974965863),
  (4744392681740414760, 4096784015165715366),
  (334020517849576793, 10553224499453898689),
  (5237640661562988873, 10507154630812261287),
  (3647690838253638144, 5660620424892383232),
  (6694534754434172918, 3338170814099779796),
  (3956952183962692505, 15270631419113355137),
  (6695286759628301726, 3250696143283977556),
  (5053806621970512673, 13159433687981905447),
  (4791858183015156616, 2650408042124999590),
  (331584518386715985, 10876443065270678017),
  (2493361768775144430, 7598586921877248370),
  (6172954866968207879, 9257591356850893461),
  (2706222835823277815, 17245680514504797939),
  (8756957760434295273, 14668655826613234663),
  (4559530427160541528, 8427610647896987520),
  (3420067259384629854, 6099869321913219890),
  (1941212625773353119, 11507656770866455411),
  (5231506086801837073, 10866147818997369895),
  (5932059578377757630, 949234687851984212),
  (517016704073406561, 9431046256601600065),
  (4313475194920592793, 16304995377863888833),
  (6643853091072895302, 2402697388399055508),
  (3541805482999420720, 6357903466084704832),
  (8757261185228117721, 14494380376874545639),
  (256250083353590232, 1194954006985093056),
  (2907825378354621143, 15475077688252374707),
  (7705473558303735023, 17677236521571534677),
  (2797947818501559135, 17343862687044647731),
  (3159129674042272575, 14354054513269379891),
  (4394910866926874104, 7174794464274655168),
  (1460671216156015831, 13568258934384764659),
  (5004964732719265353, 12262604886369131431),
  (7606124675222636071, 17251787156168637077),
  (5474329663957317657, 10223589925878976999),
  (2471667697040966126, 7493157187169294706),
  (7155932300330331126, 5826222317552486548),
  (2435948785998185694, 8420276713947675442),
  (5473748910099799913, 10370746618916269031),
  (1883888561424206607, 10417582476890769715),
  (7233593319790642727, 15190732175745401557),
  (6265376245128823519, 11437038280790924629),
  (8768644744908186089, 14804773166722771943),
  (5113844121380320401, 13495575813957678183),
  (8078459498385098928, 7752079104152224806),
  (8636973649590146505, 16292058037884738471),
  (310372726743767465, 11036211237499743617),
  (3176405216734411926, 5706425302753427122),
  (6926823949295833574, 5203030597058779796),
  (8307074116358214608, 8567895610785655846),
  (7230838871894292983, 15539263084170801365),
  (1836794937462476591, 10270502209744077107),
  (14932961269768, 13727245530979776),
  (3241382546365552222, 5031110546674457394),
  (691986562685044289, 11578914105595594817),
  (2693674142215606303, 16528924674596901683),
  (6883415289771206910, 3760774647743189332),
  (3956157049165101281, 15083256602826801729),
  (5902786165167492598, 2015669924352527764),
  (7236380982542519439, 15029605954701183701),
  (6874614110390578608, 4361322133666155804),
  (8853016062102900245, 15334711620974965863),
  (3953099667523800597, 15334711620974965857),
  (4744392681740414762, 4096784015165715366),
  (3872266939550988173, 14913477675866468721),
  (334020517849576792, 10553224499453898689),
  (0, 0)]
theorem sq_x : sqK (2 ^ 62, 0) 128 = (2 ^ 62, 0) := by
  rw [← sqT_eq]
  kernel_rfl
def lK : List (Nat × Nat) → Nat → Nat → Nat → Nat × Nat
  | [], _, _, _ => (0, 0)
  | c :: cs, k, a, b => px (bif hasN a b k then c else (0, 0)) (lK cs (k + 1) a b)
def backOk : Nat → Bool
  | 0 => true
  | k + 1 => (lK backLg 0 (px (zT (vP oneP k).1 (vP oneP k).2 128 0 (vP oneP k).1 (vP oneP k).2 0 0) (vP oneP k)).1 (px (zT (vP oneP k).1 (vP oneP k).2 128 0 (vP oneP k).1 (vP oneP k).2 0 0) (vP oneP k)).2 == (bif k == 0 then (0, 0) else vP oneP k)) && backOk k
theorem back_ok : backOk 128 = true := by kernel_rfl
theorem hasN_px {a b : Nat × Nat} (ha : bdP a) (hb : bdP b) {k : Nat} (hk : k < 128) : hasN (px a b).1 (px a b).2 k = (hasN a.1 a.2 k ^^ hasN b.1 b.2 k) := by
  rw [has_bit hk (bd_px ha hb).1 (bd_px ha hb).2, has_bit hk ha.1 ha.2, has_bit hk hb.1 hb.2]
  show (if k < 64 then (a.1 ^^^ b.1).testBit (63 - k) else (a.2 ^^^ b.2).testBit (127 - k)) = _
  split <;> rw [Nat.testBit_xor]
theorem lK_px {a b : Nat × Nat} (ha : bdP a) (hb : bdP b) : ∀ (cs : List (Nat × Nat)) (k : Nat), k + cs.length ≤ 128 → lK cs k (px a b).1 (px a b).2 = px (lK cs k a.1 a.2) (lK cs k b.1 b.2)
  | [], _, _ => (px_self noP).symm
  | c :: cs, k, h => by
    have hl : k + 1 + cs.length ≤ 128 := by simp at h; omega
    show px (bif hasN (px a b).1 (px a b).2 k then c else (0, 0)) (lK cs (k + 1) (px a b).1 (px a b).2) = px (px (bif hasN a.1 a.2 k then c else (0, 0)) (lK cs (k + 1) a.1 a.2)) (px (bif hasN b.1 b.2 k then c else (0, 0)) (lK cs (k + 1) b.1 b.2))
    rw [lK_px ha hb cs (k + 1) hl, hasN_px ha hb (by omega), px_four]
    congr 1
    cases hasN a.1 a.2 k <;> cases hasN b.1 b.2 k
    · exact (px_self noP).symm
    · exact (no_px c).symm
    · exact (px_no c).symm
    · exact (px_self c).symm
theorem lK_no : ∀ (cs : List (Nat × Nat)) (k : Nat), lK cs k 0 0 = noP
  | [], _ => rfl
  | c :: cs, k => by
    show px (bif hasN 0 0 k then c else (0, 0)) (lK cs (k + 1) 0 0) = noP
    have : hasN 0 0 k = false := by unfold hasN; simp
    rw [this, lK_no cs (k + 1)]; exact px_self noP
/-- A number and its square, put together. -/
def dP (a : Nat × Nat) : Nat × Nat := px (mP a a) a
def bkP (a : Nat × Nat) : Nat × Nat := lK backLg 0 a.1 a.2
theorem bd_d {a : Nat × Nat} (ha : bdP a) : bdP (dP a) := bd_px (bd_m a ha) ha
theorem dP_px {a b : Nat × Nat} (ha : bdP a) (hb : bdP b) : dP (px a b) = px (dP a) (dP b) := by
  unfold dP; rw [sq1_add ha hb, px_four]
theorem backL_len : backLg.length = 128 := by kernel_rfl
theorem bk_px {a b : Nat × Nat} (ha : bdP a) (hb : bdP b) : bkP (px a b) = px (bkP a) (bkP b) := lK_px ha hb backLg 0 (by rw [backL_len]; exact Nat.le_refl _)
theorem back_at : ∀ n, backOk n = true → ∀ k, k < n → bkP (dP (vP oneP k)) = if k = 0 then noP else vP oneP k
  | 0, _, k, h => absurd h (Nat.not_lt_zero k)
  | n + 1, h, k, hk => by
    have h' : ((lK backLg 0 (px (zT (vP oneP n).1 (vP oneP n).2 128 0 (vP oneP n).1 (vP oneP n).2 0 0) (vP oneP n)).1 (px (zT (vP oneP n).1 (vP oneP n).2 128 0 (vP oneP n).1 (vP oneP n).2 0 0) (vP oneP n)).2 == (bif n == 0 then (0, 0) else vP oneP n)) && backOk n) = true := h
    rw [Bool.and_eq_true, mP_T] at h'
    by_cases e : k = n
    · subst e
      have h1 := eq_of_beq h'.1
      show lK backLg 0 (px (mP (vP oneP k) (vP oneP k)) (vP oneP k)).1 (px (mP (vP oneP k) (vP oneP k)) (vP oneP k)).2 = _
      rw [h1]
      by_cases h0 : k = 0
      · rw [if_pos h0, h0]; rfl
      · rw [if_neg h0, beq_eq_false_iff_ne.mpr h0]; rfl
    · exact back_at n h'.2 k (by omega)
/-- A number out of its bits. -/
theorem bk_z {a : Nat × Nat} : ∀ k, k ≤ 128 → bkP (dP (zP a oneP k)) = px (zP a oneP k) (if hasN a.1 a.2 0 && decide (0 < k) then oneP else noP)
  | 0, _ => by
    rw [z_zero, decide_eq_false (Nat.lt_irrefl 0), Bool.and_false, if_neg Bool.false_ne_true, px_no]
    show lK backLg 0 (px (mP noP noP) noP).1 (px (mP noP noP) noP).2 = noP
    rw [m_no, px_self]; exact lK_no _ _
  | k + 1, hk => by
    have ih := bk_z (a := a) k (by omega)
    have hz := bd_z a bd_one k
    have hv := bd_v bd_one k
    rw [z_succ]
    by_cases hb : hasN a.1 a.2 k = true
    · rw [if_pos hb, dP_px hz hv, bk_px (bd_d hz) (bd_d hv), ih, back_at 128 back_ok k (by omega)]
      by_cases h0 : k = 0
      · subst h0
        rw [if_pos rfl, hb, z_zero]
        show px (px noP noP) noP = px (px noP oneP) oneP
        decide
      · rw [if_neg h0, decide_eq_true (show 0 < k by omega), decide_eq_true (show 0 < k + 1 by omega), px_assoc, px_assoc]
        congr 1; exact px_comm _ _
    · rw [if_neg hb, ih]
      by_cases h0 : k = 0
      · subst h0; simp only [Bool.not_eq_true] at hb; rw [hb]; rfl
      · rw [decide_eq_true (show 0 < k by omega), decide_eq_true (show 0 < k + 1 by omega)]
/-- Who is their own square is 0 or 1. -/
theorem idem {a : Nat × Nat} (ha : bdP a) (h : mP a a = a) : a = noP ∨ a = oneP := by
  have h1 := bk_z (a := a) 128 (Nat.le_refl _)
  have h2 : zP a oneP 128 = a := m_one ha
  rw [h2] at h1
  have h3 : dP a = noP := by unfold dP; rw [h]; exact px_self a
  rw [h3] at h1
  have h4 : bkP noP = noP := lK_no _ _
  rw [h4] at h1
  have h5 := px_cancel h1.symm
  split at h5
  · exact Or.inr h5
  · exact Or.inl h5
theorem sq_v : ∀ k, sqK (vP oneP k) 128 = vP oneP k
  | 0 => sq_one 128
  | k + 1 => by
    have hx : vP oneP 1 = (2 ^ 62, 0) := one_v 1 (by decide)
    have e : vP oneP (k + 1) = mP (vP oneP k) (vP oneP 1) := by
      rw [m_v _ bd_one 1, m_one (bd_v bd_one k)]; rfl
    rw [e, sq_m (bd_v bd_one k) (bd_v bd_one 1), sq_v k, hx, sq_x]
theorem sq_z (a : Nat × Nat) : ∀ k, sqK (zP a oneP k) 128 = zP a oneP k
  | 0 => sq_no 128
  | k + 1 => by
    rw [z_succ]
    split
    · rw [sq_add (bd_z a bd_one k) (bd_v bd_one k), sq_z a k, sq_v]
    · exact sq_z a k
theorem sq_all {a : Nat × Nat} (ha : bdP a) : sqK a 128 = a := by
  have h := sq_z a 128
  have h2 : zP a oneP 128 = a := m_one ha
  rw [h2] at h; exact h
/-- To the power of one less. -/
def lessP (a : Nat × Nat) : Nat → Nat × Nat | 0 => oneP | k + 1 => mP (mP (lessP a k) (lessP a k)) a
theorem bd_less {a : Nat × Nat} (ha : bdP a) : ∀ k, bdP (lessP a k)
  | 0 => bd_one
  | _ + 1 => bd_m _ ha
theorem less_m {a : Nat × Nat} (ha : bdP a) : ∀ k, mP (lessP a k) a = sqK a k
  | 0 => one_m ha
  | k + 1 => by
    have hl := bd_less ha k
    show mP (mP (mP (lessP a k) (lessP a k)) a) a = mP (sqK a k) (sqK a k)
    rw [← less_m ha k, sq1_m hl ha, ← m_assoc (bd_m _ hl) ha ha]
theorem m_zero {a b : Nat × Nat} (ha : bdP a) (hb : bdP b) (h : mP a b = noP) : a = noP ∨ b = noP := by
  have he : mP (lessP a 128) a = a := by rw [less_m ha 128, sq_all ha]
  have hl := bd_less ha 127
  have hll := bd_m (lessP a 127) hl
  have hid : mP (lessP a 128) (lessP a 128) = lessP a 128 := by
    show mP (lessP a 128) (mP (mP (lessP a 127) (lessP a 127)) a) = mP (mP (lessP a 127) (lessP a 127)) a
    rw [m_swap _ _ ha, he]
  rcases idem (bd_less ha 128) hid with h0 | h1
  · left; rw [h0, no_m ha] at he; exact he.symm
  · right
    have hb1 : mP (lessP a 128) b = b := by rw [h1]; exact one_m hb
    rw [← hb1]
    show mP (mP (mP (lessP a 127) (lessP a 127)) a) b = noP
    rw [← m_assoc hll ha hb, h, m_no]
theorem m_zero_iff {a b : Nat × Nat} (ha : bdP a) (hb : bdP b) : mP a b = noP ↔ a = noP ∨ b = noP := by
  refine ⟨m_zero ha hb, fun h => ?_⟩
  rcases h with rfl | rfl
  · exact no_m hb
  · exact m_no a
theorem beX_num {n : Nat} (hn : n < 256 ^ 8) {f : Nat → Nat} {a : Nat} : ∀ k, k ≤ 8 → (∀ i, i < 8 → f (a + i) = numB n 8 i) → beX f a k = n / 256 ^ (8 - k)
  | 0, _, _ => by rw [Nat.div_eq_of_lt hn]; rfl
  | k + 1, hk, h => by
    show beX f a k * 256 + f (a + k) = _
    rw [beX_num hn k (by omega) h, h k (by omega)]
    show n / 256 ^ (8 - k) * 256 + n / 256 ^ (8 - 1 - k) % 256 = n / 256 ^ (8 - (k + 1))
    have e1 : 8 - k = (8 - 1 - k) + 1 := by omega
    have e2 : 8 - (k + 1) = 8 - 1 - k := by omega
    rw [e1, e2, Nat.pow_succ, ← Nat.div_div_eq_div_mul]
    generalize n / 256 ^ (8 - 1 - k) = m
    omega
theorem num_beX {f : Nat → Nat} {a : Nat} : ∀ k, (∀ i, i < k → f (a + i) < 256) → ∀ i, i < k → beX f a k / 256 ^ (k - 1 - i) % 256 = f (a + i)
  | 0, _, i, h => absurd h (Nat.not_lt_zero i)
  | k + 1, hf, i, hi => by
    have hk := hf k (by omega)
    show (beX f a k * 256 + f (a + k)) / 256 ^ (k + 1 - 1 - i) % 256 = f (a + i)
    by_cases e : i = k
    · subst e
      rw [show i + 1 - 1 - i = 0 by omega, Nat.pow_zero, Nat.div_one]
      omega
    · rw [show k + 1 - 1 - i = (k - 1 - i) + 1 by omega, Nat.pow_succ, Nat.mul_comm (256 ^ _), ← Nat.div_div_eq_div_mul]
      have : (beX f a k * 256 + f (a + k)) / 256 = beX f a k := by omega
      rw [this]
      exact num_beX k (fun j hj => hf j (by omega)) i (by omega)
/-- A block as two words. -/
def wF (f : Nat → Nat) : Nat × Nat := (hiW f, loW f)
def blkP (p : Nat × Nat) : Nat → Nat := blkF p.1 p.2
theorem bd_w {f : Nat → Nat} (hf : ∀ i, i < 16 → f i < 256) : bdP (wF f) := ⟨hiW_lt hf, loW_lt hf⟩
theorem mulF_P (f g : Nat → Nat) : mulF f g = blkP (mP (wF f) (wF g)) := rfl
theorem w_blk {p : Nat × Nat} (hp : bdP p) : wF (blkP p) = p := by
  refine Prod.ext ?_ ?_
  · show beX (blkF p.1 p.2) 0 8 = p.1
    rw [beX_num (n := p.1) (by have := hp.1; simpa using this) 8 (Nat.le_refl _) (fun i hi => by show (if 0 + i < 8 then numB p.1 8 (0 + i) else _) = _; rw [if_pos (by omega), Nat.zero_add])]
    simp
  · show beX (blkF p.1 p.2) 8 8 = p.2
    rw [beX_num (n := p.2) (by have := hp.2; simpa using this) 8 (Nat.le_refl _) (fun i hi => by show (if 8 + i < 8 then _ else numB p.2 8 (8 + i - 8)) = _; rw [if_neg (by omega)]; congr 1; omega)]
    simp
theorem blk_w {f : Nat → Nat} (hf : ∀ i, i < 16 → f i < 256) : ∀ i, i < 16 → blkP (wF f) i = f i := fun i hi => by
  show (if i < 8 then numB (hiW f) 8 i else numB (loW f) 8 (i - 8)) = f i
  by_cases h : i < 8
  · rw [if_pos h]
    have := num_beX (f := f) (a := 0) 8 (fun j hj => hf _ (by omega)) i h
    rw [Nat.zero_add] at this; exact this
  · rw [if_neg h]
    have := num_beX (f := f) (a := 8) 8 (fun j hj => hf _ (by omega)) (i - 8) (by omega)
    rw [show 8 + (i - 8) = i by omega] at this; exact this
theorem w_congr {f g : Nat → Nat} (h : ∀ i, i < 16 → f i = g i) : wF f = wF g := by
  have hb : ∀ a k, a + k ≤ 16 → beX f a k = beX g a k := fun a k => by
    induction k with
    | zero => exact fun _ => rfl
    | succ k ih => intro hk; show beX f a k * 256 + f (a + k) = beX g a k * 256 + g (a + k); rw [ih (by omega), h _ (by omega)]
  exact Prod.ext (hb 0 8 (by omega)) (hb 8 8 (by omega))
theorem w_inj {f g : Nat → Nat} (hf : ∀ i, i < 16 → f i < 256) (hg : ∀ i, i < 16 → g i < 256) (h : wF f = wF g) : ∀ i, i < 16 → f i = g i := fun i hi => by
  rw [← blk_w hf i hi, ← blk_w hg i hi, h]
theorem w_add {f g : Nat → Nat} (hf : ∀ i, i < 16 → f i < 256) (hg : ∀ i, i < 16 → g i < 256) : wF (addF f g) = px (wF f) (wF g) :=
  Prod.ext (beX_xor 8 (fun i hi => hf _ (by omega)) (fun i hi => hg _ (by omega))) (beX_xor 8 (fun i hi => hf _ (by omega)) (fun i hi => hg _ (by omega)))
theorem blk_px (p q : Nat × Nat) : blkP (px p q) = addF (blkP p) (blkP q) := by
  funext i
  show (if i < 8 then numB (p.1 ^^^ q.1) 8 i else numB (p.2 ^^^ q.2) 8 (i - 8)) = (if i < 8 then numB p.1 8 i else numB p.2 8 (i - 8)) ^^^ (if i < 8 then numB q.1 8 i else numB q.2 8 (i - 8))
  split <;> exact numB_xor _ _ _ _
theorem blkP_lt (p : Nat × Nat) (i : Nat) : blkP p i < 256 := blkF_lt _ _ _
theorem mulF_lt (f g : Nat → Nat) (i : Nat) : mulF f g i < 256 := blkF_lt _ _ _
theorem w_mul (f : Nat → Nat) {g : Nat → Nat} (hg : ∀ i, i < 16 → g i < 256) : wF (mulF f g) = mP (wF f) (wF g) := by
  rw [mulF_P]; exact w_blk (bd_m _ (bd_w hg))
/-- The laws of a field, of blocks. -/
theorem mulF_comm {f g : Nat → Nat} (hf : ∀ i, i < 16 → f i < 256) (hg : ∀ i, i < 16 → g i < 256) : mulF f g = mulF g f := by
  rw [mulF_P, mulF_P, m_comm (bd_w hf) (bd_w hg)]
theorem mulF_assoc {f g h : Nat → Nat} (hf : ∀ i, i < 16 → f i < 256) (hg : ∀ i, i < 16 → g i < 256) (hh : ∀ i, i < 16 → h i < 256) : mulF f (mulF g h) = mulF (mulF f g) h := by
  rw [mulF_P f, mulF_P (mulF f g), w_mul g hh, w_mul f hg, m_assoc (bd_w hf) (bd_w hg) (bd_w hh)]
theorem mulF_add2 (f : Nat → Nat) {g h : Nat → Nat} (hg : ∀ i, i < 16 → g i < 256) (hh : ∀ i, i < 16 → h i < 256) : mulF f (addF g h) = addF (mulF f g) (mulF f h) := by
  rw [mulF_P, mulF_P, mulF_P, w_add hg hh, m_add2 _ (bd_w hg) (bd_w hh), blk_px]
theorem w_zero : wF (fun _ => 0) = noP := by decide
theorem mulF_zero {f g : Nat → Nat} (hf : ∀ i, i < 16 → f i < 256) (hg : ∀ i, i < 16 → g i < 256) : (∀ i, i < 16 → mulF f g i = 0) ↔ (∀ i, i < 16 → f i = 0) ∨ (∀ i, i < 16 → g i = 0) := by
  have hz : ∀ {f : Nat → Nat}, (∀ i, i < 16 → f i < 256) → ((∀ i, i < 16 → f i = 0) ↔ wF f = noP) := fun {f} hf => by
    constructor
    · intro h; rw [← w_zero]; exact w_congr h
    · intro h; rw [← w_zero] at h; exact w_inj hf (fun _ _ => by decide) h
  rw [hz (fun i _ => mulF_lt f g i), hz hf, hz hg, w_mul f hg]
  exact m_zero_iff (bd_w hf) (bd_w hg)
/-- The block of 1. -/
def oneF : Nat → Nat := fun i => if i = 0 then 128 else 0
theorem oneF_lt (i : Nat) : oneF i < 256 := by unfold oneF; split <;> decide
theorem w_oneF : wF oneF = oneP := by decide
theorem mulF_one {f : Nat → Nat} (hf : ∀ i, i < 16 → f i < 256) : ∀ i, i < 16 → mulF f oneF i = f i := fun i hi => by
  rw [mulF_P, w_oneF, m_one (bd_w hf)]; exact blk_w hf i hi
theorem addF_self (f : Nat → Nat) : addF f f = fun _ => 0 := funext fun i => Nat.xor_self (f i)
end Go.Proofs.YtbighpacggbllaaDoor
