/- A row of bytes through the product, block by block: linear. The field of blocks: products of two words, put together by whatever way; a product is nought just if a factor is. Blocks held against one another; several blocks that stay. Bytes, block by block, through the product. Sums of bytes with a block. -/
import Derived.Test.YtkcbckafibjflaaGreatDoorGhA
import Derived.ProofKit
import Derived.ChangeKeysEq
import Derived.Laws.StructEq
import Derived.Laws.CopyOwn
import Derived.Deep.RegionHeld3
import Derived.Deep.DeepCutAuto
namespace Go.Proofs.YtkcbckafibjflaaGreatDoor
set_option linter.unusedVariables false
set_option linter.unusedSimpArgs false
open Go.RowKit

/-- The k-th block of a row of n bytes, filled up with zeros. -/
def chF (f : Nat → Nat) (n k : Nat) : Nat → Nat := fun i => if 16 * k + i < n then f (16 * k + i) else 0
/-- The sum behind k blocks. -/
def thrF (h f : Nat → Nat) (n : Nat) (s : Nat → Nat) : Nat → Nat → Nat
  | 0 => s
  | k + 1 => mulF (addF (thrF h f n s k) (chF f n k)) h
theorem chF_lt {f : Nat → Nat} {n k : Nat} (hf : ∀ i, i < n → f i < 256) (i : Nat) : chF f n k i < 256 := by
  unfold chF; split
  · exact hf _ (by assumption)
  · decide
theorem thrF_lt {h f s : Nat → Nat} {n : Nat} (hs : ∀ i, i < 16 → s i < 256) : ∀ k i, i < 16 → thrF h f n s k i < 256
  | 0, i, hi => hs i hi
  | _ + 1, i, _ => blkF_lt _ _ i
theorem addF_lt {f g : Nat → Nat} (hf : ∀ i, i < 16 → f i < 256) (hg : ∀ i, i < 16 → g i < 256) (i : Nat) (hi : i < 16) : addF f g i < 256 :=
  Nat.xor_lt_two_pow (n := 8) (hf i hi) (hg i hi)
theorem chF_add (f g : Nat → Nat) (n k : Nat) : chF (addF f g) n k = addF (chF f n k) (chF g n k) := by
  funext i
  show (if 16 * k + i < n then f (16 * k + i) ^^^ g (16 * k + i) else 0) = (if 16 * k + i < n then f (16 * k + i) else 0) ^^^ (if 16 * k + i < n then g (16 * k + i) else 0)
  by_cases h : 16 * k + i < n
  · rw [if_pos h, if_pos h, if_pos h]
  · rw [if_neg h, if_neg h, if_neg h]; rfl
theorem addF_four (a b c d : Nat → Nat) : addF (addF a b) (addF c d) = addF (addF a c) (addF b d) := by
  funext i; unfold addF
  rw [Nat.xor_assoc, Nat.xor_assoc, ← Nat.xor_assoc (b i), ← Nat.xor_assoc (c i), Nat.xor_comm (b i) (c i)]
theorem thrF_add {h f g s t : Nat → Nat} {n : Nat} (hf : ∀ i, i < n → f i < 256) (hg : ∀ i, i < n → g i < 256) (hs : ∀ i, i < 16 → s i < 256) (ht : ∀ i, i < 16 → t i < 256) :
    ∀ k, thrF h (addF f g) n (addF s t) k = addF (thrF h f n s k) (thrF h g n t k)
  | 0 => rfl
  | k + 1 => by
    show mulF (addF (thrF h (addF f g) n (addF s t) k) (chF (addF f g) n k)) h = _
    rw [thrF_add hf hg hs ht k, chF_add, addF_four, mulF_add]
    · rfl
    · exact addF_lt (thrF_lt hs k) (fun i _ => chF_lt hf i)
    · exact addF_lt (thrF_lt ht k) (fun i _ => chF_lt hg i)
end Go.Proofs.YtkcbckafibjflaaGreatDoor
namespace Go.Proofs.YtkcbckafibjflaaGreatDoor
set_option linter.unusedVariables false
set_option linter.unusedSimpArgs false
open Go.RowKit

/-- Two words as one number of the field. -/
def px (p q : Nat × Nat) : Nat × Nat := (p.1 ^^^ q.1, p.2 ^^^ q.2)
def nxP (p : Nat × Nat) : Nat × Nat := (nx1 p.1 p.2, nx2 p.1 p.2)
def bdP (p : Nat × Nat) : Prop := p.1 < 2 ^ 64 ∧ p.2 < 2 ^ 64
def vP (p : Nat × Nat) (k : Nat) : Nat × Nat := vK p.1 p.2 k
def zP (p q : Nat × Nat) (k : Nat) : Nat × Nat := zK p.1 p.2 q.1 q.2 k
def mP (p q : Nat × Nat) : Nat × Nat := zP p q 128
def noP : Nat × Nat := (0, 0)
def oneP : Nat × Nat := (2 ^ 63, 0)
theorem bd_px {p q : Nat × Nat} (hp : bdP p) (hq : bdP q) : bdP (px p q) := ⟨Nat.xor_lt_two_pow hp.1 hq.1, Nat.xor_lt_two_pow hp.2 hq.2⟩
theorem bd_nx {p : Nat × Nat} (hp : bdP p) : bdP (nxP p) := ⟨nx1_lt hp.1, nx2_lt hp.2⟩
theorem bd_v {p : Nat × Nat} (hp : bdP p) (k : Nat) : bdP (vP p k) := vK_lt hp.1 hp.2 k
theorem bd_z (p : Nat × Nat) {q : Nat × Nat} (hq : bdP q) (k : Nat) : bdP (zP p q k) := zK_lt hq.1 hq.2 k
theorem bd_m (p : Nat × Nat) {q : Nat × Nat} (hq : bdP q) : bdP (mP p q) := bd_z p hq 128
theorem bd_no : bdP noP := ⟨by decide, by decide⟩
theorem bd_one : bdP oneP := ⟨by decide, by decide⟩
theorem px_comm (p q : Nat × Nat) : px p q = px q p := Prod.ext (Nat.xor_comm _ _) (Nat.xor_comm _ _)
theorem px_assoc (p q r : Nat × Nat) : px (px p q) r = px p (px q r) := Prod.ext (Nat.xor_assoc _ _ _) (Nat.xor_assoc _ _ _)
theorem px_self (p : Nat × Nat) : px p p = noP := Prod.ext (Nat.xor_self _) (Nat.xor_self _)
theorem px_no (p : Nat × Nat) : px p noP = p := Prod.ext (Nat.xor_zero _) (Nat.xor_zero _)
theorem no_px (p : Nat × Nat) : px noP p = p := Prod.ext (Nat.zero_xor _) (Nat.zero_xor _)
theorem px_four (a b c d : Nat × Nat) : px (px a b) (px c d) = px (px a c) (px b d) := by
  rw [px_assoc, ← px_assoc b, px_comm b c, px_assoc c, ← px_assoc]
theorem px_cancel {p q : Nat × Nat} (h : px p q = noP) : p = q := by
  have := congrArg (fun x => px x q) h
  simp only [px_assoc, px_self, px_no, no_px] at this; exact this
theorem v_zero (p : Nat × Nat) : vP p 0 = p := rfl
theorem z_zero (p q : Nat × Nat) : zP p q 0 = noP := rfl
theorem v_succ (p : Nat × Nat) (k : Nat) : vP p (k + 1) = nxP (vP p k) := rfl
theorem z_succ (p q : Nat × Nat) (k : Nat) : zP p q (k + 1) = if hasN p.1 p.2 k then px (zP p q k) (vP q k) else zP p q k := rfl
theorem nx_xor {p q : Nat × Nat} (hp : bdP p) (hq : bdP q) : nxP (px p q) = px (nxP p) (nxP q) := by
  refine Prod.ext ?_ ?_
  · show (p.1 ^^^ q.1) / 2 ^^^ ((p.2 ^^^ q.2) % 2 * lowN) = (p.1 / 2 ^^^ (p.2 % 2 * lowN)) ^^^ (q.1 / 2 ^^^ (q.2 % 2 * lowN))
    have h1 : (p.1 ^^^ q.1) / 2 = p.1 / 2 ^^^ q.1 / 2 := by
      have := Nat.shiftRight_xor_distrib (a := p.1) (b := q.1) (i := 1)
      simpa [Nat.shiftRight_eq_div_pow] using this
    have h2 : (p.2 ^^^ q.2) % 2 * lowN = (p.2 % 2 * lowN) ^^^ (q.2 % 2 * lowN) := by
      have e : (p.2 ^^^ q.2) % 2 = (p.2 % 2) ^^^ (q.2 % 2) := by
        have := @Nat.xor_mod_two_pow p.2 q.2 1
        simpa using this
      rw [e]
      rcases Nat.mod_two_eq_zero_or_one p.2 with h | h <;> rcases Nat.mod_two_eq_zero_or_one q.2 with h' | h' <;> rw [h, h'] <;> decide
    rw [h1, h2]
    generalize p.1 / 2 = a; generalize q.1 / 2 = b; generalize p.2 % 2 * lowN = c; generalize q.2 % 2 * lowN = d
    rw [Nat.xor_assoc, Nat.xor_assoc, ← Nat.xor_assoc b, Nat.xor_comm b c, Nat.xor_assoc c]
  · show ((p.2 ^^^ q.2) / 2 ||| ((p.1 ^^^ q.1) * 2 ^ 63 % 2 ^ 64)) = (p.2 / 2 ||| (p.1 * 2 ^ 63 % 2 ^ 64)) ^^^ (q.2 / 2 ||| (q.1 * 2 ^ 63 % 2 ^ 64))
    refine Nat.eq_of_testBit_eq fun i => ?_
    simp only [Nat.testBit_or, Nat.testBit_xor, Nat.testBit_div_two, Nat.testBit_mod_two_pow, ← Nat.shiftLeft_eq, Nat.testBit_shiftLeft]
    by_cases h : i < 63
    · have h1 : ¬ 63 ≤ i := by omega
      simp [h1]
    · have hp2 : p.2.testBit (i + 1) = false := Nat.testBit_lt_two_pow (Nat.lt_of_lt_of_le hp.2 (Nat.pow_le_pow_right (by decide) (by omega)))
      have hq2 : q.2.testBit (i + 1) = false := Nat.testBit_lt_two_pow (Nat.lt_of_lt_of_le hq.2 (Nat.pow_le_pow_right (by decide) (by omega)))
      rw [hp2, hq2]
      by_cases h2 : i < 64 <;> simp [h2, show 63 ≤ i by omega]
theorem nx_no : nxP noP = noP := by decide
theorem v_nx (p : Nat × Nat) : ∀ k, vP (nxP p) k = nxP (vP p k)
  | 0 => rfl
  | k + 1 => by rw [v_succ, v_succ, v_nx p k]
theorem v_xor {p q : Nat × Nat} (hp : bdP p) (hq : bdP q) : ∀ k, vP (px p q) k = px (vP p k) (vP q k)
  | 0 => rfl
  | k + 1 => by rw [v_succ, v_xor hp hq k, nx_xor (bd_v hp k) (bd_v hq k)]; rfl
theorem z_xor2 (a : Nat × Nat) {p q : Nat × Nat} (hp : bdP p) (hq : bdP q) : ∀ k, zP a (px p q) k = px (zP a p k) (zP a q k)
  | 0 => by rw [z_zero, z_zero, z_zero]; decide
  | k + 1 => by
    rw [z_succ, z_succ, z_succ, z_xor2 a hp hq k, v_xor hp hq]
    split
    · exact px_four _ _ _ _
    · rfl
theorem z_xor1 {a b : Nat × Nat} (ha : bdP a) (hb : bdP b) (c : Nat × Nat) (k : Nat) (hk : k ≤ 128) : zP (px a b) c k = px (zP a c k) (zP b c k) :=
  zK_xor a.1 a.2 b.1 b.2 c.1 c.2 ha.1 ha.2 hb.1 hb.2 k hk
theorem z_nx (a : Nat × Nat) {p : Nat × Nat} (hp : bdP p) : ∀ k, zP a (nxP p) k = nxP (zP a p k)
  | 0 => nx_no.symm
  | k + 1 => by
    rw [z_succ, z_succ, z_nx a hp k, v_nx]
    split
    · exact (nx_xor (bd_z a hp k) (bd_v hp k)).symm
    · rfl
theorem m_v (a : Nat × Nat) {p : Nat × Nat} (hp : bdP p) : ∀ k, mP a (vP p k) = vP (mP a p) k
  | 0 => by rw [v_zero, v_zero]
  | k + 1 => by rw [v_succ, v_succ, ← m_v a hp k]; exact z_nx a (bd_v hp k) 128
theorem z_no (a : Nat × Nat) : ∀ k, zP a noP k = noP
  | 0 => rfl
  | k + 1 => by
    have hv : ∀ k, vP noP k = noP := fun k => by
      induction k with
      | zero => rfl
      | succ k ih => rw [v_succ, ih]; exact nx_no
    rw [z_succ, z_no a k, hv]
    split
    · exact px_no _
    · rfl
theorem m_z (a b : Nat × Nat) {c : Nat × Nat} (hc : bdP c) : ∀ k, mP a (zP b c k) = zP b (mP a c) k
  | 0 => by rw [z_zero, z_zero]; exact z_no a 128
  | k + 1 => by
    rw [z_succ, z_succ, ← m_z a b hc k, ← m_v a hc k]
    split
    · exact z_xor2 a (bd_z b hc k) (bd_v hc k) 128
    · rfl
theorem m_swap (a b : Nat × Nat) {c : Nat × Nat} (hc : bdP c) : mP a (mP b c) = mP b (mP a c) := m_z a b hc 128
/-- What 1 is, moved on. -/
theorem one_v : ∀ k, k < 128 → vP oneP k = if k < 64 then (2 ^ (63 - k), 0) else (0, 2 ^ (127 - k))
  | 0, _ => rfl
  | k + 1, h => by
    rw [v_succ, one_v k (by omega)]
    by_cases h1 : k + 1 < 64
    · rw [if_pos (by omega), if_pos h1]
      refine Prod.ext ?_ ?_
      · show (2 ^ (63 - k)) / 2 ^^^ (0 % 2 * lowN) = 2 ^ (63 - (k + 1))
        rw [show 63 - k = (63 - (k + 1)) + 1 by omega, Nat.pow_succ]; simp
      · show (0 / 2 ||| ((2 ^ (63 - k)) * 2 ^ 63 % 2 ^ 64)) = 0
        rw [show 63 - k = (63 - (k + 1)) + 1 by omega, Nat.pow_succ, Nat.mul_assoc, show 2 * 2 ^ 63 = 2 ^ 64 from rfl, Nat.mul_mod_left]; rfl
    · by_cases h2 : k < 64
      · obtain rfl : k = 63 := by omega
        decide
      · rw [if_neg h2, if_neg h1]
        have e : 127 - k = (127 - (k + 1)) + 1 := by omega
        refine Prod.ext ?_ ?_
        · show 0 / 2 ^^^ ((2 ^ (127 - k)) % 2 * lowN) = 0
          rw [e, Nat.pow_succ, Nat.mul_mod_left]; simp
        · show ((2 ^ (127 - k)) / 2 ||| (0 * 2 ^ 63 % 2 ^ 64)) = 2 ^ (127 - (k + 1))
          rw [e, Nat.pow_succ]; simp
theorem z_one {a : Nat × Nat} (ha : bdP a) : ∀ k, k ≤ 128 → ∀ i, (zP a oneP k).1.testBit i = (a.1.testBit i && decide (64 ≤ i + k)) ∧ (zP a oneP k).2.testBit i = (a.2.testBit i && decide (128 ≤ i + k))
  | 0, _, i => by
    show (0 : Nat).testBit i = _ ∧ (0 : Nat).testBit i = _
    rw [Nat.zero_testBit]
    constructor
    · by_cases h : 64 ≤ i
      · rw [Nat.testBit_lt_two_pow (Nat.lt_of_lt_of_le ha.1 (Nat.pow_le_pow_right (by decide) h))]; rfl
      · rw [decide_eq_false (by omega)]; simp
    · by_cases h : 64 ≤ i
      · rw [Nat.testBit_lt_two_pow (Nat.lt_of_lt_of_le ha.2 (Nat.pow_le_pow_right (by decide) h))]; rfl
      · rw [decide_eq_false (by omega)]; simp
  | k + 1, hk, i => by
    obtain ⟨h1, h2⟩ := z_one ha k (by omega) i
    rw [z_succ, one_v k (by omega), has_bit (by omega) ha.1 ha.2]
    by_cases hk6 : k < 64
    · rw [if_pos hk6, if_pos hk6]
      by_cases hb : a.1.testBit (63 - k) = true
      · rw [if_pos hb]
        constructor
        · show ((zP a oneP k).1 ^^^ 2 ^ (63 - k)).testBit i = _
          rw [Nat.testBit_xor, h1, Nat.testBit_two_pow]
          by_cases hi : 63 - k = i
          · subst hi; rw [hb, decide_eq_false (show ¬ 64 ≤ 63 - k + k by omega), decide_eq_true rfl, decide_eq_true (show 64 ≤ 63 - k + (k + 1) by omega)]; rfl
          · rw [decide_eq_false hi]
            by_cases h3 : 64 ≤ i + k
            · rw [decide_eq_true h3, decide_eq_true (show 64 ≤ i + (k + 1) by omega)]; simp
            · rw [decide_eq_false h3, decide_eq_false (show ¬ 64 ≤ i + (k + 1) by omega)]; simp
        · show ((zP a oneP k).2 ^^^ 0).testBit i = _
          rw [Nat.xor_zero, h2]
          by_cases h3 : 64 ≤ i
          · rw [Nat.testBit_lt_two_pow (Nat.lt_of_lt_of_le ha.2 (Nat.pow_le_pow_right (by decide) h3))]; rfl
          · rw [decide_eq_false (show ¬ 128 ≤ i + k by omega), decide_eq_false (show ¬ 128 ≤ i + (k + 1) by omega)]
      · rw [if_neg hb]
        rw [h1, h2]
        constructor
        · by_cases hi : 63 - k = i
          · subst hi; simp only [Bool.not_eq_true] at hb; rw [hb]; rfl
          · by_cases h3 : 64 ≤ i + k
            · rw [decide_eq_true h3, decide_eq_true (show 64 ≤ i + (k + 1) by omega)]
            · rw [decide_eq_false h3, decide_eq_false (show ¬ 64 ≤ i + (k + 1) by omega)]
        · by_cases h3 : 64 ≤ i
          · rw [Nat.testBit_lt_two_pow (Nat.lt_of_lt_of_le ha.2 (Nat.pow_le_pow_right (by decide) h3))]; rfl
          · rw [decide_eq_false (show ¬ 128 ≤ i + k by omega), decide_eq_false (show ¬ 128 ≤ i + (k + 1) by omega)]
    · rw [if_neg hk6, if_neg hk6]
      by_cases hb : a.2.testBit (127 - k) = true
      · rw [if_pos hb]
        constructor
        · show ((zP a oneP k).1 ^^^ 0).testBit i = _
          rw [Nat.xor_zero, h1, decide_eq_true (show 64 ≤ i + k by omega), decide_eq_true (show 64 ≤ i + (k + 1) by omega)]
        · show ((zP a oneP k).2 ^^^ 2 ^ (127 - k)).testBit i = _
          rw [Nat.testBit_xor, h2, Nat.testBit_two_pow]
          by_cases hi : 127 - k = i
          · subst hi; rw [hb, decide_eq_false (show ¬ 128 ≤ 127 - k + k by omega), decide_eq_true rfl, decide_eq_true (show 128 ≤ 127 - k + (k + 1) by omega)]; rfl
          · rw [decide_eq_false hi]
            by_cases h3 : 128 ≤ i + k
            · rw [decide_eq_true h3, decide_eq_true (show 128 ≤ i + (k + 1) by omega)]; simp
            · rw [decide_eq_false h3, decide_eq_false (show ¬ 128 ≤ i + (k + 1) by omega)]; simp
      · rw [if_neg hb, h1, h2]
        constructor
        · rw [decide_eq_true (show 64 ≤ i + k by omega), decide_eq_true (show 64 ≤ i + (k + 1) by omega)]
        · by_cases hi : 127 - k = i
          · subst hi; simp only [Bool.not_eq_true] at hb; rw [hb]; rfl
          · by_cases h3 : 128 ≤ i + k
            · rw [decide_eq_true h3, decide_eq_true (show 128 ≤ i + (k + 1) by omega)]
            · rw [decide_eq_false h3, decide_eq_false (show ¬ 128 ≤ i + (k + 1) by omega)]
theorem m_one {a : Nat × Nat} (ha : bdP a) : mP a oneP = a := by
  have h := z_one ha 128 (Nat.le_refl _)
  refine Prod.ext (Nat.eq_of_testBit_eq fun i => ?_) (Nat.eq_of_testBit_eq fun i => ?_)
  · show (zP a oneP 128).1.testBit i = _
    rw [(h i).1, decide_eq_true (by omega), Bool.and_true]
  · show (zP a oneP 128).2.testBit i = _
    rw [(h i).2, decide_eq_true (by omega), Bool.and_true]
theorem m_comm {a b : Nat × Nat} (ha : bdP a) (hb : bdP b) : mP a b = mP b a := by
  have h := m_swap a b bd_one
  rw [m_one ha, m_one hb] at h; exact h
theorem m_assoc {a b c : Nat × Nat} (ha : bdP a) (hb : bdP b) (hc : bdP c) : mP a (mP b c) = mP (mP a b) c := by
  rw [m_comm hb hc, m_swap a c hb, m_comm hc (bd_m a hb)]
theorem m_add2 (a : Nat × Nat) {p q : Nat × Nat} (hp : bdP p) (hq : bdP q) : mP a (px p q) = px (mP a p) (mP a q) := z_xor2 a hp hq 128
theorem m_add1 {a b : Nat × Nat} (ha : bdP a) (hb : bdP b) (c : Nat × Nat) : mP (px a b) c = px (mP a c) (mP b c) := z_xor1 ha hb c 128 (Nat.le_refl _)
theorem m_no (a : Nat × Nat) : mP a noP = noP := z_no a 128
theorem no_m {a : Nat × Nat} (ha : bdP a) : mP noP a = noP := by rw [m_comm bd_no ha]; exact m_no a
theorem one_m {a : Nat × Nat} (ha : bdP a) : mP oneP a = a := by rw [m_comm bd_one ha]; exact m_one ha
/-- Squares, again and again. -/
def sqK (a : Nat × Nat) : Nat → Nat × Nat | 0 => a | k + 1 => mP (sqK a k) (sqK a k)
theorem bd_sq {a : Nat × Nat} (ha : bdP a) : ∀ k, bdP (sqK a k)
  | 0 => ha
  | k + 1 => bd_m _ (bd_sq ha k)
theorem sq1_add {a b : Nat × Nat} (ha : bdP a) (hb : bdP b) : mP (px a b) (px a b) = px (mP a a) (mP b b) := by
  rw [m_add2 _ ha hb, m_add1 ha hb, m_add1 ha hb, m_comm hb ha, px_assoc, ← px_assoc (mP a b), px_self, no_px]
theorem sq_add {a b : Nat × Nat} (ha : bdP a) (hb : bdP b) : ∀ k, sqK (px a b) k = px (sqK a k) (sqK b k)
  | 0 => rfl
  | k + 1 => by
    show mP (sqK (px a b) k) (sqK (px a b) k) = _
    rw [sq_add ha hb k, sq1_add (bd_sq ha k) (bd_sq hb k)]; rfl
theorem sq1_m {a b : Nat × Nat} (ha : bdP a) (hb : bdP b) : mP (mP a b) (mP a b) = mP (mP a a) (mP b b) := by
  rw [← m_assoc ha hb (bd_m a hb), m_assoc hb ha hb, m_comm hb ha, ← m_assoc ha hb hb, m_assoc ha ha (bd_m b hb)]
theorem sq_m {a b : Nat × Nat} (ha : bdP a) (hb : bdP b) : ∀ k, sqK (mP a b) k = mP (sqK a k) (sqK b k)
  | 0 => rfl
  | k + 1 => by
    show mP (sqK (mP a b) k) (sqK (mP a b) k) = _
    rw [sq_m ha hb k, sq1_m (bd_sq ha k) (bd_sq hb k)]; rfl
theorem sq_one : ∀ k, sqK oneP k = oneP
  | 0 => rfl
  | k + 1 => by
    show mP (sqK oneP k) (sqK oneP k) = _
    rw [sq_one k]; exact m_one bd_one
theorem sq_no : ∀ k, sqK noP k = noP
  | 0 => rfl
  | k + 1 => by
    show mP (sqK noP k) (sqK noP k) = _
    rw [sq_no k]; exact m_no _
/-- Reckoned step by step. -/
def zT (a b : Nat) : Nat → Nat → Nat → Nat → Nat → Nat → Nat × Nat
  | 0, _, _, _, x, y => (x, y)
  | n + 1, k, c, d, x, y => bif hasN a b k then zT a b n (k + 1) (nx1 c d) (nx2 c d) (x ^^^ c) (y ^^^ d) else zT a b n (k + 1) (nx1 c d) (nx2 c d) x y
theorem zT_eq (p q : Nat × Nat) : ∀ n k, zT p.1 p.2 n k (vP q k).1 (vP q k).2 (zP p q k).1 (zP p q k).2 = zP p q (k + n)
  | 0, _ => rfl
  | n + 1, k => by
    show (bif hasN p.1 p.2 k then zT p.1 p.2 n (k + 1) (vP q (k + 1)).1 (vP q (k + 1)).2 (px (zP p q k) (vP q k)).1 (px (zP p q k) (vP q k)).2 else zT p.1 p.2 n (k + 1) (vP q (k + 1)).1 (vP q (k + 1)).2 (zP p q k).1 (zP p q k).2) = _
    have ih := zT_eq p q n (k + 1)
    rw [z_succ] at ih
    rw [show k + (n + 1) = k + 1 + n by omega, ← ih]
    cases hasN p.1 p.2 k <;> rfl
theorem mP_T (p q : Nat × Nat) : zT p.1 p.2 128 0 q.1 q.2 0 0 = mP p q := by
  have := zT_eq p q 128 0; rw [Nat.zero_add] at this; exact this
def sqT : Nat → Nat → Nat → Nat × Nat
  | 0, a, b => (a, b)
  | n + 1, a, b => sqT n (zT a b 128 0 a b 0 0).1 (zT a b 128 0 a b 0 0).2
theorem sqT_eq : ∀ n (p : Nat × Nat), sqT n p.1 p.2 = sqK p n
  | 0, _ => rfl
  | n + 1, p => by
    show sqT n (zT p.1 p.2 128 0 p.1 p.2 0 0).1 (zT p.1 p.2 128 0 p.1 p.2 0 0).2 = _
    rw [mP_T, sqT_eq n (mP p p)]
    have : ∀ m, sqK (mP p p) m = sqK p (m + 1) := fun m => by
      induction m with
      | zero => rfl
      | succ m ih => show mP (sqK (mP p p) m) (sqK (mP p p) m) = _; rw [ih]; rfl
    exact this n
/-- Back from a number and its square, put together. -/
def backLg : List (Nat × Nat) := [
  (1211553125252814566, 11482153953605671572),
  (2319167367686035785, 10507154630812261287),
  (6930853386113423689, 10507154630812261287),
  (3478221664002490862, 7493157187169294706),
  (4625010376899729737, 10507154630812261287),
  (6229288357682799550, 949234687851984212),
  (2325300159395643886, 7493157187169294706),
  (1765300327737708463, 10270502209744077107),
  (5201471129203153225, 10507154630812261287),
  (2511340982778319854, 7598586921877248370),
  (5941057981531087806, 949234687851984212),
  (7709974958907325679, 17677236521571534677),
  (2469415347471499758, 7493157187169294706),
  (5114969883848211601, 13495575813957678183),
  (1837357921775636399, 10270502209744077107),
  (7236662466109164679, 15029605954701183701),
  (5237499926222117193, 10507154630812261287),
  (6695216390347253150, 3250696143283977556),
  (2493326584268837870, 7598586921877248370),
  (4559512835008051544, 8427610647896987520),
  (5932050782276346814, 949234687851984212),
  (3541801084950812464, 6357903466084704832),
  (7705471359279955183, 17677236521571534677),
  (1460672315667774679, 13568258934384764659),
  (2471667147285185006, 7493157187169294706),
  (1883888836302121743, 10417582476890769715),
  (5113843983941368977, 13495575813957678183),
  (3176405148014935702, 5706425302753427122),
  (1836794971822215087, 10270502209744077107),
  (2693674125035737151, 16528924674596901683),
  (7236380991132454023, 15029605954701183701),
  (4744392677445447464, 4096784015165715366),
  (5237640663710472521, 10507154630812261287),
  (6694534753360431094, 3338170814099779796),
  (6695286759091430814, 3250696143283977556),
  (4791858183283592072, 2650408042124999590),
  (2493361768640926702, 7598586921877248370),
  (2706222835756168951, 17245680514504797939),
  (4559530427194095960, 8427610647896987520),
  (1941212625790130335, 11507656770866455411),
  (5932059578369369022, 949234687851984212),
  (4313475194924787097, 16304995377863888833),
  (3541805482997323568, 6357903466084704832),
  (256250083352541656, 1194954006985093056),
  (7705473558303210735, 17677236521571534677),
  (3159129674042010431, 14354054513269379891),
  (1460671216156146903, 13568258934384764659),
  (7606124675222701607, 17251787156168637077),
  (2471667697040998894, 7493157187169294706),
  (2435948785998169310, 8420276713947675442),
  (1883888561424214799, 10417582476890769715),
  (6265376245128827615, 11437038280790924629),
  (5113844121380322449, 13495575813957678183),
  (8636973649590145481, 16292058037884738471),
  (3176405216734412438, 5706425302753427122),
  (8307074116358214352, 8567895610785655846),
  (1836794937462476719, 10270502209744077107),
  (3241382546365552158, 5031110546674457394),
  (2693674142215606335, 16528924674596901683),
  (3956157049165101297, 15083256602826801729),
  (7236380982542519431, 15029605954701183701),
  (8853016062102900241, 15334711620974965863),
  (4744392681740414760, 4096784015165715366),
  (334020517849576793, 10553224499453898689),
  (5237640661562988873, 10507154630812261287),
  (3647690838253638144, 5660620424892383232),
  (6694534754434172918, 3338170814099779796),
  (3956952183962692505, 15270631419113355137),
  (6695286759628301726, 3250696143283977556),
  (5053806621970512673, 13159433687981905447),
  (4791858183015156616, 2650408042124999590),
  (331584518386715985, 10876443065270678017),
  (2493361768775144430, 7598586921877248370),
  (6172954866968207879, 9257591356850893461),
  (2706222835823277815, 17245680514504797939),
  (8756957760434295273, 14668655826613234663),
  (4559530427160541528, 8427610647896987520),
  (3420067259384629854, 6099869321913219890),
  (1941212625773353119, 11507656770866455411),
  (5231506086801837073, 10866147818997369895),
  (5932059578377757630, 949234687851984212),
  (517016704073406561, 9431046256601600065),
  (4313475194920592793, 16304995377863888833),
  (6643853091072895302, 2402697388399055508),
  (3541805482999420720, 6357903466084704832),
  (8757261185228117721, 14494380376874545639),
  (256250083353590232, 1194954006985093056),
  (2907825378354621143, 15475077688252374707),
  (7705473558303735023, 17677236521571534677),
  (2797947818501559135, 17343862687044647731),
  (3159129674042272575, 14354054513269379891),
  (4394910866926874104, 7174794464274655168),
  (1460671216156015831, 13568258934384764659),
  (5004964732719265353, 12262604886369131431),
  (7606124675222636071, 17251787156168637077),
  (5474329663957317657, 10223589925878976999),
  (2471667697040966126, 7493157187169294706),
  (7155932300330331126, 5826222317552486548),
  (2435948785998185694, 8420276713947675442),
  (5473748910099799913, 10370746618916269031),
  (1883888561424206607, 10417582476890769715),
  (7233593319790642727, 15190732175745401557),
  (6265376245128823519, 11437038280790924629),
  (8768644744908186089, 14804773166722771943),
  (5113844121380320401, 13495575813957678183),
  (8078459498385098928, 7752079104152224806),
  (8636973649590146505, 16292058037884738471),
  (310372726743767465, 11036211237499743617),
  (3176405216734411926, 5706425302753427122),
  (6926823949295833574, 5203030597058779796),
  (8307074116358214608, 8567895610785655846),
  (7230838871894292983, 15539263084170801365),
  (1836794937462476591, 10270502209744077107),
  (14932961269768, 13727245530979776),
  (3241382546365552222, 5031110546674457394),
  (691986562685044289, 11578914105595594817),
  (2693674142215606303, 16528924674596901683),
  (6883415289771206910, 3760774647743189332),
  (3956157049165101281, 15083256602826801729),
  (5902786165167492598, 2015669924352527764),
  (7236380982542519439, 15029605954701183701),
  (6874614110390578608, 4361322133666155804),
  (8853016062102900245, 15334711620974965863),
  (3953099667523800597, 15334711620974965857),
  (4744392681740414762, 4096784015165715366),
  (3872266939550988173, 14913477675866468721),
  (334020517849576792, 10553224499453898689),
  (0, 0)]
theorem sq_x : sqK (2 ^ 62, 0) 128 = (2 ^ 62, 0) := by
  rw [← sqT_eq]
  kernel_rfl
def lK : List (Nat × Nat) → Nat → Nat → Nat → Nat × Nat
  | [], _, _, _ => (0, 0)
  | c :: cs, k, a, b => px (bif hasN a b k then c else (0, 0)) (lK cs (k + 1) a b)
def backOk : Nat → Bool
  | 0 => true
  | k + 1 => (lK backLg 0 (px (zT (vP oneP k).1 (vP oneP k).2 128 0 (vP oneP k).1 (vP oneP k).2 0 0) (vP oneP k)).1 (px (zT (vP oneP k).1 (vP oneP k).2 128 0 (vP oneP k).1 (vP oneP k).2 0 0) (vP oneP k)).2 == (bif k == 0 then (0, 0) else vP oneP k)) && backOk k
theorem back_ok : backOk 128 = true := by kernel_rfl
theorem hasN_px {a b : Nat × Nat} (ha : bdP a) (hb : bdP b) {k : Nat} (hk : k < 128) : hasN (px a b).1 (px a b).2 k = (hasN a.1 a.2 k ^^ hasN b.1 b.2 k) := by
  rw [has_bit hk (bd_px ha hb).1 (bd_px ha hb).2, has_bit hk ha.1 ha.2, has_bit hk hb.1 hb.2]
  show (if k < 64 then (a.1 ^^^ b.1).testBit (63 - k) else (a.2 ^^^ b.2).testBit (127 - k)) = _
  split <;> rw [Nat.testBit_xor]
theorem lK_px {a b : Nat × Nat} (ha : bdP a) (hb : bdP b) : ∀ (cs : List (Nat × Nat)) (k : Nat), k + cs.length ≤ 128 → lK cs k (px a b).1 (px a b).2 = px (lK cs k a.1 a.2) (lK cs k b.1 b.2)
  | [], _, _ => (px_self noP).symm
  | c :: cs, k, h => by
    have hl : k + 1 + cs.length ≤ 128 := by simp at h; omega
    show px (bif hasN (px a b).1 (px a b).2 k then c else (0, 0)) (lK cs (k + 1) (px a b).1 (px a b).2) = px (px (bif hasN a.1 a.2 k then c else (0, 0)) (lK cs (k + 1) a.1 a.2)) (px (bif hasN b.1 b.2 k then c else (0, 0)) (lK cs (k + 1) b.1 b.2))
    rw [lK_px ha hb cs (k + 1) hl, hasN_px ha hb (by omega), px_four]
    congr 1
    cases hasN a.1 a.2 k <;> cases hasN b.1 b.2 k
    · exact (px_self noP).symm
    · exact (no_px c).symm
    · exact (px_no c).symm
    · exact (px_self c).symm
theorem lK_no : ∀ (cs : List (Nat × Nat)) (k : Nat), lK cs k 0 0 = noP
  | [], _ => rfl
  | c :: cs, k => by
    show px (bif hasN 0 0 k then c else (0, 0)) (lK cs (k + 1) 0 0) = noP
    have : hasN 0 0 k = false := by unfold hasN; simp
    rw [this, lK_no cs (k + 1)]; exact px_self noP
/-- A number and its square, put together. -/
def dP (a : Nat × Nat) : Nat × Nat := px (mP a a) a
def bkP (a : Nat × Nat) : Nat × Nat := lK backLg 0 a.1 a.2
theorem bd_d {a : Nat × Nat} (ha : bdP a) : bdP (dP a) := bd_px (bd_m a ha) ha
theorem dP_px {a b : Nat × Nat} (ha : bdP a) (hb : bdP b) : dP (px a b) = px (dP a) (dP b) := by
  unfold dP; rw [sq1_add ha hb, px_four]
theorem backL_len : backLg.length = 128 := by kernel_rfl
theorem bk_px {a b : Nat × Nat} (ha : bdP a) (hb : bdP b) : bkP (px a b) = px (bkP a) (bkP b) := lK_px ha hb backLg 0 (by rw [backL_len]; exact Nat.le_refl _)
theorem back_at : ∀ n, backOk n = true → ∀ k, k < n → bkP (dP (vP oneP k)) = if k = 0 then noP else vP oneP k
  | 0, _, k, h => absurd h (Nat.not_lt_zero k)
  | n + 1, h, k, hk => by
    have h' : ((lK backLg 0 (px (zT (vP oneP n).1 (vP oneP n).2 128 0 (vP oneP n).1 (vP oneP n).2 0 0) (vP oneP n)).1 (px (zT (vP oneP n).1 (vP oneP n).2 128 0 (vP oneP n).1 (vP oneP n).2 0 0) (vP oneP n)).2 == (bif n == 0 then (0, 0) else vP oneP n)) && backOk n) = true := h
    rw [Bool.and_eq_true, mP_T] at h'
    by_cases e : k = n
    · subst e
      have h1 := eq_of_beq h'.1
      show lK backLg 0 (px (mP (vP oneP k) (vP oneP k)) (vP oneP k)).1 (px (mP (vP oneP k) (vP oneP k)) (vP oneP k)).2 = _
      rw [h1]
      by_cases h0 : k = 0
      · rw [if_pos h0, h0]; rfl
      · rw [if_neg h0, beq_eq_false_iff_ne.mpr h0]; rfl
    · exact back_at n h'.2 k (by omega)
/-- A number out of its bits. -/
theorem bk_z {a : Nat × Nat} : ∀ k, k ≤ 128 → bkP (dP (zP a oneP k)) = px (zP a oneP k) (if hasN a.1 a.2 0 && decide (0 < k) then oneP else noP)
  | 0, _ => by
    rw [z_zero, decide_eq_false (Nat.lt_irrefl 0), Bool.and_false, if_neg Bool.false_ne_true, px_no]
    show lK backLg 0 (px (mP noP noP) noP).1 (px (mP noP noP) noP).2 = noP
    rw [m_no, px_self]; exact lK_no _ _
  | k + 1, hk => by
    have ih := bk_z (a := a) k (by omega)
    have hz := bd_z a bd_one k
    have hv := bd_v bd_one k
    rw [z_succ]
    by_cases hb : hasN a.1 a.2 k = true
    · rw [if_pos hb, dP_px hz hv, bk_px (bd_d hz) (bd_d hv), ih, back_at 128 back_ok k (by omega)]
      by_cases h0 : k = 0
      · subst h0
        rw [if_pos rfl, hb, z_zero]
        show px (px noP noP) noP = px (px noP oneP) oneP
        decide
      · rw [if_neg h0, decide_eq_true (show 0 < k by omega), decide_eq_true (show 0 < k + 1 by omega), px_assoc, px_assoc]
        congr 1; exact px_comm _ _
    · rw [if_neg hb, ih]
      by_cases h0 : k = 0
      · subst h0; simp only [Bool.not_eq_true] at hb; rw [hb]; rfl
      · rw [decide_eq_true (show 0 < k by omega), decide_eq_true (show 0 < k + 1 by omega)]
/-- Who is their own square is 0 or 1. -/
theorem idem {a : Nat × Nat} (ha : bdP a) (h : mP a a = a) : a = noP ∨ a = oneP := by
  have h1 := bk_z (a := a) 128 (Nat.le_refl _)
  have h2 : zP a oneP 128 = a := m_one ha
  rw [h2] at h1
  have h3 : dP a = noP := by unfold dP; rw [h]; exact px_self a
  rw [h3] at h1
  have h4 : bkP noP = noP := lK_no _ _
  rw [h4] at h1
  have h5 := px_cancel h1.symm
  split at h5
  · exact Or.inr h5
  · exact Or.inl h5
theorem sq_v : ∀ k, sqK (vP oneP k) 128 = vP oneP k
  | 0 => sq_one 128
  | k + 1 => by
    have hx : vP oneP 1 = (2 ^ 62, 0) := one_v 1 (by decide)
    have e : vP oneP (k + 1) = mP (vP oneP k) (vP oneP 1) := by
      rw [m_v _ bd_one 1, m_one (bd_v bd_one k)]; rfl
    rw [e, sq_m (bd_v bd_one k) (bd_v bd_one 1), sq_v k, hx, sq_x]
theorem sq_z (a : Nat × Nat) : ∀ k, sqK (zP a oneP k) 128 = zP a oneP k
  | 0 => sq_no 128
  | k + 1 => by
    rw [z_succ]
    split
    · rw [sq_add (bd_z a bd_one k) (bd_v bd_one k), sq_z a k, sq_v]
    · exact sq_z a k
theorem sq_all {a : Nat × Nat} (ha : bdP a) : sqK a 128 = a := by
  have h := sq_z a 128
  have h2 : zP a oneP 128 = a := m_one ha
  rw [h2] at h; exact h
/-- To the power of one less. -/
def lessP (a : Nat × Nat) : Nat → Nat × Nat | 0 => oneP | k + 1 => mP (mP (lessP a k) (lessP a k)) a
theorem bd_less {a : Nat × Nat} (ha : bdP a) : ∀ k, bdP (lessP a k)
  | 0 => bd_one
  | _ + 1 => bd_m _ ha
theorem less_m {a : Nat × Nat} (ha : bdP a) : ∀ k, mP (lessP a k) a = sqK a k
  | 0 => one_m ha
  | k + 1 => by
    have hl := bd_less ha k
    show mP (mP (mP (lessP a k) (lessP a k)) a) a = mP (sqK a k) (sqK a k)
    rw [← less_m ha k, sq1_m hl ha, ← m_assoc (bd_m _ hl) ha ha]
theorem m_zero {a b : Nat × Nat} (ha : bdP a) (hb : bdP b) (h : mP a b = noP) : a = noP ∨ b = noP := by
  have he : mP (lessP a 128) a = a := by rw [less_m ha 128, sq_all ha]
  have hl := bd_less ha 127
  have hll := bd_m (lessP a 127) hl
  have hid : mP (lessP a 128) (lessP a 128) = lessP a 128 := by
    show mP (lessP a 128) (mP (mP (lessP a 127) (lessP a 127)) a) = mP (mP (lessP a 127) (lessP a 127)) a
    rw [m_swap _ _ ha, he]
  rcases idem (bd_less ha 128) hid with h0 | h1
  · left; rw [h0, no_m ha] at he; exact he.symm
  · right
    have hb1 : mP (lessP a 128) b = b := by rw [h1]; exact one_m hb
    rw [← hb1]
    show mP (mP (mP (lessP a 127) (lessP a 127)) a) b = noP
    rw [← m_assoc hll ha hb, h, m_no]
theorem m_zero_iff {a b : Nat × Nat} (ha : bdP a) (hb : bdP b) : mP a b = noP ↔ a = noP ∨ b = noP := by
  refine ⟨m_zero ha hb, fun h => ?_⟩
  rcases h with rfl | rfl
  · exact no_m hb
  · exact m_no a
theorem beX_num {n : Nat} (hn : n < 256 ^ 8) {f : Nat → Nat} {a : Nat} : ∀ k, k ≤ 8 → (∀ i, i < 8 → f (a + i) = numB n 8 i) → beX f a k = n / 256 ^ (8 - k)
  | 0, _, _ => by rw [Nat.div_eq_of_lt hn]; rfl
  | k + 1, hk, h => by
    show beX f a k * 256 + f (a + k) = _
    rw [beX_num hn k (by omega) h, h k (by omega)]
    show n / 256 ^ (8 - k) * 256 + n / 256 ^ (8 - 1 - k) % 256 = n / 256 ^ (8 - (k + 1))
    have e1 : 8 - k = (8 - 1 - k) + 1 := by omega
    have e2 : 8 - (k + 1) = 8 - 1 - k := by omega
    rw [e1, e2, Nat.pow_succ, ← Nat.div_div_eq_div_mul]
    generalize n / 256 ^ (8 - 1 - k) = m
    omega
theorem num_beX {f : Nat → Nat} {a : Nat} : ∀ k, (∀ i, i < k → f (a + i) < 256) → ∀ i, i < k → beX f a k / 256 ^ (k - 1 - i) % 256 = f (a + i)
  | 0, _, i, h => absurd h (Nat.not_lt_zero i)
  | k + 1, hf, i, hi => by
    have hk := hf k (by omega)
    show (beX f a k * 256 + f (a + k)) / 256 ^ (k + 1 - 1 - i) % 256 = f (a + i)
    by_cases e : i = k
    · subst e
      rw [show i + 1 - 1 - i = 0 by omega, Nat.pow_zero, Nat.div_one]
      omega
    · rw [show k + 1 - 1 - i = (k - 1 - i) + 1 by omega, Nat.pow_succ, Nat.mul_comm (256 ^ _), ← Nat.div_div_eq_div_mul]
      have : (beX f a k * 256 + f (a + k)) / 256 = beX f a k := by omega
      rw [this]
      exact num_beX k (fun j hj => hf j (by omega)) i (by omega)
/-- A block as two words. -/
def wF (f : Nat → Nat) : Nat × Nat := (hiW f, loW f)
def blkP (p : Nat × Nat) : Nat → Nat := blkF p.1 p.2
theorem bd_w {f : Nat → Nat} (hf : ∀ i, i < 16 → f i < 256) : bdP (wF f) := ⟨hiW_lt hf, loW_lt hf⟩
theorem mulF_P (f g : Nat → Nat) : mulF f g = blkP (mP (wF f) (wF g)) := rfl
theorem w_blk {p : Nat × Nat} (hp : bdP p) : wF (blkP p) = p := by
  refine Prod.ext ?_ ?_
  · show beX (blkF p.1 p.2) 0 8 = p.1
    rw [beX_num (n := p.1) (by have := hp.1; simpa using this) 8 (Nat.le_refl _) (fun i hi => by show (if 0 + i < 8 then numB p.1 8 (0 + i) else _) = _; rw [if_pos (by omega), Nat.zero_add])]
    simp
  · show beX (blkF p.1 p.2) 8 8 = p.2
    rw [beX_num (n := p.2) (by have := hp.2; simpa using this) 8 (Nat.le_refl _) (fun i hi => by show (if 8 + i < 8 then _ else numB p.2 8 (8 + i - 8)) = _; rw [if_neg (by omega)]; congr 1; omega)]
    simp
theorem blk_w {f : Nat → Nat} (hf : ∀ i, i < 16 → f i < 256) : ∀ i, i < 16 → blkP (wF f) i = f i := fun i hi => by
  show (if i < 8 then numB (hiW f) 8 i else numB (loW f) 8 (i - 8)) = f i
  by_cases h : i < 8
  · rw [if_pos h]
    have := num_beX (f := f) (a := 0) 8 (fun j hj => hf _ (by omega)) i h
    rw [Nat.zero_add] at this; exact this
  · rw [if_neg h]
    have := num_beX (f := f) (a := 8) 8 (fun j hj => hf _ (by omega)) (i - 8) (by omega)
    rw [show 8 + (i - 8) = i by omega] at this; exact this
theorem w_congr {f g : Nat → Nat} (h : ∀ i, i < 16 → f i = g i) : wF f = wF g := by
  have hb : ∀ a k, a + k ≤ 16 → beX f a k = beX g a k := fun a k => by
    induction k with
    | zero => exact fun _ => rfl
    | succ k ih => intro hk; show beX f a k * 256 + f (a + k) = beX g a k * 256 + g (a + k); rw [ih (by omega), h _ (by omega)]
  exact Prod.ext (hb 0 8 (by omega)) (hb 8 8 (by omega))
theorem w_inj {f g : Nat → Nat} (hf : ∀ i, i < 16 → f i < 256) (hg : ∀ i, i < 16 → g i < 256) (h : wF f = wF g) : ∀ i, i < 16 → f i = g i := fun i hi => by
  rw [← blk_w hf i hi, ← blk_w hg i hi, h]
theorem w_add {f g : Nat → Nat} (hf : ∀ i, i < 16 → f i < 256) (hg : ∀ i, i < 16 → g i < 256) : wF (addF f g) = px (wF f) (wF g) :=
  Prod.ext (beX_xor 8 (fun i hi => hf _ (by omega)) (fun i hi => hg _ (by omega))) (beX_xor 8 (fun i hi => hf _ (by omega)) (fun i hi => hg _ (by omega)))
theorem blk_px (p q : Nat × Nat) : blkP (px p q) = addF (blkP p) (blkP q) := by
  funext i
  show (if i < 8 then numB (p.1 ^^^ q.1) 8 i else numB (p.2 ^^^ q.2) 8 (i - 8)) = (if i < 8 then numB p.1 8 i else numB p.2 8 (i - 8)) ^^^ (if i < 8 then numB q.1 8 i else numB q.2 8 (i - 8))
  split <;> exact numB_xor _ _ _ _
theorem blkP_lt (p : Nat × Nat) (i : Nat) : blkP p i < 256 := blkF_lt _ _ _
theorem mulF_lt (f g : Nat → Nat) (i : Nat) : mulF f g i < 256 := blkF_lt _ _ _
theorem w_mul (f : Nat → Nat) {g : Nat → Nat} (hg : ∀ i, i < 16 → g i < 256) : wF (mulF f g) = mP (wF f) (wF g) := by
  rw [mulF_P]; exact w_blk (bd_m _ (bd_w hg))
/-- The laws of a field, of blocks. -/
theorem mulF_comm {f g : Nat → Nat} (hf : ∀ i, i < 16 → f i < 256) (hg : ∀ i, i < 16 → g i < 256) : mulF f g = mulF g f := by
  rw [mulF_P, mulF_P, m_comm (bd_w hf) (bd_w hg)]
theorem mulF_assoc {f g h : Nat → Nat} (hf : ∀ i, i < 16 → f i < 256) (hg : ∀ i, i < 16 → g i < 256) (hh : ∀ i, i < 16 → h i < 256) : mulF f (mulF g h) = mulF (mulF f g) h := by
  rw [mulF_P f, mulF_P (mulF f g), w_mul g hh, w_mul f hg, m_assoc (bd_w hf) (bd_w hg) (bd_w hh)]
theorem mulF_add2 (f : Nat → Nat) {g h : Nat → Nat} (hg : ∀ i, i < 16 → g i < 256) (hh : ∀ i, i < 16 → h i < 256) : mulF f (addF g h) = addF (mulF f g) (mulF f h) := by
  rw [mulF_P, mulF_P, mulF_P, w_add hg hh, m_add2 _ (bd_w hg) (bd_w hh), blk_px]
theorem w_zero : wF (fun _ => 0) = noP := by decide
theorem mulF_zero {f g : Nat → Nat} (hf : ∀ i, i < 16 → f i < 256) (hg : ∀ i, i < 16 → g i < 256) : (∀ i, i < 16 → mulF f g i = 0) ↔ (∀ i, i < 16 → f i = 0) ∨ (∀ i, i < 16 → g i = 0) := by
  have hz : ∀ {f : Nat → Nat}, (∀ i, i < 16 → f i < 256) → ((∀ i, i < 16 → f i = 0) ↔ wF f = noP) := fun {f} hf => by
    constructor
    · intro h; rw [← w_zero]; exact w_congr h
    · intro h; rw [← w_zero] at h; exact w_inj hf (fun _ _ => by decide) h
  rw [hz (fun i _ => mulF_lt f g i), hz hf, hz hg, w_mul f hg]
  exact m_zero_iff (bd_w hf) (bd_w hg)
/-- The block of 1. -/
def oneF : Nat → Nat := fun i => if i = 0 then 128 else 0
theorem oneF_lt (i : Nat) : oneF i < 256 := by unfold oneF; split <;> decide
theorem w_oneF : wF oneF = oneP := by decide
theorem mulF_one {f : Nat → Nat} (hf : ∀ i, i < 16 → f i < 256) : ∀ i, i < 16 → mulF f oneF i = f i := fun i hi => by
  rw [mulF_P, w_oneF, m_one (bd_w hf)]; exact blk_w hf i hi
theorem addF_self (f : Nat → Nat) : addF f f = fun _ => 0 := funext fun i => Nat.xor_self (f i)
end Go.Proofs.YtkcbckafibjflaaGreatDoor
namespace Go.Proofs.YtkcbckafibjflaaGreatDoor
set_option linter.unusedVariables false
set_option linter.unusedSimpArgs false
open Go.RowKit

end Go.Proofs.YtkcbckafibjflaaGreatDoor
namespace Go.Proofs.YtkcbckafibjflaaGreatDoor
set_option linter.unusedVariables false
set_option linter.unusedSimpArgs false
open Go.RowKit

theorem thrF_step (h f : Nat → Nat) (n : Nat) (s : Nat → Nat) (k : Nat) : thrF h f n s (k + 1) = mulF (addF (thrF h f n s k) (chF f n k)) h := rfl
def lenOf : Value → Nat | .slice _ m _ => m | _ => 0
/-- What is left of a row behind k blocks. -/
def Rest (w0 : World) (v : Value) (n k : Nat) (f : Nat → Nat) : Prop := ∃ oa m c, v = .slice oa m c ∧ m = n - 16 * k ∧ m ≤ c ∧ c ≤ maxLen ∧ Bytes w0 oa m (fun i => f (16 * k + i))
/-- Behind k blocks. -/
def TI (w0 : World) (h f s : Nat → Nat) (n k : Nat) (v : Value) (wr : World) : Prop := Rest w0 v n k f ∧ B16 wr w0.heap.size (thrF h f n s k) ∧ B16 wr (w0.heap.size + 1) h ∧ B16 wr (w0.heap.size + 1 + 1) (fun _ => 0) ∧ Below w0.heap.size w0 wr
set_option maxRecDepth 100000 in
set_option maxHeartbeats 4000000 in
theorem through_any (s y f : Nat → Nat) (oa : Option Addr) (n cap : Nat) (w : World) (hs : ∀ i, i < 16 → s i < 256) (hh : ∀ i, i < 16 → y i < 256) (hb : Bytes w oa n f) (hnc : n ≤ cap) (hcm : cap ≤ maxLen) :
    Calls Tryz.prog 43 #[.agg (rowC 16 s).toArray, .agg (rowC 16 y).toArray, .slice oa n cap] w fun e w' => e = .returned (.agg (rowC 16 (thrF y f n s ((n + 15) / 16))).toArray) ∧ Below w.heap.size w w' := by
  have hz := zero16_run
  obtain ⟨C, hC⟩ : ∃ C, (rowC 16 s).toArray = C := ⟨_, rfl⟩
  obtain ⟨D, hD⟩ : ∃ C, (rowC 16 y).toArray = C := ⟨_, rfl⟩
  have hf : ∀ i, i < n → f i < 256 := fun i hi => (hb i hi).1
  have HT := Lib.hid (show TI w y f s n 0 (.slice oa n cap) (((w.alloc (.cells C 49)).alloc (.cells D 49)).alloc (.cells zero16 49)) by
    rw [← hC, ← hD]
    refine ⟨⟨oa, n, cap, rfl, rfl, hnc, hcm, ?_⟩, ((Blk.new w _ 49).alloc _).alloc _, ?_, ?_, (((Below.refl _ _).alloc (Nat.le_refl _) _).alloc (by simp) _).alloc (by simp; omega) _⟩
    · simpa using hb
    · have := (Blk.new (w.alloc (.cells (rowC 16 s).toArray 49)) (rowC 16 y).toArray 49).alloc (.cells zero16 49)
      unfold B16; simpa using this
    · have := Blk.new ((w.alloc (.cells (rowC 16 s).toArray 49)).alloc (.cells (rowC 16 y).toArray 49)) zero16 49
      show Blk _ _ zero16 _; simpa using this)
  have HD3 := Lib.hid hD
  have HS := Lib.hid hs
  have HH := Lib.hid hh
  have HF := Lib.hid hf
  rw [hC, hD]
  clear hs hh hb hf hC hD hnc hcm
  go_enter Tryz.func43, Tryz.ntmps43
  go_wp2_with fail
  go_loopw [2] (fun v wr => ∃ k : Nat, k ≤ (n + 15) / 16 ∧ TI w y f s n k v wr) (fun v _ => lenOf v)
  case atStart => exact ⟨0, Nat.zero_le _, HT.out⟩
  case round =>
    obtain ⟨k, hk, ⟨oa', m, c, rfl, hm, hmc, hcm, hby⟩, hX, hY, hZ, hO⟩ := hrel
    have HM := Lib.hid hm
    clear hm
    by_cases hlt : 0 < m
    · obtain ⟨_, b, off, rfl, _⟩ := hby 0 hlt
      have m0 : (0 : Int) < (m : Int) := by omega
      obtain ⟨q, hq⟩ : ∃ q, Nat.min m 16 = q := ⟨_, rfl⟩
      have hq1 : q ≤ m := by rw [← hq]; exact Nat.min_le_left _ _
      have hq2 : q ≤ 16 := by rw [← hq]; exact Nat.min_le_right _ _
      have hq0 : 0 < q := by
        rcases Nat.le_total m 16 with h1 | h1
        · rw [← hq, show Nat.min m 16 = m from Nat.min_eq_left h1]; exact hlt
        · rw [← hq, show Nat.min m 16 = 16 from Nat.min_eq_right h1]; decide
      have hq3 : q = m ∧ m ≤ 16 ∨ q = 16 ∧ 16 ≤ m := by
        rw [← hq]
        rcases Nat.le_total m 16 with h1 | h1
        · left; exact ⟨Nat.min_eq_left h1, h1⟩
        · right; exact ⟨Nat.min_eq_right h1, h1⟩
      have hmn : m = n - 16 * k := HM.out
      have HRN : Hid (∀ v c', (v = .slice (some ⟨b, off + q, none⟩) (m - q) c' ∧ m - q ≤ c' ∧ c' ≤ maxLen) ∨ (v = .slice (some ⟨b, off, none⟩) (m - q) 0 ∧ m - q = 0) → Rest w v n (k + 1) f) := Lib.hid fun v c' hv => by
        rcases hv with ⟨rfl, h1, h2⟩ | ⟨rfl, h1⟩
        · refine ⟨_, _, _, rfl, by omega, h1, h2, fun i hi => ?_⟩
          obtain ⟨g1, b', o', e, g2⟩ := hby (q + i) (by omega)
          cases e
          have hq16 : 16 * k + (q + i) = 16 * (k + 1) + i := by omega
          dsimp only at g1 g2 ⊢
          rw [hq16] at g1 g2
          exact ⟨g1, b, off + q, rfl, by rw [Nat.add_assoc]; exact g2⟩
        · exact ⟨_, _, _, rfl, by omega, by omega, by unfold maxLen; omega, fun i hi => absurd hi (by omega)⟩
      have HQ3 := Lib.hid hq3
      have HK1 : Hid (k + 1 ≤ (n + 15) / 16) := Lib.hid (by omega)
      have HMS : Hid (m - q < m) := Lib.hid (by omega)
      have HEQ : Hid (∀ i, i < 16 → (i < q ↔ 16 * k + i < n)) := Lib.hid (by omega)
      clear hq3 hmn
      obtain ⟨cs, hcs⟩ : ∃ cs, rowC q (fun i => f (16 * k + i)) = cs := ⟨_, rfl⟩
      have hcl : cs.length = q := by rw [← hcs]; exact rowC_len _ _
      have HCL := Lib.hid hcl
      have HSR : Hid (∀ w', Below wr.heap.size wr w' → ∀ j v, cs[j]? = some v → w'.cell? ((Addr.mk b off none).add j) = some v) := Lib.hid fun w' hb' j v hv => by
        have hj : j < q := by
          rcases Nat.lt_or_ge j q with h1 | h1
          · exact h1
          · rw [List.getElem?_eq_none (by omega)] at hv; cases hv
        rw [← hcs, rowC_get _ hj] at hv
        cases hv
        obtain ⟨_, b1, o1, e1, hc1⟩ := hby j (by omega)
        cases e1
        have ha : (Addr.mk b off none).add j = ⟨b, off + j, none⟩ := by
          unfold Addr.add; split
          · rename_i hk0; subst hk0; rfl
          · rfl
        rw [ha]
        exact cell_below (hO.trans (hb'.mono hO.size)) hc1
      obtain ⟨wa, hwa⟩ : ∃ x, wr.alloc (.cells zero16 49) = x := ⟨_, rfl⟩
      have hba : Below wr.heap.size wr wa := by rw [← hwa]; exact (Below.refl _ _).alloc (Nat.le_refl _) _
      have HG : Hid (wa.heap[wr.heap.size]? = some (.cells (rowC 16 (fun _ => 0)).toArray 49 (0, 0))) := Lib.hid (by rw [← hwa]; exact Blk.new wr zero16 49)
      have HN : Hid (cs.length = Nat.min m 16) := Lib.hid (by rw [hcl, hq])
      have HP : Hid (0 < cs.length → some (Addr.mk wr.heap.size 0 none) = some (Addr.mk wr.heap.size 0 none) ∧ ∃ ad, some (Addr.mk b off none) = some ad ∧ ∀ j v, cs[j]? = some v → wa.cell? (ad.add j) = some v) := Lib.hid fun _ => ⟨rfl, _, rfl, HSR.out wa hba⟩
      have HFi : Hid (0 + cs.length ≤ (rowC 16 (fun _ => 0)).length) := Lib.hid (by rw [hcl, rowC_len]; omega)
      have HBA := Lib.hid hba
      have HQ := Lib.hid hq
      have HC1 : Hid (∀ v ∈ cs, v.oneCell' = true) := Lib.hid (hcs ▸ rowC_one _ _)
      have HCS := Lib.hid hcs
      have HX := Lib.hid hX
      have HY := Lib.hid hY
      have HZ := Lib.hid hZ
      have HO := Lib.hid hO
      have HB := Lib.hid hby
      clear hcl hcs hq hby hX hY hZ hO hba HSR
      go_wp2_with (first | (with_reducible refine wpList_copy_splice rfl (.tmp 12) (.tmp 13) 22 22 rfl 5 Tryz.underlying22 (by kernel_rfl) (some ⟨wr.heap.size, 0, none⟩) (some ⟨b, off, none⟩) 16 16 m c rfl rfl wr.heap.size 0 (rowC 16 (fun _ => 0)) 49 ?_ cs ?_ ?_ ?_ HC1.out wr.heap.size wr ?_ (Nat.le_refl _) ?_; exact HG.out; exact HN.out; exact HP.out; exact HFi.out; exact HBA.out; intro w4 HG4 HB4; have HB5 := Lib.hid HB4; clear HB4 HG HP HBA hwa; rw [HCL.out]))
      all_goals
        first
        | (have HRZ := Lib.hid (HRN.out (.slice (some ⟨b, off, none⟩) (m - q) 0) 0 (Or.inr ⟨rfl, by omega⟩)); have HMZ : Hid (lenOf (.slice (some ⟨b, off, none⟩) (m - q) 0) < m) := Lib.hid HMS.out; generalize Value.slice (some ⟨b, off, none⟩) (m - q) 0 = v2 at HRZ HMZ ⊢)
        | (have HRZ := Lib.hid (HRN.out (.slice (some ⟨b, off + q, none⟩) (m - q) (c - q)) (c - q) (Or.inl ⟨rfl, by omega, by omega⟩)); have HMZ : Hid (lenOf (.slice (some ⟨b, off + q, none⟩) (m - q) (c - q)) < m) := Lib.hid HMS.out; generalize Value.slice (some ⟨b, off + q, none⟩) (m - q) (c - q) = v2 at HRZ HMZ ⊢)
      all_goals
        have hX := HX.out
        have hY := HY.out
        have hE : Blk w4 wr.heap.size (rowC 16 (chF f n k)).toArray 49 := by
          have := HG4.out
          rw [← HCS.out, splice16 _ q hq2] at this
          have e : rowC 16 (fun i => if i < q then f (16 * k + i) else 0) = rowC 16 (chF f n k) := rowC_congr fun i hi => by
            show (if i < q then f (16 * k + i) else 0) = if 16 * k + i < n then f (16 * k + i) else 0
            by_cases h1 : i < q
            · rw [if_pos h1, if_pos ((HEQ.out i hi).1 h1)]
            · rw [if_neg h1, if_neg (fun h2 => h1 ((HEQ.out i hi).2 h2))]
          rw [e] at this; exact this
        have hX4 : Blk w4 w.heap.size (rowC 16 (thrF y f n s k)).toArray 49 := Blk.below HX.out HB5.out (Blk.lt HX.out)
        have hY4 : Blk w4 (w.heap.size + 1) (rowC 16 y).toArray 49 := Blk.below HY.out HB5.out (Blk.lt HY.out)
        have hZ4 : B16 w4 (w.heap.size + 1 + 1) (fun _ => 0) := Blk.below HZ.out HB5.out (Blk.lt HZ.out)
        have hO4 : Below w.heap.size w w4 := HO.out.trans (HB5.out.mono HO.out.size)
        have hxs : w.heap.size < wr.heap.size := Blk.lt HX.out
        obtain ⟨F3, hF3⟩ : ∃ x, (rowC 16 (thrF y f n s k)).toArray = x := ⟨_, rfl⟩
        obtain ⟨E, hE3⟩ : ∃ x, (rowC 16 (chF f n k)).toArray = x := ⟨_, rfl⟩
        obtain ⟨A3, hA3⟩ : ∃ x, (rowC 16 (addF (thrF y f n s k) (chF f n k))).toArray = x := ⟨_, rfl⟩
        obtain ⟨M, hM3⟩ : ∃ x, (rowC 16 (thrF y f n s (k + 1))).toArray = x := ⟨_, rfl⟩
        have htl : ∀ i, i < 16 → thrF y f n s k i < 256 := fun i hi => thrF_lt HS.out k i hi
        have hcl2 : ∀ i, i < 16 → chF f n k i < 256 := fun i _ => chF_lt HF.out i
        have HADD : Hid (∀ w, Calls Tryz.prog 24 #[.agg F3, .agg E] w fun e w' => e = .returned (.agg A3) ∧ Below w.heap.size w w') := Lib.hid fun w => by
          rw [← hF3, ← hE3, ← hA3]; exact gadd_any _ _ w htl hcl2
        have HMUL : Hid (∀ w, Calls Tryz.prog 44 #[.agg A3, .agg D] w fun e w' => e = .returned (.agg M) ∧ Below w.heap.size w w') := Lib.hid fun w => by
          rw [← HD3.out, ← hA3, ← hM3]; exact gmul_any _ _ w (addF_lt htl hcl2) HH.out
        have HIF : Hid ((Tryz.prog.info? 49).map (·.size) = some F3.size) := Lib.hid (hF3 ▸ info16 _)
        have HIE : Hid ((Tryz.prog.info? 49).map (·.size) = some E.size) := Lib.hid (hE3 ▸ info16 _)
        have HID : Hid ((Tryz.prog.info? 49).map (·.size) = some D.size) := Lib.hid (HD3.out ▸ info16 _)
        have HM5 : Hid (∃ f, M = (rowC 16 f).toArray) := Lib.hid ⟨_, hM3.symm⟩
        have HF5 : Hid (∃ f, F3 = (rowC 16 f).toArray) := Lib.hid ⟨_, hF3.symm⟩
        have HNE : Hid (∀ p ∈ [(wr.heap.size, E), (w.heap.size + 1, D)], p.1 ≠ w.heap.size) := Lib.hid (by
          intro p hp
          rcases List.mem_cons.1 hp with rfl | hp
          · exact Nat.ne_of_gt hxs
          · rcases List.mem_cons.1 hp with rfl | hp
            · exact Nat.succ_ne_self _
            · cases hp)
        have HNZ : Hid (w.heap.size + 1 + 1 ≠ w.heap.size) := Lib.hid (by omega)
        have HM6 : Hid (M = (rowC 16 (thrF y f n s (k + 1))).toArray) := Lib.hid hM3.symm
        have HD6 : Hid (D = (rowC 16 y).toArray) := Lib.hid HD3.out.symm
        rw [hF3] at hX4
        rw [hE3] at hE
        rw [HD3.out] at hY4
        have hS_0 : SL [(wr.heap.size, E), (w.heap.size + 1, D)] w4.drew := SL.cons hE.drew (SL.cons hY4.drew (SL.nil _))
        have hX_0 : Blk w4.drew w.heap.size F3 49 := hX4.drew
        have hZ_0 : Blk w4.drew (w.heap.size + 1 + 1) (rowC 16 (fun _ => 0)).toArray 49 := hZ4.drew
        have hO_0 : Below w.heap.size w w4.drew := hO4.drew
        clear hX hY hE hX4 hY4 hZ4 hO4 hF3 hE3 hA3 hM3 htl hcl2 HG4 HB5 HX HY HZ HO HB HCS HC1 HQ HRN HEQ HQ3
        refine wp_region_held_drew (S := (SL [(wr.heap.size, E), ((w.heap.size + 1), D)])) (by kernel_rfl) ?_ (fun hHeld => ?_)
        · (try dsimp only)
          first | assumption | (apply SL.drew; assumption)
        generalize w4.drew = w5 at *
        refine wpAnyH_take (i := 1) (oi := { dst := some 19, op := Go.Op.load 49 (Go.Operand.tmp 7), type := 49, pos := "ghash.go:79", after := #[], guard := none }) (v := ?_) rfl (by kernel_rfl) (by kernel_rfl) (by kernel_rfl) (fun _ _ _ h => h) (Or.inl ⟨by rfl, ?_⟩) (by assumption) ?_
        rotate_left
        · intro wS hSw
          refine exec_load16 (x := .tmp 7) ?_ ?_ (ld16 hSw.h0 HIE.out) <;> rfl
        (try simp only [Act.put, List.setIfInBounds_toArray, List.set_cons_zero, List.set_cons_succ])
        refine wpAnyH_take (i := 3) (oi := { dst := some 21, op := Go.Op.load 49 (Go.Operand.tmp 4), type := 49, pos := "ghash.go:79", after := #[], guard := none }) (v := ?_) rfl (by kernel_rfl) (by kernel_rfl) (by kernel_rfl) (fun _ _ _ h => h) (Or.inl ⟨by rfl, ?_⟩) (by assumption) ?_
        rotate_left
        · intro wS hSw
          refine exec_load16 (x := .tmp 4) ?_ ?_ (ld16 hSw.tl.h0 HID.out) <;> rfl
        (try simp only [Act.put, List.setIfInBounds_toArray, List.set_cons_zero, List.set_cons_succ])
        refine wpAnyH_ready (rs := [0]) (by kernel_rfl) (by simp) ?_
        refine AllReadyH.cons (o := { dst := some 18, op := Go.Op.load 49 (Go.Operand.tmp 3), type := 49, pos := "ghash.go:79", after := #[], guard := none }) rfl (fun K hK => ?_) AllReadyH.nil
        refine step_load16 rfl (.tmp 3) rfl w.heap.size rfl F3 hX_0 HIF.out ?_
        refine hK.out _ _ ?_ (fun hHeld => ?_)
        · (try dsimp only)
          first | assumption | (apply SL.drew; assumption)
        clear hK K
        (try simp only [Act.put, List.setIfInBounds_toArray, List.set_cons_zero, List.set_cons_succ])
        refine wpAnyH_ready (rs := [2]) (by kernel_rfl) (by simp) ?_
        refine AllReadyH.cons (o := { dst := some 20, op := Go.Op.call { callee := Go.Callee.value (Go.Operand.func 24), args := #[Go.Operand.tmp 18, Go.Operand.tmp 19], argTypes := #[49, 49] }, type := 49, pos := "ghash.go:79", after := #[{ on := 0, ground := Go.Ground.data }, { on := 1, ground := Go.Ground.data }], guard := none }) rfl (fun K hK => ?_) AllReadyH.nil
        go_simp
        (refine (HADD.out _).mono ?_; rintro e v_1 ⟨rfl, hb_1⟩; have hS_1 := SL.later hS_0 hb_1; have hX_1 := Blk.below hX_0 hb_1 (Blk.lt hX_0); have hZ_1 := Blk.below hZ_0 hb_1 (Blk.lt hZ_0); have hO_1 := Below.trans hO_0 (hb_1.mono hO_0.size); clear hS_0 hX_0 hZ_0 hO_0; clear hb_1; skip)
        (try go_wp2_with fail)
        refine hK.out _ _ ?_ (fun hHeld => ?_)
        · (try dsimp only)
          first | assumption | (apply SL.drew; assumption)
        clear hK K
        (try simp only [Act.put, List.setIfInBounds_toArray, List.set_cons_zero, List.set_cons_succ])
        refine wpAnyH_ready (rs := [4]) (by kernel_rfl) (by simp) ?_
        refine AllReadyH.cons (o := { dst := some 22, op := Go.Op.call { callee := Go.Callee.value (Go.Operand.func 44), args := #[Go.Operand.tmp 20, Go.Operand.tmp 21], argTypes := #[49, 49] }, type := 49, pos := "ghash.go:79", after := #[{ on := 2, ground := Go.Ground.data }, { on := 3, ground := Go.Ground.data }, { on := 2, ground := Go.Ground.chain }], guard := none }) rfl (fun K hK => ?_) AllReadyH.nil
        go_simp
        (refine (HMUL.out _).mono ?_; rintro e v_2 ⟨rfl, hb_2⟩; have hS_2 := SL.later hS_1 hb_2; have hX_2 := Blk.below hX_1 hb_2 (Blk.lt hX_1); have hZ_2 := Blk.below hZ_1 hb_2 (Blk.lt hZ_1); have hO_2 := Below.trans hO_1 (hb_2.mono hO_1.size); clear hS_1 hX_1 hZ_1 hO_1; clear hb_2; skip)
        (try go_wp2_with fail)
        refine hK.out _ _ ?_ (fun hHeld => ?_)
        · (try dsimp only)
          first | assumption | (apply SL.drew; assumption)
        clear hK K
        (try simp only [Act.put, List.setIfInBounds_toArray, List.set_cons_zero, List.set_cons_succ])
        refine wpAnyH_ready (rs := [5]) (by kernel_rfl) (by simp) ?_
        refine AllReadyH.cons (o := { dst := none, op := Go.Op.store 49 (Go.Operand.tmp 3) (Go.Operand.tmp 22), type := 0, pos := "ghash.go:79", after := #[{ on := 4, ground := Go.Ground.data }, { on := 4, ground := Go.Ground.chain }, { on := 0, ground := Go.Ground.phase }, { on := 1, ground := Go.Ground.phase }, { on := 2, ground := Go.Ground.phase }, { on := 3, ground := Go.Ground.phase }, { on := 4, ground := Go.Ground.phase }], guard := none }) rfl (fun K hK => ?_) AllReadyH.nil
        (refine step_store16 rfl (.tmp 3) (.tmp 22) rfl w.heap.size rfl M F3 rfl hX_2 HM5.out HF5.out ?_; have hX_3 := Blk.store16 hX_2 HM5.out HF5.out; have hS_3 := SL.set hS_2 HNE.out M.toList; have hZ_3 := (Own.setCells M.toList 0 v_2).blk hZ_2 HNZ.out; have hO_3 := Below.set16 (g := w.heap.size) hO_2 (Nat.le_refl _) hO_2.size M.toList; obtain ⟨v_3, hw_3⟩ : ∃ q, (v_2.setCells w.heap.size 0 M.toList) = q := ⟨_, rfl⟩; rw [hw_3] at hX_3 hS_3 hZ_3 hO_3 ⊢; clear hX_2 hS_2 hZ_2 hO_2 hw_3; skip)
        refine hK.out _ _ ?_ (fun hHeld => ?_)
        · (try dsimp only)
          first | assumption | (apply SL.drew; assumption)
        clear hK K
        (try simp only [Act.put, List.setIfInBounds_toArray, List.set_cons_zero, List.set_cons_succ])
        refine wpAnyH_done (by kernel_rfl) ?_ _
        have HX9 := Lib.hid hX_3
        have HZ9 := Lib.hid hZ_3
        have HS9 := Lib.hid hS_3
        have HO9 := Lib.hid hO_3
        clear hX_3 hZ_3 hS_3 hO_3
        go_wp2_with fail
        go_roundw
        case rel => exact ⟨k + 1, HK1.out, HRZ.out, (by have q9 := HX9.out; rw [HM6.out] at q9; exact q9), (by have q9 := HS9.out.tl.h0; rw [HD6.out] at q9; exact q9), HZ9.out, HO9.out⟩
        case measure => exact HMZ.out
    · obtain rfl : m = 0 := by omega
      have hmn : 0 = n - 16 * k := HM.out
      obtain rfl : k = (n + 15) / 16 := by omega
      obtain ⟨F3, hF3⟩ : ∃ x, (rowC 16 (thrF y f n s ((n + 15) / 16))).toArray = x := ⟨_, rfl⟩
      have HX : Hid (Blk wr w.heap.size F3 49) := Lib.hid (hF3 ▸ hX)
      have HTh : Hid (wr.there (w.heap.size + 1 + 1) 0 F3.size) := Lib.hid (hF3 ▸ hZ.there _)
      have HI : Hid ((Tryz.prog.info? 49).map (·.size) = some F3.size) := Lib.hid (hF3 ▸ info16 _)
      have HON : Hid (F3.all (·.oneCell') = true) := Lib.hid (hF3 ▸ one16 _)
      have HN : Hid (Blk (wr.setCells (w.heap.size + 1 + 1) 0 F3.toList) (w.heap.size + 1 + 1) F3 49) := Lib.hid (hF3 ▸ hZ.store _)
      have HB2 : Hid (Below w.heap.size w (wr.setCells (w.heap.size + 1 + 1) 0 F3.toList)) := Lib.hid (Below.set16 hO (by omega) hO.size F3.toList)
      have HF3 := Lib.hid hF3
      have HHI := Lib.hid hk
      clear hX hY hZ hO hF3 hmn hby HM hk HHI hlt
      go_wp2_with (first
        | (refine wpList_load_row rfl 49 (.tmp 3) rfl w.heap.size rfl 49 F3 (0, 0) _ HX.out Tryz.underlying49 rfl HI.out ?_)
        | (refine wpList_store_mid rfl 49 (.tmp 6) (.tmp 23) rfl (w.heap.size + 1 + 1) 0 F3 rfl rfl HTh.out HI.out HON.out ?_))
      refine bodyPost_ret (v := .agg F3) ?_ rfl ⟨by rw [HF3.out], HB2.out⟩
      exact results_cell_row Tryz.results43 _ _ (w.heap.size + 1 + 1) 49 F3 (0, 0) _ rfl HN.out Tryz.underlying49 rfl HI.out
end Go.Proofs.YtkcbckafibjflaaGreatDoor
namespace Go.Proofs.YtkcbckafibjflaaGreatDoor
set_option linter.unusedVariables false
set_option linter.unusedSimpArgs false
open Go.RowKit

/-- Behind the blocks of both. -/
def twoF (h f : Nat → Nat) (n : Nat) (g : Nat → Nat) (m : Nat) : Nat → Nat := thrF h g m (thrF h f n (fun _ => 0) ((n + 15) / 16)) ((m + 15) / 16)
def hashF (h f : Nat → Nat) (n : Nat) (g : Nat → Nat) (m : Nat) : Nat → Nat := mulF (addF (twoF h f n g m) (blkF (n * 8) (m * 8))) h
/-- Behind the blocks of both, in memory. -/
def HR1 (w0 : World) (D F : Array Value) (v : Value) (wr : World) : Prop := ∃ g, v = .pointer (some ⟨g, 0, none⟩) ∧ w0.heap.size + 1 < g ∧ Blk wr g F 49 ∧ Blk wr w0.heap.size D 49 ∧ Blk wr (w0.heap.size + 1) zero16 49 ∧ Below w0.heap.size w0 wr
/-- Behind k rounds of the lengths. -/
def HI1 (w0 : World) (D F : Array Value) (a b g z k : Nat) (wr : World) : Prop := Blk wr g F 49 ∧ Blk wr w0.heap.size D 49 ∧ Blk wr (w0.heap.size + 1) zero16 49 ∧ B16 wr z (fun i => if i % 8 < k then blkF a b i else 0) ∧ Below w0.heap.size w0 wr
set_option maxRecDepth 100000 in
set_option maxHeartbeats 4000000 in
theorem hash_any (y f g : Nat → Nat) (oa ob : Option Addr) (n m cn cm : Nat) (w : World) (hy : ∀ i, i < 16 → y i < 256) (ha : Bytes w oa n f) (hb : Bytes w ob m g) (hnc : n ≤ cn) (hmc : m ≤ cm) (hcn : cn ≤ maxLen) (hcm : cm ≤ maxLen) (hn : n < 1000000) (hm : m < 1000000) :
    Calls Tryz.prog 25 #[.agg (rowC 16 y).toArray, .slice oa n cn, .slice ob m cm] w fun e w' => e = .returned (.agg (rowC 16 (hashF y f n g m)).toArray) ∧ Below w.heap.size w w' := by
  have hz := zero16_run
  obtain ⟨D, hD⟩ : ∃ C, (rowC 16 y).toArray = C := ⟨_, rfl⟩
  obtain ⟨T1, hT1⟩ : ∃ C, (rowC 16 (thrF y f n (fun _ => 0) ((n + 15) / 16))).toArray = C := ⟨_, rfl⟩
  obtain ⟨T2, hT2⟩ : ∃ C, (rowC 16 (twoF y f n g m)).toArray = C := ⟨_, rfl⟩
  have hl0 : ∀ i, i < 16 → (fun _ => 0 : Nat → Nat) i < 256 := fun _ _ => Nat.zero_lt_succ _
  have HTH1 : Hid (∀ w', Below w.heap.size w w' → Calls Tryz.prog 43 #[.agg zero16, .agg D, .slice oa n cn] w' fun e w'' => e = .returned (.agg T1) ∧ Below w'.heap.size w' w'') := Lib.hid fun w' hb' => by
    rw [← hD, ← hT1]; exact through_any (fun _ => 0) y f oa n cn w' hl0 hy (ha.later hb') hnc hcn
  have HTH2 : Hid (∀ w', Below w.heap.size w w' → Calls Tryz.prog 43 #[.agg T1, .agg D, .slice ob m cm] w' fun e w'' => e = .returned (.agg T2) ∧ Below w'.heap.size w' w'') := Lib.hid fun w' hb' => by
    rw [← hD, ← hT1, ← hT2]; exact through_any _ y g ob m cm w' (thrF_lt hl0 _) hy (hb.later hb') hmc hcm
  have HID : Hid ((Tryz.prog.info? 49).map (·.size) = some D.size) := Lib.hid (hD ▸ info16 _)
  have HFC : Hid (∃ f, T2 = (rowC 16 f).toArray) := Lib.hid ⟨_, hT2.symm⟩
  have HZC : Hid (∃ f, zero16 = (rowC 16 f).toArray) := Lib.hid ⟨_, rfl⟩
  have HD := Lib.hid hD
  have HT := Lib.hid hT2
  have HY := Lib.hid hy
  have n0 : (0 : Int) ≤ (n : Int) := by omega
  have n1 : (n : Int) < 1000000 := by omega
  have m0 : (0 : Int) ≤ (m : Int) := by omega
  have m1 : (m : Int) < 1000000 := by omega
  rw [hD]
  clear hy ha hb hD hT1 hT2 hnc hmc hcn hcm hl0
  go_enter Tryz.func25, Tryz.ntmps25
  go_upto_region 1 with fail
  obtain ⟨w0, hw0⟩ : ∃ q, (w.alloc (.cells D 49)).alloc (.cells zero16 49) = q := ⟨_, rfl⟩
  have B0 : Blk w0 w.heap.size D 49 := by rw [← hw0]; exact (Blk.new w _ 49).alloc _
  have B1 : Blk w0 (w.heap.size + 1) zero16 49 := by rw [← hw0]; simpa using Blk.new (w.alloc (.cells D 49)) zero16 49
  have O : Below w.heap.size w w0 := by rw [← hw0]; exact ((Below.refl _ _).alloc (Nat.le_refl _) _).alloc (by simp) _
  rw [hw0]
  clear hw0
  go_cut [7] (HR1 w D T2)
  case first =>
    have hS_0 : SL [(w.heap.size, D)] w0.drew := SL.cons B0.drew (SL.nil _)
    have hZ_0 : Blk w0.drew (w.heap.size + 1) zero16 49 := B1.drew
    have hO_0 : Below w.heap.size w w0.drew := O.drew
    clear B0 B1 O
    refine wp_region_held_drew (S := (SL [(w.heap.size, D)])) (by kernel_rfl) ?_ (fun hHeld => ?_)
    · (try dsimp only)
      first | assumption | (apply SL.drew; assumption)
    generalize w0.drew = W0 at *
    refine wpAnyH_take (i := 0) (oi := { dst := some 12, op := Go.Op.build 49 #[], type := 49, pos := "ghash.go:86", after := #[], guard := none }) (v := ?_) rfl (by kernel_rfl) (by kernel_rfl) (by kernel_rfl) (fun _ _ _ h => h) (Or.inl ⟨by rfl, ?_⟩) (by assumption) ?_
    rotate_left
    · intro wS hSw
      refine exec_build (C := zero16) (parts := #[]) (ps := #[]) ?_ ?_ build_none <;> first | rfl | simp
    (try simp only [Act.put, List.setIfInBounds_toArray, List.set_cons_zero, List.set_cons_succ])
    refine wpAnyH_take (i := 1) (oi := { dst := some 13, op := Go.Op.load 49 (Go.Operand.tmp 3), type := 49, pos := "ghash.go:86", after := #[], guard := none }) (v := ?_) rfl (by kernel_rfl) (by kernel_rfl) (by kernel_rfl) (fun _ _ _ h => h) (Or.inl ⟨by rfl, ?_⟩) (by assumption) ?_
    rotate_left
    · intro wS hSw
      refine exec_load16 (x := .tmp 3) ?_ ?_ (ld16 hSw.h0 HID.out) <;> rfl
    (try simp only [Act.put, List.setIfInBounds_toArray, List.set_cons_zero, List.set_cons_succ])
    refine wpAnyH_take (i := 2) (oi := { dst := some 14, op := Go.Op.move (Go.Operand.tmp 1), type := 22, pos := "ghash.go:86", after := #[], guard := none }) (v := ?_) rfl (by kernel_rfl) (by kernel_rfl) (by kernel_rfl) (fun _ _ _ h => h) (Or.inl ⟨by rfl, ?_⟩) (by assumption) ?_
    rotate_left
    · intro wS hSw
      (try dsimp only at hSw)
      go_simp
      (try with_reducible rfl)
    (try simp only [Act.put, List.setIfInBounds_toArray, List.set_cons_zero, List.set_cons_succ])
    refine wpAnyH_take (i := 4) (oi := { dst := some 16, op := Go.Op.load 49 (Go.Operand.tmp 3), type := 49, pos := "ghash.go:86", after := #[], guard := none }) (v := ?_) rfl (by kernel_rfl) (by kernel_rfl) (by kernel_rfl) (fun _ _ _ h => h) (Or.inl ⟨by rfl, ?_⟩) (by assumption) ?_
    rotate_left
    · intro wS hSw
      refine exec_load16 (x := .tmp 3) ?_ ?_ (ld16 hSw.h0 HID.out) <;> rfl
    (try simp only [Act.put, List.setIfInBounds_toArray, List.set_cons_zero, List.set_cons_succ])
    refine wpAnyH_take (i := 5) (oi := { dst := some 17, op := Go.Op.move (Go.Operand.tmp 2), type := 22, pos := "ghash.go:86", after := #[], guard := none }) (v := ?_) rfl (by kernel_rfl) (by kernel_rfl) (by kernel_rfl) (fun _ _ _ h => h) (Or.inl ⟨by rfl, ?_⟩) (by assumption) ?_
    rotate_left
    · intro wS hSw
      (try dsimp only at hSw)
      go_simp
      (try with_reducible rfl)
    (try simp only [Act.put, List.setIfInBounds_toArray, List.set_cons_zero, List.set_cons_succ])
    refine wpAnyH_ready (rs := [3, 7]) (by kernel_rfl) (by simp) ?_
    refine AllReadyH.cons (o := { dst := some 15, op := Go.Op.call { callee := Go.Callee.value (Go.Operand.func 43), args := #[Go.Operand.tmp 12, Go.Operand.tmp 13, Go.Operand.tmp 14], argTypes := #[49, 49, 22] }, type := 49, pos := "ghash.go:86", after := #[{ on := 0, ground := Go.Ground.data }, { on := 1, ground := Go.Ground.data }, { on := 2, ground := Go.Ground.data }], guard := none }) rfl (fun K hK => ?_) ?_
    · skip
      go_simp
      (refine (HTH1.out _ hO_0).mono ?_; rintro e v_1 ⟨rfl, hb_1⟩; have hS_1 := SL.later hS_0 hb_1; have hZ_1 := Blk.below hZ_0 hb_1 (Blk.lt hZ_0); have hO_1 := Below.trans hO_0 (hb_1.mono hO_0.size); clear hS_0 hZ_0 hO_0; clear hb_1; skip)
      (try go_wp2_with fail)
      refine hK.out _ _ ?_ (fun hHeld => ?_)
      · (try dsimp only)
        first | assumption | (apply SL.drew; assumption)
      clear hK K
      (try simp only [Act.put, List.setIfInBounds_toArray, List.set_cons_zero, List.set_cons_succ])
      refine wpAnyH_ready (rs := [6, 7]) (by kernel_rfl) (by simp) ?_
      refine AllReadyH.cons (o := { dst := some 18, op := Go.Op.call { callee := Go.Callee.value (Go.Operand.func 43), args := #[Go.Operand.tmp 15, Go.Operand.tmp 16, Go.Operand.tmp 17], argTypes := #[49, 49, 22] }, type := 49, pos := "ghash.go:86", after := #[{ on := 3, ground := Go.Ground.data }, { on := 4, ground := Go.Ground.data }, { on := 5, ground := Go.Ground.data }, { on := 3, ground := Go.Ground.chain }], guard := none }) rfl (fun K hK => ?_) ?_
      · skip
        go_simp
        (refine (HTH2.out _ hO_1).mono ?_; rintro e v_2 ⟨rfl, hb_2⟩; have hS_2 := SL.later hS_1 hb_2; have hZ_2 := Blk.below hZ_1 hb_2 (Blk.lt hZ_1); have hO_2 := Below.trans hO_1 (hb_2.mono hO_1.size); clear hS_1 hZ_1 hO_1; clear hb_2; skip)
        (try go_wp2_with fail)
        refine hK.out _ _ ?_ (fun hHeld => ?_)
        · (try dsimp only)
          first | assumption | (apply SL.drew; assumption)
        clear hK K
        (try simp only [Act.put, List.setIfInBounds_toArray, List.set_cons_zero, List.set_cons_succ])
        refine wpAnyH_ready (rs := [7]) (by kernel_rfl) (by simp) ?_
        refine AllReadyH.cons (o := { dst := some 7, op := Go.Op.alloc 49, type := 0, pos := "ghash.go:86", after := #[], guard := none }) rfl (fun K hK => ?_) AllReadyH.nil
        go_simp
        (obtain ⟨v_3, hw_3⟩ : ∃ q, v_2.alloc (.cells zero16 49) = q := ⟨_, rfl⟩; rw [hw_3]; have hb_3 : Below v_2.heap.size v_2 v_3 := (by rw [← hw_3]; exact (Below.refl _ _).alloc (Nat.le_refl _) _); have hS_3 := SL.later hS_2 hb_3; have hZ_3 := Blk.below hZ_2 hb_3 (Blk.lt hZ_2); have hO_3 := Below.trans hO_2 (hb_3.mono hO_2.size); have hG_3 : Blk v_3 v_2.heap.size zero16 49 := (by rw [← hw_3]; exact Blk.new _ _ _); have HGL := Lib.hid (show w.heap.size + 1 < v_2.heap.size from Blk.lt hZ_2); clear hS_2 hZ_2 hO_2; clear hb_3 hw_3; skip)
        (try go_wp2_with fail)
        refine hK.out _ _ ?_ (fun hHeld => ?_)
        · (try dsimp only)
          first | assumption | (apply SL.drew; assumption)
        clear hK K
        (try simp only [Act.put, List.setIfInBounds_toArray, List.set_cons_zero, List.set_cons_succ])
        refine wpAnyH_ready (rs := [8]) (by kernel_rfl) (by simp) ?_
        refine AllReadyH.cons (o := { dst := none, op := Go.Op.store 49 (Go.Operand.tmp 7) (Go.Operand.tmp 18), type := 0, pos := "ghash.go:86", after := #[{ on := 7, ground := Go.Ground.data }, { on := 6, ground := Go.Ground.data }, { on := 6, ground := Go.Ground.chain }, { on := 0, ground := Go.Ground.phase }, { on := 1, ground := Go.Ground.phase }, { on := 2, ground := Go.Ground.phase }, { on := 3, ground := Go.Ground.phase }, { on := 4, ground := Go.Ground.phase }, { on := 5, ground := Go.Ground.phase }, { on := 6, ground := Go.Ground.phase }, { on := 7, ground := Go.Ground.phase }], guard := none }) rfl (fun K hK => ?_) AllReadyH.nil
        (refine step_store16 rfl (.tmp 7) (.tmp 18) rfl v_2.heap.size rfl T2 zero16 rfl hG_3 HFC.out HZC.out ?_; have hG_4 := Blk.store16 hG_3 HFC.out HZC.out; have hS_4 := SL.set hS_3 (Lib.hid (show ∀ p ∈ [(w.heap.size, D)], p.1 ≠ v_2.heap.size by have h7 := HGL.out; intro p hp; rcases List.mem_cons.1 hp with rfl | hp; (show w.heap.size ≠ _; omega); cases hp)).out T2.toList; have hZ_4 := (Own.setCells T2.toList 0 v_3).blk hZ_3 (Lib.hid (show w.heap.size + 1 ≠ v_2.heap.size by have h7 := HGL.out; omega)).out; have hO_4 := Below.set16 (g := v_2.heap.size) hO_3 (by have h7 := HGL.out; omega) hO_3.size T2.toList; obtain ⟨v_4, hw_4⟩ : ∃ q, (v_3.setCells v_2.heap.size 0 T2.toList) = q := ⟨_, rfl⟩; rw [hw_4] at hG_4 hS_4 hZ_4 hO_4 ⊢; clear hG_3 hS_3 hZ_3 hO_3 hw_4; skip)
        refine hK.out _ _ ?_ (fun hHeld => ?_)
        · (try dsimp only)
          first | assumption | (apply SL.drew; assumption)
        clear hK K
        (try simp only [Act.put, List.setIfInBounds_toArray, List.set_cons_zero, List.set_cons_succ])
        refine wpAnyH_done (by kernel_rfl) ?_ _
        go_wp2_with fail
        go_meet
        exact ⟨_, rfl, HGL.out, hG_4, hS_4.h0, hZ_4, hO_4⟩
      refine AllReadyH.cons (o := { dst := some 7, op := Go.Op.alloc 49, type := 0, pos := "ghash.go:86", after := #[], guard := none }) rfl (fun K hK => ?_) AllReadyH.nil
      go_simp
      (obtain ⟨v_5, hw_5⟩ : ∃ q, v_1.alloc (.cells zero16 49) = q := ⟨_, rfl⟩; rw [hw_5]; have hb_5 : Below v_1.heap.size v_1 v_5 := (by rw [← hw_5]; exact (Below.refl _ _).alloc (Nat.le_refl _) _); have hS_5 := SL.later hS_1 hb_5; have hZ_5 := Blk.below hZ_1 hb_5 (Blk.lt hZ_1); have hO_5 := Below.trans hO_1 (hb_5.mono hO_1.size); have hG_5 : Blk v_5 v_1.heap.size zero16 49 := (by rw [← hw_5]; exact Blk.new _ _ _); have HGL := Lib.hid (show w.heap.size + 1 < v_1.heap.size from Blk.lt hZ_1); clear hS_1 hZ_1 hO_1; clear hb_5 hw_5; skip)
      (try go_wp2_with fail)
      refine hK.out _ _ ?_ (fun hHeld => ?_)
      · (try dsimp only)
        first | assumption | (apply SL.drew; assumption)
      clear hK K
      (try simp only [Act.put, List.setIfInBounds_toArray, List.set_cons_zero, List.set_cons_succ])
      refine wpAnyH_ready (rs := [6]) (by kernel_rfl) (by simp) ?_
      refine AllReadyH.cons (o := { dst := some 18, op := Go.Op.call { callee := Go.Callee.value (Go.Operand.func 43), args := #[Go.Operand.tmp 15, Go.Operand.tmp 16, Go.Operand.tmp 17], argTypes := #[49, 49, 22] }, type := 49, pos := "ghash.go:86", after := #[{ on := 3, ground := Go.Ground.data }, { on := 4, ground := Go.Ground.data }, { on := 5, ground := Go.Ground.data }, { on := 3, ground := Go.Ground.chain }], guard := none }) rfl (fun K hK => ?_) AllReadyH.nil
      go_simp
      (refine (HTH2.out _ hO_5).mono ?_; rintro e v_6 ⟨rfl, hb_6⟩; have hS_6 := SL.later hS_5 hb_6; have hZ_6 := Blk.below hZ_5 hb_6 (Blk.lt hZ_5); have hG_6 := Blk.below hG_5 hb_6 (Blk.lt hG_5); have hO_6 := Below.trans hO_5 (hb_6.mono hO_5.size); clear hS_5 hZ_5 hG_5 hO_5; clear hb_6; skip)
      (try go_wp2_with fail)
      refine hK.out _ _ ?_ (fun hHeld => ?_)
      · (try dsimp only)
        first | assumption | (apply SL.drew; assumption)
      clear hK K
      (try simp only [Act.put, List.setIfInBounds_toArray, List.set_cons_zero, List.set_cons_succ])
      refine wpAnyH_ready (rs := [8]) (by kernel_rfl) (by simp) ?_
      refine AllReadyH.cons (o := { dst := none, op := Go.Op.store 49 (Go.Operand.tmp 7) (Go.Operand.tmp 18), type := 0, pos := "ghash.go:86", after := #[{ on := 7, ground := Go.Ground.data }, { on := 6, ground := Go.Ground.data }, { on := 6, ground := Go.Ground.chain }, { on := 0, ground := Go.Ground.phase }, { on := 1, ground := Go.Ground.phase }, { on := 2, ground := Go.Ground.phase }, { on := 3, ground := Go.Ground.phase }, { on := 4, ground := Go.Ground.phase }, { on := 5, ground := Go.Ground.phase }, { on := 6, ground := Go.Ground.phase }, { on := 7, ground := Go.Ground.phase }], guard := none }) rfl (fun K hK => ?_) AllReadyH.nil
      (refine step_store16 rfl (.tmp 7) (.tmp 18) rfl v_1.heap.size rfl T2 zero16 rfl hG_6 HFC.out HZC.out ?_; have hG_7 := Blk.store16 hG_6 HFC.out HZC.out; have hS_7 := SL.set hS_6 (Lib.hid (show ∀ p ∈ [(w.heap.size, D)], p.1 ≠ v_1.heap.size by have h7 := HGL.out; intro p hp; rcases List.mem_cons.1 hp with rfl | hp; (show w.heap.size ≠ _; omega); cases hp)).out T2.toList; have hZ_7 := (Own.setCells T2.toList 0 v_6).blk hZ_6 (Lib.hid (show w.heap.size + 1 ≠ v_1.heap.size by have h7 := HGL.out; omega)).out; have hO_7 := Below.set16 (g := v_1.heap.size) hO_6 (by have h7 := HGL.out; omega) hO_6.size T2.toList; obtain ⟨v_7, hw_7⟩ : ∃ q, (v_6.setCells v_1.heap.size 0 T2.toList) = q := ⟨_, rfl⟩; rw [hw_7] at hG_7 hS_7 hZ_7 hO_7 ⊢; clear hG_6 hS_6 hZ_6 hO_6 hw_7; skip)
      refine hK.out _ _ ?_ (fun hHeld => ?_)
      · (try dsimp only)
        first | assumption | (apply SL.drew; assumption)
      clear hK K
      (try simp only [Act.put, List.setIfInBounds_toArray, List.set_cons_zero, List.set_cons_succ])
      refine wpAnyH_done (by kernel_rfl) ?_ _
      go_wp2_with fail
      go_meet
      exact ⟨_, rfl, HGL.out, hG_7, hS_7.h0, hZ_7, hO_7⟩
    refine AllReadyH.cons (o := { dst := some 7, op := Go.Op.alloc 49, type := 0, pos := "ghash.go:86", after := #[], guard := none }) rfl (fun K hK => ?_) AllReadyH.nil
    go_simp
    (obtain ⟨v_8, hw_8⟩ : ∃ q, W0.alloc (.cells zero16 49) = q := ⟨_, rfl⟩; rw [hw_8]; have hb_8 : Below W0.heap.size W0 v_8 := (by rw [← hw_8]; exact (Below.refl _ _).alloc (Nat.le_refl _) _); have hS_8 := SL.later hS_0 hb_8; have hZ_8 := Blk.below hZ_0 hb_8 (Blk.lt hZ_0); have hO_8 := Below.trans hO_0 (hb_8.mono hO_0.size); have hG_8 : Blk v_8 W0.heap.size zero16 49 := (by rw [← hw_8]; exact Blk.new _ _ _); have HGL := Lib.hid (show w.heap.size + 1 < W0.heap.size from Blk.lt hZ_0); clear hS_0 hZ_0 hO_0; clear hb_8 hw_8; skip)
    (try go_wp2_with fail)
    refine hK.out _ _ ?_ (fun hHeld => ?_)
    · (try dsimp only)
      first | assumption | (apply SL.drew; assumption)
    clear hK K
    (try simp only [Act.put, List.setIfInBounds_toArray, List.set_cons_zero, List.set_cons_succ])
    refine wpAnyH_ready (rs := [3]) (by kernel_rfl) (by simp) ?_
    refine AllReadyH.cons (o := { dst := some 15, op := Go.Op.call { callee := Go.Callee.value (Go.Operand.func 43), args := #[Go.Operand.tmp 12, Go.Operand.tmp 13, Go.Operand.tmp 14], argTypes := #[49, 49, 22] }, type := 49, pos := "ghash.go:86", after := #[{ on := 0, ground := Go.Ground.data }, { on := 1, ground := Go.Ground.data }, { on := 2, ground := Go.Ground.data }], guard := none }) rfl (fun K hK => ?_) AllReadyH.nil
    go_simp
    (refine (HTH1.out _ hO_8).mono ?_; rintro e v_9 ⟨rfl, hb_9⟩; have hS_9 := SL.later hS_8 hb_9; have hZ_9 := Blk.below hZ_8 hb_9 (Blk.lt hZ_8); have hG_9 := Blk.below hG_8 hb_9 (Blk.lt hG_8); have hO_9 := Below.trans hO_8 (hb_9.mono hO_8.size); clear hS_8 hZ_8 hG_8 hO_8; clear hb_9; skip)
    (try go_wp2_with fail)
    refine hK.out _ _ ?_ (fun hHeld => ?_)
    · (try dsimp only)
      first | assumption | (apply SL.drew; assumption)
    clear hK K
    (try simp only [Act.put, List.setIfInBounds_toArray, List.set_cons_zero, List.set_cons_succ])
    refine wpAnyH_ready (rs := [6]) (by kernel_rfl) (by simp) ?_
    refine AllReadyH.cons (o := { dst := some 18, op := Go.Op.call { callee := Go.Callee.value (Go.Operand.func 43), args := #[Go.Operand.tmp 15, Go.Operand.tmp 16, Go.Operand.tmp 17], argTypes := #[49, 49, 22] }, type := 49, pos := "ghash.go:86", after := #[{ on := 3, ground := Go.Ground.data }, { on := 4, ground := Go.Ground.data }, { on := 5, ground := Go.Ground.data }, { on := 3, ground := Go.Ground.chain }], guard := none }) rfl (fun K hK => ?_) AllReadyH.nil
    go_simp
    (refine (HTH2.out _ hO_9).mono ?_; rintro e v_10 ⟨rfl, hb_10⟩; have hS_10 := SL.later hS_9 hb_10; have hZ_10 := Blk.below hZ_9 hb_10 (Blk.lt hZ_9); have hG_10 := Blk.below hG_9 hb_10 (Blk.lt hG_9); have hO_10 := Below.trans hO_9 (hb_10.mono hO_9.size); clear hS_9 hZ_9 hG_9 hO_9; clear hb_10; skip)
    (try go_wp2_with fail)
    refine hK.out _ _ ?_ (fun hHeld => ?_)
    · (try dsimp only)
      first | assumption | (apply SL.drew; assumption)
    clear hK K
    (try simp only [Act.put, List.setIfInBounds_toArray, List.set_cons_zero, List.set_cons_succ])
    refine wpAnyH_ready (rs := [8]) (by kernel_rfl) (by simp) ?_
    refine AllReadyH.cons (o := { dst := none, op := Go.Op.store 49 (Go.Operand.tmp 7) (Go.Operand.tmp 18), type := 0, pos := "ghash.go:86", after := #[{ on := 7, ground := Go.Ground.data }, { on := 6, ground := Go.Ground.data }, { on := 6, ground := Go.Ground.chain }, { on := 0, ground := Go.Ground.phase }, { on := 1, ground := Go.Ground.phase }, { on := 2, ground := Go.Ground.phase }, { on := 3, ground := Go.Ground.phase }, { on := 4, ground := Go.Ground.phase }, { on := 5, ground := Go.Ground.phase }, { on := 6, ground := Go.Ground.phase }, { on := 7, ground := Go.Ground.phase }], guard := none }) rfl (fun K hK => ?_) AllReadyH.nil
    (refine step_store16 rfl (.tmp 7) (.tmp 18) rfl W0.heap.size rfl T2 zero16 rfl hG_10 HFC.out HZC.out ?_; have hG_11 := Blk.store16 hG_10 HFC.out HZC.out; have hS_11 := SL.set hS_10 (Lib.hid (show ∀ p ∈ [(w.heap.size, D)], p.1 ≠ W0.heap.size by have h7 := HGL.out; intro p hp; rcases List.mem_cons.1 hp with rfl | hp; (show w.heap.size ≠ _; omega); cases hp)).out T2.toList; have hZ_11 := (Own.setCells T2.toList 0 v_10).blk hZ_10 (Lib.hid (show w.heap.size + 1 ≠ W0.heap.size by have h7 := HGL.out; omega)).out; have hO_11 := Below.set16 (g := W0.heap.size) hO_10 (by have h7 := HGL.out; omega) hO_10.size T2.toList; obtain ⟨v_11, hw_11⟩ : ∃ q, (v_10.setCells W0.heap.size 0 T2.toList) = q := ⟨_, rfl⟩; rw [hw_11] at hG_11 hS_11 hZ_11 hO_11 ⊢; clear hG_10 hS_10 hZ_10 hO_10 hw_11; skip)
    refine hK.out _ _ ?_ (fun hHeld => ?_)
    · (try dsimp only)
      first | assumption | (apply SL.drew; assumption)
    clear hK K
    (try simp only [Act.put, List.setIfInBounds_toArray, List.set_cons_zero, List.set_cons_succ])
    refine wpAnyH_done (by kernel_rfl) ?_ _
    go_wp2_with fail
    go_meet
    exact ⟨_, rfl, HGL.out, hG_11, hS_11.h0, hZ_11, hO_11⟩
  case rest =>
    obtain ⟨q, rfl, hq, hF, hDD, hZ, hO⟩ := hcut
    have HT1 : Hid (∀ wz, wc.alloc (.cells zero16 49) = wz → HI1 w D T2 (n * 8) (m * 8) q wc.heap.size 0 wz) := Lib.hid fun wz e => by
      rw [← e]
      refine ⟨hF.alloc _, hDD.alloc _, hZ.alloc _, ?_, hO.alloc hO.size _⟩
      refine B16.congr (f := fun _ => 0) ?_ fun i _ => (if_neg (Nat.not_lt_zero _)).symm
      exact Blk.new wc zero16 49
    have HQ := Lib.hid hq
    have HQZ : Hid (q < wc.heap.size) := Lib.hid (Blk.lt hF)
    clear hF hDD hZ hO hq
    go_wp2_with fail
    clear hz
    go_loopw [27] (fun i wr => ∃ k : Nat, k ≤ 8 ∧ i = .int .i64 (k : Int) ∧ HI1 w D T2 (n * 8) (m * 8) q wc.heap.size k wr) (fun i _ => 8 - (intOf i).toNat)
    case atStart => exact ⟨0, Nat.zero_le _, rfl, HT1.out _ rfl⟩
    case round =>
      obtain ⟨k, hk, rfl, hT⟩ := hrel
      by_cases hlt : k < 8
      · obtain ⟨hF, hDD, hZ, hL, hO⟩ := hT
        have z0 : wr.cell? ⟨wc.heap.size, k, none⟩ = some (.int .u8 0) := by
          have := hL.cell (show k < 16 by omega); rw [if_neg (by omega)] at this; exact this
        have z1 : wr.cell? ⟨wc.heap.size, 8 + k, none⟩ = some (.int .u8 0) := by
          have := hL.cell (show 8 + k < 16 by omega); rw [if_neg (by omega)] at this; exact this
        have f0 : wr.frozen? ⟨wc.heap.size, k, none⟩ = false := Blk.free hL _
        have f1 : wr.frozen? ⟨wc.heap.size, 8 + k, none⟩ = false := Blk.free hL _
        have n1' : IntKind.u8.wrap ((n : Int) * 8 / (2 : Int) ^ (56 - 8 * k)) = ((numB (n * 8) 8 k : Nat) : Int) := by
          have := numB_shift (n * 8) k hlt
          rw [show ((n * 8 : Nat) : Int) = (n : Int) * 8 by omega] at this; exact this
        have n2' : IntKind.u8.wrap ((m : Int) * 8 / (2 : Int) ^ (56 - 8 * k)) = ((numB (m * 8) 8 k : Nat) : Int) := by
          have := numB_shift (m * 8) k hlt
          rw [show ((m * 8 : Nat) : Int) = (m : Int) * 8 by omega] at this; exact this
        have k0 : (0 : Int) ≤ (k : Int) := by omega
        have k1 : (k : Int) < 8 := by omega
        have hq1 := HQ.out
        have hq2 := HQZ.out
        have HN := Lib.hid (show HI1 w D T2 (n * 8) (m * 8) q wc.heap.size (k + 1) ((wr.setCell ⟨wc.heap.size, k, none⟩ (.int .u8 (numB (n * 8) 8 k : Nat))).setCell ⟨wc.heap.size, 8 + k, none⟩ (.int .u8 (numB (m * 8) 8 k : Nat))) by
          refine ⟨Blk.set_other (Blk.set_other hF (by simp; omega) _) (by simp; omega) _, Blk.set_other (Blk.set_other hDD (by simp; omega) _) (by simp; omega) _, Blk.set_other (Blk.set_other hZ (by simp; omega) _) (by simp; omega) _, B16.congr ((hL.set k (numB (n * 8) 8 k)).set (8 + k) (numB (m * 8) 8 k)) fun i hi => ?_, (hO.setCell (by simp; omega) _).setCell (by simp; omega) _⟩
          unfold upd
          by_cases e : i = 8 + k
          · subst e; rw [if_pos rfl]
            show _ = if (8 + k) % 8 < k + 1 then blkF (n * 8) (m * 8) (8 + k) else 0
            rw [if_pos (by omega)]; unfold blkF; rw [if_neg (by omega), show 8 + k - 8 = k by omega]
          · rw [if_neg e]
            by_cases e' : i = k
            · subst e'; rw [if_pos rfl]
              show _ = if i % 8 < i + 1 then blkF (n * 8) (m * 8) i else 0
              rw [if_pos (by omega)]; unfold blkF; rw [if_pos hlt]
            · rw [if_neg e']
              show (if i % 8 < k then blkF (n * 8) (m * 8) i else 0) = if i % 8 < k + 1 then blkF (n * 8) (m * 8) i else 0
              by_cases h5 : i % 8 < k
              · rw [if_pos h5, if_pos (by omega)]
              · rw [if_neg h5, if_neg (by omega)])
        clear hF hDD hZ hL hO hq1 hq2
        generalize (n : Int) * 8 = a8 at *
        generalize (m : Int) * 8 = b8 at *
        generalize numB (n * 8) 8 k = u at *
        generalize numB (m * 8) 8 k = v at *
        rcases (show k = 0 ∨ k = 1 ∨ k = 2 ∨ k = 3 ∨ k = 4 ∨ k = 5 ∨ k = 6 ∨ k = 7 by omega) with rfl | rfl | rfl | rfl | rfl | rfl | rfl | rfl
        all_goals
          simp at z0 z1 f0 f1
          simp at n1' n2'
          go_wp2_with fail
          go_roundw
          case rel => first | exact ⟨1, by omega, rfl, HN.out⟩ | exact ⟨2, by omega, rfl, HN.out⟩ | exact ⟨3, by omega, rfl, HN.out⟩ | exact ⟨4, by omega, rfl, HN.out⟩ | exact ⟨5, by omega, rfl, HN.out⟩ | exact ⟨6, by omega, rfl, HN.out⟩ | exact ⟨7, by omega, rfl, HN.out⟩ | exact ⟨8, by omega, rfl, HN.out⟩
          case measure => simp [intOf]
      · obtain rfl : k = 8 := by omega
        obtain ⟨hF, hDD, hZ, hL, hO⟩ := hT
        have hL' : B16 wr wc.heap.size (blkF (n * 8) (m * 8)) := hL.congr fun i hi => if_pos (Nat.mod_lt _ (by decide))
        obtain ⟨E, hE⟩ : ∃ E, (rowC 16 (blkF (n * 8) (m * 8))).toArray = E := ⟨_, rfl⟩
        obtain ⟨A3, hA3⟩ : ∃ E, (rowC 16 (addF (twoF y f n g m) (blkF (n * 8) (m * 8)))).toArray = E := ⟨_, rfl⟩
        obtain ⟨M, hM3⟩ : ∃ E, (rowC 16 (hashF y f n g m)).toArray = E := ⟨_, rfl⟩
        have htl : ∀ i, i < 16 → twoF y f n g m i < 256 := thrF_lt (thrF_lt (fun _ _ => Nat.zero_lt_succ _) _) _
        have hcl2 : ∀ i, i < 16 → blkF (n * 8) (m * 8) i < 256 := fun i _ => blkF_lt _ _ i
        have HADD : Hid (∀ w, Calls Tryz.prog 24 #[.agg T2, .agg E] w fun e w' => e = .returned (.agg A3) ∧ Below w.heap.size w w') := Lib.hid fun w => by
          rw [← HT.out, ← hE, ← hA3]; exact gadd_any _ _ w htl hcl2
        have HMUL : Hid (∀ w, Calls Tryz.prog 44 #[.agg A3, .agg D] w fun e w' => e = .returned (.agg M) ∧ Below w.heap.size w w') := Lib.hid fun w => by
          rw [← HD.out, ← hA3, ← hM3]; exact gmul_any _ _ w (addF_lt htl hcl2) HY.out
        have HIT : Hid ((Tryz.prog.info? 49).map (·.size) = some T2.size) := Lib.hid (HT.out ▸ info16 _)
        have HIE : Hid ((Tryz.prog.info? 49).map (·.size) = some E.size) := Lib.hid (hE ▸ info16 _)
        have HIM : Hid ((Tryz.prog.info? 49).map (·.size) = some M.size) := Lib.hid (hM3 ▸ info16 _)
        have HM5 : Hid (∃ f, M = (rowC 16 f).toArray) := Lib.hid ⟨_, hM3.symm⟩
        have HM6 := Lib.hid hM3
        have hq1 := HQ.out
        have hq2 := HQZ.out
        have HNE : Hid (∀ p ∈ [(q, T2), (wc.heap.size, E), (w.heap.size, D)], p.1 ≠ w.heap.size + 1) := Lib.hid (by
          intro p hp
          rcases List.mem_cons.1 hp with rfl | hp
          · show q ≠ _; omega
          · rcases List.mem_cons.1 hp with rfl | hp
            · show wc.heap.size ≠ _; omega
            · rcases List.mem_cons.1 hp with rfl | hp
              · show w.heap.size ≠ _; omega
              · cases hp)
        have hL2 : Blk wr wc.heap.size E 49 := hE ▸ hL'
        have hS : SL [(q, T2), (wc.heap.size, E), (w.heap.size, D)] wr := SL.cons hF (SL.cons hL2 (SL.cons hDD (SL.nil _)))
        clear hF hDD hL hL' hL2 hE hA3 hM3 htl hcl2 hq1 hq2 HT1 hlt hk HTH1 HTH2
        have HS0 := Lib.hid hS
        have HZ0 := Lib.hid hZ
        have HO0 := Lib.hid hO
        clear hS hZ hO
        go_wp2_with fail
        have hS_0 := HS0.out.drew
        have hZ_0 := Blk.drew HZ0.out
        have hO_0 := HO0.out.drew
        clear HS0 HZ0 HO0
        refine wp_region_held_drew (S := (SL [(q, T2), (wc.heap.size, E), (w.heap.size, D)])) (by kernel_rfl) ?_ (fun hHeld => ?_)
        · (try dsimp only)
          first | assumption | (apply SL.drew; assumption)
        generalize wr.drew = w5 at *
        refine wpAnyH_take (i := 0) (oi := { dst := some 48, op := Go.Op.load 49 (Go.Operand.tmp 7), type := 49, pos := "ghash.go:93", after := #[], guard := none }) (v := ?_) rfl (by kernel_rfl) (by kernel_rfl) (by kernel_rfl) (fun _ _ _ h => h) (Or.inl ⟨by rfl, ?_⟩) (by assumption) ?_
        rotate_left
        · intro wS hSw
          refine exec_load16 (x := .tmp 7) ?_ ?_ (ld16 hSw.h0 HIT.out) <;> rfl
        (try simp only [Act.put, List.setIfInBounds_toArray, List.set_cons_zero, List.set_cons_succ])
        refine wpAnyH_take (i := 1) (oi := { dst := some 49, op := Go.Op.load 49 (Go.Operand.tmp 10), type := 49, pos := "ghash.go:93", after := #[], guard := none }) (v := ?_) rfl (by kernel_rfl) (by kernel_rfl) (by kernel_rfl) (fun _ _ _ h => h) (Or.inl ⟨by rfl, ?_⟩) (by assumption) ?_
        rotate_left
        · intro wS hSw
          refine exec_load16 (x := .tmp 10) ?_ ?_ (ld16 hSw.tl.h0 HIE.out) <;> rfl
        (try simp only [Act.put, List.setIfInBounds_toArray, List.set_cons_zero, List.set_cons_succ])
        refine wpAnyH_take (i := 3) (oi := { dst := some 51, op := Go.Op.load 49 (Go.Operand.tmp 3), type := 49, pos := "ghash.go:93", after := #[], guard := none }) (v := ?_) rfl (by kernel_rfl) (by kernel_rfl) (by kernel_rfl) (fun _ _ _ h => h) (Or.inl ⟨by rfl, ?_⟩) (by assumption) ?_
        rotate_left
        · intro wS hSw
          refine exec_load16 (x := .tmp 3) ?_ ?_ (ld16 hSw.tl.tl.h0 HID.out) <;> rfl
        (try simp only [Act.put, List.setIfInBounds_toArray, List.set_cons_zero, List.set_cons_succ])
        refine wpAnyH_ready (rs := [2]) (by kernel_rfl) (by simp) ?_
        refine AllReadyH.cons (o := { dst := some 50, op := Go.Op.call { callee := Go.Callee.value (Go.Operand.func 24), args := #[Go.Operand.tmp 48, Go.Operand.tmp 49], argTypes := #[49, 49] }, type := 49, pos := "ghash.go:93", after := #[{ on := 0, ground := Go.Ground.data }, { on := 1, ground := Go.Ground.data }], guard := none }) rfl (fun K hK => ?_) AllReadyH.nil
        go_simp
        (refine (HADD.out _).mono ?_; rintro e v_12 ⟨rfl, hb_12⟩; have hS_12 := SL.later hS_0 hb_12; have hZ_12 := Blk.below hZ_0 hb_12 (Blk.lt hZ_0); have hO_12 := Below.trans hO_0 (hb_12.mono hO_0.size); clear hS_0 hZ_0 hO_0; clear hb_12; skip)
        (try go_wp2_with fail)
        refine hK.out _ _ ?_ (fun hHeld => ?_)
        · (try dsimp only)
          first | assumption | (apply SL.drew; assumption)
        clear hK K
        (try simp only [Act.put, List.setIfInBounds_toArray, List.set_cons_zero, List.set_cons_succ])
        refine wpAnyH_ready (rs := [4]) (by kernel_rfl) (by simp) ?_
        refine AllReadyH.cons (o := { dst := some 52, op := Go.Op.call { callee := Go.Callee.value (Go.Operand.func 44), args := #[Go.Operand.tmp 50, Go.Operand.tmp 51], argTypes := #[49, 49] }, type := 49, pos := "ghash.go:93", after := #[{ on := 2, ground := Go.Ground.data }, { on := 3, ground := Go.Ground.data }, { on := 2, ground := Go.Ground.chain }], guard := none }) rfl (fun K hK => ?_) AllReadyH.nil
        go_simp
        (refine (HMUL.out _).mono ?_; rintro e v_13 ⟨rfl, hb_13⟩; have hS_13 := SL.later hS_12 hb_13; have hZ_13 := Blk.below hZ_12 hb_13 (Blk.lt hZ_12); have hO_13 := Below.trans hO_12 (hb_13.mono hO_12.size); clear hS_12 hZ_12 hO_12; clear hb_13; skip)
        (try go_wp2_with fail)
        refine hK.out _ _ ?_ (fun hHeld => ?_)
        · (try dsimp only)
          first | assumption | (apply SL.drew; assumption)
        clear hK K
        (try simp only [Act.put, List.setIfInBounds_toArray, List.set_cons_zero, List.set_cons_succ])
        refine wpAnyH_ready (rs := [5]) (by kernel_rfl) (by simp) ?_
        refine AllReadyH.cons (o := { dst := none, op := Go.Op.store 49 (Go.Operand.tmp 6) (Go.Operand.tmp 52), type := 0, pos := "ghash.go:93", after := #[{ on := 4, ground := Go.Ground.data }, { on := 4, ground := Go.Ground.chain }, { on := 0, ground := Go.Ground.phase }, { on := 1, ground := Go.Ground.phase }, { on := 2, ground := Go.Ground.phase }, { on := 3, ground := Go.Ground.phase }, { on := 4, ground := Go.Ground.phase }], guard := none }) rfl (fun K hK => ?_) AllReadyH.nil
        (refine step_store16 rfl (.tmp 6) (.tmp 52) rfl (w.heap.size + 1) rfl M zero16 rfl hZ_13 HM5.out HZC.out ?_; have hZ_14 := Blk.store16 hZ_13 HM5.out HZC.out; have hS_14 := SL.set hS_13 HNE.out M.toList; have hO_14 := Below.set16 (g := (w.heap.size + 1)) hO_13 (by omega) hO_13.size M.toList; obtain ⟨v_14, hw_14⟩ : ∃ q, (v_13.setCells (w.heap.size + 1) 0 M.toList) = q := ⟨_, rfl⟩; rw [hw_14] at hZ_14 hS_14 hO_14 ⊢; clear hZ_13 hS_13 hO_13 hw_14; skip)
        refine hK.out _ _ ?_ (fun hHeld => ?_)
        · (try dsimp only)
          first | assumption | (apply SL.drew; assumption)
        clear hK K
        (try simp only [Act.put, List.setIfInBounds_toArray, List.set_cons_zero, List.set_cons_succ])
        refine wpAnyH_done (by kernel_rfl) ?_ _
        have HX9 := Lib.hid hZ_14
        have HO9 := Lib.hid hO_14
        clear hS_14 hZ_14 hO_14
        go_wp2_with fail
        refine bodyPost_ret (v := .agg M) ?_ rfl ⟨by rw [HM6.out], HO9.out⟩
        exact results_cell_row Tryz.results25 _ _ (w.heap.size + 1) 49 M (0, 0) _ rfl HX9.out Tryz.underlying49 rfl HIM.out
end Go.Proofs.YtkcbckafibjflaaGreatDoor
