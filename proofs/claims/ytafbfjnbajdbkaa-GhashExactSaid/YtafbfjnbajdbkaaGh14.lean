/- The document's product, byte by byte, is the product. -/
import Derived.Test.YtafbfjnbajdbkaaGh8
namespace Go.Proofs.Ytafbfjnbajdbkaa
set_option linter.unusedVariables false
set_option linter.unusedSimpArgs false
open Go.RowKit

/-- The document's way: a number of 16 bytes moved by one place, byte by byte. -/
def shF (v : Nat → Nat) : Nat → Nat := fun k => v k / 2 + (if 0 < k then v (k - 1) % 2 * 128 else 0)
def nxF (v : Nat → Nat) : Nat → Nat := fun k => if k = 0 ∧ v 15 % 2 = 1 then shF v 0 ^^^ 225 else shF v k
def vB (y : Nat → Nat) : Nat → Nat → Nat | 0 => y | k + 1 => nxF (vB y k)
def hB (x : Nat → Nat) (k : Nat) : Bool := decide (128 ≤ x (k / 8) * 2 ^ (k % 8) % 256)
def zB (x y : Nat → Nat) : Nat → Nat → Nat | 0 => fun _ => 0 | k + 1 => if hB x k then addF (zB x y k) (vB y k) else zB x y k
theorem shF_lt {v : Nat → Nat} (hv : ∀ i, i < 16 → v i < 256) (i : Nat) (hi : i < 16) : shF v i < 256 := by
  have h1 := hv i hi
  have h2 : v (i - 1) % 2 < 2 := Nat.mod_lt _ (by decide)
  unfold shF; split <;> omega
theorem nxF_lt {v : Nat → Nat} (hv : ∀ i, i < 16 → v i < 256) (i : Nat) (hi : i < 16) : nxF v i < 256 := by
  unfold nxF; split
  · exact Nat.xor_lt_two_pow (n := 8) (shF_lt hv 0 (by omega)) (by decide)
  · exact shF_lt hv i hi
theorem vB_lt {y : Nat → Nat} (hy : ∀ i, i < 16 → y i < 256) : ∀ k i, i < 16 → vB y k i < 256
  | 0, i, hi => hy i hi
  | k + 1, i, hi => nxF_lt (vB_lt hy k) i hi
theorem zB_lt {x y : Nat → Nat} (hy : ∀ i, i < 16 → y i < 256) : ∀ k i, i < 16 → zB x y k i < 256
  | 0, _, _ => Nat.zero_lt_succ _
  | k + 1, i, hi => by
    show (if hB x k then addF (zB x y k) (vB y k) else zB x y k) i < 256
    split
    · exact addF_lt (zB_lt hy k) (vB_lt hy k) i hi
    · exact zB_lt hy k i hi
theorem beX_mod2 {f : Nat → Nat} {a k : Nat} : beX f a (k + 1) % 2 = f (a + k) % 2 := by
  show (beX f a k * 256 + f (a + k)) % 2 = _
  omega
/-- Eight bytes, each moved by one place, as a number. -/
theorem beX_half {f g : Nat → Nat} {a : Nat} : ∀ k, (∀ i, i < k → g (a + i) = f (a + i) / 2 + (if 0 < i then f (a + i - 1) % 2 * 128 else 0)) → beX g a k = beX f a k / 2
  | 0, _ => by show (0 : Nat) = 0 / 2; rfl
  | k + 1, h => by
    show beX g a k * 256 + g (a + k) = (beX f a k * 256 + f (a + k)) / 2
    rw [beX_half k (fun i hi => h i (by omega)), h k (by omega)]
    cases k with
    | zero => show beX f a 0 / 2 * 256 + (f (a + 0) / 2 + 0) = (0 * 256 + f (a + 0)) / 2; show 0 / 2 * 256 + (f (a + 0) / 2 + 0) = _; omega
    | succ k =>
      rw [if_pos (by omega)]
      have e := beX_mod2 (f := f) (a := a) (k := k)
      rw [show a + (k + 1) - 1 = a + k by omega, ← e]
      generalize beX f a (k + 1) = n
      omega
theorem beX_head {f : Nat → Nat} {a : Nat} (c : Nat) : ∀ k, beX (fun i => if i = a then f i + c else f i) a (k + 1) = beX f a (k + 1) + c * 256 ^ k
  | 0 => by show (0 * 256 + (if a + 0 = a then f (a + 0) + c else _)) = (0 * 256 + f (a + 0)) + c * 1; rw [if_pos (by omega)]; omega
  | k + 1 => by
    show beX (fun i => if i = a then f i + c else f i) a (k + 1) * 256 + (if a + (k + 1) = a then _ else f (a + (k + 1))) = (beX f a (k + 1) * 256 + f (a + (k + 1))) + c * 256 ^ (k + 1)
    rw [beX_head c k, if_neg (by omega), Nat.pow_succ, ← Nat.mul_assoc]
    generalize c * 256 ^ k = m
    omega
theorem beX_congr {f g : Nat → Nat} {a : Nat} : ∀ k, (∀ i, i < k → f (a + i) = g (a + i)) → beX f a k = beX g a k
  | 0, _ => rfl
  | k + 1, h => by show beX f a k * 256 + f (a + k) = beX g a k * 256 + g (a + k); rw [beX_congr k (fun i hi => h i (by omega)), h k (by omega)]
theorem xor_top {n : Nat} (hn : n < 2 ^ 63) : n ^^^ lowN = ((n / 2 ^ 56) ^^^ 225) * 2 ^ 56 + n % 2 ^ 56 := by
  have h : ∀ p q, q < 2 ^ 56 → p * 2 ^ 56 + q = p <<< 56 ||| q := fun p q hq => by
    rw [Nat.shiftLeft_eq, Nat.mul_comm, Nat.two_pow_add_eq_or_of_lt hq]
  have e1 : n = (n / 2 ^ 56) <<< 56 ||| (n % 2 ^ 56) := by rw [← h _ _ (Nat.mod_lt _ (by decide))]; omega
  have e2 : lowN = 225 <<< 56 ||| 0 := rfl
  rw [h _ _ (Nat.mod_lt _ (by decide))]
  rw [e2]
  conv => lhs; rw [e1]
  refine Nat.eq_of_testBit_eq fun i => ?_
  simp only [Nat.testBit_xor, Nat.testBit_or, Nat.testBit_shiftLeft, Nat.zero_testBit, Nat.testBit_mod_two_pow]
  by_cases hi : 56 ≤ i
  · simp [hi, show ¬ i < 56 by omega]
  · simp [hi]
theorem beX_succ (f : Nat → Nat) (a k : Nat) : beX f a (k + 1) = beX f a k * 256 + f (a + k) := rfl
theorem beX_tail (f : Nat → Nat) (k : Nat) : beX (fun i => if i = 0 then 0 else f i) 0 (k + 1) = beX f 1 k := by
  induction k with
  | zero => rw [beX_succ, if_pos (Nat.zero_add 0)]; show beX _ 0 0 * 256 + 0 = 0; show 0 * 256 + 0 = 0; rw [Nat.zero_mul]
  | succ k ih =>
    rw [beX_succ, ih, beX_succ f 1 k, if_neg (Nat.succ_ne_zero _ ∘ (Nat.zero_add _).symm.trans), Nat.add_comm 1 k, Nat.zero_add]
theorem w_nxF {v : Nat → Nat} (hv : ∀ i, i < 16 → v i < 256) : wF (nxF v) = nxP (wF v) := by
  have hlo : loW v % 2 = v 15 % 2 := beX_mod2 (f := v) (a := 8) (k := 7)
  have hhi : hiW v % 2 = v 7 % 2 := by have := beX_mod2 (f := v) (a := 0) (k := 7); rwa [Nat.zero_add] at this
  have h1 : beX (shF v) 0 8 = hiW v / 2 := beX_half 8 fun i hi => by
    show v (0 + i) / 2 + (if 0 < 0 + i then v (0 + i - 1) % 2 * 128 else 0) = _
    rw [Nat.zero_add]
  have h2 : beX (shF v) 8 8 = loW v / 2 + hiW v % 2 * 2 ^ 63 := by
    have e := beX_half (f := v) (a := 8) (g := fun i => if i = 8 then v 8 / 2 else shF v i) 8 fun i hi => by
      show (if 8 + i = 8 then v 8 / 2 else v (8 + i) / 2 + (if 0 < 8 + i then v (8 + i - 1) % 2 * 128 else 0)) = _
      by_cases h0 : i = 0
      · subst h0; rfl
      · rw [if_neg (by omega), if_pos (by omega), if_pos (by omega)]
    have e2 := beX_head (f := fun i => if i = 8 then v 8 / 2 else shF v i) (a := 8) (v 7 % 2 * 128) 7
    have e3 : beX (shF v) 8 8 = beX (fun i => if i = 8 then (fun i => if i = 8 then v 8 / 2 else shF v i) i + v 7 % 2 * 128 else (fun i => if i = 8 then v 8 / 2 else shF v i) i) 8 (7 + 1) := beX_congr 8 fun i hi => by
      show shF v (8 + i) = if 8 + i = 8 then (if 8 + i = 8 then v 8 / 2 else shF v (8 + i)) + v 7 % 2 * 128 else if 8 + i = 8 then v 8 / 2 else shF v (8 + i)
      by_cases h0 : i = 0
      · subst h0; rfl
      · rw [if_neg (by omega), if_neg (by omega)]
    rw [e3, e2, e, hhi]
    show loW v / 2 + v 7 % 2 * 128 * 256 ^ 7 = _
    rw [Nat.mul_assoc]
  have hb := bd_w hv
  refine Prod.ext ?_ ?_
  · show beX (nxF v) 0 8 = hiW v / 2 ^^^ (loW v % 2 * lowN)
    rw [hlo]
    by_cases h15 : v 15 % 2 = 1
    · rw [h15, Nat.one_mul]
      have hn : hiW v / 2 < 2 ^ 63 := by have := hb.1; show hiW v / 2 < _; have : hiW v < 2 ^ 64 := this; omega
      rw [xor_top hn]
      have e := beX_head (f := fun i => if i = 0 then 0 else shF v i) (a := 0) (shF v 0 ^^^ 225) 7
      have e0 := beX_head (f := fun i => if i = 0 then 0 else shF v i) (a := 0) (shF v 0) 7
      have c1 : beX (nxF v) 0 8 = beX (fun i => if i = 0 then (fun i => if i = 0 then 0 else shF v i) i + (shF v 0 ^^^ 225) else (fun i => if i = 0 then 0 else shF v i) i) 0 (7 + 1) := beX_congr 8 fun i hi => by
        show (if 0 + i = 0 ∧ v 15 % 2 = 1 then shF v 0 ^^^ 225 else shF v (0 + i)) = if 0 + i = 0 then (if 0 + i = 0 then 0 else shF v (0 + i)) + (shF v 0 ^^^ 225) else if 0 + i = 0 then 0 else shF v (0 + i)
        by_cases h0 : i = 0
        · subst h0; rw [if_pos ⟨rfl, h15⟩, if_pos rfl, if_pos rfl, Nat.zero_add]
        · rw [if_neg (by omega), if_neg (by omega), if_neg (by omega)]
      have c2 : beX (shF v) 0 8 = beX (fun i => if i = 0 then (fun i => if i = 0 then 0 else shF v i) i + shF v 0 else (fun i => if i = 0 then 0 else shF v i) i) 0 (7 + 1) := beX_congr 8 fun i hi => by
        show shF v (0 + i) = if 0 + i = 0 then (if 0 + i = 0 then 0 else shF v (0 + i)) + shF v 0 else if 0 + i = 0 then 0 else shF v (0 + i)
        by_cases h0 : i = 0
        · subst h0; rw [if_pos rfl, if_pos rfl]; exact (Nat.zero_add _).symm
        · rw [if_neg (by omega), if_neg (by omega)]
      have hl : beX (fun i => if i = 0 then 0 else shF v i) 0 (7 + 1) < 256 ^ 7 := by
        rw [beX_tail (shF v) 7]
        exact beX_lt 7 fun i hi => shF_lt hv _ (by omega)
      have hs0 := shF_lt hv 0 (by omega)
      rw [← h1, c2, e0, c1, e]
      generalize beX (fun i => if i = 0 then 0 else shF v i) 0 (7 + 1) = m at hl ⊢
      generalize shF v 0 = s at hs0 ⊢
      have p : (256 : Nat) ^ 7 = 2 ^ 56 := by decide
      rw [p] at hl ⊢
      have q1 : (m + s * 2 ^ 56) / 2 ^ 56 = s := by omega
      have q2 : (m + s * 2 ^ 56) % 2 ^ 56 = m := by omega
      rw [q1, q2]; exact Nat.add_comm _ _
    · have h15' : v 15 % 2 = 0 := by omega
      rw [h15', Nat.zero_mul, Nat.xor_zero, ← h1]
      exact beX_congr 8 fun i hi => if_neg (fun h => h15 h.2)
  · show beX (nxF v) 8 8 = loW v / 2 ||| (hiW v * 2 ^ 63 % 2 ^ 64)
    have e : beX (nxF v) 8 8 = beX (shF v) 8 8 := beX_congr 8 fun i hi => if_neg (fun h => absurd h.1 (by omega))
    rw [e, h2]
    have hl : loW v / 2 < 2 ^ 63 := by have : loW v < 2 ^ 64 := hb.2; omega
    have e2 : hiW v * 2 ^ 63 % 2 ^ 64 = hiW v % 2 * 2 ^ 63 := by omega
    rw [e2, Nat.or_comm, Nat.mul_comm, ← Nat.two_pow_add_eq_or_of_lt hl, Nat.add_comm]
theorem w_vB {y : Nat → Nat} (hy : ∀ i, i < 16 → y i < 256) : ∀ k, wF (vB y k) = vP (wF y) k
  | 0 => rfl
  | k + 1 => by
    show wF (nxF (vB y k)) = _
    rw [w_nxF (vB_lt hy k), w_vB hy k]; rfl
theorem beX_bit {f : Nat → Nat} {a : Nat} : ∀ k, (∀ i, i < k → f (a + i) < 256) → ∀ j, j < 8 * k → (beX f a k).testBit (8 * k - 1 - j) = (f (a + j / 8)).testBit (7 - j % 8)
  | 0, _, j, h => absurd h (by omega)
  | k + 1, hf, j, hj => by
    have hk := hf k (by omega)
    show (beX f a k * 256 + f (a + k)).testBit (8 * (k + 1) - 1 - j) = _
    rw [show beX f a k * 256 + f (a + k) = 2 ^ 8 * beX f a k + f (a + k) by omega, Nat.testBit_two_pow_mul_add _ (by simpa using hk)]
    by_cases h : j < 8 * k
    · rw [if_neg (by omega), ← beX_bit k (fun i hi => hf i (by omega)) j h]
      congr 1; omega
    · rw [if_pos (by omega)]
      have : j / 8 = k := by omega
      rw [this]; congr 1; omega
theorem hB_bit {x k : Nat} (hx : x < 256) (hk : k < 8) : decide (128 ≤ x * 2 ^ k % 256) = x.testBit (7 - k) := by
  have h : ∀ x, x < 256 → ∀ k, k < 8 → decide (128 ≤ x * 2 ^ k % 256) = x.testBit (7 - k) := of_decide_eq_true (by kernel_rfl)
  exact h x hx k hk
theorem hB_has {x : Nat → Nat} (hx : ∀ i, i < 16 → x i < 256) {k : Nat} (hk : k < 128) : hB x k = hasN (wF x).1 (wF x).2 k := by
  rw [has_bit hk (bd_w hx).1 (bd_w hx).2]
  unfold hB
  rw [hB_bit (hx _ (by omega)) (Nat.mod_lt _ (by decide))]
  by_cases h : k < 64
  · rw [if_pos h]
    have := beX_bit (f := x) (a := 0) 8 (fun i hi => hx _ (by omega)) k (by omega)
    rw [Nat.zero_add] at this; exact this.symm
  · rw [if_neg h]
    have := beX_bit (f := x) (a := 8) 8 (fun i hi => hx _ (by omega)) (k - 64) (by omega)
    rw [show 8 * 8 - 1 - (k - 64) = 127 - k by omega, show 8 + (k - 64) / 8 = k / 8 by omega, show (k - 64) % 8 = k % 8 by omega] at this
    exact this.symm
theorem w_zB {x y : Nat → Nat} (hx : ∀ i, i < 16 → x i < 256) (hy : ∀ i, i < 16 → y i < 256) : ∀ k, k ≤ 128 → wF (zB x y k) = zP (wF x) (wF y) k
  | 0, _ => w_zero
  | k + 1, hk => by
    show wF (if hB x k then addF (zB x y k) (vB y k) else zB x y k) = _
    rw [z_succ, hB_has hx (by omega), ← w_zB hx hy k (by omega), ← w_vB hy k]
    split
    · exact w_add (zB_lt hy k) (vB_lt hy k)
    · rfl
/-- The document's product is the product. -/
theorem zB_mul {x y : Nat → Nat} (hx : ∀ i, i < 16 → x i < 256) (hy : ∀ i, i < 16 → y i < 256) : ∀ i, i < 16 → zB x y 128 i = mulF x y i :=
  w_inj (zB_lt hy 128) (fun i _ => mulF_lt x y i) (by rw [w_zB hx hy 128 (Nat.le_refl _), w_mul x hy]; rfl)
end Go.Proofs.Ytafbfjnbajdbkaa
