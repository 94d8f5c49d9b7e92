/- Through as many places of a polynomial as it has numbers goes it alone. -/
import Derived.Test.YtgiffaeckhhmpaaDoorPoWeights
namespace Go.Proofs.YtgiffaeckhhmpaaDoor
set_option linter.unusedVariables false
set_option linter.unusedSimpArgs false

theorem xor_cancel {a b c : Nat} : (a ^^^ c) ^^^ (b ^^^ c) = a ^^^ b := by
  rw [Nat.xor_comm b c, Nat.xor_assoc, ← Nat.xor_assoc c c b, Nat.xor_self, Nat.zero_xor]
theorem xor_eq_zero {a b : Nat} (h : a ^^^ b = 0) : a = b := by
  have h2 : (a ^^^ b) ^^^ b = 0 ^^^ b := by rw [h]
  rw [Nat.xor_assoc, Nat.xor_self, Nat.xor_zero, Nat.zero_xor] at h2; exact h2
theorem mulN_xor_left {a b : Nat} (c : Nat) (ha : a < 256) (hb : b < 256) : mulN (a ^^^ b) c = mulN a c ^^^ mulN b c := by
  rw [mulN_comm, mulN_xor c ha hb, mulN_comm c a, mulN_comm c b]
theorem divN_eq (a : Nat) {b : Nat} (ha : a < 256) (hb0 : b ≠ 0) (hb : b < 256) : divN a b = mulN a (divN 1 b) := by
  have h1 := div_mul ha hb0 hb
  have h2 : mulN (mulN a (divN 1 b)) b = a := by rw [← mulN_assoc, div_mul (by decide) hb0 hb, mulN_one ha]
  have h3 : mulN (divN a b ^^^ mulN a (divN 1 b)) b = 0 := by rw [mulN_xor_left b (divN_lt _ _) (mulN_lt _ _), h1, h2, Nat.xor_self]
  rcases mulN_eq_zero.1 h3 with h | h
  · exact xor_eq_zero h
  · exact absurd h hb0

/-- What is left of a polynomial by a root's factor. -/
def quoF (f : Nat → Nat) (a n j : Nat) : Nat := evF f a (j + 1) (n - j)
theorem quo_step {f : Nat → Nat} {a x : Nat} (ha : a < 256) (hx : x < 256) (n : Nat) (hf : ∀ k, k < n + 1 → f k < 256) :
    ∀ m i, i + m = n → evF f x i (m + 1) = mulN (x ^^^ a) (evF (quoF f a n) x i m) ^^^ evF f a i (m + 1)
  | 0, i, h => by
    show mulN (evF f x (i + 1) 0) x ^^^ f i = mulN (x ^^^ a) 0 ^^^ (mulN (evF f a (i + 1) 0) a ^^^ f i)
    show mulN 0 x ^^^ f i = mulN (x ^^^ a) 0 ^^^ (mulN 0 a ^^^ f i)
    rw [mulN_zero_left, mulN_zero_left, mulN_zero_right, Nat.zero_xor, Nat.zero_xor]
  | m + 1, i, h => by
    have ih := quo_step ha hx n hf m (i + 1) (by omega)
    have lA : evF f a (i + 1) (m + 1) < 256 := evF_lt a _ _ fun k hk => hf k (by omega)
    have lQ : evF (quoF f a n) x (i + 1) m < 256 := evF_lt x _ _ fun k hk => evF_lt a _ _ fun q hq => hf q (by omega)
    have lM : mulN (evF (quoF f a n) x (i + 1) m) x < 256 := mulN_lt _ _
    have e1 : evF f x i (m + 1 + 1) = mulN (evF f x (i + 1) (m + 1)) x ^^^ f i := rfl
    have e2 : evF f a i (m + 1 + 1) = mulN (evF f a (i + 1) (m + 1)) a ^^^ f i := rfl
    have e3 : evF (quoF f a n) x i (m + 1) = mulN (evF (quoF f a n) x (i + 1) m) x ^^^ evF f a (i + 1) (m + 1) := by
      show mulN (evF (quoF f a n) x (i + 1) m) x ^^^ evF f a (i + 1) (n - i) = _
      rw [show n - i = m + 1 from by omega]
    have lxa : x ^^^ a < 256 := xor_lt hx ha
    rw [e1, e2, e3, ih, mulN_xor _ lM lA, mulN_xor_left x (mulN_lt _ _) lA]
    generalize evF f a (i + 1) (m + 1) = A
    generalize evF (quoF f a n) x (i + 1) m = Q
    rw [mulN_assoc (x ^^^ a) Q x, mulN_xor_left A hx ha, mulN_comm x A, mulN_comm a A]
    generalize mulN (mulN (x ^^^ a) Q) x = U
    generalize mulN A x = V
    generalize mulN A a = W
    generalize f i = F
    rw [Nat.xor_assoc, Nat.xor_assoc U, Nat.xor_assoc V, ← Nat.xor_assoc W W F, Nat.xor_self, Nat.zero_xor]
theorem quo_lt {f : Nat → Nat} {a n : Nat} (hf : ∀ k, k < n + 1 → f k < 256) : ∀ k, k < n → quoF f a n k < 256 := fun k hk => evF_lt a _ _ fun q hq => hf q (by omega)
theorem quo_eval {f : Nat → Nat} {a x n : Nat} (ha : a < 256) (hx : x < 256) (hf : ∀ k, k < n + 1 → f k < 256) :
    evalN f (n + 1) x = mulN (x ^^^ a) (evalN (quoF f a n) n x) ^^^ evalN f (n + 1) a := by
  rw [← evalN_eq hx hf, ← evalN_eq ha hf, ← evalN_eq hx (quo_lt hf)]
  exact quo_step ha hx n hf n 0 (by omega)

/-- A polynomial of n numbers that is 0 at n places is 0 everywhere. -/
theorem zero_poly {p : Nat → Nat} : ∀ (n : Nat) (f : Nat → Nat), (∀ k, k < n → f k < 256) → (∀ i, i < n → p i < 256) → (∀ i j, i < j → j < n → p i ≠ p j) → (∀ i, i < n → evalN f n (p i) = 0) → ∀ x, x < 256 → evalN f n x = 0
  | 0, _, _, _, _, _, _, _ => rfl
  | n + 1, f, hf, hp, hd, hz, x, hx => by
    have hq : ∀ y, y < 256 → evalN (quoF f (p n) n) n y = 0 := by
      refine zero_poly n _ (quo_lt hf) (fun i hi => hp i (by omega)) (fun i j hij hj => hd i j hij (by omega)) fun i hi => ?_
      have h1 := quo_eval (hp n (by omega)) (hp i (by omega)) hf
      rw [hz i (by omega), hz n (by omega), Nat.xor_zero] at h1
      rcases mulN_eq_zero.1 h1.symm with h | h
      · exact absurd (xor_eq_zero h) (hd i n hi (by omega))
      · exact h
    rw [quo_eval (hp n (by omega)) hx hf, hq x hx, mulN_zero_right, hz n (by omega)]; rfl

/-- The two numbers of a factor. -/
def linF (c b : Nat) : Nat → Nat := fun i => if i = 0 then mulN c (divN 1 b) else divN 1 b
theorem linF_lt (c b i : Nat) : linF c b i < 256 := by
  unfold linF; split
  · exact mulN_lt _ _
  · exact divN_lt _ _
theorem lin_eval {c b x : Nat} (hc : c < 256) (hb0 : b ≠ 0) (hb : b < 256) (hx : x < 256) : evalN (linF c b) 2 x = divN (x ^^^ c) b := by
  rw [divN_eq _ (xor_lt hx hc) hb0 hb]
  show (0 ^^^ mulN (mulN c (divN 1 b)) (powN x 0)) ^^^ mulN (divN 1 b) (powN x 1) = _
  rw [powN_zero, powN_one hx, mulN_one (mulN_lt _ _), Nat.zero_xor, mulN_xor_left _ hx hc, Nat.xor_comm, mulN_comm (divN 1 b) x]

/-- What a place counts for is a polynomial's value, one that has as many numbers as there are places. -/
theorem wF_poly {f : Nat → Nat} {a n : Nat} (hf : ∀ i, i < n → f i < 256) (ha : a < n) (hd : ∀ i j, i < j → j < n → f i ≠ f j) :
    ∀ k, k ≤ n → ∃ g : Nat → Nat, (∀ i, g i < 256) ∧ ∀ x, x < 256 → wF f a x k = evalN g (if a < k then k else k + 1) x
  | 0, _ => ⟨fun _ => 1, fun _ => (by decide : 1 < 256), fun x _ => by
    rw [if_neg (Nat.not_lt_zero _)]
    show 1 = 0 ^^^ mulN 1 (powN x 0)
    rw [powN_zero]; decide⟩
  | k + 1, hk => by
    obtain ⟨g, hg, he⟩ := wF_poly hf ha hd k (by omega)
    by_cases e : k = a
    · refine ⟨g, hg, fun x hx => ?_⟩
      have h1 : wF f a x (k + 1) = wF f a x k := if_pos e
      rw [h1, he x hx, if_neg (by omega), if_pos (by omega)]
    · have hb0 : f a ^^^ f k ≠ 0 := xor_ne_zero (by
        rcases Nat.lt_or_ge k a with h | h
        · exact (hd k a h ha).symm
        · exact hd a k (by omega) (by omega))
      have hfa := hf a ha
      have hfk := hf k (by omega)
      refine ⟨convN g (linF (f k) (f a ^^^ f k)) (if a < k then k else k + 1) 2, fun i => convN_lt _ _ _ _ i, fun x hx => ?_⟩
      have h1 : wF f a x (k + 1) = mulN (wF f a x k) (divN (x ^^^ f k) (f a ^^^ f k)) := if_neg e
      rw [h1, he x hx, ← lin_eval hfk hb0 (xor_lt hfa hfk) hx, ← evalN_conv hx (fun i _ => hg i) (fun i _ => linF_lt _ _ i)]
      by_cases h : a < k
      · rw [if_pos h, if_pos (by omega)]; rfl
      · rw [if_neg h, if_neg (by omega)]; rfl
theorem wF_zero {f : Nat → Nat} {a j : Nat} (hj : j ≠ a) : ∀ k, j < k → wF f a (f j) k = 0
  | 0, h => absurd h (Nat.not_lt_zero _)
  | k + 1, h => by
    by_cases e : k = a
    · rw [show wF f a (f j) (k + 1) = wF f a (f j) k from if_pos e, wF_zero hj k (by omega)]
    · rw [show wF f a (f j) (k + 1) = mulN (wF f a (f j) k) (divN (f j ^^^ f k) (f a ^^^ f k)) from if_neg e]
      by_cases ek : j = k
      · subst ek
        rw [Nat.xor_self, show ∀ b, divN 0 b = 0 from fun b => if_pos rfl, mulN_zero_right]
      · rw [wF_zero hj k (by omega), mulN_zero_left]
theorem divN_self {a : Nat} (h0 : a ≠ 0) (h : a < 256) : divN a a = 1 := by
  rw [divN_eq a h h0 h, mul_div_one h0 h]
theorem wF_own {f : Nat → Nat} {a n : Nat} (hf : ∀ i, i < n → f i < 256) (ha : a < n) (hd : ∀ i j, i < j → j < n → f i ≠ f j) : ∀ k, k ≤ n → wF f a (f a) k = 1
  | 0, _ => rfl
  | k + 1, hk => by
    by_cases e : k = a
    · rw [show wF f a (f a) (k + 1) = wF f a (f a) k from if_pos e, wF_own hf ha hd k (by omega)]
    · have hb0 : f a ^^^ f k ≠ 0 := xor_ne_zero (by
        rcases Nat.lt_or_ge k a with h | h
        · exact (hd k a h ha).symm
        · exact hd a k (by omega) (by omega))
      rw [show wF f a (f a) (k + 1) = mulN (wF f a (f a) k) (divN (f a ^^^ f k) (f a ^^^ f k)) from if_neg e, wF_own hf ha hd k (by omega),
        divN_self hb0 (xor_lt (hf a ha) (hf k (by omega)))]
      decide +kernel

/-- Sums of polynomials, each times a number. -/
theorem evalN_sum {y : Nat → Nat} {G : Nat → Nat → Nat} (n : Nat) {x : Nat} (_hx : x < 256) (_hG : ∀ i j, G i j < 256) :
    ∀ m, evalN (fun j => xsum (fun i => mulN (y i) (G i j)) m) n x = xsum (fun i => mulN (y i) (evalN (G i) n x)) m := fun m => by
  have e : ∀ i, mulN (y i) (evalN (G i) n x) = xsum (fun j => mulN (y i) (mulN (G i j) (powN x j))) n := fun i => xsum_mul (y i) n fun j _ => mulN_lt _ _
  rw [xsum_congr m fun i _ => e i, xsum_swap]
  refine xsum_congr n fun j _ => ?_
  rw [xsum_mul_right _ m fun i _ => mulN_lt _ _]
  exact xsum_congr m fun i _ => (mulN_assoc _ _ _).symm
theorem evalN_xor {f g : Nat → Nat} (n : Nat) {x : Nat} (hf : ∀ i, i < n → f i < 256) (hg : ∀ i, i < n → g i < 256) : evalN (fun i => f i ^^^ g i) n x = evalN f n x ^^^ evalN g n x := by
  unfold evalN
  rw [← xsum_xor]
  exact xsum_congr n fun i hi => mulN_xor_left _ (hf i hi) (hg i hi)
/-- More numbers that are 0 make no difference. -/
theorem evalN_pad {f : Nat → Nat} {m : Nat} (x : Nat) : ∀ n, m ≤ n → evalN (fun i => if i < m then f i else 0) n x = evalN f m x := by
  intro n h
  induction n with
  | zero => obtain rfl : m = 0 := by omega
            rfl
  | succ n ih =>
    by_cases e : m = n + 1
    · subst e; exact xsum_congr _ fun i hi => by show mulN (if i < n + 1 then f i else 0) (powN x i) = _; rw [if_pos hi]
    · have h1 : evalN (fun i => if i < m then f i else 0) (n + 1) x = evalN (fun i => if i < m then f i else 0) n x ^^^ mulN (if n < m then f n else 0) (powN x n) := rfl
      rw [h1, ih (by omega), if_neg (by omega), mulN_zero_left, Nat.xor_zero]

/-- Lagrange's: through n places of a polynomial of m numbers, m at most n. -/
theorem lagrange {f c : Nat → Nat} {n m : Nat} (hf : ∀ i, i < n → f i < 256) (hd : ∀ i j, i < j → j < n → f i ≠ f j) (hc : ∀ i, i < m → c i < 256) (hmn : m ≤ n) {x : Nat} (hx : x < 256) :
    xsum (fun i => mulN (evalN c m (f i)) (wF f i x n)) n = evalN c m x := by
  have hP : ∀ i, i < n → ∃ g : Nat → Nat, (∀ j, g j < 256) ∧ ∀ x, x < 256 → wF f i x n = evalN g n x := fun i hi => by
    obtain ⟨g, h1, h2⟩ := wF_poly hf hi hd n (Nat.le_refl _)
    exact ⟨g, h1, fun x hx => by rw [h2 x hx, if_pos hi]⟩
  have hG : ∃ G : Nat → Nat → Nat, (∀ i j, G i j < 256) ∧ ∀ i, i < n → ∀ x, x < 256 → wF f i x n = evalN (G i) n x := by
    refine ⟨fun i => if h : i < n then (hP i h).choose else fun _ => 0, fun i j => ?_, fun i hi x hx => ?_⟩
    · by_cases h : i < n
      · simp only [dif_pos h]; exact (hP i h).choose_spec.1 j
      · simp only [dif_neg h]; decide
    · have h2 := (hP i hi).choose_spec.2 x hx
      simp only [dif_pos hi]; exact h2
  obtain ⟨G, hG1, hG2⟩ := hG
  have key : ∀ x, x < 256 → evalN (fun j => xsum (fun i => mulN (evalN c m (f i)) (G i j)) n ^^^ (if j < m then c j else 0)) n x = 0 := by
    have l1 : ∀ j, j < n → xsum (fun i => mulN (evalN c m (f i)) (G i j)) n < 256 := fun j _ => xsum_lt n fun i _ => mulN_lt _ _
    have l2 : ∀ j, j < n → (if j < m then c j else 0) < 256 := fun j _ => by
      split
      · exact hc j ‹_›
      · decide
    refine zero_poly n _ (fun k hk => xor_lt (l1 k hk) (l2 k hk)) hf hd fun j hj => ?_
    rw [evalN_xor n l1 l2, evalN_sum n (hf j hj) hG1, evalN_pad _ n hmn]
    rw [xsum_one (k := j) n hj fun i hi hij => ?_]
    · rw [← hG2 j hj _ (hf j hj), wF_own hf hj hd n (Nat.le_refl _), mulN_one (evalN_lt _ _ _), Nat.xor_self]
    · rw [← hG2 i hi _ (hf j hj), wF_zero (fun e => hij e.symm) n hj, mulN_zero_right]
  have h := key x hx
  rw [evalN_xor n (fun j _ => xsum_lt n fun i _ => mulN_lt _ _) (fun j _ => by
    split
    · exact hc j ‹_›
    · decide), evalN_sum n hx hG1, evalN_pad _ n hmn] at h
  rw [← xor_eq_zero h]
  exact xsum_congr n fun i hi => by rw [hG2 i hi x hx]
/-- What the places count for together is 1. -/
theorem weights_one {f : Nat → Nat} {n : Nat} (hf : ∀ i, i < n → f i < 256) (hd : ∀ i j, i < j → j < n → f i ≠ f j) (hn : 1 ≤ n) {x : Nat} (hx : x < 256) :
    xsum (fun i => wF f i x n) n = 1 := by
  have h := lagrange (c := fun _ => 1) (m := 1) hf hd (fun _ _ => by decide) hn hx
  have e : ∀ y, evalN (fun _ => 1) 1 y = 1 := fun y => by
    show 0 ^^^ mulN 1 (powN y 0) = 1
    rw [powN_zero]; decide +kernel
  rw [e] at h
  rw [← h]
  exact xsum_congr n fun i _ => by rw [e, mulN_one_left (wF_lt _ _ _ _)]
end Go.Proofs.YtgiffaeckhhmpaaDoor
