/- Polynomials of numbers of eight bits: sums by xor. -/
import Derived.Test.YtgiffaeckhhmpaaDoorGfA
namespace Go.Proofs.YtgiffaeckhhmpaaDoor
set_option linter.unusedVariables false
set_option linter.unusedSimpArgs false

/-- The sum of the first n. -/
def xsum (F : Nat → Nat) : Nat → Nat | 0 => 0 | n + 1 => xsum F n ^^^ F n
theorem xsum_succ (F : Nat → Nat) (n : Nat) : xsum F (n + 1) = xsum F n ^^^ F n := rfl
theorem xsum_lt {F : Nat → Nat} : ∀ n, (∀ i, i < n → F i < 256) → xsum F n < 256
  | 0, _ => by show (0 : Nat) < 256; decide
  | n + 1, h => xor_lt (xsum_lt n fun i hi => h i (by omega)) (h n (by omega))
theorem xsum_congr {F G : Nat → Nat} : ∀ n, (∀ i, i < n → F i = G i) → xsum F n = xsum G n
  | 0, _ => rfl
  | n + 1, h => by rw [xsum_succ, xsum_succ, xsum_congr n fun i hi => h i (by omega), h n (by omega)]
theorem xsum_zero : ∀ n, xsum (fun _ => 0) n = 0
  | 0 => rfl
  | n + 1 => by rw [xsum_succ, xsum_zero n]; rfl
theorem xsum_none {F : Nat → Nat} (n : Nat) (h : ∀ i, i < n → F i = 0) : xsum F n = 0 := (xsum_congr n h).trans (xsum_zero n)
theorem xswap (a b c d : Nat) : (a ^^^ b) ^^^ (c ^^^ d) = (a ^^^ c) ^^^ (b ^^^ d) := by
  rw [Nat.xor_assoc, Nat.xor_assoc, ← Nat.xor_assoc b c d, Nat.xor_comm b c, Nat.xor_assoc c b d]
theorem xsum_xor (F G : Nat → Nat) : ∀ n, xsum (fun i => F i ^^^ G i) n = xsum F n ^^^ xsum G n
  | 0 => (Nat.xor_self 0).symm
  | n + 1 => by rw [xsum_succ, xsum_succ, xsum_succ, xsum_xor F G n, xswap]
theorem xsum_swap (F : Nat → Nat → Nat) (n : Nat) : ∀ m, xsum (fun i => xsum (F i) m) n = xsum (fun j => xsum (fun i => F i j) n) m
  | 0 => xsum_zero n
  | m + 1 => by
    rw [xsum_succ, ← xsum_swap F n m, ← xsum_xor]; rfl
theorem xsum_mul (a : Nat) {F : Nat → Nat} : ∀ n, (∀ i, i < n → F i < 256) → mulN a (xsum F n) = xsum (fun i => mulN a (F i)) n
  | 0, _ => mulN_zero_right a
  | n + 1, h => by
    rw [xsum_succ, xsum_succ, mulN_xor a (xsum_lt n fun i hi => h i (by omega)) (h n (by omega)), xsum_mul a n fun i hi => h i (by omega)]
theorem xsum_mul_right (a : Nat) {F : Nat → Nat} (n : Nat) (h : ∀ i, i < n → F i < 256) : mulN (xsum F n) a = xsum (fun i => mulN (F i) a) n := by
  rw [mulN_comm, xsum_mul a n h]; exact xsum_congr n fun i _ => mulN_comm _ _
theorem xsum_one {F : Nat → Nat} {k : Nat} : ∀ n, k < n → (∀ i, i < n → i ≠ k → F i = 0) → xsum F n = F k
  | 0, h, _ => absurd h (Nat.not_lt_zero _)
  | n + 1, h, h0 => by
    rw [xsum_succ]
    by_cases e : k = n
    · subst e; rw [xsum_none k fun i hi => h0 i (by omega) (by omega), Nat.zero_xor]
    · rw [xsum_one n (by omega) fun i hi hn => h0 i (by omega) hn, h0 n (by omega) (fun e2 => e e2.symm), Nat.xor_zero]
theorem xsum_head (F : Nat → Nat) : ∀ n, xsum F (n + 1) = F 0 ^^^ xsum (fun i => F (i + 1)) n
  | 0 => by rw [xsum_succ]; show 0 ^^^ F 0 = F 0 ^^^ 0; rw [Nat.zero_xor, Nat.xor_zero]
  | n + 1 => by rw [xsum_succ, xsum_head F n, xsum_succ, Nat.xor_assoc]
theorem powN_zero (a : Nat) : powN a 0 = 1 := rfl
theorem powN_succ {a : Nat} (h : a < 256) (n : Nat) : powN a (n + 1) = mulN (powN a n) a := by rw [← powN_add h n 1, powN_one h]
theorem mulN_one_left {a : Nat} (h : a < 256) : mulN 1 a = a := by rw [mulN_comm, mulN_one h]

/-- What a polynomial's numbers from i on are together, by what stands above them. -/
def evF (f : Nat → Nat) (x : Nat) : Nat → Nat → Nat | _, 0 => 0 | i, m + 1 => mulN (evF f x (i + 1) m) x ^^^ f i
theorem evF_lt {f : Nat → Nat} (x : Nat) : ∀ m i, (∀ k, k < i + m → f k < 256) → evF f x i m < 256
  | 0, _, _ => by show (0 : Nat) < 256; decide
  | m + 1, i, h => xor_lt (mulN_lt _ _) (h i (by omega))
/-- A polynomial at a place. -/
def evalN (f : Nat → Nat) (n x : Nat) : Nat := xsum (fun k => mulN (f k) (powN x k)) n
theorem evF_eq {f : Nat → Nat} {x : Nat} (hx : x < 256) : ∀ m i, (∀ k, k < i + m → f k < 256) → evF f x i m = xsum (fun k => mulN (f (i + k)) (powN x k)) m
  | 0, _, _ => rfl
  | m + 1, i, h => by
    show mulN (evF f x (i + 1) m) x ^^^ f i = _
    rw [evF_eq hx m (i + 1) (fun k hk => h k (by omega)), xsum_head, Nat.xor_comm]
    congr 1
    · rw [powN_zero, mulN_one (h _ (by omega))]; rfl
    · rw [xsum_mul_right x m fun i _ => mulN_lt _ _]
      exact xsum_congr m fun k _ => by rw [powN_succ hx, mulN_assoc, show i + 1 + k = i + (k + 1) from by omega]
theorem evalN_eq {f : Nat → Nat} {x n : Nat} (hx : x < 256) (h : ∀ k, k < n → f k < 256) : evF f x 0 n = evalN f n x := by
  rw [evF_eq hx n 0 (fun k hk => h k (by omega))]; exact xsum_congr n fun k _ => by rw [Nat.zero_add]
theorem evalN_lt (f : Nat → Nat) (n x : Nat) : evalN f n x < 256 := xsum_lt n fun _ _ => mulN_lt _ _
theorem evalN_congr {f g : Nat → Nat} {n : Nat} (x : Nat) (h : ∀ k, k < n → f k = g k) : evalN f n x = evalN g n x := xsum_congr n fun k hk => by rw [h k hk]

/-- A product's number for a power. -/
def convN (f g : Nat → Nat) (n m k : Nat) : Nat := xsum (fun i => if i ≤ k ∧ k - i < m then mulN (f i) (g (k - i)) else 0) n
theorem conv_term {f g : Nat → Nat} (m i k : Nat) : (if i ≤ k ∧ k - i < m then mulN (f i) (g (k - i)) else 0) = xsum (fun j => if i + j = k then mulN (f i) (g j) else 0) m := by
  split
  · rename_i h
    rw [xsum_one (k := k - i) m h.2 fun j _ hj => if_neg (by omega), if_pos (by omega)]
  · rename_i h
    rw [xsum_none m fun j hj => if_neg (by omega)]
theorem convN_lt (f g : Nat → Nat) (n m k : Nat) : convN f g n m k < 256 := xsum_lt n fun i _ => by
  split
  · exact mulN_lt _ _
  · decide
theorem convN_two (f g : Nat → Nat) (n m k : Nat) : convN f g n m k = xsum (fun i => xsum (fun j => if i + j = k then mulN (f i) (g j) else 0) m) n :=
  xsum_congr n fun i _ => conv_term m i k
theorem convN_comm (f g : Nat → Nat) (n m k : Nat) : convN f g n m k = convN g f m n k := by
  rw [convN_two, convN_two, xsum_swap]
  exact xsum_congr m fun j _ => xsum_congr n fun i _ => by rw [mulN_comm, Nat.add_comm]
theorem if_mul (p : Prop) [Decidable p] (a b : Nat) : mulN (if p then a else 0) b = if p then mulN a b else 0 := by
  split
  · rfl
  · exact mulN_zero_left b
theorem evalN_conv {f g : Nat → Nat} {n m x : Nat} (hx : x < 256) (hf : ∀ k, k < n → f k < 256) (hg : ∀ k, k < m → g k < 256) :
    evalN (convN f g n m) (n + m - 1) x = mulN (evalN f n x) (evalN g m x) := by
  have e1 : evalN (convN f g n m) (n + m - 1) x = xsum (fun i => xsum (fun j => mulN (mulN (f i) (g j)) (powN x (i + j))) m) n := by
    have s1 : evalN (convN f g n m) (n + m - 1) x = xsum (fun k => xsum (fun i => xsum (fun j => if i + j = k then mulN (mulN (f i) (g j)) (powN x (i + j)) else 0) m) n) (n + m - 1) := by
      refine xsum_congr _ fun k _ => ?_
      show mulN (convN f g n m k) (powN x k) = _
      have lt1 : ∀ i j, (if i + j = k then mulN (f i) (g j) else 0) < 256 := fun i j => by
        split
        · exact mulN_lt _ _
        · decide
      rw [convN_two, xsum_mul_right _ n fun i _ => xsum_lt m fun j _ => lt1 i j]
      refine xsum_congr n fun i _ => ?_
      rw [xsum_mul_right _ m fun j _ => lt1 i j]
      refine xsum_congr m fun j _ => ?_
      rw [if_mul]
      split
      · rename_i h; rw [h]
      · rfl
    rw [s1, xsum_swap (fun k i => xsum (fun j => if i + j = k then mulN (mulN (f i) (g j)) (powN x (i + j)) else 0) m)]
    refine xsum_congr n fun i hi => ?_
    rw [xsum_swap (fun k j => if i + j = k then mulN (mulN (f i) (g j)) (powN x (i + j)) else 0)]
    refine xsum_congr m fun j hj => ?_
    rw [xsum_one (k := i + j) _ (by omega) fun k _ hk => if_neg (by omega), if_pos rfl]
  rw [e1]
  show _ = mulN (xsum (fun k => mulN (f k) (powN x k)) n) (evalN g m x)
  rw [xsum_mul_right _ n fun i _ => mulN_lt _ _]
  refine xsum_congr n fun i hi => ?_
  show _ = mulN (mulN (f i) (powN x i)) (xsum (fun k => mulN (g k) (powN x k)) m)
  rw [xsum_mul _ m fun j _ => mulN_lt _ _]
  refine xsum_congr m fun j hj => ?_
  rw [← powN_add hx i j]
  generalize f i = a; generalize g j = b; generalize powN x i = p; generalize powN x j = q
  rw [mulN_assoc (mulN a b) p q, ← mulN_assoc a b p, mulN_comm b p, mulN_assoc a p b, ← mulN_assoc (mulN a p) b q]
end Go.Proofs.YtgiffaeckhhmpaaDoor
