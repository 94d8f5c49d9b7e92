/- Numbers of eight bits: the arithmetic of the field, by powers of 3. -/
import Derived.Test.YtkcbckafibjflaaGreatDoorGen
namespace Go.Proofs.YtkcbckafibjflaaGreatDoor
set_option linter.unusedVariables false
set_option linter.unusedSimpArgs false
/-- A number times 3. -/
def trip (a : Nat) : Nat := (if a < 128 then 2 * a else (2 * a - 256) ^^^ 27) ^^^ a
/-- The powers of 3. -/
def expN : Nat → Nat | 0 => 1 | n + 1 => trip (expN n)
/-- To what power 3 is a number. -/
def logN (a : Nat) : Nat := ((List.range 255).find? (fun i => expN i == a)).getD 0

theorem trip_lt {a : Nat} (h : a < 256) : trip a < 256 := by
  unfold trip
  refine Nat.xor_lt_two_pow (n := 8) ?_ h
  split
  · show 2 * a < 256; omega
  · exact Nat.xor_lt_two_pow (n := 8) (by omega) (by decide)
theorem expN_lt : ∀ n, expN n < 256
  | 0 => by decide
  | n + 1 => trip_lt (expN_lt n)
theorem trip_xor {x y : Nat} (hx : x < 256) (hy : y < 256) : trip (x ^^^ y) = trip x ^^^ trip y := by
  have h : (List.range 256).all (fun x => (List.range 256).all (fun y => trip (x ^^^ y) == (trip x ^^^ trip y))) = true := by decide +kernel
  exact beq_iff_eq.1 (List.all_eq_true.1 (List.all_eq_true.1 h x (List.mem_range.2 hx)) y (List.mem_range.2 hy))
theorem exp_pos {i : Nat} (h : i < 255) : 0 < expN i := by
  have k : (List.range 255).all (fun i => decide (0 < expN i)) = true := by decide +kernel
  exact of_decide_eq_true (List.all_eq_true.1 k i (List.mem_range.2 h))
theorem exp_255 : expN 255 = 1 := by decide +kernel
theorem log_exp {i : Nat} (h : i < 255) : logN (expN i) = i := by
  have k : (List.range 255).all (fun i => logN (expN i) == i) = true := by decide +kernel
  exact beq_iff_eq.1 (List.all_eq_true.1 k i (List.mem_range.2 h))
theorem log_lt {a : Nat} (h : a < 256) : logN a < 255 := by
  have k : (List.range 256).all (fun a => decide (logN a < 255)) = true := by decide +kernel
  exact of_decide_eq_true (List.all_eq_true.1 k a (List.mem_range.2 h))
theorem exp_log {a : Nat} (h0 : 0 < a) (h : a < 256) : expN (logN a) = a := by
  have k : (List.range 256).all (fun a => a == 0 || expN (logN a) == a) = true := by decide +kernel
  have := List.all_eq_true.1 k a (List.mem_range.2 h)
  simp at this
  rcases this with h1 | h1
  · omega
  · exact h1
theorem exp_mod (n : Nat) : expN (n % 255) = expN n := by
  induction n with
  | zero => rfl
  | succ n ih =>
    by_cases h : n % 255 = 254
    · have h1 : (n + 1) % 255 = 0 := by omega
      rw [h1]
      show 1 = trip (expN n)
      rw [← ih, h]
      show 1 = expN 255
      exact exp_255.symm
    · have h1 : (n + 1) % 255 = n % 255 + 1 := by omega
      rw [h1]
      show trip (expN (n % 255)) = trip (expN n)
      rw [ih]
/-- A product. -/
def mulN (a b : Nat) : Nat := if a = 0 ∨ b = 0 then 0 else expN ((logN a + logN b) % 255)
/-- A quotient. -/
def divN (a b : Nat) : Nat := if a = 0 then 0 else expN ((logN a + 255 - logN b) % 255)
/-- So often triple. -/
def tripI : Nat → Nat → Nat | 0, x => x | n + 1, x => trip (tripI n x)

theorem mulN_lt (a b : Nat) : mulN a b < 256 := by
  unfold mulN; split
  · decide
  · exact expN_lt _
theorem divN_lt (a b : Nat) : divN a b < 256 := by
  unfold divN; split
  · decide
  · exact expN_lt _
theorem mulN_comm (a b : Nat) : mulN a b = mulN b a := by
  unfold mulN; rw [Nat.add_comm (logN a)]; simp only [Or.comm]
theorem mulN_pos {a b : Nat} (ha : a ≠ 0) (hb : b ≠ 0) : mulN a b = expN ((logN a + logN b) % 255) := if_neg (by omega)
theorem mulN_zero_left (b : Nat) : mulN 0 b = 0 := if_pos (.inl rfl)
theorem mulN_zero_right (a : Nat) : mulN a 0 = 0 := if_pos (.inr rfl)
theorem mod_lt (n : Nat) : n % 255 < 255 := Nat.mod_lt _ (by decide)
theorem mulN_ne {a b : Nat} (ha : a ≠ 0) (hb : b ≠ 0) : mulN a b ≠ 0 := by
  rw [mulN_pos ha hb]; have := exp_pos (mod_lt (logN a + logN b)); omega
theorem mulN_eq_zero {a b : Nat} : mulN a b = 0 ↔ a = 0 ∨ b = 0 := by
  constructor
  · intro h
    rcases Nat.eq_zero_or_pos a with h1 | h1
    · exact .inl h1
    · rcases Nat.eq_zero_or_pos b with h2 | h2
      · exact .inr h2
      · exact absurd h (mulN_ne (by omega) (by omega))
  · intro h; exact if_pos h
theorem log_mul {a b : Nat} (ha : a ≠ 0) (hb : b ≠ 0) : logN (mulN a b) = (logN a + logN b) % 255 := by
  rw [mulN_pos ha hb, log_exp (mod_lt _)]
theorem mulN_assoc (a b c : Nat) : mulN a (mulN b c) = mulN (mulN a b) c := by
  by_cases ha : a = 0
  · subst ha; rw [mulN_zero_left, mulN_zero_left, mulN_zero_left]
  by_cases hb : b = 0
  · subst hb; rw [mulN_zero_left, mulN_zero_right, mulN_zero_left]
  by_cases hc : c = 0
  · subst hc; rw [mulN_zero_right, mulN_zero_right, mulN_zero_right]
  rw [mulN_pos ha (mulN_ne hb hc), mulN_pos (mulN_ne ha hb) hc, log_mul hb hc, log_mul ha hb]
  congr 1; omega
theorem mulN_one {a : Nat} (h : a < 256) : mulN a 1 = a := by
  by_cases ha : a = 0
  · subst ha; exact mulN_zero_left 1
  · have l1 : logN 1 = 0 := by decide +kernel
    have := log_lt h
    rw [mulN_pos ha (by decide), l1, Nat.add_zero, Nat.mod_eq_of_lt this, exp_log (by omega) h]
theorem tripI_zero : ∀ n, tripI n 0 = 0
  | 0 => rfl
  | n + 1 => by show trip (tripI n 0) = 0; rw [tripI_zero n]; rfl
theorem tripI_lt {x : Nat} (h : x < 256) : ∀ n, tripI n x < 256
  | 0 => h
  | n + 1 => trip_lt (tripI_lt h n)
theorem tripI_exp (n m : Nat) : tripI n (expN m) = expN (n + m) := by
  induction n with
  | zero => show expN m = expN (0 + m); rw [Nat.zero_add]
  | succ n ih => show trip (tripI n (expN m)) = _; rw [ih, Nat.add_right_comm]; rfl
theorem tripI_xor {x y : Nat} (hx : x < 256) (hy : y < 256) (n : Nat) : tripI n (x ^^^ y) = tripI n x ^^^ tripI n y := by
  induction n with
  | zero => rfl
  | succ n ih => show trip _ = trip _ ^^^ trip _; rw [ih, trip_xor (tripI_lt hx n) (tripI_lt hy n)]
theorem mulN_tripI {a b : Nat} (ha : a ≠ 0) (hb : b < 256) : mulN a b = tripI (logN a) b := by
  by_cases h : b = 0
  · subst h; rw [mulN_zero_right, tripI_zero]
  · have e := exp_log (a := b) (by omega) hb
    rw [mulN_pos ha h, exp_mod]
    conv => rhs; rw [← e]
    rw [tripI_exp]
theorem xor_lt {a b : Nat} (ha : a < 256) (hb : b < 256) : a ^^^ b < 256 := Nat.xor_lt_two_pow (n := 8) ha hb
theorem mulN_xor (a : Nat) {b c : Nat} (hb : b < 256) (hc : c < 256) : mulN a (b ^^^ c) = mulN a b ^^^ mulN a c := by
  by_cases ha : a = 0
  · subst ha; rw [mulN_zero_left, mulN_zero_left, mulN_zero_left]; rfl
  · rw [mulN_tripI ha (xor_lt hb hc), mulN_tripI ha hb, mulN_tripI ha hc, tripI_xor hb hc]
theorem div_mul {a b : Nat} (ha : a < 256) (hb0 : b ≠ 0) (hb : b < 256) : mulN (divN a b) b = a := by
  by_cases h : a = 0
  · subst h; unfold divN; rw [if_pos rfl, mulN_zero_left]
  · have l1 := log_lt ha
    have l2 := log_lt hb
    have e : divN a b = expN ((logN a + 255 - logN b) % 255) := if_neg h
    have ne : divN a b ≠ 0 := by rw [e]; have := exp_pos (mod_lt (logN a + 255 - logN b)); omega
    rw [mulN_pos ne hb0, e, log_exp (mod_lt _)]
    have : ((logN a + 255 - logN b) % 255 + logN b) % 255 = logN a := by omega
    rw [this, exp_log (by omega) ha]
/-- A power. -/
def powN (a n : Nat) : Nat := if n = 0 then 1 else if a = 0 then 0 else expN (logN a * (n % 255) % 255)
theorem powN_lt (a n : Nat) : powN a n < 256 := by
  unfold powN; split
  · decide
  · split
    · decide
    · exact expN_lt _
theorem mul_mod_add (l m n : Nat) : (l * (m % 255) % 255 + l * (n % 255) % 255) % 255 = l * ((m + n) % 255) % 255 := by
  have h1 : l * (m % 255) % 255 = l * m % 255 := by rw [Nat.mul_mod, Nat.mod_mod, ← Nat.mul_mod]
  have h2 : l * (n % 255) % 255 = l * n % 255 := by rw [Nat.mul_mod, Nat.mod_mod, ← Nat.mul_mod]
  have h3 : l * ((m + n) % 255) % 255 = l * (m + n) % 255 := by rw [Nat.mul_mod, Nat.mod_mod, ← Nat.mul_mod]
  rw [h1, h2, h3, Nat.mul_add, ← Nat.add_mod]
theorem powN_add {a : Nat} (h : a < 256) (m n : Nat) : mulN (powN a m) (powN a n) = powN a (m + n) := by
  by_cases hm : m = 0
  · subst hm
    have e1 : powN a 0 = 1 := rfl
    rw [Nat.zero_add, e1, mulN_comm, mulN_one (powN_lt a n)]
  by_cases hn : n = 0
  · subst hn
    have e1 : powN a 0 = 1 := rfl
    rw [Nat.add_zero, e1, mulN_one (powN_lt a m)]
  by_cases ha : a = 0
  · subst ha
    have e1 : powN 0 m = 0 := by unfold powN; rw [if_neg hm, if_pos rfl]
    have e2 : powN 0 (m + n) = 0 := by unfold powN; rw [if_neg (by omega), if_pos rfl]
    rw [e1, e2, mulN_zero_left]
  have e : ∀ k, k ≠ 0 → powN a k = expN (logN a * (k % 255) % 255) := fun k hk => by unfold powN; rw [if_neg hk, if_neg ha]
  have ne : ∀ k, k ≠ 0 → powN a k ≠ 0 := fun k hk => by rw [e k hk]; have := exp_pos (mod_lt (logN a * (k % 255))); omega
  rw [mulN_pos (ne m hm) (ne n hn), e m hm, e n hn, e (m + n) (by omega), log_exp (mod_lt _), log_exp (mod_lt _), mul_mod_add]
theorem powN_one {a : Nat} (h : a < 256) : powN a 1 = a := by
  by_cases ha : a = 0
  · subst ha; rfl
  · have := log_lt h
    unfold powN; rw [if_neg (by decide), if_neg ha, show (1 : Nat) % 255 = 1 from rfl, Nat.mul_one, Nat.mod_eq_of_lt this, exp_log (by omega) h]
theorem powN_two {a : Nat} (h : a < 256) : powN a 2 = mulN a a := by
  rw [← powN_add h 1 1, powN_one h]
theorem powN_255 {a : Nat} (ha : a ≠ 0) : powN a 255 = 1 := by
  unfold powN; rw [if_neg (by decide), if_neg ha]; rfl
theorem powN_256 {a : Nat} (h : a < 256) : powN a 256 = a := by
  by_cases ha : a = 0
  · subst ha; rfl
  · have := log_lt h
    unfold powN; rw [if_neg (by decide), if_neg ha, show (256 : Nat) % 255 = 1 from rfl, Nat.mul_one, Nat.mod_eq_of_lt this, exp_log (by omega) h]
theorem xor_self_mul {a b : Nat} (ha : a < 256) (hb : b < 256) : mulN (a ^^^ b) (a ^^^ b) = mulN a a ^^^ mulN b b := by
  rw [mulN_xor _ ha hb, mulN_comm (a ^^^ b) a, mulN_comm (a ^^^ b) b, mulN_xor _ ha hb, mulN_xor _ ha hb, mulN_comm b a]
  rw [Nat.xor_assoc, ← Nat.xor_assoc (mulN a b) (mulN a b), Nat.xor_self, Nat.zero_xor]
theorem powN_three_log {a : Nat} (ha : a ≠ 0) (h : a < 256) : powN 3 (logN a) = a := by
  have l3 : logN 3 = 1 := by decide +kernel
  have := log_lt h
  unfold powN
  split
  · rename_i h0
    have := exp_log (a := a) (by omega) h
    rw [h0] at this; exact this
  · rw [if_neg (by decide), l3, Nat.one_mul, Nat.mod_mod, Nat.mod_eq_of_lt this, exp_log (by omega) h]
theorem div_one_div {a : Nat} (ha : a ≠ 0) (h : a < 256) : divN 1 (divN 1 a) = a := by
  have l1 : logN 1 = 0 := by decide +kernel
  have l2 := log_lt h
  have e : ∀ b, divN 1 b = expN ((logN 1 + 255 - logN b) % 255) := fun b => if_neg (by decide)
  rw [e, e, l1, log_exp (mod_lt _)]
  have : (0 + 255 - (0 + 255 - logN a) % 255) % 255 = logN a := by omega
  rw [this, exp_log (by omega) h]
theorem mul_div_one {a : Nat} (ha : a ≠ 0) (h : a < 256) : mulN a (divN 1 a) = 1 := by
  rw [mulN_comm]; exact div_mul (by decide) ha h
end Go.Proofs.YtkcbckafibjflaaGreatDoor
