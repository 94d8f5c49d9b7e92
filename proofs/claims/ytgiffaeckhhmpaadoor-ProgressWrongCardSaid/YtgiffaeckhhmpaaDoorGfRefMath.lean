/- The document's own product is that of the table. -/
import Derived.Test.YtgiffaeckhhmpaaDoorGfA
namespace Go.Proofs.YtgiffaeckhhmpaaDoor
set_option linter.unusedVariables false
set_option linter.unusedSimpArgs false
/-- The document's product: sums of what is moved, then what is above is taken away. -/
def accK (a b : Nat) : Nat → Nat | 0 => 0 | k + 1 => if b.testBit k then accK a b k ^^^ (a * 2 ^ k) else accK a b k
def redS (i v : Nat) : Nat := if v.testBit i then v ^^^ (283 * 2 ^ (i - 8)) else v
/-- Behind k steps from 14 on downwards. -/
def redK (v : Nat) : Nat → Nat | 0 => v | k + 1 => redS (14 - k) (redK v k)
def refMul (a b : Nat) : Nat := redK (accK a b 8) 7

theorem ite_xor (p q : Bool) (x : Nat) : (if (p ^^ q) then x else 0) = (if p then x else 0) ^^^ (if q then x else 0) := by
  cases p <;> cases q <;> simp
theorem accK_eq (a b k : Nat) : accK a b (k + 1) = accK a b k ^^^ (if b.testBit k then a * 2 ^ k else 0) := by
  show (if b.testBit k then accK a b k ^^^ (a * 2 ^ k) else accK a b k) = _
  split <;> simp
theorem redS_eq (i v : Nat) : redS i v = v ^^^ (if v.testBit i then 283 * 2 ^ (i - 8) else 0) := by
  unfold redS; split <;> simp
theorem xor_swap (a b c d : Nat) : (a ^^^ b) ^^^ (c ^^^ d) = (a ^^^ c) ^^^ (b ^^^ d) := by
  rw [Nat.xor_assoc, Nat.xor_assoc, ← Nat.xor_assoc b c d, Nat.xor_comm b c, Nat.xor_assoc c b d]
theorem accK_xor (a b c : Nat) : ∀ k, accK a (b ^^^ c) k = accK a b k ^^^ accK a c k
  | 0 => (Nat.xor_self 0).symm
  | k + 1 => by rw [accK_eq, accK_eq, accK_eq, accK_xor a b c k, Nat.testBit_xor, ite_xor, xor_swap]
theorem redS_xor (i v u : Nat) : redS i (v ^^^ u) = redS i v ^^^ redS i u := by
  rw [redS_eq, redS_eq, redS_eq, Nat.testBit_xor, ite_xor, xor_swap]
theorem redK_xor (v u : Nat) : ∀ k, redK (v ^^^ u) k = redK v k ^^^ redK u k
  | 0 => rfl
  | k + 1 => by show redS _ _ = redS _ _ ^^^ redS _ _; rw [redK_xor v u k, redS_xor]
theorem refMul_xor (a b c : Nat) : refMul a (b ^^^ c) = refMul a b ^^^ refMul a c := by unfold refMul; rw [accK_xor, redK_xor]

/-- Two functions that go through sums are one, if they are so at the powers of 2. -/
theorem lin_ext (f g : Nat → Nat) (hf : ∀ x y, x < 256 → y < 256 → f (x ^^^ y) = f x ^^^ f y) (hg : ∀ x y, x < 256 → y < 256 → g (x ^^^ y) = g x ^^^ g y) (f0 : f 0 = 0) (g0 : g 0 = 0)
    (h : ∀ i, i < 8 → f (2 ^ i) = g (2 ^ i)) : ∀ b, b < 256 → f b = g b := by
  have sum : ∀ (b : Nat) (l : List Nat) (acc : Nat), (∀ i ∈ l, i < 8) → acc < 256 → f acc = g acc →
      f (l.foldl (fun s i => s ^^^ (if b.testBit i then 2 ^ i else 0)) acc) = g (l.foldl (fun s i => s ^^^ (if b.testBit i then 2 ^ i else 0)) acc) := by
    intro b l
    induction l with
    | nil => intro acc _ _ e; exact e
    | cons i l ih =>
      intro acc hl ha e
      have hi := hl i (by simp)
      have hp : (2 : Nat) ^ i < 256 := Nat.lt_of_lt_of_le (Nat.pow_lt_pow_right (by decide) hi) (by decide)
      have hq : (if b.testBit i then 2 ^ i else 0) < 256 := by split <;> omega
      refine ih _ (fun j hj => hl j (by simp [hj])) (Nat.xor_lt_two_pow (n := 8) ha hq) ?_
      rw [hf _ _ ha hq, hg _ _ ha hq, e]
      congr 1
      split
      · exact h i hi
      · rw [f0, g0]
  intro b hb
  have k : (List.range 256).all (fun b => (List.range 8).foldl (fun s i => s ^^^ (if b.testBit i then 2 ^ i else 0)) 0 == b) = true := by decide +kernel
  have e := beq_iff_eq.1 (List.all_eq_true.1 k b (List.mem_range.2 hb))
  have := sum b (List.range 8) 0 (fun i hi => List.mem_range.1 hi) (by decide) (by rw [f0, g0])
  rw [e] at this; exact this

theorem refMul_eq {a b : Nat} (ha : a < 256) (hb : b < 256) : refMul a b = mulN a b := by
  refine lin_ext (refMul a) (mulN a) (fun x y _ _ => refMul_xor a x y) (fun x y hx hy => mulN_xor a hx hy) ?_ (mulN_zero_right a) ?_ b hb
  · have k : (List.range 256).all (fun a => refMul a 0 == 0) = true := by decide +kernel
    exact beq_iff_eq.1 (List.all_eq_true.1 k a (List.mem_range.2 ha))
  · have k : (List.range 256).all (fun a => (List.range 8).all (fun i => refMul a (2 ^ i) == mulN a (2 ^ i))) = true := by decide +kernel
    intro i hi
    exact beq_iff_eq.1 (List.all_eq_true.1 (List.all_eq_true.1 k a (List.mem_range.2 ha)) i (List.mem_range.2 hi))
end Go.Proofs.YtgiffaeckhhmpaaDoor
