/- A secret's bytes: what they are. -/
import Derived.Test.YtkaddilgegimjaaDoorPk1
import Derived.Test.YtkaddilgegimjaaDoorEn1
namespace Go.Proofs.YtkaddilgegimjaaDoor
set_option linter.unusedVariables false
set_option linter.unusedSimpArgs false
open Go.RowKit

/-- A version's bytes; a secret's. -/
def verF (v : Ver) : Nat → Nat := fun i => if i < 8 then numB v.t 8 i else if i = 8 then v.st.toNat else if i = 9 then v.len else v.f (i - 10)
def headF (n last max : Nat) : Nat → Nat := fun i => if i = 0 then 115 else if i = 1 then 101 else if i = 2 then max else if i < 7 then numB last 4 (i - 3) else n
def encL (V : Nat → Ver) : Nat → Nat
  | 0 => 8
  | k + 1 => encL V k + (10 + (V k).len)
def encF (n last max : Nat) (V : Nat → Ver) : Nat → Nat → Nat
  | 0 => headF n last max
  | k + 1 => catF (encL V k) (encF n last max V k) (verF (V k))
theorem encL_mono {V : Nat → Ver} {j : Nat} : ∀ {k : Nat}, j ≤ k → encL V j ≤ encL V k
  | 0, h => by obtain rfl : j = 0 := by omega
               exact Nat.le_refl _
  | k + 1, h => by
    rcases Nat.lt_or_ge k j with h1 | h1
    · obtain rfl : j = k + 1 := by omega
      exact Nat.le_refl _
    · have := encL_mono (V := V) (j := j) (k := k) h1
      show encL V j ≤ encL V k + (10 + (V k).len); omega
theorem encF_pre {n last max : Nat} {V : Nat → Ver} {j : Nat} : ∀ {k : Nat}, j ≤ k → ∀ i, i < encL V j → encF n last max V k i = encF n last max V j i
  | 0, h, i, _ => by obtain rfl : j = 0 := by omega
                     rfl
  | k + 1, h, i, hi => by
    rcases Nat.lt_or_ge k j with h1 | h1
    · obtain rfl : j = k + 1 := by omega
      rfl
    · have h2 := encL_mono (V := V) h1
      show catF (encL V k) (encF n last max V k) (verF (V k)) i = _
      unfold catF; rw [if_pos (by omega)]
      exact encF_pre h1 i hi
theorem encF_ver {n last max : Nat} {V : Nat → Ver} {j k i : Nat} (hj : j < k) (hi : i < 10 + (V j).len) : encF n last max V k (encL V j + i) = verF (V j) i := by
  rw [encF_pre (j := j + 1) hj _ (by show _ < encL V j + (10 + (V j).len); omega)]
  show catF (encL V j) (encF n last max V j) (verF (V j)) (encL V j + i) = _
  unfold catF; rw [if_neg (by omega), Nat.add_sub_cancel_left]
theorem encF_head {n last max : Nat} {V : Nat → Ver} {k i : Nat} (hi : i < 8) : encF n last max V k i = headF n last max i := encF_pre (j := 0) (Nat.zero_le _) i hi
theorem encL_ge {V : Nat → Ver} {k : Nat} : 8 ≤ encL V k := encL_mono (j := 0) (Nat.zero_le k)
theorem encL_bound {V : Nat → Ver} {m : Nat} : ∀ {k : Nat}, (∀ i, i < k → (V i).len ≤ m) → encL V k ≤ 8 + k * (10 + m)
  | 0, _ => by show 8 ≤ _; omega
  | k + 1, h => by
    have h1 := encL_bound (k := k) fun i hi => h i (by omega)
    have h2 := h k (by omega)
    show encL V k + (10 + (V k).len) ≤ _
    rw [Nat.succ_mul]; omega
theorem encF_lt {n last max : Nat} {V : Nat → Ver} (hn : n < 256) (hm : max < 256) : ∀ {k : Nat}, (∀ i, i < k → (V i).len < 256 ∧ (V i).st.toNat < 256 ∧ ∀ j, j < (V i).len → (V i).f j < 256) → ∀ i, i < encL V k → encF n last max V k i < 256
  | 0, _, i, _ => by
    show headF n last max i < 256
    have := numB_lt last 4 (i - 3)
    unfold headF; split <;> (try split) <;> (try split) <;> (try split) <;> omega
  | k + 1, h, i, hi => by
    show catF (encL V k) (encF n last max V k) (verF (V k)) i < 256
    unfold catF
    by_cases e : i < encL V k
    · rw [if_pos e]; exact encF_lt hn hm (fun i hi => h i (by omega)) i e
    · rw [if_neg e]
      have hi' : i < encL V k + (10 + (V k).len) := hi
      obtain ⟨h1, h2, h3⟩ := h k (by omega)
      unfold verF
      split
      · exact numB_lt _ _ _
      · split
        · exact h2
        · split
          · exact h1
          · exact h3 _ (by omega)

/-- Four, one behind the other. -/
def p4 {α : Type} (a b c d : α) : Nat → α := fun i => if i = 0 then a else if i = 1 then b else if i = 2 then c else d
theorem totL4 (a b c d : Nat) : totL (p4 a b c d) 4 = a + b + c + d := by
  show 0 + a + b + c + d = _; omega
theorem totF4 (a b c d : Nat) (A B C D : Nat → Nat) (i : Nat) : totF (p4 a b c d) (p4 A B C D) 4 i = if i < a + b + c then (if i < a + b then (if i < a then A i else B (i - a)) else C (i - (a + b))) else D (i - (a + b + c)) := by
  have e0 : totL (p4 a b c d) 0 = 0 := rfl
  have e1 : totL (p4 a b c d) 1 = a := Nat.zero_add a
  have e2 : totL (p4 a b c d) 2 = a + b := by show totL (p4 a b c d) 1 + b = _; rw [e1]
  have e3 : totL (p4 a b c d) 3 = a + b + c := by show totL (p4 a b c d) 2 + c = _; rw [e2]
  show catF (totL (p4 a b c d) 3) (catF (totL (p4 a b c d) 2) (catF (totL (p4 a b c d) 1) (catF (totL (p4 a b c d) 0) (fun _ => 0) A) B) C) D i = _
  rw [e0, e1, e2, e3]
  unfold catF
  rw [if_neg (Nat.not_lt_zero _), Nat.sub_zero]
def seF : Nat → Nat := fun i => if i = 0 then 115 else 101
theorem numB_one {x i : Nat} (h : x < 256) (hi : i = 0) : numB x 1 i = x := by
  subst hi; show x / 256 ^ 0 % 256 = x; rw [Nat.pow_zero, Nat.div_one]; omega
theorem enc_head_eq {n last M : Nat} (hn : n < 256) (hM : M < 256) : ∀ i, i < 8 → totF (p4 2 1 4 1) (p4 seF (numB M 1) (numB last 4) (numB n 1)) 4 i = headF n last M i := fun i hi => by
  rw [totF4]
  unfold headF seF
  by_cases h0 : i = 0
  · subst h0; rfl
  · by_cases h1 : i = 1
    · subst h1; rfl
    · by_cases h2 : i = 2
      · rw [if_pos (by omega), if_pos (by omega), if_neg (by omega), if_neg h0, if_neg h1, if_pos h2, numB_one hM (by omega)]
      · by_cases h7 : i < 7
        · rw [if_pos (by omega), if_neg (by omega), if_neg h0, if_neg h1, if_neg h2, if_pos h7]
        · rw [if_neg (by omega), if_neg h0, if_neg h1, if_neg h2, if_neg h7, numB_one hn (by omega)]
theorem enc_round_eq {n last M k S : Nat} {V : Nat → Ver} (hS : (V k).st = (S : Int)) (hS2 : S < 256) (hl : (V k).len < 256) : ∀ i, i < encL V (k + 1) → totF (p4 (encL V k) 8 1 ((V k).len + 1)) (p4 (encF n last M V k) (numB (V k).t 8) (numB S 1) (lenF (V k).len (V k).f)) 4 i = encF n last M V (k + 1) i := fun i _ => by
  rw [totF4]
  show _ = catF (encL V k) (encF n last M V k) (verF (V k)) i
  unfold catF verF
  rw [hS]
  by_cases h0 : i < encL V k
  · rw [if_pos (by omega), if_pos (by omega), if_pos h0, if_pos h0]
  · by_cases h1 : i < encL V k + 8
    · rw [if_pos (by omega), if_pos h1, if_neg h0, if_neg h0, if_pos (by omega)]
    · by_cases h2 : i < encL V k + 8 + 1
      · rw [if_pos h2, if_neg h1, if_neg h0, if_neg (by omega), if_pos (by omega), numB_one hS2 (by omega)]
        exact (Int.toNat_natCast S).symm
      · rw [if_neg h2, if_neg h0, if_neg (by omega), if_neg (by omega)]
        unfold lenF
        by_cases h3 : i = encL V k + 8 + 1
        · rw [if_pos (by omega), if_pos (by omega)] <;> omega
        · rw [if_neg (by omega), if_neg (by omega)]; (congr 1 <;> omega)
end Go.Proofs.YtkaddilgegimjaaDoor
