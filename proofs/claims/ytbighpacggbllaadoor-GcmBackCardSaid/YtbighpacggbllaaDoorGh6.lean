/- A row of bytes through the product, block by block: linear. -/
import Derived.Test.YtbighpacggbllaaDoorGh5
namespace Go.Proofs.YtbighpacggbllaaDoor
set_option linter.unusedVariables false
set_option linter.unusedSimpArgs false
open Go.RowKit

/-- The k-th block of a row of n bytes, filled up with zeros. -/
def chF (f : Nat → Nat) (n k : Nat) : Nat → Nat := fun i => if 16 * k + i < n then f (16 * k + i) else 0
/-- The sum behind k blocks. -/
def thrF (h f : Nat → Nat) (n : Nat) (s : Nat → Nat) : Nat → Nat → Nat
  | 0 => s
  | k + 1 => mulF (addF (thrF h f n s k) (chF f n k)) h
theorem chF_lt {f : Nat → Nat} {n k : Nat} (hf : ∀ i, i < n → f i < 256) (i : Nat) : chF f n k i < 256 := by
  unfold chF; split
  · exact hf _ (by assumption)
  · decide
theorem thrF_lt {h f s : Nat → Nat} {n : Nat} (hs : ∀ i, i < 16 → s i < 256) : ∀ k i, i < 16 → thrF h f n s k i < 256
  | 0, i, hi => hs i hi
  | _ + 1, i, _ => blkF_lt _ _ i
theorem addF_lt {f g : Nat → Nat} (hf : ∀ i, i < 16 → f i < 256) (hg : ∀ i, i < 16 → g i < 256) (i : Nat) (hi : i < 16) : addF f g i < 256 :=
  Nat.xor_lt_two_pow (n := 8) (hf i hi) (hg i hi)
theorem chF_add (f g : Nat → Nat) (n k : Nat) : chF (addF f g) n k = addF (chF f n k) (chF g n k) := by
  funext i
  show (if 16 * k + i < n then f (16 * k + i) ^^^ g (16 * k + i) else 0) = (if 16 * k + i < n then f (16 * k + i) else 0) ^^^ (if 16 * k + i < n then g (16 * k + i) else 0)
  by_cases h : 16 * k + i < n
  · rw [if_pos h, if_pos h, if_pos h]
  · rw [if_neg h, if_neg h, if_neg h]; rfl
theorem addF_four (a b c d : Nat → Nat) : addF (addF a b) (addF c d) = addF (addF a c) (addF b d) := by
  funext i; unfold addF
  rw [Nat.xor_assoc, Nat.xor_assoc, ← Nat.xor_assoc (b i), ← Nat.xor_assoc (c i), Nat.xor_comm (b i) (c i)]
theorem thrF_add {h f g s t : Nat → Nat} {n : Nat} (hf : ∀ i, i < n → f i < 256) (hg : ∀ i, i < n → g i < 256) (hs : ∀ i, i < 16 → s i < 256) (ht : ∀ i, i < 16 → t i < 256) :
    ∀ k, thrF h (addF f g) n (addF s t) k = addF (thrF h f n s k) (thrF h g n t k)
  | 0 => rfl
  | k + 1 => by
    show mulF (addF (thrF h (addF f g) n (addF s t) k) (chF (addF f g) n k)) h = _
    rw [thrF_add hf hg hs ht k, chF_add, addF_four, mulF_add]
    · rfl
    · exact addF_lt (thrF_lt hs k) (fun i _ => chF_lt hf i)
    · exact addF_lt (thrF_lt ht k) (fun i _ => chF_lt hg i)
end Go.Proofs.YtbighpacggbllaaDoor
