/- GCM in plain mathematics. -/
import Derived.Test.YtbighpacggbllaaDoorAe5
import Derived.Test.YtbighpacggbllaaDoorGh10
import Derived.Test.YtbighpacggbllaaDoorGen
namespace Go.Proofs.YtbighpacggbllaaDoor
set_option linter.unusedVariables false
set_option linter.unusedSimpArgs false
open Go.RowKit

/-- A nonce's counter block. -/
def ctrB (nn : Nat → Nat) (c : Nat) : Nat → Nat := fun i => if i < 12 then nn i else numB c 4 (i - 12)
theorem ctrB_lt {nn : Nat → Nat} {c : Nat} (hn : ∀ i, i < 12 → nn i < 256) : ∀ i, i < 16 → ctrB nn c i < 256 := fun i _ => by
  unfold ctrB; split
  · exact hn i (by assumption)
  · exact numB_lt _ _ _
/-- It, ciphered. -/
def cW (W nn : Nat → Nat) (c : Nat) : Nat → Nat := encK subN W (ctrB nn c) 14
theorem cW_lt {W nn : Nat → Nat} {c : Nat} (hn : ∀ i, i < 12 → nn i < 256) : ∀ i, i < 16 → cW W nn c i < 256 := fun i hi => encK_lt subN_lt (ctrB_lt hn) 14 i hi
theorem xor_lt256 {a b : Nat} (ha : a < 256) (hb : b < 256) : a ^^^ b < 256 := Nat.xor_lt_two_pow (n := 8) ha hb
/-- Bytes, ciphered. -/
def cphF (W nn p : Nat → Nat) : Nat → Nat := fun i => p i ^^^ cW W nn (2 + i / 16) (i % 16)
theorem cphF_lt {W nn p : Nat → Nat} {n : Nat} (hn : ∀ i, i < 12 → nn i < 256) (hp : ∀ i, i < n → p i < 256) : ∀ i, i < n → cphF W nn p i < 256 := fun i hi => xor_lt256 (hp i hi) (cW_lt hn _ (Nat.mod_lt _ (by decide)))
theorem cphF_back (W nn p : Nat → Nat) (i : Nat) : cphF W nn (cphF W nn p) i = p i := by
  unfold cphF; rw [Nat.xor_assoc, Nat.xor_self, Nat.xor_zero]
theorem cphF_congr {W nn p q : Nat → Nat} {i : Nat} (h : p i = q i) : cphF W nn p i = cphF W nn q i := by unfold cphF; rw [h]
/-- The block of noughts, ciphered. -/
def h0F (W : Nat → Nat) : Nat → Nat := encK subN W (fun _ => 0) 14
theorem h0F_lt (W : Nat → Nat) : ∀ i, i < 16 → h0F W i < 256 := fun i hi => encK_lt subN_lt (fun _ _ => Nat.zero_lt_succ _) 14 i hi
/-- The tag of ciphered bytes, and of the bytes beside. -/
def tgF (W nn a : Nat → Nat) (an : Nat) (c : Nat → Nat) (cn : Nat) : Nat → Nat := addF (hashF (h0F W) a an c cn) (cW W nn 1)
theorem tgF_lt {W nn a c : Nat → Nat} {an cn : Nat} (hn : ∀ i, i < 12 → nn i < 256) : ∀ i, i < 16 → tgF W nn a an c cn i < 256 := fun i hi => xor_lt256 (mulF_lt _ _ _) (cW_lt hn i hi)
theorem thrF_congr {h f g : Nat → Nat} {n : Nat} (s : Nat → Nat) (hfg : ∀ i, i < n → f i = g i) : ∀ k, thrF h f n s k = thrF h g n s k
  | 0 => rfl
  | k + 1 => by
    show mulF (addF (thrF h f n s k) (chF f n k)) h = mulF (addF (thrF h g n s k) (chF g n k)) h
    rw [thrF_congr s hfg k]
    congr 2
    funext i
    unfold chF
    split
    · exact hfg _ (by assumption)
    · rfl
theorem tgF_congr {W nn a c d : Nat → Nat} {an cn : Nat} (h : ∀ i, i < cn → c i = d i) : tgF W nn a an c cn = tgF W nn a an d cn := by
  unfold tgF hashF twoF
  rw [thrF_congr _ h]
/-- Bytes, sealed. -/
def boxF (W nn p : Nat → Nat) (n : Nat) (a : Nat → Nat) (an : Nat) : Nat → Nat := catF n (cphF W nn p) (tgF W nn a an (cphF W nn p) n)
theorem boxF_lt {W nn p a : Nat → Nat} {n an : Nat} (hn : ∀ i, i < 12 → nn i < 256) (hp : ∀ i, i < n → p i < 256) : ∀ i, i < n + 16 → boxF W nn p n a an i < 256 := catF_b (cphF_lt hn hp) (tgF_lt hn)
end Go.Proofs.YtbighpacggbllaaDoor
