/- Progress in plain mathematics: what stands against a part beside others; which progress may be. -/
import Derived.Test.YtgiffaeckhhmpaaDoorSpA
namespace Go.Proofs.YtgiffaeckhhmpaaDoor
set_option linter.unusedVariables false
set_option linter.unusedSimpArgs false
open Go.RowKit

/-- What stands against a part beside the first i of some; 0: nothing. -/
def wrongN (N gen : Nat) (S : Nat → Sh) (i : Nat) (s : Sh) : Nat := if s.gen ≠ gen then 14 else if seenB (fun q => (S q).ix) i s.ix = true ∨ s.ix = 0 ∨ N < s.ix ∨ s.len ≠ 32 then 12 else 0
theorem wrongN_gen {N gen i : Nat} {S : Nat → Sh} {s : Sh} (h : s.gen ≠ gen) : wrongN N gen S i s = 14 := if_pos h
theorem wrongN_bad {N gen i : Nat} {S : Nat → Sh} {s : Sh} (h : s.gen = gen) (h2 : seenB (fun q => (S q).ix) i s.ix = true ∨ s.ix = 0 ∨ N < s.ix ∨ s.len ≠ 32) : wrongN N gen S i s = 12 := by
  unfold wrongN; rw [if_neg (fun e => e h), if_pos h2]
theorem wrongN_ok {N gen i : Nat} {S : Nat → Sh} {s : Sh} (h : s.gen = gen) (h1 : seenB (fun q => (S q).ix) i s.ix = false) (h2 : s.ix ≠ 0) (h3 : s.ix ≤ N) (h4 : s.len = 32) : wrongN N gen S i s = 0 := by
  unfold wrongN; rw [if_neg (fun e => e h), if_neg (fun e => by
    rcases e with e | e | e | e
    · rw [h1] at e; cases e
    · exact h2 e
    · omega
    · exact e h4)]
theorem wrongN_zero {N gen i : Nat} {S : Nat → Sh} {s : Sh} (h : wrongN N gen S i s = 0) : s.gen = gen ∧ seenB (fun q => (S q).ix) i s.ix = false ∧ s.ix ≠ 0 ∧ s.ix ≤ N ∧ s.len = 32 := by
  unfold wrongN at h
  by_cases h1 : s.gen ≠ gen
  · rw [if_pos h1] at h; cases h
  · rw [if_neg h1] at h
    by_cases h2 : seenB (fun q => (S q).ix) i s.ix = true ∨ s.ix = 0 ∨ N < s.ix ∨ s.len ≠ 32
    · rw [if_pos h2] at h; cases h
    · refine ⟨Classical.not_not.1 h1, ?_, fun e => h2 (.inr (.inl e)), ?_, Classical.not_not.1 fun e => h2 (.inr (.inr (.inr e)))⟩
      · cases e : seenB (fun q => (S q).ix) i s.ix
        · rfl
        · exact absurd (Or.inl e) h2
      · exact Nat.le_of_not_lt fun e => h2 (.inr (.inr (.inl e)))
theorem wrongN_vals (N gen : Nat) (S : Nat → Sh) (i : Nat) (s : Sh) : wrongN N gen S i s = 0 ∨ wrongN N gen S i s = 12 ∨ wrongN N gen S i s = 14 := by
  unfold wrongN
  split
  · exact .inr (.inr rfl)
  · split
    · exact .inr (.inl rfl)
    · exact .inl rfl
theorem seenB_congr {f g : Nat → Nat} {n x : Nat} (h : ∀ i, i < n → f i = g i) : seenB f n x = seenB g n x := by
  induction n with
  | zero => rfl
  | succ n ih => rw [seenB_succ, seenB_succ, ih fun i hi => h i (by omega), h n (by omega)]
theorem wrongN_congr {N gen i : Nat} {S T : Nat → Sh} {s : Sh} (h : ∀ q, q < i → (S q).ix = (T q).ix) : wrongN N gen S i s = wrongN N gen T i s := by
  unfold wrongN; rw [seenB_congr (f := fun q => (S q).ix) (g := fun q => (T q).ix) h]
/-- Each of the first n fits behind those ahead of it. -/
def okN (N gen : Nat) (S : Nat → Sh) (n : Nat) : Prop := ∀ i, i < n → wrongN N gen S i (S i) = 0
/-- May a progress be? -/
def MayG (K N : Int) (gen : Nat) (S : Nat → Sh) (n ml : Nat) : Prop := MayP K N ∧ ml ≤ 16 ∧ (n : Int) ≤ K ∧ okN N.toNat gen S n
theorem okN_congr {N gen n : Nat} {S T : Nat → Sh} (h : ∀ q, q < n → S q = T q) (hS : okN N gen S n) : okN N gen T n := fun i hi => by
  rw [← h i hi, ← wrongN_congr (S := S) (fun q hq => by rw [h q (by omega)])]; exact hS i hi
theorem MayG.congr {K N : Int} {gen n ml : Nat} {S T : Nat → Sh} (hS : MayG K N gen S n ml) (h : ∀ q, q < n → S q = T q) : MayG K N gen T n ml := ⟨hS.1, hS.2.1, hS.2.2.1, okN_congr h hS.2.2.2⟩
/-- Parts that fit go together. -/
theorem okN_need {N gen K : Nat} {S : Nat → Sh} (h : okN N gen S K) (hK : 1 ≤ K) : needE S K K gen = 0 := by
  have h0 := wrongN_zero (h 0 (by omega))
  refine needE_ok (Nat.lt_irrefl _) (fun i hi => (wrongN_zero (h i hi)).1) fun i hi => ?_
  have h1 := wrongN_zero (h i hi)
  exact badB_of h1.2.2.1 h1.2.1 (by rw [h1.2.2.2.2, h0.2.2.2.2]) (by rw [h0.2.2.2.2]; decide)
end Go.Proofs.YtgiffaeckhhmpaaDoor
