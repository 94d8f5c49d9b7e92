/- The document's sum with a key of some parts. -/
import Derived.Test.YtloajfbehejehaaDoorHm5
import Derived.Test.YtloajfbehejehaaDoorRm1
namespace Go.Proofs.YtloajfbehejehaaDoor
set_option linter.unusedVariables false
set_option linter.unusedSimpArgs false
open Go.RowKit

/-- A row of our own, behind what was there. -/
structure JG (w0 : World) (v : Value) (n : Nat) (f : Nat → Nat) (w : World) : Prop where
  g : Grow w w0.heap.size v n f
  o : Below w0.heap.size w0 w
theorem JG.later {w0 w w' : World} {v : Value} {n : Nat} {f : Nat → Nat} (h : JG w0 v n f w) (hb : Below w.heap.size w w') : JG w0 v n f w' := ⟨h.g.later hb, h.o.trans (hb.mono h.o.size)⟩
theorem JG.grew {w0 w w' : World} {v v' : Value} {n n' : Nat} {f f' : Nat → Nat} (h : JG w0 v n f w) (hg : w.grownBy w' v.ownBlock) (hG : Grow w' w0.heap.size v' n' f') : JG w0 v' n' f' w' := ⟨hG, h.o.trans (grow_bel h.g h.o.size hg)⟩
theorem catF_b {n m : Nat} {f g : Nat → Nat} (hf : ∀ i, i < n → f i < 256) (hg : ∀ i, i < m → g i < 256) : ∀ i, i < n + m → catF n f g i < 256 := fun i hi => by
  unfold catF
  by_cases e : i < n
  · rw [if_pos e]; exact hf i e
  · rw [if_neg e]; exact hg _ (by omega)
theorem jfun_lt {L : Nat → Nat} {G : Nat → Nat → Nat} : ∀ q, (∀ i, i < q → ∀ k, k < L i → G i k < 256) → ∀ k, k < jlen L q → jfun L G q k < 256
  | 0, _ => fun k hk => absurd hk (Nat.not_lt_zero _)
  | q + 1, h => catF_b (catF_b (jfun_lt q fun i hi => h i (by omega)) (fun i _ => numB_lt _ _ _)) (h q (by omega))
end Go.Proofs.YtloajfbehejehaaDoor
