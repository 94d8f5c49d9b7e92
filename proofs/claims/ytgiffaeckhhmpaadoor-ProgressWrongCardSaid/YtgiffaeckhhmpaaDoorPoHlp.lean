/- Small lemmas about tables, rows told by a list, slices in other blocks. -/
import Derived.Test.YtgiffaeckhhmpaaDoorPoWeights
import Derived.Test.YtgiffaeckhhmpaaDoorPoEval
import Derived.Test.YtgiffaeckhhmpaaDoorApA
import Derived.Test.YtgiffaeckhhmpaaDoorGfA
import Derived.IntWalk
namespace Go.Proofs.YtgiffaeckhhmpaaDoor
set_option linter.unusedVariables false
set_option linter.unusedSimpArgs false
open Go.RowKit

theorem TabIn.belowB {w w' : World} {b base : Nat} (h : TabIn w b) (hb : Below base w w') (hs : b < base) : TabIn w' b :=
  h.elim (fun t => .inl ⟨Blk.below t.1 hb hs, t.2⟩) (fun t => .inr ⟨Blk.below t.1 hb hs, t.2⟩)
theorem upd_self {F : Nat → Nat} {k y : Nat} (h : F k = y) (i : Nat) : upd F k y i = F i := by
  unfold upd
  split
  · rename_i e; rw [e, h]
  · rfl
theorem places_ne {f : Nat → Nat} {n : Nat} (h : placesB f n = true) : ∀ i j, i < j → j < n → f i ≠ f j := fun i j hij hj => distB_ne (placesB_iff.1 h).1 i j hij hj

def litF (L : List Nat) : Nat → Nat := fun i => L.getD i 0
theorem bytes_lit {w : World} {g : Nat} (L : List Nat) (h : ∀ i, i < L.length → w.cell? ⟨g, i, none⟩ = some (.int .u8 (litF L i : Nat))) (hl : L.all (fun x => decide (x < 256)) = true) : Bytes w (some ⟨g, 0, none⟩) L.length (litF L) := fun k hk => by
  refine ⟨?_, g, 0, rfl, by rw [Nat.zero_add]; exact h k hk⟩
  unfold litF
  rw [List.getD_eq_getElem?_getD, List.getElem?_eq_getElem hk]
  exact of_decide_eq_true (List.all_eq_true.1 hl _ (List.getElem_mem hk))
theorem Apart.of_ne {tb g off n : Nat} (h : g ≠ tb) : Apart tb (some ⟨g, off, none⟩) n := fun _ a e => by cases e; exact h
theorem Apart.none {tb n : Nat} : Apart tb none n := fun _ _ e => by cases e
theorem Bytes.apart {w : World} {oa : Option Addr} {n : Nat} {f : Nat → Nat} (h : Bytes w oa n f) : Apart w.heap.size oa n := fun h0 a e => by
  obtain ⟨_, b, off, e2, hc⟩ := h 0 h0
  cases e2; cases e
  have := World.block_lt_of_cell? w _ hc
  exact Nat.ne_of_lt this


theorem eval_is {tb n cp v : Nat} {oa : Option Addr} {f : Nat → Nat} {x : Nat} (w : World) (h : TabIn w tb) (hb : Bytes w oa n f) (ha : Apart tb oa n) (hn : n ≤ maxLen) (hx : x < 256) (hv : evalN f n x = v) :
    Calls Tryd.prog 23 #[.pointer (some ⟨tb, 0, none⟩), .slice oa n cp, .int .u8 x] w fun e w' => e = .returned (.int .u8 (v : Nat)) ∧ Left tb w w' := by
  subst hv; rw [← evalN_eq hx fun k hk => (hb k hk).1]; exact eval_any tb oa n cp f x w h hb ha hn hx


end Go.Proofs.YtgiffaeckhhmpaaDoor
