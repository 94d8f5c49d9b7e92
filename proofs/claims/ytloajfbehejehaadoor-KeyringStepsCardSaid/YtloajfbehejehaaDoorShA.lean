/- ShaPieces walked. -/
import Derived.Test.YtloajfbehejehaaDoorSh9
import Derived.Test.YtloajfbehejehaaDoorShL
import Derived.Test.YtloajfbehejehaaDoorApo
namespace Go.Proofs.YtloajfbehejehaaDoor
set_option linter.unusedVariables false
set_option linter.unusedSimpArgs false
open Go.RowKit

theorem Grow.bytesC {w : World} {base n : Nat} {v : Value} {f : Nat → Nat} (h : Grow w base v n f) (hf : ∀ i, i < n → f i < 256) :
    ∃ oa cap, v = .slice oa n cap ∧ Bytes w oa n f ∧ n ≤ cap ∧ (oa = none → n = 0) := by
  obtain ⟨oa, cap, hv, hB, _⟩ := h.bytes hf
  refine ⟨oa, cap, hv, hB, ?_⟩
  rcases h.2 with ⟨h2, h3⟩ | ⟨g, cap', cur, h2, _, _, h3, _⟩
  · exact ⟨by omega, fun _ => h3⟩
  · rw [hv] at h2; cases h2; exact ⟨h3, fun e => by cases e⟩
theorem Grow.ownN {w w' : World} {base n b : Nat} {v : Value} {f : Nat → Nat} (h : Grow w base v n f) (hO : Own b w w') (hn : ∀ k, v.ownBlock = some k → k ≠ b) : Grow w' base v n f := by
  refine ⟨h.1, ?_⟩
  rcases h.2 with h2 | ⟨g, cap, cur, hv, hb, hh, r⟩
  · exact .inl h2
  · refine .inr ⟨g, cap, cur, hv, hb, ?_, r⟩
    have hlt : g < w.heap.size := by
      rcases Nat.lt_or_ge g w.heap.size with h' | h'
      · exact h'
      · rw [Array.getElem?_eq_none h'] at hh; cases hh
    rw [hO.block g hlt (hn g (by rw [hv]; rfl))]; exact hh
theorem Grow.lt {w : World} {base n : Nat} {v : Value} {f : Nat → Nat} (h : Grow w base v n f) : ∀ k, v.ownBlock = some k → base ≤ k ∧ k < w.heap.size := fun k hk => World.ownsRow.lt h k hk
theorem own_of_grown {w w' : World} {v : Value} (hg : w.grownBy w' v.ownBlock) : Own (v.ownBlock.getD w.heap.size) w w' := by
  refine ⟨hg.os, hg.tape, hg.output, hg.size, fun k hk hn => hg.block k hk ?_⟩
  cases h : v.ownBlock with
  | none => simp
  | some b => rw [h] at hn; intro e; exact hn (by simpa using e)
/-- While pieces are written: the hash, all of it; perhaps a clone, and what it holds. -/
structure ZS (w0 : World) (g A : Nat) (F : Nat → Nat) (q : Nat) (Q : Nat → Nat) (va : Value) (cp : Option Nat) (B : Nat) (E : Nat → Nat) (vs : Value) (wr : World) : Prop where
  h : HS wr g A F
  a : Grow wr w0.heap.size va q Q
  f : ∀ i, i < q → Q i < 256
  o : Below w0.heap.size w0 wr
  v : GV wr
  gb : w0.heap.size ≤ g
  gv0 : 1 < w0.heap.size ∧ 2 < w0.heap.size
  na : ∀ k, va.ownBlock = some k → k ≠ g
  c : ∀ c, cp = some c → HS wr c B E ∧ w0.heap.size ≤ c ∧ c ≠ g ∧ (∀ k, va.ownBlock = some k → k ≠ c) ∧ Grow wr w0.heap.size vs B E ∧ (∀ i, i < B → E i < 256) ∧ B ≤ 3600 ∧ ∀ k, vs.ownBlock = some k → k ≠ g ∧ k ≠ c ∧ va.ownBlock ≠ some k
theorem ZS.later {w0 : World} {g A q B : Nat} {F Q E : Nat → Nat} {va vs : Value} {cp : Option Nat} {wr w' : World} (h : ZS w0 g A F q Q va cp B E vs wr) (hb : Below wr.heap.size wr w') : ZS w0 g A F q Q va cp B E vs w' :=
  ⟨h.h.later hb, h.a.later hb, h.f, h.o.trans (hb.mono h.o.size), h.v.later hb, h.gb, h.gv0, h.na, fun c hc => by
    obtain ⟨c1, c2, c3, c4, c5, c6⟩ := h.c c hc
    exact ⟨c1.later hb, c2, c3, c4, c5.later hb, c6⟩⟩
/-- The hash is written into. -/
theorem ZS.wrote {w0 : World} {g A A' q B : Nat} {F F' Q E : Nat → Nat} {va vs : Value} {cp : Option Nat} {wr w' : World} (h : ZS w0 g A F q Q va cp B E vs wr) (hO : Own g wr w') (hS : HS w' g A' F') : ZS w0 g A' F' q Q va cp B E vs w' :=
  ⟨hS, h.a.ownN hO h.na, h.f, h.o.trans (hO.below h.gb h.o.size), h.v.own hO h.h.1.1 h.h.1.2, h.gb, h.gv0, h.na, fun c hc => by
    obtain ⟨c1, c2, c3, c4, c5, c6, c7, c8⟩ := h.c c hc
    exact ⟨c1.own hO c3, c2, c3, c4, c5.ownN hO (fun k hk => (c8 k hk).1), c6, c7, c8⟩⟩
/-- All of it grows. -/
theorem ZS.grew {w0 : World} {g A q q' B : Nat} {F Q Q' E : Nat → Nat} {va va' vs : Value} {cp : Option Nat} {wr w' : World} (h : ZS w0 g A F q Q va cp B E vs wr) (hg : wr.grownBy w' va.ownBlock) (hG : Grow w' w0.heap.size va' q' Q') (hob : va'.ownBlock = va.ownBlock ∨ va'.ownBlock = some wr.heap.size) (hf : ∀ i, i < q' → Q' i < 256) : ZS w0 g A F q' Q' va' cp B E vs w' := by
  have hO := own_of_grown hg
  have hl := h.h.lt
  have hn : ∀ x, x < wr.heap.size → (∀ k, va.ownBlock = some k → k ≠ x) → x ≠ va.ownBlock.getD wr.heap.size := fun x hx hk => by
    cases e : va.ownBlock with
    | none => simp; omega
    | some b => simp; exact fun e2 => hk b e e2.symm
  have hn2 : ∀ x, x < wr.heap.size → (∀ k, va.ownBlock = some k → k ≠ x) → ∀ k, va'.ownBlock = some k → k ≠ x := fun x hx hk k hk' => by
    rcases hob with e | e
    · exact hk k (by rw [← e]; exact hk')
    · rw [e] at hk'; cases hk'; omega
  have hge : w0.heap.size ≤ va.ownBlock.getD wr.heap.size := by
    cases e : va.ownBlock with
    | none => simp; exact h.o.size
    | some b => simp; exact (h.a.lt b e).1
  refine ⟨h.h.own hO (hn g hl h.na), hG, hf, h.o.trans (hO.below hge h.o.size), ?_, h.gb, h.gv0, hn2 g hl h.na, fun c hc => ?_⟩
  · exact h.v.own hO (by have := h.gv0; omega) (by have := h.gv0; omega)
  · obtain ⟨c1, c2, c3, c4, c5, c6, c7, c8⟩ := h.c c hc
    refine ⟨c1.own hO (hn c c1.lt c4), c2, c3, hn2 c c1.lt c4, c5.ownN hO (fun k hk => ?_), c6, c7, fun k hk => ?_⟩
    · have := c8 k hk
      exact hn k (c5.lt k hk).2 (fun k' hk' e => this.2.2 (by rw [hk', e]))
    · have := c8 k hk
      refine ⟨this.1, this.2.1, fun e => ?_⟩
      exact hn2 k (c5.lt k hk).2 (fun k' hk' e => this.2.2 (by rw [hk', e])) k e rfl
/-- A clone is made, and a copy of all of it. -/
theorem ZS.cloned {w0 : World} {g A q B gc : Nat} {F Q E : Nat → Nat} {va vs vs' : Value} {cp : Option Nat} {wr w1 w2 : World} (h : ZS w0 g A F q Q va cp B E vs wr) (hb : Below wr.heap.size wr w1) (hc : HS w1 gc q Q) (hge : wr.heap.size ≤ gc)
    (hG : Grow w2 w0.heap.size vs' (0 + q) (catF 0 (fun _ => 0) Q)) (hg : (w1.alloc (.cells #[] 5)).grownBy w2 (some w1.heap.size)) (hob : vs'.ownBlock = some w1.heap.size ∨ vs'.ownBlock = some (w1.heap.size + 1)) (hq : q ≤ 3600) : ZS w0 g A F q Q va (some gc) q Q vs' w2 := by
  have hl := h.h.lt
  have hcl := hc.lt
  have ha : Below w1.heap.size w1 (w1.alloc (.cells #[] 5)) := (Below.refl _ _).alloc (Nat.le_refl _) _
  have hO : Own w1.heap.size (w1.alloc (.cells #[] 5)) w2 := ⟨hg.os, hg.tape, hg.output, hg.size, fun k hk hn => hg.block k hk (fun e => hn (by cases e; rfl))⟩
  have hs : (w1.alloc (.cells #[] 5)).heap.size = w1.heap.size + 1 := by simp
  have h2 : Below w1.heap.size w1 w2 := ha.trans (hO.below (Nat.le_refl _) (by omega))
  have h3 : Below wr.heap.size wr w2 := hb.trans (h2.mono hb.size)
  have hh := h.later h3
  have hsz := hb.size
  refine ⟨hh.h, hh.a, hh.f, hh.o, hh.v, hh.gb, hh.gv0, hh.na, fun c hcc => ?_⟩
  cases hcc
  rw [Nat.zero_add] at hG
  refine ⟨(hc.later h2), Nat.le_trans h.o.size hge, by omega, fun k hk => ?_, hG.congr fun i _ => by unfold catF; rw [if_neg (by omega), Nat.sub_zero], h.f, hq, fun k hk => ?_⟩
  · have := (h.a.lt k hk).2; omega
  · have hk2 : k = w1.heap.size ∨ k = w1.heap.size + 1 := by
      rcases hob with e | e
      · left; rw [hk] at e; cases e; rfl
      · right; rw [hk] at e; cases e; rfl
    refine ⟨by omega, by omega, fun e => ?_⟩
    have := (h.a.lt k e).2; omega
def ptrOf : Option Nat → Value
  | none => .pointer none
  | some c => .pointer (some ⟨c, 0, none⟩)
end Go.Proofs.YtloajfbehejehaaDoor
