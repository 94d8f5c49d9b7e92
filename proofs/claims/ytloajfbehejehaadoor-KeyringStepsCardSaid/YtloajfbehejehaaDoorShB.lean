/- ShaPieces walked. -/
import Derived.Test.YtloajfbehejehaaDoorShA
namespace Go.Proofs.YtloajfbehejehaaDoor
set_option linter.unusedVariables false
set_option linter.unusedSimpArgs false
open Go.RowKit

theorem clone_b {w w1 w2 : World} (h : Below w.heap.size w w1) : w.heap.size ≤ w1.heap.size := h.size
theorem Bytes.none0 {w : World} (f : Nat → Nat) (oa : Option Addr) : Bytes w oa 0 f := fun k hk => absurd hk (Nat.not_lt_zero _)
theorem catF_lt {n m : Nat} {f g : Nat → Nat} (hf : ∀ i, i < n → f i < 256) (hg : ∀ i, i < m → g i < 256) : ∀ i, i < n + m → catF n f g i < 256 := fun i hi => by
  unfold catF
  by_cases e : i < n
  · rw [if_pos e]; exact hf i e
  · rw [if_neg e]; exact hg _ (by omega)
theorem hob_or {v : Value} {w : World} (h : v.ownBlock = (Value.slice (some ⟨w.heap.size, 0, none⟩) 0 0).ownBlock ∨ v.ownBlock = some (w.alloc (.cells #[] 5)).heap.size) : v.ownBlock = some w.heap.size ∨ v.ownBlock = some (w.heap.size + 1) := by
  rcases h with e | e
  · exact .inl e
  · exact .inr (by rw [e]; simp)
def moreF : Nat → Nat := fun i => if i = 0 then 109 else if i = 1 then 111 else if i = 2 then 114 else 101
theorem moreF_lt : ∀ i, i < 4 → moreF i < 256 := by decide
theorem more_bytes {w : World} : Bytes (w.alloc (.cells #[.int .u8 109, .int .u8 111, .int .u8 114, .int .u8 101] 5 (4, 5))) (some ⟨w.heap.size, 0, none⟩) 4 moreF := fun k hk => by
  rcases (by omega : k = 0 ∨ k = 1 ∨ k = 2 ∨ k = 3) with rfl | rfl | rfl | rfl
  · exact ⟨by decide, w.heap.size, 0, rfl, World.cell?_alloc_mark w #[.int .u8 109, .int .u8 111, .int .u8 114, .int .u8 101] 5 (4, 5) 0⟩
  · exact ⟨by decide, w.heap.size, 0, rfl, World.cell?_alloc_mark w #[.int .u8 109, .int .u8 111, .int .u8 114, .int .u8 101] 5 (4, 5) 1⟩
  · exact ⟨by decide, w.heap.size, 0, rfl, World.cell?_alloc_mark w #[.int .u8 109, .int .u8 111, .int .u8 114, .int .u8 101] 5 (4, 5) 2⟩
  · exact ⟨by decide, w.heap.size, 0, rfl, World.cell?_alloc_mark w #[.int .u8 109, .int .u8 111, .int .u8 114, .int .u8 101] 5 (4, 5) 3⟩
theorem conv_more (w : World) : (convert 33 33 (.slice (some ⟨w.heap.size, 0, none⟩) 4 4)).run Tryd.prog (w.alloc (.cells #[.int .u8 109, .int .u8 111, .int .u8 114, .int .u8 101] 5)) = .ok (.slice (some ⟨w.heap.size, 0, none⟩) 4 4) (w.alloc (.cells #[.int .u8 109, .int .u8 111, .int .u8 114, .int .u8 101] 5 (4, 5))) :=
  Joins.run_convert_bytes_const_at (P := Tryd.prog) w 33 5 #[.int .u8 109, .int .u8 111, .int .u8 114, .int .u8 101] 4 4 w.heap.size rfl Tryd.underlying33 Tryd.underlying5
theorem wpList_valueG {ops : Array Oper} {rest : List Oper} {o : Oper} {a : Act} {w : World} {Q : Exit → Act → World → Prop} {v : Value} (hw : Region.wanted o (yielded ops a.tmps) = true) (he : (execOp a.eval o).run Tryd.prog w = .ok (.value v) w)
    (hk : wpList Tryd.prog ops Q rest (a.put o.dst v) w) : wpList Tryd.prog ops Q (o :: rest) a w := by
  refine wpList_step fun K hK => ?_
  rw [if_pos hw]
  unfold Oper.wp
  rw [he]
  exact hK _ _ hk
/-- At the end: the clone has "more" behind it. -/
structure ZE (w0 : World) (g q : Nat) (F : Nat → Nat) (va : Value) (c B : Nat) (E EM : Nat → Nat) (vs : Value) (wr : World) : Prop where
  h : HS wr g q F
  a : Grow wr w0.heap.size va q F
  f : ∀ i, i < q → F i < 256
  o : Below w0.heap.size w0 wr
  v : GV wr
  gb : w0.heap.size ≤ g
  gv0 : 1 < w0.heap.size ∧ 2 < w0.heap.size
  na : ∀ k, va.ownBlock = some k → k ≠ g
  c : HS wr c (B + 4) EM
  s : Grow wr w0.heap.size vs B E
  se : ∀ i, i < B → E i < 256
  sB : B ≤ 3600
  n : ∀ k, vs.ownBlock = some k → k ≠ g ∧ va.ownBlock ≠ some k
theorem ZE.later {w0 : World} {g q c B : Nat} {F E EM : Nat → Nat} {va vs : Value} {wr w' : World} (h : ZE w0 g q F va c B E EM vs wr) (hb : Below wr.heap.size wr w') : ZE w0 g q F va c B E EM vs w' :=
  ⟨h.h.later hb, h.a.later hb, h.f, h.o.trans (hb.mono h.o.size), h.v.later hb, h.gb, h.gv0, h.na, h.c.later hb, h.s.later hb, h.se, h.sB, h.n⟩
theorem ZS.ended {w0 : World} {g q c B : Nat} {F E EM : Nat → Nat} {va vs : Value} {wr w' : World} (h : ZS w0 g q F q F va (some c) B E vs wr) (hO : Own c wr w') (hS : HS w' c (B + 4) EM) : ZE w0 g q F va c B E EM vs w' := by
  obtain ⟨c1, c2, c3, c4, c5, c6, c7, c8⟩ := h.c c rfl
  exact ⟨h.h.own hO (fun e => c3 e.symm), h.a.ownN hO c4, h.f, h.o.trans (hO.below c2 h.o.size), h.v.own hO c1.1.1 c1.1.2, h.gb, h.gv0, h.na, hS, c5.ownN hO (fun k hk => (c8 k hk).2.1), c6, c7, fun k hk => ⟨(c8 k hk).1, (c8 k hk).2.2⟩⟩
structure ZF (w0 : World) (g q : Nat) (F : Nat → Nat) (va : Value) (wr : World) : Prop where
  h : HS wr g q F
  a : Grow wr w0.heap.size va q F
  f : ∀ i, i < q → F i < 256
  o : Below w0.heap.size w0 wr
  v : GV wr
theorem ZF.later {w0 : World} {g q : Nat} {F : Nat → Nat} {va : Value} {wr w' : World} (h : ZF w0 g q F va wr) (hb : Below wr.heap.size wr w') : ZF w0 g q F va w' :=
  ⟨h.h.later hb, h.a.later hb, h.f, h.o.trans (hb.mono h.o.size), h.v.later hb⟩
theorem ZE.grew {w0 : World} {g q c B : Nat} {F E EM : Nat → Nat} {va vs : Value} {wr w' : World} (h : ZE w0 g q F va c B E EM vs wr) (hg : wr.grownBy w' vs.ownBlock) : ZF w0 g q F va w' := by
  have hO := own_of_grown hg
  have hn : ∀ x, x < wr.heap.size → (∀ k, vs.ownBlock = some k → k ≠ x) → x ≠ vs.ownBlock.getD wr.heap.size := fun x hx hk => by
    cases e : vs.ownBlock with
    | none => simp; omega
    | some b => simp; exact fun e2 => hk b e e2.symm
  have hge : w0.heap.size ≤ vs.ownBlock.getD wr.heap.size := by
    cases e : vs.ownBlock with
    | none => simp; exact h.o.size
    | some b => simp; exact (h.s.lt b e).1
  refine ⟨h.h.own hO (hn g h.h.lt fun k hk => (h.n k hk).1), h.a.ownN hO fun k hk => hn k (h.a.lt k hk).2 (fun k' hk' e => (h.n k' hk').2 (by rw [hk, e])), h.f, h.o.trans (hO.below hge h.o.size), ?_⟩
  exact h.v.own hO (by have := h.gv0; omega) (by have := h.gv0; omega)
end Go.Proofs.YtloajfbehejehaaDoor
