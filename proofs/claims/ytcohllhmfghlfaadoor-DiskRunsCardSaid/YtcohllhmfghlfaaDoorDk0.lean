/- A disk, in memory: its sectors, what waits, and what of memory is its own. -/
import Derived.Test.YtcohllhmfghlfaaDoorRws
import Derived.Test.YtcohllhmfghlfaaDoorStp
import Derived.Test.YtcohllhmfghlfaaDoorAs
namespace Go.Proofs.YtcohllhmfghlfaaDoor
set_option linter.unusedVariables false
set_option linter.unusedSimpArgs false
open Go.RowKit

/-- A disk, in plain numbers. -/
structure DS where
  n : Nat
  S : Nat → Nat → Nat
  c : Nat
  X : List Value
  nw : Nat
  A : Nat → Nat
  D : Nat → Nat → Nat
  ar : Nat
  dn : Bool
def updF (S : Nat → Nat → Nat) (i : Nat) (f : Nat → Nat) : Nat → Nat → Nat := fun j => if j = i then f else S j
/-- What a sector reads as, by the first m writes. -/
def curF (S : Nat → Nat → Nat) (A : Nat → Nat) (D : Nat → Nat → Nat) : Nat → Nat → Nat → Nat
  | 0, i => S i
  | m + 1, i => if A m = i then D m else curF S A D m i
/-- The sectors, the first m writes being settled. -/
def stF (S : Nat → Nat → Nat) (A : Nat → Nat) (D : Nat → Nat → Nat) (kp : Nat → Bool) : Nat → Nat → Nat → Nat
  | 0 => S
  | m + 1 => if kp m = true then updF (stF S A D kp m) (A m) (D m) else stF S A D kp m
def stepS (s : DS) : DS := { s with ar := s.ar - 1, dn := s.dn || decide (s.ar = 1) }
def putS (s : DS) (i : Nat) (f : Nat → Nat) : DS := { s with nw := s.nw + 1, A := fun j => if j = s.nw then i else s.A j, D := fun j => if j = s.nw then f else s.D j }
def setS (s : DS) (kp : Nat → Bool) : DS := { s with S := stF s.S s.A s.D kp s.nw, nw := 0 }
def wtC (a : Nat) (f : Nat → Nat) : List Value := .int .i64 (a : Nat) :: rowC 64 f
theorem wtC_len (a : Nat) (f : Nat → Nat) : (wtC a f).length = 65 := by unfold wtC; rw [List.length_cons, rowC_len]
theorem wtC_one (a : Nat) (f : Nat → Nat) : ∀ v ∈ wtC a f, v.oneCell' = true := fun v hv => by
  unfold wtC at hv
  rcases List.mem_cons.1 hv with rfl | h
  · rfl
  · exact rowC_one _ _ v h
def dkC (sb n c : Nat) (v : Value) (ar : Nat) (dn : Bool) : Array Value := #[.slice (some ⟨sb, 0, none⟩) n c, v, .int .i64 (ar : Nat), .bool dn]
structure DK (w : World) (B d sb : Nat) (v : Value) (s : DS) : Prop where
  me : Blk w d (dkC sb s.n s.c v s.ar s.dn) 64
  sf : Blk w sb ((rws s.n fun i => rowC 64 (s.S i)) ++ s.X).toArray 68
  wt : w.ownsRow B 70 65 v s.nw (rws s.nw fun j => wtC (s.A j) (s.D j))
  bd : B ≤ d
  bs : B ≤ sb
  ne : d ≠ sb
  nv : ∀ k, v.ownBlock = some k → k ≠ d ∧ k ≠ sb
  n0 : 1 ≤ s.n ∧ s.n ≤ 2048
  S8 : ∀ i, i < s.n → ∀ k, k < 64 → s.S i k < 256
  D8 : ∀ j, j < s.nw → s.A j < s.n ∧ ∀ k, k < 64 → s.D j k < 256
  ab : s.ar < 9223372036854775808
  nb : s.nw < 100000000
/-- Of what was there only the disk's own blocks may have changed. -/
structure Oth (d sb : Nat) (v : Value) (w w' : World) : Prop where
  os : w'.os = w.os
  tape : w'.tape = w.tape
  output : w'.output = w.output
  size : w.heap.size ≤ w'.heap.size
  block : ∀ k, k < w.heap.size → k ≠ d → k ≠ sb → v.ownBlock ≠ some k → w'.heap[k]? = w.heap[k]?
/-- The row of what waits is the one that was, or a new one. -/
def Nxt (w : World) (v v' : Value) : Prop := ∀ k, v'.ownBlock = some k → v.ownBlock = some k ∨ w.heap.size ≤ k
theorem Oth.refl (d sb : Nat) (v : Value) (w : World) : Oth d sb v w w := ⟨rfl, rfl, rfl, Nat.le_refl _, fun _ _ _ _ _ => rfl⟩
theorem Oth.of_below {d sb : Nat} {v : Value} {w w' : World} (h : Below w.heap.size w w') : Oth d sb v w w' := ⟨h.os, h.tape, h.output, h.size, fun k hk _ _ _ => h.block k hk⟩
theorem Oth.of_own {d sb b : Nat} {v : Value} {w w' : World} (h : Own b w w') (hb : b = d ∨ b = sb ∨ v.ownBlock = some b ∨ w.heap.size ≤ b) : Oth d sb v w w' := ⟨h.os, h.tape, h.output, h.size, fun k hk h1 h2 h3 => h.block k hk (fun e => by
  subst e
  rcases hb with e | e | e | e
  · exact h1 e
  · exact h2 e
  · exact h3 e
  · omega)⟩
theorem Nxt.refl (w : World) (v : Value) : Nxt w v v := fun _ h => .inl h
theorem Nxt.trans {w w1 : World} {v v1 v2 : Value} (h : Nxt w v v1) (k : Nxt w1 v1 v2) (hs : w.heap.size ≤ w1.heap.size) : Nxt w v v2 := fun b hb => by
  rcases k b hb with h1 | h1
  · exact h b h1
  · exact .inr (by omega)
theorem Oth.trans {d sb : Nat} {v v1 : Value} {w w1 w2 : World} (h : Oth d sb v w w1) (hn : Nxt w v v1) (k : Oth d sb v1 w1 w2) : Oth d sb v w w2 :=
  ⟨k.os.trans h.os, k.tape.trans h.tape, k.output.trans h.output, Nat.le_trans h.size k.size, fun b hb h1 h2 h3 => (k.block b (Nat.lt_of_lt_of_le hb h.size) h1 h2 (fun e => by
    rcases hn b e with e2 | e2
    · exact h3 e2
    · omega)).trans (h.block b hb h1 h2 h3)⟩
theorem Oth.below {d sb B : Nat} {v : Value} {w w' : World} (h : Oth d sb v w w') (hd : B ≤ d) (hs : B ≤ sb) (hv : ∀ k, v.ownBlock = some k → B ≤ k) (hw : B ≤ w.heap.size) : Below B w w' :=
  ⟨h.os, h.tape, h.output, h.size, fun k hk => h.block k (by omega) (by omega) (by omega) (fun e => by have := hv k e; omega)⟩
/-- What a step leaves. -/
structure Dn (w w' : World) (B d sb : Nat) (v v' : Value) (s' : DS) : Prop where
  dk : DK w' B d sb v' s'
  ot : Oth d sb v w w'
  nx : Nxt w v v'
theorem Dn.trans {w w1 w2 : World} {B d sb : Nat} {v v1 v2 : Value} {s1 s2 : DS} (h : Dn w w1 B d sb v v1 s1) (k : Dn w1 w2 B d sb v1 v2 s2) : Dn w w2 B d sb v v2 s2 := ⟨k.dk, h.ot.trans h.nx k.ot, h.nx.trans k.nx h.ot.size⟩
theorem DK.lt {w : World} {B d sb : Nat} {v : Value} {s : DS} (h : DK w B d sb v s) : d < w.heap.size ∧ sb < w.heap.size ∧ (∀ k, v.ownBlock = some k → B ≤ k ∧ k < w.heap.size) := ⟨Blk.lt h.me, Blk.lt h.sf, World.ownsRow.lt h.wt⟩
theorem Dn.below {w w' : World} {B d sb : Nat} {v v' : Value} {s s' : DS} (h : Dn w w' B d sb v v' s') (h0 : DK w B d sb v s) : Below B w w' := h.ot.below h0.bd h0.bs (fun k hk => (h0.lt.2.2 k hk).1) (by have := h0.lt.1; have := h0.bd; omega)
/-- New memory alone was made: the disk stays. -/
theorem DK.later {w w' : World} {B d sb : Nat} {v : Value} {s : DS} (h : DK w B d sb v s) (hb : Below w.heap.size w w') : DK w' B d sb v s :=
  ⟨Blk.below h.me hb (Blk.lt h.me), Blk.below h.sf hb (Blk.lt h.sf), owns_later h.wt hb, h.bd, h.bs, h.ne, h.nv, h.n0, h.S8, h.D8, h.ab, h.nb⟩
theorem Dn.refl {w : World} {B d sb : Nat} {v : Value} {s : DS} (h : DK w B d sb v s) : Dn w w B d sb v v s := ⟨h, Oth.refl _ _ _ _, Nxt.refl _ _⟩
theorem Dn.later {w w' : World} {B d sb : Nat} {v : Value} {s : DS} (h : DK w B d sb v s) (hb : Below w.heap.size w w') : Dn w w' B d sb v v s := ⟨h.later hb, Oth.of_below hb, Nxt.refl _ _⟩
theorem Oth.blk {d sb c : Nat} {v : Value} {w w' : World} {C : Array Value} {t : TypeId} (h : Oth d sb v w w') (hc : Blk w c C t) (h1 : c ≠ d) (h2 : c ≠ sb) (h3 : v.ownBlock ≠ some c) : Blk w' c C t := by
  have hlt := hc.lt
  unfold Blk at hc ⊢; rw [h.block c hlt h1 h2 h3]; exact hc
/-- Only the disk's struct has turned. -/
theorem DK.turn {w w' : World} {B d sb : Nat} {v v' : Value} {s s' : DS} (h : DK w B d sb v s) (hO : Own d w w') (hm : Blk w' d (dkC sb s'.n s'.c v' s'.ar s'.dn) 64) (hn : s'.n = s.n) (hS : s'.S = s.S)
    (hv : (v' = v ∧ s'.nw = s.nw ∧ s'.A = s.A ∧ s'.D = s.D) ∨ (v' = .slice none 0 0 ∧ s'.nw = 0)) (ha : s'.ar < 9223372036854775808) (hX : s'.X = s.X := by rfl) : Dn w w' B d sb v v' s' := by
  refine ⟨⟨hm, ?_, ?_, h.bd, h.bs, h.ne, ?_, by rw [hn]; exact h.n0, by rw [hn, hS]; exact h.S8, ?_, ha, ?_⟩, Oth.of_own hO (.inl rfl), ?_⟩
  · rw [hn, hS, hX]; exact hO.blk h.sf (Ne.symm h.ne)
  · rcases hv with ⟨rfl, h1, h2, h3⟩ | ⟨rfl, h1⟩
    · rw [h1, h2, h3]
      refine ⟨h.wt.1, ?_⟩
      rcases h.wt.2 with e | ⟨g, cap, cur, e, hb, hh, r⟩
      · exact .inl e
      · refine .inr ⟨g, cap, cur, e, hb, ?_, r⟩
        rw [hO.block g (lt_of_block hh) ((h.nv g (by rw [e]; rfl)).1)]; exact hh
    · rw [h1]; exact World.ownsRow_nil _ _ _ _
  · rcases hv with ⟨rfl, _⟩ | ⟨rfl, _⟩
    · exact h.nv
    · intro k hk; cases hk
  · rcases hv with ⟨rfl, h1, h2, h3⟩ | ⟨rfl, h1⟩
    · rw [h1, h2, h3, hn]; exact h.D8
    · rw [h1]; intro j hj; exact absurd hj (Nat.not_lt_zero _)
  · rcases hv with ⟨rfl, h1, _⟩ | ⟨rfl, h1⟩
    · rw [h1]; exact h.nb
    · rw [h1]; decide
  · rcases hv with ⟨rfl, _⟩ | ⟨rfl, _⟩
    · exact Nxt.refl _ _
    · intro k hk; cases hk
theorem DK.c0 {w : World} {B d sb : Nat} {v : Value} {s : DS} (h : DK w B d sb v s) : w.cell? ⟨d, 0, none⟩ = some (.slice (some ⟨sb, 0, none⟩) s.n s.c) ∧ w.cell? ⟨d, 1, none⟩ = some v ∧ w.cell? ⟨d, 2, none⟩ = some (.int .i64 (s.ar : Nat)) ∧ w.cell? ⟨d, 3, none⟩ = some (.bool s.dn) ∧ ∀ k, w.frozen? ⟨d, k, none⟩ = false :=
  ⟨by rw [Blk.cell h.me]; rfl, by rw [Blk.cell h.me]; rfl, by rw [Blk.cell h.me]; rfl, by rw [Blk.cell h.me]; rfl, Blk.free h.me⟩
end Go.Proofs.YtcohllhmfghlfaaDoor
