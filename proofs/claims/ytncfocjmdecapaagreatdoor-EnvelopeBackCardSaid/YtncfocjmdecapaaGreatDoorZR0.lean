/- A block, mixed in as the document does it. The document's sum of any bytes. The document's sum with a key. Bytes out of a key: in plain mathematics, and as the program makes them. The bytes of a string in a new row; append onto them. A key for a use; a key out of anything; as the program makes them. An error's number as the statements ask it: 0 of nil, its own of an api.Errno; new memory alone is made. ShaPieces walked. What must come of keys out of keys whatever the input is. A sum with a key of some parts. The document's sum with a key of some parts. HkdfMore walked. HkdfKeys walked. -/
import Derived.Laws.IdiomStrings
import Derived.Laws.IdiomCopy
import Derived.Deep.MidRow
import Derived.Lib.BufferRead
import Derived.Test.YtncfocjmdecapaaGreatDoorZB0
import Derived.Test.YtncfocjmdecapaaGreatDoorZS1
import Derived.Test.YtncfocjmdecapaaGreatDoorZS2
import Derived.Test.YtncfocjmdecapaaGreatDoorZSh4
import Derived.Test.YtncfocjmdecapaaGreatDoorZA0
import Derived.Test.YtncfocjmdecapaaGreatDoorZS5
import Derived.Test.YtncfocjmdecapaaGreatDoorZSh7
import Derived.Test.YtncfocjmdecapaaGreatDoorZS8
import Derived.Test.YtncfocjmdecapaaGreatDoorZHm1
import Derived.Test.YtncfocjmdecapaaGreatDoorZHm2
import Derived.Test.YtncfocjmdecapaaGreatDoorZHm3
import Derived.Test.YtncfocjmdecapaaGreatDoorZAs
namespace Go.Proofs.YtncfocjmdecapaaGreatDoor
set_option linter.unusedVariables false
set_option linter.unusedSimpArgs false
open Go.RowKit
/-- While the document's words are made. -/
structure RO (w0 : World) (H W : Nat → Nat) (wr : World) : Prop where
  h : WB 149 8 w0.heap.size H wr
  r : WB 149 8 (w0.heap.size + 1) (fun _ => 0) wr
  k : WB 168 64 (w0.heap.size + 1 + 1) kN wr
  y : WB 168 64 (w0.heap.size + 1 + 1 + 1) W wr
  o : Below w0.heap.size w0 wr
theorem RO.below {w0 : World} {H W : Nat → Nat} {wr w' : World} (h : RO w0 H W wr) (hb : Below wr.heap.size wr w') : RO w0 H W w' :=
  ⟨Blk.below h.h hb (Blk.lt h.h), Blk.below h.r hb (Blk.lt h.r), Blk.below h.k hb (Blk.lt h.k), Blk.below h.y hb (Blk.lt h.y), h.o.trans (hb.mono h.o.size)⟩
theorem RO.drew {w0 : World} {H W : Nat → Nat} {wr : World} (h : RO w0 H W wr) : RO w0 H W wr.drew := h.below (Below.refl _ wr).drew
theorem RO.congr {w0 : World} {H W W' : Nat → Nat} {wr : World} (h : RO w0 H W wr) (he : ∀ i, i < 64 → W i = W' i) : RO w0 H W' wr := ⟨h.h, h.r, h.k, h.y.congr he, h.o⟩
theorem RO.set {w0 : World} {H : Nat → Nat} {b : Nat → Nat} {n x : Nat} {wr : World} (h : RO w0 H (fun t => if t < n then spK b 64 t else 0) wr) (hx : spK b 64 n = x) : RO w0 H (fun t => if t < n + 1 then spK b 64 t else 0) (wr.setCell ⟨w0.heap.size + 1 + 1 + 1, n, none⟩ (.int .u32 (x : Nat))) := by
  refine ⟨Blk.set_other h.h (by simp; omega) _, Blk.set_other h.r (by first | (simp; done) | (simp; omega)) _, Blk.set_other h.k (by simp) _, (h.y.set n x).congr fun j _ => ?_, h.o.setCell (by simp; omega) _⟩
  unfold upd
  by_cases e : j = n
  · rw [if_pos e, e, if_pos (by omega), hx]
  · rw [if_neg e]
    show (if j < n then spK b 64 j else 0) = if j < n + 1 then spK b 64 j else 0
    by_cases h5 : j < n
    · rw [if_pos h5, if_pos (by omega)]
    · rw [if_neg h5, if_neg (by omega)]
theorem RO.word {w0 : World} {H b : Nat → Nat} {n i x : Nat} {wr : World} (h : RO w0 H (fun t => if t < n then spK b 64 t else 0) wr) (hi : i < n) (hn : n ≤ 64) (hx : spK b 64 i = x) : wr.cell? ⟨w0.heap.size + 1 + 1 + 1, i, none⟩ = some (.int .u32 (x : Nat)) :=
  h.y.val (by omega) (by rw [← hx]; exact if_pos hi)
theorem RO.none {w0 : World} {H b : Nat → Nat} {n : Nat} {wr : World} (h : RO w0 H (fun t => if t < n then spK b 64 t else 0) wr) (hn : n < 64) : wr.cell? ⟨w0.heap.size + 1 + 1 + 1, n, none⟩ = some (.int .u32 0) :=
  h.y.val hn (if_neg (Nat.lt_irrefl _))
end Go.Proofs.YtncfocjmdecapaaGreatDoor
namespace Go.Proofs.YtncfocjmdecapaaGreatDoor
set_option linter.unusedVariables false
set_option linter.unusedSimpArgs false
open Go.RowKit
theorem grow_bel {w w' : World} {base n : Nat} {v : Value} {f : Nat → Nat} (hG : Grow w base v n f) (hs : base ≤ w.heap.size) (hg : w.grownBy w' v.ownBlock) : Below base w w' := by
  refine (own_of_grown hg).below ?_ hs
  cases e : v.ownBlock with
  | none => simp; exact hs
  | some b => simp; exact (hG.lt b e).1
theorem WB.range {t : TypeId} {n g : Nat} {f : Nat → Nat} {w : World} (h : WB t n g f w) : w.rangeAt g 0 (rowW n f) := fun j v hv => by
  rw [Nat.zero_add, Blk.cell h j]; simpa using hv
/-- While what is summed is laid. -/
structure RM (w0 : World) (q : Nat) (f : Nat → Nat) (v : Value) (wr : World) : Prop where
  r : RB 22 32 w0.heap.size (fun _ => 0) wr
  m : Grow wr (w0.heap.size + 1) v q f
  o : Below w0.heap.size w0 wr
  s : w0.heap.size + 1 ≤ wr.heap.size
theorem RM.later {w0 wr w' : World} {q : Nat} {f : Nat → Nat} {v : Value} (h : RM w0 q f v wr) (hb : Below wr.heap.size wr w') : RM w0 q f v w' :=
  ⟨Blk.below h.r hb (Blk.lt h.r), h.m.later hb, h.o.trans (hb.mono h.o.size), Nat.le_trans h.s hb.size⟩
theorem RM.grew {w0 wr w' : World} {q q' : Nat} {f f' : Nat → Nat} {v v' : Value} (h : RM w0 q f v wr) (hg : wr.grownBy w' v.ownBlock) (hG : Grow w' (w0.heap.size + 1) v' q' f') : RM w0 q' f' v' w' :=
  have hb := grow_bel h.m h.s hg
  ⟨Blk.below h.r hb (Nat.lt_succ_self _), hG, h.o.trans (hb.mono (Nat.le_succ _)), Nat.le_trans h.s hg.size⟩
theorem RM.congr {w0 wr : World} {q : Nat} {f f' : Nat → Nat} {v : Value} (h : RM w0 q f v wr) (he : ∀ i, i < q → f i = f' i) : RM w0 q f' v wr := ⟨h.r, h.m.congr he, h.o, h.s⟩
/-- While blocks are mixed in. -/
structure RH (w0 : World) (gh mb mo N : Nat) (Pd V : Nat → Nat) (wr : World) : Prop where
  r : RB 22 32 w0.heap.size (fun _ => 0) wr
  m : Bytes wr (some ⟨mb, mo, none⟩) N Pd
  h : WB 149 8 gh V wr
  o : Below w0.heap.size w0 wr
  s : w0.heap.size < gh
  n : mb ≠ gh
theorem RH.later {w0 wr w' : World} {gh mb mo N : Nat} {Pd V : Nat → Nat} (h : RH w0 gh mb mo N Pd V wr) (hb : Below wr.heap.size wr w') : RH w0 gh mb mo N Pd V w' :=
  ⟨Blk.below h.r hb (Blk.lt h.r), h.m.later hb, Blk.below h.h hb (Blk.lt h.h), h.o.trans (hb.mono h.o.size), h.s, h.n⟩
theorem RH.turned {w0 wr : World} {gh mb mo N : Nat} {Pd V : Nat → Nat} (h : RH w0 gh mb mo N Pd V wr) (V' : Nat → Nat) {C : Array Value} (hC : (rowW 8 V').toArray = C) : RH w0 gh mb mo N Pd V' (wr.setCells gh 0 C.toList) := by
  subst hC
  have hO : Own gh wr (wr.setCells gh 0 (rowW 8 V').toArray.toList) := Own.setCells _ _ _
  refine ⟨hO.blk h.r (Nat.ne_of_lt h.s), fun k hk => ?_, Blk.setCells h.h (rowW 8 V') (by rw [rowW_size, rowW_len]), h.o.trans (hO.below (Nat.le_of_lt h.s) h.o.size), h.s, h.n⟩
  obtain ⟨a1, b, off, a2, a3⟩ := h.m k hk
  cases a2
  exact ⟨a1, mb, mo, rfl, hO.cell a3 h.n⟩
/-- While the bytes of the sum are laid. -/
structure SE (w0 : World) (gh g1 : Nat) (V D : Nat → Nat) (wr : World) : Prop where
  r : RB 22 32 w0.heap.size (fun _ => 0) wr
  h : WB 149 8 gh V wr
  s : RB 22 32 g1 D wr
  o : Below w0.heap.size w0 wr
  n : gh ≠ g1 ∧ w0.heap.size < g1
theorem SE.set {w0 wr : World} {gh g1 : Nat} {V D : Nat → Nat} (h : SE w0 gh g1 V D wr) (k x : Nat) : SE w0 gh g1 V (upd D k x) (wr.setCell ⟨g1, k, none⟩ (.int .u8 (x : Nat))) :=
  ⟨Blk.set_other h.r (Nat.ne_of_lt h.n.2) _, Blk.set_other h.h h.n.1 _, h.s.set k x, h.o.setCell (Nat.le_of_lt h.n.2) _, h.n⟩
theorem SE.congr {w0 wr : World} {gh g1 : Nat} {V D E : Nat → Nat} (h : SE w0 gh g1 V D wr) (he : ∀ i, i < 32 → D i = E i) : SE w0 gh g1 V E wr := ⟨h.r, h.h, h.s.congr he, h.o, h.n⟩
end Go.Proofs.YtncfocjmdecapaaGreatDoor
namespace Go.Proofs.YtncfocjmdecapaaGreatDoor
set_option linter.unusedVariables false
set_option linter.unusedSimpArgs false
open Go.RowKit
theorem wpList_mk {ops : Array Oper} {rest : List Oper} {o : Oper} {a : Act} {w : World} {Q : Exit → Act → World → Prop} (hgd : o.guard = none) (x y : Operand) (ho : o.op = .makeSlice 24 x y) (n : Nat) (hx : a.eval x = .int .i64 (n : Int)) (hy : a.eval y = .int .i64 (n : Int)) (hn : n < 1000000000000)
    (h : wpList Tryz.prog ops Q rest (a.put o.dst (.slice (some ⟨w.heap.size, 0, none⟩) n n)) (w.alloc (.cells (rowC n (fun _ => 0)).toArray 5))) : wpList Tryz.prog ops Q (o :: rest) a w := by
  refine wpList_plain hgd fun K hK => ?_
  have hrun := make_zeros n hn w
  unfold Oper.wp
  simp [execOp, ho, hx, hy, hrun, Result.andThen]
  exact hK _ _ h
/-- The key's bytes, and the two rows that grow. -/
structure MA (w0 : World) (i : Nat) (W : Nat → Nat) (va vb : Value) (wr : World) : Prop where
  r : RB 22 32 w0.heap.size (fun _ => 0) wr
  k : RB 5 64 (w0.heap.size + 1) W wr
  a : Grow wr (w0.heap.size + 2) va i (xoK W 54)
  o : Below w0.heap.size w0 wr
  s : w0.heap.size + 2 ≤ wr.heap.size
structure MB (w0 : World) (i j : Nat) (W : Nat → Nat) (va vb : Value) (wr : World) : Prop where
  m : MA w0 i W va vb wr
  b : Grow wr (w0.heap.size + 2) vb j (xoK W 92)
  n : ∀ k, va.ownBlock = some k → vb.ownBlock ≠ some k
theorem MB.later {w0 wr w' : World} {i j : Nat} {W : Nat → Nat} {va vb : Value} (h : MB w0 i j W va vb wr) (hb : Below wr.heap.size wr w') : MB w0 i j W va vb w' :=
  ⟨⟨Blk.below h.m.r hb (Blk.lt h.m.r), Blk.below h.m.k hb (Blk.lt h.m.k), h.m.a.later hb, h.m.o.trans (hb.mono h.m.o.size), Nat.le_trans h.m.s hb.size⟩, h.b.later hb, h.n⟩
theorem own_ge {wr : World} {base n : Nat} {v : Value} {f : Nat → Nat} (h : Grow wr base v n f) (hs : base ≤ wr.heap.size) : base ≤ v.ownBlock.getD wr.heap.size := by
  cases e : v.ownBlock with
  | none => simp; exact hs
  | some b => simp; exact (h.lt b e).1
theorem ne_own {wr : World} {v : Value} {x : Nat} (hx : x < wr.heap.size) (hk : v.ownBlock ≠ some x) : x ≠ v.ownBlock.getD wr.heap.size := by
  cases e : v.ownBlock with
  | none => simp; omega
  | some b => simp; intro e2; exact hk (by rw [e, e2])
end Go.Proofs.YtncfocjmdecapaaGreatDoor
namespace Go.Proofs.YtncfocjmdecapaaGreatDoor
set_option linter.unusedVariables false
set_option linter.unusedSimpArgs false
open Go.RowKit
/-- How many bytes the sum ahead has; what is summed. -/
def exL (i : Nat) : Nat := if i = 0 then 0 else 32
def exM (l p : Nat) (T I : Nat → Nat) (c : Nat) : Nat → Nat := catF (0 + l + p) (catF (0 + l) (catF 0 (fun _ => 0) T) I) (fun _ => c)
/-- The sums, one by one. -/
def exT (n : Nat) (K : Nat → Nat) (p : Nat) (I : Nat → Nat) : Nat → Nat → Nat
  | 0 => fun _ => 0
  | i + 1 => hmN n K (0 + exL i + p + 1) (exM (exL i) p (exT n K p I i) I (i + 1))
/-- All bytes, one behind the other. -/
def exF (n : Nat) (K : Nat → Nat) (p : Nat) (I : Nat → Nat) : Nat → Nat := fun j => exT n K p I (j / 32 + 1) (j % 32)
theorem exL_pos {i : Nat} (h : 0 < i) : exL i = 32 := if_neg (by omega)
theorem exL_le (i : Nat) : exL i ≤ 32 := by unfold exL; split <;> omega
theorem hmN_lt (n : Nat) (K : Nat → Nat) (m : Nat) (G : Nat → Nat) (j : Nat) : hmN n K m G j < 256 := shaN_lt _ _ _
theorem exT_lt (n : Nat) (K : Nat → Nat) (p : Nat) (I : Nat → Nat) : ∀ i j, exT n K p I i j < 256
  | 0, _ => by show 0 < 256; decide
  | i + 1, j => hmN_lt _ _ _ _ j
theorem exF_lt (n : Nat) (K : Nat → Nat) (p : Nat) (I : Nat → Nat) (j : Nat) : exF n K p I j < 256 := exT_lt _ _ _ _ _ _
theorem exF_step (n : Nat) (K : Nat → Nat) (p : Nat) (I : Nat → Nat) (t : Nat) : ∀ j, j < 32 * t + 32 → catF (32 * t) (exF n K p I) (exT n K p I (t + 1)) j = exF n K p I j :=
  catF_self fun i hi => by
    unfold exF
    rw [show (32 * t + i) / 32 = t by omega, show (32 * t + i) % 32 = i by omega]
theorem Bytes.own {w w' : World} {oa : Option Addr} {n b : Nat} {f : Nat → Nat} (h : Bytes w oa n f) (hO : Own b w w') (hn : ∀ a, oa = some a → 0 < n → a.block ≠ b) : Bytes w' oa n f := fun k hk => by
  obtain ⟨h1, c, off, h2, h3⟩ := h k hk
  exact ⟨h1, c, off, h2, hO.cell h3 (show c ≠ b from hn ⟨c, off, none⟩ h2 (by omega))⟩
/-- While the bytes grow. -/
structure ES (w0 : World) (t : Nat) (T : Nat → Nat → Nat) (E : Nat → Nat) (vo : Value) (ol : Option Addr) (cl : Nat) (wr : World) : Prop where
  g : Grow wr w0.heap.size vo (32 * t) E
  b : Bytes wr ol (exL t) (T t)
  c : exL t ≤ cl ∧ (ol = none → exL t = 0)
  n : ∀ a, ol = some a → 0 < exL t → vo.ownBlock ≠ some a.block
  o : Below w0.heap.size w0 wr
theorem ES.later {w0 wr w' : World} {t : Nat} {T : Nat → Nat → Nat} {E : Nat → Nat} {vo : Value} {ol : Option Addr} {cl : Nat} (h : ES w0 t T E vo ol cl wr) (hb : Below wr.heap.size wr w') : ES w0 t T E vo ol cl w' :=
  ⟨h.g.later hb, h.b.later hb, h.c, h.n, h.o.trans (hb.mono h.o.size)⟩
theorem ES.start (w0 : World) (T : Nat → Nat → Nat) (E : Nat → Nat) (wr : World) (hb : Below w0.heap.size w0 wr) : ES w0 0 T E (.slice none 0 0) none 0 wr :=
  ⟨Grow.nil _ _ _, fun k hk => absurd hk (Nat.not_lt_zero _), ⟨Nat.le_refl _, fun _ => rfl⟩, fun a ha => (by cases ha), hb⟩
/-- The next sum lies in g1; the bytes grow by it. -/
theorem ES.next {w0 wr w' : World} {t g1 cl : Nat} {T : Nat → Nat → Nat} {E : Nat → Nat} {vo vo' : Value} {ol : Option Addr} (h : ES w0 t T E vo ol cl wr) (h1 : Bytes wr (some ⟨g1, 0, none⟩) 32 (T (t + 1))) (hn : vo.ownBlock ≠ some g1)
    (hg : wr.grownBy w' vo.ownBlock) (hG : Grow w' w0.heap.size vo' (32 * t + 32) (catF (32 * t) E (T (t + 1)))) (hob : vo'.ownBlock = vo.ownBlock ∨ vo'.ownBlock = some wr.heap.size) (hE : ∀ j, j < 32 * t + 32 → catF (32 * t) E (T (t + 1)) j = E j) : ES w0 (t + 1) T E vo' (some ⟨g1, 0, none⟩) 32 w' := by
  have hO := own_of_grown hg
  have hl : g1 < wr.heap.size := h1.lt _ rfl (by decide)
  refine ⟨hG.congr hE, ?_, ⟨exL_le _, fun e => by cases e⟩, fun a ha _ => ?_, h.o.trans (hO.below (own_ge h.g h.o.size) h.o.size)⟩
  · rw [exL_pos (by omega)]
    exact h1.own hO fun a ha _ => by cases ha; exact ne_own hl hn
  · cases ha
    rcases hob with e | e
    · rw [e]; exact hn
    · rw [e]; intro e2; have e3 := Option.some.inj e2; simp only at e3; omega
/-- A sum with a key, begun in new memory. -/
structure EK (w0 : World) (k gi go : Nat) (W : Nat → Nat) (m : Nat) (G : Nat → Nat) (wr : World) : Prop where
  h : KH wr k gi go W m G
  o : Below w0.heap.size w0 wr
  v : GV wr
  b : w0.heap.size < gi
theorem EK.wrote {w0 wr w' : World} {k gi go m m' : Nat} {W G G' : Nat → Nat} (h : EK w0 k gi go W m G wr) (hK : KH w' k gi go W m' G') (hO : Own gi wr w') : EK w0 k gi go W m' G' w' :=
  ⟨hK, h.o.trans (hO.below (by have := h.b; omega) h.o.size), h.v.own hO h.h.hi.1.1 h.h.hi.1.2, h.b⟩
theorem EK.later {w0 wr w' : World} {k gi go m : Nat} {W G : Nat → Nat} (h : EK w0 k gi go W m G wr) (hb : Below wr.heap.size wr w') : EK w0 k gi go W m G w' :=
  ⟨h.h.later hb, h.o.trans (hb.mono h.o.size), h.v.later hb, h.b⟩
set_option maxRecDepth 100000 in
set_option maxHeartbeats 8000000 in
theorem expand_any (oa oi : Option Addr) (n cn p ci : Nat) (K I : Nat → Nat) (z : Nat) (w : World) (hb : Bytes w oa n K) (hnc : n ≤ cn) (hno : oa = none → n = 0) (hn : n < 800000000000) (hb2 : Bytes w oi p I) (hpc : p ≤ ci) (hp : p < 700000000000) (hz : z ≤ 8160) (hg : GV w) :
    Calls Tryz.prog 40 #[.slice oa n cn, .slice oi p ci, .int .i64 (z : Int)] w fun e w' => ∃ o, e = .returned (.tuple #[.slice o z z, .nilIface]) ∧ Bytes w' o z (exF n K p I) ∧ (o = none → z = 0) ∧ Below w.heap.size w w' := by
  have hz32 := zero32_run
  have HKB : Hid (∀ w', Below w.heap.size w w' → Bytes w' oa n K) := Lib.hid fun w' h => hb.later h
  have HIB : Hid (∀ w', Below w.heap.size w w' → Bytes w' oi p I) := Lib.hid fun w' h => hb2.later h
  have HIL : Hid (∀ a, oi = some a → 0 < p → a.block < w.heap.size) := Lib.hid hb2.lt
  have HNC : Hid (n ≤ cn ∧ p ≤ ci ∧ n < 800000000000 ∧ p < 700000000000 ∧ z ≤ 8160) := Lib.hid ⟨hnc, hpc, hn, hp, hz⟩
  have HNO := Lib.hid hno
  have HG := Lib.hid hg
  obtain ⟨W, hW⟩ : ∃ D, whK n K = D := ⟨_, rfl⟩
  obtain ⟨T, hT⟩ : ∃ D, exT n K p I = D := ⟨_, rfl⟩
  obtain ⟨E, hE⟩ : ∃ D, exF n K p I = D := ⟨_, rfl⟩
  have HWW := Lib.hid hW
  have HTT : Hid (∀ t, hmK W (0 + exL t + p + 1) (exM (exL t) p (T t) I (t + 1)) = T (t + 1)) := Lib.hid fun t => by rw [← hT, ← hW]; rfl
  have HTL : Hid (∀ t j, T t j < 256) := Lib.hid fun t j => by rw [← hT]; exact exT_lt _ _ _ _ _ _
  have HEL : Hid (∀ j, E j < 256) := Lib.hid fun j => by rw [← hE]; exact exF_lt _ _ _ _ _
  have HES : Hid (∀ t j, j < 32 * t + 32 → catF (32 * t) E (T (t + 1)) j = E j) := Lib.hid fun t => by rw [← hE, ← hT]; exact exF_step n K p I t
  have z0 : ¬ (z : Int) < 0 := by omega
  have z1 : ¬ (8160 : Int) < (z : Int) := by omega
  have H0 := Lib.hid (ES.start w T E w (Below.refl _ _))
  rw [hE]
  clear hb hnc hno hn hb2 hpc hp hz hg hW hT hE
  go_enter Tryz.func40, Tryz.ntmps40
  go_wp2_with fail
  go_loopw [8, 9, 10] (fun x y v wr => ∃ (t c : Nat) (vo : Value) (ol : Option Addr) (cl : Nat), t ≤ 255 ∧ c = (t + 1) % 256 ∧ v = .int .u8 (c : Int) ∧ vo = x ∧ y = .slice ol (exL t) cl ∧ ES w t T E vo ol cl wr) (fun x _ _ _ => 8192 - lenV x)
  case atStart => exact ⟨0, 1, _, none, 0, by decide, rfl, rfl, rfl, rfl, H0.out⟩
  case round =>
    clear H0
    obtain ⟨t, c, vo, ol, cl, ht, hc, rfl, rfl, rfl, hX⟩ := hrel
    obtain ⟨oo, co, hvo, hBo, hco, hno⟩ := hX.g.bytesC (fun i _ => HEL.out i)
    subst hvo
    have HX := Lib.hid hX
    have HBO := Lib.hid hBo
    have HCO : Hid (32 * t ≤ co ∧ (oo = none → 32 * t = 0)) := Lib.hid ⟨hco, hno⟩
    obtain ⟨q, hq⟩ : ∃ q, 32 * t = q := ⟨_, rfl⟩
    have HQ := Lib.hid hq
    clear hX hBo hco hno
    rw [hq] at HX HBO HCO ⊢
    by_cases hlt : q < z
    · as_aux_lemma =>
      have q1 : (q : Int) < (z : Int) := by omega
      have HT : Hid (t < 255 ∧ c = t + 1 ∧ 32 * t < z) := Lib.hid (by have := HNC.out; omega)
      obtain ⟨c2, hc2⟩ : ∃ x, (t + 2) % 256 = x := ⟨_, rfl⟩
      have w1 : IntKind.u8.wrap ((c : Int) + 1) = (c2 : Int) := by have := HT.out; simp [IntKind.wrap, IntKind.bits, IntKind.signed]; omega
      have w2 : ((c : Int) + 1) % 256 = (c2 : Int) := by have := HT.out; omega
      have HC2 := Lib.hid hc2
      clear hlt ht hc hc2 hq
      go_wp2_with fail
      clear q1
      refine (hmnew_any oa n cn K _ (HKB.out _ HX.out.o) HNC.out.1 HNC.out.2.2.1 HNO.out (HG.out.later HX.out.o)).mono ?_
      rintro e w1 ⟨k, gi, go, rfl, hK, hb1, hk1, hk2, hk3⟩
      have H1 : Hid (EK wr k gi go W 0 (fun _ => 0) w1) := Lib.hid ⟨HWW.out ▸ hK _, hb1, HG.out.later (HX.out.o.trans (hb1.mono HX.out.o.size)), hk2⟩
      clear hK hb1 hk1 hk2 hk3
      go_wp2_with fail
      refine (kwrite_any k gi go 0 (exL t) cl ol W _ (T t) _ H1.out.h (HX.out.b.later H1.out.o) HX.out.c.1 (fun a ha hl => by have := HX.out.b.lt a ha hl; have := H1.out.b; omega) (by have := exL_le t; omega) H1.out.v).mono ?_
      rintro e w2 ⟨rfl, hK, hO⟩
      have H2 := Lib.hid (H1.out.wrote hK hO)
      clear hK hO H1
      go_wp2_with fail
      refine (kwrite_any k gi go (0 + exL t) p ci oi W _ I _ H2.out.h (HIB.out _ (HX.out.o.trans (H2.out.o.mono HX.out.o.size))) HNC.out.2.1 (fun a ha hl => by have := HIL.out a ha hl; have := H2.out.b; have := HX.out.o.size; omega) (by have := exL_le t; have := HNC.out; omega) H2.out.v).mono ?_
      rintro e w3 ⟨rfl, hK, hO⟩
      have H3 := Lib.hid (H2.out.wrote hK hO)
      clear hK hO H2
      go_wp2_with fail
      have H4 := Lib.hid (H3.out.later ((Below.refl _ _).alloc (Nat.le_refl _) (.cells #[.int .u8 (c : Nat)] 5)))
      refine (kwrite_any k gi go (0 + exL t + p) 1 1 (some ⟨w3.heap.size, 0, none⟩) W _ (fun _ => c) _ H4.out.h (one_byte (by have := HT.out; omega)) (Nat.le_refl _) (fun a ha hl => by cases ha; have := H3.out.h.hi.lt; show w3.heap.size ≠ gi; omega) (by have := exL_le t; have := HNC.out; omega) H4.out.v).mono ?_
      rintro e w5 ⟨rfl, hK, hO⟩
      have H5 := Lib.hid (H4.out.wrote hK hO)
      clear hK hO H4 H3
      go_wp2_with fail
      refine (ksum_any k gi go _ W _ _ H5.out.h (by have := exL_le t; have := HNC.out; omega) H5.out.v).mono ?_
      rintro e w6 ⟨rfl, hb6⟩
      have hD : hmK W (0 + exL t + p + 1) (catF (0 + exL t + p) (catF (0 + exL t) (catF 0 (fun _ => 0) (T t)) I) (fun _ => c)) = T (t + 1) := by rw [HT.out.2.1]; exact HTT.out t
      rw [hD]
      obtain ⟨CD, hCD⟩ : ∃ C, (rowC 32 (T (t + 1))).toArray = C := ⟨_, rfl⟩
      have HI : Hid ((Tryz.prog.info? 22).map (·.size) = some CD.size) := Lib.hid (hCD ▸ info27 _)
      have HI1 : Hid (CD.all (·.oneCell') = true) := Lib.hid (hCD ▸ one32 _)
      obtain ⟨g1, hg1⟩ : ∃ g, w6.heap.size = g := ⟨_, rfl⟩
      obtain ⟨wc, hwc⟩ : ∃ q, w6.alloc (.cells zero32 22) = q := ⟨_, rfl⟩
      obtain ⟨w8, hw8⟩ : ∃ q, wc.setCells g1 0 CD.toList = q := ⟨_, rfl⟩
      have hl := lay32 w6 (T (t + 1)) hCD
      rw [hg1, hwc, hw8] at hl
      have HTH := Lib.hid hl.2.2
      have H8 : Hid (ES w t T E (.slice oo q co) ol cl w8 ∧ Bytes w8 (some ⟨g1, 0, none⟩) 32 (T (t + 1)) ∧ (Value.slice oo q co).ownBlock ≠ some g1) := Lib.hid (by
        have h6 := H5.out.o.trans (hb6.mono H5.out.o.size)
        have h8 := h6.trans (hl.2.1.mono (by rw [← hg1]; exact h6.size))
        refine ⟨HX.out.later h8, RB.bytes hl.1 fun i _ => HTL.out _ i, fun e => ?_⟩
        have h9 := (HX.out.g.lt g1 e).2
        have := h6.size
        omega)
      rw [hCD]
      clear hl hb6 hD hCD H5 HX HBO
      go_wp2_with (first
        | (refine wpList_store_mid rfl 22 (.tmp 12) (.tmp 39) rfl g1 0 CD rfl rfl HTH.out HI.out HI1.out ?_; rw [hw8])
        | (refine wpList_appO rfl (.tmp 41) (.tmp 42) rfl w.heap.size (.slice oo q co) (32 * t) 32 32 (some ⟨g1, 0, none⟩) E (T (t + 1)) w8 rfl H8.out.1.g rfl (fun h => by cases h) H8.out.2.1 (by have := HT.out; omega) H8.out.1.o.size ?_; intro v9 w9 hG9 hg9 hob9; have H9 := Lib.hid (H8.out.1.next H8.out.2.1 H8.out.2.2 hg9 hG9 hob9 (HES.out t)); obtain ⟨o9, c9, hv9, _, _⟩ := H9.out.g.bytesC (fun i _ => HEL.out i); subst hv9; clear hG9 hg9 hob9 H8))
      clear hw8 hwc hg1 HTH HI HI1
      go_roundw
      case rel => exact ⟨t + 1, c2, _, some ⟨g1, 0, none⟩, 32, by have := HT.out; omega, HC2.out.symm, rfl, rfl, by rw [exL_pos (by omega)], H9.out⟩
      case measure => have := HT.out; have := HNC.out; have := HQ.out; simp [lenV]; omega
    · have q1 : ¬ (q : Int) < (z : Int) := by omega
      have z2 : (0 : Int) ≤ (z : Int) := by omega
      have z3 : (z : Int) ≤ (co : Int) := by have := HCO.out; omega
      clear hc ht
      go_wp2_with fail
      go_ret2
      exact ⟨oo, rfl, HBO.out.mono (by have := HCO.out; omega) , fun e => by have h := HCO.out.2 e; have := HQ.out; omega, HX.out.o⟩
end Go.Proofs.YtncfocjmdecapaaGreatDoor
namespace Go.Proofs.YtncfocjmdecapaaGreatDoor
set_option linter.unusedVariables false
set_option linter.unusedSimpArgs false
open Go.RowKit
/-- A string's bytes, as a function tells them. -/
def byteF (s : ByteArray) : Nat → Nat := fun j => (s.data.toList.getD j 0).toNat
theorem byteF_lt (s : ByteArray) (j : Nat) : byteF s j < 256 := UInt8.toNat_lt _
/-- n bytes of a string in block g, with room behind them. -/
structure SB (w : World) (g n cap : Nat) (f : Nat → Nat) : Prop where
  c : ∀ j, j < n → w.cell? ⟨g, j, none⟩ = some (.int .u8 (f j : Nat))
  r : w.there g n (cap - n)
  l : g < w.heap.size
  b : ∀ j, j < n → f j < 256
  le : n ≤ cap
theorem SB.bytes {w : World} {g n cap : Nat} {f : Nat → Nat} (h : SB w g n cap f) : Bytes w (some ⟨g, 0, none⟩) n f := fun k hk => ⟨h.b k hk, g, 0, rfl, by rw [Nat.zero_add]; exact h.c k hk⟩
theorem SB.later {w w' : World} {g n cap : Nat} {f : Nat → Nat} (h : SB w g n cap f) (hb : Below w.heap.size w w') : SB w' g n cap f := by
  have e : w'.heap[g]? = w.heap[g]? := hb.block g h.l
  refine ⟨fun j hj => by rw [World.cell?_of_block (a := ⟨g, j, none⟩) e]; exact h.c j hj, fun j hj => ?_, Nat.lt_of_lt_of_le h.l hb.size, h.b, h.le⟩
  rw [World.cell?_of_block (a := ⟨g, n + j, none⟩) e, World.frozen?_of_block (a := ⟨g, n + j, none⟩) e]; exact h.r j hj
theorem conv_sb (s : ByteArray) (w : World) (hs : s.size ≤ maxLen) : ∃ cap w', (convert 9 24 (.string s)).run Tryz.prog w = .ok (.slice (some ⟨w.heap.size, 0, none⟩) s.size cap) w' ∧ cap ≤ maxLen ∧ SB w' w.heap.size s.size cap (byteF s) ∧ Below w.heap.size w w' := by
  have hr := run_bytes_of_string (P := Tryz.prog) w 9 24 5 s Tryz.underlying9 Tryz.underlying24 Tryz.underlying5
  obtain ⟨cap, hcap⟩ : ∃ cap, grownCap w s.size 0 5 = cap := ⟨_, rfl⟩
  have hge : s.size ≤ cap := hcap ▸ grownCap_ge w s.size 0 _
  have hle : cap ≤ maxLen := hcap ▸ grownCap_le_maxLen w s.size 0 _ hs
  rw [hcap] at hr
  obtain ⟨C, hC⟩ : ∃ C, bytesRow s cap = C := ⟨_, rfl⟩
  have hsz : C.size = cap := by
    rw [← hC]; unfold bytesRow
    rw [Array.size_append, Array.size_map, Array.size_replicate]
    show s.size + (cap - s.size) = cap
    omega
  rw [hC] at hr
  have hblk : (w.drew.alloc (.cells C 5 (C.size, C.size + 1))).heap[w.heap.size]? = some (.cells C 5 (C.size, C.size + 1)) := by
    show (w.heap.push _)[w.heap.size]? = _
    simp
  refine ⟨cap, _, hr, hle, ⟨fun j hj => ?_, fun j hj => ?_, by show w.heap.size < (w.heap.push _).size; simp, fun j _ => byteF_lt s j, hge⟩, (Below.refl _ w).drew.alloc (Nat.le_refl _) _⟩
  · have h1 : (w.drew.alloc (.cells C 5 (C.size, C.size + 1))).cell? ⟨w.heap.size, j, none⟩ = C[j]? := by simp only [World.cell?, hblk, Option.isSome_none, Bool.false_eq_true, if_false]
    rw [h1, ← hC]
    unfold bytesRow
    have hj' : j < s.data.size := hj
    rw [Array.getElem?_append_left (by rw [Array.size_map]; exact hj'), Array.getElem?_map, Array.getElem?_eq_getElem hj']
    unfold byteF
    rw [List.getD_eq_getElem?_getD, Array.getElem?_toList, Array.getElem?_eq_getElem hj']
    rfl
  · have h1 : (w.drew.alloc (.cells C 5 (C.size, C.size + 1))).cell? ⟨w.heap.size, s.size + j, none⟩ = C[s.size + j]? := by simp only [World.cell?, hblk, Option.isSome_none, Bool.false_eq_true, if_false]
    have h2 : (w.drew.alloc (.cells C 5 (C.size, C.size + 1))).frozen? ⟨w.heap.size, s.size + j, none⟩ = false := by
      simp only [World.frozen?, hblk]; simp; omega
    exact ⟨by rw [h1, Array.getElem?_eq_getElem (by omega)]; rfl, h2⟩
theorem wpList_convS {ops : Array Oper} {rest : List Oper} {o : Oper} {a : Act} {Q : Exit → Act → World → Prop} (hgd : o.guard = none) (x : Operand) (ho : o.op = .convert 9 24 x) (s : ByteArray) (w : World) (hx : a.eval x = .string s) (hs : s.size ≤ maxLen)
    (h : ∀ cap w', cap ≤ maxLen → SB w' w.heap.size s.size cap (byteF s) → Below w.heap.size w w' → wpList Tryz.prog ops Q rest (a.put o.dst (.slice (some ⟨w.heap.size, 0, none⟩) s.size cap)) w') :
    wpList Tryz.prog ops Q (o :: rest) a w := by
  refine wpList_plain hgd fun K hK => ?_
  obtain ⟨cap, w', hr, h1, h2, h3⟩ := conv_sb s w hs
  unfold Oper.wp execOp
  simp only [ho, hx, hr, Sem.run_bind, Sem.run_pure, Result.andThen_ok]
  exact hK _ _ (h cap w' h1 h2 h3)
/-- append of a row onto a string's bytes. -/
theorem run_append_sb {w : World} {g n cap m c : Nat} {ad : Addr} {f G : Nat → Nat} (ty : TypeId) (h : SB w g n cap f) (hcm : cap ≤ maxLen) (hB : Bytes w (some ad) m G) (hm : n + m < 100000000000000) :
    ∃ o c' w', (Builtin.append_ #[24, 24] ty #[.slice (some ⟨g, 0, none⟩) n cap, .slice (some ad) m c]).run Tryz.prog w = .ok (.slice (some o) (n + m) c') w' ∧ n + m ≤ c' ∧ Bytes w' (some o) (n + m) (catF n f G) ∧ Own g w w' := by
  obtain ⟨i0, hi, hz0, hz1, hz2⟩ := info_parts info_u8
  by_cases hroom : n + m ≤ cap
  · have hl : (rowC m G).length = m * i0.size := by rw [rowC_len, hz1, Nat.mul_one]
    have hf := run_firstCells_some (P := Tryz.prog) w i0.size m ad m c (rowC m G) hl hB.newsA
    rw [hz1] at hf
    have hth : ∀ j, j < (rowC m G).length → (w.cell? ⟨g, n + j, none⟩).isSome = true ∧ w.frozen? ⟨g, n + j, none⟩ = false := fun j hj => h.r j (by rw [rowC_len] at hj; omega)
    have hst := run_storeCells_cells (P := Tryz.prog) g n (rowC m G) 0 w (fun j hj => (hth j hj).1) (fun j hj => (hth j hj).2) (rowC_one m G)
    simp only [Nat.add_zero] at hst
    have hadd : (⟨g, 0, none⟩ : Addr).add (n * i0.size) = ⟨g, n, none⟩ := by rw [hz1, Nat.mul_one, Addr.add_mid, Nat.zero_add]
    refine ⟨⟨g, 0, none⟩, cap, w.setCells g n (rowC m G), ?_, hroom, fun k hk => ?_, Own.setCells _ _ _⟩
    · have hadd1 : (⟨g, 0, none⟩ : Addr).add n = ⟨g, n, none⟩ := by rw [Addr.add_mid, Nat.zero_add]
      simp [Builtin.append_, run_underlying Tryz.underlying24, sizeOf, typeInfo, hi, Builtin.lenOf, hroom, hf, hst, hz1, hadd1]
    · unfold catF
      by_cases e : k < n
      · rw [if_pos e]
        refine ⟨h.b k e, g, 0, rfl, ?_⟩
        rw [Nat.zero_add, World.cell?_setCells_out g (rowC m G) n w ⟨g, k, none⟩ (fun _ _ => .inl e)]
        exact h.c k e
      · rw [if_neg e]
        have hkm : k - n < m := by omega
        refine ⟨(hB (k - n) hkm).1, g, 0, rfl, ?_⟩
        have := World.cell?_setCells_in g (rowC m G) n w (fun j hj => (hth j hj).1) (k - n) (by rw [rowC_len]; exact hkm)
        rw [show n + (k - n) = 0 + k by omega] at this
        rw [this]
        have h2 := rowC_get G hkm
        rw [List.getElem?_eq_getElem (by rw [rowC_len]; exact hkm)] at h2
        exact h2
  · have hlo : (rowC n f).length = n * i0.size := by rw [rowC_len, hz1, Nat.mul_one]
    have hl : (rowC m G).length = m * i0.size := by rw [rowC_len, hz1, Nat.mul_one]
    have hr := run_append_grow (P := Tryz.prog) w 24 ty 5 i0 (.int .u8 0) Tryz.underlying24 hi hz0 ⟨g, 0, none⟩ n cap (rowC n f) hlo h.bytes.newsA ad m c (rowC m G) hl hB.newsA (by omega) (by omega) (growslice_fits (by omega) (by rw [hz2]; omega))
    obtain ⟨cp, hcp⟩ : ∃ cp, grownCap w (n + m) cap 5 = cp := ⟨_, rfl⟩
    have hge : n + m ≤ cp := hcp ▸ grownCap_ge w (n + m) cap _
    rw [hcp] at hr
    refine ⟨_, _, _, hr, hge, fun k hk => ?_, Own.of_below ((Below.refl _ w).drew.alloc (Nat.le_refl _) _)⟩
    have hblk : ∀ C : Array Value, (w.drew.alloc (.cells C 5)).cell? ⟨w.heap.size, 0 + k, none⟩ = C[k]? := fun C => by
      have : (w.drew.alloc (.cells C 5)).heap[w.heap.size]? = some (.cells C 5) := by
        show (w.heap.push _)[w.heap.size]? = _
        simp
      rw [Nat.zero_add]; simp only [World.cell?, this, Option.isSome_none, Bool.false_eq_true, if_false]
    have hb : catF n f G k < 256 := by
      unfold catF
      by_cases e : k < n
      · rw [if_pos e]; exact h.b k e
      · rw [if_neg e]; exact (hB (k - n) (by omega)).1
    refine ⟨hb, w.heap.size, 0, rfl, ?_⟩
    rw [hblk]
    have h2 := rowC_get (n := n + m) (catF n f G) hk
    rw [rowC_cat] at h2
    rw [Array.getElem?_append_left (by simp [rowC_len]; exact hk)]
    rw [← Array.getElem?_toList]
    simpa using h2
theorem wpList_appS {ops : Array Oper} {rest : List Oper} {o : Oper} {a : Act} {Q : Exit → Act → World → Prop} (hgd : o.guard = none) (s x : Operand)
    (ho : o.op = .call { callee := .builtin .append, args := #[s, x], argTypes := #[24, 24] })
    (g n cap m c : Nat) (ad : Addr) (f G : Nat → Nat) (w : World) (hs : a.eval s = .slice (some ⟨g, 0, none⟩) n cap) (h : SB w g n cap f) (hcm : cap ≤ maxLen) (hx : a.eval x = .slice (some ad) m c) (hB : Bytes w (some ad) m G) (hm : n + m < 100000000000000)
    (hk : ∀ o' c' w', n + m ≤ c' → Bytes w' (some o') (n + m) (catF n f G) → Own g w w' → wpList Tryz.prog ops Q rest (a.put o.dst (.slice (some o') (n + m) c')) w') :
    wpList Tryz.prog ops Q (o :: rest) a w := by
  refine wpList_plain hgd fun K hK => ?_
  obtain ⟨o', c', w', hr, h1, h2, h3⟩ := run_append_sb o.type h hcm hB hm (c := c)
  unfold Oper.wp execOp
  simp only [ho, resolve, invoke, builtin, Sem.run_bind, Sem.run_pure, Result.andThen_ok, List.map_toArray, List.map_cons, List.map_nil, hs, hx, hr]
  exact hK _ _ (hk o' c' w' h1 h2 h3)
end Go.Proofs.YtncfocjmdecapaaGreatDoor
namespace Go.Proofs.YtncfocjmdecapaaGreatDoor
set_option linter.unusedVariables false
set_option linter.unusedSimpArgs false
open Go.RowKit
def kTl (x : Nat) : Nat → Nat := fun i => if i = 0 then 0 else numB x 4 (i - 1)
/-- What a key for a use is made with. -/
def kiF (s : ByteArray) (x : Nat) : Nat → Nat := catF s.size (byteF s) (kTl x)
theorem kTl_lt (x i : Nat) : kTl x i < 256 := by
  unfold kTl; split
  · decide
  · exact numB_lt _ _ _
theorem five_bytes {w : World} {x b0 b1 b2 b3 : Nat} (h0 : numB x 4 0 = b0) (h1 : numB x 4 1 = b1) (h2 : numB x 4 2 = b2) (h3 : numB x 4 3 = b3) : Bytes (w.alloc (.cells #[.int .u8 0, .int .u8 (b0 : Nat), .int .u8 (b1 : Nat), .int .u8 (b2 : Nat), .int .u8 (b3 : Nat)] 5)) (some ⟨w.heap.size, 0, none⟩) 5 (kTl x) := fun k hk => by
  subst h0 h1 h2 h3
  have hc := fun j => World.cell?_alloc_mark w #[.int .u8 0, .int .u8 ((numB x 4 0 : Nat) : Int), .int .u8 ((numB x 4 1 : Nat) : Int), .int .u8 ((numB x 4 2 : Nat) : Int), .int .u8 ((numB x 4 3 : Nat) : Int)] 5 (0, 0) j
  rcases (by omega : k = 0 ∨ k = 1 ∨ k = 2 ∨ k = 3 ∨ k = 4) with rfl | rfl | rfl | rfl | rfl
  · exact ⟨kTl_lt _ _, w.heap.size, 0, rfl, hc 0⟩
  · exact ⟨kTl_lt _ _, w.heap.size, 0, rfl, hc 1⟩
  · exact ⟨kTl_lt _ _, w.heap.size, 0, rfl, hc 2⟩
  · exact ⟨kTl_lt _ _, w.heap.size, 0, rfl, hc 3⟩
  · exact ⟨kTl_lt _ _, w.heap.size, 0, rfl, hc 4⟩
set_option maxRecDepth 100000 in
set_option maxHeartbeats 4000000 in
theorem key_any (oa : Option Addr) (cn : Nat) (K : Nat → Nat) (s : ByteArray) (x : Nat) (w : World) (hb : Bytes w oa 32 K) (hnc : 32 ≤ cn) (hs1 : 1 ≤ s.size) (hs2 : s.size ≤ 32) (hx : x < 4294967296) (hg : GV w) :
    Calls Tryz.prog 23 #[.slice oa 32 cn, .string s, .int .u32 (x : Int)] w fun e w' => ∃ o, e = .returned (.tuple #[.slice o 32 32, .nilIface]) ∧ Bytes w' o 32 (exF 32 K (s.size + 5) (kiF s x)) ∧ Below w.heap.size w w' := by
  have HKB : Hid (∀ w', Below w.heap.size w w' → Bytes w' oa 32 K) := Lib.hid fun w' h => hb.later h
  have HS : Hid (1 ≤ s.size ∧ s.size ≤ 32 ∧ 32 ≤ cn) := Lib.hid ⟨hs1, hs2, hnc⟩
  have HG := Lib.hid hg
  have h4 : ¬ (s.size : Int) < 1 := by omega
  have h5 : ¬ (32 : Int) < (s.size : Int) := by omega
  obtain ⟨b0, e0⟩ : ∃ y, numB x 4 0 = y := ⟨_, rfl⟩
  obtain ⟨b1, e1⟩ : ∃ y, numB x 4 1 = y := ⟨_, rfl⟩
  obtain ⟨b2, e2⟩ : ∃ y, numB x 4 2 = y := ⟨_, rfl⟩
  obtain ⟨b3, e3⟩ : ∃ y, numB x 4 3 = y := ⟨_, rfl⟩
  have v0 := num4 x 0 16777216 (by decide) (by decide)
  have v1 := num4 x 1 65536 (by decide) (by decide)
  have v2 := num4 x 2 256 (by decide) (by decide)
  have v3 := num4 x 3 1 (by decide) (by decide)
  rw [e0] at v0
  rw [e1] at v1
  rw [e2] at v2
  rw [e3] at v3
  rw [show (((1 : Nat) : Int)) = 1 from rfl, Int.ediv_one] at v3
  rw [show (((16777216 : Nat) : Int)) = 16777216 from rfl] at v0
  rw [show (((65536 : Nat) : Int)) = 65536 from rfl] at v1
  rw [show (((256 : Nat) : Int)) = 256 from rfl] at v2
  have v4 : (x : Int) / 16777216 = (b0 : Int) := by rw [← v0]; omega
  have v5 : (b0 : Int) % 256 = (b0 : Int) := by omega
  have x0 : (x : Int) < 4294967296 := by omega
  have x1 : (x : Int) % 4294967296 = (x : Int) := by omega
  have H5 : Hid (∀ w', Bytes (World.alloc w' (.cells #[.int .u8 0, .int .u8 (b0 : Nat), .int .u8 (b1 : Nat), .int .u8 (b2 : Nat), .int .u8 (b3 : Nat)] 5)) (some ⟨w'.heap.size, 0, none⟩) 5 (kTl x)) := Lib.hid fun w' => five_bytes e0 e1 e2 e3
  clear hb hnc hs1 hs2 hx hg e0 e1 e2 e3
  go_enter Tryz.func23, Tryz.ntmps23
  go_wp2_with (first
    | (refine wpList_convS rfl (.tmp 23) rfl s w rfl (by have := HS.out; unfold maxLen; omega) ?_; intro cap w1 hcm1 hs1 hb1; have H1 := Lib.hid (And.intro hcm1 (And.intro hs1 hb1)); clear hcm1 hs1 hb1)
    | (refine wpList_appS rfl (.tmp 24) (.tmp 36) rfl w.heap.size s.size cap 5 5 ⟨w1.heap.size, 0, none⟩ (byteF s) (kTl x) (w1.alloc (.cells #[.int .u8 0, .int .u8 (b0 : Nat), .int .u8 (b1 : Nat), .int .u8 (b2 : Nat), .int .u8 (b3 : Nat)] 5)) rfl (H1.out.2.1.later ((Below.refl _ _).alloc (Nat.le_refl _) _)) H1.out.1 rfl (H5.out w1) (by have := HS.out; omega) ?_
       intro o' c' w2 hc2 hB2 hO2
       have H2 : Hid (s.size + 5 ≤ c' ∧ Bytes w2 (some o') (s.size + 5) (kiF s x) ∧ Below w.heap.size w w2) := Lib.hid ⟨hc2, hB2, (H1.out.2.2.trans (((Below.refl _ _).alloc (Nat.le_refl _) _).mono H1.out.2.2.size)).trans (hO2.below (Nat.le_refl _) (Nat.le_trans H1.out.2.2.size (by simp)))⟩
       clear hc2 hB2 hO2 H1))
  clear v0 v1 v2 v3 v4 v5 x0 x1 H5
  refine (show Calls Tryz.prog 40 #[.slice oa 32 cn, .slice (some o') (s.size + 5) c', .int .i64 32] w2 _ from expand_any oa (some o') 32 cn (s.size + 5) c' K (kiF s x) 32 w2 (HKB.out _ H2.out.2.2) HS.out.2.2 (fun e => by obtain ⟨_, b, off, e2, _⟩ := (HKB.out _ (Below.refl _ w)) 0 (by decide); rw [e] at e2; cases e2) (by decide) H2.out.2.1 H2.out.1 (by have := HS.out; omega) (by decide) (HG.out.later H2.out.2.2)).mono ?_
  rintro e w3 ⟨o, rfl, hB3, hn3, hb3⟩
  have H3 : Hid (Bytes w3 o 32 (exF 32 K (s.size + 5) (kiF s x)) ∧ Below w.heap.size w w3) := Lib.hid ⟨hB3, H2.out.2.2.trans (hb3.mono H2.out.2.2.size)⟩
  clear hB3 hn3 hb3 H2
  go_wp2_with fail
  go_ret2
  exact ⟨o, rfl, H3.out.1, H3.out.2⟩
end Go.Proofs.YtncfocjmdecapaaGreatDoor
namespace Go.Proofs.YtncfocjmdecapaaGreatDoor
set_option linter.unusedVariables false
set_option linter.unusedSimpArgs false
open Go.RowKit
set_option maxHeartbeats 400000 in
theorem num_err (n : Int) (w : World) (h : Handle w) :
    Calls Tryz.prog 10 #[.iface 53 (.int .i64 n)] w fun e w' => e = .returned (.int .i64 n) ∧ Below w.heap.size w w' := by
  have hA := as_hit n ⟨w.heap.size, 0, none⟩ (.int .i64 0) (w.alloc (.cells #[.int .i64 0] 53)) (h.alloc _).1 (by simp) (by simp)
  go_enter Tryz.func10, Tryz.ntmps10
  go_wp2_with fail
  refine hA.mono ?_
  rintro e w' ⟨rfl, rfl⟩
  go_wp2
  go_ret
  refine ⟨rfl, ?_⟩
  exact (((((Below.refl _ _).alloc (Nat.le_refl _) _).alloc (by simp) _).alloc (by simp; omega) _).alloc (by simp; omega) _).alloc (by simp; omega) _

end Go.Proofs.YtncfocjmdecapaaGreatDoor
namespace Go.Proofs.YtncfocjmdecapaaGreatDoor
set_option linter.unusedVariables false
set_option linter.unusedSimpArgs false
open Go.RowKit
theorem wpList_valueG {ops : Array Oper} {rest : List Oper} {o : Oper} {a : Act} {w : World} {Q : Exit → Act → World → Prop} {v : Value} (hw : Region.wanted o (yielded ops a.tmps) = true) (he : (execOp a.eval o).run Tryz.prog w = .ok (.value v) w)
    (hk : wpList Tryz.prog ops Q rest (a.put o.dst v) w) : wpList Tryz.prog ops Q (o :: rest) a w := by
  refine wpList_step fun K hK => ?_
  rw [if_pos hw]
  unfold Oper.wp
  rw [he]
  exact hK _ _ hk
/-- At the end: the clone has "more" behind it. -/
structure ZE (w0 : World) (g q : Nat) (F : Nat → Nat) (va : Value) (c B : Nat) (E EM : Nat → Nat) (vs : Value) (wr : World) : Prop where
  h : HS wr g q F
  a : Grow wr w0.heap.size va q F
  f : ∀ i, i < q → F i < 256
  o : Below w0.heap.size w0 wr
  v : GV wr
  gb : w0.heap.size ≤ g
  gv0 : 1 < w0.heap.size ∧ 2 < w0.heap.size
  na : ∀ k, va.ownBlock = some k → k ≠ g
  c : HS wr c (B + 4) EM
  s : Grow wr w0.heap.size vs B E
  se : ∀ i, i < B → E i < 256
  sB : B ≤ 3600
  n : ∀ k, vs.ownBlock = some k → k ≠ g ∧ va.ownBlock ≠ some k
theorem ZE.later {w0 : World} {g q c B : Nat} {F E EM : Nat → Nat} {va vs : Value} {wr w' : World} (h : ZE w0 g q F va c B E EM vs wr) (hb : Below wr.heap.size wr w') : ZE w0 g q F va c B E EM vs w' :=
  ⟨h.h.later hb, h.a.later hb, h.f, h.o.trans (hb.mono h.o.size), h.v.later hb, h.gb, h.gv0, h.na, h.c.later hb, h.s.later hb, h.se, h.sB, h.n⟩
structure ZF (w0 : World) (g q : Nat) (F : Nat → Nat) (va : Value) (wr : World) : Prop where
  h : HS wr g q F
  a : Grow wr w0.heap.size va q F
  f : ∀ i, i < q → F i < 256
  o : Below w0.heap.size w0 wr
  v : GV wr
theorem ZF.later {w0 : World} {g q : Nat} {F : Nat → Nat} {va : Value} {wr w' : World} (h : ZF w0 g q F va wr) (hb : Below wr.heap.size wr w') : ZF w0 g q F va w' :=
  ⟨h.h.later hb, h.a.later hb, h.f, h.o.trans (hb.mono h.o.size), h.v.later hb⟩
theorem ZE.grew {w0 : World} {g q c B : Nat} {F E EM : Nat → Nat} {va vs : Value} {wr w' : World} (h : ZE w0 g q F va c B E EM vs wr) (hg : wr.grownBy w' vs.ownBlock) : ZF w0 g q F va w' := by
  have hO := own_of_grown hg
  have hn : ∀ x, x < wr.heap.size → (∀ k, vs.ownBlock = some k → k ≠ x) → x ≠ vs.ownBlock.getD wr.heap.size := fun x hx hk => by
    cases e : vs.ownBlock with
    | none => simp; omega
    | some b => simp; exact fun e2 => hk b e e2.symm
  have hge : w0.heap.size ≤ vs.ownBlock.getD wr.heap.size := by
    cases e : vs.ownBlock with
    | none => simp; exact h.o.size
    | some b => simp; exact (h.s.lt b e).1
  refine ⟨h.h.own hO (hn g h.h.lt fun k hk => (h.n k hk).1), h.a.ownN hO fun k hk => hn k (h.a.lt k hk).2 (fun k' hk' e => (h.n k' hk').2 (by rw [hk, e])), h.f, h.o.trans (hO.below hge h.o.size), ?_⟩
  exact h.v.own hO (by have := h.gv0; omega) (by have := h.gv0; omega)
end Go.Proofs.YtncfocjmdecapaaGreatDoor
namespace Go.Proofs.YtncfocjmdecapaaGreatDoor
set_option linter.unusedVariables false
set_option linter.unusedSimpArgs false
open Go.RowKit
/-- The package's variables, both kinds. -/
def GH (w : World) : Prop := GV w ∧ Handle w
theorem GH.later {w w' : World} (h : GH w) (hb : Below w.heap.size w w') : GH w' := ⟨h.1.later hb, h.2.later hb⟩
end Go.Proofs.YtncfocjmdecapaaGreatDoor
namespace Go.Proofs.YtncfocjmdecapaaGreatDoor
set_option linter.unusedVariables false
set_option linter.unusedSimpArgs false
open Go.RowKit
structure PS (w0 : World) (k gi go : Nat) (W : Nat → Nat) (m : Nat) (G : Nat → Nat) (wr : World) : Prop where
  h : KH wr k gi go W m G
  o : Below w0.heap.size w0 wr
  v : GV wr
  r : RB 22 32 w0.heap.size (fun _ => 0) wr
  n : w0.heap.size < gi
theorem PS.later {w0 : World} {k gi go m : Nat} {W G : Nat → Nat} {wr w' : World} (h : PS w0 k gi go W m G wr) (hb : Below wr.heap.size wr w') : PS w0 k gi go W m G w' :=
  ⟨h.h.later hb, h.o.trans (hb.mono h.o.size), h.v.later hb, Blk.below h.r hb (Blk.lt h.r), h.n⟩
end Go.Proofs.YtncfocjmdecapaaGreatDoor
namespace Go.Proofs.YtncfocjmdecapaaGreatDoor
set_option linter.unusedVariables false
set_option linter.unusedSimpArgs false
open Go.RowKit
/-- A row of our own, behind what was there. -/
structure JG (w0 : World) (v : Value) (n : Nat) (f : Nat → Nat) (w : World) : Prop where
  g : Grow w w0.heap.size v n f
  o : Below w0.heap.size w0 w
theorem JG.later {w0 w w' : World} {v : Value} {n : Nat} {f : Nat → Nat} (h : JG w0 v n f w) (hb : Below w.heap.size w w') : JG w0 v n f w' := ⟨h.g.later hb, h.o.trans (hb.mono h.o.size)⟩
theorem JG.grew {w0 w w' : World} {v v' : Value} {n n' : Nat} {f f' : Nat → Nat} (h : JG w0 v n f w) (hg : w.grownBy w' v.ownBlock) (hG : Grow w' w0.heap.size v' n' f') : JG w0 v' n' f' w' := ⟨hG, h.o.trans (grow_bel h.g h.o.size hg)⟩
theorem catF_b {n m : Nat} {f g : Nat → Nat} (hf : ∀ i, i < n → f i < 256) (hg : ∀ i, i < m → g i < 256) : ∀ i, i < n + m → catF n f g i < 256 := fun i hi => by
  unfold catF
  by_cases e : i < n
  · rw [if_pos e]; exact hf i e
  · rw [if_neg e]; exact hg _ (by omega)
end Go.Proofs.YtncfocjmdecapaaGreatDoor
namespace Go.Proofs.YtncfocjmdecapaaGreatDoor
set_option linter.unusedVariables false
set_option linter.unusedSimpArgs false
open Go.RowKit
theorem conv_any {w : World} {oa : Option Addr} {n cap : Nat} {f : Nat → Nat} (h : Bytes w oa n f) (hno : oa = none → n = 0) : (convert 24 9 (.slice oa n cap)).run Tryz.prog w = .ok (.string (strF n f)) w := by
  by_cases h0 : n = 0
  · subst h0
    have e : strF 0 f = ⟨#[]⟩ := rfl
    rw [e]
    cases oa with
    | none => exact Lib.run_convert_nil_bytes w 24 9 5 cap Tryz.underlying24 Tryz.underlying5 Tryz.underlying9
    | some ad => exact run_convert_bytes_back w 24 9 5 ad cap [] Tryz.underlying24 Tryz.underlying5 Tryz.underlying9 (fun j hj => absurd hj (Nat.not_lt_zero _))
  · obtain ⟨_, b, off, rfl, _⟩ := h 0 (by omega)
    exact h.conv
theorem exec_convO {o : Oper} {a : Act} {w : World} {x : Operand} {oa : Option Addr} {n cap : Nat} {S : ByteArray} (ho : o.op = .convert 24 9 x) (hx : a.eval x = .slice oa n cap) (h : (convert 24 9 (.slice oa n cap)).run Tryz.prog w = .ok (.string S) w) : (execOp a.eval o).run Tryz.prog w = .ok (.value (.string S)) w := by
  unfold execOp
  simp only [ho, hx, h, Sem.run_bind, Result.andThen_ok]
  rfl
end Go.Proofs.YtncfocjmdecapaaGreatDoor
namespace Go.Proofs.YtncfocjmdecapaaGreatDoor
set_option linter.unusedVariables false
set_option linter.unusedSimpArgs false
open Go.RowKit
/-- A row of bytes that reads as a string. -/
def CV (w : World) (o : Option Addr) (m : Nat) (S : ByteArray) : Prop := ∃ F, Bytes w o m F ∧ (o = none → m = 0) ∧ strF m F = S
theorem CV.later {w w' : World} {o : Option Addr} {m : Nat} {S : ByteArray} (h : CV w o m S) (hb : Below w.heap.size w w') : CV w' o m S := by
  obtain ⟨F, h1, h2, h3⟩ := h; exact ⟨F, h1.later hb, h2, h3⟩
/-- What is kept ahead of the last comparisons. -/
structure HK (w0 : World) (o8 o10 o12 o14 : Option Addr) (m8 m10 m12 m14 g7 : Nat) (S1 S2 S3 : ByteArray) (wr : World) : Prop where
  a : CV wr o8 m8 S1
  b : CV wr o10 m10 S1
  c : CV wr o12 m12 S2
  d : CV wr o14 m14 S2
  e : CV wr (some ⟨g7, 0, none⟩) 32 S3
  o : Below w0.heap.size w0 wr
theorem HK.later {w0 wr w' : World} {o8 o10 o12 o14 : Option Addr} {m8 m10 m12 m14 g7 : Nat} {S1 S2 S3 : ByteArray} (h : HK w0 o8 o10 o12 o14 m8 m10 m12 m14 g7 S1 S2 S3 wr) (hb : Below wr.heap.size wr w') : HK w0 o8 o10 o12 o14 m8 m10 m12 m14 g7 S1 S2 S3 w' :=
  ⟨h.a.later hb, h.b.later hb, h.c.later hb, h.d.later hb, h.e.later hb, h.o.trans (hb.mono h.o.size)⟩
end Go.Proofs.YtncfocjmdecapaaGreatDoor
