/- Blocks known whole, and what may have changed of what was there. How rows of bytes that came in read, for walks. Rows of bytes in a block of their own: made, written, read. A whole block stored over. -/
import Derived.WalkKit
import Derived.OneCell
import Derived.Laws.NewBlocks
import Derived.ProofKit
import Derived.OpenShut
import Derived.Below
import Derived.Lib.SmallJoins
import Derived.Test.YtncfocjmdecapaaGreatDoorProg
import Derived.Laws.OwnMore
import Derived.Laws.BytesArg
import Derived.OwnWalk
import Derived.Maps.AppendAt
import Derived.Laws.Rows
import Derived.Deep.MidRow
namespace Go.Proofs.YtncfocjmdecapaaGreatDoor
set_option linter.unusedVariables false
set_option linter.unusedSimpArgs false
open Go.RowKit
/-- A block of cells, known whole; none of it is frozen. -/
def Blk (w : World) (b : Nat) (C : Array Value) (t : TypeId) : Prop := w.heap[b]? = some (.cells C t (0, 0))

theorem Blk.lt {w : World} {b : Nat} {C : Array Value} {t : TypeId} (h : Blk w b C t) : b < w.heap.size := lt_of_block h
theorem Blk.cell {w : World} {b : Nat} {C : Array Value} {t : TypeId} (h : Blk w b C t) (k : Nat) : w.cell? ⟨b, k, none⟩ = C[k]? := by
  unfold Blk at h; simp [World.cell?, h]
theorem Blk.free {w : World} {b : Nat} {C : Array Value} {t : TypeId} (h : Blk w b C t) (k : Nat) : w.frozen? ⟨b, k, none⟩ = false := by
  unfold Blk at h; simp [World.frozen?, h]
theorem Blk.set {w : World} {b : Nat} {C : Array Value} {t : TypeId} (h : Blk w b C t) (k : Nat) (v : Value) : Blk (w.setCell ⟨b, k, none⟩ v) b (C.setIfInBounds k v) t := by
  have hlt := h.lt
  unfold Blk at h ⊢
  have h' : w.heap[b] = .cells C t (0, 0) := by simpa [Array.getElem?_eq_getElem hlt] using h
  show (w.heap.modify b _)[b]? = _
  rw [Array.getElem?_eq_getElem (by simpa using hlt), Array.getElem_modify_self, h']
  rfl
theorem Blk.set_other {w : World} {b : Nat} {C : Array Value} {t : TypeId} (h : Blk w b C t) {a : Addr} (ha : b ≠ a.block) (v : Value) : Blk (w.setCell a v) b C t := by
  unfold Blk at h ⊢; rw [Below.heap_setCell _ _ _ _ ha]; exact h
theorem Blk.alloc {w : World} {b : Nat} {C : Array Value} {t : TypeId} (h : Blk w b C t) (o : Obj) : Blk (w.alloc o) b C t := by
  have hlt := h.lt
  unfold Blk at h ⊢; rw [Below.heap_alloc _ _ _ hlt]; exact h
theorem Blk.drew {w : World} {b : Nat} {C : Array Value} {t : TypeId} (h : Blk w b C t) : Blk w.drew b C t := h
theorem Blk.new (w : World) (C : Array Value) (t : TypeId) : Blk (w.alloc (.cells C t)) w.heap.size C t := by
  show (w.heap.push _)[w.heap.size]? = _
  simp
theorem Blk.below {w w' : World} {b B : Nat} {C : Array Value} {t : TypeId} (h : Blk w b C t) (hb : Below B w w') (hB : b < B) : Blk w' b C t := by
  unfold Blk at h ⊢; rw [hb.block b hB]; exact h

/-- Of what was there only block b may have changed. -/
structure Own (b : Nat) (w w' : World) : Prop where
  os : w'.os = w.os
  tape : w'.tape = w.tape
  output : w'.output = w.output
  size : w.heap.size ≤ w'.heap.size
  block : ∀ k, k < w.heap.size → k ≠ b → w'.heap[k]? = w.heap[k]?

theorem Own.refl (b : Nat) (w : World) : Own b w w := ⟨rfl, rfl, rfl, Nat.le_refl _, fun _ _ _ => rfl⟩
theorem Own.trans {b : Nat} {w w1 w2 : World} (h : Own b w w1) (k : Own b w1 w2) : Own b w w2 :=
  ⟨k.os.trans h.os, k.tape.trans h.tape, k.output.trans h.output, Nat.le_trans h.size k.size, fun i hi hn => (k.block i (Nat.lt_of_lt_of_le hi h.size) hn).trans (h.block i hi hn)⟩
theorem Own.of_below {b : Nat} {w w' : World} (h : Below w.heap.size w w') : Own b w w' := ⟨h.os, h.tape, h.output, h.size, fun k hk _ => h.block k hk⟩
theorem Own.set {b : Nat} {w w1 : World} (h : Own b w w1) (k : Nat) (v : Value) : Own b w (w1.setCell ⟨b, k, none⟩ v) :=
  h.trans ⟨rfl, rfl, rfl, by simp [World.setCell], fun i _ hn => Below.heap_setCell _ _ _ _ hn⟩
theorem Own.alloc {b : Nat} {w w1 : World} (h : Own b w w1) (o : Obj) : Own b w (w1.alloc o) :=
  h.trans ⟨rfl, rfl, rfl, by simp, fun i hi _ => Below.heap_alloc _ _ _ hi⟩
theorem Own.drew {b : Nat} {w w1 : World} (h : Own b w w1) : Own b w w1.drew := ⟨h.os, h.tape, h.output, h.size, h.block⟩
theorem Own.below {b B : Nat} {w w' : World} (h : Own b w w') (hb : B ≤ b) (hs : B ≤ w.heap.size) : Below B w w' :=
  ⟨h.os, h.tape, h.output, h.size, fun k hk => h.block k (by omega) (by omega)⟩
theorem Own.blk {b c : Nat} {w w' : World} {C : Array Value} {t : TypeId} (h : Own b w w') (hc : Blk w c C t) (hn : c ≠ b) : Blk w' c C t := by
  have hlt := hc.lt
  unfold Blk at hc ⊢; rw [h.block c hlt hn]; exact hc
theorem Own.cell {b : Nat} {w w' : World} (h : Own b w w') {a : Addr} {v : Value} (hc : w.cell? a = some v) (hn : a.block ≠ b) : w'.cell? a = some v := by
  have hlt : a.block < w.heap.size := by
    rcases Nat.lt_or_ge a.block w.heap.size with h' | h'
    · exact h'
    · simp [World.cell?, Array.getElem?_eq_none h'] at hc
  rw [← hc]; simp only [World.cell?, h.block a.block hlt hn]
theorem cell_below {w w' : World} (h : Below w.heap.size w w') {a : Addr} {v : Value} (hc : w.cell? a = some v) : w'.cell? a = some v := by
  have hlt : a.block < w.heap.size := by
    rcases Nat.lt_or_ge a.block w.heap.size with h' | h'
    · exact h'
    · simp [World.cell?, Array.getElem?_eq_none h'] at hc
  rw [h.cell hlt]; exact hc
theorem cell_belowB {w w' : World} {B : Nat} (h : Below B w w') {a : Addr} {v : Value} (hB : a.block < B) (hc : w.cell? a = some v) : w'.cell? a = some v := by
  rw [h.cell hB]; exact hc

end Go.Proofs.YtncfocjmdecapaaGreatDoor
namespace Go.Proofs.YtncfocjmdecapaaGreatDoor
set_option linter.unusedVariables false
set_option linter.unusedSimpArgs false
open Go.ChangeShapes Go.WideShapes Go.ChangeAt Go.RowKit
/-- n bytes lie behind an address, as a function tells them. -/
def Bytes (w : World) (oa : Option Addr) (n : Nat) (f : Nat → Nat) : Prop :=
  ∀ k, k < n → f k < 256 ∧ ∃ b off, oa = some ⟨b, off, none⟩ ∧ w.cell? ⟨b, off + k, none⟩ = some (.int .u8 (f k))
theorem Bytes.mono {w : World} {oa : Option Addr} {n m : Nat} {f : Nat → Nat} (h : Bytes w oa n f) (hm : m ≤ n) : Bytes w oa m f := fun k hk => h k (by omega)
theorem Bytes.later {w w' : World} {oa : Option Addr} {n : Nat} {f : Nat → Nat} (h : Bytes w oa n f) (hb : Below w.heap.size w w') : Bytes w' oa n f := fun k hk => by
  obtain ⟨h1, b, off, h2, h3⟩ := h k hk
  exact ⟨h1, b, off, h2, cell_below hb h3⟩
theorem Bytes.alloc {w : World} {oa : Option Addr} {n : Nat} {f : Nat → Nat} (h : Bytes w oa n f) (o : Obj) : Bytes (w.alloc o) oa n f :=
  h.later ((Below.refl _ _).alloc (Nat.le_refl _) o)

end Go.Proofs.YtncfocjmdecapaaGreatDoor
namespace Go.Proofs.YtncfocjmdecapaaGreatDoor
set_option linter.unusedVariables false
set_option linter.unusedSimpArgs false
open Go.RowKit
/-- A row's cells, as a function tells them. -/
def rowC (n : Nat) (f : Nat → Nat) : List Value := (List.range n).map fun i => Value.int .u8 (f i : Nat)
/-- A function, turned at one place. -/
def upd (f : Nat → Nat) (k x : Nat) : Nat → Nat := fun i => if i = k then x else f i
theorem rowC_len (n : Nat) (f : Nat → Nat) : (rowC n f).length = n := by simp [rowC]
theorem rowC_get {n : Nat} (f : Nat → Nat) {i : Nat} (h : i < n) : (rowC n f)[i]? = some (.int .u8 (f i : Nat)) := by
  unfold rowC; rw [List.getElem?_map, List.getElem?_range h]; rfl
theorem rowC_set (n : Nat) (f : Nat → Nat) (k x : Nat) : (rowC n f).set k (.int .u8 (x : Nat)) = rowC n (upd f k x) := by
  refine List.ext_getElem? fun i => ?_
  by_cases hi : i < n
  · rw [rowC_get _ hi]
    by_cases e : i = k
    · subst e; rw [List.getElem?_set_self (by rw [rowC_len]; exact hi)]; simp [upd]
    · rw [List.getElem?_set_ne (Ne.symm e), rowC_get _ hi]; simp [upd, e]
  · rw [List.getElem?_eq_none (by rw [List.length_set, rowC_len]; omega), List.getElem?_eq_none (by rw [rowC_len]; omega)]
theorem rowC_zero (n : Nat) : List.replicate n (Value.int .u8 0) = rowC n (fun _ => 0) := by
  refine List.ext_getElem? fun i => ?_
  by_cases hi : i < n
  · rw [rowC_get _ hi, List.getElem?_replicate, if_pos hi]; rfl
  · rw [List.getElem?_eq_none (by simp; omega), List.getElem?_eq_none (by rw [rowC_len]; omega)]
theorem rowC_congr {n : Nat} {f g : Nat → Nat} (h : ∀ i, i < n → f i = g i) : rowC n f = rowC n g := by
  unfold rowC; exact List.map_congr_left fun i hi => by rw [h i (List.mem_range.1 hi)]
theorem rowC_one (n : Nat) (f : Nat → Nat) : ∀ v ∈ rowC n f, v.oneCell' = true := by
  intro v hv; unfold rowC at hv; obtain ⟨i, _, rfl⟩ := List.mem_map.1 hv; rfl

/-- A row of bytes in block g. -/
def Row (w : World) (g n : Nat) (f : Nat → Nat) : Prop := Blk w g (rowC n f).toArray 5
theorem Row.bytes {w : World} {g n : Nat} {f : Nat → Nat} (h : Row w g n f) (hf : ∀ i, i < n → f i < 256) : Bytes w (some ⟨g, 0, none⟩) n f := fun k hk =>
  ⟨hf k hk, g, 0, rfl, by rw [Nat.zero_add, Blk.cell h k]; simpa using rowC_get f hk⟩
theorem Row.cell {w : World} {g n : Nat} {f : Nat → Nat} (h : Row w g n f) {i : Nat} (hi : i < n) : w.cell? ⟨g, i, none⟩ = some (.int .u8 (f i : Nat)) := by
  rw [Blk.cell h i]; simpa using rowC_get f hi
theorem Row.set {w : World} {g n : Nat} {f : Nat → Nat} (h : Row w g n f) (k x : Nat) : Row (w.setCell ⟨g, k, none⟩ (.int .u8 (x : Nat))) g n (upd f k x) := by
  have := Blk.set h k (.int .u8 (x : Nat))
  rw [List.setIfInBounds_toArray, rowC_set] at this; exact this
theorem Row.own {w w' : World} {g n b : Nat} {f : Nat → Nat} (h : Row w g n f) (hO : Own b w w') (hn : g ≠ b) : Row w' g n f := hO.blk h hn
theorem Row.later {w w' : World} {g n : Nat} {f : Nat → Nat} (h : Row w g n f) (hb : Below w.heap.size w w') : Row w' g n f := Blk.below h hb (Blk.lt h)
theorem Row.lt {w : World} {g n : Nat} {f : Nat → Nat} (h : Row w g n f) : g < w.heap.size := Blk.lt h
theorem Row.drew {w : World} {g n : Nat} {f : Nat → Nat} (h : Row w g n f) : Row w.drew g n f := h
theorem info_u8 : (Tryz.prog.info? 5).map (fun i => (i.zero, i.size, i.bytes)) = some (some (.int .u8 0), 1, 1) := by kernel_rfl
theorem Own.grown {b : Nat} {w w1 w2 : World} (h : Own b w w1) (hg : w1.grownBy w2 none) : Own b w w2 :=
  h.trans ⟨hg.os, hg.tape, hg.output, hg.size, fun k hk _ => hg.block k hk (by simp)⟩
/-- The bytes of an owned row. -/
theorem row_cells {w : World} {base : Nat} {e : TypeId} {v : Value} {n : Nat} {xs : List Value} (h : w.ownsRow base e 1 v n xs) (hn : 0 < n) :
    ∃ g cap, v = .slice (some ⟨g, 0, none⟩) n cap ∧ base ≤ g ∧ n ≤ cap ∧ cap ≤ maxLen ∧ ∀ i, i < n → w.cell? ⟨g, i, none⟩ = xs[i]? := by
  rcases h.2 with ⟨_, h0⟩ | ⟨g, cap, cur, hv, hb, hh, hnc, hm, hsz, hcur⟩
  · omega
  · refine ⟨g, cap, hv, hb, hnc, hm, fun i hi => ?_⟩
    have h1 : w.cell? ⟨g, i, none⟩ = cur[i]? := by simp [World.cell?, hh]
    rw [h1, ← hcur, List.getElem?_take_of_lt (by omega)]
    simp
theorem owned_bytes {w : World} {base : Nat} {v : Value} {n : Nat} {f : Nat → Nat} (h : w.ownsRow base 5 1 v n (rowC n f)) (hf : ∀ i, i < n → f i < 256) :
    ∃ oa cap, v = .slice oa n cap ∧ Bytes w oa n f ∧ (∀ a, oa = some a → base ≤ a.block) := by
  by_cases h0 : n = 0
  · subst h0
    rcases h.2 with ⟨rfl, _⟩ | ⟨g, cap, cur, rfl, hb, _⟩
    · exact ⟨none, 0, rfl, fun k hk => absurd hk (Nat.not_lt_zero _), fun a h => by cases h⟩
    · exact ⟨_, cap, rfl, fun k hk => absurd hk (Nat.not_lt_zero _), fun a h => by cases h; exact hb⟩
  · obtain ⟨g, cap, rfl, hb, _, _, hc⟩ := row_cells h (by omega)
    exact ⟨_, cap, rfl, fun k hk => ⟨hf k hk, g, 0, rfl, by rw [Nat.zero_add, hc k hk, rowC_get f hk]⟩, fun a h => by cases h; exact hb⟩

/-- Bytes as a string. -/
def strF (n : Nat) (f : Nat → Nat) : ByteArray := strOfNums ((List.range n).map fun i => (f i : Int))
end Go.Proofs.YtncfocjmdecapaaGreatDoor
namespace Go.Proofs.YtncfocjmdecapaaGreatDoor
set_option linter.unusedVariables false
set_option linter.unusedSimpArgs false
open Go.RowKit
theorem Blk.setCells_any {b : Nat} {t : TypeId} : ∀ (vs : List Value) (o : Nat) (w : World) (D : Array Value), Blk w b D t → ∃ D', Blk (w.setCells b o vs) b D' t ∧ D'.size = D.size
  | [], _, _, D, h => ⟨D, h, rfl⟩
  | v :: r, o, w, D, h => by
    obtain ⟨D', h1, h2⟩ := Blk.setCells_any r (o + 1) (w.setCell ⟨b, o, none⟩ v) _ (h.set o v)
    exact ⟨D', h1, by rw [h2, Array.size_setIfInBounds]⟩
theorem Own.setCells {b : Nat} : ∀ (vs : List Value) (o : Nat) (w : World), Own b w (w.setCells b o vs)
  | [], _, w => Own.refl b w
  | v :: r, o, w => ((Own.refl b w).set o v).trans (Own.setCells r (o + 1) _)
/-- A block is stored over, all of it. -/
theorem Blk.setCells {w : World} {b : Nat} {D : Array Value} {t : TypeId} (h : Blk w b D t) (vs : List Value) (hs : vs.length = D.size) : Blk (w.setCells b 0 vs) b vs.toArray t := by
  obtain ⟨D', h1, h2⟩ := Blk.setCells_any vs 0 w D h
  have e : D' = vs.toArray := by
    refine Array.ext (by rw [h2, ← hs]; simp) fun j hj hj2 => ?_
    have hjl : j < vs.length := by simpa using hj2
    have hc := World.cell?_setCells_in b vs 0 w (fun i hi => by
      rw [Blk.cell h (0 + i), Array.getElem?_eq_getElem (by omega)]; rfl) j hjl
    rw [Blk.cell h1, Nat.zero_add, Array.getElem?_eq_getElem hj] at hc
    simpa using hc
  rw [← e]; exact h1
theorem Blk.there {w : World} {b : Nat} {D : Array Value} {t : TypeId} (h : Blk w b D t) {n : Nat} (hn : n ≤ D.size) : w.there b 0 n := fun j hj => by
  rw [Nat.zero_add, Blk.cell h j, Blk.free h j, Array.getElem?_eq_getElem (by omega)]
  exact ⟨rfl, rfl⟩
end Go.Proofs.YtncfocjmdecapaaGreatDoor
