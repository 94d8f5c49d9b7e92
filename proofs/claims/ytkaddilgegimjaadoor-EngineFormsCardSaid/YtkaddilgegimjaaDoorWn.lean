/- What holds behind each step of a walk that makes new memory; blocks that are kept. -/
import Derived.Test.YtkaddilgegimjaaDoorAs
import Derived.Test.YtkaddilgegimjaaDoorBlk
namespace Go.Proofs.YtkaddilgegimjaaDoor
set_option linter.unusedVariables false
set_option linter.unusedSimpArgs false
open Go.RowKit

/-- New memory alone was made, and errors' variable holds what it held. -/
def Wn (w0 w : World) : Prop := Below w0.heap.size w0 w ∧ Handle w ∧ 0 < w0.heap.size
theorem Wn.new {w : World} (h : Handle w) : Wn w w := ⟨Below.refl _ _, h, h.2⟩
theorem Wn.handle {w0 w : World} (h : Wn w0 w) : Handle w := h.2.1
theorem Wn.bel {w0 w : World} (h : Wn w0 w) : Below w0.heap.size w0 w := h.1
theorem Wn.step {w0 w w' : World} (h : Wn w0 w) (hb : Below w.heap.size w w') : Wn w0 w' := ⟨h.1.trans (hb.mono h.1.size), h.2.1.later hb, h.2.2⟩
theorem Wn.alloc {w0 w : World} (h : Wn w0 w) (o : Obj) : Wn w0 (w.alloc o) := h.step ((Below.refl _ _).alloc (Nat.le_refl _) _)
theorem Wn.drew {w0 w : World} (h : Wn w0 w) : Wn w0 w.drew := ⟨⟨h.1.os, h.1.tape, h.1.output, h.1.size, h.1.block⟩, h.2.1.drew, h.2.2⟩
theorem Wn.at {w0 w w' : World} (h : Wn w0 w) (hB : Below w0.heap.size w w') : Wn w0 w' := ⟨h.1.trans hB, h.2.1.below hB h.2.2, h.2.2⟩
theorem Wn.set {w0 w : World} (h : Wn w0 w) {b : Nat} (hb : w0.heap.size ≤ b) (k : Nat) (v : Value) : Wn w0 (w.setCell ⟨b, k, none⟩ v) := h.at ((Below.refl _ _).setCell hb _)
theorem Wn.own {w0 w w' : World} {b : Nat} (h : Wn w0 w) (hO : Own b w w') (hb : w0.heap.size ≤ b) : Wn w0 w' := h.at (hO.below hb h.1.size)

theorem blk2 (w : World) (C D : Array Value) (t u : TypeId) : Blk ((w.alloc (.cells C t)).alloc (.cells D u)) w.heap.size C t := (Blk.new w C t).alloc _
theorem blk2' (w : World) (C D : Array Value) (t u : TypeId) : Blk ((w.alloc (.cells C t)).alloc (.cells D u)) (w.heap.size + 1) D u := by
  have := Blk.new (w.alloc (.cells C t)) D u
  simpa using this

/-- Blocks that are kept. -/
def Fr (w : World) (L : List (Nat × Array Value × TypeId)) : Prop := ∀ x ∈ L, Blk w x.1 x.2.1 x.2.2
theorem Fr.nil (w : World) : Fr w [] := fun x h => by cases h
theorem Fr.add {w : World} {L : List (Nat × Array Value × TypeId)} (h : Fr w L) {b : Nat} {C : Array Value} {t : TypeId} (hB : Blk w b C t) : Fr w ((b, C, t) :: L) := fun x hx => by
  rcases List.mem_cons.1 hx with rfl | hx
  · exact hB
  · exact h x hx
theorem Fr.later {w w' : World} {L : List (Nat × Array Value × TypeId)} (h : Fr w L) (hb : Below w.heap.size w w') : Fr w' L := fun x hx => Blk.below (h x hx) hb (Blk.lt (h x hx))
theorem Fr.alloc {w : World} {L : List (Nat × Array Value × TypeId)} (h : Fr w L) (o : Obj) : Fr (w.alloc o) L := fun x hx => Blk.alloc (h x hx) o
theorem Fr.new {w : World} {L : List (Nat × Array Value × TypeId)} (h : Fr w L) (C : Array Value) (t : TypeId) : Fr (w.alloc (.cells C t)) ((w.heap.size, C, t) :: L) := (h.alloc _).add (Blk.new _ _ _)
theorem Fr.blk {w : World} {L : List (Nat × Array Value × TypeId)} (h : Fr w L) (i : Nat) {b : Nat} {C : Array Value} {t : TypeId} (hi : L[i]? = some (b, C, t)) : Blk w b C t := h _ (List.mem_of_getElem? hi)
theorem Fr.cell {w : World} {L : List (Nat × Array Value × TypeId)} (h : Fr w L) (i k : Nat) {b : Nat} {C : Array Value} {t : TypeId} {v : Value} (hi : L[i]? = some (b, C, t)) (hk : C[k]? = some v) : w.cell? ⟨b, k, none⟩ = some v := by
  rw [Blk.cell (h.blk i hi) k]; exact hk
end Go.Proofs.YtkaddilgegimjaaDoor
