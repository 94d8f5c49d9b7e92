/- What holds behind each step of a walk that has a table. -/
import Derived.Test.YtmhofofidmbgfaaDoorGfNew
import Derived.Test.YtmhofofidmbgfaaDoorAs
namespace Go.Proofs.YtmhofofidmbgfaaDoor
set_option linter.unusedVariables false
set_option linter.unusedSimpArgs false
open Go.RowKit

/-- Behind each step of a walk: the table is there, errors' variable holds what it held, and new memory alone was made. -/
def St (w0 w : World) : Prop := TabIn w w0.heap.size ∧ Handle w ∧ Below w0.heap.size w0 w ∧ 0 < w0.heap.size
theorem St.new {w0 w : World} (h : Handle w0) (hT : TabIn w w0.heap.size) (hB : Below w0.heap.size w0 w) : St w0 w := ⟨hT, h.later hB, hB, h.2⟩
theorem St.tab {w0 w : World} (h : St w0 w) : TabIn w w0.heap.size := h.1
theorem St.handle {w0 w : World} (h : St w0 w) : Handle w := h.2.1
theorem St.bel {w0 w : World} (h : St w0 w) : Below w0.heap.size w0 w := h.2.2.1
theorem St.left {w0 w w' : World} (h : St w0 w) (hl : Left w0.heap.size w w') : St w0 w' :=
  have hb : Below w0.heap.size w w' := hl.2.below (Nat.le_refl _) h.2.2.1.size
  ⟨hl.1, h.2.1.below hb h.2.2.2, h.2.2.1.trans hb, h.2.2.2⟩
theorem St.later {w0 w w' : World} (h : St w0 w) (hb : Below w.heap.size w w') : St w0 w' :=
  ⟨h.1.below hb, h.2.1.later hb, h.2.2.1.trans (hb.mono h.2.2.1.size), h.2.2.2⟩
theorem St.alloc {w0 w : World} (h : St w0 w) (o : Obj) : St w0 (w.alloc o) := h.later ((Below.refl _ _).alloc (Nat.le_refl _) _)
theorem St.drew {w0 w : World} (h : St w0 w) : St w0 w.drew := ⟨h.1, h.2.1.drew, ⟨h.2.2.1.os, h.2.2.1.tape, h.2.2.1.output, h.2.2.1.size, h.2.2.1.block⟩, h.2.2.2⟩
end Go.Proofs.YtmhofofidmbgfaaDoor
