/- Operations of a drawn region, taken one by one: wrappers. -/
import Derived.Test.YtgfjlgaleddoaaaGreatDoorBlk
import Derived.Deep.RegionHeld
import Derived.Lib.Hide
namespace Go.Proofs.YtgfjlgaleddoaaaGreatDoor
set_option linter.unusedVariables false
set_option linter.unusedSimpArgs false
open Go.RowKit
theorem zS {α : Type} : (∀ (l : List α) (i : Nat) (v : α), l.toArray.setIfInBounds i v = (l.set i v).toArray) ∧ (∀ (x : α) (l : List α) (v : α), (x :: l).set 0 v = v :: l) ∧ (∀ (x : α) (l : List α) (i : Nat) (v : α), (x :: l).set (i + 1) v = x :: l.set i v) :=
  ⟨fun _ _ _ => List.setIfInBounds_toArray .., fun _ _ _ => rfl, fun _ _ _ _ => rfl⟩
theorem wT {P : Go.Program} {ops : Array Go.Oper} {Q : Go.Exit → Go.Act → World → Prop} {md : Go.Region.Mode} {S : World → Prop} {d : Option Go.Tmp} {o : Go.Op} {t : Go.TypeId} {p : String} {f : Array Go.Edge} {g : Option (Nat × Bool)} {fuel : Nat} {l : Array Bool} {a : Act} {w : World} (i : Nat) (v : Value) (hi : ops[i]? = some ⟨d, o, t, p, f, g⟩)
    (hy : ∀ w, S w → (execOp a.eval ⟨d, o, t, p, f, g⟩).run P w = .ok (.value v) w)
    (h : wpAnyH P md ops Q S fuel (l.setIfInBounds i true) (a.put d v) w)
    (hg : Go.Region.wanted ⟨d, o, t, p, f, g⟩ (Go.yielded ops a.tmps) = true := by rfl)
    (hs : Go.Region.noSelect ops = true := by kernel_rfl) (hf : Go.Region.free md ops l i = true := by kernel_rfl) (hr : (Go.Region.ready md ops l).contains i = true := by kernel_rfl)
    (hQ : ∀ c a w, Q (.panic c) (a.put d v) w → Q (.panic c) a w := by exact fun _ _ _ h => h) (hS : S w := by assumption) : wpAnyH P md ops Q S (fuel + 1) l a w :=
  wpAnyH_take hi hs hf hr hQ (Or.inl ⟨hg, hy⟩) hS h
theorem aC {P : Go.Program} {ops : Array Go.Oper} {Q : Go.Exit → Go.Act → World → Prop} {md : Go.Region.Mode} {S : World → Prop} {fuel : Nat} {l : Array Bool} {a : Act} {w : World} {i : Nat} {d : Option Go.Tmp} {o : Go.Op} {t : Go.TypeId} {p : String} {f : Array Go.Edge} {g : Option (Nat × Bool)} {rs : List Nat} (ho : ops[i]? = some ⟨d, o, t, p, f, g⟩)
    (h : ∀ K' : Act → World → Prop, Go.Shut (∀ a w, S w → (S w → wpAnyH P md ops Q S fuel (l.setIfInBounds i true) a w) → K' a w) → if Go.Region.wanted ⟨d, o, t, p, f, g⟩ (Go.yielded ops a.tmps) = true then Go.Oper.wp P ⟨d, o, t, p, f, g⟩ a w K' Q else K' (a.put d Go.undef) w)
    (hs : Go.AllReadyH P md ops Q S fuel l a w rs) : Go.AllReadyH P md ops Q S fuel l a w (i :: rs) := Go.AllReadyH.cons ho h hs
theorem zh {p : Prop} (h : p) : Hid p := h
theorem zX {α : Sort _} (a : α) : ∃ q, a = q := ⟨a, rfl⟩
theorem zA {B : Nat} {w : World} {o : Obj} (h : B ≤ w.heap.size := by exact Nat.le_refl _) : Below B w (w.alloc o) := (Below.refl _ _).alloc h _
theorem wR {P : Go.Program} {ops : Array Go.Oper} {Q : Go.Exit → Go.Act → World → Prop} {md : Go.Region.Mode} {S : World → Prop} {fuel : Nat} {l : Array Bool} {a : Act} {w : World} (rs : List Nat) (h : Go.AllReadyH P md ops Q S fuel l a w rs) (hr : Go.Region.ready md ops l = rs := by kernel_rfl) (hn : rs ≠ [] := by simp) : wpAnyH P md ops Q S (fuel + 1) l a w := wpAnyH_ready hr hn h
theorem aN {P : Go.Program} {ops : Array Go.Oper} {Q : Go.Exit → Go.Act → World → Prop} {md : Go.Region.Mode} {S : World → Prop} {fuel : Nat} {l : Array Bool} {a : Act} {w : World} {i : Nat} {d : Option Go.Tmp} {o : Go.Op} {t : Go.TypeId} {p : String} {f : Array Go.Edge} {g : Option (Nat × Bool)} (ho : ops[i]? = some ⟨d, o, t, p, f, g⟩)
    (h : ∀ K' : Act → World → Prop, Go.Shut (∀ a w, S w → (S w → wpAnyH P md ops Q S fuel (l.setIfInBounds i true) a w) → K' a w) → if Go.Region.wanted ⟨d, o, t, p, f, g⟩ (Go.yielded ops a.tmps) = true then Go.Oper.wp P ⟨d, o, t, p, f, g⟩ a w K' Q else K' (a.put d Go.undef) w) : Go.AllReadyH P md ops Q S fuel l a w [i] := aC ho h AllReadyH.nil
theorem wU {P : Go.Program} {ops : Array Go.Oper} {Q : Go.Exit → Go.Act → World → Prop} {md : Go.Region.Mode} {S : World → Prop} {d : Option Go.Tmp} {o : Go.Op} {t : Go.TypeId} {p : String} {f : Array Go.Edge} {g : Option (Nat × Bool)} {fuel : Nat} {l : Array Bool} {a : Act} {w : World} (i : Nat) (hi : ops[i]? = some ⟨d, o, t, p, f, g⟩)
    (h : wpAnyH P md ops Q S fuel (l.setIfInBounds i true) (a.put d Go.undef) w)
    (hg : Go.Region.wanted ⟨d, o, t, p, f, g⟩ (Go.yielded ops a.tmps) = false := by rfl)
    (hs : Go.Region.noSelect ops = true := by kernel_rfl) (hf : Go.Region.free md ops l i = true := by kernel_rfl) (hr : (Go.Region.ready md ops l).contains i = true := by kernel_rfl)
    (hQ : ∀ c a w, Q (.panic c) (a.put d Go.undef) w → Q (.panic c) a w := by exact fun _ _ _ h => h) (hS : S w := by assumption) : wpAnyH P md ops Q S (fuel + 1) l a w :=
  wpAnyH_take hi hs hf hr hQ (Or.inr ⟨hg, rfl⟩) hS h
end Go.Proofs.YtgfjlgaleddoaaaGreatDoor
