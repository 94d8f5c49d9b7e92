/- Still walks, shut; lists later on; rows that read as strings; errors and their numbers. -/
import Derived.Test.YtgfjlgaleddoaaaGreatDoorGen
import Derived.Test.YtgfjlgaleddoaaaGreatDoorLbs
namespace Go.Proofs.YtgfjlgaleddoaaaGreatDoor
set_option linter.unusedVariables false
set_option linter.unusedSimpArgs false
open Go.RowKit

/-- A still walk, shut. -/
@[irreducible] def WS (ops : Array Oper) (w : World) (Q : Act → Prop) (l : List Oper) (a : Act) : Prop := wpStill Tryz.prog ops w Q l a
theorem WS.out {ops : Array Oper} {w : World} {Q : Act → Prop} {l : List Oper} {a : Act} (h : WS ops w Q l a) : wpStill Tryz.prog ops w Q l a := by unfold WS at h; exact h
theorem WS.of {ops : Array Oper} {w : World} {Q : Act → Prop} {l : List Oper} {a : Act} (h : wpStill Tryz.prog ops w Q l a) : WS ops w Q l a := by unfold WS; exact h
theorem WS.lit {id : Nat} {Q : Exit → Act → World → Prop} {a : Act} {w : World} {l : List Oper} (hm : Tryz.prog.follows .mixedOrders = true) (hB : Region.lexB .any l.toArray = true)
    (h : WS l.toArray w.drew (fun a' => Q .normal a' w.drew) l a) : (Code.region id l.toArray true).wp Tryz.prog Q a w := still_lit hm hB h.out
theorem WS.nil {ops : Array Oper} {w : World} {Q : Act → Prop} {a : Act} (h : Q a) : WS ops w Q [] a := .of (wpStill_nil h)
theorem WS.val {ops : Array Oper} {rest : List Oper} {o : Oper} {a : Act} {w : World} {Q : Act → Prop} {v : Value} (hw : Region.wanted o (yielded ops a.tmps) = true) (he : (execOp a.eval o).run Tryz.prog w = .ok (.value v) w)
    (hk : WS ops w Q rest (a.put o.dst v)) : WS ops w Q (o :: rest) a := .of (wpStill_valueG hw he hk.out)
theorem WS.skip {ops : Array Oper} {rest : List Oper} {o : Oper} {a : Act} {w : World} {Q : Act → Prop} (hw : Region.wanted o (yielded ops a.tmps) = false)
    (hk : WS ops w Q rest (a.put o.dst undef)) : WS ops w Q (o :: rest) a := .of (by
  refine wpStill_step fun K hK => ?_
  rw [if_neg (by rw [hw]; exact Bool.false_ne_true)]
  exact hK _ hk.out)
theorem LBs.later {w w' : World} {oa : Option Addr} {n : Nat} {L : Nat → Nat} {G : Nat → Nat → Nat} (h : LBs w oa n L G) (hb : Below w.heap.size w w') : LBs w' oa n L G := fun i hi => by
  obtain ⟨b, off, od, cp, h1, h2, h3, h4, h5, h6⟩ := h i hi
  exact ⟨b, off, od, cp, h1, cell_below hb h2, h3, h4.later hb, h5, h6⟩
theorem LBs.congr {w : World} {oa : Option Addr} {n : Nat} {L L' : Nat → Nat} {G G' : Nat → Nat → Nat} (h : LBs w oa n L G) (hl : ∀ i, i < n → L i = L' i) (hg : ∀ i, i < n → ∀ k, k < L i → G i k = G' i k) : LBs w oa n L' G' := fun i hi => by
  obtain ⟨b, off, od, cp, h1, h2, h3, h4, h5, h6⟩ := h i hi
  rw [hl i hi] at h2 h3 h5
  refine ⟨b, off, od, cp, h1, h2, h3, fun k hk => ?_, h5, h6⟩
  obtain ⟨g1, g2⟩ := h4 k (by rw [hl i hi]; exact hk)
  rw [hg i hi k (by rw [hl i hi]; exact hk)] at g1 g2
  exact ⟨g1, g2⟩
theorem LBs.zero (w : World) (oa : Option Addr) (L : Nat → Nat) (G : Nat → Nat → Nat) : LBs w oa 0 L G := fun i hi => absurd hi (Nat.not_lt_zero _)
/-- A row of bytes that reads as a string. -/
def CV (w : World) (o : Option Addr) (m : Nat) (S : ByteArray) : Prop := ∃ F, Bytes w o m F ∧ (o = none → m = 0) ∧ strF m F = S
theorem CV.later {w w' : World} {o : Option Addr} {m : Nat} {S : ByteArray} (h : CV w o m S) (hb : Below w.heap.size w w') : CV w' o m S := by
  obtain ⟨F, h1, h2, h3⟩ := h; exact ⟨F, h1.later hb, h2, h3⟩
theorem CV.conv {w : World} {o : Option Addr} {m c : Nat} {S : ByteArray} (h : CV w o m S) : (convert 25 9 (.slice o m c)).run Tryz.prog w = .ok (.string S) w := by
  obtain ⟨F, h1, h2, rfl⟩ := h; exact conv_any h1 h2
theorem CV.none (w : World) : CV w none 0 ⟨#[]⟩ := ⟨fun _ => 0, fun k hk => absurd hk (Nat.not_lt_zero _), fun _ => rfl, rfl⟩
/-- An error and its number. -/
def Er (v : Value) (k : Nat) : Prop := (v = .nilIface ∧ k = 0) ∨ (v = .iface 70 (.int .i64 (k : Nat)) ∧ 0 < k)
theorem Er.nil {v : Value} {k : Nat} (h : Er v k) (h0 : k = 0) : v = .nilIface := by
  rcases h with ⟨h, _⟩ | ⟨_, h⟩
  · exact h
  · omega
theorem Er.some {v : Value} {k : Nat} (h : Er v k) (h0 : 0 < k) : v = .iface 70 (.int .i64 (k : Nat)) := by
  rcases h with ⟨_, h⟩ | ⟨h, _⟩
  · omega
  · exact h
theorem cell_new {w : World} {C : Array Value} {t : TypeId} {fr : Nat × Nat} {b k : Nat} (h : b = w.heap.size) : (w.alloc (.cells C t fr)).cell? ⟨b, k, none⟩ = C[k]? := by
  subst h; exact World.cell?_alloc_mark w C t fr k
theorem cell_old {w : World} {o : Obj} {b k : Nat} (h : b < w.heap.size) : (w.alloc o).cell? ⟨b, k, none⟩ = w.cell? ⟨b, k, none⟩ :=
  World.cell?_alloc_lt _ _ ⟨b, k, none⟩ h
end Go.Proofs.YtgfjlgaleddoaaaGreatDoor
