/- Contracts of sync.Once's roads, of ready, and of the table's operations. -/
import Derived.Test.YtkcbckafibjflaaGreatDoorGfRun
namespace Go.Proofs.YtkcbckafibjflaaGreatDoor
set_option linter.unusedVariables false
set_option linter.unusedSimpArgs false
open Go.RowKit

set_option maxRecDepth 100000 in
set_option maxHeartbeats 1600000 in
theorem slow_any (b : Nat) (w : World) (h : Tab w b 0 0 (Pk 0) (Lk 0)) :
    Calls Tryz.prog 64 #[.pointer (some ⟨b, 0, none⟩), .func (.func 87) #[.pointer (some ⟨b, 0, none⟩)] #[]] w fun e w' => e = .returned (.tuple #[]) ∧ Tab w' b 1 0 (Pk 255) (Lk 255) ∧ Own b w w' := by
  have c1 : w.cell? ⟨b, 1, none⟩ = some (.int .i32 0) := h.cell 1
  have f1 : w.frozen? ⟨b, 1, none⟩ = false := Blk.free h.1 1
  have h1 := h.set_s 1
  have c0 : (w.setCell ⟨b, 1, none⟩ (.int .i32 1)).cell? ⟨b, 0, none⟩ = some (.int .u32 0) := h1.cell 0
  have hnot : ∀ (x : Bool) (w : World), (Op.unary .not (.bool x)).run Tryz.prog w = .ok (.bool (!x)) w := fun _ _ => rfl
  go_enter_defers Tryz.func64, Tryz.ntmps64
  go_wp2_with fail
  refine (lock_free ⟨b, 1, none⟩ _ c1 f1).mono ?_
  rintro e w' ⟨rfl, rfl⟩
  go_wp2_with fail
  refine (flag_load _ 0 false _ c0 rfl).mono ?_
  rintro e w' ⟨rfl, rfl⟩
  go_wp2_with fail
  refine (reckon_any b 0 1 _ h1).mono ?_
  rintro e w2 ⟨rfl, hT2, hO2⟩
  go_wp2_with fail
  refine leaves_cons (f := 71) (args := #[.pointer (some ⟨b, 0, none⟩), .bool true]) (by simp) (by simp [go_sem]) ?_
  refine (flag_deferred ⟨b, 0, none⟩ (.int .u32 0) .returning _ (hT2.cell 0) (Blk.free hT2.1 0)).mono ?_
  rintro e u' w'' ⟨rfl, rfl, rfl⟩
  have hT3 : Tab (w2.drew.setCell ⟨b, 0, none⟩ (.int .u32 1)) b 1 1 (Pk 255) (Lk 255) := Tab.set_d (w := w2.drew) hT2 1
  refine leaves_cons (f := 70) (args := #[.pointer (some ⟨b, 1, none⟩)]) (by simp [settle]) (by simp [go_sem]) ?_
  refine (unlock_deferred ⟨b, 1, none⟩ _ _ (hT3.cell 1) (Blk.free hT3.1 1)).mono ?_
  rintro e u' w'' ⟨rfl, rfl, rfl⟩
  simp [Leaves, settle, results, Tryz.results64]
  exact ⟨hT3.set_s 0, ((((Own.refl b w).set 1 _).trans hO2).drew.set 0 _).set 1 _⟩

/-- A table that was not asked yet, or is reckoned. -/
def TabIn (w : World) (b : Nat) : Prop := Tab w b 0 0 (Pk 0) (Lk 0) ∨ Tab w b 1 0 (Pk 255) (Lk 255)
theorem TabIn.own {w w' : World} {b c : Nat} (h : TabIn w b) (hO : Own c w w') (hn : b ≠ c) : TabIn w' b :=
  h.elim (fun t => .inl ⟨hO.blk t.1 hn, t.2⟩) (fun t => .inr ⟨hO.blk t.1 hn, t.2⟩)
theorem TabIn.lt {w : World} {b : Nat} (h : TabIn w b) : b < w.heap.size := h.elim (fun t => Blk.lt t.1) (fun t => Blk.lt t.1)
theorem TabIn.below {w w' : World} {b : Nat} (h : TabIn w b) (hO : Below w.heap.size w w') : TabIn w' b :=
  h.elim (fun t => .inl ⟨Blk.below t.1 hO (Blk.lt t.1), t.2⟩) (fun t => .inr ⟨Blk.below t.1 hO (Blk.lt t.1), t.2⟩)

set_option maxRecDepth 100000 in
set_option maxHeartbeats 1600000 in
theorem do_first (b : Nat) (w : World) (h : Tab w b 0 0 (Pk 0) (Lk 0)) :
    Calls Tryz.prog 61 #[.pointer (some ⟨b, 0, none⟩), .func (.func 87) #[.pointer (some ⟨b, 0, none⟩)] #[]] w fun e w' => e = .returned (.tuple #[]) ∧ Tab w' b 1 0 (Pk 255) (Lk 255) ∧ Own b w w' := by
  have hnot : ∀ (x : Bool) (w : World), (Op.unary .not (.bool x)).run Tryz.prog w = .ok (.bool (!x)) w := fun _ _ => rfl
  go_enter Tryz.func61, Tryz.ntmps61
  go_wp2_with fail
  refine (flag_load _ 0 false _ (h.cell 0) rfl).mono ?_
  rintro e w' ⟨rfl, rfl⟩
  go_wp2_with fail
  refine (slow_any b _ h).mono ?_
  rintro e w2 ⟨rfl, hT, hO⟩
  go_wp2_with fail
  go_end0
  exact ⟨rfl, hT, hO⟩

set_option maxHeartbeats 800000 in
theorem do_done (b : Nat) (f : Value) (w : World) (h : Tab w b 1 0 (Pk 255) (Lk 255)) :
    Calls Tryz.prog 61 #[.pointer (some ⟨b, 0, none⟩), f] w fun e w' => e = .returned (.tuple #[]) ∧ w = w' := by
  have hnot : ∀ (x : Bool) (w : World), (Op.unary .not (.bool x)).run Tryz.prog w = .ok (.bool (!x)) w := fun _ _ => rfl
  go_enter Tryz.func61, Tryz.ntmps61
  go_wp2_with fail
  refine (flag_load _ 1 true _ (h.cell 0) rfl).mono ?_
  rintro e w' ⟨rfl, rfl⟩
  go_wp2_with fail
  go_end0
  exact ⟨rfl, rfl⟩

set_option maxRecDepth 100000 in
set_option maxHeartbeats 800000 in
theorem ready_any (b : Nat) (w : World) (h : TabIn w b) :
    Calls Tryz.prog 78 #[.pointer (some ⟨b, 0, none⟩)] w fun e w' => e = .returned (.tuple #[]) ∧ Tab w' b 1 0 (Pk 255) (Lk 255) ∧ Own b w w' := by
  have hmf : ∀ (fn : Fn) (first cap : Array Value) (w : World), (Instr.makeFunc fn first cap).run Tryz.prog w = .ok (.func fn first cap) w := fun _ _ _ _ => rfl
  rcases h with h | h
  · obtain ⟨v0, c0⟩ := h.some (k := 0) (by omega)
    go_enter Tryz.func78, Tryz.ntmps78
    go_wp2_with fail
    refine (do_first b _ h).mono ?_
    rintro e w2 ⟨rfl, hT, hO⟩
    go_wp2_with fail
    go_end0
    exact ⟨rfl, hT, hO⟩
  · go_enter Tryz.func78, Tryz.ntmps78
    go_wp2_with fail
    refine (do_done b _ _ h).mono ?_
    rintro e w2 ⟨rfl, rfl⟩
    go_wp2_with fail
    go_end0
    exact ⟨rfl, h, Own.refl _ _⟩

end Go.Proofs.YtkcbckafibjflaaGreatDoor
