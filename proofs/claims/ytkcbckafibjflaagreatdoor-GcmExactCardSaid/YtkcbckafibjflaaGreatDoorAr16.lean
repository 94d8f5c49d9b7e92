/- Arrays of 16 bytes in memory. -/
import Derived.Test.YtkcbckafibjflaaGreatDoorB16
namespace Go.Proofs.YtkcbckafibjflaaGreatDoor
set_option linter.unusedVariables false
set_option linter.unusedSimpArgs false
open Go.RowKit

/-- A block of 16 bytes, as memory has it. -/
def A16 (w : World) (g : Nat) (f : Nat → Nat) : Prop := Blk w g (rowC 16 f).toArray 40
theorem A16.cell {w : World} {g : Nat} {f : Nat → Nat} (h : A16 w g f) {i : Nat} (hi : i < 16) : w.cell? ⟨g, i, none⟩ = some (.int .u8 (f i : Nat)) := by
  rw [Blk.cell h i]; simpa using rowC_get f hi
theorem A16.set {w : World} {g : Nat} {f : Nat → Nat} (h : A16 w g f) (k x : Nat) : A16 (w.setCell ⟨g, k, none⟩ (.int .u8 (x : Nat))) g (upd f k x) := by
  have := Blk.set h k (.int .u8 (x : Nat))
  rw [List.setIfInBounds_toArray, rowC_set] at this; exact this
theorem A16.congr {w : World} {g : Nat} {f f' : Nat → Nat} (h : A16 w g f) (he : ∀ i, i < 16 → f i = f' i) : A16 w g f' := by
  unfold A16 at h ⊢; rw [← rowC_congr he]; exact h
theorem zero16a_run (w : World) : (zeroValue 40).run Tryz.prog w = .ok (.agg zero16) w := by kernel_rfl
theorem size16a : (Tryz.prog.info? 40).map (·.size) = some 16 := by kernel_rfl
theorem info16a (f : Nat → Nat) : (Tryz.prog.info? 40).map (·.size) = some (rowC 16 f).toArray.size := by rw [size_row]; exact size16a
/-- What a block is, stored over another one. -/
theorem A16.store {w : World} {g : Nat} {f : Nat → Nat} (h : A16 w g f) (f' : Nat → Nat) : A16 (w.setCells g 0 (rowC 16 f').toArray.toList) g f' := by
  unfold A16 at h ⊢
  exact Blk.setCells h (rowC 16 f') (by rw [size_row, rowC_len])
theorem A16.there {w : World} {g : Nat} {f : Nat → Nat} (h : A16 w g f) (f' : Nat → Nat) : w.there g 0 (rowC 16 f').toArray.size := by
  rw [size_row]; exact Blk.there h (by rw [size_row]; exact Nat.le_refl _)

/-- Some arrays of 16 bytes, each with its cells. -/
def SA (L : List (Nat × Array Value)) (w : World) : Prop := ∀ p ∈ L, Blk w p.1 p.2 40
theorem SA.later {L : List (Nat × Array Value)} {w w' : World} (h : SA L w) (hb : Below w.heap.size w w') : SA L w' := fun p hp => Blk.below (h p hp) hb (Blk.lt (h p hp))
theorem SA.drew {L : List (Nat × Array Value)} {w : World} (h : SA L w) : SA L w.drew := h
theorem SA.h0 {p : Nat × Array Value} {L : List (Nat × Array Value)} {w : World} (h : SA (p :: L) w) : Blk w p.1 p.2 40 := h p (by simp)
theorem SA.tl {p : Nat × Array Value} {L : List (Nat × Array Value)} {w : World} (h : SA (p :: L) w) : SA L w := fun q hq => h q (by simp [hq])
theorem SA.nil (w : World) : SA [] w := fun p hp => by cases hp
theorem SA.cons {g : Nat} {C : Array Value} {L : List (Nat × Array Value)} {w : World} (h : Blk w g C 40) (hl : SA L w) : SA ((g, C) :: L) w := fun p hp => by
  rcases List.mem_cons.1 hp with rfl | hp
  · exact h
  · exact hl p hp
theorem SA.set {L : List (Nat × Array Value)} {w : World} {g : Nat} (h : SA L w) (hn : ∀ p ∈ L, p.1 ≠ g) (vs : List Value) : SA L (w.setCells g 0 vs) := fun p hp =>
  (Own.setCells vs 0 w).blk (h p hp) (hn p hp)
theorem SA.lt {L : List (Nat × Array Value)} {w : World} (h : SA L w) : ∀ p ∈ L, p.1 ≠ w.heap.size := fun p hp => Nat.ne_of_lt (Blk.lt (h p hp))
theorem ld16a {w : World} {g : Nat} {C : Array Value} (h : Blk w g C 40) (hs : (Tryz.prog.info? 40).map (·.size) = some C.size) : (loadVar 40 ⟨g, 0, none⟩).run Tryz.prog w = .ok (.agg C) w :=
  run_loadVar_row w g 40 40 C (0, 0) _ h Tryz.underlying40 rfl hs
theorem exec_load16a {o : Oper} {a : Act} {w : World} {g : Nat} {C : Array Value} {x : Operand} (ho : o.op = .load 40 x) (hx : a.eval x = .pointer (some ⟨g, 0, none⟩)) (h : (loadVar 40 ⟨g, 0, none⟩).run Tryz.prog w = .ok (.agg C) w) : (execOp a.eval o).run Tryz.prog w = .ok (.value (.agg C)) w := by
  unfold execOp
  simp only [ho, hx, Instr.loadAt, Instr.sureAddr, Sem.run_bind, Sem.run_pure, Result.andThen_ok, h]
theorem step_load16a {ops : Array Oper} {o : Oper} {a : Act} {w : World} {K : Act → World → Prop} {Q : Exit → Act → World → Prop} {E : Prop} (hgd : o.guard = none) (x : Operand) (ho : o.op = .load 40 x) (g : Nat) (hx : a.eval x = .pointer (some ⟨g, 0, none⟩)) (C : Array Value) (hB : Blk w g C 40) (hs : (Tryz.prog.info? 40).map (·.size) = some C.size)
    (h : K (a.put o.dst (.agg C)) w) : if Region.wanted o (yielded ops a.tmps) = true then Oper.wp Tryz.prog o a w K Q else E := by
  have hw : Region.wanted o (yielded ops a.tmps) = true := by simp [Region.wanted, hgd]
  rw [if_pos hw]
  exact wp_load_row 40 x ho g hx 40 C (0, 0) _ hB Tryz.underlying40 rfl hs h
theorem step_store16a {ops : Array Oper} {o : Oper} {a : Act} {w : World} {K : Act → World → Prop} {Q : Exit → Act → World → Prop} {E : Prop} (hgd : o.guard = none) (x y : Operand) (ho : o.op = .store 40 x y) (g : Nat) (hx : a.eval x = .pointer (some ⟨g, 0, none⟩)) (C D : Array Value) (hy : a.eval y = .agg C) (hB : Blk w g D 40) (hC : ∃ f, C = (rowC 16 f).toArray) (hD : ∃ f, D = (rowC 16 f).toArray)
    (h : K (a.put o.dst undef) (w.setCells g 0 C.toList)) : if Region.wanted o (yielded ops a.tmps) = true then Oper.wp Tryz.prog o a w K Q else E := by
  have hw : Region.wanted o (yielded ops a.tmps) = true := by simp [Region.wanted, hgd]
  rw [if_pos hw]
  obtain ⟨f, rfl⟩ := hC
  obtain ⟨f', rfl⟩ := hD
  exact wp_store_mid 40 x y ho g 0 _ hx hy (A16.there hB f) (info16a f) (one16 f) h
theorem Blk.store16a {w : World} {g : Nat} {C D : Array Value} (hB : Blk w g D 40) (hC : ∃ f, C = (rowC 16 f).toArray) (hD : ∃ f, D = (rowC 16 f).toArray) : Blk (w.setCells g 0 C.toList) g C 40 := by
  obtain ⟨f, rfl⟩ := hC
  obtain ⟨f', rfl⟩ := hD
  exact A16.store hB f
theorem exec_builda {o : Oper} {a : Act} {w : World} {C : Array Value} {parts : Array (Nat × Operand)} {ps : Array (Nat × Value)} (ho : o.op = .build 40 parts) (hp : (parts.map fun (i, x) => (i, a.eval x)) = ps) (h : ∀ w, (Instr.build 40 ps).run Tryz.prog w = .ok (.agg C) w) : (execOp a.eval o).run Tryz.prog w = .ok (.value (.agg C)) w := by
  unfold execOp
  simp only [ho, hp, Sem.run_bind, h, Result.andThen_ok]
  rfl
theorem wpList_build16a {ops : Array Oper} {rest : List Oper} {o : Oper} {a : Act} {w : World} {Q : Exit → Act → World → Prop} {C : Array Value} (hgd : o.guard = none) (parts : Array (Nat × Operand)) (ps : Array (Nat × Value)) (ho : o.op = .build 40 parts) (hp : (parts.map fun (i, x) => (i, a.eval x)) = ps) (h : ∀ w, (Instr.build 40 ps).run Tryz.prog w = .ok (.agg C) w)
    (hk : wpList Tryz.prog ops Q rest (a.put o.dst (.agg C)) w) : wpList Tryz.prog ops Q (o :: rest) a w := by
  refine wpList_plain hgd fun K hK => ?_
  unfold Oper.wp
  rw [exec_builda ho hp h]
  exact hK _ _ hk
theorem wpList_store16a {ops : Array Oper} {rest : List Oper} {o : Oper} {a : Act} {w : World} {Q : Exit → Act → World → Prop} (hgd : o.guard = none) (x y : Operand) (ho : o.op = .store 40 x y) (g : Nat) (hx : a.eval x = .pointer (some ⟨g, 0, none⟩)) (C D : Array Value) (hy : a.eval y = .agg C) (hB : Blk w g D 40) (hC : ∃ f, C = (rowC 16 f).toArray) (hD : ∃ f, D = (rowC 16 f).toArray)
    (h : wpList Tryz.prog ops Q rest (a.put o.dst undef) (w.setCells g 0 C.toList)) : wpList Tryz.prog ops Q (o :: rest) a w := by
  obtain ⟨f, rfl⟩ := hC
  obtain ⟨f', rfl⟩ := hD
  exact wpList_store_mid hgd 40 x y ho g 0 _ hx hy (A16.there hB f) (info16a f) (one16 f) h
theorem build_nonea (w : World) : (Instr.build 40 #[]).run Tryz.prog w = .ok (.agg zero16) w := run_build w 40 #[] zero16 (by kernel_rfl)
theorem wpList_load16a {ops : Array Oper} {rest : List Oper} {o : Oper} {a : Act} {w : World} {Q : Exit → Act → World → Prop} (hgd : o.guard = none) (x : Operand) (ho : o.op = .load 40 x) (g : Nat) (hx : a.eval x = .pointer (some ⟨g, 0, none⟩)) (C : Array Value) (hB : Blk w g C 40) (hC : ∃ f, C = (rowC 16 f).toArray)
    (h : wpList Tryz.prog ops Q rest (a.put o.dst (.agg C)) w) : wpList Tryz.prog ops Q (o :: rest) a w := by
  obtain ⟨f, rfl⟩ := hC
  exact wpList_load_row hgd 40 x ho g hx 40 _ (0, 0) _ hB Tryz.underlying40 rfl (info16a f) h
theorem res16a {fn : Func} {p : Tmp} (h : fn.results = #[.cell p 40]) (tmps : Array Value) (w : World) (g : Nat) (C : Array Value) (hp : tmps.getD p undef = .pointer (some ⟨g, 0, none⟩)) (hB : Blk w g C 40) (hC : ∃ f, C = (rowC 16 f).toArray) :
    (results fn tmps).run Tryz.prog w = .ok (.agg C) w := by
  obtain ⟨f, rfl⟩ := hC
  exact results_cell_row h tmps w g 40 _ (0, 0) _ hp hB Tryz.underlying40 rfl (info16a f)
end Go.Proofs.YtkcbckafibjflaaGreatDoor
