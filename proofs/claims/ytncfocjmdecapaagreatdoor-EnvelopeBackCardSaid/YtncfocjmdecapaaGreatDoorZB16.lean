/- Blocks of 16 bytes in memory, whole and byte by byte; laws at an operation. -/
import Derived.Lib.Hide
import Derived.IntWalk
import Derived.RegionTactic
import Derived.Laws.BitsLemmas
import Derived.Laws.BitsAllLaws
import Derived.Outline
import Derived.ChangeKeysEq
import Derived.Laws.StructEq
import Derived.Laws.CopyOwn
import Derived.Deep.RegionHeld3
import Derived.Deep.DeepCutAuto
import Derived.Test.YtncfocjmdecapaaGreatDoorZB0
import Derived.Test.YtncfocjmdecapaaGreatDoorZS1
import Derived.Test.YtncfocjmdecapaaGreatDoorZS2
import Derived.Test.YtncfocjmdecapaaGreatDoorZSh4
import Derived.Test.YtncfocjmdecapaaGreatDoorZA0
import Derived.Test.YtncfocjmdecapaaGreatDoorZS5
import Derived.Test.YtncfocjmdecapaaGreatDoorZSh7
import Derived.Test.YtncfocjmdecapaaGreatDoorZS8
import Derived.Test.YtncfocjmdecapaaGreatDoorZHm2
import Derived.Test.YtncfocjmdecapaaGreatDoorZAs
import Derived.Test.YtncfocjmdecapaaGreatDoorZR0
namespace Go.Proofs.YtncfocjmdecapaaGreatDoor
set_option linter.unusedVariables false
set_option linter.unusedSimpArgs false
open Go.RowKit
/-- A block of 16 bytes, as memory has it. -/
def B16 (w : World) (g : Nat) (f : Nat → Nat) : Prop := Blk w g (rowC 16 f).toArray 82
theorem B16.cell {w : World} {g : Nat} {f : Nat → Nat} (h : B16 w g f) {i : Nat} (hi : i < 16) : w.cell? ⟨g, i, none⟩ = some (.int .u8 (f i : Nat)) := by
  rw [Blk.cell h i]; simpa using rowC_get f hi
theorem B16.set {w : World} {g : Nat} {f : Nat → Nat} (h : B16 w g f) (k x : Nat) : B16 (w.setCell ⟨g, k, none⟩ (.int .u8 (x : Nat))) g (upd f k x) := by
  have := Blk.set h k (.int .u8 (x : Nat))
  rw [List.setIfInBounds_toArray, rowC_set] at this; exact this
theorem B16.congr {w : World} {g : Nat} {f f' : Nat → Nat} (h : B16 w g f) (he : ∀ i, i < 16 → f i = f' i) : B16 w g f' := by
  unfold B16 at h ⊢; rw [← rowC_congr he]; exact h
def zero16 : Array Value := (rowC 16 (fun _ => 0)).toArray
theorem zero16_run (w : World) : (zeroValue 82).run Tryz.prog w = .ok (.agg zero16) w := by kernel_rfl
theorem size16 : (Tryz.prog.info? 82).map (·.size) = some 16 := by kernel_rfl
theorem one16 (f : Nat → Nat) : (rowC 16 f).toArray.all (·.oneCell') = true := all_oneCell_toArray (rowC_one _ _)
theorem size_row (f : Nat → Nat) : (rowC 16 f).toArray.size = 16 := by rw [List.size_toArray, rowC_len]
theorem info16 (f : Nat → Nat) : (Tryz.prog.info? 82).map (·.size) = some (rowC 16 f).toArray.size := by rw [size_row]; exact size16
/-- What a block is, stored over another one. -/
theorem B16.store {w : World} {g : Nat} {f : Nat → Nat} (h : B16 w g f) (f' : Nat → Nat) : B16 (w.setCells g 0 (rowC 16 f').toArray.toList) g f' := by
  unfold B16 at h ⊢
  exact Blk.setCells h (rowC 16 f') (by rw [size_row, rowC_len])
theorem B16.there {w : World} {g : Nat} {f : Nat → Nat} (h : B16 w g f) (f' : Nat → Nat) : w.there g 0 (rowC 16 f').toArray.size := by
  rw [size_row]; exact Blk.there h (by rw [size_row]; exact Nat.le_refl _)

theorem ld16 {w : World} {g : Nat} {C : Array Value} (h : Blk w g C 82) (hs : (Tryz.prog.info? 82).map (·.size) = some C.size) : (loadVar 82 ⟨g, 0, none⟩).run Tryz.prog w = .ok (.agg C) w :=
  run_loadVar_row w g 82 82 C (0, 0) _ h Tryz.underlying82 rfl hs
theorem exec_load16 {o : Oper} {a : Act} {w : World} {g : Nat} {C : Array Value} {x : Operand} (ho : o.op = .load 82 x) (hx : a.eval x = .pointer (some ⟨g, 0, none⟩)) (h : (loadVar 82 ⟨g, 0, none⟩).run Tryz.prog w = .ok (.agg C) w) : (execOp a.eval o).run Tryz.prog w = .ok (.value (.agg C)) w := by
  unfold execOp
  simp only [ho, hx, Instr.loadAt, Instr.sureAddr, Sem.run_bind, Sem.run_pure, Result.andThen_ok, h]
/-- Some blocks, each with its cells. -/
def SL (L : List (Nat × Array Value)) (w : World) : Prop := ∀ p ∈ L, Blk w p.1 p.2 82
theorem SL.later {L : List (Nat × Array Value)} {w w' : World} (h : SL L w) (hb : Below w.heap.size w w') : SL L w' := fun p hp => Blk.below (h p hp) hb (Blk.lt (h p hp))
theorem SL.drew {L : List (Nat × Array Value)} {w : World} (h : SL L w) : SL L w.drew := h
theorem SL.h0 {p : Nat × Array Value} {L : List (Nat × Array Value)} {w : World} (h : SL (p :: L) w) : Blk w p.1 p.2 82 := h p (by simp)
theorem SL.tl {p : Nat × Array Value} {L : List (Nat × Array Value)} {w : World} (h : SL (p :: L) w) : SL L w := fun q hq => h q (by simp [hq])
theorem SL.nil (w : World) : SL [] w := fun p hp => by cases hp
theorem SL.cons {g : Nat} {C : Array Value} {L : List (Nat × Array Value)} {w : World} (h : Blk w g C 82) (hl : SL L w) : SL ((g, C) :: L) w := fun p hp => by
  rcases List.mem_cons.1 hp with rfl | hp
  · exact h
  · exact hl p hp

/-- Blocks, cell by cell: are they the same? -/
def eqF (f g : Nat → Nat) : Bool := (List.range 16).all fun i => f i == g i
theorem eqF_iff {f g : Nat → Nat} : eqF f g = true ↔ ∀ i, i < 16 → f i = g i := by
  unfold eqF; rw [List.all_eq_true]
  constructor
  · intro h i hi; simpa using h i (List.mem_range.2 hi)
  · intro h i hi; simpa using h i (List.mem_range.1 hi)
theorem items16 (f g : Nat → Nat) (w : World) : ∀ is : List Nat, (∀ i ∈ is, i < 16) → (Op.eqItems 9999 5 1 (rowC 16 f).toArray (rowC 16 g).toArray is).run Tryz.prog w = .ok (is.all fun i => f i == g i) w
  | [], _ => rfl
  | i :: is, h => by
    have hi : i < 16 := h i (by simp)
    have p1 : (rowC 16 f).toArray[i * 1]? = some (.int .u8 (f i : Nat)) := by simpa using rowC_get f hi
    have p2 : (rowC 16 g).toArray[i * 1]? = some (.int .u8 (g i : Nat)) := by simpa using rowC_get g hi
    have hu : Tryz.prog.underlying 5 = some (.int .u8) := Tryz.underlying5
    simp only [Op.eqItems, Sem.run_bind, run_part_plain w plain_u8 p1, run_part_plain w plain_u8 p2, Result.andThen_ok, run_equalIn_int w 9998 _ .u8 .u8 _ _ hu]
    have ih := items16 f g w is (fun j hj => h j (by simp [hj]))
    by_cases e : f i = g i
    · have : ((f i : Int) == (g i : Int)) = true := by simp [e]
      rw [this]
      simp [ih, e]
    · have : ((f i : Int) == (g i : Int)) = false := by
        rw [beq_eq_false_iff_ne]; omega
      rw [this]
      simp [e]
set_option maxRecDepth 100000 in
theorem eq16 (f g : Nat → Nat) (w : World) : (Op.equalIn 10000 82 (.agg (rowC 16 f).toArray) (.agg (rowC 16 g).toArray)).run Tryz.prog w = .ok (eqF f g) w := by
  obtain ⟨i, hi⟩ : ∃ i, Tryz.prog.info? 5 = some i := ⟨_, rfl⟩
  rw [run_equalIn_array w 9999 _ _ (e := 5) (n := 16) (t := 82) Tryz.underlying82 hi, cells_u8]
  exact items16 f g w _ (fun i hi => List.mem_range.1 hi)
theorem guard16 : Tryz.prog.eqGuardType Tryz.prog.depth 82 = false := by kernel_rfl

theorem SL.set {L : List (Nat × Array Value)} {w : World} {g : Nat} (h : SL L w) (hn : ∀ p ∈ L, p.1 ≠ g) (vs : List Value) : SL L (w.setCells g 0 vs) := fun p hp =>
  (Own.setCells vs 0 w).blk (h p hp) (hn p hp)
theorem step_load16 {ops : Array Oper} {o : Oper} {a : Act} {w : World} {K : Act → World → Prop} {Q : Exit → Act → World → Prop} {E : Prop} (hgd : o.guard = none) (x : Operand) (ho : o.op = .load 82 x) (g : Nat) (hx : a.eval x = .pointer (some ⟨g, 0, none⟩)) (C : Array Value) (hB : Blk w g C 82) (hs : (Tryz.prog.info? 82).map (·.size) = some C.size)
    (h : K (a.put o.dst (.agg C)) w) : if Region.wanted o (yielded ops a.tmps) = true then Oper.wp Tryz.prog o a w K Q else E := by
  have hw : Region.wanted o (yielded ops a.tmps) = true := by simp [Region.wanted, hgd]
  rw [if_pos hw]
  exact wp_load_row 82 x ho g hx 82 C (0, 0) _ hB Tryz.underlying82 rfl hs h
theorem step_store16 {ops : Array Oper} {o : Oper} {a : Act} {w : World} {K : Act → World → Prop} {Q : Exit → Act → World → Prop} {E : Prop} (hgd : o.guard = none) (x y : Operand) (ho : o.op = .store 82 x y) (g : Nat) (hx : a.eval x = .pointer (some ⟨g, 0, none⟩)) (C D : Array Value) (hy : a.eval y = .agg C) (hB : Blk w g D 82) (hC : ∃ f, C = (rowC 16 f).toArray) (hD : ∃ f, D = (rowC 16 f).toArray)
    (h : K (a.put o.dst undef) (w.setCells g 0 C.toList)) : if Region.wanted o (yielded ops a.tmps) = true then Oper.wp Tryz.prog o a w K Q else E := by
  have hw : Region.wanted o (yielded ops a.tmps) = true := by simp [Region.wanted, hgd]
  rw [if_pos hw]
  obtain ⟨f, rfl⟩ := hC
  obtain ⟨f', rfl⟩ := hD
  exact wp_store_mid 82 x y ho g 0 _ hx hy (B16.there hB f) (info16 f) (one16 f) h
theorem Blk.store16 {w : World} {g : Nat} {C D : Array Value} (hB : Blk w g D 82) (hC : ∃ f, C = (rowC 16 f).toArray) (hD : ∃ f, D = (rowC 16 f).toArray) : Blk (w.setCells g 0 C.toList) g C 82 := by
  obtain ⟨f, rfl⟩ := hC
  obtain ⟨f', rfl⟩ := hD
  exact B16.store hB f
theorem Below.set16 {w w0 : World} {g B : Nat} (hb : Below B w0 w) (hg : B ≤ g) (hs : B ≤ w.heap.size) (vs : List Value) : Below B w0 (w.setCells g 0 vs) := hb.trans ((Own.setCells vs 0 w).below hg hs)
theorem exec_build {o : Oper} {a : Act} {w : World} {C : Array Value} {parts : Array (Nat × Operand)} {ps : Array (Nat × Value)} (ho : o.op = .build 82 parts) (hp : (parts.map fun (i, x) => (i, a.eval x)) = ps) (h : ∀ w, (Instr.build 82 ps).run Tryz.prog w = .ok (.agg C) w) : (execOp a.eval o).run Tryz.prog w = .ok (.value (.agg C)) w := by
  unfold execOp
  simp only [ho, hp, Sem.run_bind, h, Result.andThen_ok]
  rfl
theorem exec_neq16 {o : Oper} {a : Act} {w : World} {x y : Operand} {r : TypeId} {C D : Array Value} {b : Bool} (ho : o.op = .binOp .neq 82 x y r) (hx : a.eval x = .agg C) (hy : a.eval y = .agg D) (h : ∀ w, (Op.equalIn 10000 82 (.agg C) (.agg D)).run Tryz.prog w = .ok b w) : (execOp a.eval o).run Tryz.prog w = .ok (.value (.bool (!b))) w := by
  unfold execOp
  simp only [ho, hx, hy, Sem.run_bind, run_eqGuard_agg w _ _ x y C D guard16, Result.andThen_ok, run_neq_struct, h]
  rfl
theorem wpList_build16 {ops : Array Oper} {rest : List Oper} {o : Oper} {a : Act} {w : World} {Q : Exit → Act → World → Prop} {C : Array Value} (hgd : o.guard = none) (parts : Array (Nat × Operand)) (ps : Array (Nat × Value)) (ho : o.op = .build 82 parts) (hp : (parts.map fun (i, x) => (i, a.eval x)) = ps) (h : ∀ w, (Instr.build 82 ps).run Tryz.prog w = .ok (.agg C) w)
    (hk : wpList Tryz.prog ops Q rest (a.put o.dst (.agg C)) w) : wpList Tryz.prog ops Q (o :: rest) a w := by
  refine wpList_plain hgd fun K hK => ?_
  unfold Oper.wp
  rw [exec_build ho hp h]
  exact hK _ _ hk
theorem wpList_store16 {ops : Array Oper} {rest : List Oper} {o : Oper} {a : Act} {w : World} {Q : Exit → Act → World → Prop} (hgd : o.guard = none) (x y : Operand) (ho : o.op = .store 82 x y) (g : Nat) (hx : a.eval x = .pointer (some ⟨g, 0, none⟩)) (C D : Array Value) (hy : a.eval y = .agg C) (hB : Blk w g D 82) (hC : ∃ f, C = (rowC 16 f).toArray) (hD : ∃ f, D = (rowC 16 f).toArray)
    (h : wpList Tryz.prog ops Q rest (a.put o.dst undef) (w.setCells g 0 C.toList)) : wpList Tryz.prog ops Q (o :: rest) a w := by
  obtain ⟨f, rfl⟩ := hC
  obtain ⟨f', rfl⟩ := hD
  exact wpList_store_mid hgd 82 x y ho g 0 _ hx hy (B16.there hB f) (info16 f) (one16 f) h
theorem build_none (w : World) : (Instr.build 82 #[]).run Tryz.prog w = .ok (.agg zero16) w := run_build w 82 #[] zero16 (by kernel_rfl)
theorem splice16 (g : Nat → Nat) (q : Nat) (hq : q ≤ 16) : splice (rowC 16 (fun _ => 0)) 0 (rowC q g) = rowC 16 (fun i => if i < q then g i else 0) := by
  refine List.ext_getElem? fun i => ?_
  unfold splice
  rw [List.take_zero, List.nil_append, Nat.zero_add, rowC_len]
  by_cases hi : i < q
  · rw [List.getElem?_append_left (by rw [rowC_len]; exact hi), rowC_get g hi, rowC_get _ (show i < 16 by omega), if_pos hi]
  · rw [List.getElem?_append_right (by rw [rowC_len]; omega), rowC_len, List.getElem?_drop, show q + (i - q) = i by omega]
    by_cases h2 : i < 16
    · rw [rowC_get _ h2, rowC_get _ h2, if_neg hi]
    · rw [List.getElem?_eq_none (by rw [rowC_len]; omega), List.getElem?_eq_none (by rw [rowC_len]; omega)]
theorem wpList_load16 {ops : Array Oper} {rest : List Oper} {o : Oper} {a : Act} {w : World} {Q : Exit → Act → World → Prop} (hgd : o.guard = none) (x : Operand) (ho : o.op = .load 82 x) (g : Nat) (hx : a.eval x = .pointer (some ⟨g, 0, none⟩)) (C : Array Value) (hB : Blk w g C 82) (hC : ∃ f, C = (rowC 16 f).toArray)
    (h : wpList Tryz.prog ops Q rest (a.put o.dst (.agg C)) w) : wpList Tryz.prog ops Q (o :: rest) a w := by
  obtain ⟨f, rfl⟩ := hC
  exact wpList_load_row hgd 82 x ho g hx 82 _ (0, 0) _ hB Tryz.underlying82 rfl (info16 f) h
theorem res16 {fn : Func} {p : Tmp} (h : fn.results = #[.cell p 82]) (tmps : Array Value) (w : World) (g : Nat) (C : Array Value) (hp : tmps.getD p undef = .pointer (some ⟨g, 0, none⟩)) (hB : Blk w g C 82) (hC : ∃ f, C = (rowC 16 f).toArray) :
    (results fn tmps).run Tryz.prog w = .ok (.agg C) w := by
  obtain ⟨f, rfl⟩ := hC
  exact results_cell_row h tmps w g 82 _ (0, 0) _ hp hB Tryz.underlying82 rfl (info16 f)
end Go.Proofs.YtncfocjmdecapaaGreatDoor
