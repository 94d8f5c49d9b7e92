/- append of whatever row, onto a row of the call's own; make. -/
import Derived.Test.YtgfjlgaleddoaaaGreatDoorClone
import Derived.Deep.RegionHeld3
import Derived.Deep.OwnRows
import Derived.Deep.RegionLaw
namespace Go.Proofs.YtgfjlgaleddoaaaGreatDoor
set_option linter.unusedVariables false
set_option linter.unusedSimpArgs false
open Go.RowKit

/-- append of nothing. -/
theorem run_append_none_c {w : World} {base n c : Nat} {v : Value} {f : Nat → Nat} (ty : TypeId) (hown : Grow w base v n f) :
    (Builtin.append_ #[25, 25] ty #[v, .slice none 0 c]).run Tryz.prog w = .ok v w := by
  obtain ⟨i0, hi, _, _, _⟩ := info_parts info_u8
  rcases hown.2 with ⟨rfl, rfl⟩ | ⟨g, cap, cur, rfl, _, _, hnc, _⟩
  · simp [Builtin.append_, run_underlying Tryz.underlying25, sizeOf, typeInfo, hi, Builtin.lenOf, Builtin.firstCells]
  · simp [Builtin.append_, run_underlying Tryz.underlying25, sizeOf, typeInfo, hi, Builtin.lenOf, Builtin.firstCells, hnc, storeCells]
/-- append of a row, wherever it lies, nil too; what else is there stays. -/
theorem wpList_appO {ops : Array Oper} {rest : List Oper} {o : Oper} {a : Act} {Q : Exit → Act → World → Prop} (hgd : o.guard = none) (s x : Operand)
    (ho : o.op = .call { callee := .builtin .append, args := #[s, x], argTypes := #[25, 25] })
    (base : Nat) (v : Value) (n m cp : Nat) (od : Option Addr) (f g : Nat → Nat) (W : World) (hs : a.eval s = v) (hown : Grow W base v n f) (hx : a.eval x = .slice od m cp) (hno : od = none → m = 0)
    (hB : Bytes W od m g) (hn : n + m < 100000000000000) (hbase : base ≤ W.heap.size)
    (h : ∀ v' w', Grow w' base v' (n + m) (catF n f g) → W.grownBy w' v.ownBlock → (v'.ownBlock = v.ownBlock ∨ v'.ownBlock = some W.heap.size) → wpList Tryz.prog ops Q rest (a.put o.dst v') w') :
    wpList Tryz.prog ops Q (o :: rest) a W := by
  obtain ⟨i0, hi, hz0, hz1, hz2⟩ := info_parts info_u8
  cases od with
  | none =>
    obtain rfl := hno rfl
    refine wpList_plain hgd fun K hK => ?_
    have hr := run_append_none_c (c := cp) o.type hown
    unfold Oper.wp execOp
    simp only [ho, resolve, invoke, builtin, Sem.run_bind, Sem.run_pure, Result.andThen_ok, List.map_toArray, List.map_cons, List.map_nil, hs, hx, hr]
    exact hK _ _ (h _ _ (hown.congr fun i hi => by unfold catF; rw [if_pos (by omega)]) ⟨rfl, rfl, rfl, Nat.le_refl _, fun _ _ _ => rfl⟩ (.inl rfl))
  | some ad =>
    refine wpList_append_own_at _ hgd s x 25 ho base 5 i0 (.int .u8 0) 1 1 Tryz.underlying25 hi hz0 hz1 hz2 rfl (by decide) v n (rowC n f) hs hown ad m cp (rowC m g) hx (by rw [rowC_len, Nat.mul_one])
      hB.newsA (rowC_one m g) (by unfold maxLen; omega) (by omega) hbase ?_
    intro v' w' hown' hg _ hat
    refine h v' w' ?_ hg hat
    unfold Grow
    rw [rowC_cat]; exact hown'
theorem step_appO {ops : Array Oper} {o : Oper} {a : Act} {K : Act → World → Prop} {Q : Exit → Act → World → Prop} {E : Prop} (hgd : o.guard = none) (s x : Operand)
    (ho : o.op = .call { callee := .builtin .append, args := #[s, x], argTypes := #[25, 25] })
    (base : Nat) (v : Value) (n m cp : Nat) (od : Option Addr) (f g : Nat → Nat) (W : World) (hs : a.eval s = v) (hown : Grow W base v n f) (hx : a.eval x = .slice od m cp) (hno : od = none → m = 0)
    (hB : Bytes W od m g) (hn : n + m < 100000000000000) (hbase : base ≤ W.heap.size)
    (h : ∀ v' w', Grow w' base v' (n + m) (catF n f g) → W.grownBy w' v.ownBlock → (v'.ownBlock = v.ownBlock ∨ v'.ownBlock = some W.heap.size) → K (a.put o.dst v') w') :
    if Region.wanted o (yielded ops a.tmps) = true then Oper.wp Tryz.prog o a W K Q else E := by
  obtain ⟨i0, hi, hz0, hz1, hz2⟩ := info_parts info_u8
  have hw : Region.wanted o (yielded ops a.tmps) = true := by simp [Region.wanted, hgd]
  rw [if_pos hw]
  cases od with
  | none =>
    obtain rfl := hno rfl
    have hr := run_append_none_c (c := cp) o.type hown
    unfold Oper.wp execOp
    simp only [ho, resolve, invoke, builtin, Sem.run_bind, Sem.run_pure, Result.andThen_ok, List.map_toArray, List.map_cons, List.map_nil, hs, hx, hr]
    exact h _ _ (hown.congr fun i hi => by unfold catF; rw [if_pos (by omega)]) ⟨rfl, rfl, rfl, Nat.le_refl _, fun _ _ _ => rfl⟩ (.inl rfl)
  | some ad =>
    obtain ⟨v', w', hr, h2, h3, h4, h5⟩ := run_append_own_at (P := Tryz.prog) W base 25 o.type 5 i0 (.int .u8 0) 1 1 Tryz.underlying25 hi hz0 hz1 hz2 rfl (by decide) v n (rowC n f) hown ad m cp (rowC m g) (by rw [rowC_len, Nat.mul_one]) hB.newsA (rowC_one m g) (by unfold maxLen; omega) (by omega) hbase
    unfold Oper.wp execOp
    simp only [ho, resolve, invoke, builtin, Sem.run_bind, Sem.run_pure, Result.andThen_ok, List.map_toArray, List.map_cons, List.map_nil, hs, hx, hr]
    exact h _ _ (by unfold Grow; rw [rowC_cat]; exact h2) h3 h5
theorem catF_self {G g : Nat → Nat} {n m : Nat} (h : ∀ i, i < m → g i = G (n + i)) : ∀ i, i < n + m → catF n G g i = G i := fun i hi => by
  unfold catF
  by_cases e : i < n
  · rw [if_pos e]
  · rw [if_neg e, h (i - n) (by omega)]; congr 1; omega
theorem ob1 {w : World} {z : Int} {y : Nat} (hz : z = (y : Int)) (hy : y < 256) : Bytes (w.alloc (.cells #[.int .u8 z] 5)) (some ⟨w.heap.size, 0, none⟩) 1 (fun _ => y) := fun k hk => ⟨hy, w.heap.size, 0, rfl, by
  subst hz
  obtain rfl : k = 0 := by omega
  exact World.cell?_alloc_mark w #[.int .u8 (y : Int)] 5 (0, 0) 0⟩
def two (x y : Nat) : Nat → Nat := fun i => if i = 0 then x else y
theorem ob2 {w : World} {x y : Nat} (hx : x < 256) (hy : y < 256) : Bytes (w.alloc (.cells #[.int .u8 (x : Int), .int .u8 (y : Int)] 5)) (some ⟨w.heap.size, 0, none⟩) 2 (two x y) := fun k hk => ⟨by unfold two; split <;> assumption, w.heap.size, 0, rfl, by
  match k, hk with
  | 0, _ => exact World.cell?_alloc_mark w #[.int .u8 (x : Int), .int .u8 (y : Int)] 5 (0, 0) 0
  | 1, _ => exact World.cell?_alloc_mark w #[.int .u8 (x : Int), .int .u8 (y : Int)] 5 (0, 0) 1⟩
/-- What lies in a row that was made. -/
theorem make_zeros (n : Nat) (hn : n < 1000000000000) (w : World) : (Instr.makeSlice 25 (.int .i64 (n : Int)) (.int .i64 (n : Int))).run Tryz.prog w = .ok (.slice (some ⟨w.heap.size, 0, none⟩) n n) (w.alloc (.cells (rowC n (fun _ => 0)).toArray 5)) := by
  have h := run_make_row' (P := Tryz.prog) 25 5 (.int .u8 0) 1 Tryz.underlying25 info_u8 rfl .i64 .i64 n (by omega) (by omega) w
  have e : madeCells #[Value.int .u8 0] n = (rowC n (fun _ => 0)).toArray := by
    have := toList_madeCells_one (Value.int .u8 0) n
    rw [rowC_zero] at this
    rw [← this]
  rw [e] at h; exact h
theorem step_make {ops : Array Oper} {o : Oper} {a : Act} {w : World} {K : Act → World → Prop} {Q : Exit → Act → World → Prop} {E : Prop} (hgd : o.guard = none) (x y : Operand) (ho : o.op = .makeSlice 25 x y) (n : Nat) (hx : a.eval x = .int .i64 (n : Int)) (hy : a.eval y = .int .i64 (n : Int)) (hn : n < 1000000000000)
    (h : K (a.put o.dst (.slice (some ⟨w.heap.size, 0, none⟩) n n)) (w.alloc (.cells (rowC n (fun _ => 0)).toArray 5))) : if Region.wanted o (yielded ops a.tmps) = true then Oper.wp Tryz.prog o a w K Q else E := by
  have hw : Region.wanted o (yielded ops a.tmps) = true := by simp [Region.wanted, hgd]
  rw [if_pos hw]
  have hrun := make_zeros n hn w
  unfold Oper.wp
  simp [execOp, ho, hx, hy, hrun, Result.andThen]
  exact h
theorem row_new (w : World) (n : Nat) (f : Nat → Nat) : Row (w.alloc (.cells (rowC n f).toArray 5)) w.heap.size n f := Blk.new _ _ _
end Go.Proofs.YtgfjlgaleddoaaaGreatDoor
