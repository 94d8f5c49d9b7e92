/- Heads: a number and 32 bytes; those of a list of entries; held against one another. -/
import Derived.Test.YtmabhjifldafaaaDoorHmZ
import Derived.Test.YtmabhjifldafaaaDoorShA
import Derived.Test.YtmabhjifldafaaaDoorStp
namespace Go.Proofs.YtmabhjifldafaaaDoor
set_option linter.unusedVariables false
set_option linter.unusedSimpArgs false
open Go.RowKit

theorem hmN_lt (n : Nat) (K : Nat → Nat) (m : Nat) (G : Nat → Nat) (j : Nat) : hmN n K m G j < 256 := shaN_lt _ _ _
/-- A head's cells. -/
def hdL (n : Nat) (S : Nat → Nat) : List Value := .int .u64 (n : Int) :: rowC 32 S
theorem hdL_len (n : Nat) (S : Nat → Nat) : (hdL n S).length = 33 := by unfold hdL; rw [List.length_cons, rowC_len]
theorem hd_size (n : Nat) (S : Nat → Nat) : (hdL n S).toArray.size = 33 := by rw [List.size_toArray, hdL_len]
theorem hdL_at (n : Nat) (S : Nat → Nat) {i : Nat} (hi : i < 32) : (hdL n S)[1 + i]? = some (.int .u8 (S i : Nat)) := by rw [Nat.add_comm]; exact rowC_get S hi
theorem hdL_one (n : Nat) (S : Nat → Nat) : ∀ v ∈ hdL n S, v.oneCell' = true := fun v hv => by
  rcases List.mem_cons.1 hv with rfl | h
  · rfl
  · exact rowC_one _ _ v h
theorem hd_one (n : Nat) (S : Nat → Nat) : (hdL n S).toArray.all (·.oneCell') = true := all_oneCell_toArray (hdL_one _ _)
theorem hdL_congr {n : Nat} {S U : Nat → Nat} (h : ∀ i, i < 32 → S i = U i) : hdL n S = hdL n U := by unfold hdL; rw [rowC_congr h]
def zeroH : Array Value := (hdL 0 (fun _ => 0)).toArray
theorem zeroH_size : zeroH.size = 33 := hd_size _ _
theorem zeroH_one : zeroH.all (·.oneCell') = true := hd_one _ _
theorem info_h1 : (Tryd.prog.info? 65).map (·.size) = some 33 := by kernel_rfl
theorem info_h2 : (Tryd.prog.info? 77).map (·.size) = some 33 := by kernel_rfl
theorem zero_h1 (w : World) : (zeroValue 65).run Tryd.prog w = .ok (.agg zeroH) w := by kernel_rfl
theorem zero_h2 (w : World) : (zeroValue 77).run Tryd.prog w = .ok (.agg zeroH) w := by kernel_rfl
theorem build_h1 (n : Nat) (S : Nat → Nat) (w : World) : (Instr.build 65 #[(0, .int .u64 (n : Int)), (1, .agg (rowC 32 S).toArray)]).run Tryd.prog w = .ok (.agg (hdL n S).toArray) w := run_build w 65 _ _ (by kernel_rfl)
theorem build_h2 (n : Nat) (S : Nat → Nat) (w : World) : (Instr.build 77 #[(0, .int .u64 (n : Int)), (1, .agg (rowC 32 S).toArray)]).run Tryd.prog w = .ok (.agg (hdL n S).toArray) w := run_build w 77 _ _ (by kernel_rfl)
theorem build_z1 (w : World) : (Instr.build 65 #[]).run Tryd.prog w = .ok (.agg zeroH) w := run_build w 65 _ _ (by kernel_rfl)
theorem build_z2 (w : World) : (Instr.build 77 #[]).run Tryd.prog w = .ok (.agg zeroH) w := run_build w 77 _ _ (by kernel_rfl)
theorem exec_buildM {o : Oper} {a : Act} {w : World} {ty : TypeId} {C : Array Value} {parts : Array (Nat × Operand)} {ps : Array (Nat × Value)} (ho : o.op = .build ty parts) (hp : (parts.map fun (i, x) => (i, a.eval x)) = ps) (h : ∀ w, (Instr.build ty ps).run Tryd.prog w = .ok (.agg C) w) : (execOp a.eval o).run Tryd.prog w = .ok (.value (.agg C)) w := by
  unfold execOp
  simp only [ho, hp, Sem.run_bind, h, Result.andThen_ok]
  rfl
theorem hd_cell0 {w : World} {b n : Nat} {S : Nat → Nat} {T : TypeId} (h : Blk w b (hdL n S).toArray T) : w.cell? ⟨b, 0, none⟩ = some (.int .u64 (n : Int)) := by rw [Blk.cell h]; rfl
theorem hd_bytes {w : World} {b n : Nat} {S : Nat → Nat} {T : TypeId} (h : Blk w b (hdL n S).toArray T) (hS : ∀ i, i < 32 → S i < 256) : Bytes w (some ⟨b, 1, none⟩) 32 S := fun k hk => ⟨hS k hk, b, 1, rfl, by
  rw [Blk.cell h]
  have := hdL_at n S hk
  simpa using this⟩
/-- The sum behind an entry more. -/
def nx (n : Nat) (K S : Nat → Nat) (m : Nat) (G : Nat → Nat) : Nat → Nat := hmN n K (32 + m) (catF 32 S G)
theorem nx_lt (n : Nat) (K S : Nat → Nat) (m : Nat) (G : Nat → Nat) (j : Nat) : nx n K S m G j < 256 := hmN_lt _ _ _ _ _
/-- The head behind an entry more, and the error's number: there is no number any more. -/
def nxN (k : Nat) : Nat := if k = 18446744073709551615 then 0 else k + 1
def nxS (n : Nat) (K : Nat → Nat) (k : Nat) (S : Nat → Nat) (m : Nat) (G : Nat → Nat) : Nat → Nat := if k = 18446744073709551615 then fun _ => 0 else nx n K S m G
def nxE (k : Nat) : Nat := if k = 18446744073709551615 then 19 else 0
/-- The sum of a list of entries. -/
def hs (n : Nat) (K : Nat → Nat) (L : Nat → Nat) (G : Nat → Nat → Nat) : Nat → Nat → Nat
  | 0 => fun _ => 0
  | i + 1 => nx n K (hs n K L G i) (L i) (G i)
theorem hs_lt (n : Nat) (K : Nat → Nat) (L : Nat → Nat) (G : Nat → Nat → Nat) (i j : Nat) : hs n K L G i j < 256 := by
  cases i with
  | zero => show 0 < 256; decide
  | succ i => exact nx_lt _ _ _ _ _ _
theorem items32d (d : Nat) (f g : Nat → Nat) (w : World) : ∀ is : List Nat, (∀ i ∈ is, i < 32) → (Op.eqItems (d + 1) 5 1 (rowC 32 f).toArray (rowC 32 g).toArray is).run Tryd.prog w = .ok (is.all fun i => f i == g i) w
  | [], _ => rfl
  | i :: is, h => by
    have hi : i < 32 := h i (by simp)
    have p1 : (rowC 32 f).toArray[i * 1]? = some (.int .u8 (f i : Nat)) := by simpa using rowC_get f hi
    have p2 : (rowC 32 g).toArray[i * 1]? = some (.int .u8 (g i : Nat)) := by simpa using rowC_get g hi
    have hu : Tryd.prog.underlying 5 = some (.int .u8) := Tryd.underlying5
    simp only [Op.eqItems, Sem.run_bind, run_part_plain w plain_u8 p1, run_part_plain w plain_u8 p2, Result.andThen_ok, run_equalIn_int w d _ .u8 .u8 _ _ hu]
    have ih := items32d d f g w is (fun j hj => h j (by simp [hj]))
    by_cases e : f i = g i
    · have : ((f i : Int) == (g i : Int)) = true := by simp [e]
      rw [this]
      simp [ih, e]
    · have : ((f i : Int) == (g i : Int)) = false := by
        rw [beq_eq_false_iff_ne]; omega
      rw [this]
      simp [e]
set_option maxRecDepth 100000 in
theorem eq32d (d : Nat) (f g : Nat → Nat) (w : World) : (Op.equalIn (d + 2) 63 (.agg (rowC 32 f).toArray) (.agg (rowC 32 g).toArray)).run Tryd.prog w = .ok (eqS f g) w := by
  obtain ⟨i, hi⟩ : ∃ i, Tryd.prog.info? 5 = some i := ⟨_, rfl⟩
  rw [run_equalIn_array w (d + 1) _ _ (e := 5) (n := 32) (t := 63) Tryd.underlying63 hi, cells_u8]
  exact items32d d f g w _ (fun i hi => List.mem_range.1 hi)
theorem part_sum (n : Nat) (S : Nat → Nat) (w : World) : (part 63 (hdL n S).toArray 1).run Tryd.prog w = .ok (.agg (rowC 32 S).toArray) w := by
  have h2 : (isAgg 63).run Tryd.prog w = .ok true w := by
    unfold isAgg; rw [Sem.run_bind, run_underlying Tryd.underlying63 w]; rfl
  have h3 : (sizeOf 63).run Tryd.prog w = .ok 32 w := by kernel_rfl
  have he : (hdL n S).toArray.extract 1 (1 + 32) = (rowC 32 S).toArray := by
    refine Array.ext ?_ fun i h1 h2 => ?_
    · rw [Array.size_extract, hd_size, List.size_toArray, rowC_len]; rfl
    · have hi : i < 32 := by rw [List.size_toArray, rowC_len] at h2; exact h2
      rw [Array.getElem_extract]
      have a1 := hdL_at n S hi
      have a2 := rowC_get (n := 32) S hi
      rw [List.getElem?_eq_some_iff] at a1 a2
      obtain ⟨_, b1⟩ := a1
      obtain ⟨_, b2⟩ := a2
      simp only [List.getElem_toArray]
      rw [b1, b2]
  unfold part
  simp only [Sem.run_bind, Result.andThen_ok, h2, h3, if_true, Sem.run_pure, he]
theorem plain_u64 : Tryd.prog.plainKey 62 = true := by kernel_rfl
theorem eqHd {T : TypeId} (hf : (Tryd.prog.fieldsOf T).toList = [{ name := "N", type := 62, offset := 0, embedded := false, tag := "", pkgPath := "", byteOffset := 0 }, { name := "Sum", type := 63, offset := 1, embedded := false, tag := "", pkgPath := "", byteOffset := 8 }])
    (ht : Tryd.prog.underlying T = some (.struct (Tryd.prog.fieldsOf T))) (hp : Tryd.prog.stoodInHeld T = false) (n m : Nat) (S U : Nat → Nat) (w : World) :
    (Op.equalIn 10000 T (.agg (hdL n S).toArray) (.agg (hdL m U).toArray)).run Tryd.prog w = .ok (decide (n = m) && eqS S U) w := by
  have p1 : (hdL n S).toArray[0]? = some (.int .u64 (n : Int)) := rfl
  have p2 : (hdL m U).toArray[0]? = some (.int .u64 (m : Int)) := rfl
  have hu : Tryd.prog.underlying 62 = some (.int .u64) := Tryd.underlying62
  rw [run_equalIn_struct w 9999 T _ _ ht hp, hf]
  have hN : ("N" : String) ≠ "_" := by decide
  have hM : ("Sum" : String) ≠ "_" := by decide
  simp only [Op.eqFields, if_pos hN, if_pos hM, Sem.run_bind, run_part_plain w plain_u64 p1, run_part_plain w plain_u64 p2, Result.andThen_ok, run_equalIn_int w 9998 _ .u64 .u64 _ _ hu, part_sum, eq32d 9997 S U w]
  by_cases e : n = m
  · subst e
    have : ((n : Int) == (n : Int)) = true := by simp
    rw [this]
    have e9 : (Op.equalIn 9999 63 (.agg (rowC 32 S).toArray) (.agg (rowC 32 U).toArray)).run Tryd.prog w = .ok (eqS S U) w := eq32d 9997 S U w
    cases h : eqS S U
    · rw [h] at e9; simp [part_sum, e9]
    · rw [h] at e9; simp [part_sum, e9]
  · have : ((n : Int) == (m : Int)) = false := by rw [beq_eq_false_iff_ne]; omega
    rw [this]
    simp [e]
theorem eq_h1 (n m : Nat) (S U : Nat → Nat) (w : World) : (Op.equalIn 10000 65 (.agg (hdL n S).toArray) (.agg (hdL m U).toArray)).run Tryd.prog w = .ok (decide (n = m) && eqS S U) w := eqHd (by kernel_rfl) (by kernel_rfl) (by kernel_rfl) n m S U w
theorem eq_h2 (n m : Nat) (S U : Nat → Nat) (w : World) : (Op.equalIn 10000 77 (.agg (hdL n S).toArray) (.agg (hdL m U).toArray)).run Tryd.prog w = .ok (decide (n = m) && eqS S U) w := eqHd (by kernel_rfl) (by kernel_rfl) (by kernel_rfl) n m S U w
theorem guard_h1 : Tryd.prog.eqGuardType Tryd.prog.depth 65 = false := by kernel_rfl
theorem guard_h2 : Tryd.prog.eqGuardType Tryd.prog.depth 77 = false := by kernel_rfl
theorem exec_eqlM {o : Oper} {a : Act} {w : World} {T : TypeId} {x y : Operand} {r : TypeId} {C D : Array Value} {b : Bool} (hgu : Tryd.prog.eqGuardType Tryd.prog.depth T = false) (ho : o.op = .binOp .eql T x y r) (hx : a.eval x = .agg C) (hy : a.eval y = .agg D) (h : ∀ w, (Op.equalIn 10000 T (.agg C) (.agg D)).run Tryd.prog w = .ok b w) : (execOp a.eval o).run Tryd.prog w = .ok (.value (.bool b)) w := by
  unfold execOp
  simp only [ho, hx, hy, Sem.run_bind, run_eqGuard_agg w _ _ x y C D hgu, Result.andThen_ok, run_eql_struct, h]
  rfl
theorem exec_neqM {o : Oper} {a : Act} {w : World} {T : TypeId} {x y : Operand} {r : TypeId} {C D : Array Value} {b : Bool} (hgu : Tryd.prog.eqGuardType Tryd.prog.depth T = false) (ho : o.op = .binOp .neq T x y r) (hx : a.eval x = .agg C) (hy : a.eval y = .agg D) (h : ∀ w, (Op.equalIn 10000 T (.agg C) (.agg D)).run Tryd.prog w = .ok b w) : (execOp a.eval o).run Tryd.prog w = .ok (.value (.bool (!b))) w := by
  unfold execOp
  simp only [ho, hx, hy, Sem.run_bind, run_eqGuard_agg w _ _ x y C D hgu, Result.andThen_ok, run_neq_struct, h]
  rfl
end Go.Proofs.YtmabhjifldafaaaDoor
