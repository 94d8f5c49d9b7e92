/- The document's Hex. -/
import Derived.Test.YtmhofofidmbgfaaDoorRc2
import Derived.Laws.Concat
namespace Go.Proofs.YtmhofofidmbgfaaDoor
set_option linter.unusedVariables false
set_option linter.unusedSimpArgs false
open Go.RowKit

theorem strF_cat (n m : Nat) (f g : Nat → Nat) : strF n f ++ strF m g = strF (n + m) (catF n f g) := by
  have h : ∀ (a b : List UInt8), (⟨a.toArray⟩ : ByteArray) ++ ⟨b.toArray⟩ = ⟨(a ++ b).toArray⟩ := fun a b => by
    apply ByteArray.ext
    simp
  rw [← strL_str, ← strL_str, ← strL_str, h]
  congr 2
  unfold strL
  rw [List.range_add]
  simp only [List.map_append]
  congr 1
  · rw [List.map_map, List.map_map]
    refine List.map_congr_left fun i hi => ?_
    have : i < n := List.mem_range.1 hi
    simp [catF, this]
  · rw [List.map_map, List.map_map, List.map_map]
    refine List.map_congr_left fun i hi => ?_
    simp [catF, show ¬ (n + i < n) by omega]

theorem exec_addS {o : Oper} {a : Act} {w : World} {x y : Operand} {r : TypeId} {n m : Nat} {f g : Nat → Nat} (ho : o.op = .binOp .add 9 x y r) (hx : a.eval x = .string (strF n f)) (hy : a.eval y = .string (strF m g)) (hn : n + m < 1000000000000) :
    (execOp a.eval o).run Tryd.prog w = .ok (.value (.string (strF (n + m) (catF n f g)))) w := by
  have hr := run_string_add_sum (P := Tryd.prog) w (strF n f) (strF m g) (by rw [strF_size, strF_size]; omega)
  unfold execOp
  have hE : (eqGuard .add 9 x y (.string (strF n f)) (.string (strF m g))).run Tryd.prog w = .ok () w := by simp [eqGuard]
  simp only [ho, hx, hy, binOp_string_add, Sem.run_bind, hE, hr, Result.andThen_ok, strF_cat, Sem.run_pure]
theorem dig_str (k : Nat) (hk : k < 16) (w : World) : (Instr.slice 9 (.string ⟨#[48, 49, 50, 51, 52, 53, 54, 55, 56, 57, 97, 98, 99, 100, 101, 102]⟩) (some (.int .i64 (k : Int))) (some (.int .i64 ((k + 1 : Nat) : Int))) none).run Tryd.prog w = .ok (.string (strF 1 (fun _ => hexD k))) w := by
  rw [run_slice_string _ _ _ _ _ _ _ Tryd.underlying9 (by omega) (by omega) (by show ((k + 1 : Nat) : Int) ≤ 16; omega)]
  have h : (List.range 16).all (fun k => (((⟨#[48, 49, 50, 51, 52, 53, 54, 55, 56, 57, 97, 98, 99, 100, 101, 102]⟩ : ByteArray).extract k (k + 1)).data.toList == (strF 1 (fun _ => hexD k)).data.toList)) = true := by kernel_rfl
  have := beq_iff_eq.1 (List.all_eq_true.1 h k (List.mem_range.2 hk))
  congr 2
  apply ByteArray.ext
  apply Array.ext'
  simpa using this
theorem exec_digS {o : Oper} {a : Act} {w : World} {x y : Operand} {k : Nat} (ho : o.op = .slice 9 (.const (.string ⟨#[48, 49, 50, 51, 52, 53, 54, 55, 56, 57, 97, 98, 99, 100, 101, 102]⟩)) (some x) (some y) none) (hx : a.eval x = .int .i64 (k : Int)) (hy : a.eval y = .int .i64 ((k : Int) + 1)) (hk : k < 16) :
    (execOp a.eval o).run Tryd.prog w = .ok (.value (.string (strF 1 (fun _ => hexD k)))) w := by
  have hr := dig_str k hk w
  have hx' : a.eval (.const (.string ⟨#[48, 49, 50, 51, 52, 53, 54, 55, 56, 57, 97, 98, 99, 100, 101, 102]⟩)) = .string ⟨#[48, 49, 50, 51, 52, 53, 54, 55, 56, 57, 97, 98, 99, 100, 101, 102]⟩ := rfl
  have hy' : a.eval y = .int .i64 ((k + 1 : Nat) : Int) := hy
  unfold execOp
  simp only [ho, hx', Option.map, hx, hy', Instr.sliceAt, Sem.run_bind, run_underlying Tryd.underlying9, hr, Result.andThen_ok, Sem.run_pure]

theorem hexF_step2 (F : Nat → Nat) (i : Nat) : strF (2 * i + 1 + 1) (catF (2 * i + 1) (catF (2 * i) (hexF F) (fun _ => hexD (F i / 16))) (fun _ => hexD (F i % 16))) = strF (2 * (i + 1)) (hexF F) :=
  strF_congr (hexF_step F i)

set_option maxHeartbeats 4000000 in
set_option maxRecDepth 100000 in
theorem rhx_any (n cap : Nat) (oa : Option Addr) (F : Nat → Nat) (w : World) (hB : Bytes w oa n F) (hn : n < 1000000) :
    Calls Tryd.prog 36 #[.slice oa n cap] w fun e w' => e = .returned (.string (strF (2 * n) (hexF F))) ∧ Below w.heap.size w w' := by
  have HB := Lib.hid (show ∀ w', Below w.heap.size w w' → Bytes w' oa n F from fun w' h => hB.later h)
  have HN := Lib.hid hn
  clear hB hn
  go_enter Tryd.func36, Tryd.ntmps36
  go_wp2_with fail
  go_loopw [3, 4] (fun y z wr => ∃ i : Nat, i ≤ n ∧ y = .string (strF (2 * i) (hexF F)) ∧ z = .int .i64 (i : Int) ∧ Below w.heap.size w wr) (fun _ z _ => n - (intOf z).toNat)
  case atStart => exact ⟨0, Nat.zero_le _, rfl, rfl, Below.refl _ _⟩
  case round =>
    obtain ⟨i, hi, rfl, rfl, hW⟩ := hrel
    by_cases hlt : i < n
    · have i0 : (0 : Int) ≤ (i : Int) ∧ (i : Int) < (n : Int) := by omega
      have hW1 : Below w.heap.size w wr.drew := hW.drew
      obtain ⟨hx, b, off, hob, x0⟩ := (HB.out _ hW1) i hlt
      subst hob
      obtain ⟨x, ex⟩ : ∃ y, F i = y := ⟨_, rfl⟩
      rw [ex] at x0 hx
      obtain ⟨hh, eh⟩ : ∃ y, x / 16 = y := ⟨_, rfl⟩
      obtain ⟨ll, el⟩ : ∃ y, x % 16 = y := ⟨_, rfl⟩
      have w1 : IntKind.i64.wrap (x : Int) = (x : Int) := by rw [IntWalk.i64_in _ (by omega)]
      have d1 : (x : Int).tdiv 16 = (hh : Int) := by rw [Int.tdiv_eq_ediv_of_nonneg (by omega)]; omega
      have d1' : (x : Int) / 16 = (hh : Int) := by omega
      have d2 : (x : Int).tmod 16 = (ll : Int) := by rw [Int.tmod_eq_emod_of_nonneg (by omega)]; omega
      have d2' : (x : Int) % 16 = (ll : Int) := by omega
      have hh16 : hh < 16 := by omega
      have hl16 : ll < 16 := by omega
      have w2 : IntKind.i64.wrap (hh : Int) = (hh : Int) := by rw [IntWalk.i64_in _ (by omega)]
      have w3 : IntKind.i64.wrap (ll : Int) = (ll : Int) := by rw [IntWalk.i64_in _ (by omega)]
      have k1 : IntKind.i64.wrap ((hh : Int) + 1) = ((hh + 1 : Nat) : Int) := by rw [IntWalk.i64_in _ (by omega)]; omega
      have k2 : IntKind.i64.wrap ((ll : Int) + 1) = ((ll + 1 : Nat) : Int) := by rw [IntWalk.i64_in _ (by omega)]; omega
      have HE := Lib.hid (show F i = x ∧ x / 16 = hh ∧ x % 16 = ll from ⟨ex, eh, el⟩)
      have HW1 := Lib.hid hW1
      have hn6 := HN.out
      clear hW hW1 ex eh el
      go_upto_region 5 with fail
      refine still_lit (by kernel_rfl) (by kernel_rfl) ?_
      generalize wr.drew = W0 at *
      repeat still_step
      refine wpStill_nil ?_
      have hW2 : Below w.heap.size w W0.drew := HW1.out.drew
      have HW2 := Lib.hid hW2
      clear x0 hW2
      go_upto_region 6 with fail
      refine still_lit (by kernel_rfl) (by kernel_rfl) ?_
      generalize W0.drew = W1 at *
      iterate 4 still_step
      refine wpStill_value rfl (exec_digS (x := .tmp 26) (y := .tmp 28) rfl rfl rfl hh16) ?_
      (try simp only [Act.put, List.setIfInBounds_toArray, List.set_cons_zero, List.set_cons_succ])
      refine wpStill_value rfl (exec_addS (x := .tmp 25) (y := .tmp 29) rfl rfl rfl (by omega)) ?_
      (try simp only [Act.put, List.setIfInBounds_toArray, List.set_cons_zero, List.set_cons_succ])
      iterate 3 still_step
      refine wpStill_value rfl (exec_digS (x := .tmp 31) (y := .tmp 33) rfl rfl rfl hl16) ?_
      (try simp only [Act.put, List.setIfInBounds_toArray, List.set_cons_zero, List.set_cons_succ])
      refine wpStill_value rfl (exec_addS (x := .tmp 30) (y := .tmp 34) rfl rfl rfl (by omega)) ?_
      (try simp only [Act.put, List.setIfInBounds_toArray, List.set_cons_zero, List.set_cons_succ])
      still_step
      refine wpStill_nil ?_
      have hS2 : strF (2 * i + 1 + 1) (catF (2 * i + 1) (catF (2 * i) (hexF F) (fun _ => hexD hh)) (fun _ => hexD ll)) = strF (2 * (i + 1)) (hexF F) := by
        obtain ⟨e1, e2, e3⟩ := HE.out
        rw [← e2, ← e3, ← e1]; exact hexF_step2 F i
      rw [hS2]
      have HW3 := HW2.out
      clear hS2
      go_wp2_with fail
      go_roundw
      case rel => exact ⟨i + 1, by omega, rfl, by go_num, HW3⟩
      case measure => simp [intOf]; omega
    · obtain rfl : n = i := by omega
      have HW := Lib.hid hW
      clear hW
      go_wp2_with fail
      go_ret
      exact ⟨rfl, HW.out⟩
end Go.Proofs.YtmhofofidmbgfaaDoor
