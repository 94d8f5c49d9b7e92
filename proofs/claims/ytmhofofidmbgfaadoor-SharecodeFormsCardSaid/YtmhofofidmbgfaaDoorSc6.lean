/- Digits found; a text's digits gone through two by two. -/
import Derived.Test.YtmhofofidmbgfaaDoorSc4
import Derived.Test.YtmhofofidmbgfaaDoorRf
import Derived.Lib.Bytealg
import Derived.RangeFuncSeq
import Derived.TacticsInMore
import Derived.OwnWalkIn
namespace Go.Proofs.YtmhofofidmbgfaaDoor
set_option linter.unusedVariables false
set_option linter.unusedSimpArgs false
open Go.RowKit

/-- The number of a digit; 16: it is none. -/
def digN (c : Nat) : Nat := if 48 ≤ c ∧ c ≤ 57 then c - 48 else if 97 ≤ c ∧ c ≤ 102 then c - 87 else 16
theorem digN_le (c : Nat) : digN c ≤ 16 := by unfold digN; split <;> (try split) <;> omega
def dgI (c : Nat) : Int := if digN c < 16 then (digN c : Int) else -1
theorem dgI_of (c : Nat) (hc : c < 256) : Lib.indexByte digS.data.toList ((c : Int).toNat.toUInt8) = dgI c := by
  have h : (List.range 256).all (fun c => Lib.indexByte digS.data.toList (c.toUInt8) == dgI c) = true := by kernel_rfl
  exact beq_iff_eq.1 (List.all_eq_true.1 h c (List.mem_range.2 hc))
theorem digN_hexD (k : Nat) (h : k < 16) : digN (hexD k) = k := by
  unfold digN hexD
  split <;> split <;> (try split) <;> omega

set_option maxHeartbeats 1000000 in
set_option maxRecDepth 100000 in
theorem ixb_any (c : Nat) (hc : c < 256) (w : World) :
    Calls Tryd.prog 68 #[.string ⟨#[48, 49, 50, 51, 52, 53, 54, 55, 56, 57, 97, 98, 99, 100, 101, 102]⟩, .int .u8 (c : Int)] w fun e w' => e = .returned (.int .i64 (dgI c)) ∧ w' = w := by
  have HR : Calls Tryd.prog 80 #[.string digS, .int .u8 (c : Int)] w fun e w' => e = .returned (.int .i64 (dgI c)) ∧ w' = w := by
    have hD := dgI_of c hc
    generalize dgI c = D at *
    generalize digS = S at *
    go_enter Tryd.func80, Tryd.ntmps80
    go_wp2
    rw [run_callFunc_extern Tryd.func85 (by kernel_rfl) (by kernel_rfl) (by kernel_rfl) (e := Extern.BytealgIndexByte.indexByte) (by kernel_rfl), Lib.run_indexByteString, hD]
    simp only [Result.andThen]
    rw [Oper.upon_value]
    go_wp2
    go_ret
    exact ⟨rfl, rfl⟩
  have HR2 := Lib.hid HR
  clear HR
  show Calls Tryd.prog 68 #[.string digS, .int .u8 (c : Int)] w _
  generalize digS = S at *
  generalize dgI c = D at *
  go_enter Tryd.func68, Tryd.ntmps68
  go_wp2_with fail
  refine HR2.out.mono ?_
  rintro e w' ⟨rfl, rfl⟩
  go_wp2
  go_ret
  exact ⟨rfl, rfl⟩

theorem exec_strIdx {o : Oper} {a : Act} {w : World} {x y : Operand} {kk : IntKind} {t : ByteArray} {i : Nat} (ho : o.op = .index 9 x y) (hx : a.eval x = .string t) (hy : a.eval y = .int kk (i : Int)) (hi : i < t.size) :
    (execOp a.eval o).run Tryd.prog w = .ok (.value (.int .u8 (byteF t i : Nat))) w := by
  have hr := run_index_string (P := Tryd.prog) w 9 t kk (i : Int) Tryd.underlying9
  rw [dif_pos (show (0 : Int) ≤ (i : Int) ∧ (i : Int) < (t.size : Int) from ⟨by omega, by omega⟩)] at hr
  unfold execOp
  simp only [ho, hx, hy, Sem.run_bind, hr, Result.andThen_ok]
  unfold byteF
  rw [List.getD_eq_getElem?_getD, List.getElem?_eq_getElem (show i < t.data.toList.length from hi)]
  rfl

/-- What two digits tell. -/
def toldI (t : ByteArray) (i : Nat) : Int := if digN (byteF t (2 * i)) < 16 ∧ digN (byteF t (2 * i + 1)) < 16 then ((16 * digN (byteF t (2 * i)) + digN (byteF t (2 * i + 1)) : Nat) : Int) else -1

set_option maxHeartbeats 1000000 in
set_option maxRecDepth 100000 in
theorem pairs_any (t : ByteArray) (w : World) :
    Calls Tryd.prog 51 #[.string t] w fun e w' => e = .returned (.func (.func 67) #[] #[.pointer (some ⟨w.heap.size, 0, none⟩)]) ∧ w' = w.alloc (.cells #[.string t] 9) := by
  go_enter Tryd.func51, Tryd.ntmps51
  go_wp2
  go_ret
  exact ⟨rfl, rfl⟩
end Go.Proofs.YtmhofofidmbgfaaDoor
