/- The document's disk: a step. -/
import Derived.Test.YtcohllhmfghlfaaDoorDkI
namespace Go.Proofs.YtcohllhmfghlfaaDoor
set_option linter.unusedVariables false
set_option linter.unusedSimpArgs false
open Go.RowKit

def rdV (oa : Option Addr) (n ca : Nat) (ow : Option Addr) (nw cw ar : Nat) (dn : Bool) : Array Value := #[.slice oa n ca, .slice ow nw cw, .int .i64 (ar : Nat), .bool dn]
theorem info_rd {oa : Option Addr} {n ca : Nat} {ow : Option Addr} {nw cw ar : Nat} {dn : Bool} : (Tryd.prog.info? 47).map (·.size) = some (rdV oa n ca ow nw cw ar dn).size := by kernel_rfl
theorem rd_zero (w : World) : (zeroValue 47).run Tryd.prog w = .ok (.agg (rdV none 0 0 none 0 0 0 false)) w := by kernel_rfl
set_option maxRecDepth 100000 in
set_option maxHeartbeats 4000000 in
theorem rstep_any (oa : Option Addr) (n ca : Nat) (ow : Option Addr) (nw cw ar : Nat) (dn : Bool) (w : World) (har : ar < 9223372036854775808) :
    Calls Tryd.prog 40 #[.agg (rdV oa n ca ow nw cw ar dn)] w fun e w' => e = .returned (.agg (rdV oa n ca ow nw cw (ar - 1) (dn || decide (ar = 1)))) ∧ Below w.heap.size w w' := by
  have hz := rd_zero
  unfold rdV at hz ⊢
  rcases (show ar = 0 ∨ ar = 1 ∨ 2 ≤ ar by omega) with rfl | rfl | h2
  · skip
    go_enter Tryd.func40, Tryd.ntmps40
    go_wp2_with fail
    refine bodyPost_ret (v := .agg #[.slice oa n ca, .slice ow nw cw, .int .i64 0, .bool dn]) ?_ rfl ⟨?_, (((Below.refl _ _).alloc (Nat.le_refl _) _).alloc (by simp) _)⟩
    · have h9 := Blk.new (w.alloc (.cells #[.slice oa n ca, .slice ow nw cw, .int .i64 0, .bool dn] 47)) #[.slice oa n ca, .slice ow nw cw, .int .i64 0, .bool dn] 47
      rw [World.size_alloc] at h9
      exact results_cell_row Tryd.results40 _ _ (w.heap.size + 1) 47 #[.slice oa n ca, .slice ow nw cw, .int .i64 0, .bool dn] (0, 0) _ rfl h9 Tryd.underlying47 rfl (by kernel_rfl)
    · simp
  · skip
    go_enter Tryd.func40, Tryd.ntmps40
    go_wp2_with fail
    refine bodyPost_ret (v := .agg #[.slice oa n ca, .slice ow nw cw, .int .i64 0, .bool true]) ?_ rfl ⟨?_, (((Below.refl _ _).alloc (Nat.le_refl _) _).alloc (by simp) _)⟩
    · have h9 := Blk.new (w.alloc (.cells #[.slice oa n ca, .slice ow nw cw, .int .i64 0, .bool true] 47)) #[.slice oa n ca, .slice ow nw cw, .int .i64 0, .bool true] 47
      rw [World.size_alloc] at h9
      exact results_cell_row Tryd.results40 _ _ (w.heap.size + 1) 47 #[.slice oa n ca, .slice ow nw cw, .int .i64 0, .bool true] (0, 0) _ rfl h9 Tryd.underlying47 rfl (by kernel_rfl)
    · simp
  · have e1 : ¬ (ar : Int) = 1 := by omega
    have e2 : decide ((ar : Int) = 1) = false := decide_eq_false e1
    have e3 : ((ar : Int) == 1) = false := beq_false_of_ne e1
    have e4 : IntKind.i64.wrap ((ar : Int) - 1) = (ar : Int) - 1 := IntWalk.i64_in _ (by omega)
    have e5 : (1 : Int) < (ar : Int) := by omega
    have E6 := Lib.hid (show dn = (dn || decide (ar = 1)) ∧ (ar : Int) - 1 = ((ar - 1 : Nat) : Int) from ⟨by rw [decide_eq_false (by omega), Bool.or_false], by omega⟩)
    clear e1
    go_enter Tryd.func40, Tryd.ntmps40
    go_wp2_with fail
    refine bodyPost_ret (v := .agg #[.slice oa n ca, .slice ow nw cw, .int .i64 ((ar : Int) - 1), .bool dn]) ?_ rfl ⟨?_, (((Below.refl _ _).alloc (Nat.le_refl _) _).alloc (by simp) _)⟩
    · have h9 := Blk.new (w.alloc (.cells #[.slice oa n ca, .slice ow nw cw, .int .i64 ((ar : Int) - 1), .bool dn] 47)) #[.slice oa n ca, .slice ow nw cw, .int .i64 ((ar : Int) - 1), .bool dn] 47
      rw [World.size_alloc] at h9
      exact results_cell_row Tryd.results40 _ _ (w.heap.size + 1) 47 #[.slice oa n ca, .slice ow nw cw, .int .i64 ((ar : Int) - 1), .bool dn] (0, 0) _ rfl h9 Tryd.underlying47 rfl (by kernel_rfl)
    · rw [← E6.out.1, E6.out.2]
end Go.Proofs.YtcohllhmfghlfaaDoor
