/- What the rows' condition on the package's variables gives a walk, where they list request.names and errors.errorType; a world that meets it. -/
import Derived.Test.YtmabhjifldafaaaDoorLdN
import Derived.LaidHandle
namespace Go.Proofs.YtmabhjifldafaaaDoor
set_option linter.unusedVariables false
set_option linter.unusedSimpArgs false
open Go.Deep Go.ChangeShapes Go.WideShapes Go.ChangeAt Go.RowKit

theorem Tryd.et : Tryd.prog.globalNamed "errors.errorType" = some 1 := by kernel_rfl
theorem Tryd.rt : (Tryd.prog.cutTypes.find? (·.1 == "internal/reflectlite.rtype")).map (·.2) = some 180 := by kernel_rfl
theorem Tryd.oneRow : ((List.range 231).filter fun t => Tryd.prog.rowNamed t [101, 114, 114, 111, 114]) = [41] := by kernel_rfl
theorem Tryd.size : Tryd.prog.types.size = 231 := by kernel_rfl
theorem Tryd.own : ownKnob Tryd.prog.godebug = none := by kernel_rfl
theorem Tryd.laidOut : laidOutB Tryd.prog = true := by kernel_rfl
/-- The listed variables. -/
def laidNm : List (String × DataW Unit) := [("bursary/request.names", Rows.laid_bursary_request_names)]
def laidQ : List (String × DataW Unit) := [("errors.errorType", Rows.laid_errors_errorType), ("bursary/request.names", Rows.laid_bursary_request_names)]
theorem gh_of_laid {W : World} (h : laidMetH Tryd.prog laidQ W) : HNV W := by
  have h' : laidMet Tryd.prog laidNm W ∧ handlesMet Tryd.prog [("errors.errorType", Rows.laid_errors_errorType)] W := h
  refine ⟨?_, nv_of_laid (by have := h'.1; unfold laidNm at this; rw [nm_laid] at this; exact this)⟩
  obtain ⟨name, u, ty, e1, e2, e3, e4, e5⟩ := h'.2 _ (List.mem_singleton.2 rfl)
  have en : name = [101, 114, 114, 111, 114] := (Option.some.inj e1).symm
  subst en
  obtain rfl := Option.some.inj (Tryd.rt.symm.trans e2)
  have hm : ty ∈ (List.range 231).filter fun t => Tryd.prog.rowNamed t [101, 114, 114, 111, 114] := List.mem_filter.2 ⟨List.mem_range.2 (by rw [← Tryd.size]; exact e3), e4⟩
  rw [Tryd.oneRow] at hm
  obtain rfl := List.mem_singleton.1 hm
  have hh : typeHandle Tryd.prog 41 = .pointer (some ⟨4, 41, none⟩) := by kernel_rfl
  rw [hh] at e5
  exact Handle.of (by simpa using World.var?_cell Tryd.et e5 0)
/-- A world that meets the condition: the settled one, the handle's cell laid, and the tables. -/
noncomputable def laidWorld0 (os : Os) : World :=
  let w0 := World.holding Tryd.prog os ⟨#[], #[], []⟩
  { w0 with heap := w0.heap.modify 1 fun
      | .cells _ t frozen => .cells #[.iface 180 (.agg #[.pointer (some ⟨4, 41, none⟩)])] t frozen
      | o => o }
noncomputable def laidWorldQ (os : Os) : World := (laidWorld0 os).layVars Tryd.prog laidNm
theorem laidWorldQ_os (os : Os) : (laidWorldQ os).os = os := World.layVars_os _ _ _
theorem laidWorldQ_data (os : Os) : laidMet Tryd.prog laidNm (laidWorldQ os) := by
  have e1 : (laidNm.filter fun x => (laidNm.map (·.1)).contains x.1) = laidNm := List.filter_eq_self.2 fun x hx => List.contains_iff_mem.2 (List.mem_map.2 ⟨x, hx, rfl⟩)
  have e2 : (laidNm.filter fun x => !(laidNm.map (·.1)).contains x.1) = [] := List.filter_eq_nil_iff.2 fun x hx => by rw [List.contains_iff_mem.2 (List.mem_map.2 ⟨x, hx, rfl⟩)]; simp
  exact laidMet_layVars (w0 := laidWorld0 os) (laidNm.map (·.1)) [] (by rw [e1]; rfl) (by rw [e1]; kernel_rfl) (by rw [e1]; kernel_rfl) (by rw [e2]; exact LaidIn.none)
theorem laidWorldQ_met (os : Os) (args : Array Value) : laidMetH Tryd.prog laidQ ((laidWorldQ os).forCall (fun _ _ => 0) ⟨#[], args, []⟩).memory :=
  laidMetH_of_parts (show laidMet Tryd.prog laidNm _ from (laidWorldQ_data os).of_heap (by simp [World.memory, World.forCall, Input.heap])) (by kernel_rfl)
end Go.Proofs.YtmabhjifldafaaaDoor
