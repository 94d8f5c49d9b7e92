/- What the rows' condition on the package's variables gives a walk: request.names beside errors.errorType; a world that meets it. -/
import Derived.Test.YtmabhjifldafaaaDoorRows
import Derived.Test.YtmabhjifldafaaaDoorRqA
import Derived.ProofKit
import Derived.OpenShut
import Derived.ChangeSame
import Derived.ChangeVars
import Derived.JoinedOf
import Derived.RowKit
import Derived.RowKitTokens
import Derived.LaidLaws
import Derived.LaidHandle
import Derived.LaidMore
import Derived.LaidSub
import Derived.Lay
import Derived.Stop.Joined
import Derived.Lib.SmallJoins
import Derived.Deep.Slices
namespace Go.Proofs.YtmabhjifldafaaaDoor
set_option linter.unusedVariables false
set_option linter.unusedSimpArgs false
open Go.Deep Go.ChangeShapes Go.WideShapes Go.ChangeAt Go.RowKit

theorem nm_laid : (Rows.laid_bursary_request_names : DataW Unit) = .agg (nmL.map fun s => .lit (.string s.data.toList)) := by kernel_rfl
theorem nv_of_laid {W : World} (h : laidMet Tryd.prog [("bursary/request.names", .agg (nmL.map fun s => .lit (.string s.data.toList)))] W) : NV W := fun r hr => by
  obtain ⟨ps, ⟨g', t, cs, fuel, p, q, hg', ht', hv, hd, _, _⟩, _, _⟩ := h
  have hg : Tryd.prog.globalNamed "bursary/request.names" = some 0 := by kernel_rfl
  have ht : (Tryd.prog.globals[0]?).map (·.type) = some 116 := by kernel_rfl
  obtain rfl := Option.some.inj (hg.symm.trans hg')
  obtain rfl := Option.some.inj (ht.symm.trans ht')
  obtain ⟨xs, m, _, ex, _, hlx, hel⟩ := DataW.trod_array Tryd.underlying116 hd
  have c5 : Tryd.prog.cellsOf 9 = 1 := by kernel_rfl
  have hE := hel r hr
  rw [c5, Nat.mul_one, List.getElem?_eq_getElem (by omega)] at hE
  obtain ⟨s, e1, e2, _⟩ := DataW.trod_string Tryd.underlying9 hE
  have hlen : nmL.length = 30 := rfl
  have e3 : (xs.map (·.1)) = nmL.map fun s => .lit (.string s.data.toList) := (DataW.agg.inj (Prod.mk.inj ex).1).symm
  have e4 : (xs.map (·.1))[r]? = (nmL.map fun s => (DataW.lit (.string s.data.toList) : DataW Unit))[r]? := by rw [e3]
  rw [List.getElem?_map, List.getElem?_map, List.getElem?_eq_getElem (by omega : r < xs.length), List.getElem?_eq_getElem (by omega : r < nmL.length), e2] at e4
  have hz : s = nmF r := by
    simp only [Option.map_some, Option.some.injEq, DataW.lit.injEq, Lit.string.injEq] at e4
    have e5 : nmF r = nmL[r]'(by omega) := by unfold nmF; rw [List.getD_eq_getElem?_getD, List.getElem?_eq_getElem (by omega : r < nmL.length)]; rfl
    rw [e5]
    generalize nmL[r]'(by omega) = u at e4
    cases s; cases u
    exact congrArg ByteArray.mk (Array.toList_inj.1 e4)
  rw [World.var?_cell hg hv r, ← hz]
  have : cs.toList[r]? = some (.string s) := by
    have h0 : ((cs.toList.drop r).take 1)[0]? = some (.string s) := by rw [e1]; rfl
    simpa using h0
  simpa using this
end Go.Proofs.YtmabhjifldafaaaDoor
