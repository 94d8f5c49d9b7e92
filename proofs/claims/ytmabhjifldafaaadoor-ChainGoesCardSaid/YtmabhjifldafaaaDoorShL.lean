/- What the rows' condition on the package's variables gives a walk; a list of byte rows that came in. -/
import Derived.Test.YtmabhjifldafaaaDoorStp
import Derived.Test.YtmabhjifldafaaaDoorRows
import Derived.Test.YtmabhjifldafaaaDoorShY
import Derived.ProofKit
import Derived.OpenShut
import Derived.ChangeSame
import Derived.ChangeVars
import Derived.JoinedOf
import Derived.RowKit
import Derived.RowKitTokens
import Derived.LaidLaws
import Derived.LaidMore
import Derived.LaidSub
import Derived.Lay
import Derived.Stop.Joined
import Derived.Lib.SmallJoins
import Derived.Deep.Slices
namespace Go.Proofs.YtmabhjifldafaaaDoor
set_option linter.unusedVariables false
set_option linter.unusedSimpArgs false
open Go.Deep Go.ChangeShapes Go.WideShapes Go.ChangeAt Go.RowKit

theorem Tryd.own : ownKnob Tryd.prog.godebug = none := by kernel_rfl
theorem Tryd.laidOut : laidOutB Tryd.prog = true := by kernel_rfl
def laidL : List (String × DataW Unit) := [("bursary/sha.first", Rows.laid_bursary_sha_first), ("bursary/sha.added", Rows.laid_bursary_sha_added)]
def ints (l : List Nat) : List Int := l.map fun (n : Nat) => (n : Int)
theorem laid_first : (Rows.laid_bursary_sha_first : DataW Unit) = .agg ((ints hTab).map fun n => .lit (.int .u32 n)) := by kernel_rfl
theorem laid_added : (Rows.laid_bursary_sha_added : DataW Unit) = .agg ((ints kTab).map fun n => .lit (.int .u32 n)) := by kernel_rfl
theorem tab_cell {W : World} {name : String} {g : Nat} {T : TypeId} {n : Nat} {l : List Nat} (h : laidMetH Tryd.prog [(name, .agg ((ints l).map fun n => .lit (.int .u32 n)))] W)
    (hp : laidMetH Tryd.prog [(name, .agg ((ints l).map fun n => .lit (.int .u32 n)))] W = laidMet Tryd.prog [(name, .agg ((ints l).map fun n => .lit (.int .u32 n)))] W)
    (hg : Tryd.prog.globalNamed name = some g) (ht : (Tryd.prog.globals[g]?).map (·.type) = some T) (hT : Tryd.prog.underlying T = some (.array n 193)) (hl : l.length = n) (r : Nat) (hr : r < n) : W.cell? ⟨g, r, none⟩ = some (.int .u32 (l.getD r 0 : Nat)) := by
  rw [hp] at h
  obtain ⟨ps, ⟨g', t, cs, fuel, p, q, hg', ht', hv, hd, _, _⟩, _, _⟩ := h
  obtain rfl := Option.some.inj (hg.symm.trans hg')
  obtain rfl := Option.some.inj (ht.symm.trans ht')
  obtain ⟨xs, m, _, ex, _, hlx, hel⟩ := DataW.trod_array hT hd
  have c5 : Tryd.prog.cellsOf 193 = 1 := by kernel_rfl
  have hE := hel r hr
  rw [c5, Nat.mul_one, List.getElem?_eq_getElem (by omega)] at hE
  obtain ⟨z, e1, e2, _⟩ := DataW.trod_int Tryd.underlying193 hE
  have hlen : (ints l).length = n := by simpa [ints] using hl
  have e3 : (xs.map (·.1)) = (ints l).map fun n => .lit (.int .u32 n) := (DataW.agg.inj (Prod.mk.inj ex).1).symm
  have e4 : (xs.map (·.1))[r]? = ((ints l).map fun n => (DataW.lit (.int .u32 n) : DataW Unit))[r]? := by rw [e3]
  rw [List.getElem?_map, List.getElem?_map, List.getElem?_eq_getElem (by omega : r < xs.length), List.getElem?_eq_getElem (by omega : r < (ints l).length), e2] at e4
  have hz : z = ((l.getD r 0 : Nat) : Int) := by
    simp only [Option.map_some, Option.some.injEq, DataW.lit.injEq, Lit.int.injEq, true_and] at e4
    rw [e4]
    have h1 : (ints l)[r]'(by omega) = ((l[r]'(by omega) : Nat) : Int) := by simp [ints]
    rw [h1, List.getD_eq_getElem?_getD, List.getElem?_eq_getElem (by omega : r < l.length)]; rfl
  rw [World.var?_cell hg hv r, ← hz]
  have : cs.toList[r]? = some (.int .u32 z) := by
    have h0 : ((cs.toList.drop r).take 1)[0]? = some (.int .u32 z) := by rw [e1]; rfl
    simpa using h0
  simpa using this
theorem gv_of_laid {W : World} (h : laidMetH Tryd.prog laidL W) : GV W := by
  have h1 := h.filter (fun x => x.1 == "bursary/sha.first")
  have h2 := h.filter (fun x => x.1 == "bursary/sha.added")
  rw [show laidL.filter (fun x => x.1 == "bursary/sha.first") = [("bursary/sha.first", .agg ((ints hTab).map fun n => .lit (.int .u32 n)))] by rw [← laid_first]; rfl] at h1
  rw [show laidL.filter (fun x => x.1 == "bursary/sha.added") = [("bursary/sha.added", .agg ((ints kTab).map fun n => .lit (.int .u32 n)))] by rw [← laid_added]; rfl] at h2
  exact ⟨fun i hi => tab_cell h1 (MakeChecks.laidMetH_plain _ _ _ (by kernel_rfl)) (by kernel_rfl) (by kernel_rfl) Tryd.underlying194 rfl i hi,
    fun i hi => tab_cell h2 (MakeChecks.laidMetH_plain _ _ _ (by kernel_rfl)) (by kernel_rfl) (by kernel_rfl) Tryd.underlying199 rfl i hi⟩

end Go.Proofs.YtmabhjifldafaaaDoor
