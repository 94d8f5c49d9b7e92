/- Rows of the call's own, told as strings; quiet calls. -/
import Derived.Test.YtgfjlgaleddoaaaGreatDoorApp
import Derived.Deep.QuietTactic
import Derived.BigQuiet
namespace Go.Proofs.YtgfjlgaleddoaaaGreatDoor
set_option linter.unusedVariables false
set_option linter.unusedSimpArgs false
open Go.RowKit

theorem Grow.conv {w : World} {base n : Nat} {v : Value} {f : Nat → Nat} (h : Grow w base v n f) : (convert 25 9 v).run Tryz.prog w = .ok (.string (strF n f)) w := by
  rcases h.2 with ⟨rfl, h0⟩ | ⟨g, cap, cur, rfl, hb, hh, hnc, hm, hsz, hcur⟩
  · subst h0; kernel_rfl
  · refine run_convert_bytes_arg w 25 5 Tryz.underlying25 Tryz.underlying5 g 0 n cap _ (by simp) (fun i hi => ?_) 9 Tryz.underlying9
    have h1 : w.cell? ⟨g, 0 + i, none⟩ = cur[i]? := by simp [World.cell?, hh]
    rw [h1, ← Array.getElem?_toList, ← List.getElem?_take_of_lt (show i < n * 1 by omega), hcur, rowC_get f hi, List.getD_eq_getElem?_getD, List.getElem?_map, List.getElem?_range hi]
    rfl
theorem Bytes.conv {w : World} {b off n cap : Nat} {f : Nat → Nat} (h : Bytes w (some ⟨b, off, none⟩) n f) : (convert 25 9 (.slice (some ⟨b, off, none⟩) n cap)).run Tryz.prog w = .ok (.string (strF n f)) w := by
  refine run_convert_bytes_arg w 25 5 Tryz.underlying25 Tryz.underlying5 b off n cap _ (by simp) (fun i hi => ?_) 9 Tryz.underlying9
  obtain ⟨_, b', off', e, hc⟩ := h i hi
  cases e
  rw [hc, List.getD_eq_getElem?_getD, List.getElem?_map, List.getElem?_range hi]; rfl
theorem Below.drewN {B : Nat} {a w : World} (h : Below B a w) (n : Nat) : Below B a (w.drewN n) := h.trans ⟨rfl, rfl, rfl, Nat.le_refl _, fun _ _ => rfl⟩
theorem Grow.drewN {w : World} {base n : Nat} {v : Value} {f : Nat → Nat} (h : Grow w base v n f) (q : Nat) : Grow (w.drewN q) base v n f := h
theorem Calls.quiet_w {P : Program} {f : FuncId} {args : Array Value} {w : World} {n : Nat} {v : Value}
    (h : Calls P f args (w.drewN n) fun e w' => e = .returned v ∧ w.drewN n = w') : Calls P f args (w.drewN n) fun e w'' => e = .returned v ∧ ∃ m, w'' = w.drewN m :=
  h.mono fun _ _ ⟨he, hm⟩ => ⟨he, n, hm.symm⟩
end Go.Proofs.YtgfjlgaleddoaaaGreatDoor
