/- SameSteps returns true for every input, and its arguments read afterwards as before. No condition. -/
import Derived.Test.YtnkbnlmbjbdmmaaRows
import Derived.Test.YtnkbnlmbjbdmmaaCame
import Derived.ProofKit
import Derived.OpenShut
namespace Go.Proofs.Ytnkbnlmbjbdmmaa
open Go.ChangeShapes Go.WideShapes Go.ChangeAt Go.RowKit

theorem Try.own : ownKnob Try.prog.godebug = none := by kernel_rfl
theorem Try.laidOut : laidOutB Try.prog = true := by kernel_rfl
theorem Try.cells5 : Try.prog.cellsOf 5 = 1 := by kernel_rfl
theorem Try.cells31 : Try.prog.cellsOf 31 = 2 := by kernel_rfl
theorem Try.cells23 : Try.prog.cellsOf 23 = 1 := by kernel_rfl


set_option maxRecDepth 100000 in
theorem steps_lifted (os : Os) (started : os.Started) (H : Type) (enc : TypeId × Value → H) :
    ReturnsInHanded {} Try.checked os 4 .any (Rows.sameStepsSpec.pre6 enc Try.prog Try.f4 Rows.sameStepsRow.domain false) (Rows.sameStepsSpec.post enc Try.prog Try.f4 false true false false) := by
  refine returnsInHanded_of_change (C := Try.checked) Try.own started (by kernel_rfl) Try.func4
    (ChangeSpec.witness6 (enc := enc) (C := Try.checked) false ⟨#[], #[.slice none 0 0, .slice none 0 0, .agg #[.slice none 0 0, .slice none 0 0]], []⟩ 8 (by kernel_rfl) (by kernel_rfl) (by kernel_rfl) (by kernel_rfl)) ?_
  intro W base args ds gs before hval0 hW hcnd _
  have hval : ∀ (j : Nat) t v, Try.f4.params[j]? = some t → args[j]? = some v → Value.okWide Try.prog W .any base t v := hval0
  have hW' := hW
  obtain ⟨p, q, hA0, hV, rfl, hfz, hnd⟩ := hW
  have hA : DataW.TrodAll enc Try.prog W 0 (fun _ => true) true Try.f4.params.toList args.toList ds p := hA0
  rw [Try.params4] at hA hval
  obtain ⟨v0, v1, v2, d0, d1, d2, p0, p1, p2, rfl, rfl, rfl, h0, h1, h2⟩ := trodAll_three hA
  obtain ⟨rfl, rfl⟩ := trodVars_none hV
  have k0 := h0
  have k1 := h1
  have k2 := h2
  have lt0 : ∀ x ∈ p0, x.block < W.heap.size := by obtain ⟨m, hm⟩ := k0; exact DataW.trod_lt m _ _ _ hm
  have lt1 : ∀ x ∈ p1, x.block < W.heap.size := by obtain ⟨m, hm⟩ := k1; exact DataW.trod_lt m _ _ _ hm
  have lt2 : ∀ x ∈ p2, x.block < W.heap.size := by obtain ⟨m, hm⟩ := k2; exact DataW.trod_lt m _ _ _ hm
  obtain ⟨a0, n0, c0, rfl⟩ := okWide_slice Try.underlying23 (hval 0 23 v0 rfl rfl)
  obtain ⟨a1, n1, c1, rfl⟩ := okWide_slice Try.underlying23 (hval 1 23 v1 rfl rfl)
  obtain ⟨cs, rfl, hsz⟩ := okWide_array Try.underlying31 (hval 2 31 v2 rfl rfl)
  obtain ⟨f0, hf0⟩ := h0
  obtain ⟨f1, hf1⟩ := h1
  obtain ⟨f2, hf2⟩ := h2
  obtain ⟨oa, na, ca, f, e0, l0, _, b0⟩ := row_bytes Try.underlying23 Try.underlying5 Try.cells5 hf0
  obtain ⟨ob, nb, cb, g, e1, l1, _, b1⟩ := row_bytes Try.underlying23 Try.underlying5 Try.cells5 hf1
  obtain ⟨xs, m, _, _, hlen, hn2, hel⟩ := DataW.trod_array Try.underlying31 hf2
  rw [Try.cells31] at hsz
  obtain ⟨r0, r1, rfl⟩ := Joins.array2 hsz
  have g0 := hel 0 (by omega)
  have g1 := hel 1 (by omega)
  rw [Try.cells23] at g0 g1
  have t0 : (List.take 1 (List.drop (0 * 1) (Value.agg #[r0, r1]).cells.toList)) = [r0] := rfl
  have t1 : (List.take 1 (List.drop (1 * 1) (Value.agg #[r0, r1]).cells.toList)) = [r1] := rfl
  rw [t0, show xs[0]? = some xs[0] from by simp [hn2]] at g0
  rw [t1, show xs[1]? = some xs[1] from by simp [hn2]] at g1
  obtain ⟨oc, nc, cc, p', e2, l2, _, b2⟩ := row_bytes Try.underlying23 Try.underlying5 Try.cells5 g0
  obtain ⟨od, nd, cd, q', e3, l3, _, b3⟩ := row_bytes Try.underlying23 Try.underlying5 Try.cells5 g1
  simp [Value.cells] at e0 e1 e2 e3
  obtain ⟨rfl, rfl, rfl⟩ := e0
  obtain ⟨rfl, rfl, rfl⟩ := e1
  subst e2 e3
  clear hA0 hval0
  refine (steps_any a0 a1 oc od n0 n1 nc nd c0 c1 cc cd f g p' q' W (b0.mono l0) (b1.mono l1) (b2.mono l2) (b3.mono l3)).mono fun e W' ⟨he, bel⟩ => ?_
  subst he
  exact ⟨_, rfl, _, _, _, [], _, [], hW', trodAll_mk1 (shut_bool Try.underlying4 _), (trodAll_cons_mk (Below.trod Try.laidOut (by kernel_rfl) (of_decide_eq_true (by kernel_rfl)) k0 bel lt0) (trodAll_cons_mk (Below.trod Try.laidOut (by kernel_rfl) (of_decide_eq_true (by kernel_rfl)) k1 bel lt1) (trodAll_cons_mk (Below.trod Try.laidOut (by kernel_rfl) (of_decide_eq_true (by kernel_rfl)) k2 bel lt2) trodAll_mk0))), rfl, bel.frame _, fun h => by cases h⟩

theorem sameSteps_holds : Rows.SameStepsSaid :=
  OpenClaim.holds_of_wide 4 Try.f4 rfl rfl rfl rfl rfl rfl rfl ⟨rfl, rfl, rfl, rfl, rfl⟩ rfl rfl rfl rfl rfl (by kernel_rfl) Try.func4 (by kernel_rfl)
    (of_decide_eq_true (by kernel_rfl)) (by unfold Func.isWrapper; rw [if_neg (of_decide_eq_false (by kernel_rfl))]; exact ⟨rfl, rfl⟩)
    (fun os started H enc _ => steps_lifted os started H enc)
end Go.Proofs.Ytnkbnlmbjbdmmaa
