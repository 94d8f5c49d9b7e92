/- EngineForms returns true for every input, and its arguments read afterwards as before; the variable errors.errorType holds what the program lays in it. -/
import Derived.Test.YtkaddilgegimjaaDoorEm6
import Derived.Test.YtkaddilgegimjaaDoorOpT
import Derived.Test.YtkaddilgegimjaaDoorLaid
import Derived.Test.YtkaddilgegimjaaDoorTie
import Derived.Test.YtkaddilgegimjaaDoorCards
import Derived.SevenTiedAt
namespace Go.Proofs.YtkaddilgegimjaaDoor
open Go.ChangeShapes Go.WideShapes Go.ChangeAt Go.RowKit
open Go.ChangeMaps (open_string shut_string)
set_option linter.unusedVariables false

theorem bytes_nil0 {W : World} {oa : Option Addr} {cap : Nat} {f : Nat → Nat} (h : Bytes W oa cap f) : oa = none → cap = 0 := fun e => by
  rcases Nat.eq_zero_or_pos cap with h0 | h0
  · exact h0
  · obtain ⟨_, b, off, e2, _⟩ := h 0 h0
    rw [e] at e2; cases e2

set_option maxRecDepth 100000 in
theorem engineForms_lifted (os : Os) (started : os.Started) (H : Type) (enc : TypeId × Value → H) :
    ReturnsInHanded {} Tryd.checked os 9 .any (fun w args => (Rows.engineFormsSpec.pre enc Tryd.prog Tryd.f9 [] false w args ∧ laidMetH Tryd.prog laidL w) ∧ sizedMet enc Tryd.prog Tryd.f9 (OpenSpec.ofChange Rows.engineFormsSpec) false w args)
      (Rows.engineFormsSpec.post enc Tryd.prog Tryd.f9 false true false false) := by
  refine returnsInHanded_of_change_and (C := Tryd.checked) (X := fun w _ => laidMetH Tryd.prog laidL w) (fun _ _ _ hh h => h.of_heap hh) Tryd.own started (by kernel_rfl) Tryd.func9
    (ChangeSpec.witness_at (enc := enc) (C := Tryd.checked) (os := os) (X := fun w _ => laidMetH Tryd.prog laidL w) false (laidWorld os) #[.agg #[.slice none 0 0, .int .u32 0, .int .i64 0], .slice none 0 0] 8 rfl (by kernel_rfl) (by kernel_rfl) (by kernel_rfl) (by kernel_rfl) (by kernel_rfl) (laidWorld_met os _)) ?_
  intro W base args ds gs before hval0 hW _ hwt hL _
  have hval : ∀ (j : Nat) t v, Tryd.f9.params[j]? = some t → args[j]? = some v → Value.okWide Tryd.prog W .any base t v := hval0
  have hW' := hW
  obtain ⟨p, q, hA0, hV, rfl, hfz, hnd⟩ := hW
  have hA : DataW.TrodAll enc Tryd.prog W 0 (fun _ => true) true Tryd.f9.params.toList args.toList ds p := hA0
  rw [Tryd.params9] at hA hval
  obtain ⟨v0, vs0, d0, ds0, p0, q0, hargs, rfl, rfl, h0, r0⟩ := trodAll_cons hA
  obtain ⟨v1, vs1, d1, ds1, p1, q1, rfl, rfl, rfl, h1, r1⟩ := trodAll_cons r0
  obtain ⟨rfl, rfl, rfl⟩ := trodAll_nil r1
  obtain rfl : args = #[v0, v1] := by cases args; simp_all
  obtain ⟨rfl, rfl⟩ := trodVars_none hV
  have k0 := h0
  have lt0 : ∀ x ∈ p0, x.block < W.heap.size := by obtain ⟨m, hm⟩ := k0; exact DataW.trod_lt m _ _ _ hm
  have k1 := h1
  have lt1 : ∀ x ∈ p1, x.block < W.heap.size := by obtain ⟨m, hm⟩ := k1; exact DataW.trod_lt m _ _ _ hm
  have hg := handle_of_laid hL
  obtain ⟨sv0, su0, st0, y0, yy0, yz0, nn0, rfl, rfl, rfl, t0, tt0, tu0⟩ := Go.Joins.open_agg3 Tryd.underlying73 (by kernel_rfl) (by kernel_rfl) (hval 0 73 v0 rfl rfl) h0
  obtain ⟨oa0, n0, cp0, V0, rfl, ln0, lm0, B0, M0, O0, Z0⟩ := row_versT Tryd.underlying71 Tryd.underlying89 (by kernel_rfl) (by kernel_rfl) Tryd.underlying33 Tryd.underlying31 Tryd.underlying5 (by kernel_rfl) Tryd.underlying22 Tryd.underlying3 t0
  obtain ⟨zl0, e10, _, w0⟩ := DataW.trod_int Tryd.underlying33 tt0
  simp at e10
  subst e10
  obtain ⟨mx0, e20, _, wm0⟩ := DataW.trod_int Tryd.underlying3 tu0
  simp at e20
  subst e20
  have bL0 := (bd_of_wf_u32 w0).2
  obtain ⟨L0, rfl⟩ := Int.eq_ofNat_of_zero_le (bd_of_wf_u32 w0).1
  have N48 : n0 * 48 ≤ 140737488355328 := by
    rcases Z0 with h0 | ⟨el, sp, he, hll⟩
    · have : n0 = 0 := by omega
      omega
    · have hr := reach_sec hwt (T := 73) (S := 71) (E := 89) (d0 := y0.1) (by kernel_rfl) rfl Tryd.underlying73 (by rfl) Tryd.underlying71 (by kernel_rfl) he
      rw [hll] at hr
      exact Nat.le_trans (Nat.mul_le_mul_right 48 ln0) hr
  obtain ⟨a1, n1, c1, rfl⟩ := okWide_slice Tryd.underlying31 (hval 1 31 v1 rfl rfl)
  obtain ⟨f1, hf1⟩ := h1
  obtain ⟨oa1, na1, ca1, g1, e1, l1, m1, b1⟩ := row_bytes Tryd.underlying31 Tryd.underlying5 (by kernel_rfl) hf1
  simp [Value.cells] at e1
  obtain ⟨rfl, rfl, rfl⟩ := e1
  clear hA0 hval0
  refine (ef_any oa0 n0 cp0 L0 mx0 V0 a1 n1 c1 g1 W hg (Nat.le_trans ln0 lm0) N48 (by omega) B0 (fun i hi => (M0 i hi).1) (fun i hi => (M0 i hi).2) (b1.mono l1) (bytes_nil0 b1) l1 m1).mono fun e W' ⟨he, bel⟩ => ?_
  subst he
  exact ⟨_, rfl, _, _, _, [], _, [], hW', trodAll_mk1 (shut_bool Tryd.underlying4 _), (trodAll_cons_mk (Below.trod Tryd.laidOut (by kernel_rfl) (of_decide_eq_true (by kernel_rfl)) k0 bel lt0) (trodAll_cons_mk (Below.trod Tryd.laidOut (by kernel_rfl) (of_decide_eq_true (by kernel_rfl)) k1 bel lt1) trodAll_mk0)), rfl, bel.frame _, fun h => by cases h⟩

theorem engineForms_holds : Rows.EngineFormsSaid :=
  OpenClaim.holds_of_wide 9 Tryd.f9 rfl rfl rfl rfl rfl rfl rfl ⟨rfl, rfl, rfl, rfl, rfl⟩ rfl rfl rfl rfl rfl (by kernel_rfl) Tryd.func9 (by kernel_rfl)
    (of_decide_eq_true (by kernel_rfl)) (by unfold Func.isWrapper; rw [if_neg (of_decide_eq_false (by kernel_rfl))]; exact ⟨rfl, rfl⟩)
    (fun os started H enc _ => engineForms_lifted os started H enc)

theorem engineForms_card : Rows.EngineFormsCardSaid :=
  Claim7.holds_tied_plain_at .later [] _ _ _ _
    engineForms_holds (fun _ h => by cases h) (by kernel_rfl) (fun _ h => by cases h) engineForms_row_tie rfl ⟨rfl, rfl⟩ (by kernel_rfl) rfl
    (fun f fn hf hfn => by
      obtain rfl : f = 9 := Option.some.inj ((show Tryd.prog.funcNamed "bursary/bursarylaw30.EngineForms" = some 9 by kernel_rfl).symm.trans hf) |>.symm
      obtain rfl : fn = Tryd.f9 := (Option.some.inj (Tryd.func9.symm.trans hfn)).symm
      exact ⟨by kernel_rfl, fun j t ht => by
        rw [Tryd.params9] at ht
        have hall : ∀ t ∈ [73, 31], Tryd.prog.wantsStandIn t = false := by
          intro t ht
          simp only [List.mem_cons, List.not_mem_nil, or_false] at ht
          rcases ht with rfl | rfl <;> kernel_rfl
        exact hall t (by simpa using Array.mem_of_getElem? ht)⟩)
    (by kernel_rfl)
end Go.Proofs.YtkaddilgegimjaaDoor
