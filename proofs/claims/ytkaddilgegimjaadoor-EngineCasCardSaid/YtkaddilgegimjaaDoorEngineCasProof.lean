/- EngineCas returns true for every input, and its arguments read afterwards as before; the variable errors.errorType holds what the program lays in it. -/
import Derived.Test.YtkaddilgegimjaaDoorEnB
import Derived.Test.YtkaddilgegimjaaDoorOpV
import Derived.Test.YtkaddilgegimjaaDoorLaid
import Derived.Test.YtkaddilgegimjaaDoorTie
import Derived.Test.YtkaddilgegimjaaDoorCards
import Derived.SevenTiedAt
namespace Go.Proofs.YtkaddilgegimjaaDoor
open Go.ChangeShapes Go.WideShapes Go.ChangeAt Go.RowKit
open Go.ChangeMaps (open_string shut_string)
set_option linter.unusedVariables false

set_option maxRecDepth 100000 in
theorem engineCas_lifted (os : Os) (started : os.Started) (H : Type) (enc : TypeId × Value → H) :
    ReturnsInHanded {} Tryd.checked os 11 .any (fun w args => (Rows.engineCasSpec.pre enc Tryd.prog Tryd.f11 [] false w args ∧ laidMetH Tryd.prog laidL w) ∧ sizedMet enc Tryd.prog Tryd.f11 (OpenSpec.ofChange Rows.engineCasSpec) false w args)
      (Rows.engineCasSpec.post enc Tryd.prog Tryd.f11 false true false false) := by
  refine returnsInHanded_of_change_and (C := Tryd.checked) (X := fun w _ => laidMetH Tryd.prog laidL w) (fun _ _ _ hh h => h.of_heap hh) Tryd.own started (by kernel_rfl) Tryd.func11
    (ChangeSpec.witness_at (enc := enc) (C := Tryd.checked) (os := os) (X := fun w _ => laidMetH Tryd.prog laidL w) false (laidWorld os) #[.agg #[.slice none 0 0, .int .u32 0, .int .i64 0], .agg #[.slice none 0 0, .int .i64 0, .int .u32 0, .int .u64 0], .agg #[.slice none 0 0, .int .i64 0, .int .u32 0, .int .u64 0]] 8 rfl (by kernel_rfl) (by kernel_rfl) (by kernel_rfl) (by kernel_rfl) (by kernel_rfl) (laidWorld_met os _)) ?_
  intro W base args ds gs before hval0 hW _ hwt hL _
  have hval : ∀ (j : Nat) t v, Tryd.f11.params[j]? = some t → args[j]? = some v → Value.okWide Tryd.prog W .any base t v := hval0
  have hW' := hW
  obtain ⟨p, q, hA0, hV, rfl, hfz, hnd⟩ := hW
  have hA : DataW.TrodAll enc Tryd.prog W 0 (fun _ => true) true Tryd.f11.params.toList args.toList ds p := hA0
  rw [Tryd.params11] at hA hval
  obtain ⟨v0, vs0, d0, ds0, p0, q0, hargs, rfl, rfl, h0, r0⟩ := trodAll_cons hA
  obtain ⟨v1, vs1, d1, ds1, p1, q1, rfl, rfl, rfl, h1, r1⟩ := trodAll_cons r0
  obtain ⟨v2, vs2, d2, ds2, p2, q2, rfl, rfl, rfl, h2, r2⟩ := trodAll_cons r1
  obtain ⟨rfl, rfl, rfl⟩ := trodAll_nil r2
  obtain rfl : args = #[v0, v1, v2] := by cases args; simp_all
  obtain ⟨rfl, rfl⟩ := trodVars_none hV
  have k0 := h0
  have lt0 : ∀ x ∈ p0, x.block < W.heap.size := by obtain ⟨m, hm⟩ := k0; exact DataW.trod_lt m _ _ _ hm
  have k1 := h1
  have lt1 : ∀ x ∈ p1, x.block < W.heap.size := by obtain ⟨m, hm⟩ := k1; exact DataW.trod_lt m _ _ _ hm
  have k2 := h2
  have lt2 : ∀ x ∈ p2, x.block < W.heap.size := by obtain ⟨m, hm⟩ := k2; exact DataW.trod_lt m _ _ _ hm
  have hg := handle_of_laid hL
  obtain ⟨sv0, su0, st0, y0, yy0, yz0, nn0, rfl, rfl, rfl, t0, tt0, tu0⟩ := Go.Joins.open_agg3 Tryd.underlying73 (by kernel_rfl) (by kernel_rfl) (hval 0 73 v0 rfl rfl) h0
  obtain ⟨oa0, n0, cp0, V0, rfl, ln0, lm0, B0, Z0⟩ := row_vers Tryd.underlying71 Tryd.underlying89 (by kernel_rfl) (by kernel_rfl) Tryd.underlying33 Tryd.underlying31 Tryd.underlying5 (by kernel_rfl) Tryd.underlying22 Tryd.underlying3 t0
  obtain ⟨zl0, e10, _, w0⟩ := DataW.trod_int Tryd.underlying33 tt0
  simp at e10
  subst e10
  obtain ⟨mx0, e20, _, wm0⟩ := DataW.trod_int Tryd.underlying3 tu0
  simp at e20
  subst e20
  have bL0 := (bd_of_wf_u32 w0).2
  obtain ⟨L0, rfl⟩ := Int.eq_ofNat_of_zero_le (bd_of_wf_u32 w0).1
  have N48 : n0 * 48 ≤ 140737488355328 := by
    rcases Z0 with h0 | ⟨el, sp, he, hll⟩
    · have : n0 = 0 := by omega
      omega
    · have hr := reach_sec hwt (T := 73) (S := 71) (E := 89) (d0 := y0.1) (by kernel_rfl) rfl Tryd.underlying73 (by rfl) Tryd.underlying71 (by kernel_rfl) he
      rw [hll] at hr
      exact Nat.le_trans (Nat.mul_le_mul_right 48 ln0) hr
  obtain ⟨av1, au1, ah1, as1, y1, yy1, yz1, yw1, nn1, rfl, rfl, rfl, t1, tt1, tu1, tv1⟩ := Go.Joins.open_agg4 Tryd.underlying75 (by kernel_rfl) (by kernel_rfl) (hval 1 75 v1 rfl rfl) h1
  obtain ⟨xa1, n1, c1, f1, rfl, ln1, lm1, B1, hn1⟩ := row_bytes_nil Tryd.underlying31 Tryd.underlying5 (by kernel_rfl) t1
  obtain ⟨ja1, e11, _, _⟩ := DataW.trod_int Tryd.underlying3 tt1
  simp at e11
  subst e11
  obtain ⟨na1, e21, _, _⟩ := DataW.trod_int Tryd.underlying33 tu1
  simp at e21
  subst e21
  obtain ⟨ta1, e31, _, _⟩ := DataW.trod_int Tryd.underlying22 tv1
  simp at e31
  subst e31
  obtain ⟨av2, au2, ah2, as2, y2, yy2, yz2, yw2, nn2, rfl, rfl, rfl, t2, tt2, tu2, tv2⟩ := Go.Joins.open_agg4 Tryd.underlying75 (by kernel_rfl) (by kernel_rfl) (hval 2 75 v2 rfl rfl) h2
  obtain ⟨xa2, n2, c2, f2, rfl, ln2, lm2, B2, hn2⟩ := row_bytes_nil Tryd.underlying31 Tryd.underlying5 (by kernel_rfl) t2
  obtain ⟨ja2, e12, _, _⟩ := DataW.trod_int Tryd.underlying3 tt2
  simp at e12
  subst e12
  obtain ⟨na2, e22, _, _⟩ := DataW.trod_int Tryd.underlying33 tu2
  simp at e22
  subst e22
  obtain ⟨ta2, e32, _, _⟩ := DataW.trod_int Tryd.underlying22 tv2
  simp at e32
  subst e32
  clear hA0 hval0
  refine (cas_any oa0 n0 cp0 L0 mx0 V0 xa1 xa2 n1 c1 n2 c2 f1 f2 ja1 na1 ta1 ja2 na2 ta2 W hg (Nat.le_trans ln0 lm0) N48 (by omega) B0 B1 B2 hn1 hn2).mono fun e W' ⟨he, bel⟩ => ?_
  subst he
  exact ⟨_, rfl, _, _, _, [], _, [], hW', trodAll_mk1 (shut_bool Tryd.underlying4 _), (trodAll_cons_mk (Below.trod Tryd.laidOut (by kernel_rfl) (of_decide_eq_true (by kernel_rfl)) k0 bel lt0) (trodAll_cons_mk (Below.trod Tryd.laidOut (by kernel_rfl) (of_decide_eq_true (by kernel_rfl)) k1 bel lt1) (trodAll_cons_mk (Below.trod Tryd.laidOut (by kernel_rfl) (of_decide_eq_true (by kernel_rfl)) k2 bel lt2) trodAll_mk0))), rfl, bel.frame _, fun h => by cases h⟩

theorem engineCas_holds : Rows.EngineCasSaid :=
  OpenClaim.holds_of_wide 11 Tryd.f11 rfl rfl rfl rfl rfl rfl rfl ⟨rfl, rfl, rfl, rfl, rfl⟩ rfl rfl rfl rfl rfl (by kernel_rfl) Tryd.func11 (by kernel_rfl)
    (of_decide_eq_true (by kernel_rfl)) (by unfold Func.isWrapper; rw [if_neg (of_decide_eq_false (by kernel_rfl))]; exact ⟨rfl, rfl⟩)
    (fun os started H enc _ => engineCas_lifted os started H enc)

theorem engineCas_card : Rows.EngineCasCardSaid :=
  Claim7.holds_tied_plain_at .later [] _ _ _ _
    engineCas_holds (fun _ h => by cases h) (by kernel_rfl) (fun _ h => by cases h) engineCas_row_tie rfl ⟨rfl, rfl⟩ (by kernel_rfl) rfl
    (fun f fn hf hfn => by
      obtain rfl : f = 11 := Option.some.inj ((show Tryd.prog.funcNamed "bursary/bursarylaw30.EngineCas" = some 11 by kernel_rfl).symm.trans hf) |>.symm
      obtain rfl : fn = Tryd.f11 := (Option.some.inj (Tryd.func11.symm.trans hfn)).symm
      exact ⟨by kernel_rfl, fun j t ht => by
        rw [Tryd.params11] at ht
        have hall : ∀ t ∈ [73, 75, 75], Tryd.prog.wantsStandIn t = false := by
          intro t ht
          simp only [List.mem_cons, List.not_mem_nil, or_false] at ht
          rcases ht with rfl | rfl | rfl <;> kernel_rfl
        exact hall t (by simpa using Array.mem_of_getElem? ht)⟩)
    (by kernel_rfl)
end Go.Proofs.YtkaddilgegimjaaDoor
