/- ShamirSums returns true for every input, and its arguments read afterwards as before; the variable errors.errorType holds what the program lays in it. -/
import Derived.Test.YtmhofofidmbgfaaDoorSs2
import Derived.Test.YtmhofofidmbgfaaDoorOpS
import Derived.Test.YtmhofofidmbgfaaDoorLaid
import Derived.Test.YtmhofofidmbgfaaDoorTie
import Derived.Test.YtmhofofidmbgfaaDoorCards
import Derived.SevenTiedAt
namespace Go.Proofs.YtmhofofidmbgfaaDoor
open Go.ChangeShapes Go.WideShapes Go.ChangeAt Go.RowKit
open Go.ChangeMaps (open_string shut_string)
set_option linter.unusedVariables false

set_option maxRecDepth 100000 in
theorem shamirSums_lifted (os : Os) (started : os.Started) (H : Type) (enc : TypeId × Value → H) :
    ReturnsInHanded {} Tryd.checked os 7 .any (fun w args => (Rows.shamirSumsSpec.pre enc Tryd.prog Tryd.f7 [] false w args ∧ laidMetH Tryd.prog laidL w) ∧ sizedMet enc Tryd.prog Tryd.f7 (OpenSpec.ofChange Rows.shamirSumsSpec) false w args)
      (Rows.shamirSumsSpec.post enc Tryd.prog Tryd.f7 false true false false) := by
  refine returnsInHanded_of_change_and (C := Tryd.checked) (X := fun w _ => laidMetH Tryd.prog laidL w) (fun _ _ _ hh h => h.of_heap hh) Tryd.own started (by kernel_rfl) Tryd.func7
    (ChangeSpec.witness_at (enc := enc) (C := Tryd.checked) (os := os) (X := fun w _ => laidMetH Tryd.prog laidL w) false (laidWorld os) #[.agg #[.slice none 0 0, .int .i64 0, .int .i64 0, .slice none 0 0], .agg #[.slice none 0 0, .int .i64 0, .int .i64 0, .slice none 0 0]] 8 rfl (by kernel_rfl) (by kernel_rfl) (by kernel_rfl) (by kernel_rfl) (by kernel_rfl) (laidWorld_met os _)) ?_
  intro W base args ds gs before hval0 hW _ hwt hL _
  have hval : ∀ (j : Nat) t v, Tryd.f7.params[j]? = some t → args[j]? = some v → Value.okWide Tryd.prog W .any base t v := hval0
  have hW' := hW
  obtain ⟨p, q, hA0, hV, rfl, hfz, hnd⟩ := hW
  have hA : DataW.TrodAll enc Tryd.prog W 0 (fun _ => true) true Tryd.f7.params.toList args.toList ds p := hA0
  rw [Tryd.params7] at hA hval
  obtain ⟨v0, vs0, d0, ds0, p0, q0, hargs, rfl, rfl, h0, r0⟩ := trodAll_cons hA
  obtain ⟨v1, vs1, d1, ds1, p1, q1, rfl, rfl, rfl, h1, r1⟩ := trodAll_cons r0
  obtain ⟨rfl, rfl, rfl⟩ := trodAll_nil r1
  obtain rfl : args = #[v0, v1] := by cases args; simp_all
  obtain ⟨rfl, rfl⟩ := trodVars_none hV
  have k0 := h0
  have lt0 : ∀ x ∈ p0, x.block < W.heap.size := by obtain ⟨m, hm⟩ := k0; exact DataW.trod_lt m _ _ _ hm
  have k1 := h1
  have lt1 : ∀ x ∈ p1, x.block < W.heap.size := by obtain ⟨m, hm⟩ := k1; exact DataW.trod_lt m _ _ _ hm
  have hg := handle_of_laid hL
  obtain ⟨av0, au0, ah0, as0, y0, yy0, yz0, yw0, nn0, rfl, rfl, rfl, t0, tt0, tu0, tv0⟩ := Go.Joins.open_agg4 Tryd.underlying57 (by kernel_rfl) (by kernel_rfl) (hval 0 57 v0 rfl rfl) h0
  obtain ⟨os0, ns0, cs0, S0, rfl, ls0, lm0, BS0, NS0⟩ := row_bytes_nil Tryd.underlying22 Tryd.underlying5 (by kernel_rfl) t0
  obtain ⟨K0, e10, _, w10⟩ := DataW.trod_int Tryd.underlying3 tt0
  simp at e10
  subst e10
  obtain ⟨N0, e20, _, w20⟩ := DataW.trod_int Tryd.underlying3 tu0
  simp at e20
  subst e20
  obtain ⟨od0, nd0, cd0, D0, rfl, ld0, lq0, BD0, ND0⟩ := row_bytes_nil Tryd.underlying22 Tryd.underlying5 (by kernel_rfl) tv0
  obtain ⟨av1, au1, ah1, as1, y1, yy1, yz1, yw1, nn1, rfl, rfl, rfl, t1, tt1, tu1, tv1⟩ := Go.Joins.open_agg4 Tryd.underlying57 (by kernel_rfl) (by kernel_rfl) (hval 1 57 v1 rfl rfl) h1
  obtain ⟨os1, ns1, cs1, S1, rfl, ls1, lm1, BS1, NS1⟩ := row_bytes_nil Tryd.underlying22 Tryd.underlying5 (by kernel_rfl) t1
  obtain ⟨K1, e11, _, w11⟩ := DataW.trod_int Tryd.underlying3 tt1
  simp at e11
  subst e11
  obtain ⟨N1, e21, _, w21⟩ := DataW.trod_int Tryd.underlying3 tu1
  simp at e21
  subst e21
  obtain ⟨od1, nd1, cd1, D1, rfl, ld1, lq1, BD1, ND1⟩ := row_bytes_nil Tryd.underlying22 Tryd.underlying5 (by kernel_rfl) tv1
  clear hA0 hval0
  refine (sums_any os0 od0 os1 od1 ns0 cs0 nd0 cd0 ns1 cs1 nd1 cd1 K0 N0 K1 N1 S0 D0 S1 D1 W hg BS0 BD0 NS0 ls0 lm0 (Nat.le_trans ld0 lq0) BS1 BD1 (Nat.le_trans ls1 lm1) (Nat.le_trans ld1 lq1)).mono fun e W' ⟨he, bel⟩ => ?_
  subst he
  exact ⟨_, rfl, _, _, _, [], _, [], hW', trodAll_mk1 (shut_bool Tryd.underlying4 _), (trodAll_cons_mk (Below.trod Tryd.laidOut (by kernel_rfl) (of_decide_eq_true (by kernel_rfl)) k0 bel lt0) (trodAll_cons_mk (Below.trod Tryd.laidOut (by kernel_rfl) (of_decide_eq_true (by kernel_rfl)) k1 bel lt1) trodAll_mk0)), rfl, bel.frame _, fun h => by cases h⟩

theorem shamirSums_holds : Rows.ShamirSumsSaid :=
  OpenClaim.holds_of_wide 7 Tryd.f7 rfl rfl rfl rfl rfl rfl rfl ⟨rfl, rfl, rfl, rfl, rfl⟩ rfl rfl rfl rfl rfl (by kernel_rfl) Tryd.func7 (by kernel_rfl)
    (of_decide_eq_true (by kernel_rfl)) (by unfold Func.isWrapper; rw [if_neg (of_decide_eq_false (by kernel_rfl))]; exact ⟨rfl, rfl⟩)
    (fun os started H enc _ => shamirSums_lifted os started H enc)

theorem shamirSums_card : Rows.ShamirSumsCardSaid :=
  Claim7.holds_tied_plain_at .later [] _ _ _ _
    shamirSums_holds (fun _ h => by cases h) (by kernel_rfl) (fun _ h => by cases h) shamirSums_row_tie rfl ⟨rfl, rfl⟩ (by kernel_rfl) rfl
    (fun f fn hf hfn => by
      obtain rfl : f = 7 := Option.some.inj ((show Tryd.prog.funcNamed "bursary/bursarylaw03.ShamirSums" = some 7 by kernel_rfl).symm.trans hf) |>.symm
      obtain rfl : fn = Tryd.f7 := (Option.some.inj (Tryd.func7.symm.trans hfn)).symm
      exact ⟨by kernel_rfl, fun j t ht => by
        rw [Tryd.params7] at ht
        have hall : ∀ t ∈ [57, 57], Tryd.prog.wantsStandIn t = false := by
          intro t ht
          simp only [List.mem_cons, List.not_mem_nil, or_false] at ht
          rcases ht with rfl | rfl <;> kernel_rfl
        exact hall t (by simpa using Array.mem_of_getElem? ht)⟩)
    (by kernel_rfl)
end Go.Proofs.YtmhofofidmbgfaaDoor
