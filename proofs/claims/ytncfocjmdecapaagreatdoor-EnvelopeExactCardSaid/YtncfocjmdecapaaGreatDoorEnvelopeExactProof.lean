/- EnvelopeExact returns true for every input, and its arguments read afterwards as before; the variable errors.errorType holds what the program lays in it. -/
import Derived.Test.YtncfocjmdecapaaGreatDoorY29
import Derived.Test.YtncfocjmdecapaaGreatDoorY30
import Derived.Test.YtncfocjmdecapaaGreatDoorY29
import Derived.Test.YtncfocjmdecapaaGreatDoorTie
import Derived.Test.YtncfocjmdecapaaGreatDoorCards
import Derived.SevenTiedAt
import Derived.Deep.Slices
import Derived.Lib.SmallJoins
import Derived.ProofKit
import Derived.OpenShut
import Derived.Below
namespace Go.Proofs.YtncfocjmdecapaaGreatDoor
open Go.ChangeShapes Go.WideShapes Go.ChangeAt Go.RowKit
open Go.ChangeMaps (open_string shut_string)
set_option linter.unusedVariables false

set_option maxHeartbeats 4000000
theorem Tryz.laidOut : laidOutB Tryz.prog = true := by kernel_rfl

set_option maxRecDepth 100000 in
theorem envelopeExact_lifted (os : Os) (started : os.Started) (H : Type) (enc : TypeId × Value → H) :
    ReturnsInHanded {} Tryz.checked os 4 .any (fun w args => (Rows.envelopeExactSpec.pre enc Tryz.prog Tryz.f4 [] false w args ∧ laidMetH Tryz.prog laidH w) ∧ sizedMet enc Tryz.prog Tryz.f4 (OpenSpec.ofChange Rows.envelopeExactSpec) false w args)
      (Rows.envelopeExactSpec.post enc Tryz.prog Tryz.f4 false true false false) := by
  refine returnsInHanded_of_change_and (C := Tryz.checked) (X := fun w _ => laidMetH Tryz.prog laidH w) (fun _ _ _ hh h => h.of_heap hh) Tryz.own started (by kernel_rfl) Tryz.func4
    (ChangeSpec.witness_shaped (enc := enc) (C := Tryz.checked) (os := os) (X := fun w _ => laidMetH Tryz.prog laidH w) false (laidWorldH os) #[.agg #[.slice none 0 0, .slice none 0 0, .int .u32 0, .slice none 0 0], .slice none 0 0] 8 (laidWorldH_os _)
      (World.shaped_of_ZipB (by kernel_rfl) (by kernel_rfl)) (by kernel_rfl) (by kernel_rfl) (by kernel_rfl)
      (laidWorldH_met os _)) ?_
  intro W base args ds gs before hval0 hW _ hwt hL _
  have hval : ∀ (j : Nat) t v, Tryz.f4.params[j]? = some t → args[j]? = some v → Value.okWide Tryz.prog W .any base t v := hval0
  have hW' := hW
  obtain ⟨p, q, hA0, hV, rfl, hfz, hnd⟩ := hW
  have hA : DataW.TrodAll enc Tryz.prog W 0 (fun _ => true) true Tryz.f4.params.toList args.toList ds p := hA0
  rw [Tryz.params4] at hA hval
  obtain ⟨v0, vs0, d0, ds0, p0, q0, hargs, rfl, rfl, h0, r0⟩ := trodAll_cons hA
  obtain ⟨v1, vs1, d1, ds1, p1, q1, rfl, rfl, rfl, h1, r1⟩ := trodAll_cons r0
  obtain ⟨rfl, rfl, rfl⟩ := trodAll_nil r1
  obtain rfl : args = #[v0, v1] := by cases args; simp_all
  obtain ⟨rfl, rfl⟩ := trodVars_none hV
  have k0 := h0
  have lt0 : ∀ x ∈ p0, x.block < W.heap.size := by obtain ⟨m, hm⟩ := k0; exact DataW.trod_lt m _ _ _ hm
  have k1 := h1
  have lt1 : ∀ x ∈ p1, x.block < W.heap.size := by obtain ⟨m, hm⟩ := k1; exact DataW.trod_lt m _ _ _ hm
  have hg := gh_of_laid hL
  obtain ⟨va0, vb0, vg0, vx0, ya0, yb0, yg0, yx0, nn0, rfl, rfl, rfl, ta0, tb0, tg0, tx0⟩ := Go.Joins.open_agg4 Tryz.underlying43 (by kernel_rfl) (by kernel_rfl) (hval 0 43 v0 rfl rfl) h0
  obtain ⟨Aa0, An0, Ac0, AF0, rfl, Al0, Aq0, Ab0, Az0⟩ := row_bytes_nil Tryz.underlying24 Tryz.underlying5 (by kernel_rfl) ta0
  obtain ⟨Ba0, Bn0, Bc0, BF0, rfl, Bl0, Bq0, Bb0, Bz0⟩ := row_bytes_nil Tryz.underlying24 Tryz.underlying5 (by kernel_rfl) tb0
  obtain ⟨x0, e0, _, w0⟩ := DataW.trod_int Tryz.underlying23 tg0
  obtain rfl : vg0 = .int .u32 x0 := by simpa using e0
  have bx0 : 0 ≤ x0 ∧ x0 < 4294967296 := by simp [Lit.wf, IntKind.min, IntKind.max, IntKind.signed, IntKind.bits] at w0; omega
  obtain ⟨X0, rfl⟩ := Int.eq_ofNat_of_zero_le bx0.1
  obtain ⟨Xa0, Xn0, Xc0, XF0, rfl, Xl0, Xq0, Xb0, Xz0⟩ := row_bytes_nil Tryz.underlying24 Tryz.underlying5 (by kernel_rfl) tx0
  obtain ⟨a1, n1, c1, rfl⟩ := okWide_slice Tryz.underlying44 (hval 1 44 v1 rfl rfl)
  obtain ⟨m1, hm1⟩ := h1
  obtain ⟨oa1, na1, ca1, N1, S1, e1, l1, q1, hN1, hS1, tl1⟩ := row_terms Tryz.underlying44 Tryz.underlying76 rfl rfl rfl rfl Tryz.underlying23 Tryz.underlying22 Tryz.underlying5 (by kernel_rfl) (by kernel_rfl) (by kernel_rfl) (by kernel_rfl) hm1
  simp [Value.cells] at e1
  obtain ⟨rfl, rfl, rfl⟩ := e1
  clear hA0 hval0
  refine (exact_any An0 Ac0 Bn0 Bc0 Xn0 Xc0 X0 n1 c1 Aa0 Ba0 Xa0 a1 AF0 BF0 XF0 N1 S1 W hg Ab0 Bb0 Xb0 tl1 hN1 hS1 Al0 Bl0 Bq0 Xl0 Xq0 (by have := bx0.2; omega) (by have h9 := Nat.le_trans Al0 Aq0; unfold maxLen at h9; omega) (by have h9 := Nat.le_trans Bl0 Bq0; unfold maxLen at h9; omega) (by have h9 := Nat.le_trans Xl0 Xq0; unfold maxLen at h9; omega) (by have h9 := Nat.le_trans l1 q1; unfold maxLen at h9; omega)).mono fun e W' ⟨he, bel⟩ => ?_
  subst he
  exact ⟨_, rfl, _, _, _, [], _, [], hW', trodAll_mk1 (shut_bool Tryz.underlying4 _), (trodAll_cons_mk (Below.trod Tryz.laidOut (by kernel_rfl) (of_decide_eq_true (by kernel_rfl)) k0 bel lt0) (trodAll_cons_mk (Below.trod Tryz.laidOut (by kernel_rfl) (of_decide_eq_true (by kernel_rfl)) k1 bel lt1) trodAll_mk0)), rfl, bel.frame _, fun h => by cases h⟩

theorem envelopeExact_holds : Rows.EnvelopeExactSaid :=
  OpenClaim.holds_of_wide 4 Tryz.f4 rfl rfl rfl rfl rfl rfl rfl ⟨rfl, rfl, rfl, rfl, rfl⟩ rfl rfl rfl rfl rfl (by kernel_rfl) Tryz.func4 (by kernel_rfl)
    (of_decide_eq_true (by kernel_rfl)) (by unfold Func.isWrapper; rw [if_neg (of_decide_eq_false (by kernel_rfl))]; exact ⟨rfl, rfl⟩)
    (fun os started H enc _ => envelopeExact_lifted os started H enc)

theorem envelopeExact_card : Rows.EnvelopeExactCardSaid :=
  Claim7.holds_tied_plain_at .later [] _ _ _ _
    envelopeExact_holds (fun _ h => by cases h) (by kernel_rfl) (fun _ h => by cases h) envelopeExact_row_tie rfl ⟨rfl, rfl⟩ (by kernel_rfl) rfl
    (fun f fn hf hfn => by
      obtain rfl : f = 4 := Option.some.inj ((show Tryz.prog.funcNamed "bursary/bursarylaw22.EnvelopeExact" = some 4 by kernel_rfl).symm.trans hf) |>.symm
      obtain rfl : fn = Tryz.f4 := (Option.some.inj (Tryz.func4.symm.trans hfn)).symm
      exact ⟨by kernel_rfl, fun j t ht => by
        rw [Tryz.params4] at ht
        have hall : ∀ t ∈ [43, 44], Tryz.prog.wantsStandIn t = false := by
          intro t ht
          simp only [List.mem_cons, List.not_mem_nil, or_false] at ht
          rcases ht with rfl | rfl <;> kernel_rfl
        exact hall t (by simpa using Array.mem_of_getElem? ht)⟩)
    (by kernel_rfl)
end Go.Proofs.YtncfocjmdecapaaGreatDoor
