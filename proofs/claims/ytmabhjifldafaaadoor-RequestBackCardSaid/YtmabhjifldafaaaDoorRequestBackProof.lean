/- RequestBack returns true for every input, and its arguments read afterwards as before; the variable errors.errorType holds what the program lays in it. -/
import Derived.Test.YtmabhjifldafaaaDoorRqD
import Derived.Test.YtmabhjifldafaaaDoorLdQ
import Derived.Test.YtmabhjifldafaaaDoorTie
import Derived.Test.YtmabhjifldafaaaDoorCards
import Derived.SevenTiedAt
namespace Go.Proofs.YtmabhjifldafaaaDoor
open Go.ChangeShapes Go.WideShapes Go.ChangeAt Go.RowKit
open Go.ChangeMaps (open_string shut_string)
set_option linter.unusedVariables false

theorem lbs_nil {W : World} {oa : Option Addr} {n : Nat} {L : Nat → Nat} {G : Nat → Nat → Nat} (h : LBs W oa n L G) : oa = none → n = 0 := fun e => by
  rcases Nat.eq_zero_or_pos n with h0 | h0
  · exact h0
  · obtain ⟨b, off, od, cp, e2, _⟩ := h 0 h0
    rw [e] at e2; cases e2

set_option maxRecDepth 100000 in
theorem requestBack_lifted (os : Os) (started : os.Started) (H : Type) (enc : TypeId × Value → H) :
    ReturnsInHanded {} Tryd.checked os 5 .any (fun w args => (Rows.requestBackSpec.pre enc Tryd.prog Tryd.f5 [] false w args ∧ laidMetH Tryd.prog laidQ w) ∧ sizedMet enc Tryd.prog Tryd.f5 (OpenSpec.ofChange Rows.requestBackSpec) false w args)
      (Rows.requestBackSpec.post enc Tryd.prog Tryd.f5 false true false false) := by
  refine returnsInHanded_of_change_and (C := Tryd.checked) (X := fun w _ => laidMetH Tryd.prog laidQ w) (fun _ _ _ hh h => h.of_heap hh) Tryd.own started (by kernel_rfl) Tryd.func5
    (ChangeSpec.witness_shaped (enc := enc) (C := Tryd.checked) (os := os) (X := fun w _ => laidMetH Tryd.prog laidQ w) false (laidWorldQ os) #[.agg #[.int .i64 0, .slice none 0 0, .string ⟨#[]⟩, .slice none 0 0], .agg #[.int .i64 0, .slice none 0 0], .slice none 0 0] 8 (laidWorldQ_os _)
      (World.shaped_of_ZipB (by kernel_rfl) (by kernel_rfl)) (by kernel_rfl) (by kernel_rfl) (by kernel_rfl)
      (laidWorldQ_met os _)) ?_
  intro W base args ds gs before hval0 hW _ hwt hL _
  have hval : ∀ (j : Nat) t v, Tryd.f5.params[j]? = some t → args[j]? = some v → Value.okWide Tryd.prog W .any base t v := hval0
  have hW' := hW
  obtain ⟨p, q, hA0, hV, rfl, hfz, hnd⟩ := hW
  have hA : DataW.TrodAll enc Tryd.prog W 0 (fun _ => true) true Tryd.f5.params.toList args.toList ds p := hA0
  rw [Tryd.params5] at hA hval
  obtain ⟨v0, vs0, d0, ds0, p0, q0, hargs, rfl, rfl, h0, r0⟩ := trodAll_cons hA
  obtain ⟨v1, vs1, d1, ds1, p1, q1, rfl, rfl, rfl, h1, r1⟩ := trodAll_cons r0
  obtain ⟨v2, vs2, d2, ds2, p2, q2, rfl, rfl, rfl, h2, r2⟩ := trodAll_cons r1
  obtain ⟨rfl, rfl, rfl⟩ := trodAll_nil r2
  obtain rfl : args = #[v0, v1, v2] := by cases args; simp_all
  obtain ⟨rfl, rfl⟩ := trodVars_none hV
  have k0 := h0
  have lt0 : ∀ x ∈ p0, x.block < W.heap.size := by obtain ⟨m, hm⟩ := k0; exact DataW.trod_lt m _ _ _ hm
  have k1 := h1
  have lt1 : ∀ x ∈ p1, x.block < W.heap.size := by obtain ⟨m, hm⟩ := k1; exact DataW.trod_lt m _ _ _ hm
  have k2 := h2
  have lt2 : ∀ x ∈ p2, x.block < W.heap.size := by obtain ⟨m, hm⟩ := k2; exact DataW.trod_lt m _ _ _ hm
  have hg := gh_of_laid hL
  obtain ⟨av0, au0, ah0, as0, y0, yy0, yz0, yw0, nn0, rfl, rfl, rfl, t0, tt0, tu0, tv0⟩ := Go.Joins.open_agg4 Tryd.underlying36 (by kernel_rfl) (by kernel_rfl) (hval 0 36 v0 rfl rfl) h0
  obtain ⟨z0, e00, _, w0⟩ := DataW.trod_int Tryd.underlying3 t0
  simp at e00
  subst e00
  obtain ⟨ot0, nt0, ct0, T0, rfl, lt10, lt20, BT0, NT0⟩ := row_bytes_nil Tryd.underlying33 Tryd.underlying5 (by kernel_rfl) tt0
  obtain ⟨S0, e20, _, ls0⟩ := DataW.trod_string Tryd.underlying9 tu0
  simp at e20
  subst e20
  obtain ⟨oa0, q0, ca0, L0, G0, rfl, lq0, lc0, LB0⟩ := rows_bytes Tryd.underlying34 Tryd.underlying33 Tryd.underlying5 (by kernel_rfl) (by kernel_rfl) tv0
  obtain ⟨av1, au1, y1, yy1, nn1, rfl, rfl, rfl, t1, tt1⟩ := Go.Joins.open_agg2 Tryd.underlying38 (by kernel_rfl) (by kernel_rfl) (hval 1 38 v1 rfl rfl) h1
  obtain ⟨z1, e01, _, w1⟩ := DataW.trod_int Tryd.underlying3 t1
  simp at e01
  subst e01
  obtain ⟨oa1, q1, ca1, L1, G1, rfl, lq1, lc1, LB1⟩ := rows_bytes Tryd.underlying34 Tryd.underlying33 Tryd.underlying5 (by kernel_rfl) (by kernel_rfl) tt1
  obtain ⟨a2, n2, c2, rfl⟩ := okWide_slice Tryd.underlying33 (hval 2 33 v2 rfl rfl)
  obtain ⟨m2, hm2⟩ := h2
  obtain ⟨oa2, na2, ca2, g2, e2, l2, q2, b2, z2⟩ := row_bytes_nil Tryd.underlying33 Tryd.underlying5 (by kernel_rfl) hm2
  simp at e2
  obtain ⟨rfl, rfl, rfl⟩ := e2
  clear hA0 hval0
  refine (reqback_any z0 ot0 nt0 ct0 T0 S0 oa0 q0 ca0 L0 G0 z1 oa1 q1 ca1 L1 G1 a2 n2 c2 g2 W (bd_of_wf_i64 w0).1 (bd_of_wf_i64 w0).2 (bd_of_wf_i64 w1).1 (bd_of_wf_i64 w1).2 BT0 lt10 lt20 NT0 LB0 lq0 lc0 (lbs_nil LB0) ls0 LB1 lq1 lc1 (lbs_nil LB1) b2 z2 l2 q2 hg).mono fun e W' ⟨he, bel⟩ => ?_
  subst he
  exact ⟨_, rfl, _, _, _, [], _, [], hW', trodAll_mk1 (shut_bool Tryd.underlying4 _), (trodAll_cons_mk (Below.trod Tryd.laidOut (by kernel_rfl) (of_decide_eq_true (by kernel_rfl)) k0 bel lt0) (trodAll_cons_mk (Below.trod Tryd.laidOut (by kernel_rfl) (of_decide_eq_true (by kernel_rfl)) k1 bel lt1) (trodAll_cons_mk (Below.trod Tryd.laidOut (by kernel_rfl) (of_decide_eq_true (by kernel_rfl)) k2 bel lt2) trodAll_mk0))), rfl, bel.frame _, fun h => by cases h⟩

theorem requestBack_holds : Rows.RequestBackSaid :=
  OpenClaim.holds_of_wide 5 Tryd.f5 rfl rfl rfl rfl rfl rfl rfl ⟨rfl, rfl, rfl, rfl, rfl⟩ rfl rfl rfl rfl rfl (by kernel_rfl) Tryd.func5 (by kernel_rfl)
    (of_decide_eq_true (by kernel_rfl)) (by unfold Func.isWrapper; rw [if_neg (of_decide_eq_false (by kernel_rfl))]; exact ⟨rfl, rfl⟩)
    (fun os started H enc _ => requestBack_lifted os started H enc)

theorem requestBack_card : Rows.RequestBackCardSaid :=
  Claim7.holds_tied_plain_at .later [] _ _ _ _
    requestBack_holds (fun _ h => by cases h) (by kernel_rfl) (fun _ h => by cases h) requestBack_row_tie rfl ⟨rfl, rfl⟩ (by kernel_rfl) rfl
    (fun f fn hf hfn => by
      obtain rfl : f = 5 := Option.some.inj ((show Tryd.prog.funcNamed "bursary/bursarylaw32.RequestBack" = some 5 by kernel_rfl).symm.trans hf) |>.symm
      obtain rfl : fn = Tryd.f5 := (Option.some.inj (Tryd.func5.symm.trans hfn)).symm
      exact ⟨by kernel_rfl, fun j t ht => by
        rw [Tryd.params5] at ht
        have hall : ∀ t ∈ [36, 38, 33], Tryd.prog.wantsStandIn t = false := by
          intro t ht
          simp only [List.mem_cons, List.not_mem_nil, or_false] at ht
          rcases ht with rfl | rfl | rfl <;> kernel_rfl
        exact hall t (by simpa using Array.mem_of_getElem? ht)⟩)
    (by kernel_rfl)
end Go.Proofs.YtmabhjifldafaaaDoor
