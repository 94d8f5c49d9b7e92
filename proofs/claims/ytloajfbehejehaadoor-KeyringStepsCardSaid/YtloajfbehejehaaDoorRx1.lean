/- A key out of anything, and bytes out of a key, as the document makes them. -/
import Derived.Test.YtloajfbehejehaaDoorEx2
import Derived.Test.YtloajfbehejehaaDoorRm2
namespace Go.Proofs.YtloajfbehejehaaDoor
set_option linter.unusedVariables false
set_option linter.unusedSimpArgs false
open Go.RowKit

set_option maxRecDepth 100000 in
set_option maxHeartbeats 1000000 in
theorem rexpand_bad (v0 v1 : Value) (z : Int) (w : World) (h1 : -9223372036854775808 ≤ z) (h2 : z ≤ 9223372036854775807) (hz : z < 0 ∨ 8160 < z) :
    Calls Tryd.prog 34 #[v0, v1, .int .i64 z] w fun e w' => e = .returned (.tuple #[.slice none 0 0, .int .i64 1]) ∧ w' = w := by
  go_enter Tryd.func34, Tryd.ntmps34
  have hcs : z < 0 ∨ (¬ z < 0 ∧ 8160 < z) := by omega
  rcases hcs with h3 | ⟨h3, h4⟩
  · go_wp2_with fail
    go_ret2
    exact ⟨rfl, rfl⟩
  · go_wp2_with fail
    go_ret2
    exact ⟨rfl, rfl⟩
set_option maxRecDepth 100000 in
set_option maxHeartbeats 8000000 in
theorem rexpand_any (oa oi : Option Addr) (n cn p ci : Nat) (K I : Nat → Nat) (z : Nat) (w : World) (hb : Bytes w oa n K) (hno : oa = none → n = 0) (hn : n < 800000000000) (hb2 : Bytes w oi p I) (hpo : oi = none → p = 0) (hp : p < 700000000000) (hz : z ≤ 8160) :
    Calls Tryd.prog 34 #[.slice oa n cn, .slice oi p ci, .int .i64 (z : Int)] w fun e w' => ∃ o c, e = .returned (.tuple #[.slice o z c, .int .i64 0]) ∧ Bytes w' o z (exF n K p I) ∧ (o = none → z = 0) ∧ Below w.heap.size w w' := by
  have hz32 := zero32_run
  have HKB : Hid (∀ w', Below w.heap.size w w' → Bytes w' oa n K) := Lib.hid fun w' h => hb.later h
  have HIB : Hid (∀ w', Below w.heap.size w w' → Bytes w' oi p I) := Lib.hid fun w' h => hb2.later h
  have HI8 : Hid (∀ i, i < p → I i < 256) := Lib.hid fun i hi => (hb2 i hi).1
  have HNC : Hid (n < 800000000000 ∧ p < 700000000000 ∧ z ≤ 8160) := Lib.hid ⟨hn, hp, hz⟩
  have HNO := Lib.hid hno
  have HPO := Lib.hid hpo
  obtain ⟨T, hT⟩ : ∃ D, exT n K p I = D := ⟨_, rfl⟩
  obtain ⟨E, hE⟩ : ∃ D, exF n K p I = D := ⟨_, rfl⟩
  have HTT : Hid (∀ t, hmN n K (0 + exL t + p + 1) (exM (exL t) p (T t) I (t + 1)) = T (t + 1)) := Lib.hid fun t => by rw [← hT]; rfl
  have HTL : Hid (∀ t j, T t j < 256) := Lib.hid fun t j => by rw [← hT]; exact exT_lt _ _ _ _ _ _
  have HEL : Hid (∀ j, E j < 256) := Lib.hid fun j => by rw [← hE]; exact exF_lt _ _ _ _ _
  have HES : Hid (∀ t j, j < 32 * t + 32 → catF (32 * t) E (T (t + 1)) j = E j) := Lib.hid fun t => by rw [← hE, ← hT]; exact exF_step n K p I t
  have z0 : ¬ (z : Int) < 0 := by omega
  have z1 : ¬ (8160 : Int) < (z : Int) := by omega
  have H0 := Lib.hid (ES.start w T E w (Below.refl _ _))
  rw [hE]
  clear hb hno hn hb2 hpo hp hz hT hE
  go_enter Tryd.func34, Tryd.ntmps34
  go_wp2_with fail
  go_loopw [8, 9, 10] (fun x y v wr => ∃ (t c : Nat) (vo : Value) (ol : Option Addr) (cl : Nat), t ≤ 255 ∧ t + 1 = c ∧ v = .int .i64 (c : Int) ∧ vo = x ∧ y = .slice ol (exL t) cl ∧ ES w t T E vo ol cl wr) (fun _ _ v _ => 512 - (intOf v).toNat)
  case atStart => exact ⟨0, 1, _, none, 0, by decide, rfl, rfl, rfl, rfl, H0.out⟩
  case round =>
    clear H0
    obtain ⟨t, c, vo, ol, cl, ht, hc, rfl, rfl, rfl, hX⟩ := hrel
    obtain ⟨oo, co, hvo, hBo, hco, hno⟩ := hX.g.bytesC (fun i _ => HEL.out i)
    subst hvo
    have HX := Lib.hid hX
    have HBO := Lib.hid hBo
    obtain ⟨q, hq⟩ : ∃ q, 32 * t = q := ⟨_, rfl⟩
    rw [hq] at hco hno
    have HCO : Hid (q ≤ co ∧ (oo = none → q = 0)) := Lib.hid ⟨hco, hno⟩
    have HQ := Lib.hid hq
    have u1 := wrb (m := 1) rfl hc.symm (by omega)
    have u2 : IntKind.i64.wrap (32 * (t : Int)) = (q : Int) := by rw [IntWalk.i64_in _ (by omega)]; omega
    have HTC : Hid (t + 1 = c ∧ t ≤ 255) := Lib.hid ⟨hc, ht⟩
    clear hX hBo hco hno
    rw [hq] at HX HBO ⊢
    by_cases hlt : q < z
    · as_aux_lemma =>
      have q1 : (q : Int) < (z : Int) := by omega
      have HT : Hid (t < 255 ∧ t + 1 = c ∧ 32 * t < z) := Lib.hid (by have := HNC.out; omega)
      have u3 : (c : Int) % 256 = (c : Int) := by have := HT.out; omega
      have u4 : IntKind.u8.wrap (c : Int) = (c : Int) := by have := HT.out; simp [IntKind.wrap, IntKind.bits, IntKind.signed]; omega
      have HJ0 : Hid (JG wr (.slice none 0 0) 0 (fun _ => 0) wr) := Lib.hid ⟨Grow.nil _ _ _, Below.refl _ _⟩
      obtain ⟨c2, hc2⟩ : ∃ x, c + 1 = x := ⟨_, rfl⟩
      have u5 := wrk (m := 1) rfl hc2 (by omega)
      have HC2 : Hid (c + 1 = c2) := Lib.hid hc2
      clear hlt ht hc hq hc2
      go_wp2_with (first
        | (refine wpList_appO rfl (.tmp 26) (.tmp 27) rfl wr.heap.size (.slice none 0 0) 0 (exL t) cl ol (fun _ => 0) (T t) wr rfl HJ0.out.g rfl HX.out.c.2 HX.out.b (by have := exL_le t; omega) (Nat.le_refl _) ?_; intro v1 w1 hG1 hg1 hob1; have HJ1 := Lib.hid (HJ0.out.grew hg1 hG1); clear hG1 hg1 hob1)
        | (refine wpList_appO rfl (.tmp 28) (.tmp 29) rfl wr.heap.size v1 (0 + exL t) p ci oi (catF 0 (fun _ => 0) (T t)) I w1 rfl HJ1.out.g rfl HPO.out (HIB.out _ (HX.out.o.trans (HJ1.out.o.mono HX.out.o.size))) (by have := exL_le t; have := HNC.out; omega) HJ1.out.o.size ?_; intro v2 w2 hG2 hg2 hob2; have HJ2 := Lib.hid ((HJ1.out.grew hg2 hG2).later ((Below.refl _ _).alloc (Nat.le_refl _) (.cells #[.int .u8 (c : Nat)] 5))); clear hG2 hg2 hob2 HJ1)
        | (refine wpList_appO rfl (.tmp 30) (.tmp 33) rfl wr.heap.size v2 (0 + exL t + p) 1 1 (some ⟨w2.heap.size, 0, none⟩) (catF (0 + exL t) (catF 0 (fun _ => 0) (T t)) I) (fun _ => c) (w2.alloc (.cells #[.int .u8 (c : Nat)] 5)) rfl HJ2.out.g rfl (fun h => by cases h) (one_byte (by have := HT.out; omega)) (by have := exL_le t; have := HNC.out; omega) HJ2.out.o.size ?_; intro v3 w3 hG3 hg3 hob3; have HJ3 := Lib.hid (HJ2.out.grew hg3 hG3); obtain ⟨o3, c3, hv3, hB3, _, hn3⟩ := hG3.bytesC (by
            intro i hi
            refine catF_b (catF_b (catF_b (fun i hi => absurd hi (Nat.not_lt_zero _)) (fun i _ => HTL.out t i)) HI8.out) (fun i _ => ?_) i hi
            have := HT.out; show c < 256; omega); subst hv3; have HB3 := Lib.hid hB3; have HN3 := Lib.hid hn3; clear hG3 hg3 hob3 HJ2 hB3 hn3))
      clear q1 u3 u4
      have hD : hmN n K (0 + exL t + p + 1) (catF (0 + exL t + p) (catF (0 + exL t) (catF 0 (fun _ => 0) (T t)) I) (fun _ => c)) = T (t + 1) := by rw [← HT.out.2.1]; exact HTT.out t
      have hMC := rmac_any oa o3 n cn (0 + exL t + p + 1) c3 K _ w3 (HKB.out _ (HX.out.o.trans (HJ3.out.o.mono HX.out.o.size))) HNO.out HNC.out.1 HB3.out HN3.out (by have := exL_le t; have := HNC.out; omega)
      rw [hD, show 0 + exL t + p + 1 = exL t + p + 1 by omega] at hMC
      refine hMC.mono ?_
      rintro e w6 ⟨rfl, hb6⟩
      obtain ⟨CD, hCD⟩ : ∃ C, (rowC 32 (T (t + 1))).toArray = C := ⟨_, rfl⟩
      have HI : Hid ((Tryd.prog.info? 22).map (·.size) = some CD.size) := Lib.hid (hCD ▸ info27 _)
      have HI1 : Hid (CD.all (·.oneCell') = true) := Lib.hid (hCD ▸ one32 _)
      obtain ⟨g1, hg1⟩ : ∃ g, w6.heap.size = g := ⟨_, rfl⟩
      obtain ⟨wc, hwc⟩ : ∃ q, w6.alloc (.cells zero32 22) = q := ⟨_, rfl⟩
      obtain ⟨w8, hw8⟩ : ∃ q, wc.setCells g1 0 CD.toList = q := ⟨_, rfl⟩
      have hl := lay32 w6 (T (t + 1)) hCD
      rw [hg1, hwc, hw8] at hl
      have HTH := Lib.hid hl.2.2
      have H8 : Hid (ES w t T E (.slice oo q co) ol cl w8 ∧ Bytes w8 (some ⟨g1, 0, none⟩) 32 (T (t + 1)) ∧ (Value.slice oo q co).ownBlock ≠ some g1) := Lib.hid (by
        have h6 := HJ3.out.o.trans (hb6.mono HJ3.out.o.size)
        have h8 := h6.trans (hl.2.1.mono (by rw [← hg1]; exact h6.size))
        refine ⟨HX.out.later h8, RB.bytes hl.1 fun i _ => HTL.out _ i, fun e => ?_⟩
        have h9 := (HX.out.g.lt g1 e).2
        have := h6.size
        omega)
      rw [hCD]
      clear hl hb6 hD hCD hMC HX HBO HJ0 HJ3 HB3 HN3
      go_wp2_with (first
        | (refine wpList_store_mid rfl 22 (.tmp 12) (.tmp 37) rfl g1 0 CD rfl rfl HTH.out HI.out HI1.out ?_; rw [hw8])
        | (refine wpList_appO rfl (.tmp 39) (.tmp 40) rfl w.heap.size (.slice oo q co) (32 * t) 32 32 (some ⟨g1, 0, none⟩) E (T (t + 1)) w8 rfl H8.out.1.g rfl (fun h => by cases h) H8.out.2.1 (by have := HT.out; omega) H8.out.1.o.size ?_; intro v9 w9 hG9 hg9 hob9; have H9 := Lib.hid (H8.out.1.next H8.out.2.1 H8.out.2.2 hg9 hG9 hob9 (HES.out t)); clear hG9 hg9 hob9 H8))
      clear hw8 hwc hg1 HTH HI HI1
      go_roundw
      case rel => exact ⟨t + 1, c2, _, some ⟨g1, 0, none⟩, 32, by have := HT.out; omega, by have := HT.out; have := HC2.out; omega, rfl, rfl, by rw [exL_pos (by omega)], H9.out⟩
      case measure => have := HT.out; have := HC2.out; simp [intOf]; omega
    · have q1 : ¬ (q : Int) < (z : Int) := by omega
      have z2 : (0 : Int) ≤ (z : Int) := by omega
      have z3 : (z : Int) ≤ (co : Int) := by have := HCO.out; omega
      clear hc ht
      go_wp2_with fail
      go_ret2
      exact ⟨oo, ⟨co, rfl⟩, HBO.out.mono (by have := HCO.out; omega), fun e => by have h := HCO.out.2 e; omega, HX.out.o⟩
end Go.Proofs.YtloajfbehejehaaDoor
