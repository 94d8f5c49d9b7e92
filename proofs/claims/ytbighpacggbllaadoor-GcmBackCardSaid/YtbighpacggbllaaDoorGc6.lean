/- GCM: Seal. -/
import Derived.Test.YtbighpacggbllaaDoorGc5
namespace Go.Proofs.YtbighpacggbllaaDoor
set_option linter.unusedVariables false
set_option linter.unusedSimpArgs false
set_option linter.unusedVariables false
set_option linter.unusedSimpArgs false
open Go.RowKit

theorem Grow.bytesM {w : World} {base n : Nat} {v : Value} {f : Nat → Nat} (h : Grow w base v n f) (hf : ∀ i, i < n → f i < 256) :
    ∃ oa cap, v = .slice oa n cap ∧ Bytes w oa n f ∧ n ≤ cap ∧ cap ≤ maxLen ∧ (oa = none → n = 0) := by
  obtain ⟨oa, cap, hv, hB, _⟩ := h.bytes hf
  refine ⟨oa, cap, hv, hB, ?_⟩
  rcases h.2 with ⟨h2, h3⟩ | ⟨g, cap', cur, h2, _, _, h3, h4, _⟩
  · rw [hv] at h2; cases h2; exact ⟨by omega, by unfold maxLen; omega, fun _ => h3⟩
  · rw [hv] at h2; cases h2; exact ⟨h3, h4, fun e => by cases e⟩
set_option maxHeartbeats 4000000 in
set_option maxRecDepth 100000 in
theorem seal_any (g kb bx : Nat) (W nn p a : Nat → Nat) (n an : Nat) (on ob oa : Option Addr) (capn cap capa : Nat) (w : World) (hK : KG w g kb bx W) (hn : Bytes w on 12 nn) (hnb : ∀ x, on = some x → x.block ≠ bx)
    (hp : Bytes w ob n p) (hpb : ∀ x, ob = some x → 0 < n → x.block ≠ bx) (ha : Bytes w oa an a) (hab : ∀ x, oa = some x → 0 < an → x.block ≠ bx) (hc : n ≤ cap) (hm : cap ≤ maxLen) (hc2 : an ≤ capa) (hm2 : capa ≤ maxLen) (hs : n ≤ 2048) (hs2 : an ≤ 2048) :
    Calls Tryd.prog 8 #[.pointer (some ⟨g, 0, none⟩), .slice on 12 capn, .slice ob n cap, .slice oa an capa] w fun e w' => ∃ v, e = .returned (.tuple #[v, .nilIface]) ∧ Grow w' (w.heap.size + 2) v (n + 16) (boxF W nn p n a an) ∧ KG w' g kb bx W ∧ Own bx w w' := by
  have hz := zero16_run
  have hnn : ∀ i, i < 12 → nn i < 256 := fun i hi => (hn i hi).1
  have hpp : ∀ i, i < n → p i < 256 := fun i hi => (hp i hi).1
  have HF : Hid (∀ i, i < n → cphF W nn p i < 256) := Lib.hid (cphF_lt hnn hpp)
  have HT : Hid (∀ i, i < 16 → tgF W nn a an (cphF W nn p) n i < 256) := Lib.hid (tgF_lt hnn)
  have HCI := Lib.hid (ciph_any g kb bx W nn p n on ob capn cap w hK hn hnb hp hpb hc hm (by omega))
  have HST := Lib.hid (show KG w g kb bx W ∧ Bytes w on 12 nn ∧ (∀ x, on = some x → x.block ≠ bx) ∧ Bytes w oa an a ∧ (∀ x, oa = some x → 0 < an → x.block ≠ bx) ∧ an ≤ capa ∧ capa ≤ maxLen ∧ n ≤ 2048 ∧ an ≤ 2048 from ⟨hK, hn, hnb, ha, hab, hc2, hm2, hs, hs2⟩)
  have e1 : ¬ ((2048 : Int) < (n : Int)) := by omega
  have e2 : ¬ ((2048 : Int) < (an : Int)) := by omega
  have e3 : decide ((2048 : Int) < (n : Int)) = false := decide_eq_false e1
  have e4 : decide ((2048 : Int) < (an : Int)) = false := decide_eq_false e2
  clear hK hn hnb hp hpb ha hab hc hm hc2 hm2 hs hs2 hnn hpp
  go_enter Tryd.func8, Tryd.ntmps8
  go_wp2_with fail
  refine HCI.out.mono ?_
  rintro e w1 ⟨v, rfl, hG1, hK1, hO1, hS1⟩
  have HSG := Lib.hid hS1
  clear hS1
  obtain ⟨oc, cp, hv, hB1, hnc, hcm, hno⟩ := hG1.bytesM HF.out
  subst hv
  obtain ⟨T, hT⟩ : ∃ q, (rowC 16 (tgF W nn a an (cphF W nn p) n)).toArray = q := ⟨_, rfl⟩
  have HTG : Hid (Calls Tryd.prog 15 #[.pointer (some ⟨g, 0, none⟩), .slice on 12 capn, .slice oc n cp, .slice oa an capa] w1 fun e w' => e = .returned (.agg T) ∧ KG w' g kb bx W ∧ Own bx w1 w') := Lib.hid (by
    obtain ⟨h1, h2, h3, h4, h5, h6, h7, h8, h9⟩ := HST.out
    rw [← hT]
    exact tag_any g kb bx W nn (cphF W nn p) a n an on oc oa capn cp capa w1 hK1 (h2.own hO1 (fun x hx _ => h3 x hx)) hB1 (h4.own hO1 h5) h3 hnc h6 hcm h7 (by omega) (by omega))
  have HG1 := Lib.hid hG1
  have HO1 := Lib.hid hO1
  have HTE := Lib.hid hT
  have HNO := Lib.hid hno
  have HTC : Hid (∃ f, T = (rowC 16 f).toArray) := Lib.hid ⟨_, hT.symm⟩
  have HZC : Hid (∃ f, zero16 = (rowC 16 f).toArray) := Lib.hid ⟨_, rfl⟩
  clear hG1 hK1 hO1 hB1 hnc hcm hno hT HCI
  go_wp2_with fail
  refine HTG.out.mono ?_
  rintro e w2 ⟨rfl, hK2, hO2⟩
  have hlt := HST.out.1.lt
  have hG2 := HG1.out.ownN hO2 (fun q hq => by have := HG1.out.lt q hq; omega)
  have hba : Below w2.heap.size w2 (w2.alloc (.cells zero16 43)) := (Below.refl _ _).alloc (Nat.le_refl _) _
  have hOA := HO1.out.trans hO2
  have hOs : Own w2.heap.size (w2.alloc (.cells zero16 43)) ((w2.alloc (.cells zero16 43)).setCells w2.heap.size 0 T.toList) := Own.setCells _ _ _
  have HXS := Lib.hid (show w.heap.size + 2 ≤ w2.heap.size + 1 from by have h1 := hO2.size; have h2 := HSG.out; omega)
  have hZ2 : Blk (w2.alloc (.cells zero16 43)) w2.heap.size zero16 43 := Blk.new _ _ _
  have hT2 := Blk.store16 hZ2 HTC.out HZC.out
  have hbs : Below w2.heap.size w2 ((w2.alloc (.cells zero16 43)).setCells w2.heap.size 0 T.toList) := hba.trans (hOs.below (Nat.le_refl _) (by simp))
  have hG3 := hG2.later hbs
  have hK3 := hK2.below hbs
  have hO3 := hOA.trans (Own.of_below hbs)
  have hBT : Bytes ((w2.alloc (.cells zero16 43)).setCells w2.heap.size 0 T.toList) (some ⟨w2.heap.size, 0, none⟩) 16 (tgF W nn a an (cphF W nn p) n) := fun k hk => ⟨HT.out k hk, _, 0, rfl, by
    have := hT2; rw [← HTE.out] at this
    rw [Nat.zero_add]; exact B16.cell (by rw [← HTE.out]; exact this) hk⟩
  have HZ2 := Lib.hid hZ2
  have HX := Lib.hid (show Grow ((w2.alloc (.cells zero16 43)).setCells w2.heap.size 0 T.toList) (w.heap.size + 2) (.slice oc n cp) n (cphF W nn p) ∧ KG ((w2.alloc (.cells zero16 43)).setCells w2.heap.size 0 T.toList) g kb bx W ∧ Own bx w ((w2.alloc (.cells zero16 43)).setCells w2.heap.size 0 T.toList) ∧ Bytes ((w2.alloc (.cells zero16 43)).setCells w2.heap.size 0 T.toList) (some ⟨w2.heap.size, 0, none⟩) 16 (tgF W nn a an (cphF W nn p) n) ∧ w.heap.size + 2 ≤ w2.heap.size + 1 ∧ w2.heap.size < ((w2.alloc (.cells zero16 43)).setCells w2.heap.size 0 T.toList).heap.size from ⟨hG3, hK3, hO3, hBT, by have := HXS.out; omega, Blk.lt hT2⟩)
  clear hG2 hba hOs hZ2 hT2 hOA hbs hG3 hK3 hO3 hBT hK2 hO2 HTG HG1 HO1
  go_wp2_with (first
    | (refine wpList_appO rfl (.tmp 39) (.tmp 40) rfl (w.heap.size + 2) (.slice oc n cp) n 16 16 (some ⟨w2.heap.size, 0, none⟩) (cphF W nn p) (tgF W nn a an (cphF W nn p) n) ((w2.alloc (.cells zero16 43)).setCells w2.heap.size 0 T.toList) rfl HX.out.1 rfl (fun e => by cases e) HX.out.2.2.2.1 (by have := HST.out.2.2.2.2.2.2.2.1; omega) (by have := HX.out.2.2.2.2; omega) ?_; refine Hid.out ?_)
    | (refine wpList_store16 rfl (.tmp 11) (.tmp 38) rfl w2.heap.size rfl T zero16 rfl HZ2.out HTC.out HZC.out ?_))
  refine Lib.hid ?_
  intro v2 w4 hG4 hg4 ho4
  have hGX := HX.out.1
  have hlt4 := HST.out.1.lt
  have hsz4 := HX.out.2.2.2.2
  have hO4 := own_of_grown hg4
  have hge := own_ge hGX (by omega)
  have hOw := HX.out.2.2.1.two hO4 (by omega)
  have hK4 : KG w4 g kb bx W := HST.out.1.low HX.out.2.1 (hO4.below (by omega) (by have := HX.out.2.2.1.size; exact this))
  have HE := Lib.hid (show Grow w4 (w.heap.size + 2) v2 (n + 16) (boxF W nn p n a an) ∧ KG w4 g kb bx W ∧ Own bx w w4 from ⟨hG4, hK4, hOw⟩)
  clear hG4 hg4 ho4 hGX hlt4 hsz4 hO4 hge hOw hK4
  go_wp2_with fail
  refine bodyPost_ret (results_tmp2 rfl _ _ _) rfl ?_
  exact ⟨v2, rfl, HE.out.1, HE.out.2.1, HE.out.2.2⟩
end Go.Proofs.YtbighpacggbllaaDoor
