/- Which parts count: the contract of shamir.needed. -/
import Derived.Test.YtmhofofidmbgfaaDoorSp2
import Derived.Test.YtmhofofidmbgfaaDoorPoPlaces
namespace Go.Proofs.YtmhofofidmbgfaaDoor
set_option linter.unusedVariables false
set_option linter.unusedSimpArgs false
open Go.RowKit

/-- What stands against part i, but for its generation. -/
def badB (S : Nat → Sh) (i : Nat) : Bool := decide ((S i).ix = 0) || (seenB (fun q => (S q).ix) i (S i).ix || (decide ((S i).len ≠ (S 0).len) || !decide (1 ≤ (S 0).len ∧ (S 0).len ≤ 64)))
def genB (S : Nat → Sh) (gen i : Nat) : Bool := decide ((S i).gen ≠ gen)
/-- The error's number: 0 if the first K parts go together. -/
def needE (S : Nat → Sh) (n K gen : Nat) : Nat := if n < K then 2 else if (List.range K).any (genB S gen) = true then 14 else if (List.range K).any (badB S) = true then 12 else 0
theorem any_range {P : Nat → Bool} {K : Nat} : (List.range K).any P = true ↔ ∃ i, i < K ∧ P i = true := by
  rw [List.any_eq_true]; exact ⟨fun ⟨i, h1, h2⟩ => ⟨i, List.mem_range.1 h1, h2⟩, fun ⟨i, h1, h2⟩ => ⟨i, List.mem_range.2 h1, h2⟩⟩
theorem needE_short {S : Nat → Sh} {n K gen : Nat} (h : n < K) : needE S n K gen = 2 := if_pos h
theorem needE_gen {S : Nat → Sh} {n K gen i : Nat} (h : ¬ n < K) (hi : i < K) (hg : (S i).gen ≠ gen) : needE S n K gen = 14 := by
  unfold needE; rw [if_neg h, if_pos (any_range.2 ⟨i, hi, decide_eq_true hg⟩)]
theorem needE_bad {S : Nat → Sh} {n K gen i : Nat} (h : ¬ n < K) (hg : ∀ i, i < K → (S i).gen = gen) (hi : i < K) (hb : badB S i = true) : needE S n K gen = 12 := by
  unfold needE; rw [if_neg h, if_neg (fun h => by
    obtain ⟨i, h1, h2⟩ := any_range.1 h
    exact absurd (hg i h1) (of_decide_eq_true h2)), if_pos (any_range.2 ⟨i, hi, hb⟩)]
theorem needE_ok {S : Nat → Sh} {n K gen : Nat} (h : ¬ n < K) (hg : ∀ i, i < K → (S i).gen = gen) (hb : ∀ i, i < K → badB S i = false) : needE S n K gen = 0 := by
  unfold needE; rw [if_neg h, if_neg (fun h => by
    obtain ⟨i, h1, h2⟩ := any_range.1 h
    exact absurd (hg i h1) (of_decide_eq_true h2)), if_neg (fun h => by
    obtain ⟨i, h1, h2⟩ := any_range.1 h
    rw [hb i h1] at h2; cases h2)]
theorem needE_zero {S : Nat → Sh} {n K gen : Nat} (h : needE S n K gen = 0) : K ≤ n ∧ (∀ i, i < K → (S i).gen = gen) ∧ ∀ i, i < K → badB S i = false := by
  unfold needE at h
  by_cases h1 : n < K
  · rw [if_pos h1] at h; cases h
  · rw [if_neg h1] at h
    by_cases h2 : (List.range K).any (genB S gen) = true
    · rw [if_pos h2] at h; cases h
    · rw [if_neg h2] at h
      by_cases h3 : (List.range K).any (badB S) = true
      · rw [if_pos h3] at h; cases h
      · refine ⟨by omega, fun i hi => ?_, fun i hi => ?_⟩
        · by_cases e : (S i).gen = gen
          · exact e
          · exact absurd (any_range.2 ⟨i, hi, decide_eq_true e⟩) h2
        · cases e : badB S i
          · rfl
          · exact absurd (any_range.2 ⟨i, hi, e⟩) h3
theorem badB_no {S : Nat → Sh} {i : Nat} (h : badB S i = false) : (S i).ix ≠ 0 ∧ seenB (fun q => (S q).ix) i (S i).ix = false ∧ (S i).len = (S 0).len ∧ 1 ≤ (S 0).len ∧ (S 0).len ≤ 64 := by
  unfold badB at h
  rw [Bool.or_eq_false_iff, Bool.or_eq_false_iff, Bool.or_eq_false_iff] at h
  obtain ⟨h1, h2, h3, h4⟩ := h
  have h5 := of_decide_eq_false h3
  have h6 : decide (1 ≤ (S 0).len ∧ (S 0).len ≤ 64) = true := by simpa using h4
  have h7 := of_decide_eq_true h6
  exact ⟨of_decide_eq_false h1, h2, by omega, h7.1, h7.2⟩
theorem badB_of {S : Nat → Sh} {i : Nat} (h1 : (S i).ix ≠ 0) (h2 : seenB (fun q => (S q).ix) i (S i).ix = false) (h3 : (S i).len = (S 0).len) (h4 : 1 ≤ (S 0).len ∧ (S 0).len ≤ 64) : badB S i = false := by
  unfold badB; rw [decide_eq_false h1, h2, decide_eq_false (by omega : ¬ (S i).len ≠ (S 0).len), decide_eq_true h4]; rfl
theorem badB_ix {S : Nat → Sh} {i : Nat} (h1 : (S i).ix = 0) : badB S i = true := by unfold badB; rw [decide_eq_true h1]; rfl
theorem badB_seen {S : Nat → Sh} {i : Nat} (h1 : seenB (fun q => (S q).ix) i (S i).ix = true) : badB S i = true := by unfold badB; rw [h1]; simp
theorem badB_len {S : Nat → Sh} {i : Nat} (h1 : (S i).len ≠ (S 0).len) : badB S i = true := by unfold badB; rw [decide_eq_true h1]; simp
theorem badB_fit {S : Nat → Sh} {i : Nat} (h1 : ¬ (1 ≤ (S 0).len ∧ (S 0).len ≤ 64)) : badB S i = true := by unfold badB; rw [decide_eq_false h1]; simp
/-- The places are distinct. -/
theorem ok_places {S : Nat → Sh} {n K gen : Nat} (h : needE S n K gen = 0) (h1 : 1 ≤ K) (h2 : K ≤ 255) : placesB (fun q => (S q).ix) K = true := by
  refine placesB_iff.2 ⟨?_, h1, h2⟩
  have hb := (needE_zero h).2.2
  clear h h1 h2
  induction K with
  | zero => rfl
  | succ K ih =>
    show (distB _ K && !seenB _ K _) = true
    rw [ih fun i hi => hb i (by omega), (badB_no (hb K (by omega))).2.1]; rfl
/-- What needed answers. -/
def NeedR (oa : Option Addr) (K cs E : Nat) (e : Ending) : Prop := (E = 0 ∧ e = .returned (.tuple #[.slice oa K cs, .nilIface])) ∨ (E ≠ 0 ∧ e = .returned (.tuple #[.slice none 0 0, .iface 81 (.int .i64 (E : Int))]))

set_option maxRecDepth 100000 in
set_option maxHeartbeats 4000000 in
theorem needed_any (tb n cs Kp gen : Nat) (N : Int) (oa : Option Addr) (S : Nat → Sh) (w : World) (hS : Shs tb w oa n S) (hix : ∀ i, i < n → (S i).ix < 256) (hnc : n ≤ cs) (hm : cs ≤ maxLen) (h2 : 2 ≤ Kp) (hK : Kp ≤ 255) :
    Calls Tryd.prog 59 #[.slice oa n cs, .agg #[.int .i64 (Kp : Int), .int .i64 N, .int .u32 (gen : Int)]] w fun e w' => NeedR oa Kp cs (needE S n Kp gen) e ∧ Below w.heap.size w w' := by
  have hm2 : cs ≤ 9223372036854775807 := by unfold maxLen at hm; exact hm
  by_cases hlt : n < Kp
  · have hE := needE_short (S := S) (gen := gen) hlt
    clear hS hix hm
    go_enter Tryd.func59, Tryd.ntmps59
    go_wp2_with fail
    go_ret2
    exact ⟨.inr ⟨by rw [hE]; decide, by rw [hE]; rfl⟩, (Below.refl _ _).alloc (Nat.le_refl _) _⟩
  · obtain ⟨w0, hw0⟩ : ∃ x, w.alloc (.cells #[.int .i64 (Kp : Int), .int .i64 N, .int .u32 (gen : Int)] 28) = x := ⟨_, rfl⟩
    have HB0 : Hid (Blk w0 w.heap.size #[.int .i64 (Kp : Int), .int .i64 N, .int .u32 (gen : Int)] 28 ∧ Below w.heap.size w w0 ∧ w.heap.size < w0.heap.size) := Lib.hid (by rw [← hw0]; exact ⟨Blk.new _ _ _, (Below.refl _ _).alloc (Nat.le_refl _) _, by simp⟩)
    have HS := Lib.hid (hS.later HB0.out.2.1)
    have HIX := Lib.hid hix
    have hKc : Kp ≤ cs := by omega
    have HL := Lib.hid hlt
    have hz := zeroB_run
    have HZ := Lib.hid hz
    have hKi : (Kp : Int) ≤ 255 := by omega
    clear hS hix hm hz
    go_enter Tryd.func59, Tryd.ntmps59
    have c9 : w0.cell? ⟨w.heap.size, 0, none⟩ = some (.int .i64 (Kp : Int)) := by rw [Blk.cell HB0.out.1]; rfl
    go_wp2_with fail
    clear hw0 hlt c9
    go_loopw [25] (fun x wr => ∃ i : Nat, i ≤ Kp ∧ x = .int .i64 (i : Int) ∧ (∀ q, q < i → (S q).gen = gen) ∧ Below w0.heap.size w0 wr) (fun x _ => Kp - (intOf x).toNat)
    case atStart => exact ⟨0, Nat.zero_le _, rfl, fun q hq => absurd hq (Nat.not_lt_zero _), Below.refl _ _⟩
    case round =>
      obtain ⟨i, hi, rfl, hg, hb⟩ := hrel
      have HG := Lib.hid hg
      have HB := Lib.hid hb
      clear hg hb
      by_cases hlt : i < Kp
      · obtain ⟨b, off, od, cap, rfl, -, -, -, -, -, -, c0, c1, c2⟩ := (HS.out.later HB.out).get i (by have := HL.out; omega)
        have hi0 : (0 : Int) ≤ (i : Int) := by omega
        have hi1 : (i : Int) < (Kp : Int) := by omega
        have d2 : wr.cell? ⟨w.heap.size, 2, none⟩ = some (.int .u32 (gen : Int)) := by rw [Blk.cell (Blk.below HB0.out.1 HB.out HB0.out.2.2)]; rfl
        have hne0 : w.heap.size < wr.heap.size := Nat.lt_of_lt_of_le HB0.out.2.2 HB.out.size
        by_cases hg : (S i).gen = gen
        · have HG2 := Lib.hid hg
          rw [hg] at c1
          clear hg
          go_wp2_with fail
          go_roundw
          case rel => exact ⟨i + 1, by omega, by go_num, fun q hq => by
            by_cases e : q = i
            · rw [e]; exact HG2.out
            · exact HG.out q (by omega), HB.out.trans ((Below.refl _ _).alloc HB.out.size _)⟩
          case measure => simp [intOf]; omega
        · have hE := Lib.hid (needE_gen (n := n) HL.out hlt hg)
          have hne : ((((S i).gen : Nat) : Int) != (gen : Int)) = true := by rw [bne_iff_ne]; omega
          have hne2 : ((((S i).gen : Nat) : Int) == (gen : Int)) = false := by rw [beq_eq_false_iff_ne]; omega
          clear hg
          go_wp2_with fail
          go_ret2
          exact ⟨.inr ⟨by rw [hE.out]; decide, by rw [hE.out]; rfl⟩, HB0.out.2.1.trans ((HB.out.trans ((Below.refl _ _).alloc HB.out.size _)).mono HB0.out.2.1.size)⟩
      · obtain rfl : Kp = i := by omega
        obtain ⟨b, off, od, cap, rfl, -, -, -, -, -, -, c0, c1, c2⟩ := (HS.out.later HB.out).get 0 (by have := HL.out; omega)
        rw [Nat.zero_mul, Nat.add_zero] at c0 c1 c2
        have hz := HZ.out
        have hk0 : (0 : Int) < (Kp : Int) := by omega
        have hk00 : 0 < Kp := by omega
        obtain ⟨L, hL⟩ : ∃ x, (S 0).len = x := ⟨_, rfl⟩
        rw [hL] at c2
        have HLL := Lib.hid hL
        clear hlt hi hL c0 c1
        go_wp2_with fail
        obtain ⟨sb, hsb⟩ : ∃ x, wr.heap.size = x := ⟨_, rfl⟩
        have HSB := Lib.hid hsb
        have hB1 : Below wr.heap.size wr (wr.alloc (.cells zeroB 154)) := (Below.refl _ _).alloc (Nat.le_refl _) _
        have hBk : Blk (wr.alloc (.cells zeroB 154)) sb (boolC (fun q => (S q).ix) 0).toArray 154 := by rw [boolC_zero, ← hsb]; exact Blk.new _ _ _
        obtain ⟨w1, hw1⟩ : ∃ x, wr.alloc (.cells zeroB 154) = x := ⟨_, rfl⟩
        rw [hw1] at hB1 hBk ⊢
        rw [hsb]
        obtain ⟨wo, hwo⟩ : ∃ x, wr = x := ⟨_, rfl⟩
        rw [hwo] at HSB hB1 HB
        clear hw1 hwo hz c2 hsb
        clear wr
        go_loopw [43] (fun x ws => ∃ i : Nat, i ≤ Kp ∧ x = .int .i64 (i : Int) ∧ (∀ q, q < i → badB S q = false) ∧ Blk ws sb (boolC (fun q => (S q).ix) i).toArray 154 ∧ Below wo.heap.size wo ws) (fun x _ => Kp - (intOf x).toNat)
        case atStart => exact ⟨0, Nat.zero_le _, rfl, fun q hq => absurd hq (Nat.not_lt_zero _), hBk, hB1⟩
        case round =>
          obtain ⟨i, hi, rfl, hgd, hBs, hbw⟩ := hrel
          have HGD := Lib.hid hgd
          have HBS := Lib.hid hBs
          have HBW := Lib.hid hbw
          clear hgd hBs hbw hBk hB1
          have HBE : Hid (Below w.heap.size w wr) := Lib.hid (HB0.out.2.1.trans (((HB.out.trans (HBW.out.mono HB.out.size))).mono HB0.out.2.1.size))
          have hsw : sb < wr.heap.size := Blk.lt HBS.out
          by_cases hlt : i < Kp
          · obtain ⟨b2, off2, od2, cap2, e2, -, -, -, -, -, -, c0, c1, c2⟩ := ((HS.out.later HB.out).later HBW.out).get i (by have := HL.out; omega)
            cases e2
            have hi0 : (0 : Int) ≤ (i : Int) := by omega
            have hi1 : (i : Int) < (Kp : Int) := by omega
            have hx8 := HIX.out i (by have := HL.out; omega)
            have HE := Lib.hid fun (h : badB S i = true) => needE_bad (n := n) HL.out HG.out hlt h
            have HRR := Lib.hid fun (h : badB S i = true) => show NeedR (some ⟨b, off, none⟩) Kp cs (needE S n Kp gen) (.returned (.tuple #[.slice none 0 0, .iface 81 (.int .i64 12)])) from .inr ⟨by rw [HE.out h]; decide, by rw [HE.out h]; rfl⟩
            have hsc : wr.cell? ⟨sb, (S i).ix, none⟩ = some (.bool (seenB (fun q => (S q).ix) i (S i).ix)) := by rw [Blk.cell HBS.out]; simpa using boolC_get (fun q => (S q).ix) i hx8
            have hfz : wr.frozen? ⟨sb, (S i).ix, none⟩ = false := Blk.free HBS.out _
            have HB2 := Lib.hid (Blk.below HBS.out ((Below.refl _ wr).alloc (Nat.le_refl _) (.cells #[.int .u8 ((S i).ix : Int), .int .u32 ((S i).gen : Int), .slice od2 (S i).len cap2] 52)) hsw)
            have HA2 := Lib.hid (HBE.out.trans ((Below.refl _ wr).alloc HBE.out.size (.cells #[.int .u8 ((S i).ix : Int), .int .u32 ((S i).gen : Int), .slice od2 (S i).len cap2] 52)))
            have HW2 := Lib.hid (HBW.out.trans ((Below.refl _ wr).alloc HBW.out.size (.cells #[.int .u8 ((S i).ix : Int), .int .u32 ((S i).gen : Int), .slice od2 (S i).len cap2] 52)))
            by_cases k1 : (S i).ix = 0
            · have HQ := Lib.hid (HRR.out (badB_ix k1))
              have g1 : ((((S i).ix : Nat) : Int) == 0) = true := by rw [beq_iff_eq]; omega
              clear hsc hfz k1
              go_wp2_with fail
              go_ret2
              exact ⟨HQ.out, HA2.out⟩
            have g1 : ((((S i).ix : Nat) : Int) == 0) = false := by rw [beq_eq_false_iff_ne]; omega
            have g0 : (0 : Int) ≤ ((S i).ix : Int) ∧ ((S i).ix : Int) < 256 := by omega
            rcases hs : seenB (fun q => (S q).ix) i (S i).ix with _ | _
            case true =>
              have HQ := Lib.hid (HRR.out (badB_seen hs))
              rw [hs] at hsc
              clear hs k1
              generalize (S i).ix = ix at *
              go_wp2_with fail
              go_ret2
              exact ⟨HQ.out, HA2.out⟩
            rw [hs] at hsc
            by_cases k2 : (S i).len = (S 0).len
            case neg =>
              have HQ := Lib.hid (HRR.out (badB_len k2))
              have g2 : ((((S i).len : Nat) : Int) != (L : Int)) = true := by rw [bne_iff_ne]; have := HLL.out; omega
              clear hs k1 k2
              generalize (S i).ix = ix at *
              generalize (S i).len = li at *
              go_wp2_with fail
              go_ret2
              exact ⟨HQ.out, HA2.out⟩
            have g2 : ((((S i).len : Nat) : Int) != (L : Int)) = false := by rw [bne_eq_false_iff_eq]; have := HLL.out; omega
            by_cases k3 : 1 ≤ L ∧ L ≤ 64
            case neg =>
              have HQ := Lib.hid (HRR.out (badB_fit (by rw [HLL.out]; exact k3)))
              have HF := Lib.hid fun w => fits_no L w k3
              clear hs k1 k2 k3
              generalize (S i).ix = ix at *
              generalize (S i).len = li at *
              go_wp2_with fail
              refine (HF.out _).mono ?_
              rintro e w5 ⟨rfl, rfl⟩
              go_wp2_with fail
              go_ret2
              exact ⟨HQ.out, HA2.out⟩
            have HQ := Lib.hid (badB_of k1 hs k2 (by rw [HLL.out]; exact k3))
            have HF := Lib.hid fun w => fits_yes L w k3.1 k3.2
            have hC2 := Blk.set HBS.out (S i).ix (.bool true)
            rw [List.setIfInBounds_toArray, boolC_set (fun q => (S q).ix)] at hC2
            have HC2 := Lib.hid (hC2.alloc (.cells #[.int .u8 ((S i).ix : Int), .int .u32 ((S i).gen : Int), .slice od2 (S i).len cap2] 52))
            have hb3 := HBW.out.setCell (p := ⟨sb, (S i).ix, none⟩) (by show wo.heap.size ≤ sb; rw [HSB.out]; exact Nat.le_refl _) (.bool true)
            have HBE2 := Lib.hid (hb3.trans ((Below.refl _ _).alloc hb3.size (.cells #[.int .u8 ((S i).ix : Int), .int .u32 ((S i).gen : Int), .slice od2 (S i).len cap2] 52)))
            clear hb3
            clear hs k1 k2 k3 hC2
            generalize (S i).ix = ix at *
            generalize (S i).len = li at *
            go_wp2_with fail
            refine (HF.out _).mono ?_
            rintro e w5 ⟨rfl, rfl⟩
            go_wp2_with fail
            go_roundw
            case rel => exact ⟨i + 1, by omega, by go_num, fun q hq => by
              by_cases e : q = i
              · rw [e]; exact HQ.out
              · exact HGD.out q (by omega), HC2.out, HBE2.out⟩
            case measure => simp [intOf]; omega
          · obtain rfl : Kp = i := by omega
            have hE := Lib.hid (needE_ok (n := n) HL.out HG.out HGD.out)
            go_wp2_with fail
            go_ret2
            exact ⟨.inl ⟨hE.out, rfl⟩, HBE.out⟩
end Go.Proofs.YtmhofofidmbgfaaDoor
