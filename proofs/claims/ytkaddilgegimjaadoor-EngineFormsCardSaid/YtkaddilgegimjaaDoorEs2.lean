/- The document's May, At, Get of layer 30. -/
import Derived.Test.YtkaddilgegimjaaDoorEn6
namespace Go.Proofs.YtkaddilgegimjaaDoor
set_option linter.unusedVariables false
set_option linter.unusedSimpArgs false
open Go.RowKit

/-- What the document's check answers. -/
def MayE (n last : Nat) (max : Int) (V : Nat → Ver) (e : Ending) : Prop := (SecOk n last max V ∧ e = .returned (.bool true)) ∨ (¬ SecOk n last max V ∧ e = .returned (.bool false))
set_option maxRecDepth 100000 in
set_option maxHeartbeats 2000000 in
theorem rmay_head (oa : Option Addr) (n cp last : Nat) (max : Int) (w : World) (hn : n ≤ maxLen) (h : ¬ (1 ≤ max ∧ max ≤ 8 ∧ (n : Int) ≤ max ∧ (n = 0 → last = 0))) :
    Calls Tryd.prog 56 #[.agg #[.slice oa n cp, .int .u32 (last : Int), .int .i64 max]] w fun e w' => e = .returned (.bool false) ∧ Below w.heap.size w w' := by
  unfold maxLen at hn
  by_cases h1 : max < 1
  · clear h
    go_enter Tryd.func56, Tryd.ntmps56
    go_wp2_with fail
    go_ret
    exact ⟨rfl, (Below.refl _ _).alloc (Nat.le_refl _) _⟩
  have d1 : decide (max < 1) = false := decide_eq_false h1
  by_cases h2 : 8 < max
  · clear h h1
    go_enter Tryd.func56, Tryd.ntmps56
    go_wp2_with fail
    go_ret
    exact ⟨rfl, (Below.refl _ _).alloc (Nat.le_refl _) _⟩
  have d2 : decide (8 < max) = false := decide_eq_false h2
  by_cases h3 : max < (n : Int)
  · clear h h1 h2
    go_enter Tryd.func56, Tryd.ntmps56
    go_wp2_with fail
    go_ret
    exact ⟨rfl, (Below.refl _ _).alloc (Nat.le_refl _) _⟩
  have h4 : n = 0 ∧ last ≠ 0 := by
    by_cases e : n = 0
    · refine ⟨e, fun e2 => h ⟨by omega, by omega, by omega, fun _ => e2⟩⟩
    · exact absurd ⟨by omega, by omega, by omega, fun e2 => absurd e2 e⟩ h
  obtain ⟨rfl, h5⟩ := h4
  have d3 : decide (max < 0) = false := decide_eq_false (by omega)
  have d4 : ((last : Int) != 0) = true := by rw [bne_iff_ne]; omega
  clear h h1 h2 h3 h5
  go_enter Tryd.func56, Tryd.ntmps56
  go_wp2_with fail
  go_ret
  exact ⟨rfl, (Below.refl _ _).alloc (Nat.le_refl _) _⟩

/-- A version in its place, seen from the last one. -/
def Good (n last : Nat) (V : Nat → Ver) (q : Nat) : Prop := (V q).n + n = last + 1 + q ∧ VerOk (V q) ∧ n ≤ last + q
theorem good_of {n last : Nat} {max : Int} {V : Nat → Ver} (h : SecOk n last max V) {q : Nat} (hq : q < n) : Good n last V q := ⟨(h.2 q hq).1, (h.2 q hq).2, by have := h.1.2.2.2.2; omega⟩
theorem of_good {n last : Nat} {max : Int} {V : Nat → Ver} (h1 : 1 ≤ max) (h2 : max ≤ 8) (h3 : (n : Int) ≤ max) (h4 : n = 0 → last = 0) (hG : ∀ q, q < n → Good n last V q) : SecOk n last max V := by
  have h5 : n ≤ last := by
    rcases Nat.eq_zero_or_pos n with h0 | h0
    · omega
    · have := (hG 0 h0).2.2; omega
  exact ⟨⟨h1, h2, h3, ⟨fun e => by omega, h4⟩, h5⟩, fun i hi => ⟨(hG i hi).1, (hG i hi).2.1⟩⟩
set_option maxRecDepth 100000 in
set_option maxHeartbeats 4000000 in
theorem rmay_any (oa : Option Addr) (n cp last : Nat) (max : Int) (V : Nat → Ver) (w : World) (hn : n ≤ maxLen) (hl : last < 4294967296) (hV : Vers w oa n V) (hm : ∀ i, i < n → (V i).n < 4294967296) :
    Calls Tryd.prog 56 #[.agg #[.slice oa n cp, .int .u32 (last : Int), .int .i64 max]] w fun e w' => MayE n last max V e ∧ Below w.heap.size w w' := by
  by_cases hh : 1 ≤ max ∧ max ≤ 8 ∧ (n : Int) ≤ max ∧ (n = 0 → last = 0)
  case neg => exact (rmay_head oa n cp last max w hn hh).mono fun e w' ⟨he, hb⟩ => ⟨.inr ⟨fun hs => hh ⟨hs.1.1, hs.1.2.1, hs.1.2.2.1, hs.1.2.2.2.1.2⟩, he⟩, hb⟩
  obtain ⟨g1, g2, g3, g4⟩ := hh
  have H1 := Lib.hid g1
  have H2 := Lib.hid g2
  have H3 := Lib.hid g3
  have H4 := Lib.hid g4
  have HMb := Lib.hid hm
  have HV := Lib.hid hV
  have hn8 : (n : Int) ≤ 8 := by omega
  have d1 : decide (max < 1) = false := decide_eq_false (by omega)
  have d2 : decide (8 < max) = false := decide_eq_false (by omega)
  have d3 : decide (max < (n : Int)) = false := decide_eq_false (by omega)
  have l0 : (last : Int) ≤ 4294967295 := by omega
  obtain ⟨c, e1, e2⟩ : ∃ c, ((n : Int) == 0) = c ∧ (c = true → ((last : Int) != 0) = false) := ⟨_, rfl, fun e => by rw [bne_eq_false_iff_eq]; rw [beq_iff_eq] at e; have := g4 (by omega); omega⟩
  have hlast : n = 0 → ((last : Int) != 0) = false := fun e => by rw [bne_eq_false_iff_eq]; have := g4 e; omega
  clear e2 g1 g2 g3 g4 hV hn hl hm
  cases c
  case' true => have e3 : ((last : Int) != 0) = false := hlast (by rw [beq_iff_eq] at e1; omega)
  all_goals
    clear hlast
    go_enter Tryd.func56, Tryd.ntmps56
    go_wp2_with fail
    go_loopw [3, 4] (fun c i wr => ∃ j : Nat, j ≤ n ∧ c = .int .i64 ((last : Int) - j) ∧ i = .int .i64 ((n : Int) - 1 - j) ∧ Blk wr w.heap.size #[.slice oa n cp, .int .u32 (last : Int), .int .i64 max] 73 ∧ (∀ q, q < n → n - j ≤ q → Good n last V q) ∧ Below w.heap.size w wr) (fun _ i _ => (intOf i + 1).toNat)
    case atStart => exact ⟨0, Nat.zero_le _, by simp, by simp, Blk.new _ _ _, fun q h1 h2 => by omega, (Below.refl _ _).alloc (Nat.le_refl _) _⟩
    case round =>
      obtain ⟨j, hj, rfl, rfl, hX, hG, hO⟩ := hrel
      have HG := Lib.hid hG
      have x0 : wr.cell? ⟨w.heap.size, 0, none⟩ = some (.slice oa n cp) := Blk.cell hX 0
      have HX := Lib.hid hX
      have HO := Lib.hid hO
      clear hG hX hO
      by_cases hlt : j < n
      · obtain ⟨d, hd⟩ : ∃ d : Nat, n - 1 - j = d := ⟨_, rfl⟩
        have hdn : d < n := by omega
        obtain ⟨b, off, od, cap, rfl, hB, _, _, _, c0, c1, c2, c3⟩ := (Vers.later HV.out HO.out).get d hdn
        have hdi : (n : Int) - 1 - (j : Int) = (d : Int) := by omega
        rw [hdi]
        have k0 : (0 : Int) ≤ (d : Int) := by omega
        have k1 : (d : Int) < (n : Int) := by omega
        have j1 : (j : Int) ≤ 8 := by omega
        have HD := Lib.hid hd
        have HDN := Lib.hid hdn
        have HI := Lib.hid hdi
        clear hB hd hdn hdi
        obtain ⟨m, hm⟩ : ∃ m, (V d).n = m := ⟨_, rfl⟩
        obtain ⟨len, hlen⟩ : ∃ m, (V d).len = m := ⟨_, rfl⟩
        obtain ⟨st, hst⟩ : ∃ m, (V d).st = m := ⟨_, rfl⟩
        have m1 : (m : Int) ≤ 4294967295 := by have := HMb.out d HDN.out; omega
        have m0 : (0 : Int) ≤ (m : Int) := by omega
        rw [hm] at c0
        rw [hlen] at c1
        rw [hst] at c3
        generalize (V d).t = t at *
        have HM := Lib.hid hm
        have HLe := Lib.hid hlen
        have HSt := Lib.hid hst
        clear hm hlen hst
        have hbad : ¬ Good n last V d → ¬ SecOk n last max V := fun hg hs => hg (good_of hs HDN.out)
        have HBad := Lib.hid hbad
        clear hbad
        have j2 : (j : Int) < (n : Int) := by omega
        by_cases h0 : last ≤ j
        · have f0 : (last : Int) - (j : Int) < 1 := by omega
          have hO8 := HO.out.alloc HO.out.size (.cells #[.int .u32 (m : Int), .slice od len cap, .int .u64 (t : Int), .int .i64 st] 89)
          have HO8 := Lib.hid hO8
          clear hO8
          go_wp2_with fail
          go_ret
          exact ⟨.inr ⟨HBad.out fun hg => by have := hg.2.2; have := HD.out; omega, rfl⟩, HO8.out⟩
        · have f0 : decide ((last : Int) - (j : Int) < 1) = false := decide_eq_false (by omega)
          have f0a : decide ((last : Int) - (j : Int) ≤ 0) = false := decide_eq_false (by omega)
          have f0b : decide ((last : Int) ≤ (j : Int)) = false := decide_eq_false (by omega)
          have f0c : decide (last ≤ j) = false := decide_eq_false (by omega)
          have f0d : decide ((last : Int) < (j : Int) + 1) = false := decide_eq_false (by omega)
          have f0e : decide ((last : Int) < 1 + (j : Int)) = false := decide_eq_false (by omega)
          by_cases h1 : m + n = last + 1 + d
          · have f1 : ((m : Int) != (last : Int) - (j : Int)) = false := by rw [bne_eq_false_iff_eq]; have := HD.out; omega
            by_cases h2 : 0 ≤ st
            · have f2 : decide (st < 0) = false := decide_eq_false (by omega)
              by_cases h3 : st ≤ 2
              · have f3 : decide (2 < st) = false := decide_eq_false (by omega)
                by_cases h4 : len ≤ 100
                · have f4 : decide ((100 : Int) < (len : Int)) = false := decide_eq_false (by omega)
                  by_cases h5 : st = 2
                  · subst h5
                    by_cases h6 : len = 0
                    · have HGd := Lib.hid (show Good n last V d from ⟨by rw [HM.out]; exact h1, ⟨by rw [HLe.out]; exact h4, by rw [HSt.out]; exact h2, by rw [HSt.out]; exact h3, fun _ => by rw [HLe.out]; exact h6⟩, by have := HD.out; omega⟩)
                      subst h6
                      clear h0 h1 h2 h3 h4 f4
                      have hX8 := Blk.alloc HX.out (.cells #[.int .u32 (m : Int), .slice od 0 cap, .int .u64 (t : Int), .int .i64 2] 89)
                      have hO8 := HO.out.alloc HO.out.size (.cells #[.int .u32 (m : Int), .slice od 0 cap, .int .u64 (t : Int), .int .i64 2] 89)
                      have HX8 := Lib.hid hX8
                      have HO8 := Lib.hid hO8
                      have hG8 : ∀ q, q < n → n - (j + 1) ≤ q → Good n last V q := fun q h1 h2 => by
                        by_cases e : q = d
                        · rw [e]; exact HGd.out
                        · exact HG.out q h1 (by have := HD.out; omega)
                      have HG8 := Lib.hid hG8
                      clear hX8 hO8 hG8
                      go_wp2_with fail
                      go_roundw
                      case rel => exact ⟨j + 1, by omega, (by first | (congr 1; done) | (congr 1; omega)), (by have := HI.out; first | (congr 1; done) | (congr 1; omega)), HX8.out, HG8.out, HO8.out⟩
                      case measure => first | (simp [intOf]; done) | (simp [intOf]; have := HI.out; omega)
                    · have f6 : (0 : Int) < (len : Int) := by omega
                      have hO8 := HO.out.alloc HO.out.size (.cells #[.int .u32 (m : Int), .slice od len cap, .int .u64 (t : Int), .int .i64 2] 89)
                      have HO8 := Lib.hid hO8
                      clear hO8
                      go_wp2_with fail
                      go_ret
                      exact ⟨.inr ⟨HBad.out fun hg => by have := hg.2.1.2.2.2 (by rw [HSt.out]); rw [HLe.out] at this; omega, rfl⟩, HO8.out⟩
                  · have f5 : (st == 2) = false := by rw [beq_eq_false_iff_ne]; exact h5
                    have HGd := Lib.hid (show Good n last V d from ⟨by rw [HM.out]; exact h1, ⟨by rw [HLe.out]; exact h4, by rw [HSt.out]; exact h2, by rw [HSt.out]; exact h3, fun e => absurd (by rw [← HSt.out]; exact e) h5⟩, by have := HD.out; omega⟩)
                    clear h0 h1 h2 h3 h4 h5
                    have hX8 := Blk.alloc HX.out (.cells #[.int .u32 (m : Int), .slice od len cap, .int .u64 (t : Int), .int .i64 st] 89)
                    have hO8 := HO.out.alloc HO.out.size (.cells #[.int .u32 (m : Int), .slice od len cap, .int .u64 (t : Int), .int .i64 st] 89)
                    have HX8 := Lib.hid hX8
                    have HO8 := Lib.hid hO8
                    have hG8 : ∀ q, q < n → n - (j + 1) ≤ q → Good n last V q := fun q h1 h2 => by
                      by_cases e : q = d
                      · rw [e]; exact HGd.out
                      · exact HG.out q h1 (by have := HD.out; omega)
                    have HG8 := Lib.hid hG8
                    clear hX8 hO8 hG8
                    go_wp2_with fail
                    go_roundw
                    case rel => exact ⟨j + 1, by omega, (by first | (congr 1; done) | (congr 1; omega)), (by have := HI.out; first | (congr 1; done) | (congr 1; omega)), HX8.out, HG8.out, HO8.out⟩
                    case measure => first | (simp [intOf]; done) | (simp [intOf]; have := HI.out; omega)
                · have f4 : (100 : Int) < (len : Int) := by omega
                  have hO8 := HO.out.alloc HO.out.size (.cells #[.int .u32 (m : Int), .slice od len cap, .int .u64 (t : Int), .int .i64 st] 89)
                  have HO8 := Lib.hid hO8
                  clear hO8
                  go_wp2_with fail
                  go_ret
                  exact ⟨.inr ⟨HBad.out fun hg => by have := hg.2.1.1; rw [HLe.out] at this; omega, rfl⟩, HO8.out⟩
              · have f3 : (2 : Int) < st := by omega
                have hO8 := HO.out.alloc HO.out.size (.cells #[.int .u32 (m : Int), .slice od len cap, .int .u64 (t : Int), .int .i64 st] 89)
                have HO8 := Lib.hid hO8
                clear hO8
                go_wp2_with fail
                go_ret
                exact ⟨.inr ⟨HBad.out fun hg => by have := hg.2.1.2.2.1; rw [HSt.out] at this; omega, rfl⟩, HO8.out⟩
            · have f2 : st < 0 := by omega
              have hO8 := HO.out.alloc HO.out.size (.cells #[.int .u32 (m : Int), .slice od len cap, .int .u64 (t : Int), .int .i64 st] 89)
              have HO8 := Lib.hid hO8
              clear hO8
              go_wp2_with fail
              go_ret
              exact ⟨.inr ⟨HBad.out fun hg => by have := hg.2.1.2.1; rw [HSt.out] at this; omega, rfl⟩, HO8.out⟩
          · have f1 : ((m : Int) != (last : Int) - (j : Int)) = true := by rw [bne_iff_ne]; have := HD.out; omega
            have hO8 := HO.out.alloc HO.out.size (.cells #[.int .u32 (m : Int), .slice od len cap, .int .u64 (t : Int), .int .i64 st] 89)
            have HO8 := Lib.hid hO8
            clear hO8
            go_wp2_with fail
            go_ret
            exact ⟨.inr ⟨HBad.out fun hg => by have := hg.1; rw [HM.out] at this; omega, rfl⟩, HO8.out⟩
      · obtain rfl : j = n := by omega
        have k0 : (j : Int) - 1 - (j : Int) = -1 := by omega
        rw [k0]
        clear k0
        go_wp2_with fail
        go_ret
        exact ⟨.inl ⟨of_good H1.out H2.out H3.out H4.out fun q hq => HG.out q hq (by omega), rfl⟩, HO.out⟩
end Go.Proofs.YtkaddilgegimjaaDoor
