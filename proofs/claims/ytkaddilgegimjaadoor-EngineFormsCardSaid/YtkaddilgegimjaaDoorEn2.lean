/- engine.Check. -/
import Derived.Test.YtkaddilgegimjaaDoorEn1
namespace Go.Proofs.YtkaddilgegimjaaDoor
set_option linter.unusedVariables false
set_option linter.unusedSimpArgs false
open Go.RowKit

/-- What the check answers. -/
def ChkE (n last : Nat) (max : Int) (V : Nat → Ver) (e : Ending) : Prop := (SecOk n last max V ∧ e = .returned .nilIface) ∨ (¬ SecOk n last max V ∧ e = .returned (.iface 146 (.int .i64 1)))

set_option maxRecDepth 100000 in
set_option maxHeartbeats 2000000 in
theorem check_any (oa : Option Addr) (n cp last : Nat) (max : Int) (V : Nat → Ver) (w : World) (hn : n ≤ maxLen) (hl : last < 4294967296) (hV : Vers w oa n V) :
    Calls Tryd.prog 55 #[.agg #[.slice oa n cp, .int .u32 (last : Int), .int .i64 max]] w fun e w' => ChkE n last max V e ∧ Below w.heap.size w w' := by
  by_cases hh : HeadOk n last max
  · obtain ⟨g1, g2, g3, g4, g5⟩ := hh
    have HH := Lib.hid (show HeadOk n last max from ⟨g1, g2, g3, g4, g5⟩)
    have hn8 : (n : Int) ≤ 8 := by omega
    have d1 : decide (max < 1) = false := decide_eq_false (by omega)
    have d2 : decide (8 < max) = false := decide_eq_false (by omega)
    have d3 : decide (max < (n : Int)) = false := decide_eq_false (by omega)
    have d4 : decide (last < n) = false := decide_eq_false (by omega)
    have d5 : (n : Int) ≤ (last : Int) := by omega
    have d6 : (last : Int) ≤ 4294967295 := by omega
    obtain ⟨q, e1, e2⟩ : ∃ q, ((last : Int) == 0) = q ∧ ((n : Int) == 0) = q := by
      by_cases h0 : last = 0
      · exact ⟨true, by rw [beq_iff_eq]; omega, by rw [beq_iff_eq]; have := g4.1 h0; omega⟩
      · exact ⟨false, by rw [beq_eq_false_iff_ne]; omega, by rw [beq_eq_false_iff_ne]; intro e; exact h0 (g4.2 (by omega))⟩
    have w1 : IntKind.u32.wrap ((last : Int) - (n : Int)) = (last : Int) - (n : Int) := by rw [IntKind.wrap_u32]; omega
    have w2 : IntKind.u32.wrap ((last : Int) - (n : Int) + 1) = (last : Int) - (n : Int) + 1 := by
      rw [IntKind.wrap_u32]
      rcases Nat.eq_zero_or_pos n with h0 | h0
      · have := g4.2 h0; omega
      · omega
    have w3 : IntKind.u32.wrap (n : Int) = (n : Int) := by rw [IntKind.wrap_u32]; omega
    have HV := Lib.hid hV
    clear g1 g2 g3 g4 g5 hV hn hl
    cases q
    all_goals
      go_enter Tryd.func55, Tryd.ntmps55
      go_wp2_with fail
      go_loopw [52] (fun i wr => ∃ k : Nat, k ≤ n ∧ i = .int .i64 k ∧ (∀ i, i < k → (V i).n + n = last + 1 + i ∧ VerOk (V i)) ∧ Below w.heap.size w wr) (fun i _ => n - (intOf i).toNat)
      case atStart => exact ⟨0, Nat.zero_le _, rfl, fun i hi => by omega, (Below.refl _ _).alloc (Nat.le_refl _) _⟩
      case round =>
        obtain ⟨k, hk, rfl, hG, hO⟩ := hrel
        have HG := Lib.hid hG
        clear hG
        by_cases hlt : k < n
        · obtain ⟨b, off, od, cap, rfl, hB, hno, hlc, hcm, c0, c1, c2, c3⟩ := (Vers.later HV.out hO).get k hlt
          have k0 : (0 : Int) ≤ (k : Int) := by omega
          have k1 : (k : Int) < (n : Int) := by omega
          have k3 : IntKind.u32.wrap (k : Int) = (k : Int) := by rw [IntKind.wrap_u32]; omega
          have w4 : IntKind.u32.wrap ((last : Int) - (n : Int) + 1 + (k : Int)) = (last : Int) - (n : Int) + 1 + (k : Int) := by rw [IntKind.wrap_u32]; omega
          clear hB hno hlc hcm
          obtain ⟨m, hm⟩ : ∃ m, (V k).n = m := ⟨_, rfl⟩
          obtain ⟨len, hlen⟩ : ∃ m, (V k).len = m := ⟨_, rfl⟩
          obtain ⟨st, hst⟩ : ∃ m, (V k).st = m := ⟨_, rfl⟩
          rw [hm] at c0
          rw [hlen] at c1
          rw [hst] at c3
          generalize (V k).t = t at *
          by_cases hnum : m + n = last + 1 + k
          · have hne : ((m : Int) != (last : Int) - (n : Int) + 1 + (k : Int)) = false := by rw [bne_eq_false_iff_eq]; omega
            have HM := Lib.hid hm
            have HLen := Lib.hid hlen
            have HSt := Lib.hid hst
            have HNum := Lib.hid hnum
            clear hm hlen hst hnum
            by_cases hv : len ≤ 100 ∧ 0 ≤ st ∧ st ≤ 2 ∧ (st = 2 → len = 0)
            · have HVe := Lib.hid hv
              clear hv
              go_wp2_with fail
              refine (vmb_yes _ _ _ _ _ _ _ HVe.out).mono ?_
              rintro e w8 ⟨rfl, hb8⟩
              have hO8 : Below w.heap.size w w8 := (hO.alloc hO.size _).trans (hb8.mono (Nat.le_trans hO.size (by simp)))
              clear hb8
              go_wp2_with fail
              go_roundw
              case rel =>
                have hG' : ∀ i, i < k + 1 → (V i).n + n = last + 1 + i ∧ VerOk (V i) := fun i hi => by
                  rcases Nat.lt_or_ge i k with h | h
                  · exact HG.out i h
                  · obtain rfl : i = k := by omega
                    exact ⟨by rw [HM.out]; exact HNum.out, by unfold VerOk; rw [HLen.out, HSt.out]; exact HVe.out⟩
                exact ⟨k + 1, by omega, by go_num, hG', hO8⟩
              case measure => simp [intOf]; omega
            · have HVe := Lib.hid hv
              clear hv
              go_wp2_with fail
              refine (vmb_no _ _ _ _ _ _ _ HVe.out).mono ?_
              rintro e w8 ⟨rfl, hb8⟩
              have hO8 : Below w.heap.size w w8 := (hO.alloc hO.size _).trans (hb8.mono (Nat.le_trans hO.size (by simp)))
              clear hb8
              go_wp2_with fail
              go_ret
              exact ⟨.inr ⟨fun hs => HVe.out (by have := (hs.2 k hlt).2; unfold VerOk at this; rw [HLen.out, HSt.out] at this; exact this), rfl⟩, hO8⟩
          · have hne : ((m : Int) != (last : Int) - (n : Int) + 1 + (k : Int)) = true := by rw [bne_iff_ne]; omega
            have HM := Lib.hid hm
            clear hm hlen hst
            go_wp2_with fail
            go_ret
            exact ⟨.inr ⟨fun hs => hnum (by have := (hs.2 k hlt).1; rw [HM.out] at this; exact this), rfl⟩, hO.alloc hO.size _⟩
        · obtain rfl : k = n := by omega
          go_wp2_with fail
          go_ret
          exact ⟨.inl ⟨⟨HH.out, HG.out⟩, rfl⟩, hO⟩
  · exact (check_head oa n cp last max w hn hh).mono fun e w' ⟨he, hb⟩ => ⟨.inr ⟨fun hs => hh hs.1, he⟩, hb⟩
theorem check_yes (oa : Option Addr) (n cp last : Nat) (max : Int) (V : Nat → Ver) (w : World) (hn : n ≤ maxLen) (hl : last < 4294967296) (hV : Vers w oa n V) (h : SecOk n last max V) :
    Calls Tryd.prog 55 #[.agg #[.slice oa n cp, .int .u32 (last : Int), .int .i64 max]] w fun e w' => e = .returned .nilIface ∧ Below w.heap.size w w' :=
  (check_any oa n cp last max V w hn hl hV).mono fun e w' ⟨he, hb⟩ => ⟨by rcases he with he | he; exact he.2; exact absurd h he.1, hb⟩
theorem check_bad (oa : Option Addr) (n cp last : Nat) (max : Int) (V : Nat → Ver) (w : World) (hn : n ≤ maxLen) (hl : last < 4294967296) (hV : Vers w oa n V) (h : ¬ SecOk n last max V) :
    Calls Tryd.prog 55 #[.agg #[.slice oa n cp, .int .u32 (last : Int), .int .i64 max]] w fun e w' => e = .returned (.iface 146 (.int .i64 1)) ∧ Below w.heap.size w w' :=
  (check_any oa n cp last max V w hn hl hV).mono fun e w' ⟨he, hb⟩ => ⟨by rcases he with he | he; exact absurd he.1 h; exact he.2, hb⟩
end Go.Proofs.YtkaddilgegimjaaDoor
