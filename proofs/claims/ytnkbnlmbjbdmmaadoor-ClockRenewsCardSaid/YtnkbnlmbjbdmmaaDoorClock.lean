/- Contracts of package clock's functions and of the document's own. -/
import Derived.Test.YtnkbnlmbjbdmmaaDoorNum
import Derived.WalkSpells
import Derived.WalkLawsBesides
import Derived.Outline
namespace Go.Proofs.YtnkbnlmbjbdmmaaDoor
open Go.RowKit

/-- A number that a uint64 holds. -/
def U64 (a : Int) : Prop := 0 ≤ a ∧ a ≤ 18446744073709551615
/-- Never. -/
def NV : Int := 18446744073709551615
theorem U64_NV : U64 NV := by unfold U64 NV; omega

def tickI (a b : Int) : Int := if 18446744073709551615 - a < b then 18446744073709551615 else a + b
theorem tickI_over {a b : Int} (h : 18446744073709551615 - a < b) : tickI a b = 18446744073709551615 := if_pos h
theorem tickI_in {a b : Int} (h : ¬ 18446744073709551615 - a < b) : tickI a b = a + b := if_neg h

set_option maxHeartbeats 400000 in
theorem tick_any (a b : Int) (w : World) (ha : U64 a) (hb : U64 b) :
    Calls Tryd.prog 10 #[.int .u64 a, .int .u64 b] w fun e w' => e = .returned (.int .u64 (tickI a b)) ∧ w = w' := by
  obtain ⟨a0, a1⟩ := ha
  obtain ⟨b0, b1⟩ := hb
  by_cases h : 18446744073709551615 - a < b
  · rw [tickI_over h]
    go_enter Tryd.func10, Tryd.ntmps10
    go_wp2
    go_ret
    exact ⟨rfl, rfl⟩
  · rw [tickI_in h]
    go_enter Tryd.func10, Tryd.ntmps10
    go_wp2
    go_ret
    exact ⟨rfl, rfl⟩

set_option maxHeartbeats 400000 in
theorem rtick_any (a b : Int) (w : World) (ha : U64 a) (hb : U64 b) :
    Calls Tryd.prog 11 #[.int .u64 a, .int .u64 b] w fun e w' => e = .returned (.int .u64 (tickI a b)) ∧ w = w' := by
  obtain ⟨a0, a1⟩ := ha
  obtain ⟨b0, b1⟩ := hb
  by_cases h : 18446744073709551615 - a < b
  · rw [tickI_over h]
    go_enter Tryd.func11, Tryd.ntmps11
    go_wp2
    go_ret
    exact ⟨rfl, rfl⟩
  · rw [tickI_in h]
    go_enter Tryd.func11, Tryd.ntmps11
    go_wp2
    go_ret
    exact ⟨rfl, rfl⟩

/-- Has something ended? -/
def overB (a b : Int) : Bool := decide (b ≤ a ∧ b ≠ 18446744073709551615)

set_option maxHeartbeats 400000 in
theorem over_any (a b : Int) (w : World) :
    Calls Tryd.prog 13 #[.int .u64 a, .int .u64 b] w fun e w' => e = .returned (.bool (overB a b)) ∧ w = w' := by
  by_cases h : b ≤ a
  · by_cases h2 : b = 18446744073709551615
    · have e : overB a b = false := by unfold overB; rw [decide_eq_false_iff_not]; omega
      have hn : (b == 18446744073709551615) = true := by rw [beq_iff_eq]; exact h2
      have hm : (b != 18446744073709551615) = false := by rw [bne_eq_false_iff_eq]; exact h2
      clear h2
      rw [e]
      clear e
      go_enter Tryd.func13, Tryd.ntmps13
      go_wp2
      go_ret
      exact ⟨rfl, rfl⟩
    · have e : overB a b = true := by unfold overB; rw [decide_eq_true_iff]; omega
      have hn : (b == 18446744073709551615) = false := by rw [beq_eq_false_iff_ne]; exact h2
      have hm : (b != 18446744073709551615) = true := by rw [bne_iff_ne]; exact h2
      clear h2
      rw [e]
      clear e
      go_enter Tryd.func13, Tryd.ntmps13
      go_wp2
      go_ret
      exact ⟨rfl, rfl⟩
  · have e : overB a b = false := by unfold overB; rw [decide_eq_false_iff_not]; omega
    rw [e]
    clear e
    go_enter Tryd.func13, Tryd.ntmps13
    go_wp2
    go_ret
    exact ⟨rfl, rfl⟩

set_option maxHeartbeats 400000 in
theorem rover_any (a b : Int) (w : World) :
    Calls Tryd.prog 14 #[.int .u64 a, .int .u64 b] w fun e w' => e = .returned (.bool (overB a b)) ∧ w = w' := by
  by_cases h2 : b = 18446744073709551615
  · have e : overB a b = false := by unfold overB; rw [decide_eq_false_iff_not]; omega
    have hn : (b == 18446744073709551615) = true := by rw [beq_iff_eq]; exact h2
    have hm : (b != 18446744073709551615) = false := by rw [bne_eq_false_iff_eq]; exact h2
    clear h2
    rw [e]
    clear e
    go_enter Tryd.func14, Tryd.ntmps14
    go_wp2
    go_ret
    exact ⟨rfl, rfl⟩
  · have hn : (b == 18446744073709551615) = false := by rw [beq_eq_false_iff_ne]; exact h2
    have hm : (b != 18446744073709551615) = true := by rw [bne_iff_ne]; exact h2
    by_cases h : b ≤ a
    · have e : overB a b = true := by unfold overB; rw [decide_eq_true_iff]; omega
      clear h2
      rw [e]
      clear e
      go_enter Tryd.func14, Tryd.ntmps14
      go_wp2
      go_ret
      exact ⟨rfl, rfl⟩
    · have e : overB a b = false := by unfold overB; rw [decide_eq_false_iff_not]; omega
      clear h2
      rw [e]
      clear e
      go_enter Tryd.func14, Tryd.ntmps14
      go_wp2
      go_ret
      exact ⟨rfl, rfl⟩

/-- How long something lasts still. -/
def leftI (a b : Int) : Int := if overB a b then 0 else if b = 18446744073709551615 then 18446744073709551615 else b - a

set_option maxHeartbeats 400000 in
theorem left_any (a b : Int) (w : World) (ha : U64 a) (hb : U64 b) :
    Calls Tryd.prog 15 #[.int .u64 a, .int .u64 b] w fun e w' => e = .returned (.int .u64 (leftI a b)) ∧ w = w' := by
  obtain ⟨a0, a1⟩ := ha
  obtain ⟨b0, b1⟩ := hb
  rcases hv : overB a b with _ | _
  · by_cases h2 : b = 18446744073709551615
    · have e : leftI a b = 18446744073709551615 := by unfold leftI; rw [hv, if_neg (by simp), if_pos h2]
      have hn : (b == 18446744073709551615) = true := by rw [beq_iff_eq]; exact h2
      have Hv : Hid _ := hv
      clear h2 hv
      rw [e]
      clear e
      go_enter Tryd.func15, Tryd.ntmps15
      go_wp2_with fail
      refine (over_any _ _ _).mono ?_
      rintro e w' ⟨rfl, rfl⟩
      rw [Hv.out]
      go_wp2
      go_ret
      exact ⟨rfl, rfl⟩
    · have e : leftI a b = b - a := by unfold leftI; rw [hv, if_neg (by simp), if_neg h2]
      have hlt : a < b := by unfold overB at hv; rw [decide_eq_false_iff_not] at hv; omega
      have hn : (b == 18446744073709551615) = false := by rw [beq_eq_false_iff_ne]; exact h2
      have Hv : Hid _ := hv
      clear h2 hv
      rw [e]
      clear e
      go_enter Tryd.func15, Tryd.ntmps15
      go_wp2_with fail
      refine (over_any _ _ _).mono ?_
      rintro e w' ⟨rfl, rfl⟩
      rw [Hv.out]
      go_wp2
      go_ret
      exact ⟨rfl, rfl⟩
  · have e : leftI a b = 0 := by unfold leftI; rw [hv, if_pos rfl]
    have Hv : Hid _ := hv
    clear hv
    rw [e]
    clear e
    go_enter Tryd.func15, Tryd.ntmps15
    go_wp2_with fail
    refine (over_any _ _ _).mono ?_
    rintro e w' ⟨rfl, rfl⟩
    rw [Hv.out]
    go_wp2
    go_ret
    exact ⟨rfl, rfl⟩

/-- The later one of two. -/
def maxI (a b : Int) : Int := if a < b then b else a
set_option maxHeartbeats 400000 in
theorem resume_any (a b : Int) (w : World) :
    Calls Tryd.prog 16 #[.int .u64 a, .int .u64 b] w fun e w' => e = .returned (.int .u64 (maxI a b)) ∧ w = w' := by
  by_cases h : a < b
  · rw [show maxI a b = b from if_pos h]
    go_enter Tryd.func16, Tryd.ntmps16
    go_wp2
    go_ret
    exact ⟨rfl, rfl⟩
  · rw [show maxI a b = a from if_neg h]
    go_enter Tryd.func16, Tryd.ntmps16
    go_wp2
    go_ret
    exact ⟨rfl, rfl⟩

end Go.Proofs.YtnkbnlmbjbdmmaaDoor
