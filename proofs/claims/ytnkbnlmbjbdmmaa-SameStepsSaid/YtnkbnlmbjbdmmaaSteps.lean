/- The walk of SameSteps: whatever the input, it returns true, and makes new memory alone. -/
import Derived.Test.YtnkbnlmbjbdmmaaSure
namespace Go.Proofs.Ytnkbnlmbjbdmmaa
open Go.RowKit

theorem Bytes.alloc {w : World} {oa : Option Addr} {n : Nat} {f : Nat → Nat} (h : Bytes w oa n f) (o : Obj) : Bytes (w.alloc o) oa n f := fun k hk => by
  obtain ⟨h1, b, off, h2, h3⟩ := h k hk
  exact ⟨h1, b, off, h2, Lib.cell?_alloc_marked o h3⟩

set_option maxHeartbeats 400000 in
theorem steps_sure (oa ob oc od : Option Addr) (na nb nc nd ca cb cc cd : Nat) (w : World) (hx : 500 < na ∨ 500 < nb ∨ nc ≠ na ∨ nd ≠ nb) :
    Calls Try.prog 4 #[.slice oa na ca, .slice ob nb cb, .agg #[.slice oc nc cc, .slice od nd cd]] w fun e w' => e = .returned (.bool true) ∧ Below w.heap.size w w' := by
  by_cases h1 : 500 < na
  · clear hx
    go_enter Try.func4, Try.ntmps4
    go_wp2_with fail
    refine (sure_any _).mono ?_
    rintro e w' ⟨rfl, hb⟩
    go_wp2_with fail
    go_ret
    exact ⟨rfl, ((Below.refl _ _).alloc (by simp) _).trans (hb.mono (by simp))⟩
  by_cases h2 : 500 < nb
  · clear hx
    go_enter Try.func4, Try.ntmps4
    go_wp2_with fail
    refine (sure_any _).mono ?_
    rintro e w' ⟨rfl, hb⟩
    go_wp2_with fail
    go_ret
    exact ⟨rfl, ((Below.refl _ _).alloc (by simp) _).trans (hb.mono (by simp))⟩
  by_cases h3 : nc = na
  · have h4 : ((nd : Int) == nb) = false := by rw [beq_eq_false_iff_ne]; omega
    have h5 : ((nd : Int) != nb) = true := by rw [bne_iff_ne]; omega
    subst h3
    go_enter Try.func4, Try.ntmps4
    go_wp2_with fail
    refine (sure_any _).mono ?_
    rintro e w' ⟨rfl, hb⟩
    go_wp2_with fail
    go_ret
    exact ⟨rfl, ((Below.refl _ _).alloc (by simp) _).trans (hb.mono (by simp))⟩
  · have h4 : ((nc : Int) == na) = false := by rw [beq_eq_false_iff_ne]; omega
    have h5 : ((nc : Int) != na) = true := by rw [bne_iff_ne]; omega
    go_enter Try.func4, Try.ntmps4
    go_wp2_with fail
    refine (sure_any _).mono ?_
    rintro e w' ⟨rfl, hb⟩
    go_wp2_with fail
    go_ret
    exact ⟨rfl, ((Below.refl _ _).alloc (by simp) _).trans (hb.mono (by simp))⟩

set_option maxHeartbeats 400000 in
theorem steps_main (oa ob oc od : Option Addr) (na nb ca cb cc cd : Nat) (f g p q : Nat → Nat) (w : World) (h1 : na ≤ 500) (h2 : nb ≤ 500)
    (hf : Bytes w oa na f) (hg : Bytes w ob nb g) (hp : Bytes w oc na p) (hq : Bytes w od nb q) :
    Calls Try.prog 4 #[.slice oa na ca, .slice ob nb cb, .agg #[.slice oc na cc, .slice od nb cd]] w fun e w' => e = .returned (.bool true) ∧ Below w.heap.size w w' := by
  go_enter Try.func4, Try.ntmps4
  go_wp2_with fail
  refine (equal_any _ _ _ _ _ _ _ _ _ (by omega) (by omega) (hf.alloc _) (hg.alloc _)).mono ?_
  rintro e w' ⟨rfl, rfl⟩
  go_wp2_with fail
  refine (equal_any _ _ _ _ _ _ _ _ _ (by omega) (by omega) (hp.alloc _) (hq.alloc _)).mono ?_
  rintro e w' ⟨rfl, rfl⟩
  go_wp2_with fail
  refine (equal_any _ _ _ _ _ _ _ _ _ (by omega) (by omega) (hg.alloc _) (hf.alloc _)).mono ?_
  rintro e w' ⟨rfl, rfl⟩
  rw [Nat.max_comm nb na]
  go_wp2_with fail
  all_goals
    refine (sure_any _).mono ?_
    rintro e w' ⟨rfl, hb⟩
    go_wp2_with fail
    go_ret
    exact ⟨rfl, ((Below.refl _ _).alloc (by simp) _).trans (hb.mono (by simp))⟩

theorem steps_any (oa ob oc od : Option Addr) (na nb nc nd ca cb cc cd : Nat) (f g p q : Nat → Nat) (w : World)
    (hf : Bytes w oa na f) (hg : Bytes w ob nb g) (hp : Bytes w oc nc p) (hq : Bytes w od nd q) :
    Calls Try.prog 4 #[.slice oa na ca, .slice ob nb cb, .agg #[.slice oc nc cc, .slice od nd cd]] w fun e w' => e = .returned (.bool true) ∧ Below w.heap.size w w' := by
  by_cases h : 500 < na ∨ 500 < nb ∨ nc ≠ na ∨ nd ≠ nb
  · exact steps_sure oa ob oc od na nb nc nd ca cb cc cd w h
  · obtain rfl : na = nc := by omega
    obtain rfl : nb = nd := by omega
    exact steps_main oa ob oc od na nb ca cb cc cd f g p q w (by omega) (by omega) hf hg hp hq

end Go.Proofs.Ytnkbnlmbjbdmmaa
