/- Whether a request may be. -/
import Derived.Test.YtmabhjifldafaaaDoorStp
import Derived.Test.YtmabhjifldafaaaDoorRq1
namespace Go.Proofs.YtmabhjifldafaaaDoor
set_option linter.unusedVariables false
set_option linter.unusedSimpArgs false
open Go.RowKit

/-- A request may be, but for its fields. -/
def MB (z : Int) (nt : Nat) (S : ByteArray) (q : Nat) : Prop := 1 ≤ z ∧ z < 30 ∧ q = arF z.toNat ∧ S.size ≤ 64 ∧ nt ≤ 32 ∧ (opF z.toNat = true → nt = 0)
instance (z : Int) (nt : Nat) (S : ByteArray) (q : Nat) : Decidable (MB z nt S q) := by unfold MB; infer_instance
set_option maxRecDepth 100000 in
set_option maxHeartbeats 8000000 in
theorem may_any (z : Int) (ot oa : Option Addr) (nt ct q ca : Nat) (S : ByteArray) (w : World) (h1 : -9223372036854775808 ≤ z) (h2 : z ≤ 9223372036854775807) (hnt : nt ≤ maxLen) (hq : q ≤ maxLen) (hS : S.size ≤ maxLen) :
    Calls Tryd.prog 65 #[.agg #[.int .i64 z, .slice ot nt ct, .string S, .slice oa q ca]] w fun e w' => e = .returned (.bool (decide (MB z nt S q))) ∧ Below w.heap.size w w' := by
  unfold maxLen at hnt hq hS
  obtain ⟨wa, hwa⟩ : ∃ x, w.alloc (.cells #[.int .i64 z, .slice ot nt ct, .string S, .slice oa q ca] 44) = x := ⟨_, rfl⟩
  have HO : Hid (Below w.heap.size w wa) := Lib.hid (by rw [← hwa]; exact (Below.refl _ _).alloc (Nat.le_refl _) _)
  have c0 : wa.cell? ⟨w.heap.size, 0, none⟩ = some (.int .i64 z) := by rw [← hwa]; exact World.cell?_alloc_mark w #[.int .i64 z, .slice ot nt ct, .string S, .slice oa q ca] 44 (0, 0) 0
  have c1 : wa.cell? ⟨w.heap.size, 1, none⟩ = some (.slice ot nt ct) := by rw [← hwa]; exact World.cell?_alloc_mark w #[.int .i64 z, .slice ot nt ct, .string S, .slice oa q ca] 44 (0, 0) 1
  have c2 : wa.cell? ⟨w.heap.size, 2, none⟩ = some (.string S) := by rw [← hwa]; exact World.cell?_alloc_mark w #[.int .i64 z, .slice ot nt ct, .string S, .slice oa q ca] 44 (0, 0) 2
  have c3 : wa.cell? ⟨w.heap.size, 3, none⟩ = some (.slice oa q ca) := by rw [← hwa]; exact World.cell?_alloc_mark w #[.int .i64 z, .slice ot nt ct, .string S, .slice oa q ca] 44 (0, 0) 3
  have d0 : wa.drew.cell? ⟨w.heap.size, 0, none⟩ = some (.int .i64 z) := c0
  have d1 : wa.drew.cell? ⟨w.heap.size, 1, none⟩ = some (.slice ot nt ct) := c1
  have d2 : wa.drew.cell? ⟨w.heap.size, 2, none⟩ = some (.string S) := c2
  have d3 : wa.drew.cell? ⟨w.heap.size, 3, none⟩ = some (.slice oa q ca) := c3
  have q0 : (q : Int) ≤ 9223372036854775807 := by omega
  have n0 : (nt : Int) ≤ 9223372036854775807 := by omega
  have s0 : (S.size : Int) ≤ 9223372036854775807 := by omega
  have HP : Hid (Below w.heap.size w wa.drew) := Lib.hid HO.out.drew
  have hI := fun w' => quiet (isop_any z w' h1 h2)
  by_cases hz : 1 ≤ z ∧ z < 30
  case neg =>
    have hd : decide (1 ≤ z ∧ z < 30) = false := decide_eq_false hz
    have HD : Hid (decide (MB z nt S q) = false) := Lib.hid (decide_eq_false fun h => hz ⟨h.1, h.2.1⟩)
    rw [hd] at hI
    clear c0 c1 c2 c3 h1 h2 hnt hq hS hd hz
    go_enter Tryd.func65, Tryd.ntmps65
    rw [HD.out]
    go_wp2_with fail
    refine WS.lit (by kernel_rfl) (by kernel_rfl) ?_
    generalize wa.drew = W1 at *
    refine WS.val (v := ?_) (by kernel_rfl) ?_ ?_
    rotate_left
    · go_simp
      (try with_reducible rfl)
    (try simp only [Act.put, List.setIfInBounds_toArray, List.set_cons_zero, List.set_cons_succ])
    refine WS.val (v := ?_) (by kernel_rfl) ?_ ?_
    rotate_left
    · go_simp
      (try with_reducible rfl)
    (try simp only [Act.put, List.setIfInBounds_toArray, List.set_cons_zero, List.set_cons_succ])
    refine WS.step (by kernel_rfl) (fun K hK => ?_)
    go_simp
    with_reducible refine ⟨_, hI _, hK _ ?_⟩
    clear hK K
    (try simp only [Act.put, List.setIfInBounds_toArray, List.set_cons_zero, List.set_cons_succ])
    refine WS.val (v := ?_) (by kernel_rfl) ?_ ?_
    rotate_left
    · go_simp
      (try with_reducible rfl)
    (try simp only [Act.put, List.setIfInBounds_toArray, List.set_cons_zero, List.set_cons_succ])
    refine WS.val (v := ?_) (by kernel_rfl) ?_ ?_
    rotate_left
    · go_simp
      (try with_reducible rfl)
    (try simp only [Act.put, List.setIfInBounds_toArray, List.set_cons_zero, List.set_cons_succ])
    refine WS.skip (by kernel_rfl) ?_
    (try simp only [Act.put, List.setIfInBounds_toArray, List.set_cons_zero, List.set_cons_succ])
    refine WS.skip (by kernel_rfl) ?_
    (try simp only [Act.put, List.setIfInBounds_toArray, List.set_cons_zero, List.set_cons_succ])
    refine WS.skip (by kernel_rfl) ?_
    (try simp only [Act.put, List.setIfInBounds_toArray, List.set_cons_zero, List.set_cons_succ])
    refine WS.skip (by kernel_rfl) ?_
    (try simp only [Act.put, List.setIfInBounds_toArray, List.set_cons_zero, List.set_cons_succ])
    refine WS.skip (by kernel_rfl) ?_
    (try simp only [Act.put, List.setIfInBounds_toArray, List.set_cons_zero, List.set_cons_succ])
    refine WS.skip (by kernel_rfl) ?_
    (try simp only [Act.put, List.setIfInBounds_toArray, List.set_cons_zero, List.set_cons_succ])
    refine WS.skip (by kernel_rfl) ?_
    (try simp only [Act.put, List.setIfInBounds_toArray, List.set_cons_zero, List.set_cons_succ])
    refine WS.val (v := ?_) (by kernel_rfl) ?_ ?_
    rotate_left
    · go_simp
      (try with_reducible rfl)
    (try simp only [Act.put, List.setIfInBounds_toArray, List.set_cons_zero, List.set_cons_succ])
    refine WS.val (v := ?_) (by kernel_rfl) ?_ ?_
    rotate_left
    · go_simp
      (try with_reducible rfl)
    (try simp only [Act.put, List.setIfInBounds_toArray, List.set_cons_zero, List.set_cons_succ])
    refine WS.skip (by kernel_rfl) ?_
    (try simp only [Act.put, List.setIfInBounds_toArray, List.set_cons_zero, List.set_cons_succ])
    refine WS.skip (by kernel_rfl) ?_
    (try simp only [Act.put, List.setIfInBounds_toArray, List.set_cons_zero, List.set_cons_succ])
    refine WS.skip (by kernel_rfl) ?_
    (try simp only [Act.put, List.setIfInBounds_toArray, List.set_cons_zero, List.set_cons_succ])
    refine WS.skip (by kernel_rfl) ?_
    (try simp only [Act.put, List.setIfInBounds_toArray, List.set_cons_zero, List.set_cons_succ])
    refine WS.val (v := ?_) (by kernel_rfl) ?_ ?_
    rotate_left
    · go_simp
      (try with_reducible rfl)
    (try simp only [Act.put, List.setIfInBounds_toArray, List.set_cons_zero, List.set_cons_succ])
    refine WS.nil ?_
    go_wp2_with fail
    go_ret
    exact ⟨rfl, HP.out⟩
  case pos =>
    obtain ⟨k, rfl⟩ : ∃ k : Nat, z = (k : Int) := ⟨z.toNat, by omega⟩
    have hd : decide (1 ≤ (k : Int) ∧ (k : Int) < 30) = true := decide_eq_true hz
    rw [hd] at hI
    have k1 : 1 ≤ k := by omega
    have k2 : k < 30 := by omega
    have hA := fun w' => quiet (args_any k w' k1 k2)
    have hO := fun w' => open_any k w' k1 k2
    obtain ⟨u, hu⟩ : ∃ u, arF k = u := ⟨_, rfl⟩
    have hu3 : u ≤ 3 := hu ▸ ar_le k
    rw [hu] at hA
    have HK : Hid (1 ≤ k ∧ k < 30 ∧ arF k = u ∧ (k : Int).toNat = k) := Lib.hid ⟨k1, k2, hu, by omega⟩
    clear hu h1 h2 hnt hq hS hd hz k1 k2
    by_cases hqu : q = u
    case neg =>
      have u1 : ¬ (q : Int) = (u : Int) := by omega
      have u2 : decide ((q : Int) = (u : Int)) = false := decide_eq_false u1
      have u3 : decide (¬ (q : Int) = (u : Int)) = true := decide_eq_true u1
      have u4 : ((q : Int) == (u : Int)) = false := by simpa using u1
      have u5 : ((q : Int) != (u : Int)) = true := by simpa using u1
      have HD : Hid (decide (MB k nt S q) = false) := Lib.hid (decide_eq_false fun h => hqu (by have := h.2.2.1; rw [HK.out.2.2.2, HK.out.2.2.1] at this; exact this))
      clear c0 c1 c2 c3 hqu
      go_enter Tryd.func65, Tryd.ntmps65
      rw [HD.out]
      go_wp2_with fail
      refine WS.lit (by kernel_rfl) (by kernel_rfl) ?_
      generalize wa.drew = W1 at *
      refine WS.val (v := ?_) (by kernel_rfl) ?_ ?_
      rotate_left
      · go_simp
        (try with_reducible rfl)
      (try simp only [Act.put, List.setIfInBounds_toArray, List.set_cons_zero, List.set_cons_succ])
      refine WS.val (v := ?_) (by kernel_rfl) ?_ ?_
      rotate_left
      · go_simp
        (try with_reducible rfl)
      (try simp only [Act.put, List.setIfInBounds_toArray, List.set_cons_zero, List.set_cons_succ])
      refine WS.step (by kernel_rfl) (fun K hK => ?_)
      go_simp
      with_reducible refine ⟨_, hI _, hK _ ?_⟩
      clear hK K
      (try simp only [Act.put, List.setIfInBounds_toArray, List.set_cons_zero, List.set_cons_succ])
      refine WS.val (v := ?_) (by kernel_rfl) ?_ ?_
      rotate_left
      · go_simp
        (try with_reducible rfl)
      (try simp only [Act.put, List.setIfInBounds_toArray, List.set_cons_zero, List.set_cons_succ])
      refine WS.val (v := ?_) (by kernel_rfl) ?_ ?_
      rotate_left
      · go_simp
        (try with_reducible rfl)
      (try simp only [Act.put, List.setIfInBounds_toArray, List.set_cons_zero, List.set_cons_succ])
      refine WS.val (v := ?_) (by kernel_rfl) ?_ ?_
      rotate_left
      · go_simp
        (try with_reducible rfl)
      (try simp only [Act.put, List.setIfInBounds_toArray, List.set_cons_zero, List.set_cons_succ])
      refine WS.val (v := ?_) (by kernel_rfl) ?_ ?_
      rotate_left
      · go_simp
        (try with_reducible rfl)
      (try simp only [Act.put, List.setIfInBounds_toArray, List.set_cons_zero, List.set_cons_succ])
      refine WS.val (v := ?_) (by kernel_rfl) ?_ ?_
      rotate_left
      · go_simp
        (try with_reducible rfl)
      (try simp only [Act.put, List.setIfInBounds_toArray, List.set_cons_zero, List.set_cons_succ])
      refine WS.val (v := ?_) (by kernel_rfl) ?_ ?_
      rotate_left
      · go_simp
        (try with_reducible rfl)
      (try simp only [Act.put, List.setIfInBounds_toArray, List.set_cons_zero, List.set_cons_succ])
      refine WS.val (v := ?_) (by kernel_rfl) ?_ ?_
      rotate_left
      · go_simp
        (try with_reducible rfl)
      (try simp only [Act.put, List.setIfInBounds_toArray, List.set_cons_zero, List.set_cons_succ])
      refine WS.step (by kernel_rfl) (fun K hK => ?_)
      go_simp
      with_reducible refine ⟨_, hA _, hK _ ?_⟩
      clear hK K
      (try simp only [Act.put, List.setIfInBounds_toArray, List.set_cons_zero, List.set_cons_succ])
      refine WS.val (v := ?_) (by kernel_rfl) ?_ ?_
      rotate_left
      · go_simp
        (try with_reducible rfl)
      (try simp only [Act.put, List.setIfInBounds_toArray, List.set_cons_zero, List.set_cons_succ])
      refine WS.val (v := ?_) (by kernel_rfl) ?_ ?_
      rotate_left
      · go_simp
        (try with_reducible rfl)
      (try simp only [Act.put, List.setIfInBounds_toArray, List.set_cons_zero, List.set_cons_succ])
      refine WS.val (v := ?_) (by kernel_rfl) ?_ ?_
      rotate_left
      · go_simp
        (try with_reducible rfl)
      (try simp only [Act.put, List.setIfInBounds_toArray, List.set_cons_zero, List.set_cons_succ])
      refine WS.skip (by kernel_rfl) ?_
      (try simp only [Act.put, List.setIfInBounds_toArray, List.set_cons_zero, List.set_cons_succ])
      refine WS.skip (by kernel_rfl) ?_
      (try simp only [Act.put, List.setIfInBounds_toArray, List.set_cons_zero, List.set_cons_succ])
      refine WS.skip (by kernel_rfl) ?_
      (try simp only [Act.put, List.setIfInBounds_toArray, List.set_cons_zero, List.set_cons_succ])
      refine WS.skip (by kernel_rfl) ?_
      (try simp only [Act.put, List.setIfInBounds_toArray, List.set_cons_zero, List.set_cons_succ])
      refine WS.val (v := ?_) (by kernel_rfl) ?_ ?_
      rotate_left
      · go_simp
        (try with_reducible rfl)
      (try simp only [Act.put, List.setIfInBounds_toArray, List.set_cons_zero, List.set_cons_succ])
      refine WS.nil ?_
      go_wp2_with fail
      go_ret
      exact ⟨rfl, HP.out⟩
    case pos =>
      subst hqu
      by_cases hs : 64 < S.size
      case pos =>
        have u1 : (64 : Int) < (S.size : Int) := by omega
        have HD : Hid (decide (MB k nt S q) = false) := Lib.hid (decide_eq_false fun h => by have := h.2.2.2.1; omega)
        clear c0 c1 c2 c3 hs
        go_enter Tryd.func65, Tryd.ntmps65
        rw [HD.out]
        go_wp2_with fail
        refine WS.lit (by kernel_rfl) (by kernel_rfl) ?_
        generalize wa.drew = W1 at *
        refine WS.val (v := ?_) (by kernel_rfl) ?_ ?_
        rotate_left
        · go_simp
          (try with_reducible rfl)
        (try simp only [Act.put, List.setIfInBounds_toArray, List.set_cons_zero, List.set_cons_succ])
        refine WS.val (v := ?_) (by kernel_rfl) ?_ ?_
        rotate_left
        · go_simp
          (try with_reducible rfl)
        (try simp only [Act.put, List.setIfInBounds_toArray, List.set_cons_zero, List.set_cons_succ])
        refine WS.step (by kernel_rfl) (fun K hK => ?_)
        go_simp
        with_reducible refine ⟨_, hI _, hK _ ?_⟩
        clear hK K
        (try simp only [Act.put, List.setIfInBounds_toArray, List.set_cons_zero, List.set_cons_succ])
        refine WS.val (v := ?_) (by kernel_rfl) ?_ ?_
        rotate_left
        · go_simp
          (try with_reducible rfl)
        (try simp only [Act.put, List.setIfInBounds_toArray, List.set_cons_zero, List.set_cons_succ])
        refine WS.val (v := ?_) (by kernel_rfl) ?_ ?_
        rotate_left
        · go_simp
          (try with_reducible rfl)
        (try simp only [Act.put, List.setIfInBounds_toArray, List.set_cons_zero, List.set_cons_succ])
        refine WS.val (v := ?_) (by kernel_rfl) ?_ ?_
        rotate_left
        · go_simp
          (try with_reducible rfl)
        (try simp only [Act.put, List.setIfInBounds_toArray, List.set_cons_zero, List.set_cons_succ])
        refine WS.val (v := ?_) (by kernel_rfl) ?_ ?_
        rotate_left
        · go_simp
          (try with_reducible rfl)
        (try simp only [Act.put, List.setIfInBounds_toArray, List.set_cons_zero, List.set_cons_succ])
        refine WS.val (v := ?_) (by kernel_rfl) ?_ ?_
        rotate_left
        · go_simp
          (try with_reducible rfl)
        (try simp only [Act.put, List.setIfInBounds_toArray, List.set_cons_zero, List.set_cons_succ])
        refine WS.val (v := ?_) (by kernel_rfl) ?_ ?_
        rotate_left
        · go_simp
          (try with_reducible rfl)
        (try simp only [Act.put, List.setIfInBounds_toArray, List.set_cons_zero, List.set_cons_succ])
        refine WS.val (v := ?_) (by kernel_rfl) ?_ ?_
        rotate_left
        · go_simp
          (try with_reducible rfl)
        (try simp only [Act.put, List.setIfInBounds_toArray, List.set_cons_zero, List.set_cons_succ])
        refine WS.step (by kernel_rfl) (fun K hK => ?_)
        go_simp
        with_reducible refine ⟨_, hA _, hK _ ?_⟩
        clear hK K
        (try simp only [Act.put, List.setIfInBounds_toArray, List.set_cons_zero, List.set_cons_succ])
        refine WS.val (v := ?_) (by kernel_rfl) ?_ ?_
        rotate_left
        · go_simp
          (try with_reducible rfl)
        (try simp only [Act.put, List.setIfInBounds_toArray, List.set_cons_zero, List.set_cons_succ])
        refine WS.val (v := ?_) (by kernel_rfl) ?_ ?_
        rotate_left
        · go_simp
          (try with_reducible rfl)
        (try simp only [Act.put, List.setIfInBounds_toArray, List.set_cons_zero, List.set_cons_succ])
        refine WS.val (v := ?_) (by kernel_rfl) ?_ ?_
        rotate_left
        · go_simp
          (try with_reducible rfl)
        (try simp only [Act.put, List.setIfInBounds_toArray, List.set_cons_zero, List.set_cons_succ])
        refine WS.val (v := ?_) (by kernel_rfl) ?_ ?_
        rotate_left
        · go_simp
          (try with_reducible rfl)
        (try simp only [Act.put, List.setIfInBounds_toArray, List.set_cons_zero, List.set_cons_succ])
        refine WS.val (v := ?_) (by kernel_rfl) ?_ ?_
        rotate_left
        · go_simp
          (try with_reducible rfl)
        (try simp only [Act.put, List.setIfInBounds_toArray, List.set_cons_zero, List.set_cons_succ])
        refine WS.val (v := ?_) (by kernel_rfl) ?_ ?_
        rotate_left
        · go_simp
          (try with_reducible rfl)
        (try simp only [Act.put, List.setIfInBounds_toArray, List.set_cons_zero, List.set_cons_succ])
        refine WS.val (v := ?_) (by kernel_rfl) ?_ ?_
        rotate_left
        · go_simp
          (try with_reducible rfl)
        (try simp only [Act.put, List.setIfInBounds_toArray, List.set_cons_zero, List.set_cons_succ])
        refine WS.val (v := ?_) (by kernel_rfl) ?_ ?_
        rotate_left
        · go_simp
          (try with_reducible rfl)
        (try simp only [Act.put, List.setIfInBounds_toArray, List.set_cons_zero, List.set_cons_succ])
        refine WS.nil ?_
        go_wp2_with fail
        go_ret
        exact ⟨rfl, HP.out⟩
      case neg =>
        have u1 : ¬ (64 : Int) < (S.size : Int) := by omega
        have u2 : decide ((64 : Int) < (S.size : Int)) = false := decide_eq_false u1
        have HS : Hid (S.size ≤ 64) := Lib.hid (by omega)
        cases ho : opF k with
        | true =>
          rw [ho] at hO
          have HO := Lib.hid hO
          by_cases hn : nt = 0
          · have HD : Hid (decide (MB k nt S q) = true) := Lib.hid (decide_eq_true ⟨by have := HK.out; omega, by have := HK.out; omega, by rw [HK.out.2.2.2]; exact HK.out.2.2.1.symm, HS.out, by omega, fun _ => hn⟩)
            clear c0 c1 c2 c3 hs ho hO
            subst hn
            go_enter Tryd.func65, Tryd.ntmps65
            rw [HD.out]
            go_wp2_with fail
            refine WS.lit (by kernel_rfl) (by kernel_rfl) ?_
            generalize wa.drew = W1 at *
            refine WS.val (v := ?_) (by kernel_rfl) ?_ ?_
            rotate_left
            · go_simp
              (try with_reducible rfl)
            (try simp only [Act.put, List.setIfInBounds_toArray, List.set_cons_zero, List.set_cons_succ])
            refine WS.val (v := ?_) (by kernel_rfl) ?_ ?_
            rotate_left
            · go_simp
              (try with_reducible rfl)
            (try simp only [Act.put, List.setIfInBounds_toArray, List.set_cons_zero, List.set_cons_succ])
            refine WS.step (by kernel_rfl) (fun K hK => ?_)
            go_simp
            with_reducible refine ⟨_, hI _, hK _ ?_⟩
            clear hK K
            (try simp only [Act.put, List.setIfInBounds_toArray, List.set_cons_zero, List.set_cons_succ])
            refine WS.val (v := ?_) (by kernel_rfl) ?_ ?_
            rotate_left
            · go_simp
              (try with_reducible rfl)
            (try simp only [Act.put, List.setIfInBounds_toArray, List.set_cons_zero, List.set_cons_succ])
            refine WS.val (v := ?_) (by kernel_rfl) ?_ ?_
            rotate_left
            · go_simp
              (try with_reducible rfl)
            (try simp only [Act.put, List.setIfInBounds_toArray, List.set_cons_zero, List.set_cons_succ])
            refine WS.val (v := ?_) (by kernel_rfl) ?_ ?_
            rotate_left
            · go_simp
              (try with_reducible rfl)
            (try simp only [Act.put, List.setIfInBounds_toArray, List.set_cons_zero, List.set_cons_succ])
            refine WS.val (v := ?_) (by kernel_rfl) ?_ ?_
            rotate_left
            · go_simp
              (try with_reducible rfl)
            (try simp only [Act.put, List.setIfInBounds_toArray, List.set_cons_zero, List.set_cons_succ])
            refine WS.val (v := ?_) (by kernel_rfl) ?_ ?_
            rotate_left
            · go_simp
              (try with_reducible rfl)
            (try simp only [Act.put, List.setIfInBounds_toArray, List.set_cons_zero, List.set_cons_succ])
            refine WS.val (v := ?_) (by kernel_rfl) ?_ ?_
            rotate_left
            · go_simp
              (try with_reducible rfl)
            (try simp only [Act.put, List.setIfInBounds_toArray, List.set_cons_zero, List.set_cons_succ])
            refine WS.val (v := ?_) (by kernel_rfl) ?_ ?_
            rotate_left
            · go_simp
              (try with_reducible rfl)
            (try simp only [Act.put, List.setIfInBounds_toArray, List.set_cons_zero, List.set_cons_succ])
            refine WS.step (by kernel_rfl) (fun K hK => ?_)
            go_simp
            with_reducible refine ⟨_, hA _, hK _ ?_⟩
            clear hK K
            (try simp only [Act.put, List.setIfInBounds_toArray, List.set_cons_zero, List.set_cons_succ])
            refine WS.val (v := ?_) (by kernel_rfl) ?_ ?_
            rotate_left
            · go_simp
              (try with_reducible rfl)
            (try simp only [Act.put, List.setIfInBounds_toArray, List.set_cons_zero, List.set_cons_succ])
            refine WS.val (v := ?_) (by kernel_rfl) ?_ ?_
            rotate_left
            · go_simp
              (try with_reducible rfl)
            (try simp only [Act.put, List.setIfInBounds_toArray, List.set_cons_zero, List.set_cons_succ])
            refine WS.val (v := ?_) (by kernel_rfl) ?_ ?_
            rotate_left
            · go_simp
              (try with_reducible rfl)
            (try simp only [Act.put, List.setIfInBounds_toArray, List.set_cons_zero, List.set_cons_succ])
            refine WS.val (v := ?_) (by kernel_rfl) ?_ ?_
            rotate_left
            · go_simp
              (try with_reducible rfl)
            (try simp only [Act.put, List.setIfInBounds_toArray, List.set_cons_zero, List.set_cons_succ])
            refine WS.val (v := ?_) (by kernel_rfl) ?_ ?_
            rotate_left
            · go_simp
              (try with_reducible rfl)
            (try simp only [Act.put, List.setIfInBounds_toArray, List.set_cons_zero, List.set_cons_succ])
            refine WS.val (v := ?_) (by kernel_rfl) ?_ ?_
            rotate_left
            · go_simp
              (try with_reducible rfl)
            (try simp only [Act.put, List.setIfInBounds_toArray, List.set_cons_zero, List.set_cons_succ])
            refine WS.val (v := ?_) (by kernel_rfl) ?_ ?_
            rotate_left
            · go_simp
              (try with_reducible rfl)
            (try simp only [Act.put, List.setIfInBounds_toArray, List.set_cons_zero, List.set_cons_succ])
            refine WS.val (v := ?_) (by kernel_rfl) ?_ ?_
            rotate_left
            · go_simp
              (try with_reducible rfl)
            (try simp only [Act.put, List.setIfInBounds_toArray, List.set_cons_zero, List.set_cons_succ])
            refine WS.nil ?_
            go_wp2_with fail
            refine (HO.out _).mono ?_
            rintro e w1 ⟨rfl, rfl⟩
            go_wp2_with fail
            go_ret
            exact ⟨by first | rfl | (simp [v1]; done) | (simp [v1]; omega) | (simp only [decide_eq_false v1]; rfl), HP.out⟩
          · have HD : Hid (decide (MB k nt S q) = false) := Lib.hid (decide_eq_false fun h => hn (h.2.2.2.2.2 (by rw [HK.out.2.2.2]; exact ho)))
            have v1 : ¬ (nt : Int) = 0 := by omega
            clear c0 c1 c2 c3 hs ho hO hn
            go_enter Tryd.func65, Tryd.ntmps65
            rw [HD.out]
            go_wp2_with fail
            refine WS.lit (by kernel_rfl) (by kernel_rfl) ?_
            generalize wa.drew = W1 at *
            refine WS.val (v := ?_) (by kernel_rfl) ?_ ?_
            rotate_left
            · go_simp
              (try with_reducible rfl)
            (try simp only [Act.put, List.setIfInBounds_toArray, List.set_cons_zero, List.set_cons_succ])
            refine WS.val (v := ?_) (by kernel_rfl) ?_ ?_
            rotate_left
            · go_simp
              (try with_reducible rfl)
            (try simp only [Act.put, List.setIfInBounds_toArray, List.set_cons_zero, List.set_cons_succ])
            refine WS.step (by kernel_rfl) (fun K hK => ?_)
            go_simp
            with_reducible refine ⟨_, hI _, hK _ ?_⟩
            clear hK K
            (try simp only [Act.put, List.setIfInBounds_toArray, List.set_cons_zero, List.set_cons_succ])
            refine WS.val (v := ?_) (by kernel_rfl) ?_ ?_
            rotate_left
            · go_simp
              (try with_reducible rfl)
            (try simp only [Act.put, List.setIfInBounds_toArray, List.set_cons_zero, List.set_cons_succ])
            refine WS.val (v := ?_) (by kernel_rfl) ?_ ?_
            rotate_left
            · go_simp
              (try with_reducible rfl)
            (try simp only [Act.put, List.setIfInBounds_toArray, List.set_cons_zero, List.set_cons_succ])
            refine WS.val (v := ?_) (by kernel_rfl) ?_ ?_
            rotate_left
            · go_simp
              (try with_reducible rfl)
            (try simp only [Act.put, List.setIfInBounds_toArray, List.set_cons_zero, List.set_cons_succ])
            refine WS.val (v := ?_) (by kernel_rfl) ?_ ?_
            rotate_left
            · go_simp
              (try with_reducible rfl)
            (try simp only [Act.put, List.setIfInBounds_toArray, List.set_cons_zero, List.set_cons_succ])
            refine WS.val (v := ?_) (by kernel_rfl) ?_ ?_
            rotate_left
            · go_simp
              (try with_reducible rfl)
            (try simp only [Act.put, List.setIfInBounds_toArray, List.set_cons_zero, List.set_cons_succ])
            refine WS.val (v := ?_) (by kernel_rfl) ?_ ?_
            rotate_left
            · go_simp
              (try with_reducible rfl)
            (try simp only [Act.put, List.setIfInBounds_toArray, List.set_cons_zero, List.set_cons_succ])
            refine WS.val (v := ?_) (by kernel_rfl) ?_ ?_
            rotate_left
            · go_simp
              (try with_reducible rfl)
            (try simp only [Act.put, List.setIfInBounds_toArray, List.set_cons_zero, List.set_cons_succ])
            refine WS.step (by kernel_rfl) (fun K hK => ?_)
            go_simp
            with_reducible refine ⟨_, hA _, hK _ ?_⟩
            clear hK K
            (try simp only [Act.put, List.setIfInBounds_toArray, List.set_cons_zero, List.set_cons_succ])
            refine WS.val (v := ?_) (by kernel_rfl) ?_ ?_
            rotate_left
            · go_simp
              (try with_reducible rfl)
            (try simp only [Act.put, List.setIfInBounds_toArray, List.set_cons_zero, List.set_cons_succ])
            refine WS.val (v := ?_) (by kernel_rfl) ?_ ?_
            rotate_left
            · go_simp
              (try with_reducible rfl)
            (try simp only [Act.put, List.setIfInBounds_toArray, List.set_cons_zero, List.set_cons_succ])
            refine WS.val (v := ?_) (by kernel_rfl) ?_ ?_
            rotate_left
            · go_simp
              (try with_reducible rfl)
            (try simp only [Act.put, List.setIfInBounds_toArray, List.set_cons_zero, List.set_cons_succ])
            refine WS.val (v := ?_) (by kernel_rfl) ?_ ?_
            rotate_left
            · go_simp
              (try with_reducible rfl)
            (try simp only [Act.put, List.setIfInBounds_toArray, List.set_cons_zero, List.set_cons_succ])
            refine WS.val (v := ?_) (by kernel_rfl) ?_ ?_
            rotate_left
            · go_simp
              (try with_reducible rfl)
            (try simp only [Act.put, List.setIfInBounds_toArray, List.set_cons_zero, List.set_cons_succ])
            refine WS.val (v := ?_) (by kernel_rfl) ?_ ?_
            rotate_left
            · go_simp
              (try with_reducible rfl)
            (try simp only [Act.put, List.setIfInBounds_toArray, List.set_cons_zero, List.set_cons_succ])
            refine WS.val (v := ?_) (by kernel_rfl) ?_ ?_
            rotate_left
            · go_simp
              (try with_reducible rfl)
            (try simp only [Act.put, List.setIfInBounds_toArray, List.set_cons_zero, List.set_cons_succ])
            refine WS.val (v := ?_) (by kernel_rfl) ?_ ?_
            rotate_left
            · go_simp
              (try with_reducible rfl)
            (try simp only [Act.put, List.setIfInBounds_toArray, List.set_cons_zero, List.set_cons_succ])
            refine WS.nil ?_
            go_wp2_with fail
            refine (HO.out _).mono ?_
            rintro e w1 ⟨rfl, rfl⟩
            go_wp2_with fail
            go_ret
            exact ⟨by first | rfl | (simp [v1]; done) | (simp [v1]; omega) | (simp only [decide_eq_false v1]; rfl), HP.out⟩
        | false =>
          rw [ho] at hO
          have HO := Lib.hid hO
          by_cases hn : nt ≤ 32
          · have HD : Hid (decide (MB k nt S q) = true) := Lib.hid (decide_eq_true ⟨by have := HK.out; omega, by have := HK.out; omega, by rw [HK.out.2.2.2]; exact HK.out.2.2.1.symm, HS.out, hn, fun e => by rw [HK.out.2.2.2, ho] at e; cases e⟩)
            have v1 : (nt : Int) ≤ 32 := by omega
            clear c0 c1 c2 c3 hs ho hO hn
            go_enter Tryd.func65, Tryd.ntmps65
            rw [HD.out]
            go_wp2_with fail
            refine WS.lit (by kernel_rfl) (by kernel_rfl) ?_
            generalize wa.drew = W1 at *
            refine WS.val (v := ?_) (by kernel_rfl) ?_ ?_
            rotate_left
            · go_simp
              (try with_reducible rfl)
            (try simp only [Act.put, List.setIfInBounds_toArray, List.set_cons_zero, List.set_cons_succ])
            refine WS.val (v := ?_) (by kernel_rfl) ?_ ?_
            rotate_left
            · go_simp
              (try with_reducible rfl)
            (try simp only [Act.put, List.setIfInBounds_toArray, List.set_cons_zero, List.set_cons_succ])
            refine WS.step (by kernel_rfl) (fun K hK => ?_)
            go_simp
            with_reducible refine ⟨_, hI _, hK _ ?_⟩
            clear hK K
            (try simp only [Act.put, List.setIfInBounds_toArray, List.set_cons_zero, List.set_cons_succ])
            refine WS.val (v := ?_) (by kernel_rfl) ?_ ?_
            rotate_left
            · go_simp
              (try with_reducible rfl)
            (try simp only [Act.put, List.setIfInBounds_toArray, List.set_cons_zero, List.set_cons_succ])
            refine WS.val (v := ?_) (by kernel_rfl) ?_ ?_
            rotate_left
            · go_simp
              (try with_reducible rfl)
            (try simp only [Act.put, List.setIfInBounds_toArray, List.set_cons_zero, List.set_cons_succ])
            refine WS.val (v := ?_) (by kernel_rfl) ?_ ?_
            rotate_left
            · go_simp
              (try with_reducible rfl)
            (try simp only [Act.put, List.setIfInBounds_toArray, List.set_cons_zero, List.set_cons_succ])
            refine WS.val (v := ?_) (by kernel_rfl) ?_ ?_
            rotate_left
            · go_simp
              (try with_reducible rfl)
            (try simp only [Act.put, List.setIfInBounds_toArray, List.set_cons_zero, List.set_cons_succ])
            refine WS.val (v := ?_) (by kernel_rfl) ?_ ?_
            rotate_left
            · go_simp
              (try with_reducible rfl)
            (try simp only [Act.put, List.setIfInBounds_toArray, List.set_cons_zero, List.set_cons_succ])
            refine WS.val (v := ?_) (by kernel_rfl) ?_ ?_
            rotate_left
            · go_simp
              (try with_reducible rfl)
            (try simp only [Act.put, List.setIfInBounds_toArray, List.set_cons_zero, List.set_cons_succ])
            refine WS.val (v := ?_) (by kernel_rfl) ?_ ?_
            rotate_left
            · go_simp
              (try with_reducible rfl)
            (try simp only [Act.put, List.setIfInBounds_toArray, List.set_cons_zero, List.set_cons_succ])
            refine WS.step (by kernel_rfl) (fun K hK => ?_)
            go_simp
            with_reducible refine ⟨_, hA _, hK _ ?_⟩
            clear hK K
            (try simp only [Act.put, List.setIfInBounds_toArray, List.set_cons_zero, List.set_cons_succ])
            refine WS.val (v := ?_) (by kernel_rfl) ?_ ?_
            rotate_left
            · go_simp
              (try with_reducible rfl)
            (try simp only [Act.put, List.setIfInBounds_toArray, List.set_cons_zero, List.set_cons_succ])
            refine WS.val (v := ?_) (by kernel_rfl) ?_ ?_
            rotate_left
            · go_simp
              (try with_reducible rfl)
            (try simp only [Act.put, List.setIfInBounds_toArray, List.set_cons_zero, List.set_cons_succ])
            refine WS.val (v := ?_) (by kernel_rfl) ?_ ?_
            rotate_left
            · go_simp
              (try with_reducible rfl)
            (try simp only [Act.put, List.setIfInBounds_toArray, List.set_cons_zero, List.set_cons_succ])
            refine WS.val (v := ?_) (by kernel_rfl) ?_ ?_
            rotate_left
            · go_simp
              (try with_reducible rfl)
            (try simp only [Act.put, List.setIfInBounds_toArray, List.set_cons_zero, List.set_cons_succ])
            refine WS.val (v := ?_) (by kernel_rfl) ?_ ?_
            rotate_left
            · go_simp
              (try with_reducible rfl)
            (try simp only [Act.put, List.setIfInBounds_toArray, List.set_cons_zero, List.set_cons_succ])
            refine WS.val (v := ?_) (by kernel_rfl) ?_ ?_
            rotate_left
            · go_simp
              (try with_reducible rfl)
            (try simp only [Act.put, List.setIfInBounds_toArray, List.set_cons_zero, List.set_cons_succ])
            refine WS.val (v := ?_) (by kernel_rfl) ?_ ?_
            rotate_left
            · go_simp
              (try with_reducible rfl)
            (try simp only [Act.put, List.setIfInBounds_toArray, List.set_cons_zero, List.set_cons_succ])
            refine WS.val (v := ?_) (by kernel_rfl) ?_ ?_
            rotate_left
            · go_simp
              (try with_reducible rfl)
            (try simp only [Act.put, List.setIfInBounds_toArray, List.set_cons_zero, List.set_cons_succ])
            refine WS.nil ?_
            go_wp2_with fail
            refine (HO.out _).mono ?_
            rintro e w1 ⟨rfl, rfl⟩
            go_wp2_with fail
            go_ret
            exact ⟨by first | rfl | (simp [v1]; done) | (simp [v1]; omega) | (simp only [decide_eq_false v1]; rfl), HP.out⟩
          · have HD : Hid (decide (MB k nt S q) = false) := Lib.hid (decide_eq_false fun h => hn h.2.2.2.2.1)
            have v1 : ¬ (nt : Int) ≤ 32 := by omega
            clear c0 c1 c2 c3 hs ho hO hn
            go_enter Tryd.func65, Tryd.ntmps65
            rw [HD.out]
            go_wp2_with fail
            refine WS.lit (by kernel_rfl) (by kernel_rfl) ?_
            generalize wa.drew = W1 at *
            refine WS.val (v := ?_) (by kernel_rfl) ?_ ?_
            rotate_left
            · go_simp
              (try with_reducible rfl)
            (try simp only [Act.put, List.setIfInBounds_toArray, List.set_cons_zero, List.set_cons_succ])
            refine WS.val (v := ?_) (by kernel_rfl) ?_ ?_
            rotate_left
            · go_simp
              (try with_reducible rfl)
            (try simp only [Act.put, List.setIfInBounds_toArray, List.set_cons_zero, List.set_cons_succ])
            refine WS.step (by kernel_rfl) (fun K hK => ?_)
            go_simp
            with_reducible refine ⟨_, hI _, hK _ ?_⟩
            clear hK K
            (try simp only [Act.put, List.setIfInBounds_toArray, List.set_cons_zero, List.set_cons_succ])
            refine WS.val (v := ?_) (by kernel_rfl) ?_ ?_
            rotate_left
            · go_simp
              (try with_reducible rfl)
            (try simp only [Act.put, List.setIfInBounds_toArray, List.set_cons_zero, List.set_cons_succ])
            refine WS.val (v := ?_) (by kernel_rfl) ?_ ?_
            rotate_left
            · go_simp
              (try with_reducible rfl)
            (try simp only [Act.put, List.setIfInBounds_toArray, List.set_cons_zero, List.set_cons_succ])
            refine WS.val (v := ?_) (by kernel_rfl) ?_ ?_
            rotate_left
            · go_simp
              (try with_reducible rfl)
            (try simp only [Act.put, List.setIfInBounds_toArray, List.set_cons_zero, List.set_cons_succ])
            refine WS.val (v := ?_) (by kernel_rfl) ?_ ?_
            rotate_left
            · go_simp
              (try with_reducible rfl)
            (try simp only [Act.put, List.setIfInBounds_toArray, List.set_cons_zero, List.set_cons_succ])
            refine WS.val (v := ?_) (by kernel_rfl) ?_ ?_
            rotate_left
            · go_simp
              (try with_reducible rfl)
            (try simp only [Act.put, List.setIfInBounds_toArray, List.set_cons_zero, List.set_cons_succ])
            refine WS.val (v := ?_) (by kernel_rfl) ?_ ?_
            rotate_left
            · go_simp
              (try with_reducible rfl)
            (try simp only [Act.put, List.setIfInBounds_toArray, List.set_cons_zero, List.set_cons_succ])
            refine WS.val (v := ?_) (by kernel_rfl) ?_ ?_
            rotate_left
            · go_simp
              (try with_reducible rfl)
            (try simp only [Act.put, List.setIfInBounds_toArray, List.set_cons_zero, List.set_cons_succ])
            refine WS.step (by kernel_rfl) (fun K hK => ?_)
            go_simp
            with_reducible refine ⟨_, hA _, hK _ ?_⟩
            clear hK K
            (try simp only [Act.put, List.setIfInBounds_toArray, List.set_cons_zero, List.set_cons_succ])
            refine WS.val (v := ?_) (by kernel_rfl) ?_ ?_
            rotate_left
            · go_simp
              (try with_reducible rfl)
            (try simp only [Act.put, List.setIfInBounds_toArray, List.set_cons_zero, List.set_cons_succ])
            refine WS.val (v := ?_) (by kernel_rfl) ?_ ?_
            rotate_left
            · go_simp
              (try with_reducible rfl)
            (try simp only [Act.put, List.setIfInBounds_toArray, List.set_cons_zero, List.set_cons_succ])
            refine WS.val (v := ?_) (by kernel_rfl) ?_ ?_
            rotate_left
            · go_simp
              (try with_reducible rfl)
            (try simp only [Act.put, List.setIfInBounds_toArray, List.set_cons_zero, List.set_cons_succ])
            refine WS.val (v := ?_) (by kernel_rfl) ?_ ?_
            rotate_left
            · go_simp
              (try with_reducible rfl)
            (try simp only [Act.put, List.setIfInBounds_toArray, List.set_cons_zero, List.set_cons_succ])
            refine WS.val (v := ?_) (by kernel_rfl) ?_ ?_
            rotate_left
            · go_simp
              (try with_reducible rfl)
            (try simp only [Act.put, List.setIfInBounds_toArray, List.set_cons_zero, List.set_cons_succ])
            refine WS.val (v := ?_) (by kernel_rfl) ?_ ?_
            rotate_left
            · go_simp
              (try with_reducible rfl)
            (try simp only [Act.put, List.setIfInBounds_toArray, List.set_cons_zero, List.set_cons_succ])
            refine WS.val (v := ?_) (by kernel_rfl) ?_ ?_
            rotate_left
            · go_simp
              (try with_reducible rfl)
            (try simp only [Act.put, List.setIfInBounds_toArray, List.set_cons_zero, List.set_cons_succ])
            refine WS.val (v := ?_) (by kernel_rfl) ?_ ?_
            rotate_left
            · go_simp
              (try with_reducible rfl)
            (try simp only [Act.put, List.setIfInBounds_toArray, List.set_cons_zero, List.set_cons_succ])
            refine WS.nil ?_
            go_wp2_with fail
            refine (HO.out _).mono ?_
            rintro e w1 ⟨rfl, rfl⟩
            go_wp2_with fail
            go_ret
            exact ⟨by first | rfl | (simp [v1]; done) | (simp [v1]; omega) | (simp only [decide_eq_false v1]; rfl), HP.out⟩
end Go.Proofs.YtmabhjifldafaaaDoor
