/- A disk: its size, whether it is down, armed; a step. -/
import Derived.Test.YtcohllhmfghlfaaDoorDk0
namespace Go.Proofs.YtcohllhmfghlfaaDoor
set_option linter.unusedVariables false
set_option linter.unusedSimpArgs false
open Go.RowKit

set_option maxRecDepth 100000 in
set_option maxHeartbeats 2000000 in
theorem size_any {w : World} {B d sb : Nat} {v : Value} {s : DS} (h : DK w B d sb v s) :
    Calls Tryd.prog 18 #[.pointer (some ⟨d, 0, none⟩)] w fun e w' => e = .returned (.int .i64 (s.n : Nat)) ∧ w = w' := by
  obtain ⟨c0, c1, c2, c3, fr⟩ := h.c0
  have hn := h.n0.2
  have n0 : (s.n : Int) ≤ 9223372036854775807 := by omega
  clear h hn
  go_enter Tryd.func18, Tryd.ntmps18
  go_wp2_with fail
  go_ret
  exact ⟨rfl, rfl⟩
set_option maxRecDepth 100000 in
set_option maxHeartbeats 2000000 in
theorem waits_any {w : World} {B d sb : Nat} {v : Value} {s : DS} (h : DK w B d sb v s) :
    Calls Tryd.prog 15 #[.pointer (some ⟨d, 0, none⟩)] w fun e w' => e = .returned (.int .i64 (s.nw : Nat)) ∧ w = w' := by
  obtain ⟨c0, c1, c2, c3, fr⟩ := h.c0
  have hnb := h.nb
  have n0 : (s.nw : Int) ≤ 9223372036854775807 := by omega
  obtain ⟨oa, cap, rfl, _⟩ := rws_cells h.wt (fun i _ => wtC_len _ _)
  clear h hnb
  go_enter Tryd.func15, Tryd.ntmps15
  go_wp2_with fail
  go_ret
  exact ⟨rfl, rfl⟩
set_option maxRecDepth 100000 in
set_option maxHeartbeats 2000000 in
theorem down_any {w : World} {B d sb : Nat} {v : Value} {s : DS} (h : DK w B d sb v s) :
    Calls Tryd.prog 13 #[.pointer (some ⟨d, 0, none⟩)] w fun e w' => e = .returned (.bool s.dn) ∧ w = w' := by
  obtain ⟨c0, c1, c2, c3, fr⟩ := h.c0
  generalize s.dn = dn at *
  clear h
  cases dn with
  | true =>
    go_enter Tryd.func13, Tryd.ntmps13
    go_wp2_with fail
    go_ret
    exact ⟨rfl, rfl⟩
  | false =>
    go_enter Tryd.func13, Tryd.ntmps13
    go_wp2_with fail
    go_ret
    exact ⟨rfl, rfl⟩
set_option maxRecDepth 100000 in
set_option maxHeartbeats 2000000 in
theorem has_any {w : World} {B d sb : Nat} {v : Value} {s : DS} (h : DK w B d sb v s) (x : Int) (hx : x ≤ 9223372036854775807) :
    Calls Tryd.prog 31 #[.pointer (some ⟨d, 0, none⟩), .int .i64 x] w fun e w' => e = .returned (.bool (decide (0 ≤ x ∧ x < (s.n : Int)))) ∧ w = w' := by
  have hsz := size_any h
  clear h
  by_cases h0 : x < 0
  · have h1 : decide (0 ≤ x ∧ x < (s.n : Int)) = false := decide_eq_false (by omega)
    have h2 : ¬ (0 : Int) ≤ x := by omega
    have h3 : decide ((0 : Int) ≤ x) = false := decide_eq_false h2
    rw [h1]
    clear h1
    go_enter Tryd.func31, Tryd.ntmps31
    go_wp2_with fail
    go_ret
    exact ⟨rfl, rfl⟩
  · have h2 : (0 : Int) ≤ x := by omega
    by_cases h4 : x < (s.n : Int)
    · have h1 : decide (0 ≤ x ∧ x < (s.n : Int)) = true := decide_eq_true ⟨h2, h4⟩
      rw [h1]
      clear h1 h0
      go_enter Tryd.func31, Tryd.ntmps31
      go_wp2_with fail
      refine hsz.mono ?_
      rintro e w' ⟨rfl, rfl⟩
      clear hsz
      go_wp2_with fail
      go_ret
      exact ⟨rfl, rfl⟩
    · have h1 : decide (0 ≤ x ∧ x < (s.n : Int)) = false := decide_eq_false (by omega)
      have h5 : decide (x < (s.n : Int)) = false := decide_eq_false h4
      rw [h1]
      clear h1 h0
      go_enter Tryd.func31, Tryd.ntmps31
      go_wp2_with fail
      refine hsz.mono ?_
      rintro e w' ⟨rfl, rfl⟩
      clear hsz
      go_wp2_with fail
      go_ret
      exact ⟨rfl, rfl⟩
set_option maxRecDepth 100000 in
set_option maxHeartbeats 2000000 in
theorem arm_any {w : World} {B d sb : Nat} {v : Value} {s : DS} (h : DK w B d sb v s) (k : Nat) (hk : k < 9223372036854775808) :
    Calls Tryd.prog 8 #[.pointer (some ⟨d, 0, none⟩), .int .i64 (k : Int)] w fun e w' => e = .returned .nilIface ∧ Dn w w' B d sb v v { s with ar := k } := by
  obtain ⟨c0, c1, c2, c3, fr⟩ := h.c0
  have k0 : ¬ (k : Int) < 0 := by omega
  have k1 : decide ((k : Int) < 0) = false := decide_eq_false k0
  have HD : Hid (Dn w (w.setCell ⟨d, 2, none⟩ (.int .i64 (k : Int))) B d sb v v { s with ar := k }) := Lib.hid (h.turn ((Own.refl _ _).set _ _) (Blk.set h.me 2 _) rfl rfl (.inl ⟨rfl, rfl, rfl, rfl⟩) hk)
  clear h hk
  go_enter Tryd.func8, Tryd.ntmps8
  go_wp2_with fail
  go_ret
  exact ⟨rfl, HD.out⟩
set_option maxRecDepth 100000 in
set_option maxHeartbeats 4000000 in
theorem step_any {w : World} {B d sb : Nat} {v : Value} {s : DS} (h : DK w B d sb v s) :
    Calls Tryd.prog 28 #[.pointer (some ⟨d, 0, none⟩)] w fun e w' => e = .returned (.bool (!(stepS s).dn)) ∧ Dn w w' B d sb v v (stepS s) := by
  obtain ⟨c0, c1, c2, c3, fr⟩ := h.c0
  have hab := h.ab
  by_cases h0 : s.ar = 0
  · have e : stepS s = s := by unfold stepS; cases s; simp_all
    rw [e]
    have HD := Lib.hid (Dn.refl h)
    rw [h0] at c2
    clear h h0 e hab
    generalize s.dn = dn at *
    go_enter Tryd.func28, Tryd.ntmps28
    go_wp2_with fail
    go_ret
    exact ⟨rfl, HD.out⟩
  · obtain ⟨a, ha⟩ : ∃ a, s.ar = a + 1 := ⟨s.ar - 1, by omega⟩
    obtain ⟨w1, hw1⟩ : ∃ x, w.setCell ⟨d, 2, none⟩ (.int .i64 (a : Int)) = x := ⟨_, rfl⟩
    have hO1 : Own d w w1 := by rw [← hw1]; exact (Own.refl _ _).set _ _
    have hm1 : Blk w1 d (dkC sb s.n s.c v a s.dn) 64 := by rw [← hw1]; exact Blk.set h.me 2 _
    have HD : Hid (∀ b : Bool, b = (s.dn || decide (a = 0)) → Dn w (w1.setCell ⟨d, 3, none⟩ (.bool b)) B d sb v v (stepS s)) := Lib.hid fun b hb => by
      refine h.turn (hO1.trans ((Own.refl _ _).set _ _)) ?_ rfl rfl (.inl ⟨rfl, rfl, rfl, rfl⟩) (by show s.ar - 1 < _; omega)
      have := Blk.set hm1 3 (.bool b)
      unfold stepS
      rw [ha, show (a + 1 - 1) = a by omega, show decide (a + 1 = 1) = decide (a = 0) by simp, ← hb]
      exact this
    have HS : Hid ((stepS s).dn = (s.dn || decide (a = 0))) := Lib.hid (by unfold stepS; rw [ha]; simp)
    have d2 : w1.cell? ⟨d, 2, none⟩ = some (.int .i64 (a : Int)) := by rw [Blk.cell hm1]; rfl
    have d3 : w1.cell? ⟨d, 3, none⟩ = some (.bool s.dn) := by rw [Blk.cell hm1]; rfl
    have f3 : w1.frozen? ⟨d, 3, none⟩ = false := Blk.free hm1 _
    have g3 : ∀ b : Bool, (w1.setCell ⟨d, 3, none⟩ (.bool b)).cell? ⟨d, 3, none⟩ = some (.bool b) := fun b => by rw [Blk.cell (Blk.set hm1 3 _)]; rfl
    rw [ha] at c2
    have a1 : IntKind.i64.wrap ((a : Int) + 1 - 1) = (a : Int) := by rw [IntWalk.i64_in _ (by omega)]; omega
    have a2 : (0 : Int) < ((a + 1 : Nat) : Int) := by omega
    have a3 : (0 : Int) < (a : Int) + 1 := by omega
    have a4 : IntKind.i64.wrap (a : Int) = (a : Int) := IntWalk.i64_in _ (by omega)
    rw [HS.out]
    have f2 := fr 2
    clear h h0 hab hO1 hm1 ha c0 c1 fr HS
    generalize s.dn = dn at *
    have hcs : (dn = true) ∨ (dn = false ∧ a = 0) ∨ (dn = false ∧ ¬ a = 0) := by cases dn <;> by_cases h : a = 0 <;> simp [h]
    rcases hcs with rfl | ⟨rfl, h5⟩ | ⟨rfl, h5⟩
    · have HD := Lib.hid (HD.out true (by simp))
      have e : (true || decide (a = 0)) = true := by simp
      rw [e]
      have g4 := g3 true
      clear g3 e
      go_enter Tryd.func28, Tryd.ntmps28
      go_wp2_with fail
      go_ret
      exact ⟨rfl, HD.out⟩
    · have e : (false || decide (a = 0)) = true := by simp [h5]
      have HD := Lib.hid (HD.out true e.symm)
      rw [e]
      have g4 := g3 true
      have h7 : decide ((a : Int) = 0) = true := decide_eq_true (by omega)
      have h8 : ((a : Int) == 0) = true := by simp [h5]
      clear g3 e h5
      go_enter Tryd.func28, Tryd.ntmps28
      go_wp2_with fail
      go_ret
      exact ⟨rfl, HD.out⟩
    · have e : (false || decide (a = 0)) = false := by simp [h5]
      have HD := Lib.hid (HD.out false e.symm)
      rw [e]
      have g4 := g3 false
      have h6 : ¬ (a : Int) = 0 := by omega
      have h7 : decide ((a : Int) = 0) = false := decide_eq_false h6
      have h8 : ((a : Int) == 0) = false := by simpa using h6
      clear g3 e h5
      go_enter Tryd.func28, Tryd.ntmps28
      go_wp2_with fail
      go_ret
      exact ⟨rfl, HD.out⟩
end Go.Proofs.YtcohllhmfghlfaaDoor
