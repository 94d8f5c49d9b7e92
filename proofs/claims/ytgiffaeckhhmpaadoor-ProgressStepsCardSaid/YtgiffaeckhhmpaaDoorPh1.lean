/- The document's: what stands against a part beside others. -/
import Derived.Test.YtgiffaeckhhmpaaDoorPg0
import Derived.Test.YtgiffaeckhhmpaaDoorSpA
import Derived.Test.YtgiffaeckhhmpaaDoorSj2
import Derived.Deep.DeepCutAuto
import Derived.StillTailTactics
namespace Go.Proofs.YtgiffaeckhhmpaaDoor
set_option linter.unusedVariables false
set_option linter.unusedSimpArgs false
open Go.RowKit
set_option maxRecDepth 100000 in
set_option maxHeartbeats 4000000 in
theorem rwrong_any (tb : Nat) (K : Int) (N gen n cs ix gn ln cp : Nat) (oa od : Option Addr) (S : Nat → Sh) (f : Nat → Nat) (w : World) (hS : Shs tb w oa n S) (hn : n < 100000000) (hix : ix < 256) :
    Calls Tryd.prog 30 #[.agg #[.int .i64 K, .int .i64 (N : Int), .int .u32 (gen : Int)], .slice oa n cs, .agg #[.int .u8 (ix : Int), .int .u32 (gn : Int), .slice od ln cp]] w fun e w' => e = .returned (.int .i64 (wrongN N gen S n ⟨ix, gn, ln, f⟩ : Nat)) ∧ Below w.heap.size w w' := by
  obtain ⟨w1, hw1⟩ : ∃ x, (w.alloc (.cells #[.int .i64 K, .int .i64 (N : Int), .int .u32 (gen : Int)] 51)).alloc (.cells #[.int .u8 (ix : Int), .int .u32 (gn : Int), .slice od ln cp] 55) = x := ⟨_, rfl⟩
  have hb1 : Below w.heap.size w w1 := by rw [← hw1]; exact ((Below.refl _ _).alloc (Nat.le_refl _) _).alloc (by simp) _
  have p1 : w1.cell? ⟨w.heap.size, 1, none⟩ = some (.int .i64 (N : Int)) := by rw [← hw1, cell_old (by simp), cell_new rfl]; rfl
  have p2 : w1.cell? ⟨w.heap.size, 2, none⟩ = some (.int .u32 (gen : Int)) := by rw [← hw1, cell_old (by simp), cell_new rfl]; rfl
  have s0 : w1.cell? ⟨w.heap.size + 1, 0, none⟩ = some (.int .u8 (ix : Int)) := by rw [← hw1, cell_new (by simp)]; rfl
  have s1 : w1.cell? ⟨w.heap.size + 1, 1, none⟩ = some (.int .u32 (gn : Int)) := by rw [← hw1, cell_new (by simp)]; rfl
  have s2 : w1.cell? ⟨w.heap.size + 1, 2, none⟩ = some (.slice od ln cp) := by rw [← hw1, cell_new (by simp)]; rfl
  have HS := Lib.hid (hS.later hb1)
  have H1 := Lib.hid hb1
  have HN := Lib.hid hn
  have HC := Lib.hid (show w1.cell? ⟨w.heap.size, 1, none⟩ = some (.int .i64 (N : Int)) ∧ w1.cell? ⟨w.heap.size + 1, 0, none⟩ = some (.int .u8 (ix : Int)) ∧ w1.cell? ⟨w.heap.size + 1, 2, none⟩ = some (.slice od ln cp) from ⟨p1, s0, s2⟩)
  have h255 : (0 : Int) ≤ (ix : Int) ∧ (ix : Int) < 256 := by omega
  clear hS hn hb1 hix
  by_cases hg : gn = gen
  rotate_left
  · have HW : Hid (wrongN N gen S n ⟨ix, gn, ln, f⟩ = 14) := Lib.hid (wrongN_gen hg)
    have g1 : ¬ (gn : Int) = (gen : Int) := by omega
    have g2 : decide ((gn : Int) = (gen : Int)) = false := decide_eq_false g1
    have g3 : ((gn : Int) == (gen : Int)) = false := by simp only [beq_eq_false_iff_ne]; exact g1
    have g4 : decide (gn = gen) = false := decide_eq_false (by omega)
    have g5 : (gn == gen) = false := by simp only [beq_eq_false_iff_ne]; omega
    have g6 : ¬ gn = gen := by omega
    clear hg
    go_enter Tryd.func30, Tryd.ntmps30
    go_wp2_with fail
    go_ret
    exact ⟨by rw [HW.out]; rfl, H1.out⟩
  subst hg
  go_enter Tryd.func30, Tryd.ntmps30
  go_wp2_with fail
  clear p1 p2 s0 s1 s2
  go_loopw [7] (fun x wr => ∃ i : Nat, i ≤ n ∧ x = .int .i64 (i : Int) ∧ (∀ t, t < i → (S t).ix ≠ ix) ∧ Below w1.heap.size w1 wr) (fun x _ => n - (intOf x).toNat)
  case atStart => exact ⟨0, Nat.zero_le _, rfl, fun t ht => absurd ht (Nat.not_lt_zero _), Below.refl _ _⟩
  case round =>
    obtain ⟨i, hi, rfl, hno, hbw⟩ := hrel
    have HBW := Lib.hid hbw
    have HNO := Lib.hid hno
    clear hbw hno
    by_cases hlt : i < n
    · as_aux_lemma =>
      have i1 : (i : Int) < (n : Int) := by omega
      have i0 : (0 : Int) ≤ (i : Int) := by omega
      have k4 : IntKind.i64.wrap ((i : Int) + 1) = ((i + 1 : Nat) : Int) := by have := HN.out; rw [IntWalk.i64_in _ (by omega)]; omega
      obtain ⟨b, off, od', cp', rfl, -, -, -, -, -, -, x0, -, -⟩ := (HS.out.later HBW.out).get i hlt
      have HI := Lib.hid (show i < n ∧ i + 1 ≤ n from ⟨hlt, hlt⟩)
      obtain ⟨iy, hiy⟩ : ∃ q, (S i).ix = q := ⟨_, rfl⟩
      have HIY := Lib.hid hiy
      rw [hiy] at x0
      have q0 : wr.drew.cell? ⟨b, off + i * 3, none⟩ = some (.int .u8 (iy : Int)) := x0
      have q1 : wr.drew.cell? ⟨w.heap.size + 1, 0, none⟩ = some (.int .u8 (ix : Int)) := cell_below HBW.out HC.out.2.1
      have HBD := Lib.hid (HBW.out.trans ((Below.refl wr.heap.size wr).drew.mono HBW.out.size))
      clear hlt hi x0 hiy
      by_cases he : iy = ix
      · subst he
        have HW : Hid (wrongN N gn S n ⟨iy, gn, ln, f⟩ = 12) := Lib.hid (wrongN_bad rfl (.inl (seenB_iff.2 ⟨i, HI.out.1, HIY.out⟩)))
        go_upto_region 6 with fail
        refine still_lit (by kernel_rfl) (by kernel_rfl) ?_
        generalize wr.drew = WR at *
        repeat still_step
        refine wpStill_nil ?_
        go_wp2_with fail
        go_ret
        exact ⟨by rw [HW.out]; rfl, H1.out.trans (HBD.out.mono H1.out.size)⟩
      · have HE := Lib.hid he
        have e1 : ¬ (iy : Int) = (ix : Int) := by omega
        have e2 : decide ((iy : Int) = (ix : Int)) = false := decide_eq_false e1
        have e3 : ((iy : Int) == (ix : Int)) = false := by simp only [beq_eq_false_iff_ne]; exact e1
        have e4 : decide (iy = ix) = false := decide_eq_false (by omega)
        have e5 : (iy == ix) = false := by simp only [beq_eq_false_iff_ne]; omega
        have e6 : ¬ iy = ix := by omega
        clear he
        go_upto_region 6 with fail
        refine still_lit (by kernel_rfl) (by kernel_rfl) ?_
        generalize wr.drew = WR at *
        repeat still_step
        refine wpStill_nil ?_
        go_wp2_with fail
        go_roundw
        case rel =>
          refine ⟨i + 1, HI.out.2, by first | rfl | go_num, fun t ht => ?_, HBD.out⟩
          by_cases e : t < i
          · exact HNO.out t e
          · rw [show t = i by omega, HIY.out]; exact HE.out
        case measure => have := HI.out; simp [intOf]; omega
    · obtain rfl : i = n := by omega
      have i1 : ¬ (i : Int) < (i : Int) := by omega
      have hsn : seenB (fun q => (S q).ix) i ix = false := by
        cases e : seenB (fun q => (S q).ix) i ix
        · rfl
        · obtain ⟨t, ht, h9⟩ := seenB_iff.1 e
          exact absurd h9 (HNO.out t ht)
      have HSN := Lib.hid hsn
      obtain ⟨q1, q0, q2⟩ := HC.out
      replace q1 := cell_below HBW.out q1
      replace q0 := cell_below HBW.out q0
      replace q2 := cell_below HBW.out q2
      have HB := Lib.hid (H1.out.trans (HBW.out.mono H1.out.size))
      clear hlt hi hsn HC
      by_cases h0 : ix = 0
      · have HW : Hid (wrongN N gn S i ⟨ix, gn, ln, f⟩ = 12) := Lib.hid (wrongN_bad rfl (.inr (.inl h0)))
        have g1 : (ix : Int) < (1 : Int) := by omega
        have g2 : decide ((ix : Int) < (1 : Int)) = true := decide_eq_true g1
        have g7 : ix < 1 := by omega
        have g8 : decide (ix < 1) = true := decide_eq_true g7
        have g5 : ix < 1 := by omega
        have g6 : decide (ix < 1) = true := decide_eq_true g5
        clear h0
        go_wp2_with fail
        go_ret
        exact ⟨by rw [HW.out]; rfl, HB.out⟩
      have g1 : ¬ (ix : Int) < (1 : Int) := by omega
      have g2 : decide ((ix : Int) < (1 : Int)) = false := decide_eq_false g1
      have g7 : ¬ ix < 1 := by omega
      have g8 : decide (ix < 1) = false := decide_eq_false g7
      have g5 : ¬ ix < 1 := by omega
      have g6 : decide (ix < 1) = false := decide_eq_false g5
      by_cases h1 : N < ix
      · have HW : Hid (wrongN N gn S i ⟨ix, gn, ln, f⟩ = 12) := Lib.hid (wrongN_bad rfl (.inr (.inr (.inl h1))))
        have k1 : (N : Int) < (ix : Int) := by omega
        have k2 : decide ((N : Int) < (ix : Int)) = true := decide_eq_true k1
        have k7 : N < ix := by omega
        have k8 : decide (N < ix) = true := decide_eq_true k7
        clear h1 h0
        go_wp2_with fail
        go_ret
        exact ⟨by rw [HW.out]; rfl, HB.out⟩
      have k1 : ¬ (N : Int) < (ix : Int) := by omega
      have k2 : decide ((N : Int) < (ix : Int)) = false := decide_eq_false k1
      have k7 : ¬ N < ix := by omega
      have k8 : decide (N < ix) = false := decide_eq_false k7
      by_cases h2 : ln = 32
      · have HW : Hid (wrongN N gn S i ⟨ix, gn, ln, f⟩ = 0) := Lib.hid (wrongN_ok rfl HSN.out h0 (by show ix ≤ N; omega) h2)
        have l1 : (ln : Int) = 32 := by omega
        have l2 : decide ((ln : Int) = 32) = true := decide_eq_true l1
        have l3 : ((ln : Int) == 32) = true := by simp only [beq_iff_eq]; exact l1
        have l4 : decide (ln = 32) = true := decide_eq_true (by omega)
        have l5 : (ln == 32) = true := by simp only [beq_iff_eq]; omega
        clear h1 h0 h2
        go_wp2_with fail
        go_ret
        exact ⟨by rw [HW.out]; rfl, HB.out⟩
      · have HW : Hid (wrongN N gn S i ⟨ix, gn, ln, f⟩ = 12) := Lib.hid (wrongN_bad rfl (.inr (.inr (.inr h2))))
        have l1 : ¬ (ln : Int) = 32 := by omega
        have l2 : decide ((ln : Int) = 32) = false := decide_eq_false l1
        have l3 : ((ln : Int) == 32) = false := by simp only [beq_eq_false_iff_ne]; exact l1
        have l4 : decide (ln = 32) = false := decide_eq_false (by omega)
        have l5 : (ln == 32) = false := by simp only [beq_eq_false_iff_ne]; omega
        have l6 : ¬ ln = 32 := by omega
        clear h1 h0 h2
        go_wp2_with fail
        go_ret
        exact ⟨by rw [HW.out]; rfl, HB.out⟩
end Go.Proofs.YtgiffaeckhhmpaaDoor
