/- progress.fits: what stands against a part beside others. -/
import Derived.Test.YtgiffaeckhhmpaaDoorPg0
import Derived.Test.YtgiffaeckhhmpaaDoorSj2
import Derived.Test.YtgiffaeckhhmpaaDoorSpA
namespace Go.Proofs.YtgiffaeckhhmpaaDoor
set_option linter.unusedVariables false
set_option linter.unusedSimpArgs false
open Go.RowKit
/-- An error by its number. -/
def EV (k : Nat) : Value := if k = 0 then .nilIface else .iface 83 (.int .i64 (k : Int))
/-- A part's cells. -/
def shL (ix gn ln cp : Nat) (od : Option Addr) : Array Value := #[.int .u8 (ix : Int), .int .u32 (gn : Int), .slice od ln cp]

set_option maxRecDepth 100000 in
set_option maxHeartbeats 4000000 in
/-- The closure: has it that place? -/
theorem clo_any (ix gn ln cp y sb : Nat) (od : Option Addr) (w : World) (hb : w.cell? ⟨sb, 0, none⟩ = some (.int .u8 (y : Int))) :
    Calls Tryd.prog 37 #[.agg #[.int .u8 (ix : Int), .int .u32 (gn : Int), .slice od ln cp], .pointer (some ⟨sb, 0, none⟩)] w fun e w' => e = .returned (.bool (decide (ix = y))) ∧ Below w.heap.size w w' := by
  obtain ⟨w1, hw1⟩ : ∃ x, w.alloc (.cells #[.int .u8 (ix : Int), .int .u32 (gn : Int), .slice od ln cp] 42) = x := ⟨_, rfl⟩
  have hb1 : Below w.heap.size w w1 := by rw [← hw1]; exact (Below.refl _ _).alloc (Nat.le_refl _) _
  have hK : Blk w1 w.heap.size #[.int .u8 (ix : Int), .int .u32 (gn : Int), .slice od ln cp] 42 := by rw [← hw1]; exact Blk.new _ _ _
  have c1 : w1.cell? ⟨sb, 0, none⟩ = some (.int .u8 (y : Int)) := cell_below hb1 hb
  have cg : w1.cell? ⟨w.heap.size, 0, none⟩ = some (.int .u8 (ix : Int)) := by rw [Blk.cell hK]; rfl
  have H1 := Lib.hid hb1
  clear hb hb1 hK
  by_cases he : ix = y
  · subst he
    go_enter Tryd.func37, Tryd.ntmps37
    go_wp2_with fail
    go_ret
    exact ⟨by first | rfl | simp | go_simp, H1.out⟩
  · have HE := Lib.hid he
    have e1 : ¬ (ix : Int) = (y : Int) := by omega
    have e2 : decide ((ix : Int) = (y : Int)) = false := decide_eq_false e1
    have e3 : ((ix : Int) == (y : Int)) = false := by simp only [beq_eq_false_iff_ne]; exact e1
    have e4 : decide (ix = y) = false := decide_eq_false (by omega)
    have e5 : (ix == y) = false := by simp only [beq_eq_false_iff_ne]; omega
    have e6 : ¬ ix = y := by omega
    clear he
    go_enter Tryd.func37, Tryd.ntmps37
    go_wp2_with fail
    go_ret
    exact ⟨by rw [decide_eq_false HE.out]; rfl, H1.out⟩
/-- Found, or not. -/
def FoundI (S : Nat → Sh) (n y : Nat) (x : Int) : Prop := (∃ p : Nat, x = (p : Int) ∧ seenB (fun q => (S q).ix) n y = true) ∨ (x = -1 ∧ seenB (fun q => (S q).ix) n y = false)
set_option maxRecDepth 100000 in
set_option maxHeartbeats 4000000 in
theorem index_any (tb : Nat) (oa : Option Addr) (n cap sb y : Nat) (S : Nat → Sh) (w : World) (hS : Shs tb w oa n S) (hn : n < 100000000) (hb : w.cell? ⟨sb, 0, none⟩ = some (.int .u8 (y : Int))) :
    Calls Tryd.prog 48 #[.slice oa n cap, .func (.func 37) #[] #[.pointer (some ⟨sb, 0, none⟩)]] w fun e w' => ∃ x, e = .returned (.int .i64 x) ∧ FoundI S n y x ∧ Below w.heap.size w w' := by
  have HR := Lib.hid hS
  have HB := Lib.hid hb
  have n0 : (n : Int) ≤ 9223372036854775807 := by omega
  have HN := Lib.hid hn
  clear hS hb hn
  go_enter Tryd.func48, Tryd.ntmps48
  go_wp2_with fail
  go_loopw [5, 8] (fun y' x wr => ∃ j : Nat, j ≤ n ∧ x = .int .i64 (j : Int) ∧ (∀ t, t < j → (S t).ix ≠ y) ∧ Below w.heap.size w wr) (fun y' x _ => n - (intOf x).toNat)
  case atStart => exact ⟨0, Nat.zero_le _, rfl, fun t ht => absurd ht (Nat.not_lt_zero _), Below.refl _ _⟩
  case round =>
    obtain ⟨j, hj, rfl, hno, hbw⟩ := hrel
    have HBW := Lib.hid hbw
    have HNO := Lib.hid hno
    clear hbw hno
    by_cases hlt : j < n
    · as_aux_lemma =>
      have i1 : (j : Int) < (n : Int) := by omega
      have i0 : (0 : Int) ≤ (j : Int) := by omega
      have k4 : IntKind.i64.wrap ((j : Int) + 1) = ((j + 1 : Nat) : Int) := by have := HN.out; rw [IntWalk.i64_in _ (by omega)]; omega
      obtain ⟨b, off, od, cp, rfl, -, -, -, -, -, -, x0, x1, x2⟩ := (HR.out.later HBW.out).get j hlt
      have HRG := Lib.hid (range3 x0 x1 x2)
      have HDL := Lib.hid (clo_any (S j).ix (S j).gen (S j).len cp y sb od wr (cell_below HBW.out HB.out))
      have HI := Lib.hid (show j < n ∧ j + 1 ≤ n from ⟨hlt, hlt⟩)
      have HII : Hid (∀ p, p = (S j).ix → p = (S j).ix) := Lib.hid fun _ h => h
      obtain ⟨ix, hix⟩ : ∃ q, (S j).ix = q := ⟨_, rfl⟩
      have HIX := Lib.hid hix
      rw [hix] at HRG HDL
      generalize (S j).gen = gn at *
      generalize (S j).len = ln at *
      clear hlt hj x0 x1 x2 hix
      go_wp2_with (first
        | (refine wpList_value rfl (exec_loadM (x := .tmp 14) (cs := [.int .u8 (ix : Int), .int .u32 (gn : Int), .slice od ln cp]) rfl rfl HRG.out Tryd.underlying42 rfl info_share3) ?_))
      refine HDL.out.mono ?_
      rintro e w2 ⟨rfl, hb2⟩
      have HB2 := Lib.hid (HBW.out.trans (hb2.mono HBW.out.size))
      clear HDL hb2
      by_cases he : ix = y
      · rw [decide_eq_true he]
        have HE := Lib.hid he
        clear he
        go_wp2_with fail
        go_ret
        exact ⟨_, rfl, .inl ⟨j, rfl, seenB_iff.2 ⟨j, HI.out.1, by show (S j).ix = y; rw [HIX.out, HE.out]⟩⟩, HB2.out⟩
      · rw [decide_eq_false he]
        have HE := Lib.hid he
        clear he
        go_wp2_with fail
        go_roundw
        case rel =>
          refine ⟨j + 1, HI.out.2, by first | rfl | go_num, fun t ht => ?_, HB2.out⟩
          by_cases e : t < j
          · exact HNO.out t e
          · rw [show t = j by omega, HIX.out]; exact HE.out
        case measure => have := HI.out; simp [intOf]; omega
    · obtain rfl : j = n := by omega
      have i1 : ¬ (j : Int) < (j : Int) := by omega
      clear hlt hj
      go_wp2_with fail
      go_ret
      refine ⟨_, rfl, .inr ⟨rfl, ?_⟩, HBW.out⟩
      cases e : seenB (fun q => (S q).ix) j y
      · rfl
      · obtain ⟨t, ht, h9⟩ := seenB_iff.1 e
        exact absurd h9 (HNO.out t ht)
set_option maxRecDepth 100000 in
set_option maxHeartbeats 4000000 in
theorem contains_any (tb : Nat) (oa : Option Addr) (n cap sb y : Nat) (S : Nat → Sh) (w : World) (hS : Shs tb w oa n S) (hn : n < 100000000) (hb : w.cell? ⟨sb, 0, none⟩ = some (.int .u8 (y : Int))) :
    Calls Tryd.prog 36 #[.slice oa n cap, .func (.func 37) #[] #[.pointer (some ⟨sb, 0, none⟩)]] w fun e w' => e = .returned (.bool (seenB (fun q => (S q).ix) n y)) ∧ Below w.heap.size w w' := by
  have HI := Lib.hid (index_any tb oa n cap sb y S w hS hn hb)
  clear hS hb hn
  go_enter Tryd.func36, Tryd.ntmps36
  go_wp2_with fail
  refine HI.out.mono ?_
  rintro e w1 ⟨x, rfl, (⟨p, rfl, hs⟩ | ⟨rfl, hs⟩), hb1⟩
  · have h1 : (0 : Int) ≤ (p : Int) := by omega
    have HS := Lib.hid hs
    have HB := Lib.hid hb1
    clear hs hb1
    go_wp2_with fail
    go_ret
    exact ⟨by rw [HS.out]; rfl, HB.out⟩
  · have HS := Lib.hid hs
    have HB := Lib.hid hb1
    clear hs hb1
    go_wp2_with fail
    go_ret
    exact ⟨by rw [HS.out]; rfl, HB.out⟩
set_option maxRecDepth 100000 in
set_option maxHeartbeats 4000000 in
theorem fits_any (tb : Nat) (K : Int) (N gen n cs ix gn ln cp : Nat) (oa od : Option Addr) (S : Nat → Sh) (f : Nat → Nat) (w : World) (hS : Shs tb w oa n S) (hn : n < 100000000) (hix : ix < 256) :
    Calls Tryd.prog 24 #[.agg #[.int .i64 K, .int .i64 (N : Int), .int .u32 (gen : Int)], .slice oa n cs, .agg #[.int .u8 (ix : Int), .int .u32 (gn : Int), .slice od ln cp]] w fun e w' => e = .returned (EV (wrongN N gen S n ⟨ix, gn, ln, f⟩)) ∧ Below w.heap.size w w' := by
  obtain ⟨w1, hw1⟩ : ∃ x, (w.alloc (.cells #[.int .i64 K, .int .i64 (N : Int), .int .u32 (gen : Int)] 26)).alloc (.cells #[.int .u8 (ix : Int), .int .u32 (gn : Int), .slice od ln cp] 42) = x := ⟨_, rfl⟩
  have hb1 : Below w.heap.size w w1 := by rw [← hw1]; exact ((Below.refl _ _).alloc (Nat.le_refl _) _).alloc (by simp) _
  have p1 : w1.cell? ⟨w.heap.size, 1, none⟩ = some (.int .i64 (N : Int)) := by rw [← hw1, cell_old (by simp), cell_new rfl]; rfl
  have p2 : w1.cell? ⟨w.heap.size, 2, none⟩ = some (.int .u32 (gen : Int)) := by rw [← hw1, cell_old (by simp), cell_new rfl]; rfl
  have s0 : w1.cell? ⟨w.heap.size + 1, 0, none⟩ = some (.int .u8 (ix : Int)) := by rw [← hw1, cell_new (by simp)]; rfl
  have s1 : w1.cell? ⟨w.heap.size + 1, 1, none⟩ = some (.int .u32 (gn : Int)) := by rw [← hw1, cell_new (by simp)]; rfl
  have s2 : w1.cell? ⟨w.heap.size + 1, 2, none⟩ = some (.slice od ln cp) := by rw [← hw1, cell_new (by simp)]; rfl
  have HCT := Lib.hid (contains_any tb oa n cs (w.heap.size + 1) ix S w1 (hS.later hb1) hn s0)
  have H1 := Lib.hid hb1
  have HC := Lib.hid (show w1.cell? ⟨w.heap.size, 1, none⟩ = some (.int .i64 (N : Int)) ∧ w1.cell? ⟨w.heap.size + 1, 0, none⟩ = some (.int .u8 (ix : Int)) ∧ w1.cell? ⟨w.heap.size + 1, 2, none⟩ = some (.slice od ln cp) from ⟨p1, s0, s2⟩)
  have h255 : (0 : Int) ≤ (ix : Int) ∧ (ix : Int) < 256 := by omega
  clear hS hn hb1 hix
  by_cases hg : gn = gen
  rotate_left
  · have HW : Hid (wrongN N gen S n ⟨ix, gn, ln, f⟩ = 14) := Lib.hid (wrongN_gen hg)
    have HB := H1
    have g1 : ¬ (gn : Int) = (gen : Int) := by omega
    have g2 : decide ((gn : Int) = (gen : Int)) = false := decide_eq_false g1
    have g3 : ((gn : Int) == (gen : Int)) = false := by simp only [beq_eq_false_iff_ne]; exact g1
    have g4 : decide (gn = gen) = false := decide_eq_false (by omega)
    have g5 : (gn == gen) = false := by simp only [beq_eq_false_iff_ne]; omega
    have g6 : ¬ gn = gen := by omega
    clear hg
    go_enter Tryd.func24, Tryd.ntmps24
    go_wp2_with fail
    go_ret
    exact ⟨by rw [HW.out]; rfl, HB.out⟩
  · subst hg
    go_enter Tryd.func24, Tryd.ntmps24
    go_wp2_with fail
    refine HCT.out.mono ?_
    rintro e w2 ⟨rfl, hb2⟩
    obtain ⟨q1, q0, q2⟩ := HC.out
    replace q1 := cell_below hb2 q1
    replace q0 := cell_below hb2 q0
    replace q2 := cell_below hb2 q2
    have HB := Lib.hid (H1.out.trans (hb2.mono H1.out.size))
    clear hb2 p1 p2 s0 s1 s2 HC H1 HCT
    by_cases h0 : ix = 0
    · have HW : Hid (wrongN N gn S n ⟨ix, gn, ln, f⟩ = 12) := Lib.hid (wrongN_bad rfl (.inr (.inl h0)))
      have g1 : (ix : Int) = 0 := by omega
      have g2 : decide ((ix : Int) = 0) = true := decide_eq_true g1
      have g3 : ((ix : Int) == 0) = true := by simp only [beq_iff_eq]; exact g1
      have g4 : decide (ix = 0) = true := decide_eq_true (by omega)
      have g5 : (ix == 0) = true := by simp only [beq_iff_eq]; omega
      clear h0
      go_wp2_with fail
      go_ret
      exact ⟨by rw [HW.out]; rfl, HB.out⟩
    have g1 : ¬ (ix : Int) = 0 := by omega
    have g2 : decide ((ix : Int) = 0) = false := decide_eq_false g1
    have g3 : ((ix : Int) == 0) = false := by simp only [beq_eq_false_iff_ne]; exact g1
    have g4 : decide (ix = 0) = false := decide_eq_false (by omega)
    have g5 : (ix == 0) = false := by simp only [beq_eq_false_iff_ne]; omega
    have g6 : ¬ ix = 0 := by omega
    by_cases h1 : N < ix
    · have HW : Hid (wrongN N gn S n ⟨ix, gn, ln, f⟩ = 12) := Lib.hid (wrongN_bad rfl (.inr (.inr (.inl h1))))
      have k1 : (N : Int) < (ix : Int) := by omega
      have k2 : decide ((N : Int) < (ix : Int)) = true := decide_eq_true k1
      have k7 : N < ix := by omega
      have k8 : decide (N < ix) = true := decide_eq_true k7
      clear h1 h0
      go_wp2_with fail
      go_ret
      exact ⟨by rw [HW.out]; rfl, HB.out⟩
    have k1 : ¬ (N : Int) < (ix : Int) := by omega
    have k2 : decide ((N : Int) < (ix : Int)) = false := decide_eq_false k1
    have k7 : ¬ N < ix := by omega
    have k8 : decide (N < ix) = false := decide_eq_false k7
    obtain ⟨sn, hsn⟩ : ∃ q, seenB (fun q => (S q).ix) n ix = q := ⟨_, rfl⟩
    rw [hsn]
    cases sn with
    | true =>
      have HW : Hid (wrongN N gn S n ⟨ix, gn, ln, f⟩ = 12) := Lib.hid (wrongN_bad rfl (.inl hsn))
      clear h1 h0 hsn
      go_wp2_with fail
      go_ret
      exact ⟨by rw [HW.out]; rfl, HB.out⟩
    | false =>
      by_cases h2 : ln = 32
      · have HW : Hid (wrongN N gn S n ⟨ix, gn, ln, f⟩ = 0) := Lib.hid (wrongN_ok rfl hsn h0 (by show ix ≤ N; omega) h2)
        have l1 : (ln : Int) = 32 := by omega
        have l2 : decide ((ln : Int) = 32) = true := decide_eq_true l1
        have l3 : ((ln : Int) == 32) = true := by simp only [beq_iff_eq]; exact l1
        have l4 : decide (ln = 32) = true := decide_eq_true (by omega)
        have l5 : (ln == 32) = true := by simp only [beq_iff_eq]; omega
        clear h1 h0 hsn h2
        go_wp2_with fail
        go_ret
        exact ⟨by rw [HW.out]; rfl, HB.out⟩
      · have HW : Hid (wrongN N gn S n ⟨ix, gn, ln, f⟩ = 12) := Lib.hid (wrongN_bad rfl (.inr (.inr (.inr h2))))
        have l1 : ¬ (ln : Int) = 32 := by omega
        have l2 : decide ((ln : Int) = 32) = false := decide_eq_false l1
        have l3 : ((ln : Int) == 32) = false := by simp only [beq_eq_false_iff_ne]; exact l1
        have l4 : decide (ln = 32) = false := decide_eq_false (by omega)
        have l5 : (ln == 32) = false := by simp only [beq_eq_false_iff_ne]; omega
        have l6 : ¬ ln = 32 := by omega
        clear h1 h0 hsn h2
        go_wp2_with fail
        go_ret
        exact ⟨by rw [HW.out]; rfl, HB.out⟩
end Go.Proofs.YtgiffaeckhhmpaaDoor
