/- What may not be split: shamir.Split's refusal, the draws' number, and the document's own. -/
import Derived.Test.YtmhofofidmbgfaaDoorGs
namespace Go.Proofs.YtmhofofidmbgfaaDoor
set_option linter.unusedVariables false
set_option linter.unusedSimpArgs false
open Go.RowKit

set_option maxHeartbeats 400000 in
theorem draws_zero (K N g : Int) (L : Nat) (w : World) (h : ¬ (MayP K N ∧ 1 ≤ L ∧ L ≤ 64)) :
    Calls Tryd.prog 17 #[.agg #[.int .i64 K, .int .i64 N, .int .u32 g], .int .i64 (L : Int)] w fun e w' => e = .returned (.int .i64 0) ∧ Below w.heap.size w w' := by
  by_cases hm : MayP K N
  · have HC := Lib.hid (fun w => check_yes K N g w hm)
    have HF := Lib.hid (fun w => fits_no L w (fun h2 => h ⟨hm, h2⟩))
    clear h hm
    go_enter Tryd.func17, Tryd.ntmps17
    go_wp2_with fail
    refine (HC.out _).mono ?_
    rintro e w1 ⟨rfl, hb⟩
    have HB1 : Hid (Below w.heap.size w w1) := Lib.hid (((Below.refl _ _).alloc (Nat.le_refl _) _).trans (hb.mono (by simp)))
    clear hb
    go_wp2_with fail
    refine (HF.out _).mono ?_
    rintro e w2 ⟨rfl, rfl⟩
    go_wp2_with fail
    go_ret
    exact ⟨rfl, HB1.out⟩
  · have HC := Lib.hid (fun w => check_no K N g w hm)
    clear h hm
    go_enter Tryd.func17, Tryd.ntmps17
    go_wp2_with fail
    refine (HC.out _).mono ?_
    rintro e w1 ⟨rfl, hb⟩
    have HB1 : Hid (Below w.heap.size w w1) := Lib.hid (((Below.refl _ _).alloc (Nat.le_refl _) _).trans (hb.mono (by simp)))
    clear hb
    go_wp2_with fail
    go_ret
    exact ⟨rfl, HB1.out⟩
set_option maxHeartbeats 400000 in
theorem rdraws_any (K N k L M : Nat) (g : Int) (w : World) (hK : K = k + 1) (h2 : 2 ≤ K) (hKN : K ≤ N) (hN : N ≤ 255) (h1 : 1 ≤ L) (hL : L ≤ 64) (hM : M = L * k) :
    Calls Tryd.prog 18 #[.agg #[.int .i64 (K : Int), .int .i64 (N : Int), .int .u32 g], .int .i64 (L : Int)] w fun e w' => e = .returned (.int .i64 (M : Int)) ∧ Below w.heap.size w w' := by
  have HC := Lib.hid (fun w => may_yes (K : Int) (N : Int) g w ⟨by omega, by omega, by omega⟩)
  have hKk : (K : Int) - 1 = (k : Int) := by omega
  have hMi : (k : Int) * (L : Int) = (M : Int) := by rw [hM, Nat.mul_comm]; exact (Int.natCast_mul k L).symm
  have hMb : M ≤ 64 * 254 := by rw [hM]; exact Nat.mul_le_mul hL (by omega)
  have hMw : IntKind.i64.wrap ((k : Int) * (L : Int)) = (M : Int) := by rw [hMi]; exact IntWalk.i64_in _ (by omega)
  have hM2 : (M : Int) ≤ 20000 := by omega
  have hb1 : (1 : Int) ≤ (K : Int) ∧ (K : Int) ≤ 255 := by omega
  have e1 : ¬ L < 1 := by omega
  have e2 : ¬ 64 < L := by omega
  have e3 : decide ((L : Int) < 1) = false := decide_eq_false (by omega)
  have e4 : decide (64 < (L : Int)) = false := decide_eq_false (by omega)
  clear hM hK h2 hKN hN h1 hL hMb
  go_enter Tryd.func18, Tryd.ntmps18
  go_wp2_with fail
  refine (HC.out _).mono ?_
  rintro e w1 ⟨rfl, hb⟩
  have hc0 : w1.cell? ⟨w.heap.size, 0, none⟩ = some (.int .i64 (K : Int)) := cell_below hb (World.cell?_alloc_mark _ _ _ _ _)
  have HB1 : Hid (Below w.heap.size w w1) := Lib.hid (((Below.refl _ _).alloc (Nat.le_refl _) _).trans (hb.mono (by simp)))
  clear hb
  go_wp2_with fail
  go_ret
  exact ⟨rfl, HB1.out⟩
set_option maxHeartbeats 400000 in
theorem rdraws_zero (K N g : Int) (L : Nat) (w : World) (h : ¬ (MayP K N ∧ 1 ≤ L ∧ L ≤ 64)) :
    Calls Tryd.prog 18 #[.agg #[.int .i64 K, .int .i64 N, .int .u32 g], .int .i64 (L : Int)] w fun e w' => e = .returned (.int .i64 0) ∧ Below w.heap.size w w' := by
  by_cases hm : MayP K N
  · have HC := Lib.hid (fun w => may_yes K N g w hm)
    have hL : L < 1 ∨ 64 < L := by
      rcases Nat.lt_or_ge L 1 with h1 | h1
      · exact .inl h1
      · rcases Nat.lt_or_ge 64 L with h2 | h2
        · exact .inr h2
        · exact absurd ⟨hm, h1, h2⟩ h
    clear h hm
    rcases hL with hL | hL
    · have e3 : (L : Int) < 1 := by omega
      go_enter Tryd.func18, Tryd.ntmps18
      go_wp2_with fail
      refine (HC.out _).mono ?_
      rintro e w1 ⟨rfl, hb⟩
      have HB1 : Hid (Below w.heap.size w w1) := Lib.hid (((Below.refl _ _).alloc (Nat.le_refl _) _).trans (hb.mono (by simp)))
      clear hb
      go_wp2_with fail
      go_ret
      exact ⟨rfl, HB1.out⟩
    · have e1 : ¬ L < 1 := by omega
      have e3 : decide ((L : Int) < 1) = false := decide_eq_false (by omega)
      have e4 : 64 < (L : Int) := by omega
      go_enter Tryd.func18, Tryd.ntmps18
      go_wp2_with fail
      refine (HC.out _).mono ?_
      rintro e w1 ⟨rfl, hb⟩
      have HB1 : Hid (Below w.heap.size w w1) := Lib.hid (((Below.refl _ _).alloc (Nat.le_refl _) _).trans (hb.mono (by simp)))
      clear hb
      go_wp2_with fail
      go_ret
      exact ⟨rfl, HB1.out⟩
  · have HC := Lib.hid (fun w => may_no K N g w hm)
    clear h hm
    go_enter Tryd.func18, Tryd.ntmps18
    go_wp2_with fail
    refine (HC.out _).mono ?_
    rintro e w1 ⟨rfl, hb⟩
    have HB1 : Hid (Below w.heap.size w w1) := Lib.hid (((Below.refl _ _).alloc (Nat.le_refl _) _).trans (hb.mono (by simp)))
    clear hb
    go_wp2_with fail
    go_ret
    exact ⟨rfl, HB1.out⟩
/-- What may not be split: a plan that may not be, a length that does not fit, draws of another number. -/
def NoSplit (K N : Int) (L M : Nat) : Prop := ¬ (MayP K N ∧ 1 ≤ L ∧ L ≤ 64) ∨ ∃ k Kn Nn : Nat, K = (Kn : Int) ∧ N = (Nn : Int) ∧ Kn = k + 1 ∧ 2 ≤ Kn ∧ Kn ≤ Nn ∧ Nn ≤ 255 ∧ 1 ≤ L ∧ L ≤ 64 ∧ M ≠ L * k
set_option maxHeartbeats 800000 in
theorem split_bad (tp os od : Option Addr) (L cs M cd : Nat) (K N gen : Int) (w : World) (h : tp = none ∨ NoSplit K N L M) (hM : M ≤ 100000) :
    Calls Tryd.prog 12 #[.pointer tp, .slice os L cs, .agg #[.int .i64 K, .int .i64 N, .int .u32 gen], .slice od M cd] w fun e w' => e = .returned (.tuple #[.slice none 0 0, .iface 81 (.int .i64 1)]) ∧ Below w.heap.size w w' := by
  cases tp with
  | none =>
    clear h
    go_enter Tryd.func12, Tryd.ntmps12
    go_wp2_with fail
    go_ret2
    exact ⟨rfl, (Below.refl _ _).alloc (Nat.le_refl _) _⟩
  | some a =>
    replace h := h.resolve_left (by simp)
    by_cases hm : MayP K N
    · have HC := Lib.hid (fun w => check_yes K N gen w hm)
      rcases h with h | ⟨k, Kn, Nn, rfl, rfl, h0, h1, h2, h3, h4, h5, h6⟩
      · have HF := Lib.hid (fun w => fits_no L w (fun h2 => h ⟨hm, h2⟩))
        clear h hm
        go_enter Tryd.func12, Tryd.ntmps12
        go_wp2_with fail
        refine (HC.out _).mono ?_
        rintro e w1 ⟨rfl, hb⟩
        have HB1 : Hid (Below w.heap.size w w1) := Lib.hid (((Below.refl _ _).alloc (Nat.le_refl _) _).trans (hb.mono (by simp)))
        clear hb
        go_wp2_with fail
        refine (HF.out _).mono ?_
        rintro e w2 ⟨rfl, rfl⟩
        go_wp2_with fail
        go_ret2
        exact ⟨rfl, HB1.out⟩
      · have HF := Lib.hid (fun w => fits_yes L w h4 h5)
        have HD := Lib.hid (fun w => draws_any Kn Nn k L (L * k) gen w h0 h1 h2 h3 h4 h5 rfl)
        obtain ⟨M2, hM2⟩ : ∃ x, L * k = x := ⟨_, rfl⟩
        rw [hM2] at HD h6
        have e1 : ((M : Int) != (M2 : Int)) = true := by rw [bne_iff_ne]; omega
        clear hm h0 h1 h2 h3 h4 h5 hM2
        go_enter Tryd.func12, Tryd.ntmps12
        go_wp2_with fail
        refine (HC.out _).mono ?_
        rintro e w1 ⟨rfl, hb⟩
        have HB1 : Hid (Below w.heap.size w w1) := Lib.hid (((Below.refl _ _).alloc (Nat.le_refl _) _).trans (hb.mono (by simp)))
        have c0 : w1.cell? ⟨w.heap.size, 0, none⟩ = some (.int .i64 (Kn : Int)) := cell_below hb (World.cell?_alloc_mark _ _ _ _ _)
        have c1 : w1.cell? ⟨w.heap.size, 1, none⟩ = some (.int .i64 (Nn : Int)) := cell_below hb (World.cell?_alloc_mark _ _ _ _ _)
        have c2 : w1.cell? ⟨w.heap.size, 2, none⟩ = some (.int .u32 gen) := cell_below hb (World.cell?_alloc_mark _ _ _ _ _)
        clear hb
        go_wp2_with fail
        refine (HF.out _).mono ?_
        rintro e w2 ⟨rfl, rfl⟩
        go_wp2_with fail
        refine (HD.out _).mono ?_
        rintro e w2 ⟨rfl, hb⟩
        have HB2 := Lib.hid (HB1.out.trans (hb.mono HB1.out.size))
        clear hb c0 c1 c2
        go_wp2_with fail
        go_ret2
        exact ⟨rfl, HB2.out⟩
    · have HC := Lib.hid (fun w => check_no K N gen w hm)
      clear h hm
      go_enter Tryd.func12, Tryd.ntmps12
      go_wp2_with fail
      refine (HC.out _).mono ?_
      rintro e w1 ⟨rfl, hb⟩
      have HB1 : Hid (Below w.heap.size w w1) := Lib.hid (((Below.refl _ _).alloc (Nat.le_refl _) _).trans (hb.mono (by simp)))
      clear hb
      go_wp2_with fail
      go_ret2
      exact ⟨rfl, HB1.out⟩
set_option maxHeartbeats 800000 in
theorem rsplit_bad (os od : Option Addr) (L cs M cd : Nat) (K N gen : Int) (w : World) (h : NoSplit K N L M) (hM : M ≤ 100000) :
    Calls Tryd.prog 14 #[.slice os L cs, .agg #[.int .i64 K, .int .i64 N, .int .u32 gen], .slice od M cd] w fun e w' => e = .returned (.tuple #[.slice none 0 0, .int .i64 1]) ∧ Below w.heap.size w w' := by
  by_cases hm : MayP K N
  · have HC := Lib.hid (fun w => may_yes K N gen w hm)
    have h' : L < 1 ∨ (1 ≤ L ∧ 64 < L) ∨ ∃ k Kn Nn : Nat, K = (Kn : Int) ∧ N = (Nn : Int) ∧ Kn = k + 1 ∧ 2 ≤ Kn ∧ Kn ≤ Nn ∧ Nn ≤ 255 ∧ 1 ≤ L ∧ L ≤ 64 ∧ M ≠ L * k := by
      rcases h with h | h
      · rcases Nat.lt_or_ge L 1 with h1 | h1
        · exact .inl h1
        · rcases Nat.lt_or_ge 64 L with h2 | h2
          · exact .inr (.inl ⟨h1, h2⟩)
          · exact absurd ⟨hm, h1, h2⟩ h
      · exact .inr (.inr h)
    clear h hm
    rcases h' with h | ⟨h0, h⟩ | ⟨k, Kn, Nn, rfl, rfl, h0, h1, h2, h3, h4, h5, h6⟩
    · have e3 : (L : Int) < 1 := by omega
      go_enter Tryd.func14, Tryd.ntmps14
      go_wp2_with fail
      refine (HC.out _).mono ?_
      rintro e w1 ⟨rfl, hb⟩
      have HB1 : Hid (Below w.heap.size w w1) := Lib.hid (((Below.refl _ _).alloc (Nat.le_refl _) _).trans (hb.mono (by simp)))
      clear hb
      go_wp2_with fail
      go_ret2
      exact ⟨rfl, HB1.out⟩
    · have e1 : ¬ L < 1 := by omega
      have e3 : decide ((L : Int) < 1) = false := decide_eq_false (by omega)
      have e4 : 64 < (L : Int) := by omega
      clear h0
      go_enter Tryd.func14, Tryd.ntmps14
      go_wp2_with fail
      refine (HC.out _).mono ?_
      rintro e w1 ⟨rfl, hb⟩
      have HB1 : Hid (Below w.heap.size w w1) := Lib.hid (((Below.refl _ _).alloc (Nat.le_refl _) _).trans (hb.mono (by simp)))
      clear hb
      go_wp2_with fail
      go_ret2
      exact ⟨rfl, HB1.out⟩
    · obtain ⟨M2, hM2⟩ : ∃ x, L * k = x := ⟨_, rfl⟩
      rw [hM2] at h6
      have hKk : (Kn : Int) - 1 = (k : Int) := by omega
      have hMi : (k : Int) * (L : Int) = (M2 : Int) := by rw [← hM2, Nat.mul_comm]; exact (Int.natCast_mul k L).symm
      have hMb : M2 ≤ 64 * 254 := by rw [← hM2]; exact Nat.mul_le_mul h5 (by omega)
      have hMw : IntKind.i64.wrap ((k : Int) * (L : Int)) = (M2 : Int) := by rw [hMi]; exact IntWalk.i64_in _ (by omega)
      have hM3 : (M2 : Int) ≤ 20000 := by omega
      have hb1 : (1 : Int) ≤ (Kn : Int) ∧ (Kn : Int) ≤ 255 := by omega
      have e1 : ¬ L < 1 := by omega
      have e2 : ¬ 64 < L := by omega
      have e3 : decide ((L : Int) < 1) = false := decide_eq_false (by omega)
      have e4 : decide (64 < (L : Int)) = false := decide_eq_false (by omega)
      have e5 : ((M : Int) != (M2 : Int)) = true := by rw [bne_iff_ne]; omega
      clear h0 h1 h2 h3 h4 h5 hM2 hMb
      go_enter Tryd.func14, Tryd.ntmps14
      go_wp2_with fail
      refine (HC.out _).mono ?_
      rintro e w1 ⟨rfl, hb⟩
      have HB1 : Hid (Below w.heap.size w w1) := Lib.hid (((Below.refl _ _).alloc (Nat.le_refl _) _).trans (hb.mono (by simp)))
      have c0 : w1.cell? ⟨w.heap.size, 0, none⟩ = some (.int .i64 (Kn : Int)) := cell_below hb (World.cell?_alloc_mark _ _ _ _ _)
      clear hb
      go_wp2_with fail
      go_ret2
      exact ⟨rfl, HB1.out⟩
  · have HC := Lib.hid (fun w => may_no K N gen w hm)
    clear h hm
    go_enter Tryd.func14, Tryd.ntmps14
    go_wp2_with fail
    refine (HC.out _).mono ?_
    rintro e w1 ⟨rfl, hb⟩
    have HB1 : Hid (Below w.heap.size w w1) := Lib.hid (((Below.refl _ _).alloc (Nat.le_refl _) _).trans (hb.mono (by simp)))
    clear hb
    go_wp2_with fail
    go_ret2
    exact ⟨rfl, HB1.out⟩
end Go.Proofs.YtmhofofidmbgfaaDoor
