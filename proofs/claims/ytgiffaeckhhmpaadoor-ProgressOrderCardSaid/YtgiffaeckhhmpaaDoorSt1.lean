/- What may not be split: shamir.Split's refusal, the draws' number, and the document's own. -/
import Derived.Test.YtgiffaeckhhmpaaDoorSpA
namespace Go.Proofs.YtgiffaeckhhmpaaDoor
set_option linter.unusedVariables false
set_option linter.unusedSimpArgs false
open Go.RowKit

set_option maxHeartbeats 400000 in
theorem draws_zero (K N g : Int) (L : Nat) (w : World) (h : ¬ (MayP K N ∧ 1 ≤ L ∧ L ≤ 64)) :
    Calls Tryd.prog 22 #[.agg #[.int .i64 K, .int .i64 N, .int .u32 g], .int .i64 (L : Int)] w fun e w' => e = .returned (.int .i64 0) ∧ Below w.heap.size w w' := by
  by_cases hm : MayP K N
  · have HC := Lib.hid (fun w => check_yes K N g w hm)
    have HF := Lib.hid (fun w => fits_no L w (fun h2 => h ⟨hm, h2⟩))
    clear h hm
    go_enter Tryd.func22, Tryd.ntmps22
    go_wp2_with fail
    refine (HC.out _).mono ?_
    rintro e w1 ⟨rfl, hb⟩
    have HB1 : Hid (Below w.heap.size w w1) := Lib.hid (((Below.refl _ _).alloc (Nat.le_refl _) _).trans (hb.mono (by simp)))
    clear hb
    go_wp2_with fail
    refine (HF.out _).mono ?_
    rintro e w2 ⟨rfl, rfl⟩
    go_wp2_with fail
    go_ret
    exact ⟨rfl, HB1.out⟩
  · have HC := Lib.hid (fun w => check_no K N g w hm)
    clear h hm
    go_enter Tryd.func22, Tryd.ntmps22
    go_wp2_with fail
    refine (HC.out _).mono ?_
    rintro e w1 ⟨rfl, hb⟩
    have HB1 : Hid (Below w.heap.size w w1) := Lib.hid (((Below.refl _ _).alloc (Nat.le_refl _) _).trans (hb.mono (by simp)))
    clear hb
    go_wp2_with fail
    go_ret
    exact ⟨rfl, HB1.out⟩
/-- What may not be split: a plan that may not be, a length that does not fit, draws of another number. -/
def NoSplit (K N : Int) (L M : Nat) : Prop := ¬ (MayP K N ∧ 1 ≤ L ∧ L ≤ 64) ∨ ∃ k Kn Nn : Nat, K = (Kn : Int) ∧ N = (Nn : Int) ∧ Kn = k + 1 ∧ 2 ≤ Kn ∧ Kn ≤ Nn ∧ Nn ≤ 255 ∧ 1 ≤ L ∧ L ≤ 64 ∧ M ≠ L * k
set_option maxHeartbeats 800000 in
theorem split_bad (tp os od : Option Addr) (L cs M cd : Nat) (K N gen : Int) (w : World) (h : tp = none ∨ NoSplit K N L M) (hM : M ≤ 100000) :
    Calls Tryd.prog 7 #[.pointer tp, .slice os L cs, .agg #[.int .i64 K, .int .i64 N, .int .u32 gen], .slice od M cd] w fun e w' => e = .returned (.tuple #[.slice none 0 0, .iface 83 (.int .i64 1)]) ∧ Below w.heap.size w w' := by
  cases tp with
  | none =>
    clear h
    go_enter Tryd.func7, Tryd.ntmps7
    go_wp2_with fail
    go_ret2
    exact ⟨rfl, (Below.refl _ _).alloc (Nat.le_refl _) _⟩
  | some a =>
    replace h := h.resolve_left (by simp)
    by_cases hm : MayP K N
    · have HC := Lib.hid (fun w => check_yes K N gen w hm)
      rcases h with h | ⟨k, Kn, Nn, rfl, rfl, h0, h1, h2, h3, h4, h5, h6⟩
      · have HF := Lib.hid (fun w => fits_no L w (fun h2 => h ⟨hm, h2⟩))
        clear h hm
        go_enter Tryd.func7, Tryd.ntmps7
        go_wp2_with fail
        refine (HC.out _).mono ?_
        rintro e w1 ⟨rfl, hb⟩
        have HB1 : Hid (Below w.heap.size w w1) := Lib.hid (((Below.refl _ _).alloc (Nat.le_refl _) _).trans (hb.mono (by simp)))
        clear hb
        go_wp2_with fail
        refine (HF.out _).mono ?_
        rintro e w2 ⟨rfl, rfl⟩
        go_wp2_with fail
        go_ret2
        exact ⟨rfl, HB1.out⟩
      · have HF := Lib.hid (fun w => fits_yes L w h4 h5)
        have HD := Lib.hid (fun w => draws_any Kn Nn k L (L * k) gen w h0 h1 h2 h3 h4 h5 rfl)
        obtain ⟨M2, hM2⟩ : ∃ x, L * k = x := ⟨_, rfl⟩
        rw [hM2] at HD h6
        have e1 : ((M : Int) != (M2 : Int)) = true := by rw [bne_iff_ne]; omega
        clear hm h0 h1 h2 h3 h4 h5 hM2
        go_enter Tryd.func7, Tryd.ntmps7
        go_wp2_with fail
        refine (HC.out _).mono ?_
        rintro e w1 ⟨rfl, hb⟩
        have HB1 : Hid (Below w.heap.size w w1) := Lib.hid (((Below.refl _ _).alloc (Nat.le_refl _) _).trans (hb.mono (by simp)))
        have c0 : w1.cell? ⟨w.heap.size, 0, none⟩ = some (.int .i64 (Kn : Int)) := cell_below hb (World.cell?_alloc_mark _ _ _ _ _)
        have c1 : w1.cell? ⟨w.heap.size, 1, none⟩ = some (.int .i64 (Nn : Int)) := cell_below hb (World.cell?_alloc_mark _ _ _ _ _)
        have c2 : w1.cell? ⟨w.heap.size, 2, none⟩ = some (.int .u32 gen) := cell_below hb (World.cell?_alloc_mark _ _ _ _ _)
        clear hb
        go_wp2_with fail
        refine (HF.out _).mono ?_
        rintro e w2 ⟨rfl, rfl⟩
        go_wp2_with fail
        refine (HD.out _).mono ?_
        rintro e w2 ⟨rfl, hb⟩
        have HB2 := Lib.hid (HB1.out.trans (hb.mono HB1.out.size))
        clear hb c0 c1 c2
        go_wp2_with fail
        go_ret2
        exact ⟨rfl, HB2.out⟩
    · have HC := Lib.hid (fun w => check_no K N gen w hm)
      clear h hm
      go_enter Tryd.func7, Tryd.ntmps7
      go_wp2_with fail
      refine (HC.out _).mono ?_
      rintro e w1 ⟨rfl, hb⟩
      have HB1 : Hid (Below w.heap.size w w1) := Lib.hid (((Below.refl _ _).alloc (Nat.le_refl _) _).trans (hb.mono (by simp)))
      clear hb
      go_wp2_with fail
      go_ret2
      exact ⟨rfl, HB1.out⟩
end Go.Proofs.YtgiffaeckhhmpaaDoor
