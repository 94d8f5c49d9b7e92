/- The document's Secret. -/
import Derived.Test.YtgiffaeckhhmpaaDoorPh2
import Derived.Test.YtgiffaeckhhmpaaDoorPg3
import Derived.Test.YtgiffaeckhhmpaaDoorSj3
namespace Go.Proofs.YtgiffaeckhhmpaaDoor
set_option linter.unusedVariables false
set_option linter.unusedSimpArgs false
open Go.RowKit
def RSecR (S : Nat → Sh) (n k : Nat) (w : World) (e : Ending) (w' : World) : Prop :=
  (k = 0 ∧ ∃ g cap, e = .returned (.tuple #[.slice (some ⟨g, 0, none⟩) 32 cap, .int .i64 0]) ∧ w.heap.size ≤ g ∧ Bytes w' (some ⟨g, 0, none⟩) 32 (jnF S 0 n) ∧ Below w.heap.size w w') ∨
  (k ≠ 0 ∧ e = .returned (.tuple #[.slice none 0 0, .int .i64 (k : Int)]) ∧ Below w.heap.size w w')
set_option maxRecDepth 100000 in
set_option maxHeartbeats 4000000 in
theorem rsecret_any (tb : Nat) (K N : Int) (gen n cs k : Nat) (mk : ByteArray) (oa : Option Addr) (S : Nat → Sh) (w : World) (hS : Shs tb w oa n S) (hix : ∀ i, i < n → (S i).ix < 256) (hn : n ≤ 1000) (hnc : n ≤ cs) (hmk : mk.size < 100000000) (hk : secK K N gen S n mk.size k) :
    Calls Tryd.prog 16 #[.agg #[.int .i64 K, .int .i64 N, .int .u32 (gen : Int), .string mk, .slice oa n cs]] w (RSecR S n k w) := by
  obtain ⟨w1, hw1⟩ : ∃ x, w.alloc (.cells #[.int .i64 K, .int .i64 N, .int .u32 (gen : Int), .string mk, .slice oa n cs] 54) = x := ⟨_, rfl⟩
  have hb1 : Below w.heap.size w w1 := by rw [← hw1]; exact (Below.refl _ _).alloc (Nat.le_refl _) _
  have hP : Blk w1 w.heap.size #[.int .i64 K, .int .i64 N, .int .u32 (gen : Int), .string mk, .slice oa n cs] 54 := by rw [← hw1]; exact Blk.new _ _ _
  have HCK := Lib.hid (rmay_pg tb K N gen n cs mk oa S w1 (hS.later hb1) hix (by omega) hnc hmk)
  have HRX := Lib.hid (range5 hP)
  have HP := Lib.hid hP
  have HB1 := Lib.hid hb1
  have HS1 := Lib.hid (hS.later hb1)
  have HN := Lib.hid (show n ≤ cs ∧ n ≤ 1000 from ⟨hnc, hn⟩)
  have HIX := Lib.hid hix
  have HK := Lib.hid hk
  clear hP hb1 hS hn hnc hmk hix hk
  go_enter Tryd.func16, Tryd.ntmps16
  go_wp2_with (first | (refine wpList_value rfl (exec_loadM (x := .tmp 1) (cs := [.int .i64 K, .int .i64 N, .int .u32 (gen : Int), .string mk, .slice oa n cs]) rfl rfl HRX.out Tryd.underlying54 rfl info_pgR) ?_))
  refine HCK.out.mono ?_
  rintro e w2 ⟨(⟨rfl, hmg⟩ | ⟨rfl, hmg⟩), hb2⟩
  rotate_left
  · obtain rfl : k = 1 := by
      rcases HK.out with ⟨h, _⟩ | ⟨_, h, _⟩ | ⟨_, h, _⟩
      · exact h
      · exact absurd h hmg
      · exact absurd h hmg
    have HL := Lib.hid (HB1.out.trans (hb2.mono HB1.out.size))
    clear hmg hb2
    go_wp2_with fail
    go_ret2
    exact .inr ⟨by decide, rfl, HL.out⟩
  have HMG := Lib.hid hmg
  obtain ⟨Kp, rfl⟩ : ∃ k : Nat, K = (k : Int) := ⟨K.toNat, by have := hmg.1.1; omega⟩
  obtain ⟨Nn, rfl⟩ : ∃ k : Nat, N = (k : Int) := ⟨N.toNat, by have := hmg.1.1; have := hmg.1.2; omega⟩
  have HKN : Hid (2 ≤ Kp ∧ Kp ≤ Nn ∧ Nn ≤ 255 ∧ n ≤ Kp) := Lib.hid (by obtain ⟨⟨h1, h2, h3⟩, h4, h5, h6⟩ := hmg; omega)
  have HB2 := Lib.hid hb2
  have hq := Blk.below HP.out hb2 (Blk.lt HP.out)
  have c0 := pg_k hq
  have c4 := pg_sl hq
  have HRQ := Lib.hid (pg_plan hq)
  clear hq hb2 hmg
  by_cases hlt : n < Kp
  · obtain rfl : k = 2 := by
      rcases HK.out with ⟨_, h⟩ | ⟨h, _⟩ | ⟨_, _, h⟩
      · exact absurd HMG.out h
      · exact h
      · omega
    have HL := Lib.hid (HB1.out.trans (HB2.out.mono HB1.out.size))
    have l1 : (n : Int) < ((Kp : Int) : Int) := by omega
    have l2 : decide ((n : Int) < ((Kp : Int) : Int)) = true := decide_eq_true l1
    have l7 : n < Kp := by omega
    have l8 : decide (n < Kp) = true := decide_eq_true l7
    clear hlt
    go_wp2_with fail
    go_ret2
    exact .inr ⟨by decide, rfl, HL.out⟩
  obtain rfl : n = Kp := by have := HKN.out; omega
  obtain rfl : k = 0 := by
    rcases HK.out with ⟨_, h⟩ | ⟨_, _, h⟩ | ⟨h, _⟩
    · exact absurd HMG.out h
    · omega
    · exact h
  have HNE : Hid (needE S n n gen = 0 ∧ (S 0).len = 32) := Lib.hid (by
    have h4 := HMG.out.2.2.2
    have h5 := wrongN_zero (h4 0 (by have := HKN.out; omega))
    exact ⟨okN_need h4 (by have := HKN.out; omega), h5.2.2.2.2⟩)
  have HCO := Lib.hid (rcomb_any tb n cs n Nn gen 0 oa S w2 (HS1.out.later HB2.out) HIX.out HN.out.2 HKN.out.1 HKN.out.2.1 HKN.out.2.2.1 (by decide))
  have l1 : ¬ (n : Int) < ((n : Int) : Int) := by omega
  have l2 : decide ((n : Int) < ((n : Int) : Int)) = false := decide_eq_false l1
  have l7 : ¬ n < n := by omega
  have l8 : decide (n < n) = false := decide_eq_false l7
  clear hlt
  go_wp2_with (first | (refine wpList_value rfl (exec_loadM (x := .tmp 16) (cs := [.int .i64 (n : Int), .int .i64 (Nn : Int), .int .u32 (gen : Int)]) rfl rfl HRQ.out Tryd.underlying51 rfl info_rplan3) ?_))
  refine HCO.out.mono ?_
  rintro e w3 (⟨h0, g, cap, rfl, hg, hR, hL⟩ | ⟨h0, rfl, hL⟩)
  rotate_left
  · exact absurd HNE.out.1 h0
  rw [HNE.out.2] at hR ⊢
  have HX : Hid (w.heap.size ≤ g ∧ Bytes w3 (some ⟨g, 0, none⟩) 32 (jnF S 0 n) ∧ Below w.heap.size w w3) := Lib.hid ⟨by have := HB1.out.size; have := HB2.out.size; omega, hR, (HB1.out.trans (HB2.out.mono HB1.out.size)).trans (hL.mono (HB1.out.trans (HB2.out.mono HB1.out.size)).size)⟩
  clear h0 hg hR hL
  go_wp2_with fail
  go_ret2
  exact .inl ⟨rfl, g, cap, rfl, HX.out⟩
end Go.Proofs.YtgiffaeckhhmpaaDoor
