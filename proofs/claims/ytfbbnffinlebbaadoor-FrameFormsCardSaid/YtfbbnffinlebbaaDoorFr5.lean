/- Join of a record's sectors; what must come whatever the input is. -/
import Derived.Test.YtfbbnffinlebbaaDoorFr4
import Derived.Test.YtfbbnffinlebbaaDoorNum14
namespace Go.Proofs.YtfbbnffinlebbaaDoor
set_option linter.unusedVariables false
set_option linter.unusedSimpArgs false
open Go.RowKit

theorem join_ok {s n q : Nat} {B : Nat → Nat} {L : Nat → Nat} {G : Nat → Nat → Nat} {op : Option Addr} {cq : Nat} {w : World} (hA : LBs w op q L G) (hqc : q ≤ cq) (hcm : cq ≤ maxLen) (hs : s < 4294967296) (h0 : s ≠ 0) (hn : n ≤ 14280) (hq : secN n ≤ q)
    (hL : ∀ i, i < secN n → L i = 64) (hG : ∀ i, i < secN n → ∀ k, k < 64 → G i k = frF s n B i k) :
    Calls Tryd.prog 10 #[.slice op q cq] w fun e w' => Below w.heap.size w w' ∧ ∃ g, e = .returned (.tuple #[.int .u32 (s : Nat), .slice (some ⟨g, 0, none⟩) n n, .int .i64 (secN n : Nat), .nilIface]) ∧ Bytes w' (some ⟨g, 0, none⟩) n B := by
  obtain ⟨hP, e1, e2, e3, e4⟩ := JoinP.of_split hs h0 hn hq hL hG
  refine (join_any op q cq L G w hA hqc hcm).mono ?_
  rintro e w' ⟨hb, (⟨_, g, he, hB⟩ | ⟨h, _⟩)⟩
  · rw [e1, e2, e3] at he
    rw [e2] at hB
    exact ⟨hb, g, he, fun k hk => by rw [← e4 k hk]; exact hB k hk⟩
  · exact absurd hP h
theorem join_bad {q : Nat} {L : Nat → Nat} {G : Nat → Nat → Nat} {op : Option Addr} {cq : Nat} {w : World} (hA : LBs w op q L G) (hqc : q ≤ cq) (hcm : cq ≤ maxLen) (h : ¬ JoinP q L G) :
    Calls Tryd.prog 10 #[.slice op q cq] w fun e w' => Below w.heap.size w w' ∧ e = .returned (.tuple #[.int .u32 0, .slice none 0 0, .int .i64 0, .iface 47 (.int .i64 4)]) := by
  refine (join_any op q cq L G w hA hqc hcm).mono ?_
  rintro e w' ⟨hb, (⟨h2, _⟩ | ⟨_, he⟩)⟩
  · exact absurd h2 h
  · exact ⟨hb, he⟩
set_option maxRecDepth 100000 in
set_option maxHeartbeats 4000000 in
theorem small_any (op : Option Addr) (q cq : Nat) (L : Nat → Nat) (G : Nat → Nat → Nat) (w : World) (hA : LBs w op q L G) (hqm : q ≤ maxLen) :
    Calls Tryd.prog 6 #[.slice op q cq] w fun e w' => ((e = .returned (.bool true) ∧ q ≤ 30 ∧ ∀ i, i < q → L i ≤ 200) ∨ e = .returned (.bool false)) ∧ Below w.heap.size w w' := by
  unfold maxLen at hqm
  have HA : Hid (∀ w', Below w.heap.size w w' → LBs w' op q L G) := Lib.hid fun w' h => hA.later h
  have hq0 : (q : Int) ≤ 9223372036854775807 := by omega
  clear hA
  go_enter Tryd.func6, Tryd.ntmps6
  go_wp2_with fail
  go_loopw [3] (fun x wr => ∃ i : Nat, i ≤ q ∧ i ≤ 30 ∧ x = .int .i64 (i : Int) ∧ (∀ j, j < i → L j ≤ 200) ∧ Below w.heap.size w wr) (fun x _ => 30 - (intOf x).toNat)
  case atStart => exact ⟨0, Nat.zero_le _, Nat.zero_le _, rfl, fun j hj => absurd hj (Nat.not_lt_zero _), Below.refl _ _⟩
  case round =>
    obtain ⟨i, hi, h30, rfl, hS, hX⟩ := hrel
    have HX := Lib.hid hX
    have HS := Lib.hid hS
    clear hX hS
    by_cases hlt : i < q
    · have i1 : (i : Int) < (q : Int) := by omega
      have i0 : (0 : Int) ≤ (i : Int) := by omega
      by_cases h3 : i < 30
      · have i3 : (i : Int) < 30 := by omega
        have HI := Lib.hid (show i < q ∧ i < 30 from ⟨hlt, h3⟩)
        obtain ⟨b, off, od, cp, rfl, c1, hl1, _, _, hcp⟩ := HA.out wr HX.out i hlt
        obtain ⟨l, hl⟩ : ∃ x, L i = x := ⟨_, rfl⟩
        rw [hl] at c1 hl1
        have HLL := Lib.hid hl
        unfold maxLen at hcp
        have k4 : IntKind.i64.wrap ((i : Int) + 1) = ((i + 1 : Nat) : Int) := by rw [IntWalk.i64_in _ (by omega)]; omega
        by_cases h2 : 200 < l
        · have g2 : (200 : Int) < (l : Int) := by omega
          clear hl h2 h3 hlt hi h30
          go_wp2_with fail
          go_ret
          exact ⟨.inr rfl, HX.out⟩
        · have g2 : ¬ (200 : Int) < (l : Int) := by omega
          have HL2 := Lib.hid (show l ≤ 200 by omega)
          clear hl h2 h3 hlt hi h30
          go_wp2_with fail
          go_roundw
          case rel =>
            refine ⟨i + 1, HI.out.1, HI.out.2, by first | rfl | go_num, fun j hj => ?_, HX.out⟩
            by_cases hj2 : j < i
            · exact HS.out j hj2
            · obtain rfl : j = i := by omega
              rw [HLL.out]; exact HL2.out
          case measure => have := HI.out; simp [intOf]; omega
      · have i3 : ¬ (i : Int) < 30 := by omega
        have i4 : decide ((i : Int) < 30) = false := decide_eq_false i3
        have i5 : ¬ (q : Int) ≤ 30 := by omega
        have i6 : decide ((q : Int) ≤ 30) = false := decide_eq_false i5
        clear h3 hlt hi h30
        go_wp2_with fail
        go_ret
        exact ⟨.inr rfl, HX.out⟩
    · obtain rfl : i = q := by omega
      have i1 : ¬ (i : Int) < (i : Int) := by omega
      have i5 : (i : Int) ≤ 30 := by omega
      have i6 : decide ((i : Int) ≤ 30) = true := decide_eq_true i5
      have HI := Lib.hid h30
      clear hlt hi h30
      go_wp2_with fail
      go_ret
      exact ⟨.inl ⟨rfl, HI.out, HS.out⟩, HX.out⟩
set_option maxRecDepth 100000 in
set_option maxHeartbeats 8000000 in
theorem sure14 (w : World) (hg : Handle w) : Calls Tryd.prog 7 #[] w fun e w' => e = .returned (.bool true) ∧ Below w.heap.size w w' := by
  have hsec : secN 57 = 2 := by decide
  obtain ⟨w1, hw1⟩ : ∃ x, w.alloc (.cells (rowC 57 (fun _ => 0)).toArray 5) = x := ⟨_, rfl⟩
  have hb1 : Below w.heap.size w w1 := by rw [← hw1]; exact (Below.refl _ _).alloc (Nat.le_refl _) _
  have hR1 : Row w1 w.heap.size 57 (fun _ => 0) := by rw [← hw1]; exact Blk.new _ _ _
  have HSP := Lib.hid (split_any 7 57 (some ⟨w.heap.size, 0, none⟩) 57 (fun _ => 0) w1 (by decide) (by decide) (hR1.bytes fun _ _ => by decide) (fun e => by cases e) (Nat.le_refl _) (by decide))
  have HB1 := Lib.hid hb1
  have HG := Lib.hid hg
  clear hb1 hR1 hg
  go_enter Tryd.func7, Tryd.ntmps7
  go_wp2_with (refine wpList_mk rfl (.const (.int .i64 57)) (.const (.int .i64 57)) rfl 57 rfl rfl (by decide) ?_; rw [hw1]; clear hw1)
  refine HSP.out.mono ?_
  rintro e w2 ⟨g, rfl, hLB, hb2, _⟩
  rw [hsec] at hLB ⊢
  have HB2 := Lib.hid (HB1.out.trans (hb2.mono HB1.out.size))
  have HLB := Lib.hid hLB
  have HJ1 := Lib.hid (join_ok (s := 7) (n := 57) (B := fun _ => 0) (cq := 2) hLB (Nat.le_refl _) (by unfold maxLen; decide) (by decide) (by decide) (by decide) (by decide) (fun _ _ => rfl) (fun _ _ _ _ => rfl))
  rw [hsec] at HJ1
  clear hLB hb2 HSP
  go_wp2_with fail
  refine HJ1.out.mono ?_
  rintro e w3 ⟨hb3, g3, rfl, hB3⟩
  have HB3 := Lib.hid (HB2.out.trans (hb3.mono HB2.out.size))
  have hLB3 := HLB.out.later hb3
  have hL1 : LBs w3 (some ⟨g, 1, none⟩) 1 (fun _ => 64) (fun i => frF 7 57 (fun _ => 0) (1 + i)) := fun i hi => by
    obtain ⟨b, off, od, cp, e, r⟩ := hLB3 (1 + i) (by omega)
    cases e
    exact ⟨g, 1, od, cp, rfl, by rw [Nat.zero_add] at r; exact r⟩
  obtain ⟨b1, o1, od1, cp1, e1, c1, hl1, hB1, hn1, hm1⟩ := hLB3 1 (by decide)
  cases e1
  have HJ2 := Lib.hid (join_bad (cq := 1) hL1 (Nat.le_refl _) (by unfold maxLen; decide) (fun h => by
    have h1 := h.enough
    have h2 : frF 7 57 (fun _ => 0) (1 + 0) 5 = 2 := by rw [frF_at5]; exact hsec
    rw [h2] at h1; omega))
  have HC1 := Lib.hid (show w3.cell? ⟨g, 0 + 1, none⟩ = some (.slice od1 64 cp1) from c1)
  have HBY := Lib.hid hB1
  clear hb3 hB3 hLB3 hL1 c1 hl1 hB1 hn1 hm1 HJ1 HLB
  go_wp2_with fail
  refine HJ2.out.mono ?_
  rintro e w4 ⟨hb4, rfl⟩
  have HB4 := Lib.hid (HB3.out.trans (hb4.mono HB3.out.size))
  have c1 : w4.cell? ⟨g, 1, none⟩ = some (.slice od1 64 cp1) := by have := cell_below hb4 HC1.out; rwa [Nat.zero_add] at this
  have HSQ := Lib.hid (seq_any od1 64 cp1 (frF 7 57 (fun _ => 0) 1) w4 (HBY.out.later hb4) (by unfold maxLen; decide))
  clear hb4 HJ2 HC1 HBY
  go_wp2_with fail
  refine HSQ.out.mono ?_
  rintro e w5 ⟨(⟨_, rfl⟩ | ⟨h, _⟩), hb5⟩
  rotate_left
  · exact absurd rfl h
  rw [seqF_fr (s := 7) (n := 57) (B := fun _ => 0) (i := 1) (by decide) (fun _ _ => rfl)]
  have HB5 := Lib.hid (HB4.out.trans (hb5.mono HB4.out.size))
  have HN := Lib.hid (num_err 4 w5 (HG.out.below HB5.out HG.out.2))
  clear hb5 c1 HSQ
  go_wp2_with fail
  refine HN.out.mono ?_
  rintro e w6 ⟨rfl, hb6⟩
  have HB6 := Lib.hid (HB5.out.trans (hb6.mono HB5.out.size))
  have HSE := sectors_any 0 w6 (by decide)
  rw [show secO 0 = 1 by decide] at HSE
  have HSE := Lib.hid HSE
  clear hb6 HN
  go_wp2_with fail
  refine HSE.out.mono ?_
  rintro e w7 ⟨rfl, rfl⟩
  go_wp2_with fail
  go_ret
  exact ⟨rfl, HB6.out⟩
end Go.Proofs.YtfbbnffinlebbaaDoor
