/- Contracts of poly.Mul; and of nothing of a nil table. -/
import Derived.Test.YtmfmlgohjpmpfaaDoorPoWeights
import Derived.Deep.RegionWith
namespace Go.Proofs.YtmfmlgohjpmpfaaDoor
set_option linter.unusedVariables false
set_option linter.unusedSimpArgs false
open Go.RowKit

set_option maxHeartbeats 400000 in
theorem eval_nil (oa : Option Addr) (n cp : Nat) (x : Int) (w : World) :
    Calls Tryd.prog 16 #[.pointer none, .slice oa n cp, .int .u8 x] w fun e w' => e = .returned (.int .u8 0) ∧ w = w' := by
  go_enter Tryd.func16, Tryd.ntmps16
  go_wp2_with fail
  go_ret
  exact ⟨rfl, rfl⟩
set_option maxHeartbeats 400000 in
theorem pmul_nil (oa ob : Option Addr) (n cp m cq : Nat) (w : World) :
    Calls Tryd.prog 18 #[.pointer none, .slice oa n cp, .slice ob m cq] w fun e w' => e = .returned (.slice none 0 0) ∧ w = w' := by
  go_enter Tryd.func18, Tryd.ntmps18
  go_wp2_with fail
  go_ret
  exact ⟨rfl, rfl⟩
set_option maxHeartbeats 400000 in
theorem pmul_zero_left (tb : Nat) (oa ob : Option Addr) (cp m cq : Nat) (w : World) :
    Calls Tryd.prog 18 #[.pointer (some ⟨tb, 0, none⟩), .slice oa 0 cp, .slice ob m cq] w fun e w' => e = .returned (.slice none 0 0) ∧ w = w' := by
  go_enter Tryd.func18, Tryd.ntmps18
  go_wp2_with fail
  go_ret
  exact ⟨rfl, rfl⟩
set_option maxHeartbeats 400000 in
theorem pmul_zero_right (tb : Nat) (oa ob : Option Addr) (n cp cq : Nat) (w : World) :
    Calls Tryd.prog 18 #[.pointer (some ⟨tb, 0, none⟩), .slice oa n cp, .slice ob 0 cq] w fun e w' => e = .returned (.slice none 0 0) ∧ w = w' := by
  by_cases h : n = 0
  · subst h; exact pmul_zero_left tb oa ob cp 0 cq w
  · have h1 : ((n : Int) == 0) = false := by rw [beq_eq_false_iff_ne]; omega
    clear h
    go_enter Tryd.func18, Tryd.ntmps18
    go_wp2_with fail
    go_ret
    exact ⟨rfl, rfl⟩

/-- The product's numbers when i rows are done, and j of the next one. -/
def prodF (f g : Nat → Nat) (m i j : Nat) : Nat → Nat := fun k => convN f g i m k ^^^ (if i ≤ k ∧ k - i < j then mulN (f i) (g (k - i)) else 0)
theorem prodF_lt (f g : Nat → Nat) (m i j k : Nat) : prodF f g m i j k < 256 := by
  unfold prodF
  refine xor_lt (convN_lt _ _ _ _ _) ?_
  split
  · exact mulN_lt _ _
  · decide
theorem prodF_step (f g : Nat → Nat) (m i j : Nat) : upd (prodF f g m i j) (i + j) (prodF f g m i j (i + j) ^^^ mulN (f i) (g j)) = prodF f g m i (j + 1) := by
  funext k
  unfold upd prodF
  by_cases e : k = i + j
  · subst e
    rw [if_pos rfl, if_neg (by omega), if_pos ⟨by omega, by omega⟩, Nat.xor_zero, show i + j - i = j from by omega]
  · rw [if_neg e]
    congr 1
    by_cases h : i ≤ k ∧ k - i < j
    · rw [if_pos h, if_pos ⟨h.1, by omega⟩]
    · rw [if_neg h, if_neg (by omega)]
theorem prodF_step' {f g : Nat → Nat} {m i j pv fi gj : Nat} (hp : prodF f g m i j (i + j) = pv) (hf : f i = fi) (hg : g j = gj) : upd (prodF f g m i j) (i + j) (pv ^^^ mulN fi gj) = prodF f g m i (j + 1) := by
  subst hp; subst hf; subst hg; exact prodF_step f g m i j
theorem mul_row {tb a c pg i N v : Nat} {F : Nat → Nat} (w : World) (h : TabIn w tb) (ha : a < 256) (hc : c < 256) (hR : Row w pg N F) (hv : F i = v) (hi : i < N) (hn : pg ≠ tb) :
    Calls Tryd.prog 26 #[.pointer (some ⟨tb, 0, none⟩), .int .u8 a, .int .u8 c] w fun e w' => e = .returned (.int .u8 (mulN a c)) ∧ Left tb w w' ∧ w'.cell? ⟨pg, i, none⟩ = some (.int .u8 v) ∧ w'.frozen? ⟨pg, i, none⟩ = false :=
  (mul_any tb a c w h ha hc).mono fun e w' ⟨he, hl⟩ => ⟨he, hl, by rw [← hv]; exact (hR.own hl.2 hn).cell hi, Blk.free (hR.own hl.2 hn) i⟩
theorem prodF_row (f g : Nat → Nat) (m i : Nat) : prodF f g m i m = prodF f g m (i + 1) 0 := by
  funext k
  unfold prodF
  rw [if_neg (show ¬ (i + 1 ≤ k ∧ k - (i + 1) < 0) by omega), Nat.xor_zero]; rfl
theorem prodF_end (f g : Nat → Nat) (m n k : Nat) : prodF f g m n 0 k = convN f g n m k := by
  unfold prodF; rw [if_neg (by omega), Nat.xor_zero]
theorem prodF_zero (f g : Nat → Nat) (m k : Nat) : prodF f g m 0 0 k = 0 := prodF_end f g m 0 k

set_option maxRecDepth 100000 in
set_option maxHeartbeats 4000000 in
theorem pmul_any (tb : Nat) (oa ob : Option Addr) (n cp m cq : Nat) (f g : Nat → Nat) (w : World) (h : TabIn w tb) (hb : Bytes w oa n f) (ha : Apart tb oa n) (hy : Bytes w ob m g) (hya : Apart tb ob m)
    (hn : 1 ≤ n) (hm : 1 ≤ m) (hnl : n ≤ 1000000) (hml : m ≤ 1000000) :
    Calls Tryd.prog 18 #[.pointer (some ⟨tb, 0, none⟩), .slice oa n cp, .slice ob m cq] w fun e w' => ∃ pg, e = .returned (.slice (some ⟨pg, 0, none⟩) (n + m - 1 : Nat) (n + m - 1 : Nat)) ∧ w.heap.size ≤ pg ∧ Row w' pg (n + m - 1) (convN f g n m) ∧ Left tb w w' := by
  obtain ⟨i0, hi, hz0, hz1, hz2⟩ := info_parts info_u8
  have htl := h.lt
  have HB : Hid _ := hb
  have HA : Hid _ := ha
  have HY : Hid _ := hy
  have HYA : Hid _ := hya
  obtain ⟨N, hN⟩ : ∃ N, n + m - 1 = N := ⟨_, rfl⟩
  have hNi : (n : Int) + (m : Int) - 1 = (N : Int) := by omega
  have n0 : ((n : Int) == 0) = false := by rw [beq_eq_false_iff_ne]; omega
  have m0 : ((m : Int) == 0) = false := by rw [beq_eq_false_iff_ne]; omega
  rw [hN]
  clear hb ha hy hya
  go_enter Tryd.func18, Tryd.ntmps18
  go_wp2_with (at_make; refine wpList_make_full _ rfl _ _ 22 rfl w.heap.size 5 i0 (.int .u8 0) 1 Tryd.underlying22 hi hz0 hz1 .i64 .i64 (N : Int) (N : Int) N rfl rfl rfl rfl ?c1 ?c2 (Nat.le_refl _) ?_)
  case c1 => rw [hz2]; omega
  case c2 => unfold maxLen; omega
  intro w2 hown2 hg2
  have hR : Row w2 w.heap.size N (fun _ => 0) := Row.made hown2
  obtain ⟨pg, hg⟩ : ∃ pg, w.heap.size = pg := ⟨_, rfl⟩
  have hb2 : Below w.heap.size w w2 := below_grown hg2
  have hgw : w.heap.size ≤ pg := Nat.le_of_eq hg
  have hne : pg ≠ tb := by omega
  have hT : TabIn w2 tb := h.later hb2
  have hO : Own tb w w2 := Own.of_below hb2
  rw [hg] at hR ⊢
  clear hown2 hg2 hb2 h hg hi hz0 hz1 hz2 n0 m0
  go_wp2_with fail
  go_loopw [33] (fun i wr => ∃ k : Nat, k ≤ n ∧ i = .int .i64 k ∧ Row wr pg N (prodF f g m k 0) ∧ TabIn wr tb ∧ Own tb w wr) (fun i _ => n - (intOf i).toNat)
  case atStart => exact ⟨0, Nat.zero_le _, rfl, hR.congr (fun i _ => (prodF_zero f g m i).symm), hT, hO⟩
  case round =>
    obtain ⟨k, hk, rfl, hX, hTr, hOr⟩ := hrel
    clear hR hT hO
    by_cases hlt : k < n
    · obtain ⟨hfk, cb, co, e1, hcell⟩ := (Bytes.own HB.out hOr HA.out) k hlt
      subst e1
      have hk0 : (0 : Int) ≤ (k : Int) := by omega
      have hk1 : (k : Int) < (n : Int) := by omega
      obtain ⟨fk, hfkk⟩ : ∃ fk, f k = fk := ⟨_, rfl⟩
      rw [hfkk] at hcell hfk
      have HFK : Hid _ := hfkk
      clear hfkk
      go_wp2_with fail
      go_loopw [40] (fun i ws => ∃ j : Nat, j ≤ m ∧ i = .int .i64 j ∧ Row ws pg N (prodF f g m k j) ∧ TabIn ws tb ∧ Own tb w ws) (fun i _ => m - (intOf i).toNat)
      case atStart => exact ⟨0, Nat.zero_le _, rfl, hX, hTr, hOr⟩
      case round =>
        obtain ⟨j, hj, rfl, hY, hTs, hOs⟩ := hrel
        clear hX hTr hOr
        by_cases hlj : j < m
        · obtain ⟨hgj, cb2, co2, e2, hcell2⟩ := (Bytes.own HY.out hOs HYA.out) j hlj
          subst e2
          have hj0 : (0 : Int) ≤ (j : Int) := by omega
          have hj1 : (j : Int) < (m : Int) := by omega
          have hsum : (k : Int) + (j : Int) = ((k + j : Nat) : Int) := by omega
          have hkj : k + j < N := by omega
          have hwr : IntKind.i64.wrap ((k : Int) + (j : Int)) = ((k + j : Nat) : Int) := by rw [hsum]; exact IntWalk.i64_in _ (by omega)
          have c1 : wr.cell? ⟨pg, k + j, none⟩ = some (.int .u8 (prodF f g m k j (k + j) : Nat)) := hY.cell hkj
          have f1 : wr.frozen? ⟨pg, k + j, none⟩ = false := Blk.free hY _
          have hpl := prodF_lt f g m k j (k + j)
          have hml2 := mulN_lt fk (g j)
          have q0 : (0 : Int) ≤ ((k + j : Nat) : Int) := by omega
          have q1 : ((k + j : Nat) : Int) < (N : Int) := by omega
          obtain ⟨gj, hgjj⟩ : ∃ gj, g j = gj := ⟨_, rfl⟩
          obtain ⟨pv, hpv⟩ : ∃ pv, prodF f g m k j (k + j) = pv := ⟨_, rfl⟩
          rw [hgjj] at hcell2 hgj hml2
          rw [hpv] at c1 hpl
          have HGJ : Hid _ := hgjj
          have HPV : Hid _ := hpv
          have HKJ : Hid _ := hkj
          clear hgjj hpv hsum hkj
          generalize hkk : k + j = kj at *
          have HKK : Hid _ := hkk
          clear hkk
          go_wp2_with fail
          go_region_with
            (first
              | (go_at_call 26; refine (mul_row (F := prodF f g m k j) _ ?_ hfk hgj ?_ HPV.out HKJ.out hne).mono ?_; exact hTs; exact hY; rintro e w1 ⟨rfl, hL1, hc1, hf1⟩)
              | (go_at_call 25; refine (add_any _ _ _ hpl hml2).mono ?_; rintro e w' ⟨rfl, rfl⟩))
          all_goals
            have hY2 := (hY.own hL1.undrew.2 hne).set kj (pv ^^^ mulN fk gj)
            rw [← HKK.out] at hY2
            rw [prodF_step' (by rw [HKK.out]; exact HPV.out) HFK.out HGJ.out, HKK.out] at hY2
            have hT2 : TabIn (w1.setCell ⟨pg, kj, none⟩ (.int .u8 (pv ^^^ mulN fk gj : Nat))) tb := hL1.1.set_other (Ne.symm hne) kj _
            have hO2 : Own tb w (w1.setCell ⟨pg, kj, none⟩ (.int .u8 (pv ^^^ mulN fk gj : Nat))) := (hOs.trans hL1.undrew.2).set_new kj _ hgw
            go_wp2_with fail
            go_roundw
            case rel => exact ⟨j + 1, by omega, by go_num, hY2, hT2, hO2⟩
            case measure => simp [intOf]; omega
        · obtain rfl : j = m := by omega
          go_wp2_with fail
          go_roundw
          case rel => exact ⟨k + 1, by omega, by go_num, by rw [← prodF_row]; exact hY, hTs, hOs⟩
          case measure => simp [intOf]; omega
    · obtain rfl : k = n := by omega
      go_wp2_with fail
      go_ret
      exact ⟨pg, rfl, hgw, hX.congr (fun i _ => prodF_end f g m k i), hTr, hOr⟩
end Go.Proofs.YtmfmlgohjpmpfaaDoor
