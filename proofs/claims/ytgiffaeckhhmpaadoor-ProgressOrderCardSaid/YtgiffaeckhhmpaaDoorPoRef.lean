/- Contracts of the document's own functions of layer 2. -/
import Derived.Test.YtgiffaeckhhmpaaDoorPoLag
import Derived.Test.YtgiffaeckhhmpaaDoorApA
import Derived.Test.YtgiffaeckhhmpaaDoorGfRefs
import Derived.Deep.RegionWith
namespace Go.Proofs.YtgiffaeckhhmpaaDoor
set_option linter.unusedVariables false
set_option linter.unusedSimpArgs false
open Go.RowKit

theorem rmul_n {a b x : Nat} (w : World) (ha : a < 256) (hb : b < 256) (hx : mulN a b = x) :
    Calls Tryd.prog 55 #[.int .u8 a, .int .u8 b] w fun e w' => e = .returned (.int .u8 x) ∧ w = w' := by
  subst hx
  have h := refmul_is (a := a) (b := b) w (B8_nat ha) (B8_nat hb) rfl
  unfold mulI at h; rw [Int.toNat_natCast, Int.toNat_natCast] at h; exact h
theorem rinv_n {a x : Nat} (w : World) (ha : a < 256) (h0 : a ≠ 0) (hx : divN 1 a = x) :
    Calls Tryd.prog 56 #[.int .u8 a] w fun e w' => e = .returned (.int .u8 x) ∧ w = w' := by
  subst hx
  have h := refinv_is (a := a) w (B8_nat ha) (by omega) rfl
  unfold divI at h; rw [Int.toNat_natCast] at h; exact h
set_option maxHeartbeats 400000 in
theorem radd_n {a b x : Nat} (w : World) (ha : a < 256) (hb : b < 256) (hx : a ^^^ b = x) :
    Calls Tryd.prog 45 #[.int .u8 a, .int .u8 b] w fun e w' => e = .returned (.int .u8 x) ∧ w = w' := by
  have hx8 : x < 256 := hx ▸ xor_lt ha hb
  have HX : Hid _ := hx
  clear hx
  go_enter Tryd.func45, Tryd.ntmps45
  go_wp2_with fail
  refine (plus_any a b x _ (by omega) (by omega) HX.out).mono ?_
  rintro e w' ⟨rfl, rfl⟩
  go_wp2_with fail
  go_ret
  exact ⟨rfl, rfl⟩

set_option maxRecDepth 100000 in
set_option maxHeartbeats 1600000 in
theorem reval_any (oa : Option Addr) (n cp : Nat) (f : Nat → Nat) (x v : Nat) (w : World) (hb : Bytes w oa n f) (hn : n ≤ maxLen) (hx : x < 256) (hv : evalN f n x = v) :
    Calls Tryd.prog 46 #[.slice oa n cp, .int .u8 x] w fun e w' => e = .returned (.int .u8 v) ∧ w = w' := by
  have hm : (n : Int) ≤ 9223372036854775807 := by unfold maxLen at hn; omega
  have HB : Hid _ := hb
  have HV : Hid _ := hv
  clear hb hn hv
  go_enter Tryd.func46, Tryd.ntmps46
  go_wp2_with fail
  go_loop [5, 6, 7] (fun s p i => ∃ k : Nat, k ≤ n ∧ i = .int .i64 k ∧ s = .int .u8 (evalN f k x : Nat) ∧ p = .int .u8 (powN x k : Nat)) (fun _ _ i => n - (intOf i).toNat)
  case atStart => exact ⟨0, Nat.zero_le _, rfl, rfl, rfl⟩
  case round =>
    obtain ⟨k, hk, rfl, rfl, rfl⟩ := hrel
    by_cases hlt : k < n
    · obtain ⟨hfk, cb, co, rfl, hcell⟩ := HB.out k hlt
      have hk0 : (0 : Int) ≤ (k : Int) := by omega
      have hk1 : (k : Int) < (n : Int) := by omega
      have l1 := evalN_lt f k x
      have l2 := powN_lt x k
      have hs1 : evalN f (k + 1) x = evalN f k x ^^^ mulN (f k) (powN x k) := rfl
      have hs2 := powN_succ hx k
      have l3 := mulN_lt (f k) (powN x k)
      have HS1 : Hid _ := hs1
      have HS2 : Hid _ := hs2
      clear hs1 hs2 HV
      generalize evalN f k x = s at *
      generalize powN x k = p at *
      generalize f k = fk at *
      go_wp2_with fail
      refine (rmul_n _ hfk l2 rfl).mono ?_
      rintro e w' ⟨rfl, rfl⟩
      go_wp2_with fail
      refine (radd_n _ l1 l3 rfl).mono ?_
      rintro e w' ⟨rfl, rfl⟩
      go_wp2_with fail
      refine (rmul_n _ l2 hx rfl).mono ?_
      rintro e w' ⟨rfl, rfl⟩
      go_wp2_with fail
      go_round
      case rel => exact ⟨k + 1, by omega, by go_num, by rw [HS1.out], by rw [HS2.out]⟩
      case measure => simp [intOf]; omega
    · obtain rfl : k = n := by omega
      rw [HV.out]
      clear HV
      go_wp2_with fail
      go_ret
      exact ⟨rfl, rfl⟩

theorem seenB_no {f : Nat → Nat} {k v : Nat} (h : seenB f k v = false) (h2 : f k ≠ v) : seenB f (k + 1) v = false := by
  rw [seenB_succ, h]; simp [h2]
theorem seenB_hit {f : Nat → Nat} {j k v : Nat} (hj : j < k) (h2 : f j = v) : seenB f k v = true := seenB_iff.2 ⟨j, hj, h2⟩

set_option maxRecDepth 100000 in
set_option maxHeartbeats 2000000 in
theorem rmay_any (oa : Option Addr) (n cp : Nat) (f : Nat → Nat) (t : Bool) (w : World) (hb : Bytes w oa n f) (hn : n ≤ maxLen) (ht : placesB f n = t) :
    Calls Tryd.prog 54 #[.slice oa n cp] w fun e w' => e = .returned (.bool t) ∧ Below w.heap.size w w' := by
  have hm : (n : Int) ≤ 9223372036854775807 := by unfold maxLen at hn; omega
  have HB : Hid _ := hb
  have HT : Hid _ := ht
  clear hb ht hn
  by_cases h255 : n ≤ 255
  · have h255' : (n : Int) ≤ 255 := by omega
    go_enter Tryd.func54, Tryd.ntmps54
    go_wp2_with fail
    go_loopw [3] (fun i wr => ∃ k : Nat, k ≤ n ∧ i = .int .i64 k ∧ distB f k = true ∧ Below w.heap.size w wr) (fun i _ => n - (intOf i).toNat)
    case atStart => exact ⟨0, Nat.zero_le _, rfl, rfl, Below.refl _ _⟩
    case round =>
      obtain ⟨k, hk, rfl, hD, hO⟩ := hrel
      by_cases hlt : k < n
      · have hk0 : (0 : Int) ≤ (k : Int) := by omega
        have hk1 : (k : Int) < (n : Int) := by omega
        have HD : Hid _ := hD
        clear hD
        obtain ⟨wo, rfl⟩ : ∃ wo : World, wo = wr := ⟨_, rfl⟩
        go_wp2_with fail
        go_loopw [4] (fun j wr => ∃ q : Nat, q ≤ k ∧ j = .int .i64 q ∧ seenB f q (f k) = false ∧ Below w.heap.size w wr) (fun j _ => k - (intOf j).toNat)
        case atStart => exact ⟨0, Nat.zero_le _, rfl, rfl, hO⟩
        case round =>
          obtain ⟨q, hq, rfl, hS, hO2⟩ := hrel
          clear hO
          by_cases hlq : q < k
          · obtain ⟨hfq, cb, co, rfl, hcell⟩ := (Bytes.later HB.out hO2) q (by omega)
            obtain ⟨hfk, cb', co', e, hcell2⟩ := (Bytes.later HB.out hO2) k hlt
            cases e
            have hq0 : (0 : Int) ≤ (q : Int) := by omega
            have hq1 : (q : Int) < (n : Int) := by omega
            have hq2 : (q : Int) < (k : Int) := by omega
            by_cases he : f q = f k
            · have hd : distB f n = false := distB_no (seenB_hit hlq he) n hlt
              obtain rfl : t = false := by rw [← HT.out]; unfold placesB; rw [hd]; rfl
              have hbq : ((f q : Int) == (f k : Int)) = true := by rw [beq_iff_eq]; omega
              clear he hd HT hS
              generalize f q = fq at *
              generalize f k = fk at *
              go_wp2_with fail
              go_quiet (fail)
              go_wp2_with fail
              go_ret
              exact ⟨rfl, Below.drewN hO2 _⟩
            · have hS2 := seenB_no hS he
              have hbq : ((f q : Int) == (f k : Int)) = false := by rw [beq_eq_false_iff_ne]; omega
              have HS2 : Hid _ := hS2
              clear he hS hS2
              generalize f q = fq at *
              generalize hfk' : f k = fk at hcell2 hbq hfk
              have HFK : Hid _ := hfk'
              clear hfk'
              go_wp2_with fail
              go_quiet (fail)
              go_wp2_with fail
              go_roundw
              case rel => exact ⟨q + 1, by omega, by go_num, (by rw [← HFK.out]; exact HS2.out), Below.drewN hO2 _⟩
              case measure => simp [intOf]; omega
          · obtain rfl : q = k := by omega
            have hD2 : distB f (q + 1) = true := by show (distB f q && !seenB f q (f q)) = true; rw [HD.out, hS]; rfl
            have HD2 : Hid _ := hD2
            clear hS hD2
            go_wp2_with fail
            go_roundw
            case rel => exact ⟨q + 1, by omega, by go_num, HD2.out, hO2⟩
            case measure => simp [intOf]; omega
      · obtain rfl : k = n := by omega
        by_cases h1 : 1 ≤ k
        · obtain rfl : t = true := by rw [← HT.out]; exact placesB_iff.2 ⟨hD, h1, h255⟩
          have g2 : decide ((k : Int) ≤ 255) = true := decide_eq_true (by omega)
          clear hD
          go_wp2_with fail
          go_ret
          exact ⟨rfl, hO⟩
        · obtain rfl : t = false := by
            rw [← HT.out, Bool.eq_false_iff]; intro h; exact h1 (placesB_iff.1 h).2.1
          clear hD
          go_wp2_with fail
          go_ret
          exact ⟨rfl, hO⟩
  · obtain rfl : t = false := by
      rw [← HT.out, Bool.eq_false_iff]; intro h; exact h255 (placesB_iff.1 h).2.2
    have g2 : decide ((n : Int) ≤ 255) = false := decide_eq_false (by omega)
    have g3 : (1 : Int) ≤ (n : Int) := by omega
    have g4 : (0 : Int) < (n : Int) := by omega
    go_enter Tryd.func54, Tryd.ntmps54
    go_wp2_with fail
    refine wp_loop_rounds 1 ?_
    rw [rounds_succ]
    go_wp2_with fail
    go_ret
    exact ⟨rfl, Below.refl _ _⟩
end Go.Proofs.YtgiffaeckhhmpaaDoor
