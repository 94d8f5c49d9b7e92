/- Places, and what they count for: contracts of poly.places, poly.weight. -/
import Derived.Test.YtgiffaeckhhmpaaDoorPoEval
import Derived.Test.YtgiffaeckhhmpaaDoorApA
import Derived.Test.YtgiffaeckhhmpaaDoorGfA
namespace Go.Proofs.YtgiffaeckhhmpaaDoor
set_option linter.unusedVariables false
set_option linter.unusedSimpArgs false
open Go.RowKit

/-- Is a number among the first k? -/
def seenB (f : Nat → Nat) (k v : Nat) : Bool := (List.range k).any fun i => f i == v
theorem seenB_succ (f : Nat → Nat) (k v : Nat) : seenB f (k + 1) v = (seenB f k v || f k == v) := by
  unfold seenB; rw [List.range_succ, List.any_append]; simp
theorem seenB_iff {f : Nat → Nat} {k v : Nat} : seenB f k v = true ↔ ∃ i, i < k ∧ f i = v := by
  unfold seenB; simp
/-- Are the first n all unlike? -/
def distB (f : Nat → Nat) : Nat → Bool | 0 => true | n + 1 => distB f n && !seenB f n (f n)
theorem distB_no {f : Nat → Nat} {k : Nat} (h : seenB f k (f k) = true) : ∀ n, k < n → distB f n = false
  | 0, hk => absurd hk (Nat.not_lt_zero _)
  | n + 1, hk => by
    show (distB f n && !seenB f n (f n)) = false
    by_cases e : k = n
    · subst e; rw [h]; simp
    · rw [distB_no h n (by omega)]; rfl
theorem distB_ne {f : Nat → Nat} : ∀ {n : Nat}, distB f n = true → ∀ i j, i < j → j < n → f i ≠ f j
  | 0, _, i, j, _, hj => absurd hj (Nat.not_lt_zero _)
  | n + 1, h, i, j, hij, hj => by
    have h' : (distB f n && !seenB f n (f n)) = true := h
    rw [Bool.and_eq_true] at h'
    by_cases e : j = n
    · subst e
      intro hc
      have := seenB_iff.2 ⟨i, hij, hc⟩
      rw [this] at h'; simp at h'
    · exact distB_ne h'.1 i j hij (by omega)
/-- May places be? -/
def placesB (f : Nat → Nat) (n : Nat) : Bool := distB f n && (decide (1 ≤ n) && decide (n ≤ 255))
theorem placesB_iff {f : Nat → Nat} {n : Nat} : placesB f n = true ↔ distB f n = true ∧ 1 ≤ n ∧ n ≤ 255 := by
  unfold placesB; simp
def boolC (f : Nat → Nat) (k : Nat) : List Value := (List.range 256).map fun v => Value.bool (seenB f k v)
theorem boolC_len (f : Nat → Nat) (k : Nat) : (boolC f k).length = 256 := by unfold boolC; rw [List.length_map, List.length_range]
theorem boolC_get (f : Nat → Nat) (k : Nat) {v : Nat} (h : v < 256) : (boolC f k)[v]? = some (.bool (seenB f k v)) := by
  unfold boolC; rw [List.getElem?_map, List.getElem?_range h]; rfl
theorem boolC_set (f : Nat → Nat) (k : Nat) : (boolC f k).set (f k) (.bool true) = boolC f (k + 1) := by
  refine List.ext_getElem? fun i => ?_
  by_cases hi : i < 256
  · rw [boolC_get _ _ hi, seenB_succ]
    by_cases e : f k = i
    · subst e; rw [List.getElem?_set_self (by simp [boolC]; exact hi)]; simp
    · rw [List.getElem?_set_ne e, boolC_get _ _ hi]; simp [e]
  · rw [List.getElem?_eq_none (by simp [boolC]; omega), List.getElem?_eq_none (by simp [boolC]; omega)]
def zeroB : Array Value := (List.replicate 256 (Value.bool false)).toArray
theorem boolC_zero (f : Nat → Nat) : boolC f 0 = List.replicate 256 (Value.bool false) := by
  refine List.ext_getElem? fun i => ?_
  by_cases hi : i < 256
  · rw [boolC_get _ _ hi, List.getElem?_replicate, if_pos hi]; rfl
  · rw [List.getElem?_eq_none (by rw [boolC_len]; omega), List.getElem?_eq_none (by rw [List.length_replicate]; omega)]
theorem zeroB_run (w : World) : (zeroValue 136).run Tryd.prog w = .ok (.agg zeroB) w := by kernel_rfl

set_option maxRecDepth 100000 in
set_option maxHeartbeats 1600000 in
theorem places_any (oa : Option Addr) (n cp : Nat) (f : Nat → Nat) (t : Bool) (w : World) (hb : Bytes w oa n f) (hn : n ≤ maxLen) (ht : placesB f n = t) :
    Calls Tryd.prog 60 #[.slice oa n cp] w fun e w' => e = .returned (.bool t) ∧ Below w.heap.size w w' := by
  have hm : (n : Int) ≤ 9223372036854775807 := by unfold maxLen at hn; omega
  have HB : Hid _ := hb
  have HT : Hid _ := ht
  have hz := zeroB_run
  clear hb ht hn
  obtain ⟨sb, hsb⟩ : ∃ sb, w.heap.size = sb := ⟨_, rfl⟩
  have HS : Hid _ := hsb
  go_enter Tryd.func60, Tryd.ntmps60
  go_wp2_with fail
  go_loopw [8] (fun i wr => ∃ k : Nat, k ≤ n ∧ i = .int .i64 k ∧ Blk wr sb (boolC f k).toArray 136 ∧ distB f k = true ∧ Below sb w wr) (fun i _ => n - (intOf i).toNat)
  case atStart =>
    refine ⟨0, Nat.zero_le _, rfl, ?_, rfl, ?_⟩
    · rw [boolC_zero, ← HS.out]; exact Blk.new _ _ _
    · rw [← HS.out]; exact (Below.refl _ _).alloc (Nat.le_refl _) _
  case round =>
    obtain ⟨k, hk, rfl, hC, hD, hO⟩ := hrel
    clear hz
    by_cases hlt : k < n
    · obtain ⟨hfk, cb, co, rfl, hcell⟩ := (Bytes.later HB.out (HS.out ▸ hO)) k hlt
      have hk0 : (0 : Int) ≤ (k : Int) := by omega
      have hk1 : (k : Int) < (n : Int) := by omega
      have hsc : wr.cell? ⟨sb, f k, none⟩ = some (.bool (seenB f k (f k))) := by rw [Blk.cell hC]; simpa using boolC_get f k hfk
      have hfz : wr.frozen? ⟨sb, f k, none⟩ = false := Blk.free hC _
      rcases hs : seenB f k (f k) with _ | _
      · have hC2 := Blk.set hC (f k) (.bool true)
        rw [List.setIfInBounds_toArray, boolC_set] at hC2
        have hD2 : distB f (k + 1) = true := by show (distB f k && !seenB f k (f k)) = true; rw [hD, hs]; rfl
        have HD : Hid _ := hD2
        have HC : Hid _ := hC2
        rw [hs] at hsc
        clear hs hD hD2 hC hC2
        generalize f k = fk at *
        go_wp2_with fail
        go_roundw
        case rel => exact ⟨k + 1, by omega, by go_num, HC.out, HD.out, hO.setCell (Nat.le_refl _) _⟩
        case measure => simp [intOf]; omega
      · have hf : t = false := by rw [← HT.out]; unfold placesB; rw [distB_no hs n hlt]; rfl
        subst hf
        rw [hs] at hsc
        clear hs hD HT
        generalize f k = fk at *
        go_wp2_with fail
        go_ret
        exact ⟨rfl, HS.out ▸ hO⟩
    · obtain rfl : k = n := by omega
      by_cases h1 : 1 ≤ k
      · by_cases h2 : k ≤ 255
        · obtain rfl : t = true := by rw [← HT.out]; exact placesB_iff.2 ⟨hD, h1, h2⟩
          have g2 : decide ((k : Int) ≤ 255) = true := decide_eq_true (by omega)
          go_wp2_with fail
          go_ret
          exact ⟨rfl, HS.out ▸ hO⟩
        · obtain rfl : t = false := by
            rw [← HT.out, Bool.eq_false_iff]; intro h; exact h2 (placesB_iff.1 h).2.2
          have g2 : decide ((k : Int) ≤ 255) = false := decide_eq_false (by omega)
          go_wp2_with fail
          go_ret
          exact ⟨rfl, HS.out ▸ hO⟩
      · obtain rfl : t = false := by
          rw [← HT.out, Bool.eq_false_iff]; intro h; exact h1 (placesB_iff.1 h).2.1
        go_wp2_with fail
        go_ret
        exact ⟨rfl, HS.out ▸ hO⟩

theorem div_keep {tb a c cb ck : Nat} {v : Value} (w : World) (h : TabIn w tb) (ha : a < 256) (hc : c < 256) (hc0 : c ≠ 0) (hcell : w.cell? ⟨cb, ck, none⟩ = some v) (hn : cb ≠ tb) :
    Calls Tryd.prog 67 #[.pointer (some ⟨tb, 0, none⟩), .int .u8 a, .int .u8 c] w fun e w' => e = .returned (.tuple #[.int .u8 (divN a c), .nilIface]) ∧ Left tb w w' ∧ w'.cell? ⟨cb, ck, none⟩ = some v :=
  (div_any tb a c w h ha hc hc0).mono fun e w' ⟨he, hl⟩ => ⟨he, hl, hl.2.cell hcell hn⟩

/-- What a place counts for: behind the first k. -/
def wF (f : Nat → Nat) (a x : Nat) : Nat → Nat | 0 => 1 | k + 1 => if k = a then wF f a x k else mulN (wF f a x k) (divN (x ^^^ f k) (f a ^^^ f k))
theorem wF_lt (f : Nat → Nat) (a x : Nat) : ∀ k, wF f a x k < 256
  | 0 => by show (1 : Nat) < 256; decide
  | k + 1 => by
    show (if k = a then wF f a x k else mulN (wF f a x k) (divN (x ^^^ f k) (f a ^^^ f k))) < 256
    split
    · exact wF_lt f a x k
    · exact mulN_lt _ _
theorem xor_ne_zero {a b : Nat} (h : a ≠ b) : a ^^^ b ≠ 0 := by
  intro e
  apply h
  have h2 : (a ^^^ b) ^^^ b = 0 ^^^ b := by rw [e]
  rw [Nat.xor_assoc, Nat.xor_self, Nat.xor_zero, Nat.zero_xor] at h2; exact h2

set_option maxRecDepth 100000 in
set_option maxHeartbeats 2000000 in
theorem weight_any (tb : Nat) (oa : Option Addr) (n cp : Nat) (f : Nat → Nat) (a x : Nat) (w : World) (h : TabIn w tb) (hb : Bytes w oa n f) (ha : Apart tb oa n) (hn : n ≤ maxLen) (hx : x < 256)
    (han : a < n) (hd : distB f n = true) :
    Calls Tryd.prog 61 #[.pointer (some ⟨tb, 0, none⟩), .slice oa n cp, .int .i64 a, .int .u8 x] w fun e w' => e = .returned (.tuple #[.int .u8 (wF f a x n : Nat), .nilIface]) ∧ Left tb w w' := by
  have hm : (n : Int) ≤ 9223372036854775807 := by unfold maxLen at hn; omega
  have HB : Hid _ := hb
  have HA : Hid _ := ha
  have HD : Hid _ := hd
  clear hb ha hn hd
  go_enter Tryd.func61, Tryd.ntmps61
  go_wp2_with fail
  go_loopw [10, 17] (fun p i wr => ∃ k : Nat, k ≤ n ∧ i = .int .i64 k ∧ p = .int .u8 (wF f a x k : Nat) ∧ TabIn wr tb ∧ Own tb w wr) (fun _ i _ => n - (intOf i).toNat)
  case atStart => exact ⟨0, Nat.zero_le _, rfl, rfl, h, Own.refl _ _⟩
  case round =>
    obtain ⟨k, hk, rfl, rfl, hT, hO⟩ := hrel
    by_cases hlt : k < n
    · obtain ⟨hfk, cb, co, rfl, hcell⟩ := (Bytes.own HB.out hO HA.out) k hlt
      have hne : cb ≠ tb := HA.out (by omega) _ rfl
      have hk0 : (0 : Int) ≤ (k : Int) := by omega
      have hk1 : (k : Int) < (n : Int) := by omega
      have ha0 : (0 : Int) ≤ (a : Int) := by omega
      have ha1 : (a : Int) < (n : Int) := by omega
      have hp := wF_lt f a x k
      by_cases hka : k = a
      · have hs : wF f a x (k + 1) = wF f a x k := if_pos hka
        have hb : ((k : Int) == (a : Int)) = true := by rw [beq_iff_eq]; omega
        have HS : Hid _ := hs
        clear hs hka
        generalize f k = fk at *
        generalize wF f a x k = p at *
        go_wp2_with fail
        go_roundw
        case rel => exact ⟨k + 1, by omega, by go_num, by rw [HS.out], hT, hO⟩
        case measure => simp [intOf]; omega
      · have hs : wF f a x (k + 1) = mulN (wF f a x k) (divN (x ^^^ f k) (f a ^^^ f k)) := if_neg hka
        have hb : ((k : Int) == (a : Int)) = false := by rw [beq_eq_false_iff_ne]; omega
        obtain ⟨hfa, cb', co', e, hcella⟩ := (Bytes.own HB.out hO HA.out) a han
        cases e
        have hdf : f a ^^^ f k ≠ 0 := by
          apply xor_ne_zero
          rcases Nat.lt_or_ge k a with h1 | h1
          · exact fun h2 => distB_ne HD.out k a h1 han h2.symm
          · exact distB_ne HD.out a k (by omega) hlt
        have l1 : x ^^^ f k < 256 := xor_lt hx hfk
        have l2 : f a ^^^ f k < 256 := xor_lt hfa hfk
        have l3 := divN_lt (x ^^^ f k) (f a ^^^ f k)
        have HS : Hid _ := hs
        have HDF : Hid _ := hdf
        clear hs hka hdf
        generalize f k = fk at *
        generalize f a = fa at *
        generalize wF f a x k = p at *
        go_wp2_with fail
        go_region_held3 (fun w' => w'.cell? ⟨cb, co + a, none⟩ = some (.int .u8 fa)) (go_keep)
          (first
            | (go_at_call 34; refine (add_any _ _ _ ?_ ?_).mono ?_; assumption; assumption; rintro e w' ⟨rfl, rfl⟩)
            | (go_at_call 67; refine (div_keep (cb := cb) (ck := co + a) (v := .int .u8 fa) _ ?_ l1 l2 HDF.out ?_ hne).mono ?_; exact hT; assumption; rintro e w1 ⟨rfl, hL1, hc1⟩))
        go_wp2_with fail
        refine (mul_any tb p _ _ hL1.1 hp l3).mono ?_
        rintro e w2 ⟨rfl, hL2⟩
        go_wp2_with fail
        go_roundw
        case rel => exact ⟨k + 1, by omega, by go_num, by rw [HS.out], hL2.1, hO.trans (hL1.undrew.2.trans hL2.2)⟩
        case measure => simp [intOf]; omega
    · obtain rfl : k = n := by omega
      obtain ⟨p, hp⟩ : ∃ p, wF f a x k = p := ⟨_, rfl⟩
      have HP : Hid _ := hp
      rw [hp]
      clear hp
      go_wp2_with fail
      go_ret2
      exact ⟨by rw [HP.out]; rfl, hT, hO⟩

end Go.Proofs.YtgiffaeckhhmpaaDoor
