/- Contracts of package same's functions: each returns what it returns, and leaves the memory as it was. -/
import Derived.Test.YtnkbnlmbjbdmmaaRow
import Derived.WalkKit
import Derived.WalkSpells
import Derived.WalkLawsBesides
import Derived.Lib.Hide
import Derived.Outline
namespace Go.Proofs.Ytnkbnlmbjbdmmaa
set_option linter.unusedVariables false
set_option linter.unusedSimpArgs false
open Go.RowKit

set_option maxHeartbeats 400000 in
theorem at_in (b off cap : Nat) (n : Nat) (i : Nat) (x : Int) (w : World) (hi : i < n)
    (hc : w.cell? ⟨b, off + i, none⟩ = some (.int .u8 x)) :
    Calls Try.prog 11 #[.slice (some ⟨b, off, none⟩) n cap, .int .i64 i] w fun e w' => e = .returned (.int .u8 x) ∧ w = w' := by
  go_enter Try.func11, Try.ntmps11
  go_wp2
  go_ret
  exact ⟨rfl, rfl⟩

set_option maxHeartbeats 400000 in
theorem at_out (oa : Option Addr) (cap : Nat) (n : Nat) (i : Nat) (w : World) (hi : n ≤ i) :
    Calls Try.prog 11 #[.slice oa n cap, .int .i64 i] w fun e w' => e = .returned (.int .u8 0) ∧ w = w' := by
  go_enter Try.func11, Try.ntmps11
  go_wp2
  go_ret
  exact ⟨rfl, rfl⟩

/-- The byte in a place, or 0. -/
def nth (f : Nat → Nat) (n i : Nat) : Nat := if i < n then f i else 0

theorem nth_bd {w : World} {oa : Option Addr} {n : Nat} {f : Nat → Nat} (h : Bytes w oa n f) (i : Nat) : nth f n i < 256 := by
  unfold nth; split
  · rename_i hi; exact (h i hi).1
  · omega

theorem at_any (oa : Option Addr) (cap n i : Nat) (f : Nat → Nat) (w : World) (h : Bytes w oa n f) :
    Calls Try.prog 11 #[.slice oa n cap, .int .i64 i] w fun e w' => e = .returned (.int .u8 (nth f n i)) ∧ w = w' := by
  rcases Nat.lt_or_ge i n with hi | hi
  · obtain ⟨_, b, off, rfl, hc⟩ := h i hi
    have e : nth f n i = f i := by unfold nth; rw [if_pos hi]
    rw [e]; exact at_in b off cap n i (f i) w hi hc
  · have e : nth f n i = 0 := by unfold nth; rw [if_neg (by omega)]
    rw [e]; exact at_out oa cap n i w hi

theorem nat_xor_zero (a b : Nat) : a ^^^ b = 0 ↔ a = b := by
  constructor
  · intro h
    have : (a ^^^ b) ^^^ b = 0 ^^^ b := by rw [h]
    rw [Nat.xor_assoc, Nat.xor_self, Nat.xor_zero, Nat.zero_xor] at this
    exact this
  · rintro rfl; exact Nat.xor_self a
/-- What is unlike is gathered. -/
theorem gather (z a b : Nat) (hz : z < 256) (ha : a < 256) (hb : b < 256) :
    bits .or .u8 (z : Int) (bits .xor .u8 (a : Int) (b : Int)) = ((z ||| (a ^^^ b) : Nat) : Int) ∧ z ||| (a ^^^ b) < 256 ∧ (z ||| (a ^^^ b) = 0 ↔ z = 0 ∧ a = b) := by
  have hx : a ^^^ b < 256 := Nat.xor_lt_two_pow (n := 8) ha hb
  refine ⟨by rw [u8_xor_nat a b ha hb, u8_or_nat z _ hz hx], Nat.or_lt_two_pow (n := 8) hz hx, ?_⟩
  rw [Nat.or_eq_zero_iff, nat_xor_zero]

/-- So far no place is unlike. -/
def AllSame (z k : Nat) (f g : Nat → Nat) (n m : Nat) : Prop := z < 256 ∧ (z = 0 ↔ ∀ i, i < k → nth f n i = nth g m i)

theorem allSame_zero (f g : Nat → Nat) (n m : Nat) : AllSame 0 0 f g n m := ⟨by omega, by simp⟩
theorem allSame_succ {w : World} {oa ob : Option Addr} {z k : Nat} {f g : Nat → Nat} {n m : Nat} (hf : Bytes w oa n f) (hg : Bytes w ob m g) (h : AllSame z k f g n m) :
    AllSame (z ||| (nth f n k ^^^ nth g m k)) (k + 1) f g n m := by
  obtain ⟨_, h2, h3⟩ := gather z _ _ h.1 (nth_bd hf k) (nth_bd hg k)
  refine ⟨h2, ?_⟩
  rw [h3, h.2]
  constructor
  · rintro ⟨p, q⟩ i hi
    rcases Nat.lt_or_ge i k with h | h
    · exact p i h
    · obtain rfl : i = k := by omega
      exact q
  · intro p; exact ⟨fun i hi => p i (by omega), p k (by omega)⟩

/-- Are they the same bytes? -/
def eqB (f g : Nat → Nat) (n m : Nat) : Bool := decide (n = m ∧ ∀ i, i < n → f i = g i)

theorem allSame_eq {z : Nat} {f g : Nat → Nat} {n : Nat} (h : AllSame z n f g n n) : (((z : Int) == 0) = true ↔ eqB f g n n = true) := by
  unfold eqB
  rw [decide_eq_true_iff, beq_iff_eq]
  have : ((z : Int) = 0) ↔ z = 0 := by omega
  rw [this, h.2]
  constructor
  · intro p; refine ⟨rfl, fun i hi => ?_⟩
    have := p i hi; unfold nth at this; rw [if_pos hi, if_pos hi] at this; exact this
  · rintro ⟨_, p⟩ i hi; unfold nth; rw [if_pos hi, if_pos hi]; exact p i hi
theorem eqB_ne {f g : Nat → Nat} {n m : Nat} (h : n ≠ m) : eqB f g n m = false := by
  unfold eqB; rw [decide_eq_false_iff_not]; rintro ⟨p, _⟩; exact h p

set_option maxHeartbeats 400000 in
theorem equal_lt (oa ob : Option Addr) (ca cb n m : Nat) (f g : Nat → Nat) (w : World) (hn : n ≤ 1000) (hm : m ≤ 1000) (hnm : n < m) (hf : Bytes w oa n f) (hg : Bytes w ob m g) :
    Calls Try.prog 6 #[.slice oa n ca, .slice ob m cb] w fun e w' => e = .returned (.tuple #[.bool (eqB f g n m), .int .i64 m]) ∧ w = w' := by
  go_enter Try.func6, Try.ntmps6
  go_wp2
  go_loop [7, 15] (fun u c => ∃ k : Nat, k ≤ m ∧ c = .int .i64 k ∧ ∃ z : Nat, u = .int .u8 z ∧ AllSame z k f g n m) (fun _ c => m - (intOf c).toNat)
  case atStart => exact ⟨0, by omega, rfl, 0, rfl, allSame_zero f g n m⟩
  case round =>
    obtain ⟨k, hk, rfl, z, rfl, hz⟩ := hrel
    by_cases hlt : k < m
    · go_wp2_with fail
      refine (at_any _ _ _ _ _ _ hf).mono ?_
      rintro e w' ⟨rfl, rfl⟩
      go_wp2_with fail
      refine (at_any _ _ _ _ _ _ hg).mono ?_
      rintro e w' ⟨rfl, rfl⟩
      go_wp2_with fail
      go_round
      case rel => exact ⟨k + 1, by omega, by go_num, _, by rw [(gather z _ _ hz.1 (nth_bd hf k) (nth_bd hg k)).1], allSame_succ hf hg hz⟩
      case measure => simp [intOf]; omega
    · obtain rfl : m = k := by omega
      have hne : ((n : Int) == m) = false := by rw [beq_eq_false_iff_ne]; omega
      have he : eqB f g n m = false := eqB_ne (by omega)
      have He : Hid _ := he
      clear he
      by_cases hz0 : z = 0
      · subst hz0
        go_wp2
        go_ret2
        exact ⟨by rw [He.out]; rfl, rfl⟩
      · have hz0' : ((z : Int) == 0) = false := by rw [beq_eq_false_iff_ne]; omega
        go_wp2
        go_ret2
        exact ⟨by rw [He.out]; rfl, rfl⟩

set_option maxHeartbeats 400000 in
theorem equal_gt (oa ob : Option Addr) (ca cb n m : Nat) (f g : Nat → Nat) (w : World) (hn : n ≤ 1000) (_ : m ≤ 1000) (hnm : m < n) (hf : Bytes w oa n f) (hg : Bytes w ob m g) :
    Calls Try.prog 6 #[.slice oa n ca, .slice ob m cb] w fun e w' => e = .returned (.tuple #[.bool (eqB f g n m), .int .i64 n]) ∧ w = w' := by
  go_enter Try.func6, Try.ntmps6
  go_wp2
  go_loop [7, 15] (fun u c => ∃ k : Nat, k ≤ n ∧ c = .int .i64 k ∧ ∃ z : Nat, u = .int .u8 z ∧ AllSame z k f g n m) (fun _ c => n - (intOf c).toNat)
  case atStart => exact ⟨0, by omega, rfl, 0, rfl, allSame_zero f g n m⟩
  case round =>
    obtain ⟨k, hk, rfl, z, rfl, hz⟩ := hrel
    by_cases hlt : k < n
    · go_wp2_with fail
      refine (at_any _ _ _ _ _ _ hf).mono ?_
      rintro e w' ⟨rfl, rfl⟩
      go_wp2_with fail
      refine (at_any _ _ _ _ _ _ hg).mono ?_
      rintro e w' ⟨rfl, rfl⟩
      go_wp2_with fail
      go_round
      case rel => exact ⟨k + 1, by omega, by go_num, _, by rw [(gather z _ _ hz.1 (nth_bd hf k) (nth_bd hg k)).1], allSame_succ hf hg hz⟩
      case measure => simp [intOf]; omega
    · obtain rfl : n = k := by omega
      have hne : ((n : Int) == m) = false := by rw [beq_eq_false_iff_ne]; omega
      have he : eqB f g n m = false := eqB_ne (by omega)
      have He : Hid _ := he
      clear he
      by_cases hz0 : z = 0
      · subst hz0
        go_wp2
        go_ret2
        exact ⟨by rw [He.out]; rfl, rfl⟩
      · have hz0' : ((z : Int) == 0) = false := by rw [beq_eq_false_iff_ne]; omega
        go_wp2
        go_ret2
        exact ⟨by rw [He.out]; rfl, rfl⟩

set_option maxHeartbeats 400000 in
theorem equal_eq (oa ob : Option Addr) (ca cb n : Nat) (f g : Nat → Nat) (w : World) (hn : n ≤ 1000)   (hf : Bytes w oa n f) (hg : Bytes w ob n g) :
    Calls Try.prog 6 #[.slice oa n ca, .slice ob n cb] w fun e w' => e = .returned (.tuple #[.bool (eqB f g n n), .int .i64 n]) ∧ w = w' := by
  go_enter Try.func6, Try.ntmps6
  go_wp2
  go_loop [7, 15] (fun u c => ∃ k : Nat, k ≤ n ∧ c = .int .i64 k ∧ ∃ z : Nat, u = .int .u8 z ∧ AllSame z k f g n n) (fun _ c => n - (intOf c).toNat)
  case atStart => exact ⟨0, by omega, rfl, 0, rfl, allSame_zero f g n n⟩
  case round =>
    obtain ⟨k, hk, rfl, z, rfl, hz⟩ := hrel
    by_cases hlt : k < n
    · go_wp2_with fail
      refine (at_any _ _ _ _ _ _ hf).mono ?_
      rintro e w' ⟨rfl, rfl⟩
      go_wp2_with fail
      refine (at_any _ _ _ _ _ _ hg).mono ?_
      rintro e w' ⟨rfl, rfl⟩
      go_wp2_with fail
      go_round
      case rel => exact ⟨k + 1, by omega, by go_num, _, by rw [(gather z _ _ hz.1 (nth_bd hf k) (nth_bd hg k)).1], allSame_succ hf hg hz⟩
      case measure => simp [intOf]; omega
    · obtain rfl : n = k := by omega
      have he := allSame_eq hz
      have He : Hid _ := he
      clear he
      by_cases hz0 : z = 0
      · subst hz0
        go_wp2
        go_ret2
        exact ⟨by rw [He.out.1 rfl]; rfl, rfl⟩
      · have hz0' : ((z : Int) == 0) = false := by rw [beq_eq_false_iff_ne]; omega
        have hf' : eqB f g n n = false := by rw [← Bool.not_eq_true, ← He.out, hz0']; simp
        have Hf : Hid _ := hf'
        clear hf'
        go_wp2
        go_ret2
        exact ⟨by rw [Hf.out]; rfl, rfl⟩


theorem equal_any (oa ob : Option Addr) (ca cb n m : Nat) (f g : Nat → Nat) (w : World) (hn : n ≤ 1000) (hm : m ≤ 1000) (hf : Bytes w oa n f) (hg : Bytes w ob m g) :
    Calls Try.prog 6 #[.slice oa n ca, .slice ob m cb] w fun e w' => e = .returned (.tuple #[.bool (eqB f g n m), .int .i64 (max n m : Nat)]) ∧ w = w' := by
  rcases Nat.lt_trichotomy n m with h | h | h
  · rw [Nat.max_eq_right (by omega)]; exact equal_lt oa ob ca cb n m f g w hn hm h hf hg
  · subst h; rw [Nat.max_self]; exact equal_eq oa ob ca cb n f g w hn hf hg
  · rw [Nat.max_eq_left (by omega)]; exact equal_gt oa ob ca cb n m f g w hn hm h hf hg

end Go.Proofs.Ytnkbnlmbjbdmmaa
