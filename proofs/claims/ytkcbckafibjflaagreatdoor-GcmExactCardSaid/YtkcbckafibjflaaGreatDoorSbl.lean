/- Words by the box; what layer 8's laws ask of whatever input; the walk of SboxOnce. -/
import Derived.Test.YtkcbckafibjflaaGreatDoorSbox
namespace Go.Proofs.YtkcbckafibjflaaGreatDoor
set_option linter.unusedVariables false
set_option linter.unusedSimpArgs false
open Go.RowKit

def subI (x : Int) : Int := (subN x.toNat : Nat)
def backI (x : Int) : Int := (backN x.toNat : Nat)
theorem B8_sub (x : Int) : B8 (subI x) := B8_nat (subN_lt _)
theorem B8_back {x : Int} (h : B8 x) : B8 (backI x) := B8_nat (backN_lt h.lt)
theorem or_add {a b k : Nat} (hb : b < 2 ^ k) : (a * 2 ^ k) ||| b = a * 2 ^ k + b := by
  rw [Nat.mul_comm, ← Nat.two_pow_add_eq_or_of_lt hb a]
theorem u32_join {a b : Int} (k : Nat) (ha : 0 ≤ a) (hb : 0 ≤ b) (hbk : b < (2 ^ k : Nat)) (h : a * (2 ^ k : Nat) + b < 4294967296) : bits .or .u32 (a * (2 ^ k : Nat)) b = a * (2 ^ k : Nat) + b := by
  obtain ⟨n, rfl⟩ := Int.eq_ofNat_of_zero_le ha
  obtain ⟨m, rfl⟩ := Int.eq_ofNat_of_zero_le hb
  have h1 : m < 2 ^ k := by omega
  have h2 : ((n : Int) * ((2 ^ k : Nat) : Int)) = ((n * 2 ^ k : Nat) : Int) := (Int.natCast_mul _ _).symm
  rw [h2] at h ⊢
  rw [u32_or_nat _ _ (by omega) (by omega), or_add h1]; omega
theorem u32_join4 {y3 y2 y1 y0 : Int} (b3 : 0 ≤ y3 ∧ y3 < 256) (b2 : 0 ≤ y2 ∧ y2 < 256) (b1 : 0 ≤ y1 ∧ y1 < 256) (b0 : 0 ≤ y0 ∧ y0 < 256) :
    bits .or .u32 (bits .or .u32 (bits .or .u32 (y3 * 16777216) (y2 * 65536)) (y1 * 256)) y0 = y3 * 16777216 + y2 * 65536 + y1 * 256 + y0 := by
  have e1 := u32_join (a := y3) (b := y2 * 65536) 24 b3.1 (by omega) (by omega) (by omega)
  rw [show ((2 ^ 24 : Nat) : Int) = 16777216 from by decide] at e1
  have e2 := u32_join (a := y3 * 256 + y2) (b := y1 * 256) 16 (by omega) (by omega) (by omega) (by omega)
  rw [show ((2 ^ 16 : Nat) : Int) = 65536 from by decide, show (y3 * 256 + y2) * 65536 = y3 * 16777216 + y2 * 65536 from by omega] at e2
  have e3 := u32_join (a := y3 * 65536 + y2 * 256 + y1) (b := y0) 8 (by omega) (by omega) (by omega) (by omega)
  rw [show ((2 ^ 8 : Nat) : Int) = 256 from by decide, show (y3 * 65536 + y2 * 256 + y1) * 256 = y3 * 16777216 + y2 * 65536 + y1 * 256 from by omega] at e3
  rw [e1, e2, e3]

/-- What stands for the bytes of a word. -/
def wordI (x : Int) : Int := subI (x / 16777216) * 16777216 + subI (x / 65536 % 256) * 65536 + subI (x / 256 % 256) * 256 + subI (x % 256)

theorem LeftB.trans {b : Nat} {w w1 w2 : World} (h : LeftB b w w1) (k : LeftB b w1 w2) : LeftB b w w2 := ⟨k.1, h.2.trans k.2⟩

set_option maxRecDepth 100000 in
set_option maxHeartbeats 1600000 in
theorem word_any (b : Nat) (x : Int) (w : World) (h : BoxIn w b) (hx : 0 ≤ x ∧ x < 4294967296) :
    Calls Tryz.prog 31 #[.pointer (some ⟨b, 0, none⟩), .int .u32 x] w fun e w' => e = .returned (.int .u32 (wordI x)) ∧ LeftB b w w' := by
  unfold wordI
  obtain ⟨y3, h3⟩ : ∃ y, subI (x / 16777216) = y := ⟨_, rfl⟩
  obtain ⟨y2, h2⟩ : ∃ y, subI (x / 65536 % 256) = y := ⟨_, rfl⟩
  obtain ⟨y1, h1⟩ : ∃ y, subI (x / 256 % 256) = y := ⟨_, rfl⟩
  obtain ⟨y0, h0⟩ : ∃ y, subI (x % 256) = y := ⟨_, rfl⟩
  have b3 : 0 ≤ y3 ∧ y3 < 256 := h3 ▸ B8_sub _
  have b2 : 0 ≤ y2 ∧ y2 < 256 := h2 ▸ B8_sub _
  have b1 : 0 ≤ y1 ∧ y1 < 256 := h1 ▸ B8_sub _
  have b0 : 0 ≤ y0 ∧ y0 < 256 := h0 ▸ B8_sub _
  rw [h3, h2, h1, h0]
  have hj := u32_join4 b3 b2 b1 b0
  have H3 : Hid _ := h3
  have HJ : Hid _ := hj
  have H2 : Hid _ := h2
  have H1 : Hid _ := h1
  have H0 : Hid _ := h0
  clear h3 h2 h1 h0 hj
  go_enter Tryz.func31, Tryz.ntmps31
  go_wp2_with fail
  refine (sub_i (y := y3) _ h (by unfold B8; omega) H3.out).mono ?_
  rintro e w1 ⟨rfl, hL1⟩
  go_wp2_with fail
  refine (sub_i (y := y2) _ hL1.1 (by unfold B8; omega) H2.out).mono ?_
  rintro e w2 ⟨rfl, hL2⟩
  go_wp2_with fail
  refine (sub_i (y := y1) _ hL2.1 (by unfold B8; omega) H1.out).mono ?_
  rintro e w3 ⟨rfl, hL3⟩
  go_wp2_with fail
  refine (sub_i (y := y0) _ hL3.1 (by unfold B8; omega) H0.out).mono ?_
  rintro e w4 ⟨rfl, hL4⟩
  go_wp2_with fail
  go_ret
  exact ⟨by rw [← HJ.out]; rfl, hL1.trans (hL2.trans (hL3.trans hL4))⟩
theorem word_i {b : Nat} {x y : Int} (w : World) (h : BoxIn w b) (hx : 0 ≤ x ∧ x < 4294967296) (hy : wordI x = y) :
    Calls Tryz.prog 31 #[.pointer (some ⟨b, 0, none⟩), .int .u32 x] w fun e w' => e = .returned (.int .u32 y) ∧ LeftB b w w' := by
  subst hy; exact word_any b x w h hx

theorem subI_ne {x : Int} (h : B8 x) : subI x ≠ x := by
  have := sub_ne h.lt; unfold subI; unfold B8 at h; omega
theorem subI_inj {x y : Int} (hx : B8 x) (hy : B8 y) (h : subI x = subI y) : x = y := by
  have := sub_inj hx.lt hy.lt (by unfold subI at h; omega); unfold B8 at hx hy; omega
theorem back_subI {x : Int} (h : B8 x) : backI (subI x) = x := by
  unfold backI subI; rw [Int.toNat_natCast, back_sub h.lt]; unfold B8 at h; omega
theorem sub_backI {x : Int} (h : B8 x) : subI (backI x) = x := by
  unfold backI subI; rw [Int.toNat_natCast, sub_back h.lt]; unfold B8 at h; omega

end Go.Proofs.YtkcbckafibjflaaGreatDoor
