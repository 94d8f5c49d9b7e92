/- The field's operations over integers, and their contracts. -/
import Derived.Test.YtkcbckafibjflaaGreatDoorGfNew
namespace Go.Proofs.YtkcbckafibjflaaGreatDoor
set_option linter.unusedVariables false
set_option linter.unusedSimpArgs false
open Go.RowKit

/-- A byte. -/
def B8 (a : Int) : Prop := 0 ≤ a ∧ a < 256
def mulI (a c : Int) : Int := (mulN a.toNat c.toNat : Nat)
def xorI (a c : Int) : Int := (a.toNat ^^^ c.toNat : Nat)
def divI (a c : Int) : Int := (divN a.toNat c.toNat : Nat)
def powI (a n : Int) : Int := (powN a.toNat n.toNat : Nat)
def logI (a : Int) : Int := (logN a.toNat : Nat)

theorem B8.nat {a : Int} (h : B8 a) : ∃ n : Nat, n < 256 ∧ a = n := ⟨a.toNat, by unfold B8 at h; omega, by unfold B8 at h; omega⟩
theorem B8.lt {a : Int} (h : B8 a) : a.toNat < 256 := by unfold B8 at h; omega
theorem B8_nat {n : Nat} (h : n < 256) : B8 (n : Int) := by unfold B8; omega
theorem B8_mul (a c : Int) : B8 (mulI a c) := B8_nat (mulN_lt _ _)
theorem B8_xor {a c : Int} (ha : B8 a) (hc : B8 c) : B8 (xorI a c) := B8_nat (xor_lt ha.lt hc.lt)
theorem B8_div (a c : Int) : B8 (divI a c) := B8_nat (divN_lt _ _)
theorem B8_pow (a n : Int) : B8 (powI a n) := B8_nat (powN_lt _ _)
theorem logI_bd {a : Int} (h : B8 a) : 0 ≤ logI a ∧ logI a < 255 := by have := log_lt h.lt; unfold logI; omega
theorem B8_lit (n : Nat) (h : n < 256) : B8 (n : Int) := B8_nat h
theorem toNat_ne {a : Int} (h : B8 a) (h0 : a ≠ 0) : a.toNat ≠ 0 := by unfold B8 at h; omega

theorem mulI_comm (a c : Int) : mulI a c = mulI c a := by unfold mulI; rw [mulN_comm]
theorem mulI_assoc (a b c : Int) : mulI a (mulI b c) = mulI (mulI a b) c := by unfold mulI; rw [Int.toNat_natCast, Int.toNat_natCast, mulN_assoc]
theorem mulI_one {a : Int} (h : B8 a) : mulI a 1 = a := by unfold mulI; rw [show (1 : Int).toNat = 1 from rfl, mulN_one h.lt]; unfold B8 at h; omega
theorem mulI_xor (a : Int) {b c : Int} (hb : B8 b) (hc : B8 c) : mulI a (xorI b c) = xorI (mulI a b) (mulI a c) := by
  unfold mulI xorI; rw [Int.toNat_natCast, Int.toNat_natCast, Int.toNat_natCast, mulN_xor _ hb.lt hc.lt]
theorem mulI_zero_left (c : Int) : mulI 0 c = 0 := by unfold mulI; rw [show (0 : Int).toNat = 0 from rfl, mulN_zero_left]; rfl
theorem mulI_zero_right (a : Int) : mulI a 0 = 0 := by rw [mulI_comm]; exact mulI_zero_left a
theorem mulI_ne {a c : Int} (ha : B8 a) (hc : B8 c) (ha0 : a ≠ 0) (hc0 : c ≠ 0) : mulI a c ≠ 0 := by
  have := mulN_ne (toNat_ne ha ha0) (toNat_ne hc hc0); unfold mulI; omega
theorem xorI_self (a : Int) : xorI a a = 0 := by unfold xorI; rw [Nat.xor_self]; rfl
theorem xorI_zero {a : Int} (h : B8 a) : xorI a 0 = a := by unfold xorI; rw [show (0 : Int).toNat = 0 from rfl, Nat.xor_zero]; unfold B8 at h; omega
theorem xorI_comm (a c : Int) : xorI a c = xorI c a := by unfold xorI; rw [Nat.xor_comm]
theorem xorI_assoc (a b c : Int) : xorI a (xorI b c) = xorI (xorI a b) c := by unfold xorI; rw [Int.toNat_natCast, Int.toNat_natCast, Nat.xor_assoc]
theorem div_mulI {a b : Int} (ha : B8 a) (hb : B8 b) (hb0 : b ≠ 0) : mulI (divI a b) b = a := by
  unfold mulI divI; rw [Int.toNat_natCast, div_mul ha.lt (toNat_ne hb hb0) hb.lt]; unfold B8 at ha; omega
theorem divI_zero (c : Int) : divI 0 c = 0 := by unfold divI; rw [show (0 : Int).toNat = 0 from rfl, show divN 0 c.toNat = 0 from if_pos rfl]; rfl

theorem div_i {b : Nat} {a c x : Int} (w : World) (h : TabIn w b) (ha : B8 a) (hc : B8 c) (hc0 : c ≠ 0) (hx : divI a c = x) :
    Calls Tryz.prog 72 #[.pointer (some ⟨b, 0, none⟩), .int .u8 a, .int .u8 c] w fun e w' => e = .returned (.tuple #[.int .u8 x, .nilIface]) ∧ Left b w w' := by
  subst hx
  obtain ⟨n, hn, rfl⟩ := ha.nat
  obtain ⟨m, hm, rfl⟩ := hc.nat
  have := div_any b n m w h hn hm (by omega)
  unfold divI; rw [Int.toNat_natCast, Int.toNat_natCast]; exact this
theorem div_0 {b : Nat} {a : Int} (w : World) (ha : B8 a) :
    Calls Tryz.prog 72 #[.pointer (some ⟨b, 0, none⟩), .int .u8 a, .int .u8 0] w fun e w' => e = .returned (.tuple #[.int .u8 0, .iface 47 (.int .i64 1)]) ∧ w = w' := by
  obtain ⟨n, hn, rfl⟩ := ha.nat
  exact div_zero b n w
theorem inv_i {b : Nat} {a x : Int} (w : World) (h : TabIn w b) (ha : B8 a) (ha0 : a ≠ 0) (hx : divI 1 a = x) :
    Calls Tryz.prog 66 #[.pointer (some ⟨b, 0, none⟩), .int .u8 a] w fun e w' => e = .returned (.tuple #[.int .u8 x, .nilIface]) ∧ Left b w w' := by
  subst hx
  obtain ⟨m, hm, rfl⟩ := ha.nat
  have := inv_any b m w h hm (by omega)
  unfold divI; rw [Int.toNat_natCast]; exact this

end Go.Proofs.YtkcbckafibjflaaGreatDoor
