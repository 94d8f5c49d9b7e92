/- Is a secret big?; empty rows as strings. -/
import Derived.Test.YtkaddilgegimjaaDoorEn6
import Derived.Test.YtkaddilgegimjaaDoorApq
namespace Go.Proofs.YtkaddilgegimjaaDoor
set_option linter.unusedVariables false
set_option linter.unusedSimpArgs false
open Go.RowKit

theorem conv_zero (oa : Option Addr) (cp : Nat) (w : World) : (convert 31 9 (.slice oa 0 cp)).run Tryd.prog w = .ok (.string (strF 0 (fun _ => 0))) w := by
  cases oa <;> kernel_rfl
theorem conv_any {oa : Option Addr} {n cp : Nat} {f : Nat → Nat} {w : World} (h : Bytes w oa n f) : (convert 31 9 (.slice oa n cp)).run Tryd.prog w = .ok (.string (strF n f)) w := by
  rcases Nat.eq_zero_or_pos n with h0 | h0
  · subst h0
    rw [strF_congr (f := f) (g := fun _ => 0) fun i hi => absurd hi (Nat.not_lt_zero _)]
    exact conv_zero oa cp w
  · obtain ⟨_, b, off, rfl, _⟩ := h 0 h0
    exact h.conv

set_option maxRecDepth 100000 in
set_option maxHeartbeats 1000000 in
theorem big_any (oa : Option Addr) (n cp : Nat) (last max : Int) (V : Nat → Ver) (w : World) (hV : Vers w oa n V) (hn : n ≤ maxLen) :
    Calls Tryd.prog 40 #[.agg #[.slice oa n cp, .int .u32 last, .int .i64 max]] w fun e w' => ∃ r, e = .returned (.bool r) ∧ Below w.heap.size w w' := by
  have HV := Lib.hid hV
  unfold maxLen at hn
  have hn0 : (n : Int) ≤ 9223372036854775807 := by omega
  clear hV hn
  go_enter Tryd.func40, Tryd.ntmps40
  go_wp2_with fail
  go_loopw [3] (fun i wr => ∃ k : Nat, k ≤ n ∧ k ≤ 20 ∧ i = .int .i64 k ∧ Blk wr w.heap.size #[.slice oa n cp, .int .u32 last, .int .i64 max] 73 ∧ Below w.heap.size w wr) (fun i _ => 20 - (intOf i).toNat)
  case atStart => exact ⟨0, Nat.zero_le _, by omega, rfl, Blk.new _ _ _, (Below.refl _ _).alloc (Nat.le_refl _) _⟩
  case round =>
    obtain ⟨k, hk, hk2, rfl, hX, hO⟩ := hrel
    have x0 : wr.cell? ⟨w.heap.size, 0, none⟩ = some (.slice oa n cp) := Blk.cell hX 0
    have HX := Lib.hid hX
    have HO := Lib.hid hO
    by_cases hlt : k < n ∧ k < 20
    · obtain ⟨h1, h2⟩ := hlt
      obtain ⟨b, off, od, cap, rfl, hB, hno, hlc, hcm, c0, c1, c2, c3⟩ := (Vers.later HV.out hO).get k h1
      have k0 : (0 : Int) ≤ (k : Int) := by omega
      have k1 : (k : Int) < (n : Int) := by omega
      have k2 : (k : Int) < 20 := by omega
      clear hX hO hB hno hlc hcm
      obtain ⟨len, hlen⟩ : ∃ m, (V k).len = m := ⟨_, rfl⟩
      rw [hlen] at c1
      clear hlen
      by_cases hl : 400 < len
      · have l1 : (400 : Int) < (len : Int) := by omega
        clear hl
        go_wp2_with fail
        go_ret
        exact ⟨true, rfl, HO.out⟩
      · have l1 : decide ((400 : Int) < (len : Int)) = false := decide_eq_false (by omega)
        clear hl
        go_wp2_with fail
        go_roundw
        case rel => exact ⟨k + 1, by omega, by omega, by go_num, HX.out, HO.out⟩
        case measure => simp [intOf]; omega
    · clear hX hO
      by_cases h1 : k < n
      · have k1 : (k : Int) < (n : Int) := by omega
        have k2 : decide ((k : Int) < 20) = false := decide_eq_false (by omega)
        clear hlt
        go_wp2_with fail
        go_ret
        exact ⟨_, rfl, HO.out⟩
      · have k1 : decide (k < n) = false := decide_eq_false h1
        clear hlt
        go_wp2_with fail
        go_ret
        exact ⟨_, rfl, HO.out⟩
end Go.Proofs.YtkaddilgegimjaaDoor
