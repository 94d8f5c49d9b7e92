/- A number of eight bytes, read. -/
import Derived.Test.YtmabhjifldafaaaDoorWi5
namespace Go.Proofs.YtmabhjifldafaaaDoor
set_option linter.unusedVariables false
set_option linter.unusedSimpArgs false
open Go.RowKit

def rdN (F : Nat → Nat) : Nat → Nat
  | 0 => 0
  | k + 1 => 256 * rdN F k + F k
theorem rdN_lt {F : Nat → Nat} : ∀ {k : Nat}, (∀ i, i < k → F i < 256) → rdN F k < 256 ^ k
  | 0, _ => by simp [rdN]
  | k + 1, h => by
    have h1 := rdN_lt (F := F) (k := k) (fun i hi => h i (by omega))
    have h2 := h k (by omega)
    have e : 256 ^ (k + 1) = 256 * 256 ^ k := by rw [Nat.pow_succ, Nat.mul_comm]
    unfold rdN
    omega
theorem rdN_ext {F G : Nat → Nat} : ∀ {k : Nat}, (∀ i, i < k → F i = G i) → rdN F k = rdN G k
  | 0, _ => rfl
  | k + 1, h => by
    unfold rdN
    rw [rdN_ext (k := k) (fun i hi => h i (by omega)), h k (by omega)]
theorem orU {x y q s : Nat} (hx : x < 72057594037927936) (hy : y < 256) (hq : x * 256 = q) (hs : q + y = s) : bits .or .u64 (q : Int) (y : Int) = (s : Int) := by
  have h := bits_join .u64 64 (by decide) (fun n h0 h1 => IntWalk.u64_in n (by omega)) 8 (q : Int) (y : Int) (by omega) (by omega) (by omega) (by omega) (by omega) (by omega)
  rw [h]; omega
/-- What is read of bytes. -/
def ReadA (n : Nat) (F : Nat → Nat) (ok e4 : Value) (w0 : World) (e : Ending) (w' : World) : Prop :=
  Below w0.heap.size w0 w' ∧ ((n = 8 ∧ e = .returned (.tuple #[.int .u64 (rdN F 8 : Nat), ok])) ∨ (n ≠ 8 ∧ e = .returned (.tuple #[.int .u64 0, e4])))
set_option maxRecDepth 100000 in
set_option maxHeartbeats 4000000 in
theorem read_any (ob : Option Addr) (n cap : Nat) (F : Nat → Nat) (w : World) (hB : Bytes w ob n F) (hn : n ≤ maxLen) :
    Calls Tryd.prog 81 #[.slice ob n cap] w (ReadA n F .nilIface (.iface 118 (.int .i64 4)) w) := by
  unfold maxLen at hn
  have hn0 : (n : Int) ≤ 9223372036854775807 := by omega
  go_enter Tryd.func81, Tryd.ntmps81
  by_cases h8 : n = 8
  · subst h8
    obtain ⟨_, b, off, rfl, _⟩ := hB 0 (by omega)
    have HB := Lib.hid hB
    clear hB hn
    go_wp2_with fail
    go_loopw [4, 13] (fun x v wr => ∃ i : Nat, i ≤ 8 ∧ v = .int .i64 (i : Int) ∧ x = .int .u64 (rdN F i : Nat) ∧ Below w.heap.size w wr) (fun _ v _ => 8 - (intOf v).toNat)
    case atStart => exact ⟨0, by omega, rfl, rfl, Below.refl _ _⟩
    case round =>
      obtain ⟨i, hi, rfl, rfl, hX⟩ := hrel
      have HX := Lib.hid hX
      by_cases hli : i < 8
      · as_aux_lemma =>
        have i1 : (i : Int) < 8 := by omega
        have i0 : (0 : Int) ≤ (i : Int) := by omega
        have HI := Lib.hid hli
        obtain ⟨hy8, _, _, e0, hc0⟩ := HB.out.later hX i hli
        cases e0
        have hx7 : rdN F i < 72057594037927936 := by
          have h1 := rdN_lt (F := F) (k := i) (fun j hj => (HB.out j (by omega)).1)
          have h2 : (256 : Nat) ^ i ≤ 256 ^ 7 := Nat.pow_le_pow_right (by decide) (by omega)
          have h3 : (256 : Nat) ^ 7 = 72057594037927936 := by decide
          omega
        obtain ⟨i2, hi2⟩ : ∃ z, i + 1 = z := ⟨_, rfl⟩
        have HI2 := Lib.hid hi2
        have iw : IntKind.i64.wrap ((i : Int) + 1) = (i2 : Int) := by rw [IntWalk.i64_in _ (by omega)]; omega
        obtain ⟨x, hx⟩ : ∃ z, rdN F i = z := ⟨_, rfl⟩
        obtain ⟨y, hy⟩ : ∃ z, F i = z := ⟨_, rfl⟩
        obtain ⟨q, hq⟩ : ∃ z, x * 256 = z := ⟨_, rfl⟩
        obtain ⟨s, hs⟩ : ∃ z, q + y = z := ⟨_, rfl⟩
        rw [hx] at hx7 ⊢
        rw [hy] at hy8 hc0
        have c0 : wr.cell? ⟨b, off + i, none⟩ = some (.int .u8 (y : Nat)) := hc0
        have s1 : (x : Int) * 256 = (q : Int) := by omega
        have s2 : IntKind.u64.wrap (q : Int) = (q : Int) := IntWalk.u64_in _ (by omega)
        have s3 : IntKind.u64.wrap (y : Int) = (y : Int) := IntWalk.u64_in _ (by omega)
        have s4 := orU hx7 hy8 hq hs
        have HS : Hid (rdN F (i + 1) = s) := Lib.hid (by show 256 * rdN F i + F i = s; rw [hx, hy]; omega)
        clear hc0 hx hy hq hs hi2 hi hli hX
        go_wp2_with fail
        go_roundw
        case rel => exact ⟨i2, by have := HI.out; have := HI2.out; omega, by first | rfl | go_num, by rw [← HI2.out, HS.out], HX.out⟩
        case measure => have := HI.out; have := HI2.out; simp [intOf] <;> omega
      · obtain rfl : i = 8 := by omega
        clear hli hi hX
        go_wp2_with fail
        go_ret2
        exact ⟨HX.out, .inl ⟨rfl, rfl⟩⟩
  · have h1 : ¬ (n : Int) = 8 := by omega
    have H8 := Lib.hid h8
    clear h8
    go_wp2_with fail
    go_ret2
    exact ⟨Below.refl _ _, .inr ⟨H8.out, rfl⟩⟩
set_option maxRecDepth 100000 in
set_option maxHeartbeats 4000000 in
theorem rread_any (ob : Option Addr) (n cap : Nat) (F : Nat → Nat) (w : World) (hB : Bytes w ob n F) (hn : n ≤ maxLen) :
    Calls Tryd.prog 82 #[.slice ob n cap] w (ReadA n F (.int .i64 0) (.int .i64 4) w) := by
  unfold maxLen at hn
  have hn0 : (n : Int) ≤ 9223372036854775807 := by omega
  go_enter Tryd.func82, Tryd.ntmps82
  by_cases h8 : n = 8
  · subst h8
    obtain ⟨_, b, off, rfl, _⟩ := hB 0 (by omega)
    have HB := Lib.hid hB
    clear hB hn
    go_wp2_with fail
    go_loopw [4, 5] (fun x v wr => ∃ i : Nat, i ≤ 8 ∧ v = .int .i64 (i : Int) ∧ x = .int .u64 (rdN F i : Nat) ∧ Below w.heap.size w wr) (fun _ v _ => 8 - (intOf v).toNat)
    case atStart => exact ⟨0, by omega, rfl, rfl, Below.refl _ _⟩
    case round =>
      obtain ⟨i, hi, rfl, rfl, hX⟩ := hrel
      have HX := Lib.hid hX
      by_cases hli : i < 8
      · as_aux_lemma =>
        have i1 : (i : Int) < 8 := by omega
        have i0 : (0 : Int) ≤ (i : Int) := by omega
        have HI := Lib.hid hli
        obtain ⟨hy8, _, _, e0, hc0⟩ := HB.out.later hX i hli
        cases e0
        have hx7 : rdN F i < 72057594037927936 := by
          have h1 := rdN_lt (F := F) (k := i) (fun j hj => (HB.out j (by omega)).1)
          have h2 : (256 : Nat) ^ i ≤ 256 ^ 7 := Nat.pow_le_pow_right (by decide) (by omega)
          have h3 : (256 : Nat) ^ 7 = 72057594037927936 := by decide
          omega
        obtain ⟨i2, hi2⟩ : ∃ z, i + 1 = z := ⟨_, rfl⟩
        have HI2 := Lib.hid hi2
        have iw : IntKind.i64.wrap ((i : Int) + 1) = (i2 : Int) := by rw [IntWalk.i64_in _ (by omega)]; omega
        obtain ⟨x, hx⟩ : ∃ z, rdN F i = z := ⟨_, rfl⟩
        obtain ⟨y, hy⟩ : ∃ z, F i = z := ⟨_, rfl⟩
        obtain ⟨q, hq⟩ : ∃ z, 256 * x = z := ⟨_, rfl⟩
        obtain ⟨s, hs⟩ : ∃ z, q + y = z := ⟨_, rfl⟩
        rw [hx] at hx7 ⊢
        rw [hy] at hy8 hc0
        have c0 : wr.cell? ⟨b, off + i, none⟩ = some (.int .u8 (y : Nat)) := hc0
        have s1 : (256 : Int) * (x : Int) = (q : Int) := by omega
        have s2 : IntKind.u64.wrap (q : Int) = (q : Int) := IntWalk.u64_in _ (by omega)
        have s3 : IntKind.u64.wrap (y : Int) = (y : Int) := IntWalk.u64_in _ (by omega)
        have s4 : (q : Int) + (y : Int) = (s : Int) := by omega
        have s5 : IntKind.u64.wrap (s : Int) = (s : Int) := IntWalk.u64_in _ (by omega)
        have HS : Hid (rdN F (i + 1) = s) := Lib.hid (by show 256 * rdN F i + F i = s; rw [hx, hy]; omega)
        clear hc0 hx hy hq hs hi2 hi hli hX
        go_wp2_with fail
        go_roundw
        case rel => exact ⟨i2, by have := HI.out; have := HI2.out; omega, by first | rfl | go_num, by rw [← HI2.out, HS.out], HX.out⟩
        case measure => have := HI.out; have := HI2.out; simp [intOf] <;> omega
      · obtain rfl : i = 8 := by omega
        clear hli hi hX
        go_wp2_with fail
        go_ret2
        exact ⟨HX.out, .inl ⟨rfl, rfl⟩⟩
  · have h1 : ¬ (n : Int) = 8 := by omega
    have H8 := Lib.hid h8
    clear h8
    go_wp2_with fail
    go_ret2
    exact ⟨Below.refl _ _, .inr ⟨H8.out, rfl⟩⟩
end Go.Proofs.YtmabhjifldafaaaDoor
