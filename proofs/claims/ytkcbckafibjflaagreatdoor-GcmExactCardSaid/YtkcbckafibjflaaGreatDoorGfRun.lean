/- The table is reckoned when it is asked for first: contracts of triple, reckon, the Once, and ready. -/
import Derived.Test.YtkcbckafibjflaaGreatDoorGf
namespace Go.Proofs.YtkcbckafibjflaaGreatDoor
set_option linter.unusedVariables false
set_option linter.unusedSimpArgs false
open Go.RowKit

set_option maxHeartbeats 400000 in
theorem triple_any (a : Nat) (w : World) (h : a < 256) :
    Calls Tryz.prog 95 #[.int .u8 a] w fun e w' => e = .returned (.int .u8 (trip a)) ∧ w = w' := by
  by_cases h1 : a < 128
  · have e1 : bits .and .u8 (a : Int) 128 = 0 := by
      have := u8_and_nat a 128 h (by decide)
      rw [show ((128 : Nat) : Int) = 128 from rfl] at this
      rw [this, show (128 : Nat) = 2 ^ 7 from rfl, nat_bit 7 a]; simp; omega
    have e2 : bits .xor .u8 ((a : Int) * 2) (a : Int) = (trip a : Int) := by
      rw [trip_lo h1, show ((a : Int) * 2) = ((2 * a : Nat) : Int) from by omega, u8_xor_nat (2 * a) a (by omega) h]
    go_enter Tryz.func95, Tryz.ntmps95
    go_wp2
    go_ret
    exact ⟨rfl, rfl⟩
  · have e1 : bits .and .u8 (a : Int) 128 = 128 := by
      have := u8_and_nat a 128 h (by decide)
      rw [show ((128 : Nat) : Int) = 128 from rfl] at this
      rw [this, show (128 : Nat) = 2 ^ 7 from rfl, nat_bit 7 a]; simp; omega
    have e0 : IntKind.u8.wrap ((a : Int) * 2) = ((2 * a - 256 : Nat) : Int) := by rw [IntKind.wrap_u8]; omega
    have e3 : bits .xor .u8 ((2 * a - 256 : Nat) : Int) 27 = (((2 * a - 256) ^^^ 27 : Nat) : Int) := u8_xor_nat (2 * a - 256) 27 (by omega) (by decide)
    have e2 : bits .xor .u8 (((2 * a - 256) ^^^ 27 : Nat) : Int) (a : Int) = (trip a : Int) := by
      rw [trip_hi (by omega) h, u8_xor_nat _ a (xor_lt (by omega) (by decide)) h]
    generalize 2 * a - 256 = q at *
    generalize q ^^^ 27 = r at *
    go_enter Tryz.func95, Tryz.ntmps95
    go_wp2
    go_ret
    exact ⟨rfl, rfl⟩

/-- The powers, and the logarithms, behind k rounds. -/
def Pk (k : Nat) : List Nat := (List.range k).foldl (fun l j => l.set j (expN j)) (List.replicate 255 0)
def Lk (k : Nat) : List Nat := (List.range k).foldl (fun l j => l.set (expN j) j) (List.replicate 256 0)
theorem Pk_succ (k : Nat) : Pk (k + 1) = (Pk k).set k (expN k) := by unfold Pk; rw [List.range_succ, List.foldl_append]; rfl
theorem Lk_succ (k : Nat) : Lk (k + 1) = (Lk k).set (expN k) k := by unfold Lk; rw [List.range_succ, List.foldl_append]; rfl
theorem Pk_len : ∀ k, (Pk k).length = 255
  | 0 => List.length_replicate
  | k + 1 => by rw [Pk_succ, List.length_set, Pk_len k]
theorem Lk_len : ∀ k, (Lk k).length = 256
  | 0 => List.length_replicate
  | k + 1 => by rw [Lk_succ, List.length_set, Lk_len k]
theorem P_at {i : Nat} (h : i < 255) : (Pk 255)[i]? = some (expN i) := by
  have k : (List.range 255).all (fun i => (Pk 255)[i]? == some (expN i)) = true := by decide +kernel
  exact beq_iff_eq.1 (List.all_eq_true.1 k i (List.mem_range.2 h))
theorem L_at {a : Nat} (h : a < 256) : (Lk 255)[a]? = some (logN a) := by
  have k : (List.range 256).all (fun a => (Lk 255)[a]? == some (logN a)) = true := by decide +kernel
  exact beq_iff_eq.1 (List.all_eq_true.1 k a (List.mem_range.2 h))

/-- A table in a block of its own: the flag, the lock, the powers, the logarithms. -/
def Tab (w : World) (b : Nat) (d s : Int) (P L : List Nat) : Prop := Blk w b (tabCells d s P L).toArray 150 ∧ P.length = 255 ∧ L.length = 256

theorem Tab.cell {w : World} {b : Nat} {d s : Int} {P L : List Nat} (h : Tab w b d s P L) (k : Nat) : w.cell? ⟨b, k, none⟩ = (tabCells d s P L)[k]? := by
  rw [Blk.cell h.1 k]; simp
theorem Tab.some {w : World} {b : Nat} {d s : Int} {P L : List Nat} (h : Tab w b d s P L) {k : Nat} (hk : k < 514) : ∃ v, w.cell? ⟨b, k, none⟩ = some v := by
  have hl : (tabCells d s P L).length = 514 := by unfold tabCells; simp [h.2.1, h.2.2]
  rw [h.cell k, List.getElem?_eq_getElem (by omega)]; exact ⟨_, rfl⟩
theorem Tab.set_p {w : World} {b : Nat} {d s : Int} {P L : List Nat} (h : Tab w b d s P L) (i x : Nat) (hi : i < 255) : Tab (w.setCell ⟨b, 3 + i, none⟩ (.int .u8 (x : Int))) b d s (P.set i x) L := by
  refine ⟨?_, by rw [List.length_set]; exact h.2.1, h.2.2⟩
  have := Blk.set h.1 (3 + i) (.int .u8 (x : Int))
  rw [set_toArray, tab_set_p d s P L i x (by rw [h.2.1]; exact hi)] at this; exact this
theorem Tab.set_l {w : World} {b : Nat} {d s : Int} {P L : List Nat} (h : Tab w b d s P L) (i x : Nat) : Tab (w.setCell ⟨b, 258 + i, none⟩ (.int .i64 (x : Int))) b d s P (L.set i x) := by
  refine ⟨?_, h.2.1, by rw [List.length_set]; exact h.2.2⟩
  have := Blk.set h.1 (258 + i) (.int .i64 (x : Int))
  rw [set_toArray, tab_set_l d s P L h.2.1 i x] at this; exact this
theorem Tab.set_s {w : World} {b : Nat} {d s : Int} {P L : List Nat} (h : Tab w b d s P L) (s' : Int) : Tab (w.setCell ⟨b, 1, none⟩ (.int .i32 s')) b d s' P L := by
  refine ⟨?_, h.2⟩
  have := Blk.set h.1 1 (.int .i32 s')
  rw [set_toArray, tab_set_s] at this; exact this
theorem Tab.set_d {w : World} {b : Nat} {d s : Int} {P L : List Nat} (h : Tab w b d s P L) (d' : Int) : Tab (w.setCell ⟨b, 0, none⟩ (.int .u32 d')) b d' s P L := by
  refine ⟨?_, h.2⟩
  have := Blk.set h.1 0 (.int .u32 d')
  rw [set_toArray, tab_set_d] at this; exact this

/-- At the head of each round. -/
def RInv (b : Nat) (w0 : World) (d s : Int) (p i : Value) (wr : World) : Prop :=
  ∃ k : Nat, k ≤ 255 ∧ i = .int .i64 k ∧ p = .int .u8 (expN k) ∧ Tab wr b d s (Pk k) (Lk k) ∧ Own b w0 wr

set_option maxRecDepth 100000 in
set_option maxHeartbeats 1000000 in
theorem reckon_any (b : Nat) (d s : Int) (w : World) (h : Tab w b d s (Pk 0) (Lk 0)) :
    Calls Tryz.prog 87 #[.pointer (some ⟨b, 0, none⟩)] w fun e w' => e = .returned (.tuple #[]) ∧ Tab w' b d s (Pk 255) (Lk 255) ∧ Own b w w' := by
  go_enter Tryz.func87, Tryz.ntmps87
  go_wp2_with fail
  go_loopw [2, 4] (fun p i wr => RInv b w d s p i wr) (fun _ i _ => 255 - (intOf i).toNat)
  case atStart => exact ⟨0, by omega, rfl, rfl, h, Own.refl _ _⟩
  case round =>
    obtain ⟨k, hk, rfl, rfl, hT, hO⟩ := hrel
    by_cases hlt : k < 255
    · have hx := expN_lt k
      obtain ⟨v1, c1⟩ := hT.some (k := 3 + k) (by omega)
      have f1 : wr.frozen? ⟨b, 3 + k, none⟩ = false := Blk.free hT.1 (3 + k)
      have hT1 := hT.set_p k (expN k) hlt
      obtain ⟨v2, c2⟩ := hT1.some (k := 258 + expN k) (by omega)
      have f2 : (wr.setCell ⟨b, 3 + k, none⟩ (.int .u8 (expN k))).frozen? ⟨b, 258 + expN k, none⟩ = false := Blk.free hT1.1 (258 + expN k)
      have hT2 := hT1.set_l (expN k) k
      rw [← Pk_succ, ← Lk_succ] at hT2
      go_wp2_with fail
      refine (triple_any _ _ hx).mono ?_
      rintro e w' ⟨rfl, rfl⟩
      go_wp2_with fail
      go_roundw
      case rel => exact ⟨k + 1, by omega, by go_num, rfl, hT2, (hO.set _ _).set _ _⟩
      case measure => simp [intOf]; omega
    · obtain rfl : k = 255 := by omega
      go_wp2_with fail
      go_end0
      exact ⟨rfl, hT, hO⟩

end Go.Proofs.YtkcbckafibjflaaGreatDoor
