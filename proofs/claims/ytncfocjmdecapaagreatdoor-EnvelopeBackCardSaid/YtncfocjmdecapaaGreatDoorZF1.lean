/- Numbers of eight bits: the arithmetic of the field, by powers of 3. The field's table: sync.Once, the powers and the logarithms; contracts of package gf's functions. The table is reckoned when it is asked for first: contracts of triple, reckon, the Once, and ready. Contracts of sync.Once's roads, of ready, and of the table's operations. Contracts of the table's operations. A new table: a block of its own. The field's operations over integers, and their contracts. -/
import Derived.Test.YtncfocjmdecapaaGreatDoorProg
import Derived.WalkKit
import Derived.WalkSpells
import Derived.WalkLawsBesides
import Derived.Defers
import Derived.Laws.LoneSync
import Derived.RegionTactic
import Derived.RegionCalls
import Derived.ChangeAlike
import Derived.Deep.QuietTactic
import Derived.BigQuiet
import Derived.Outline
import Derived.Lib.Hide
import Derived.Test.YtncfocjmdecapaaGreatDoorZB0
import Derived.Test.YtncfocjmdecapaaGreatDoorZS1
import Derived.Test.YtncfocjmdecapaaGreatDoorZS2
import Derived.Test.YtncfocjmdecapaaGreatDoorZSh4
import Derived.Test.YtncfocjmdecapaaGreatDoorZA0
import Derived.Test.YtncfocjmdecapaaGreatDoorZS5
import Derived.Test.YtncfocjmdecapaaGreatDoorZSh7
import Derived.Test.YtncfocjmdecapaaGreatDoorZS8
import Derived.Test.YtncfocjmdecapaaGreatDoorZHm2
import Derived.Test.YtncfocjmdecapaaGreatDoorZAs
import Derived.Test.YtncfocjmdecapaaGreatDoorZR0
namespace Go.Proofs.YtncfocjmdecapaaGreatDoor
set_option linter.unusedVariables false
set_option linter.unusedSimpArgs false
/-- A number times 3. -/
def trip (a : Nat) : Nat := (if a < 128 then 2 * a else (2 * a - 256) ^^^ 27) ^^^ a
/-- The powers of 3. -/
def expN : Nat → Nat | 0 => 1 | n + 1 => trip (expN n)
/-- To what power 3 is a number. -/
def logN (a : Nat) : Nat := ((List.range 255).find? (fun i => expN i == a)).getD 0

theorem trip_lt {a : Nat} (h : a < 256) : trip a < 256 := by
  unfold trip
  refine Nat.xor_lt_two_pow (n := 8) ?_ h
  split
  · show 2 * a < 256; omega
  · exact Nat.xor_lt_two_pow (n := 8) (by omega) (by decide)
theorem expN_lt : ∀ n, expN n < 256
  | 0 => by decide
  | n + 1 => trip_lt (expN_lt n)
theorem log_lt {a : Nat} (h : a < 256) : logN a < 255 := by
  have k : (List.range 256).all (fun a => decide (logN a < 255)) = true := by decide +kernel
  exact of_decide_eq_true (List.all_eq_true.1 k a (List.mem_range.2 h))
/-- A quotient. -/
def divN (a b : Nat) : Nat := if a = 0 then 0 else expN ((logN a + 255 - logN b) % 255)
theorem divN_lt (a b : Nat) : divN a b < 256 := by
  unfold divN; split
  · decide
  · exact expN_lt _
theorem mod_lt (n : Nat) : n % 255 < 255 := Nat.mod_lt _ (by decide)
theorem xor_lt {a b : Nat} (ha : a < 256) (hb : b < 256) : a ^^^ b < 256 := Nat.xor_lt_two_pow (n := 8) ha hb
end Go.Proofs.YtncfocjmdecapaaGreatDoor
namespace Go.Proofs.YtncfocjmdecapaaGreatDoor
set_option linter.unusedVariables false
set_option linter.unusedSimpArgs false
open Go.RowKit
def tabCells (d s : Int) (P L : List Nat) : List Value := [.int .u32 d, .int .i32 s, .int .u32 0] ++ (P.map (fun x : Nat => Value.int .u8 (x : Int)) ++ L.map (fun x : Nat => Value.int .i64 (x : Int)))
theorem tab_p (d s : Int) {P : List Nat} (L : List Nat) {i x : Nat} (hi : P[i]? = some x) : (tabCells d s P L)[3 + i]? = some (.int .u8 (x : Int)) := by
  have hl : i < P.length := by
    rcases Nat.lt_or_ge i P.length with h | h
    · exact h
    · rw [List.getElem?_eq_none h] at hi; cases hi
  unfold tabCells
  rw [List.getElem?_append_right (by simp), show 3 + i - [Value.int .u32 d, .int .i32 s, .int .u32 0].length = i from by simp,
    List.getElem?_append_left (by simpa using hl), List.getElem?_map, hi]
  rfl
theorem tab_l (d s : Int) {P L : List Nat} (hP : P.length = 255) {i x : Nat} (hi : L[i]? = some x) : (tabCells d s P L)[258 + i]? = some (.int .i64 (x : Int)) := by
  unfold tabCells
  rw [List.getElem?_append_right (by simp; omega), show 258 + i - [Value.int .u32 d, .int .i32 s, .int .u32 0].length = 255 + i from by simp; omega,
    List.getElem?_append_right (by simp [hP]), show 255 + i - (P.map (fun x : Nat => Value.int .u8 (x : Int))).length = i from by simp [hP], List.getElem?_map, hi]
  rfl
theorem tab_set_d (d d' s : Int) (P L : List Nat) : (tabCells d s P L).set 0 (.int .u32 d') = tabCells d' s P L := rfl
theorem tab_set_s (d s s' : Int) (P L : List Nat) : (tabCells d s P L).set 1 (.int .i32 s') = tabCells d s' P L := rfl
theorem tab_set_p (d s : Int) (P L : List Nat) (i x : Nat) (hi : i < P.length) : (tabCells d s P L).set (3 + i) (.int .u8 (x : Int)) = tabCells d s (P.set i x) L := by
  unfold tabCells
  rw [List.set_append_right _ _ (by simp), show 3 + i - [Value.int .u32 d, .int .i32 s, .int .u32 0].length = i from by simp, List.set_append_left _ _ (by simpa using hi), List.map_set]
theorem tab_set_l (d s : Int) (P L : List Nat) (hP : P.length = 255) (i x : Nat) : (tabCells d s P L).set (258 + i) (.int .i64 (x : Int)) = tabCells d s P (L.set i x) := by
  unfold tabCells
  rw [List.set_append_right _ _ (by simp; omega), show 258 + i - [Value.int .u32 d, .int .i32 s, .int .u32 0].length = 255 + i from by simp; omega, List.set_append_right _ _ (by simp [hP]),
    show 255 + i - (P.map (fun x : Nat => Value.int .u8 (x : Int))).length = i from by simp [hP], List.map_set]
theorem set_toArray (xs : List Value) (k : Nat) (v : Value) : xs.toArray.setIfInBounds k v = (xs.set k v).toArray := by simp

/-! ### The lock, and the Once's flag -/
theorem disable (w : World) : (callFunc 124 #[]).run Tryz.prog w = .ok (.value (.tuple #[])) w := run_call_mark0 Tryz.func124 (by kernel_rfl) (by kernel_rfl) (by kernel_rfl) .disable (by kernel_rfl) w
theorem enable (w : World) : (callFunc 126 #[]).run Tryz.prog w = .ok (.value (.tuple #[])) w := run_call_mark0 Tryz.func126 (by kernel_rfl) (by kernel_rfl) (by kernel_rfl) .enable (by kernel_rfl) w
theorem acquire (a : Addr) (w : World) : (callFunc 127 #[.pointer (some a)]).run Tryz.prog w = .ok (.value (.tuple #[])) w := run_call_marked Tryz.func127 (by kernel_rfl) (by kernel_rfl) (by kernel_rfl) .acquire (by kernel_rfl) a w
theorem releaseMerge (a : Addr) (w : World) : (callFunc 129 #[.pointer (some a)]).run Tryz.prog w = .ok (.value (.tuple #[])) w := run_call_marked Tryz.func129 (by kernel_rfl) (by kernel_rfl) (by kernel_rfl) .releaseMerge (by kernel_rfl) a w

set_option maxRecDepth 100000 in
theorem flag_deferred (a : Addr) (x : Value) (u : FrameMode) (w : World) (hc : w.cell? a = some x) (hz : w.frozen? a = false) :
    CallsD Tryz.prog 116 #[.pointer (some a), .bool true] u w fun e u' w' => u' = u ∧ (e = .returned (.tuple #[]) ∧ w' = w.drew.setCell a (.int .u32 1)) := by
  have hc' : w.drew.cell? a = some x := by go_simp
  have hz' : w.drew.frozen? a = false := by go_simp
  have hst := run_call_store (P := Tryz.prog) Tryz.func121 (by kernel_rfl) (by kernel_rfl) (by kernel_rfl) (by kernel_rfl) (k := .u32) (y := 1) hc' hz'
  go_enter_d Tryz.func116, Tryz.ntmps116
  go_wp2
  go_region_calls
  all_goals (go_end0; exact ⟨rfl, rfl⟩)

set_option maxRecDepth 100000 in
theorem unlock_deferred (a : Addr) (u : FrameMode) (w : World) (hc : w.cell? a = some (.int .i32 1)) (hz : w.frozen? a = false) :
    CallsD Tryz.prog 115 #[.pointer (some a)] u w fun e u' w' => u' = u ∧ (e = .returned (.tuple #[]) ∧ w' = w.setCell a (.int .i32 0)) := by
  have hd := disable
  have he := enable
  have hr := releaseMerge
  have hadd := run_call_add (P := Tryz.prog) Tryz.func130 (by kernel_rfl) (by kernel_rfl) (by kernel_rfl) .i32 (by kernel_rfl) (y := -1) (s := 0) hc hz (by simp [go_sem]; rfl)
  have hcv := run_convert_to_unsafe (P := Tryz.prog) (src := 211) (dst := 93) Tryz.underlying211 Tryz.underlying93 (by kernel_rfl) hc
  go_enter_d Tryz.func115, Tryz.ntmps115
  go_wp2
  go_end0
  go_wp2
  go_end0
  exact ⟨rfl, rfl⟩

set_option maxRecDepth 100000 in
theorem lock_free (a : Addr) (w : World) (hc : w.cell? a = some (.int .i32 0)) (hz : w.frozen? a = false) :
    Calls Tryz.prog 114 #[.pointer (some a)] w fun e w' => e = .returned (.tuple #[]) ∧ w' = w.setCell a (.int .i32 1) := by
  have hd := disable
  have he := enable
  have ha := acquire
  have hcas := run_call_cas_hit (P := Tryz.prog) Tryz.func125 (by kernel_rfl) (by kernel_rfl) (by kernel_rfl) .i32 (by kernel_rfl) (y := 1) hc hz
  have hc' : (w.setCell a (.int .i32 1)).cell? a = some (.int .i32 1) := World.cell?_setCell_same w a _ hc
  have hcv := run_convert_to_unsafe (P := Tryz.prog) (src := 211) (dst := 93) Tryz.underlying211 Tryz.underlying93 (by kernel_rfl) hc'
  go_enter Tryz.func114, Tryz.ntmps114
  go_wp2
  first | go_end0 | (simp only [Exit.inBlock, Exit.then]; refine bodyPost_ret (results_none rfl _ _ _) rfl ?_) | refine bodyPost_ret (results_none rfl _ _ _) rfl ?_
  go_wp2
  go_end0
  exact ⟨rfl, rfl⟩

set_option maxRecDepth 100000 in
theorem flag_load (a : Addr) (d : Int) (t : Bool) (w : World) (h0 : w.cell? a = some (.int .u32 d)) (ht : (d != 0) = t) :
    Calls Tryz.prog 108 #[.pointer (some a)] w fun e w' => e = .returned (.bool t) ∧ w = w' := by
  have hl := run_call_load (P := Tryz.prog) Tryz.func113 (by kernel_rfl) (by kernel_rfl) (by kernel_rfl) .u32 (by kernel_rfl) h0
  have Ht : Hid _ := ht
  clear ht
  go_enter Tryz.func108, Tryz.ntmps108
  go_wp2
  go_ret
  exact ⟨by rw [← Ht.out]; rfl, rfl⟩

/-! ### Triples, and the reckoning -/
theorem trip_hi {a : Nat} (h : 128 ≤ a) (h2 : a < 256) : trip a = ((2 * a - 256) ^^^ 27) ^^^ a := by unfold trip; rw [if_neg (by omega)]
theorem trip_lo {a : Nat} (h : a < 128) : trip a = (2 * a) ^^^ a := by unfold trip; rw [if_pos h]

end Go.Proofs.YtncfocjmdecapaaGreatDoor
namespace Go.Proofs.YtncfocjmdecapaaGreatDoor
set_option linter.unusedVariables false
set_option linter.unusedSimpArgs false
open Go.RowKit
set_option maxHeartbeats 400000 in
theorem triple_any (a : Nat) (w : World) (h : a < 256) :
    Calls Tryz.prog 140 #[.int .u8 a] w fun e w' => e = .returned (.int .u8 (trip a)) ∧ w = w' := by
  by_cases h1 : a < 128
  · have e1 : bits .and .u8 (a : Int) 128 = 0 := by
      have := u8_and_nat a 128 h (by decide)
      rw [show ((128 : Nat) : Int) = 128 from rfl] at this
      rw [this, show (128 : Nat) = 2 ^ 7 from rfl, nat_bit 7 a]; simp; omega
    have e2 : bits .xor .u8 ((a : Int) * 2) (a : Int) = (trip a : Int) := by
      rw [trip_lo h1, show ((a : Int) * 2) = ((2 * a : Nat) : Int) from by omega, u8_xor_nat (2 * a) a (by omega) h]
    go_enter Tryz.func140, Tryz.ntmps140
    go_wp2
    go_ret
    exact ⟨rfl, rfl⟩
  · have e1 : bits .and .u8 (a : Int) 128 = 128 := by
      have := u8_and_nat a 128 h (by decide)
      rw [show ((128 : Nat) : Int) = 128 from rfl] at this
      rw [this, show (128 : Nat) = 2 ^ 7 from rfl, nat_bit 7 a]; simp; omega
    have e0 : IntKind.u8.wrap ((a : Int) * 2) = ((2 * a - 256 : Nat) : Int) := by rw [IntKind.wrap_u8]; omega
    have e3 : bits .xor .u8 ((2 * a - 256 : Nat) : Int) 27 = (((2 * a - 256) ^^^ 27 : Nat) : Int) := u8_xor_nat (2 * a - 256) 27 (by omega) (by decide)
    have e2 : bits .xor .u8 (((2 * a - 256) ^^^ 27 : Nat) : Int) (a : Int) = (trip a : Int) := by
      rw [trip_hi (by omega) h, u8_xor_nat _ a (xor_lt (by omega) (by decide)) h]
    generalize 2 * a - 256 = q at *
    generalize q ^^^ 27 = r at *
    go_enter Tryz.func140, Tryz.ntmps140
    go_wp2
    go_ret
    exact ⟨rfl, rfl⟩

/-- The powers, and the logarithms, behind k rounds. -/
def Pk (k : Nat) : List Nat := (List.range k).foldl (fun l j => l.set j (expN j)) (List.replicate 255 0)
def Lk (k : Nat) : List Nat := (List.range k).foldl (fun l j => l.set (expN j) j) (List.replicate 256 0)
theorem Pk_succ (k : Nat) : Pk (k + 1) = (Pk k).set k (expN k) := by unfold Pk; rw [List.range_succ, List.foldl_append]; rfl
theorem Lk_succ (k : Nat) : Lk (k + 1) = (Lk k).set (expN k) k := by unfold Lk; rw [List.range_succ, List.foldl_append]; rfl
theorem Pk_len : ∀ k, (Pk k).length = 255
  | 0 => List.length_replicate
  | k + 1 => by rw [Pk_succ, List.length_set, Pk_len k]
theorem Lk_len : ∀ k, (Lk k).length = 256
  | 0 => List.length_replicate
  | k + 1 => by rw [Lk_succ, List.length_set, Lk_len k]
theorem P_at {i : Nat} (h : i < 255) : (Pk 255)[i]? = some (expN i) := by
  have k : (List.range 255).all (fun i => (Pk 255)[i]? == some (expN i)) = true := by decide +kernel
  exact beq_iff_eq.1 (List.all_eq_true.1 k i (List.mem_range.2 h))
theorem L_at {a : Nat} (h : a < 256) : (Lk 255)[a]? = some (logN a) := by
  have k : (List.range 256).all (fun a => (Lk 255)[a]? == some (logN a)) = true := by decide +kernel
  exact beq_iff_eq.1 (List.all_eq_true.1 k a (List.mem_range.2 h))

/-- A table in a block of its own: the flag, the lock, the powers, the logarithms. -/
def Tab (w : World) (b : Nat) (d s : Int) (P L : List Nat) : Prop := Blk w b (tabCells d s P L).toArray 206 ∧ P.length = 255 ∧ L.length = 256

theorem Tab.cell {w : World} {b : Nat} {d s : Int} {P L : List Nat} (h : Tab w b d s P L) (k : Nat) : w.cell? ⟨b, k, none⟩ = (tabCells d s P L)[k]? := by
  rw [Blk.cell h.1 k]; simp
theorem Tab.some {w : World} {b : Nat} {d s : Int} {P L : List Nat} (h : Tab w b d s P L) {k : Nat} (hk : k < 514) : ∃ v, w.cell? ⟨b, k, none⟩ = some v := by
  have hl : (tabCells d s P L).length = 514 := by unfold tabCells; simp [h.2.1, h.2.2]
  rw [h.cell k, List.getElem?_eq_getElem (by omega)]; exact ⟨_, rfl⟩
theorem Tab.set_p {w : World} {b : Nat} {d s : Int} {P L : List Nat} (h : Tab w b d s P L) (i x : Nat) (hi : i < 255) : Tab (w.setCell ⟨b, 3 + i, none⟩ (.int .u8 (x : Int))) b d s (P.set i x) L := by
  refine ⟨?_, by rw [List.length_set]; exact h.2.1, h.2.2⟩
  have := Blk.set h.1 (3 + i) (.int .u8 (x : Int))
  rw [set_toArray, tab_set_p d s P L i x (by rw [h.2.1]; exact hi)] at this; exact this
theorem Tab.set_l {w : World} {b : Nat} {d s : Int} {P L : List Nat} (h : Tab w b d s P L) (i x : Nat) : Tab (w.setCell ⟨b, 258 + i, none⟩ (.int .i64 (x : Int))) b d s P (L.set i x) := by
  refine ⟨?_, h.2.1, by rw [List.length_set]; exact h.2.2⟩
  have := Blk.set h.1 (258 + i) (.int .i64 (x : Int))
  rw [set_toArray, tab_set_l d s P L h.2.1 i x] at this; exact this
theorem Tab.set_s {w : World} {b : Nat} {d s : Int} {P L : List Nat} (h : Tab w b d s P L) (s' : Int) : Tab (w.setCell ⟨b, 1, none⟩ (.int .i32 s')) b d s' P L := by
  refine ⟨?_, h.2⟩
  have := Blk.set h.1 1 (.int .i32 s')
  rw [set_toArray, tab_set_s] at this; exact this
theorem Tab.set_d {w : World} {b : Nat} {d s : Int} {P L : List Nat} (h : Tab w b d s P L) (d' : Int) : Tab (w.setCell ⟨b, 0, none⟩ (.int .u32 d')) b d' s P L := by
  refine ⟨?_, h.2⟩
  have := Blk.set h.1 0 (.int .u32 d')
  rw [set_toArray, tab_set_d] at this; exact this

/-- At the head of each round. -/
def RInv (b : Nat) (w0 : World) (d s : Int) (p i : Value) (wr : World) : Prop :=
  ∃ k : Nat, k ≤ 255 ∧ i = .int .i64 k ∧ p = .int .u8 (expN k) ∧ Tab wr b d s (Pk k) (Lk k) ∧ Own b w0 wr

set_option maxRecDepth 100000 in
set_option maxHeartbeats 1000000 in
theorem reckon_any (b : Nat) (d s : Int) (w : World) (h : Tab w b d s (Pk 0) (Lk 0)) :
    Calls Tryz.prog 132 #[.pointer (some ⟨b, 0, none⟩)] w fun e w' => e = .returned (.tuple #[]) ∧ Tab w' b d s (Pk 255) (Lk 255) ∧ Own b w w' := by
  go_enter Tryz.func132, Tryz.ntmps132
  go_wp2_with fail
  go_loopw [2, 4] (fun p i wr => RInv b w d s p i wr) (fun _ i _ => 255 - (intOf i).toNat)
  case atStart => exact ⟨0, by omega, rfl, rfl, h, Own.refl _ _⟩
  case round =>
    obtain ⟨k, hk, rfl, rfl, hT, hO⟩ := hrel
    by_cases hlt : k < 255
    · have hx := expN_lt k
      obtain ⟨v1, c1⟩ := hT.some (k := 3 + k) (by omega)
      have f1 : wr.frozen? ⟨b, 3 + k, none⟩ = false := Blk.free hT.1 (3 + k)
      have hT1 := hT.set_p k (expN k) hlt
      obtain ⟨v2, c2⟩ := hT1.some (k := 258 + expN k) (by omega)
      have f2 : (wr.setCell ⟨b, 3 + k, none⟩ (.int .u8 (expN k))).frozen? ⟨b, 258 + expN k, none⟩ = false := Blk.free hT1.1 (258 + expN k)
      have hT2 := hT1.set_l (expN k) k
      rw [← Pk_succ, ← Lk_succ] at hT2
      go_wp2_with fail
      refine (triple_any _ _ hx).mono ?_
      rintro e w' ⟨rfl, rfl⟩
      go_wp2_with fail
      go_roundw
      case rel => exact ⟨k + 1, by omega, by go_num, rfl, hT2, (hO.set _ _).set _ _⟩
      case measure => simp [intOf]; omega
    · obtain rfl : k = 255 := by omega
      go_wp2_with fail
      go_end0
      exact ⟨rfl, hT, hO⟩

end Go.Proofs.YtncfocjmdecapaaGreatDoor
namespace Go.Proofs.YtncfocjmdecapaaGreatDoor
set_option linter.unusedVariables false
set_option linter.unusedSimpArgs false
open Go.RowKit
set_option maxRecDepth 100000 in
set_option maxHeartbeats 1600000 in
theorem slow_any (b : Nat) (w : World) (h : Tab w b 0 0 (Pk 0) (Lk 0)) :
    Calls Tryz.prog 109 #[.pointer (some ⟨b, 0, none⟩), .func (.func 132) #[.pointer (some ⟨b, 0, none⟩)] #[]] w fun e w' => e = .returned (.tuple #[]) ∧ Tab w' b 1 0 (Pk 255) (Lk 255) ∧ Own b w w' := by
  have c1 : w.cell? ⟨b, 1, none⟩ = some (.int .i32 0) := h.cell 1
  have f1 : w.frozen? ⟨b, 1, none⟩ = false := Blk.free h.1 1
  have h1 := h.set_s 1
  have c0 : (w.setCell ⟨b, 1, none⟩ (.int .i32 1)).cell? ⟨b, 0, none⟩ = some (.int .u32 0) := h1.cell 0
  have hnot : ∀ (x : Bool) (w : World), (Op.unary .not (.bool x)).run Tryz.prog w = .ok (.bool (!x)) w := fun _ _ => rfl
  go_enter_defers Tryz.func109, Tryz.ntmps109
  go_wp2_with fail
  refine (lock_free ⟨b, 1, none⟩ _ c1 f1).mono ?_
  rintro e w' ⟨rfl, rfl⟩
  go_wp2_with fail
  refine (flag_load _ 0 false _ c0 rfl).mono ?_
  rintro e w' ⟨rfl, rfl⟩
  go_wp2_with fail
  refine (reckon_any b 0 1 _ h1).mono ?_
  rintro e w2 ⟨rfl, hT2, hO2⟩
  go_wp2_with fail
  refine leaves_cons (f := 116) (args := #[.pointer (some ⟨b, 0, none⟩), .bool true]) (by simp) (by simp [go_sem]) ?_
  refine (flag_deferred ⟨b, 0, none⟩ (.int .u32 0) .returning _ (hT2.cell 0) (Blk.free hT2.1 0)).mono ?_
  rintro e u' w'' ⟨rfl, rfl, rfl⟩
  have hT3 : Tab (w2.drew.setCell ⟨b, 0, none⟩ (.int .u32 1)) b 1 1 (Pk 255) (Lk 255) := Tab.set_d (w := w2.drew) hT2 1
  refine leaves_cons (f := 115) (args := #[.pointer (some ⟨b, 1, none⟩)]) (by simp [settle]) (by simp [go_sem]) ?_
  refine (unlock_deferred ⟨b, 1, none⟩ _ _ (hT3.cell 1) (Blk.free hT3.1 1)).mono ?_
  rintro e u' w'' ⟨rfl, rfl, rfl⟩
  simp [Leaves, settle, results, Tryz.results109]
  exact ⟨hT3.set_s 0, ((((Own.refl b w).set 1 _).trans hO2).drew.set 0 _).set 1 _⟩

/-- A table that was not asked yet, or is reckoned. -/
def TabIn (w : World) (b : Nat) : Prop := Tab w b 0 0 (Pk 0) (Lk 0) ∨ Tab w b 1 0 (Pk 255) (Lk 255)
theorem TabIn.own {w w' : World} {b c : Nat} (h : TabIn w b) (hO : Own c w w') (hn : b ≠ c) : TabIn w' b :=
  h.elim (fun t => .inl ⟨hO.blk t.1 hn, t.2⟩) (fun t => .inr ⟨hO.blk t.1 hn, t.2⟩)
theorem TabIn.lt {w : World} {b : Nat} (h : TabIn w b) : b < w.heap.size := h.elim (fun t => Blk.lt t.1) (fun t => Blk.lt t.1)
theorem TabIn.below {w w' : World} {b : Nat} (h : TabIn w b) (hO : Below w.heap.size w w') : TabIn w' b :=
  h.elim (fun t => .inl ⟨Blk.below t.1 hO (Blk.lt t.1), t.2⟩) (fun t => .inr ⟨Blk.below t.1 hO (Blk.lt t.1), t.2⟩)

set_option maxRecDepth 100000 in
set_option maxHeartbeats 1600000 in
theorem do_first (b : Nat) (w : World) (h : Tab w b 0 0 (Pk 0) (Lk 0)) :
    Calls Tryz.prog 106 #[.pointer (some ⟨b, 0, none⟩), .func (.func 132) #[.pointer (some ⟨b, 0, none⟩)] #[]] w fun e w' => e = .returned (.tuple #[]) ∧ Tab w' b 1 0 (Pk 255) (Lk 255) ∧ Own b w w' := by
  have hnot : ∀ (x : Bool) (w : World), (Op.unary .not (.bool x)).run Tryz.prog w = .ok (.bool (!x)) w := fun _ _ => rfl
  go_enter Tryz.func106, Tryz.ntmps106
  go_wp2_with fail
  refine (flag_load _ 0 false _ (h.cell 0) rfl).mono ?_
  rintro e w' ⟨rfl, rfl⟩
  go_wp2_with fail
  refine (slow_any b _ h).mono ?_
  rintro e w2 ⟨rfl, hT, hO⟩
  go_wp2_with fail
  go_end0
  exact ⟨rfl, hT, hO⟩

set_option maxHeartbeats 800000 in
theorem do_done (b : Nat) (f : Value) (w : World) (h : Tab w b 1 0 (Pk 255) (Lk 255)) :
    Calls Tryz.prog 106 #[.pointer (some ⟨b, 0, none⟩), f] w fun e w' => e = .returned (.tuple #[]) ∧ w = w' := by
  have hnot : ∀ (x : Bool) (w : World), (Op.unary .not (.bool x)).run Tryz.prog w = .ok (.bool (!x)) w := fun _ _ => rfl
  go_enter Tryz.func106, Tryz.ntmps106
  go_wp2_with fail
  refine (flag_load _ 1 true _ (h.cell 0) rfl).mono ?_
  rintro e w' ⟨rfl, rfl⟩
  go_wp2_with fail
  go_end0
  exact ⟨rfl, rfl⟩

set_option maxRecDepth 100000 in
set_option maxHeartbeats 800000 in
theorem ready_any (b : Nat) (w : World) (h : TabIn w b) :
    Calls Tryz.prog 123 #[.pointer (some ⟨b, 0, none⟩)] w fun e w' => e = .returned (.tuple #[]) ∧ Tab w' b 1 0 (Pk 255) (Lk 255) ∧ Own b w w' := by
  have hmf : ∀ (fn : Fn) (first cap : Array Value) (w : World), (Instr.makeFunc fn first cap).run Tryz.prog w = .ok (.func fn first cap) w := fun _ _ _ _ => rfl
  rcases h with h | h
  · obtain ⟨v0, c0⟩ := h.some (k := 0) (by omega)
    go_enter Tryz.func123, Tryz.ntmps123
    go_wp2_with fail
    refine (do_first b _ h).mono ?_
    rintro e w2 ⟨rfl, hT, hO⟩
    go_wp2_with fail
    go_end0
    exact ⟨rfl, hT, hO⟩
  · go_enter Tryz.func123, Tryz.ntmps123
    go_wp2_with fail
    refine (do_done b _ _ h).mono ?_
    rintro e w2 ⟨rfl, rfl⟩
    go_wp2_with fail
    go_end0
    exact ⟨rfl, h, Own.refl _ _⟩

end Go.Proofs.YtncfocjmdecapaaGreatDoor
namespace Go.Proofs.YtncfocjmdecapaaGreatDoor
set_option linter.unusedVariables false
set_option linter.unusedSimpArgs false
open Go.RowKit
theorem Own.drewN {b : Nat} {w w1 : World} (h : Own b w w1) (n : Nat) : Own b w (w1.drewN n) := ⟨h.os, h.tape, h.output, h.size, h.block⟩

/-- What an operation leaves: a table that is there still, nothing else turned. -/
def Left (b : Nat) (w w' : World) : Prop := TabIn w' b ∧ Own b w w'

set_option maxHeartbeats 400000 in
theorem div_zero (b : Nat) (a : Nat) (w : World) :
    Calls Tryz.prog 117 #[.pointer (some ⟨b, 0, none⟩), .int .u8 a, .int .u8 0] w fun e w' => e = .returned (.tuple #[.int .u8 0, .iface 53 (.int .i64 1)]) ∧ w = w' := by
  go_enter Tryz.func117, Tryz.ntmps117
  go_wp2_with fail
  go_ret2
  exact ⟨rfl, rfl⟩

set_option maxHeartbeats 400000 in
theorem div_none (b : Nat) (c : Nat) (w : World) (hc0 : c ≠ 0) :
    Calls Tryz.prog 117 #[.pointer (some ⟨b, 0, none⟩), .int .u8 0, .int .u8 c] w fun e w' => e = .returned (.tuple #[.int .u8 0, .nilIface]) ∧ w = w' := by
  have h2 : ((c : Int) == 0) = false := by rw [beq_eq_false_iff_ne]; omega
  clear hc0
  go_enter Tryz.func117, Tryz.ntmps117
  go_wp2_with fail
  go_ret2
  exact ⟨rfl, rfl⟩

set_option maxRecDepth 100000 in
set_option maxHeartbeats 1600000 in
theorem div_pos (b : Nat) (a c : Nat) (w : World) (h : TabIn w b) (ha : a < 256) (hc : c < 256) (ha0 : a ≠ 0) (hc0 : c ≠ 0) :
    Calls Tryz.prog 117 #[.pointer (some ⟨b, 0, none⟩), .int .u8 a, .int .u8 c] w fun e w' => e = .returned (.tuple #[.int .u8 (divN a c), .nilIface]) ∧ Left b w w' := by
  have h1 : ((a : Int) == 0) = false := by rw [beq_eq_false_iff_ne]; omega
  have h2 : ((c : Int) == 0) = false := by rw [beq_eq_false_iff_ne]; omega
  rw [show divN a c = expN ((logN a + 255 - logN c) % 255) from if_neg ha0]
  clear ha0 hc0
  go_enter Tryz.func117, Tryz.ntmps117
  go_wp2_with fail
  refine (ready_any b _ h).mono ?_
  rintro e w2 ⟨rfl, hT, hO⟩
  have l1 := log_lt ha
  have l2 := log_lt hc
  have c1 : w2.cell? ⟨b, 258 + a, none⟩ = some (.int .i64 (logN a)) := (hT.cell (258 + a)).trans (tab_l 1 0 hT.2.1 (L_at ha))
  have c2 : w2.cell? ⟨b, 258 + c, none⟩ = some (.int .i64 (logN c)) := (hT.cell (258 + c)).trans (tab_l 1 0 hT.2.1 (L_at hc))
  have c3 : w2.cell? ⟨b, 3 + (logN a + 255 - logN c) % 255, none⟩ = some (.int .u8 (expN ((logN a + 255 - logN c) % 255))) := (hT.cell _).trans (tab_p 1 0 _ (P_at (mod_lt _)))
  go_wp2_with fail
  go_quiet (fail)
  go_wp2_with fail
  go_ret2
  exact ⟨rfl, .inr hT, hO.drewN _⟩

theorem div_any (b : Nat) (a c : Nat) (w : World) (h : TabIn w b) (ha : a < 256) (hc : c < 256) (hc0 : c ≠ 0) :
    Calls Tryz.prog 117 #[.pointer (some ⟨b, 0, none⟩), .int .u8 a, .int .u8 c] w fun e w' => e = .returned (.tuple #[.int .u8 (divN a c), .nilIface]) ∧ Left b w w' := by
  by_cases ha0 : a = 0
  · subst ha0; rw [show divN 0 c = 0 from if_pos rfl]
    exact (div_none b c w hc0).mono fun e w' ⟨he, hw⟩ => by subst hw; exact ⟨he, h, Own.refl _ _⟩
  · exact div_pos b a c w h ha hc ha0 hc0

set_option maxHeartbeats 400000 in
theorem inv_zero (b : Nat) (w : World) :
    Calls Tryz.prog 111 #[.pointer (some ⟨b, 0, none⟩), .int .u8 0] w fun e w' => e = .returned (.tuple #[.int .u8 0, .iface 53 (.int .i64 1)]) ∧ w = w' := by
  go_enter Tryz.func111, Tryz.ntmps111
  go_wp2_with fail
  refine (div_zero b 1 _).mono ?_
  rintro e w2 ⟨rfl, rfl⟩
  go_wp2_with fail
  go_ret2
  exact ⟨rfl, rfl⟩

set_option maxHeartbeats 400000 in
theorem inv_any (b : Nat) (a : Nat) (w : World) (h : TabIn w b) (ha : a < 256) (ha0 : a ≠ 0) :
    Calls Tryz.prog 111 #[.pointer (some ⟨b, 0, none⟩), .int .u8 a] w fun e w' => e = .returned (.tuple #[.int .u8 (divN 1 a), .nilIface]) ∧ Left b w w' := by
  have hd := Lib.hid (div_any b 1 a w h (by decide) ha ha0)
  clear ha0
  go_enter Tryz.func111, Tryz.ntmps111
  go_wp2_with fail
  refine hd.out.mono ?_
  rintro e w2 ⟨rfl, hL⟩
  go_wp2_with fail
  go_ret2
  exact ⟨rfl, hL⟩

end Go.Proofs.YtncfocjmdecapaaGreatDoor
namespace Go.Proofs.YtncfocjmdecapaaGreatDoor
set_option linter.unusedVariables false
set_option linter.unusedSimpArgs false
open Go.RowKit
/-- The cells of a new table. -/
def zeroTG : Array Value := (tabCells 0 0 (Pk 0) (Lk 0)).toArray
theorem zero_run (w : World) : (zeroValue 206).run Tryz.prog w = .ok (.agg zeroTG) w := by kernel_rfl

set_option maxRecDepth 100000 in
set_option maxHeartbeats 1600000 in
theorem gfnew_any (w : World) :
    Calls Tryz.prog 110 #[] w fun e w' => e = .returned (.pointer (some ⟨w.heap.size, 0, none⟩)) ∧ TabIn w' w.heap.size ∧ Below w.heap.size w w' := by
  have hz := zero_run
  go_enter Tryz.func110, Tryz.ntmps110
  go_wp2_with fail
  go_ret
  exact ⟨rfl, .inl ⟨Blk.new _ _ _, Pk_len 0, Lk_len 0⟩, (Below.refl _ _).alloc (Nat.le_refl _) _⟩
end Go.Proofs.YtncfocjmdecapaaGreatDoor
namespace Go.Proofs.YtncfocjmdecapaaGreatDoor
set_option linter.unusedVariables false
set_option linter.unusedSimpArgs false
open Go.RowKit
/-- A byte. -/
def B8 (a : Int) : Prop := 0 ≤ a ∧ a < 256
theorem B8.nat {a : Int} (h : B8 a) : ∃ n : Nat, n < 256 ∧ a = n := ⟨a.toNat, by unfold B8 at h; omega, by unfold B8 at h; omega⟩
theorem B8.lt {a : Int} (h : B8 a) : a.toNat < 256 := by unfold B8 at h; omega
theorem B8_nat {n : Nat} (h : n < 256) : B8 (n : Int) := by unfold B8; omega
end Go.Proofs.YtncfocjmdecapaaGreatDoor
