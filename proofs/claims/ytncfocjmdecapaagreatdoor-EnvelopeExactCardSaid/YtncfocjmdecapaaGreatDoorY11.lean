/- Part of the proof: what stands here serves the walks of the functions that the statement calls. -/
import Derived.WalkLawsBesides
import Derived.Defers
import Derived.Laws.LoneSync
import Derived.RegionCalls
import Derived.ChangeAlike
import Derived.Test.YtncfocjmdecapaaGreatDoorY07
namespace Go.Proofs.YtncfocjmdecapaaGreatDoor
set_option linter.unusedVariables false
set_option linter.unusedSimpArgs false
open Go.RowKit
def trip (a : Nat) : Nat := (if a < 128 then 2 * a else (2 * a - 256) ^^^ 27) ^^^ a
def expN : Nat → Nat | 0 => 1 | n + 1 => trip (expN n)
def logN (a : Nat) : Nat := ((List.range 255).find? (fun i => expN i == a)).getD 0
theorem trip_lt {a : Nat} (h : a < 256) : trip a < 256 := by
 unfold trip
 refine Nat.xor_lt_two_pow (n := 8) ?_ h
 split
 ·show 2 * a < 256; omega
 ·exact Nat.xor_lt_two_pow (n := 8) (by omega) (by decide)
theorem expN_lt : ∀ n, expN n < 256
 | 0 => by decide
 | n + 1 => trip_lt (expN_lt n)
theorem exp_pos {i : Nat} (h : i < 255) : 0 < expN i := by
 have k : (List.range 255).all (fun i => decide (0 < expN i)) = true := by decide +kernel
 exact of_decide_eq_true (List.all_eq_true.1 k i (List.mem_range.2 h))
theorem log_exp {i : Nat} (h : i < 255) : logN (expN i) = i := by
 have k : (List.range 255).all (fun i => logN (expN i) == i) = true := by decide +kernel
 exact beq_iff_eq.1 (List.all_eq_true.1 k i (List.mem_range.2 h))
theorem log_lt {a : Nat} (h : a < 256) : logN a < 255 := by
 have k : (List.range 256).all (fun a => decide (logN a < 255)) = true := by decide +kernel
 exact of_decide_eq_true (List.all_eq_true.1 k a (List.mem_range.2 h))
theorem exp_log {a : Nat} (h0 : 0 < a) (h : a < 256) : expN (logN a) = a := by
 have k : (List.range 256).all (fun a => a == 0 || expN (logN a) == a) = true := by decide +kernel
 have := List.all_eq_true.1 k a (List.mem_range.2 h)
 simp at this
 rcases this with h1 | h1
 ·omega
 ·exact h1
def divN (a b : Nat) : Nat := if a = 0 then 0 else expN ((logN a + 255 - logN b) % 255)
theorem divN_lt (a b : Nat) : divN a b < 256 := by
 unfold divN; split
 ·decide
 ·exact expN_lt _
theorem mod_lt (n : Nat) : n % 255 < 255 := Nat.mod_lt _ (by decide)
theorem xor_lt {a b : Nat} (ha : a < 256) (hb : b < 256) : a ^^^ b < 256 := Nat.xor_lt_two_pow (n := 8) ha hb
set_option maxRecDepth 100000
def tabCells (d s : Int) (P L : List Nat) : List Value := [.int .u32 d, .int .i32 s, .int .u32 0] ++ (P.map (fun x : Nat => Value.int .u8 (x : Int)) ++ L.map (fun x : Nat => Value.int .i64 (x : Int)))
theorem tab_p (d s : Int) {P : List Nat} (L : List Nat) {i x : Nat} (hi : P[i]? = some x) : (tabCells d s P L)[3 + i]? = some (.int .u8 (x : Int)) := by
 have hl : i < P.length := by
  rcases Nat.lt_or_ge i P.length with h | h
  ·exact h
  ·rw [List.getElem?_eq_none h] at hi; cases hi
 unfold tabCells
 rw [List.getElem?_append_right (by simp), show 3 + i - [Value.int .u32 d, .int .i32 s, .int .u32 0].length = i from by simp,
  List.getElem?_append_left (by simpa using hl), List.getElem?_map, hi]
 rfl
theorem tab_l (d s : Int) {P L : List Nat} (hP : P.length = 255) {i x : Nat} (hi : L[i]? = some x) : (tabCells d s P L)[258 + i]? = some (.int .i64 (x : Int)) := by
 unfold tabCells
 rw [List.getElem?_append_right (by simp; omega), show 258 + i - [Value.int .u32 d, .int .i32 s, .int .u32 0].length = 255 + i from by simp; omega,
  List.getElem?_append_right (by simp [hP]), show 255 + i - (P.map (fun x : Nat => Value.int .u8 (x : Int))).length = i from by simp [hP], List.getElem?_map, hi]
 rfl
theorem tab_set_d (d d' s : Int) (P L : List Nat) : (tabCells d s P L).set 0 (.int .u32 d') = tabCells d' s P L := rfl
theorem tab_set_s (d s s' : Int) (P L : List Nat) : (tabCells d s P L).set 1 (.int .i32 s') = tabCells d s' P L := rfl
theorem tab_set_p (d s : Int) (P L : List Nat) (i x : Nat) (hi : i < P.length) : (tabCells d s P L).set (3 + i) (.int .u8 (x : Int)) = tabCells d s (P.set i x) L := by
 unfold tabCells
 rw [List.set_append_right _ _ (by simp), show 3 + i - [Value.int .u32 d, .int .i32 s, .int .u32 0].length = i from by simp, List.set_append_left _ _ (by simpa using hi), List.map_set]
theorem tab_set_l (d s : Int) (P L : List Nat) (hP : P.length = 255) (i x : Nat) : (tabCells d s P L).set (258 + i) (.int .i64 (x : Int)) = tabCells d s P (L.set i x) := by
 unfold tabCells
 rw [List.set_append_right _ _ (by simp; omega), show 258 + i - [Value.int .u32 d, .int .i32 s, .int .u32 0].length = 255 + i from by simp; omega, List.set_append_right _ _ (by simp [hP]),
  show 255 + i - (P.map (fun x : Nat => Value.int .u8 (x : Int))).length = i from by simp [hP], List.map_set]
theorem set_toArray (xs : List Value) (k : Nat) (v : Value) : xs.toArray.setIfInBounds k v = (xs.set k v).toArray := by simp
theorem disable (w : World) : (callFunc 124 #[]).run Tryz.prog w = .ok (.value (.tuple #[])) w := run_call_mark0 Tryz.func124 (by kernel_rfl) (by kernel_rfl) (by kernel_rfl) .disable (by kernel_rfl) w
theorem enable (w : World) : (callFunc 126 #[]).run Tryz.prog w = .ok (.value (.tuple #[])) w := run_call_mark0 Tryz.func126 (by kernel_rfl) (by kernel_rfl) (by kernel_rfl) .enable (by kernel_rfl) w
theorem acquire (a : Addr) (w : World) : (callFunc 127 #[.pointer (some a)]).run Tryz.prog w = .ok (.value (.tuple #[])) w := run_call_marked Tryz.func127 (by kernel_rfl) (by kernel_rfl) (by kernel_rfl) .acquire (by kernel_rfl) a w
theorem releaseMerge (a : Addr) (w : World) : (callFunc 129 #[.pointer (some a)]).run Tryz.prog w = .ok (.value (.tuple #[])) w := run_call_marked Tryz.func129 (by kernel_rfl) (by kernel_rfl) (by kernel_rfl) .releaseMerge (by kernel_rfl) a w
theorem flag_deferred (a : Addr) (x : Value) (u : FrameMode) (w : World) (hc : w.cell? a = some x) (hz : w.frozen? a = false) :
  CallsD Tryz.prog 116 #[.pointer (some a), .bool true] u w fun e u' w' => u' = u ∧ (e = .returned (.tuple #[]) ∧ w' = w.drew.setCell a (.int .u32 1)) := by
 have hc' : w.drew.cell? a = some x := by go_simp
 have hz' : w.drew.frozen? a = false := by go_simp
 have hst := run_call_store (P := Tryz.prog) Tryz.func121 (by kernel_rfl) (by kernel_rfl) (by kernel_rfl) (by kernel_rfl) (k := .u32) (y := 1) hc' hz'
 go_enter_d Tryz.func116, Tryz.ntmps116
 go_wp2
 go_region_calls
 all_goals (go_end0; exact ⟨rfl, rfl⟩)
theorem unlock_deferred (a : Addr) (u : FrameMode) (w : World) (hc : w.cell? a = some (.int .i32 1)) (hz : w.frozen? a = false) :
  CallsD Tryz.prog 115 #[.pointer (some a)] u w fun e u' w' => u' = u ∧ (e = .returned (.tuple #[]) ∧ w' = w.setCell a (.int .i32 0)) := by
 have hd := disable
 have he := enable
 have hr := releaseMerge
 have hadd := run_call_add (P := Tryz.prog) Tryz.func130 (by kernel_rfl) (by kernel_rfl) (by kernel_rfl) .i32 (by kernel_rfl) (y := -1) (s := 0) hc hz (by simp [go_sem]; rfl)
 have hcv := run_convert_to_unsafe (P := Tryz.prog) (src := 211) (dst := 93) Tryz.underlying211 Tryz.underlying93 (by kernel_rfl) hc
 go_enter_d Tryz.func115, Tryz.ntmps115
 go_wp2
 go_end0
 go_wp2
 go_end0
 exact ⟨rfl, rfl⟩
theorem lock_free (a : Addr) (w : World) (hc : w.cell? a = some (.int .i32 0)) (hz : w.frozen? a = false) :
  Calls Tryz.prog 114 #[.pointer (some a)] w fun e w' => e = .returned (.tuple #[]) ∧ w' = w.setCell a (.int .i32 1) := by
 have hd := disable
 have he := enable
 have ha := acquire
 have hcas := run_call_cas_hit (P := Tryz.prog) Tryz.func125 (by kernel_rfl) (by kernel_rfl) (by kernel_rfl) .i32 (by kernel_rfl) (y := 1) hc hz
 have hc' : (w.setCell a (.int .i32 1)).cell? a = some (.int .i32 1) := World.cell?_setCell_same w a _ hc
 have hcv := run_convert_to_unsafe (P := Tryz.prog) (src := 211) (dst := 93) Tryz.underlying211 Tryz.underlying93 (by kernel_rfl) hc'
 go_enter Tryz.func114, Tryz.ntmps114
 go_wp2
 first | go_end0 | (simp only [Exit.inBlock, Exit.then]; refine bodyPost_ret (results_none rfl _ _ _) rfl ?_) | refine bodyPost_ret (results_none rfl _ _ _) rfl ?_
 go_wp2
 go_end0
 exact ⟨rfl, rfl⟩
theorem flag_load (a : Addr) (d : Int) (t : Bool) (w : World) (h0 : w.cell? a = some (.int .u32 d)) (ht : (d != 0) = t) :
  Calls Tryz.prog 108 #[.pointer (some a)] w fun e w' => e = .returned (.bool t) ∧ w = w' := by
 have hl := run_call_load (P := Tryz.prog) Tryz.func113 (by kernel_rfl) (by kernel_rfl) (by kernel_rfl) .u32 (by kernel_rfl) h0
 have Ht : Hid _ := ht
 clear ht
 go_enter Tryz.func108, Tryz.ntmps108
 go_wp2
 go_ret
 exact ⟨by rw [← Ht.out]; rfl, rfl⟩
theorem trip_hi {a : Nat} (h : 128 ≤ a) (h2 : a < 256) : trip a = ((2 * a - 256) ^^^ 27) ^^^ a := by unfold trip; rw [if_neg (by omega)]
theorem trip_lo {a : Nat} (h : a < 128) : trip a = (2 * a) ^^^ a := by unfold trip; rw [if_pos h]
set_option maxHeartbeats 1000000
theorem triple_any (a : Nat) (w : World) (h : a < 256) :
  Calls Tryz.prog 140 #[.int .u8 a] w fun e w' => e = .returned (.int .u8 (trip a)) ∧ w = w' := by
 by_cases h1 : a < 128
 ·have e1 : bits .and .u8 (a : Int) 128 = 0 := by
   have := u8_and_nat a 128 h (by decide)
   rw [show ((128 : Nat) : Int) = 128 from rfl] at this
   rw [this, show (128 : Nat) = 2 ^ 7 from rfl, nat_bit 7 a]; simp; omega
  have e2 : bits .xor .u8 ((a : Int) * 2) (a : Int) = (trip a : Int) := by
   rw [trip_lo h1, show ((a : Int) * 2) = ((2 * a : Nat) : Int) from by omega, u8_xor_nat (2 * a) a (by omega) h]
  go_enter Tryz.func140, Tryz.ntmps140
  go_wp2
  go_ret
  exact ⟨rfl, rfl⟩
 ·have e1 : bits .and .u8 (a : Int) 128 = 128 := by
   have := u8_and_nat a 128 h (by decide)
   rw [show ((128 : Nat) : Int) = 128 from rfl] at this
   rw [this, show (128 : Nat) = 2 ^ 7 from rfl, nat_bit 7 a]; simp; omega
  have e0 : IntKind.u8.wrap ((a : Int) * 2) = ((2 * a - 256 : Nat) : Int) := by rw [IntKind.wrap_u8]; omega
  have e3 : bits .xor .u8 ((2 * a - 256 : Nat) : Int) 27 = (((2 * a - 256) ^^^ 27 : Nat) : Int) := u8_xor_nat (2 * a - 256) 27 (by omega) (by decide)
  have e2 : bits .xor .u8 (((2 * a - 256) ^^^ 27 : Nat) : Int) (a : Int) = (trip a : Int) := by
   rw [trip_hi (by omega) h, u8_xor_nat _ a (xor_lt (by omega) (by decide)) h]
  generalize 2 * a - 256 = q at *
  generalize q ^^^ 27 = r at *
  go_enter Tryz.func140, Tryz.ntmps140
  go_wp2
  go_ret
  exact ⟨rfl, rfl⟩
def Pk (k : Nat) : List Nat := (List.range k).foldl (fun l j => l.set j (expN j)) (List.replicate 255 0)
def Lk (k : Nat) : List Nat := (List.range k).foldl (fun l j => l.set (expN j) j) (List.replicate 256 0)
theorem Pk_succ (k : Nat) : Pk (k + 1) = (Pk k).set k (expN k) := by unfold Pk; rw [List.range_succ, List.foldl_append]; rfl
theorem Lk_succ (k : Nat) : Lk (k + 1) = (Lk k).set (expN k) k := by unfold Lk; rw [List.range_succ, List.foldl_append]; rfl
theorem Pk_len : ∀ k, (Pk k).length = 255
 | 0 => List.length_replicate
 | k + 1 => by rw [Pk_succ, List.length_set, Pk_len k]
theorem Lk_len : ∀ k, (Lk k).length = 256
 | 0 => List.length_replicate
 | k + 1 => by rw [Lk_succ, List.length_set, Lk_len k]
theorem P_at {i : Nat} (h : i < 255) : (Pk 255)[i]? = some (expN i) := by
 have k : (List.range 255).all (fun i => (Pk 255)[i]? == some (expN i)) = true := by decide +kernel
 exact beq_iff_eq.1 (List.all_eq_true.1 k i (List.mem_range.2 h))
theorem L_at {a : Nat} (h : a < 256) : (Lk 255)[a]? = some (logN a) := by
 have k : (List.range 256).all (fun a => (Lk 255)[a]? == some (logN a)) = true := by decide +kernel
 exact beq_iff_eq.1 (List.all_eq_true.1 k a (List.mem_range.2 h))
def Tab (w : World) (b : Nat) (d s : Int) (P L : List Nat) : Prop := Blk w b (tabCells d s P L).toArray 206 ∧ P.length = 255 ∧ L.length = 256
theorem Tab.cell {w : World} {b : Nat} {d s : Int} {P L : List Nat} (h : Tab w b d s P L) (k : Nat) : w.cell? ⟨b, k, none⟩ = (tabCells d s P L)[k]? := by
 rw [Blk.cell h.1 k]; simp
theorem Tab.some {w : World} {b : Nat} {d s : Int} {P L : List Nat} (h : Tab w b d s P L) {k : Nat} (hk : k < 514) : ∃ v, w.cell? ⟨b, k, none⟩ = some v := by
 have hl : (tabCells d s P L).length = 514 := by unfold tabCells; simp [h.2.1, h.2.2]
 rw [h.cell k, List.getElem?_eq_getElem (by omega)]; exact ⟨_, rfl⟩
theorem Tab.set_p {w : World} {b : Nat} {d s : Int} {P L : List Nat} (h : Tab w b d s P L) (i x : Nat) (hi : i < 255) : Tab (w.setCell ⟨b, 3 + i, none⟩ (.int .u8 (x : Int))) b d s (P.set i x) L := by
 refine ⟨?_, by rw [List.length_set]; exact h.2.1, h.2.2⟩
 have := Blk.set h.1 (3 + i) (.int .u8 (x : Int))
 rw [set_toArray, tab_set_p d s P L i x (by rw [h.2.1]; exact hi)] at this; exact this
theorem Tab.set_l {w : World} {b : Nat} {d s : Int} {P L : List Nat} (h : Tab w b d s P L) (i x : Nat) : Tab (w.setCell ⟨b, 258 + i, none⟩ (.int .i64 (x : Int))) b d s P (L.set i x) := by
 refine ⟨?_, h.2.1, by rw [List.length_set]; exact h.2.2⟩
 have := Blk.set h.1 (258 + i) (.int .i64 (x : Int))
 rw [set_toArray, tab_set_l d s P L h.2.1 i x] at this; exact this
theorem Tab.set_s {w : World} {b : Nat} {d s : Int} {P L : List Nat} (h : Tab w b d s P L) (s' : Int) : Tab (w.setCell ⟨b, 1, none⟩ (.int .i32 s')) b d s' P L := by
 refine ⟨?_, h.2⟩
 have := Blk.set h.1 1 (.int .i32 s')
 rw [set_toArray, tab_set_s] at this; exact this
theorem Tab.set_d {w : World} {b : Nat} {d s : Int} {P L : List Nat} (h : Tab w b d s P L) (d' : Int) : Tab (w.setCell ⟨b, 0, none⟩ (.int .u32 d')) b d' s P L := by
 refine ⟨?_, h.2⟩
 have := Blk.set h.1 0 (.int .u32 d')
 rw [set_toArray, tab_set_d] at this; exact this
def RInv (b : Nat) (w0 : World) (d s : Int) (p i : Value) (wr : World) : Prop :=
 ∃ k : Nat, k ≤ 255 ∧ i = .int .i64 k ∧ p = .int .u8 (expN k) ∧ Tab wr b d s (Pk k) (Lk k) ∧ Own b w0 wr
theorem reckon_any (b : Nat) (d s : Int) (w : World) (h : Tab w b d s (Pk 0) (Lk 0)) :
  Calls Tryz.prog 132 #[.pointer (some ⟨b, 0, none⟩)] w fun e w' => e = .returned (.tuple #[]) ∧ Tab w' b d s (Pk 255) (Lk 255) ∧ Own b w w' := by
 go_enter Tryz.func132, Tryz.ntmps132
 go_wp2_with fail
 go_loopw [2, 4] (fun p i wr => RInv b w d s p i wr) (fun _ i _ => 255 - (intOf i).toNat)
 case atStart => exact ⟨0, by omega, rfl, rfl, h, Own.refl _ _⟩
 case round =>
  obtain ⟨k, hk, rfl, rfl, hT, hO⟩ := hrel
  by_cases hlt : k < 255
  ·have hx := expN_lt k
   obtain ⟨v1, c1⟩ := hT.some (k := 3 + k) (by omega)
   have f1 : wr.frozen? ⟨b, 3 + k, none⟩ = false := Blk.free hT.1 (3 + k)
   have hT1 := hT.set_p k (expN k) hlt
   obtain ⟨v2, c2⟩ := hT1.some (k := 258 + expN k) (by omega)
   have f2 : (wr.setCell ⟨b, 3 + k, none⟩ (.int .u8 (expN k))).frozen? ⟨b, 258 + expN k, none⟩ = false := Blk.free hT1.1 (258 + expN k)
   have hT2 := hT1.set_l (expN k) k
   rw [← Pk_succ, ← Lk_succ] at hT2
   go_wp2_with fail
   refine (triple_any _ _ hx).mono ?_
   rintro e w' ⟨rfl, rfl⟩
   go_wp2_with fail
   go_roundw
   case rel => exact ⟨k + 1, by omega, by go_num, rfl, hT2, (hO.set _ _).set _ _⟩
   case measure => simp [intOf]; omega
  ·obtain rfl : k = 255 := by omega
   go_wp2_with fail
   go_end0
   exact ⟨rfl, hT, hO⟩
set_option maxHeartbeats 1600000
theorem slow_any (b : Nat) (w : World) (h : Tab w b 0 0 (Pk 0) (Lk 0)) :
  Calls Tryz.prog 109 #[.pointer (some ⟨b, 0, none⟩), .func (.func 132) #[.pointer (some ⟨b, 0, none⟩)] #[]] w fun e w' => e = .returned (.tuple #[]) ∧ Tab w' b 1 0 (Pk 255) (Lk 255) ∧ Own b w w' := by
 have c1 : w.cell? ⟨b, 1, none⟩ = some (.int .i32 0) := h.cell 1
 have f1 : w.frozen? ⟨b, 1, none⟩ = false := Blk.free h.1 1
 have h1 := h.set_s 1
 have c0 : (w.setCell ⟨b, 1, none⟩ (.int .i32 1)).cell? ⟨b, 0, none⟩ = some (.int .u32 0) := h1.cell 0
 have hnot : ∀ (x : Bool) (w : World), (Op.unary .not (.bool x)).run Tryz.prog w = .ok (.bool (!x)) w := fun _ _ => rfl
 go_enter_defers Tryz.func109, Tryz.ntmps109
 go_wp2_with fail
 refine (lock_free ⟨b, 1, none⟩ _ c1 f1).mono ?_
 rintro e w' ⟨rfl, rfl⟩
 go_wp2_with fail
 refine (flag_load _ 0 false _ c0 rfl).mono ?_
 rintro e w' ⟨rfl, rfl⟩
 go_wp2_with fail
 refine (reckon_any b 0 1 _ h1).mono ?_
 rintro e w2 ⟨rfl, hT2, hO2⟩
 go_wp2_with fail
 refine leaves_cons (f := 116) (args := #[.pointer (some ⟨b, 0, none⟩), .bool true]) (by simp) (by simp [go_sem]) ?_
 refine (flag_deferred ⟨b, 0, none⟩ (.int .u32 0) .returning _ (hT2.cell 0) (Blk.free hT2.1 0)).mono ?_
 rintro e u' w'' ⟨rfl, rfl, rfl⟩
 have hT3 : Tab (w2.drew.setCell ⟨b, 0, none⟩ (.int .u32 1)) b 1 1 (Pk 255) (Lk 255) := Tab.set_d (w := w2.drew) hT2 1
 refine leaves_cons (f := 115) (args := #[.pointer (some ⟨b, 1, none⟩)]) (by simp [settle]) (by simp [go_sem]) ?_
 refine (unlock_deferred ⟨b, 1, none⟩ _ _ (hT3.cell 1) (Blk.free hT3.1 1)).mono ?_
 rintro e u' w'' ⟨rfl, rfl, rfl⟩
 simp [Leaves, settle, results, Tryz.results109]
 exact ⟨hT3.set_s 0, ((((Own.refl b w).set 1 _).trans hO2).drew.set 0 _).set 1 _⟩
def TabIn (w : World) (b : Nat) : Prop := Tab w b 0 0 (Pk 0) (Lk 0) ∨ Tab w b 1 0 (Pk 255) (Lk 255)
theorem TabIn.own {w w' : World} {b c : Nat} (h : TabIn w b) (hO : Own c w w') (hn : b ≠ c) : TabIn w' b :=
 h.elim (fun t => .inl ⟨hO.blk t.1 hn, t.2⟩) (fun t => .inr ⟨hO.blk t.1 hn, t.2⟩)
theorem TabIn.lt {w : World} {b : Nat} (h : TabIn w b) : b < w.heap.size := h.elim (fun t => Blk.lt t.1) (fun t => Blk.lt t.1)
theorem TabIn.below {w w' : World} {b : Nat} (h : TabIn w b) (hO : Below w.heap.size w w') : TabIn w' b :=
 h.elim (fun t => .inl ⟨Blk.below t.1 hO (Blk.lt t.1), t.2⟩) (fun t => .inr ⟨Blk.below t.1 hO (Blk.lt t.1), t.2⟩)
theorem do_first (b : Nat) (w : World) (h : Tab w b 0 0 (Pk 0) (Lk 0)) :
  Calls Tryz.prog 106 #[.pointer (some ⟨b, 0, none⟩), .func (.func 132) #[.pointer (some ⟨b, 0, none⟩)] #[]] w fun e w' => e = .returned (.tuple #[]) ∧ Tab w' b 1 0 (Pk 255) (Lk 255) ∧ Own b w w' := by
 have hnot : ∀ (x : Bool) (w : World), (Op.unary .not (.bool x)).run Tryz.prog w = .ok (.bool (!x)) w := fun _ _ => rfl
 go_enter Tryz.func106, Tryz.ntmps106
 go_wp2_with fail
 refine (flag_load _ 0 false _ (h.cell 0) rfl).mono ?_
 rintro e w' ⟨rfl, rfl⟩
 go_wp2_with fail
 refine (slow_any b _ h).mono ?_
 rintro e w2 ⟨rfl, hT, hO⟩
 go_wp2_with fail
 go_end0
 exact ⟨rfl, hT, hO⟩
theorem do_done (b : Nat) (f : Value) (w : World) (h : Tab w b 1 0 (Pk 255) (Lk 255)) :
  Calls Tryz.prog 106 #[.pointer (some ⟨b, 0, none⟩), f] w fun e w' => e = .returned (.tuple #[]) ∧ w = w' := by
 have hnot : ∀ (x : Bool) (w : World), (Op.unary .not (.bool x)).run Tryz.prog w = .ok (.bool (!x)) w := fun _ _ => rfl
 go_enter Tryz.func106, Tryz.ntmps106
 go_wp2_with fail
 refine (flag_load _ 1 true _ (h.cell 0) rfl).mono ?_
 rintro e w' ⟨rfl, rfl⟩
 go_wp2_with fail
 go_end0
 exact ⟨rfl, rfl⟩
theorem ready_any (b : Nat) (w : World) (h : TabIn w b) :
  Calls Tryz.prog 123 #[.pointer (some ⟨b, 0, none⟩)] w fun e w' => e = .returned (.tuple #[]) ∧ Tab w' b 1 0 (Pk 255) (Lk 255) ∧ Own b w w' := by
 have hmf : ∀ (fn : Fn) (first cap : Array Value) (w : World), (Instr.makeFunc fn first cap).run Tryz.prog w = .ok (.func fn first cap) w := fun _ _ _ _ => rfl
 rcases h with h | h
 ·obtain ⟨v0, c0⟩ := h.some (k := 0) (by omega)
  go_enter Tryz.func123, Tryz.ntmps123
  go_wp2_with fail
  refine (do_first b _ h).mono ?_
  rintro e w2 ⟨rfl, hT, hO⟩
  go_wp2_with fail
  go_end0
  exact ⟨rfl, hT, hO⟩
 ·go_enter Tryz.func123, Tryz.ntmps123
  go_wp2_with fail
  refine (do_done b _ _ h).mono ?_
  rintro e w2 ⟨rfl, rfl⟩
  go_wp2_with fail
  go_end0
  exact ⟨rfl, h, Own.refl _ _⟩
set_option maxRecDepth 512
set_option maxHeartbeats 200000
def B8 (a : Int) : Prop := 0 ≤ a ∧ a < 256
theorem B8.nat {a : Int} (h : B8 a) : ∃ n : Nat, n < 256 ∧ a = n := ⟨a.toNat, by unfold B8 at h; omega, by unfold B8 at h; omega⟩
theorem B8.lt {a : Int} (h : B8 a) : a.toNat < 256 := by unfold B8 at h; omega
theorem B8_nat {n : Nat} (h : n < 256) : B8 (n : Int) := by unfold B8; omega
set_option maxHeartbeats 1600000
def rotN (k v : Nat) : Nat := (v * 2 ^ k % 256) ||| (v / 2 ^ (8 - k))
theorem rotN_lt (k : Nat) {v : Nat} (h : v < 256) : rotN k v < 256 := by
 have h1 : v / 2 ^ (8 - k) ≤ v := Nat.div_le_self _ _
 exact Nat.or_lt_two_pow (n := 8) (Nat.mod_lt _ (by decide)) (by show _ < 256; omega)
theorem rot_1 (a : Nat) (w : World) (h : a < 256) :
  Calls Tryz.prog 118 #[.int .u8 a, .int .i64 1] w fun e w' => e = .returned (.int .u8 (rotN 1 a : Nat)) ∧ w = w' := by
 have hb : bits .and .u64 1 7 = 1 := by decide
 have e1 : bits .or .u8 ((a : Int) * 2 % 256) ((a : Int) / 128) = (rotN 1 a : Nat) := by
  rw [show (a : Int) * 2 % 256 = ((a * 2 % 256 : Nat) : Int) from by omega, show (a : Int) / 128 = ((a / 128 : Nat) : Int) from by omega]
  exact u8_or_nat _ _ (Nat.mod_lt _ (by decide)) (by have := Nat.div_le_self a 128; omega)
 have E1 : Hid _ := e1
 clear e1
 go_enter Tryz.func118, Tryz.ntmps118
 go_wp2
 go_ret
 exact ⟨by rw [E1.out]; rfl, rfl⟩
theorem rot_2 (a : Nat) (w : World) (h : a < 256) :
  Calls Tryz.prog 118 #[.int .u8 a, .int .i64 2] w fun e w' => e = .returned (.int .u8 (rotN 2 a : Nat)) ∧ w = w' := by
 have hb : bits .and .u64 2 7 = 2 := by decide
 have e1 : bits .or .u8 ((a : Int) * 4 % 256) ((a : Int) / 64) = (rotN 2 a : Nat) := by
  rw [show (a : Int) * 4 % 256 = ((a * 4 % 256 : Nat) : Int) from by omega, show (a : Int) / 64 = ((a / 64 : Nat) : Int) from by omega]
  exact u8_or_nat _ _ (Nat.mod_lt _ (by decide)) (by have := Nat.div_le_self a 64; omega)
 have E1 : Hid _ := e1
 clear e1
 go_enter Tryz.func118, Tryz.ntmps118
 go_wp2
 go_ret
 exact ⟨by rw [E1.out]; rfl, rfl⟩
theorem rot_3 (a : Nat) (w : World) (h : a < 256) :
  Calls Tryz.prog 118 #[.int .u8 a, .int .i64 3] w fun e w' => e = .returned (.int .u8 (rotN 3 a : Nat)) ∧ w = w' := by
 have hb : bits .and .u64 3 7 = 3 := by decide
 have e1 : bits .or .u8 ((a : Int) * 8 % 256) ((a : Int) / 32) = (rotN 3 a : Nat) := by
  rw [show (a : Int) * 8 % 256 = ((a * 8 % 256 : Nat) : Int) from by omega, show (a : Int) / 32 = ((a / 32 : Nat) : Int) from by omega]
  exact u8_or_nat _ _ (Nat.mod_lt _ (by decide)) (by have := Nat.div_le_self a 32; omega)
 have E1 : Hid _ := e1
 clear e1
 go_enter Tryz.func118, Tryz.ntmps118
 go_wp2
 go_ret
 exact ⟨by rw [E1.out]; rfl, rfl⟩
theorem rot_4 (a : Nat) (w : World) (h : a < 256) :
  Calls Tryz.prog 118 #[.int .u8 a, .int .i64 4] w fun e w' => e = .returned (.int .u8 (rotN 4 a : Nat)) ∧ w = w' := by
 have hb : bits .and .u64 4 7 = 4 := by decide
 have e1 : bits .or .u8 ((a : Int) * 16 % 256) ((a : Int) / 16) = (rotN 4 a : Nat) := by
  rw [show (a : Int) * 16 % 256 = ((a * 16 % 256 : Nat) : Int) from by omega, show (a : Int) / 16 = ((a / 16 : Nat) : Int) from by omega]
  exact u8_or_nat _ _ (Nat.mod_lt _ (by decide)) (by have := Nat.div_le_self a 16; omega)
 have E1 : Hid _ := e1
 clear e1
 go_enter Tryz.func118, Tryz.ntmps118
 go_wp2
 go_ret
 exact ⟨by rw [E1.out]; rfl, rfl⟩
def spreadN (v : Nat) : Nat := ((((v ^^^ 99) ^^^ rotN 1 v) ^^^ rotN 2 v) ^^^ rotN 3 v) ^^^ rotN 4 v
theorem spreadN_lt {v : Nat} (h : v < 256) : spreadN v < 256 :=
 xor_lt (xor_lt (xor_lt (xor_lt (xor_lt h (by decide)) (rotN_lt 1 h)) (rotN_lt 2 h)) (rotN_lt 3 h)) (rotN_lt 4 h)
theorem spread_anyG (v : Nat) (w : World) (h : v < 256) :
  Calls Tryz.prog 112 #[.int .u8 v] w fun e w' => e = .returned (.int .u8 (spreadN v : Nat)) ∧ w = w' := by
 have r1 := rot_1 v
 have r2 := rot_2 v
 have r3 := rot_3 v
 have r4 := rot_4 v
 have l1 := rotN_lt 1 h
 have l2 := rotN_lt 2 h
 have l3 := rotN_lt 3 h
 have l4 := rotN_lt 4 h
 have l0 : v ^^^ 99 < 256 := xor_lt h (by decide)
 have e0 : bits .xor .u8 (v : Int) 99 = ((v ^^^ 99 : Nat) : Int) := u8_xor_nat v 99 h (by decide)
 unfold spreadN
 generalize rotN 1 v = q1 at *
 generalize rotN 2 v = q2 at *
 generalize rotN 3 v = q3 at *
 generalize rotN 4 v = q4 at *
 generalize v ^^^ 99 = q0 at *
 have e1 : bits .xor .u8 (q0 : Int) (q1 : Int) = ((q0 ^^^ q1 : Nat) : Int) := u8_xor_nat _ _ l0 l1
 have l5 : q0 ^^^ q1 < 256 := xor_lt l0 l1
 generalize q0 ^^^ q1 = p1 at *
 have e2 : bits .xor .u8 (p1 : Int) (q2 : Int) = ((p1 ^^^ q2 : Nat) : Int) := u8_xor_nat _ _ l5 l2
 have l6 : p1 ^^^ q2 < 256 := xor_lt l5 l2
 generalize p1 ^^^ q2 = p2 at *
 have e3 : bits .xor .u8 (p2 : Int) (q3 : Int) = ((p2 ^^^ q3 : Nat) : Int) := u8_xor_nat _ _ l6 l3
 have l7 : p2 ^^^ q3 < 256 := xor_lt l6 l3
 generalize p2 ^^^ q3 = p3 at *
 have e4 : bits .xor .u8 (p3 : Int) (q4 : Int) = ((p3 ^^^ q4 : Nat) : Int) := u8_xor_nat _ _ l7 l4
 generalize p3 ^^^ q4 = p4 at *
 have R1 : Hid _ := r1
 have R2 : Hid _ := r2
 have R3 : Hid _ := r3
 have R4 : Hid _ := r4
 clear r1 r2 r3 r4
 go_enter Tryz.func112, Tryz.ntmps112
 go_wp2_with fail
 refine wp_loop_rounds 5 ?_
 rw [rounds_succ]
 go_wp2_with fail
 refine (R1.out _ h).mono ?_
 rintro e w' ⟨rfl, rfl⟩
 go_wp2_with fail
 rw [rounds_succ]
 go_wp2_with fail
 refine (R2.out _ h).mono ?_
 rintro e w' ⟨rfl, rfl⟩
 go_wp2_with fail
 rw [rounds_succ]
 go_wp2_with fail
 refine (R3.out _ h).mono ?_
 rintro e w' ⟨rfl, rfl⟩
 go_wp2_with fail
 rw [rounds_succ]
 go_wp2_with fail
 refine (R4.out _ h).mono ?_
 rintro e w' ⟨rfl, rfl⟩
 go_wp2_with fail
 rw [rounds_succ]
 go_wp2_with fail
 go_ret
 exact ⟨rfl, rfl⟩
set_option maxHeartbeats 200000
def invN (x : Nat) : Nat := if x = 0 then 0 else divN 1 x
theorem invN_lt (x : Nat) : invN x < 256 := by unfold invN; split; decide; exact divN_lt _ _
def subN (x : Nat) : Nat := spreadN (invN x)
theorem subN_lt (x : Nat) : subN x < 256 := spreadN_lt (invN_lt x)
def laidAt (f g : Nat → Nat) (n k : Nat) : List Nat := (List.range k).foldl (fun l j => l.set (f j) (g j)) (List.replicate n 0)
theorem laidAt_succ (f g : Nat → Nat) (n k : Nat) : laidAt f g n (k + 1) = (laidAt f g n k).set (f k) (g k) := by unfold laidAt; rw [List.range_succ, List.foldl_append]; rfl
theorem laidAt_len (f g : Nat → Nat) (n : Nat) : ∀ k, (laidAt f g n k).length = n
 | 0 => List.length_replicate
 | k + 1 => by rw [laidAt_succ, List.length_set, laidAt_len f g n k]
theorem laidAt_get {f g : Nat → Nat} {n : Nat} (hf : ∀ i j, f i = f j → i < n → j < n → i = j) (hl : ∀ i, i < n → f i < n) : ∀ k i, k ≤ n → i < k → (laidAt f g n k)[f i]? = some (g i)
 | 0, i, _, h => absurd h (Nat.not_lt_zero _)
 | k + 1, i, hk, h => by
  rw [laidAt_succ]
  by_cases e : i = k
  ·subst e
   rw [List.getElem?_set_self (by rw [laidAt_len]; exact hl i (by omega))]
  ·rw [List.getElem?_set_ne (fun h2 => e (hf i k h2.symm (by omega) (by omega)))]
   exact laidAt_get hf hl k i (by omega) (by omega)
def Sk (k : Nat) : List Nat := laidAt id subN 256 k
def Bk (k : Nat) : List Nat := laidAt subN id 256 k
theorem Sk_succ (k : Nat) : Sk (k + 1) = (Sk k).set k (subN k) := laidAt_succ _ _ _ _
theorem Bk_succ (k : Nat) : Bk (k + 1) = (Bk k).set (subN k) k := laidAt_succ _ _ _ _
theorem Sk_len (k : Nat) : (Sk k).length = 256 := laidAt_len _ _ _ _
theorem Bk_len (k : Nat) : (Bk k).length = 256 := laidAt_len _ _ _ _
theorem S_at {x : Nat} (h : x < 256) : (Sk 256)[x]? = some (subN x) := laidAt_get (f := id) (fun _ _ h _ _ => h) (fun _ h => h) 256 x (Nat.le_refl _) h
set_option maxRecDepth 100000
set_option maxHeartbeats 1600000
theorem Own.drewN {b : Nat} {w w1 : World} (h : Own b w w1) (n : Nat) : Own b w (w1.drewN n) := ⟨h.os, h.tape, h.output, h.size, h.block⟩
def Left (b : Nat) (w w' : World) : Prop := TabIn w' b ∧ Own b w w'
theorem div_zero (b : Nat) (a : Nat) (w : World) :
  Calls Tryz.prog 117 #[.pointer (some ⟨b, 0, none⟩), .int .u8 a, .int .u8 0] w fun e w' => e = .returned (.tuple #[.int .u8 0, .iface 53 (.int .i64 1)]) ∧ w = w' := by
 go_enter Tryz.func117, Tryz.ntmps117
 go_wp2_with fail
 go_ret2
 exact ⟨rfl, rfl⟩
theorem div_none (b : Nat) (c : Nat) (w : World) (hc0 : c ≠ 0) :
  Calls Tryz.prog 117 #[.pointer (some ⟨b, 0, none⟩), .int .u8 0, .int .u8 c] w fun e w' => e = .returned (.tuple #[.int .u8 0, .nilIface]) ∧ w = w' := by
 have h2 : ((c : Int) == 0) = false := by rw [beq_eq_false_iff_ne]; omega
 clear hc0
 go_enter Tryz.func117, Tryz.ntmps117
 go_wp2_with fail
 go_ret2
 exact ⟨rfl, rfl⟩
theorem div_pos (b : Nat) (a c : Nat) (w : World) (h : TabIn w b) (ha : a < 256) (hc : c < 256) (ha0 : a ≠ 0) (hc0 : c ≠ 0) :
  Calls Tryz.prog 117 #[.pointer (some ⟨b, 0, none⟩), .int .u8 a, .int .u8 c] w fun e w' => e = .returned (.tuple #[.int .u8 (divN a c), .nilIface]) ∧ Left b w w' := by
 have h1 : ((a : Int) == 0) = false := by rw [beq_eq_false_iff_ne]; omega
 have h2 : ((c : Int) == 0) = false := by rw [beq_eq_false_iff_ne]; omega
 rw [show divN a c = expN ((logN a + 255 - logN c) % 255) from if_neg ha0]
 clear ha0 hc0
 go_enter Tryz.func117, Tryz.ntmps117
 go_wp2_with fail
 refine (ready_any b _ h).mono ?_
 rintro e w2 ⟨rfl, hT, hO⟩
 have l1 := log_lt ha
 have l2 := log_lt hc
 have c1 : w2.cell? ⟨b, 258 + a, none⟩ = some (.int .i64 (logN a)) := (hT.cell (258 + a)).trans (tab_l 1 0 hT.2.1 (L_at ha))
 have c2 : w2.cell? ⟨b, 258 + c, none⟩ = some (.int .i64 (logN c)) := (hT.cell (258 + c)).trans (tab_l 1 0 hT.2.1 (L_at hc))
 have c3 : w2.cell? ⟨b, 3 + (logN a + 255 - logN c) % 255, none⟩ = some (.int .u8 (expN ((logN a + 255 - logN c) % 255))) := (hT.cell _).trans (tab_p 1 0 _ (P_at (mod_lt _)))
 go_wp2_with fail
 go_quiet (fail)
 go_wp2_with fail
 go_ret2
 exact ⟨rfl, .inr hT, hO.drewN _⟩
theorem div_any (b : Nat) (a c : Nat) (w : World) (h : TabIn w b) (ha : a < 256) (hc : c < 256) (hc0 : c ≠ 0) :
  Calls Tryz.prog 117 #[.pointer (some ⟨b, 0, none⟩), .int .u8 a, .int .u8 c] w fun e w' => e = .returned (.tuple #[.int .u8 (divN a c), .nilIface]) ∧ Left b w w' := by
 by_cases ha0 : a = 0
 ·subst ha0; rw [show divN 0 c = 0 from if_pos rfl]
  exact (div_none b c w hc0).mono fun e w' ⟨he, hw⟩ => by subst hw; exact ⟨he, h, Own.refl _ _⟩
 ·exact div_pos b a c w h ha hc ha0 hc0
theorem inv_zero (b : Nat) (w : World) :
  Calls Tryz.prog 111 #[.pointer (some ⟨b, 0, none⟩), .int .u8 0] w fun e w' => e = .returned (.tuple #[.int .u8 0, .iface 53 (.int .i64 1)]) ∧ w = w' := by
 go_enter Tryz.func111, Tryz.ntmps111
 go_wp2_with fail
 refine (div_zero b 1 _).mono ?_
 rintro e w2 ⟨rfl, rfl⟩
 go_wp2_with fail
 go_ret2
 exact ⟨rfl, rfl⟩
theorem inv_any (b : Nat) (a : Nat) (w : World) (h : TabIn w b) (ha : a < 256) (ha0 : a ≠ 0) :
  Calls Tryz.prog 111 #[.pointer (some ⟨b, 0, none⟩), .int .u8 a] w fun e w' => e = .returned (.tuple #[.int .u8 (divN 1 a), .nilIface]) ∧ Left b w w' := by
 have hd := zh (div_any b 1 a w h (by decide) ha ha0)
 clear ha0
 go_enter Tryz.func111, Tryz.ntmps111
 go_wp2_with fail
 refine hd.out.mono ?_
 rintro e w2 ⟨rfl, hL⟩
 go_wp2_with fail
 go_ret2
 exact ⟨rfl, hL⟩
def zeroTG : Array Value := (tabCells 0 0 (Pk 0) (Lk 0)).toArray
theorem zero_run (w : World) : (zeroValue 206).run Tryz.prog w = .ok (.agg zeroTG) w := by kernel_rfl
theorem gfnew_any (w : World) :
  Calls Tryz.prog 110 #[] w fun e w' => e = .returned (.pointer (some ⟨w.heap.size, 0, none⟩)) ∧ TabIn w' w.heap.size ∧ Below w.heap.size w w' := by
 have hz := zero_run
 go_enter Tryz.func110, Tryz.ntmps110
 go_wp2_with fail
 go_ret
 exact ⟨rfl, .inl ⟨Blk.new _ _ _, Pk_len 0, Lk_len 0⟩, zA⟩
set_option maxHeartbeats 2000000
theorem Own.two {b c : Nat} {w w1 w2 : World} (h : Own b w w1) (k : Own c w1 w2) (hc : w.heap.size ≤ c) : Own b w w2 :=
 ⟨k.os.trans h.os, k.tape.trans h.tape, k.output.trans h.output, Nat.le_trans h.size k.size, fun i hi hn => (k.block i (Nat.lt_of_lt_of_le hi h.size) (by omega)).trans (h.block i hi hn)⟩
def boxCells (d s : Int) (S B : List Nat) : List Value := [.int .u32 d, .int .i32 s, .int .u32 0] ++ (S.map (fun x : Nat => Value.int .u8 (x : Int)) ++ B.map (fun x : Nat => Value.int .u8 (x : Int)))
theorem box_s (d s : Int) {S : List Nat} (B : List Nat) {i x : Nat} (hi : S[i]? = some x) : (boxCells d s S B)[3 + i]? = some (.int .u8 (x : Int)) := by
 have hl : i < S.length := by
  rcases Nat.lt_or_ge i S.length with h | h
  ·exact h
  ·rw [List.getElem?_eq_none h] at hi; cases hi
 unfold boxCells
 rw [List.getElem?_append_right (by simp), show 3 + i - [Value.int .u32 d, .int .i32 s, .int .u32 0].length = i from by simp,
  List.getElem?_append_left (by simpa using hl), List.getElem?_map, hi]
 rfl
theorem box_set_d (d d' s : Int) (S B : List Nat) : (boxCells d s S B).set 0 (.int .u32 d') = boxCells d' s S B := rfl
theorem box_set_l (d s s' : Int) (S B : List Nat) : (boxCells d s S B).set 1 (.int .i32 s') = boxCells d s' S B := rfl
theorem box_set_s (d s : Int) (S B : List Nat) (i x : Nat) (hi : i < S.length) : (boxCells d s S B).set (3 + i) (.int .u8 (x : Int)) = boxCells d s (S.set i x) B := by
 unfold boxCells
 rw [List.set_append_right _ _ (by simp), show 3 + i - [Value.int .u32 d, .int .i32 s, .int .u32 0].length = i from by simp, List.set_append_left _ _ (by simpa using hi), List.map_set]
theorem box_set_b (d s : Int) (S B : List Nat) (hS : S.length = 256) (i x : Nat) : (boxCells d s S B).set (259 + i) (.int .u8 (x : Int)) = boxCells d s S (B.set i x) := by
 unfold boxCells
 rw [List.set_append_right _ _ (by simp; omega), show 259 + i - [Value.int .u32 d, .int .i32 s, .int .u32 0].length = 256 + i from by simp; omega, List.set_append_right _ _ (by simp [hS]),
  show 256 + i - (S.map (fun x : Nat => Value.int .u8 (x : Int))).length = i from by simp [hS], List.map_set]
def Box (w : World) (b : Nat) (d s : Int) (S B : List Nat) : Prop := Blk w b (boxCells d s S B).toArray 181 ∧ S.length = 256 ∧ B.length = 256
theorem Box.cell {w : World} {b : Nat} {d s : Int} {S B : List Nat} (h : Box w b d s S B) (k : Nat) : w.cell? ⟨b, k, none⟩ = (boxCells d s S B)[k]? := by
 rw [Blk.cell h.1 k]; simp
theorem Box.some {w : World} {b : Nat} {d s : Int} {S B : List Nat} (h : Box w b d s S B) {k : Nat} (hk : k < 515) : ∃ v, w.cell? ⟨b, k, none⟩ = some v := by
 have hl : (boxCells d s S B).length = 515 := by unfold boxCells; simp [h.2.1, h.2.2]
 rw [h.cell k, List.getElem?_eq_getElem (by omega)]; exact ⟨_, rfl⟩
theorem Box.set_s {w : World} {b : Nat} {d s : Int} {S B : List Nat} (h : Box w b d s S B) (i x : Nat) (hi : i < 256) : Box (w.setCell ⟨b, 3 + i, none⟩ (.int .u8 (x : Int))) b d s (S.set i x) B := by
 refine ⟨?_, by rw [List.length_set]; exact h.2.1, h.2.2⟩
 have := Blk.set h.1 (3 + i) (.int .u8 (x : Int))
 rw [set_toArray, box_set_s d s S B i x (by rw [h.2.1]; exact hi)] at this; exact this
theorem Box.set_b {w : World} {b : Nat} {d s : Int} {S B : List Nat} (h : Box w b d s S B) (i x : Nat) : Box (w.setCell ⟨b, 259 + i, none⟩ (.int .u8 (x : Int))) b d s S (B.set i x) := by
 refine ⟨?_, h.2.1, by rw [List.length_set]; exact h.2.2⟩
 have := Blk.set h.1 (259 + i) (.int .u8 (x : Int))
 rw [set_toArray, box_set_b d s S B h.2.1 i x] at this; exact this
theorem Box.set_l {w : World} {b : Nat} {d s : Int} {S B : List Nat} (h : Box w b d s S B) (s' : Int) : Box (w.setCell ⟨b, 1, none⟩ (.int .i32 s')) b d s' S B := by
 refine ⟨?_, h.2⟩
 have := Blk.set h.1 1 (.int .i32 s')
 rw [set_toArray, box_set_l] at this; exact this
theorem Box.set_d {w : World} {b : Nat} {d s : Int} {S B : List Nat} (h : Box w b d s S B) (d' : Int) : Box (w.setCell ⟨b, 0, none⟩ (.int .u32 d')) b d' s S B := by
 refine ⟨?_, h.2⟩
 have := Blk.set h.1 0 (.int .u32 d')
 rw [set_toArray, box_set_d] at this; exact this
def RInvB (b tb : Nat) (w0 : World) (d s : Int) (i : Value) (wr : World) : Prop :=
 ∃ k : Nat, k ≤ 256 ∧ i = .int .i64 k ∧ Box wr b d s (Sk k) (Bk k) ∧ TabIn wr tb ∧ Own b w0 wr
theorem TabIn.setB {w : World} {b c : Nat} (h : TabIn w b) (hn : b ≠ c) (k : Nat) (v : Value) : TabIn (w.setCell ⟨c, k, none⟩ v) b :=
 h.own ((Own.refl c w).set k v) hn
theorem reckonB (b : Nat) (d s : Int) (w : World) (h : Box w b d s (Sk 0) (Bk 0)) :
  Calls Tryz.prog 107 #[.pointer (some ⟨b, 0, none⟩)] w fun e w' => e = .returned (.tuple #[]) ∧ Box w' b d s (Sk 256) (Bk 256) ∧ Own b w w' := by
 have hbl := Blk.lt h.1
 have hne : b ≠ w.heap.size := by omega
 have Hle : Hid (w.heap.size ≤ w.heap.size) := Nat.le_refl _
 go_enter Tryz.func107, Tryz.ntmps107
 go_wp2_with fail
 refine (gfnew_any _).mono ?_
 rintro e w0 ⟨rfl, hT0, hB0⟩
 have hO0 : Own b w w0 := Own.of_below hB0 |>.trans (Own.refl _ _)
 have hX0 : Box w0 b d s (Sk 0) (Bk 0) := ⟨Blk.below h.1 hB0 hbl, h.2⟩
 obtain ⟨tb, htb⟩ := zX w.heap.size
 rw [htb] at hT0 hne ⊢
 have htb' : w.heap.size ≤ tb := Nat.le_of_eq htb
 clear htb hB0 h
 go_wp2_with fail
 go_loopw [8] (fun i wr => RInvB b tb w d s i wr) (fun i _ => 256 - (intOf i).toNat)
 case atStart => exact ⟨0, by omega, rfl, hX0, hT0, hO0⟩
 case round =>
  obtain ⟨k, hk, rfl, hX, hT, hO⟩ := hrel
  clear hX0 hT0 hO0
  by_cases hlt : k < 256
  ·have hx := subN_lt k
   by_cases h0 : k = 0
   ·subst h0
    have hsub : spreadN 0 = subN 0 := rfl
    have HS : Hid _ := hsub
    clear hsub
    obtain ⟨v1, c1⟩ := hX.some (k := 3) (by omega)
    have f1 : wr.frozen? ⟨b, 3, none⟩ = false := Blk.free hX.1 3
    have hX1 := hX.set_s 0 (subN 0) (by omega)
    obtain ⟨v2, c2⟩ := hX1.some (k := 259 + subN 0) (by omega)
    have f2 : (wr.setCell ⟨b, 3 + 0, none⟩ (.int .u8 (subN 0))).frozen? ⟨b, 259 + subN 0, none⟩ = false := Blk.free hX1.1 (259 + subN 0)
    have hX2 := hX1.set_b (subN 0) 0
    rw [← Sk_succ, ← Bk_succ] at hX2
    rw [show 3 + 0 = 3 from rfl] at c2 f2 hX2
    have hT2 := (hT.setB (Ne.symm hne) 3 (.int .u8 (subN 0))).setB (Ne.symm hne) (259 + subN 0) (.int .u8 ((0 : Nat) : Int))
    go_wp2_with fail
    refine (inv_zero tb _).mono ?_
    rintro e w' ⟨rfl, rfl⟩
    go_wp2_with fail
    refine (spread_anyG 0 _ (by decide)).mono ?_
    rintro e w' ⟨rfl, rfl⟩
    rw [HS.out]
    clear HS
    generalize subN 0 = sv at *
    go_wp2_with fail
    go_roundw
    case rel => exact ⟨1, by omega, by go_num, hX2, hT2, (hO.set _ _).set _ _⟩
    case measure => simp [intOf]
   ·have hsub : spreadN (divN 1 k) = subN k := by unfold subN invN; rw [if_neg h0]
    have HS : Hid _ := hsub
    clear hsub
    have H0 : Hid _ := h0
    clear h0
    have hd := divN_lt 1 k
    go_wp2_with fail
    refine (inv_any tb k _ hT hlt H0.out).mono ?_
    rintro e w1 ⟨rfl, hT1, hO1⟩
    have hO2 := hO.two hO1 htb'
    have hY : Box w1 b d s (Sk k) (Bk k) := ⟨hO1.blk hX.1 hne, hX.2⟩
    clear hX hT hO hO1
    obtain ⟨v1, c1⟩ := hY.some (k := 3 + k) (by omega)
    have f1 : w1.frozen? ⟨b, 3 + k, none⟩ = false := Blk.free hY.1 (3 + k)
    have hX1 := hY.set_s k (subN k) hlt
    obtain ⟨v2, c2⟩ := hX1.some (k := 259 + subN k) (by omega)
    have f2 : (w1.setCell ⟨b, 3 + k, none⟩ (.int .u8 (subN k))).frozen? ⟨b, 259 + subN k, none⟩ = false := Blk.free hX1.1 (259 + subN k)
    have hX2 := hX1.set_b (subN k) k
    rw [← Sk_succ, ← Bk_succ] at hX2
    have hT2 := (hT1.setB (Ne.symm hne) (3 + k) (.int .u8 (subN k))).setB (Ne.symm hne) (259 + subN k) (.int .u8 (k : Int))
    go_wp2_with fail
    refine (spread_anyG (divN 1 k) _ hd).mono ?_
    rintro e w' ⟨rfl, rfl⟩
    rw [HS.out]
    clear HS
    generalize subN k = sv at *
    go_wp2_with fail
    go_roundw
    case rel => exact ⟨k + 1, by omega, by go_num, hX2, hT2, (hO2.set _ _).set _ _⟩
    case measure => simp [intOf]; omega
  ·obtain rfl : k = 256 := by omega
   go_wp2_with fail
   go_end0
   exact ⟨rfl, hX, hO⟩
theorem slowB (b : Nat) (w : World) (h : Box w b 0 0 (Sk 0) (Bk 0)) :
  Calls Tryz.prog 109 #[.pointer (some ⟨b, 0, none⟩), .func (.func 107) #[.pointer (some ⟨b, 0, none⟩)] #[]] w fun e w' => e = .returned (.tuple #[]) ∧ Box w' b 1 0 (Sk 256) (Bk 256) ∧ Own b w w' := by
 have c1 : w.cell? ⟨b, 1, none⟩ = some (.int .i32 0) := h.cell 1
 have f1 : w.frozen? ⟨b, 1, none⟩ = false := Blk.free h.1 1
 have h1 := h.set_l 1
 have c0 : (w.setCell ⟨b, 1, none⟩ (.int .i32 1)).cell? ⟨b, 0, none⟩ = some (.int .u32 0) := h1.cell 0
 have hnot : ∀ (x : Bool) (w : World), (Op.unary .not (.bool x)).run Tryz.prog w = .ok (.bool (!x)) w := fun _ _ => rfl
 go_enter_defers Tryz.func109, Tryz.ntmps109
 go_wp2_with fail
 refine (lock_free ⟨b, 1, none⟩ _ c1 f1).mono ?_
 rintro e w' ⟨rfl, rfl⟩
 go_wp2_with fail
 refine (flag_load _ 0 false _ c0 rfl).mono ?_
 rintro e w' ⟨rfl, rfl⟩
 go_wp2_with fail
 refine (reckonB b 0 1 _ h1).mono ?_
 rintro e w2 ⟨rfl, hT2, hO2⟩
 go_wp2_with fail
 refine leaves_cons (f := 116) (args := #[.pointer (some ⟨b, 0, none⟩), .bool true]) (by simp) (by simp [go_sem]) ?_
 refine (flag_deferred ⟨b, 0, none⟩ (.int .u32 0) .returning _ (hT2.cell 0) (Blk.free hT2.1 0)).mono ?_
 rintro e u' w'' ⟨rfl, rfl, rfl⟩
 have hT3 : Box (w2.drew.setCell ⟨b, 0, none⟩ (.int .u32 1)) b 1 1 (Sk 256) (Bk 256) := Box.set_d (w := w2.drew) hT2 1
 refine leaves_cons (f := 115) (args := #[.pointer (some ⟨b, 1, none⟩)]) (by simp [settle]) (by simp [go_sem]) ?_
 refine (unlock_deferred ⟨b, 1, none⟩ _ _ (hT3.cell 1) (Blk.free hT3.1 1)).mono ?_
 rintro e u' w'' ⟨rfl, rfl, rfl⟩
 simp [Leaves, settle, results, Tryz.results109]
 exact ⟨hT3.set_l 0, ((((Own.refl b w).set 1 _).trans hO2).drew.set 0 _).set 1 _⟩
def BoxIn (w : World) (b : Nat) : Prop := Box w b 0 0 (Sk 0) (Bk 0) ∨ Box w b 1 0 (Sk 256) (Bk 256)
theorem BoxIn.own {w w' : World} {b c : Nat} (h : BoxIn w b) (hO : Own c w w') (hn : b ≠ c) : BoxIn w' b :=
 h.elim (fun t => .inl ⟨hO.blk t.1 hn, t.2⟩) (fun t => .inr ⟨hO.blk t.1 hn, t.2⟩)
theorem BoxIn.lt {w : World} {b : Nat} (h : BoxIn w b) : b < w.heap.size := h.elim (fun t => Blk.lt t.1) (fun t => Blk.lt t.1)
theorem BoxIn.below {w w' : World} {b : Nat} (h : BoxIn w b) (hO : Below w.heap.size w w') : BoxIn w' b :=
 h.elim (fun t => .inl ⟨Blk.below t.1 hO (Blk.lt t.1), t.2⟩) (fun t => .inr ⟨Blk.below t.1 hO (Blk.lt t.1), t.2⟩)
theorem doB_first (b : Nat) (w : World) (h : Box w b 0 0 (Sk 0) (Bk 0)) :
  Calls Tryz.prog 106 #[.pointer (some ⟨b, 0, none⟩), .func (.func 107) #[.pointer (some ⟨b, 0, none⟩)] #[]] w fun e w' => e = .returned (.tuple #[]) ∧ Box w' b 1 0 (Sk 256) (Bk 256) ∧ Own b w w' := by
 have hnot : ∀ (x : Bool) (w : World), (Op.unary .not (.bool x)).run Tryz.prog w = .ok (.bool (!x)) w := fun _ _ => rfl
 go_enter Tryz.func106, Tryz.ntmps106
 go_wp2_with fail
 refine (flag_load _ 0 false _ (h.cell 0) rfl).mono ?_
 rintro e w' ⟨rfl, rfl⟩
 go_wp2_with fail
 refine (slowB b _ h).mono ?_
 rintro e w2 ⟨rfl, hT, hO⟩
 go_wp2_with fail
 go_end0
 exact ⟨rfl, hT, hO⟩
theorem doB_done (b : Nat) (f : Value) (w : World) (h : Box w b 1 0 (Sk 256) (Bk 256)) :
  Calls Tryz.prog 106 #[.pointer (some ⟨b, 0, none⟩), f] w fun e w' => e = .returned (.tuple #[]) ∧ w = w' := by
 have hnot : ∀ (x : Bool) (w : World), (Op.unary .not (.bool x)).run Tryz.prog w = .ok (.bool (!x)) w := fun _ _ => rfl
 go_enter Tryz.func106, Tryz.ntmps106
 go_wp2_with fail
 refine (flag_load _ 1 true _ (h.cell 0) rfl).mono ?_
 rintro e w' ⟨rfl, rfl⟩
 go_wp2_with fail
 go_end0
 exact ⟨rfl, rfl⟩
theorem readyB (b : Nat) (w : World) (h : BoxIn w b) :
  Calls Tryz.prog 105 #[.pointer (some ⟨b, 0, none⟩)] w fun e w' => e = .returned (.tuple #[]) ∧ Box w' b 1 0 (Sk 256) (Bk 256) ∧ Own b w w' := by
 have hmf : ∀ (fn : Fn) (first cap : Array Value) (w : World), (Instr.makeFunc fn first cap).run Tryz.prog w = .ok (.func fn first cap) w := fun _ _ _ _ => rfl
 rcases h with h | h
 ·obtain ⟨v0, c0⟩ := h.some (k := 0) (by omega)
  go_enter Tryz.func105, Tryz.ntmps105
  go_wp2_with fail
  refine (doB_first b _ h).mono ?_
  rintro e w2 ⟨rfl, hT, hO⟩
  go_wp2_with fail
  go_end0
  exact ⟨rfl, hT, hO⟩
 ·go_enter Tryz.func105, Tryz.ntmps105
  go_wp2_with fail
  refine (doB_done b _ _ h).mono ?_
  rintro e w2 ⟨rfl, rfl⟩
  go_wp2_with fail
  go_end0
  exact ⟨rfl, h, Own.refl _ _⟩
def zeroX : Array Value := (boxCells 0 0 (Sk 0) (Bk 0)).toArray
theorem zeroX_run (w : World) : (zeroValue 181).run Tryz.prog w = .ok (.agg zeroX) w := by kernel_rfl
theorem sbnew_any (w : World) :
  Calls Tryz.prog 75 #[] w fun e w' => e = .returned (.pointer (some ⟨w.heap.size, 0, none⟩)) ∧ BoxIn w' w.heap.size ∧ Below w.heap.size w w' := by
 have hz := zeroX_run
 go_enter Tryz.func75, Tryz.ntmps75
 go_wp2_with fail
 go_ret
 exact ⟨rfl, .inl ⟨Blk.new _ _ _, Sk_len 0, Bk_len 0⟩, zA⟩
def LeftB (b : Nat) (w w' : World) : Prop := BoxIn w' b ∧ Own b w w'
theorem sub_any (b x : Nat) (w : World) (h : BoxIn w b) (hx : x < 256) :
  Calls Tryz.prog 92 #[.pointer (some ⟨b, 0, none⟩), .int .u8 x] w fun e w' => e = .returned (.int .u8 (subN x : Nat)) ∧ LeftB b w w' := by
 go_enter Tryz.func92, Tryz.ntmps92
 go_wp2_with fail
 refine (readyB b _ h).mono ?_
 rintro e w2 ⟨rfl, hT, hO⟩
 have c1 : w2.cell? ⟨b, 3 + x, none⟩ = some (.int .u8 (subN x : Nat)) := (hT.cell (3 + x)).trans (box_s 1 0 _ (S_at hx))
 go_wp2_with fail
 go_ret
 exact ⟨rfl, .inr hT, hO⟩
theorem sub_i {b : Nat} {x y : Int} (w : World) (h : BoxIn w b) (hx : B8 x) (hy : ((subN x.toNat : Nat) : Int) = y) :
  Calls Tryz.prog 92 #[.pointer (some ⟨b, 0, none⟩), .int .u8 x] w fun e w' => e = .returned (.int .u8 y) ∧ LeftB b w w' := by
 subst hy
 obtain ⟨n, hn, rfl⟩ := hx.nat
 rw [Int.toNat_natCast]; exact sub_any b n w h hn
set_option maxHeartbeats 1600000
def subI (x : Int) : Int := (subN x.toNat : Nat)
theorem B8_sub (x : Int) : B8 (subI x) := B8_nat (subN_lt _)
def wordI (x : Int) : Int := subI (x / 16777216) * 16777216 + subI (x / 65536 % 256) * 65536 + subI (x / 256 % 256) * 256 + subI (x % 256)
theorem LeftB.trans {b : Nat} {w w1 w2 : World} (h : LeftB b w w1) (k : LeftB b w1 w2) : LeftB b w w2 := ⟨k.1, h.2.trans k.2⟩
theorem word_any (b : Nat) (x : Int) (w : World) (h : BoxIn w b) (hx : 0 ≤ x ∧ x < 4294967296) :
  Calls Tryz.prog 76 #[.pointer (some ⟨b, 0, none⟩), .int .u32 x] w fun e w' => e = .returned (.int .u32 (wordI x)) ∧ LeftB b w w' := by
 unfold wordI
 obtain ⟨y3, h3⟩ := zX (subI (x / 16777216))
 obtain ⟨y2, h2⟩ := zX (subI (x / 65536 % 256))
 obtain ⟨y1, h1⟩ := zX (subI (x / 256 % 256))
 obtain ⟨y0, h0⟩ := zX (subI (x % 256))
 have b3 : 0 ≤ y3 ∧ y3 < 256 := h3 ▸ B8_sub _
 have b2 : 0 ≤ y2 ∧ y2 < 256 := h2 ▸ B8_sub _
 have b1 : 0 ≤ y1 ∧ y1 < 256 := h1 ▸ B8_sub _
 have b0 : 0 ≤ y0 ∧ y0 < 256 := h0 ▸ B8_sub _
 rw [h3, h2, h1, h0]
 have hj := u32_join4 b3 b2 b1 b0
 have H3 : Hid _ := h3
 have HJ : Hid _ := hj
 have H2 : Hid _ := h2
 have H1 : Hid _ := h1
 have H0 : Hid _ := h0
 clear h3 h2 h1 h0 hj
 go_enter Tryz.func76, Tryz.ntmps76
 go_wp2_with fail
 refine (sub_i (y := y3) _ h (by unfold B8; omega) H3.out).mono ?_
 rintro e w1 ⟨rfl, hL1⟩
 go_wp2_with fail
 refine (sub_i (y := y2) _ hL1.1 (by unfold B8; omega) H2.out).mono ?_
 rintro e w2 ⟨rfl, hL2⟩
 go_wp2_with fail
 refine (sub_i (y := y1) _ hL2.1 (by unfold B8; omega) H1.out).mono ?_
 rintro e w3 ⟨rfl, hL3⟩
 go_wp2_with fail
 refine (sub_i (y := y0) _ hL3.1 (by unfold B8; omega) H0.out).mono ?_
 rintro e w4 ⟨rfl, hL4⟩
 go_wp2_with fail
 go_ret
 exact ⟨by rw [← HJ.out]; rfl, hL1.trans (hL2.trans (hL3.trans hL4))⟩
theorem word_i {b : Nat} {x y : Int} (w : World) (h : BoxIn w b) (hx : 0 ≤ x ∧ x < 4294967296) (hy : wordI x = y) :
  Calls Tryz.prog 76 #[.pointer (some ⟨b, 0, none⟩), .int .u32 x] w fun e w' => e = .returned (.int .u32 y) ∧ LeftB b w w' := by
 subst hy; exact word_any b x w h hx
end Go.Proofs.YtncfocjmdecapaaGreatDoor
