/- AES in plain mathematics: unlike blocks are ciphered unlike. Bytes that are turned: math/bits.RotateLeft8, and the program's spread. What stands for a byte: the numbers. The box: sync.Once, what stands for each byte, and back. Words by the box; what layer 8's laws ask of whatever input; the walk of SboxOnce. -/
import Derived.Test.YtncfocjmdecapaaGreatDoorZB0
import Derived.Test.YtncfocjmdecapaaGreatDoorZS1
import Derived.Test.YtncfocjmdecapaaGreatDoorZS2
import Derived.Test.YtncfocjmdecapaaGreatDoorZSh4
import Derived.Test.YtncfocjmdecapaaGreatDoorZA0
import Derived.Test.YtncfocjmdecapaaGreatDoorZS5
import Derived.Test.YtncfocjmdecapaaGreatDoorZSh7
import Derived.Test.YtncfocjmdecapaaGreatDoorZS8
import Derived.Test.YtncfocjmdecapaaGreatDoorZHm2
import Derived.Test.YtncfocjmdecapaaGreatDoorZAs
import Derived.Test.YtncfocjmdecapaaGreatDoorZR0
import Derived.Test.YtncfocjmdecapaaGreatDoorZF1
namespace Go.Proofs.YtncfocjmdecapaaGreatDoor
set_option linter.unusedVariables false
set_option linter.unusedSimpArgs false
open Go.RowKit
/-- A block with a round's words. -/
def addK (W : Nat → Nat) (r : Nat) (f : Nat → Nat) : Nat → Nat := fun i => f i ^^^ numB (W (4 * r + i / 4)) 4 (i % 4)
/-- What stands for each byte, in the places of other columns. -/
def mvA (s : Nat → Nat) (f : Nat → Nat) : Nat → Nat := fun i => s (f (4 * ((i / 4 + i % 4) % 4) + i % 4))
def dbl (a : Nat) : Nat := (a * 2 % 256) ^^^ (27 * (a / 128))
/-- Columns. -/
def mxA (f : Nat → Nat) : Nat → Nat := fun i => dbl (f (4 * (i / 4) + i % 4)) ^^^ dbl (f (4 * (i / 4) + (i % 4 + 1) % 4)) ^^^ f (4 * (i / 4) + (i % 4 + 1) % 4) ^^^ (f (4 * (i / 4) + (i % 4 + 2) % 4) ^^^ f (4 * (i / 4) + (i % 4 + 3) % 4))
def encK (s : Nat → Nat) (W : Nat → Nat) (f : Nat → Nat) : Nat → Nat → Nat
  | 0 => addK W 0 f
  | r + 1 => addK W (r + 1) (if r + 1 < 14 then mxA (mvA s (encK s W f r)) else mvA s (encK s W f r))
theorem dbl_lt {a : Nat} (h : a < 256) : dbl a < 256 := by
  unfold dbl
  refine Nat.xor_lt_two_pow (n := 8) (Nat.mod_lt _ (by decide)) ?_
  have : a / 128 < 2 := by omega
  show 27 * (a / 128) < 256
  omega
theorem xlt {a b : Nat} (ha : a < 256) (hb : b < 256) : a ^^^ b < 256 := Nat.xor_lt_two_pow (n := 8) ha hb
theorem mxA_lt {f : Nat → Nat} (hf : ∀ i, i < 16 → f i < 256) (i : Nat) (hi : i < 16) : mxA f i < 256 := by
  have h : ∀ k, f (4 * (i / 4) + (i % 4 + k) % 4) < 256 := fun k => hf _ (by omega)
  have h0 : f (4 * (i / 4) + i % 4) < 256 := hf _ (by omega)
  exact xlt (xlt (xlt (dbl_lt h0) (dbl_lt (h 1))) (h 1)) (xlt (h 2) (h 3))
theorem mvA_lt {s f : Nat → Nat} (hs : ∀ x, s x < 256) (i : Nat) : mvA s f i < 256 := hs _
theorem addK_lt {W f : Nat → Nat} {r : Nat} (hf : ∀ i, i < 16 → f i < 256) (i : Nat) (hi : i < 16) : addK W r f i < 256 := xlt (hf i hi) (numB_lt _ _ _)
theorem encK_lt {s W f : Nat → Nat} (hs : ∀ x, s x < 256) (hf : ∀ i, i < 16 → f i < 256) : ∀ r i, i < 16 → encK s W f r i < 256
  | 0, i, hi => addK_lt hf i hi
  | r + 1, i, hi => by
    show addK W (r + 1) (if r + 1 < 14 then mxA (mvA s (encK s W f r)) else mvA s (encK s W f r)) i < 256
    split
    · exact addK_lt (mxA_lt fun j _ => mvA_lt hs j) i hi
    · exact addK_lt (fun j _ => mvA_lt hs j) i hi
def m2 (a c : Nat) : Nat := dbl (dbl a) ^^^ a ^^^ dbl (dbl c)
end Go.Proofs.YtncfocjmdecapaaGreatDoor
namespace Go.Proofs.YtncfocjmdecapaaGreatDoor
set_option linter.unusedVariables false
set_option linter.unusedSimpArgs false
open Go.RowKit
/-- A byte, turned. -/
def rotN (k v : Nat) : Nat := (v * 2 ^ k % 256) ||| (v / 2 ^ (8 - k))
theorem rotN_lt (k : Nat) {v : Nat} (h : v < 256) : rotN k v < 256 := by
  have h1 : v / 2 ^ (8 - k) ≤ v := Nat.div_le_self _ _
  exact Nat.or_lt_two_pow (n := 8) (Nat.mod_lt _ (by decide)) (by show _ < 256; omega)

set_option maxHeartbeats 400000 in
theorem rot_1 (a : Nat) (w : World) (h : a < 256) :
    Calls Tryz.prog 118 #[.int .u8 a, .int .i64 1] w fun e w' => e = .returned (.int .u8 (rotN 1 a : Nat)) ∧ w = w' := by
  have hb : bits .and .u64 1 7 = 1 := by decide
  have e1 : bits .or .u8 ((a : Int) * 2 % 256) ((a : Int) / 128) = (rotN 1 a : Nat) := by
    rw [show (a : Int) * 2 % 256 = ((a * 2 % 256 : Nat) : Int) from by omega, show (a : Int) / 128 = ((a / 128 : Nat) : Int) from by omega]
    exact u8_or_nat _ _ (Nat.mod_lt _ (by decide)) (by have := Nat.div_le_self a 128; omega)
  have E1 : Hid _ := e1
  clear e1
  go_enter Tryz.func118, Tryz.ntmps118
  go_wp2
  go_ret
  exact ⟨by rw [E1.out]; rfl, rfl⟩

set_option maxHeartbeats 400000 in
theorem rot_2 (a : Nat) (w : World) (h : a < 256) :
    Calls Tryz.prog 118 #[.int .u8 a, .int .i64 2] w fun e w' => e = .returned (.int .u8 (rotN 2 a : Nat)) ∧ w = w' := by
  have hb : bits .and .u64 2 7 = 2 := by decide
  have e1 : bits .or .u8 ((a : Int) * 4 % 256) ((a : Int) / 64) = (rotN 2 a : Nat) := by
    rw [show (a : Int) * 4 % 256 = ((a * 4 % 256 : Nat) : Int) from by omega, show (a : Int) / 64 = ((a / 64 : Nat) : Int) from by omega]
    exact u8_or_nat _ _ (Nat.mod_lt _ (by decide)) (by have := Nat.div_le_self a 64; omega)
  have E1 : Hid _ := e1
  clear e1
  go_enter Tryz.func118, Tryz.ntmps118
  go_wp2
  go_ret
  exact ⟨by rw [E1.out]; rfl, rfl⟩

set_option maxHeartbeats 400000 in
theorem rot_3 (a : Nat) (w : World) (h : a < 256) :
    Calls Tryz.prog 118 #[.int .u8 a, .int .i64 3] w fun e w' => e = .returned (.int .u8 (rotN 3 a : Nat)) ∧ w = w' := by
  have hb : bits .and .u64 3 7 = 3 := by decide
  have e1 : bits .or .u8 ((a : Int) * 8 % 256) ((a : Int) / 32) = (rotN 3 a : Nat) := by
    rw [show (a : Int) * 8 % 256 = ((a * 8 % 256 : Nat) : Int) from by omega, show (a : Int) / 32 = ((a / 32 : Nat) : Int) from by omega]
    exact u8_or_nat _ _ (Nat.mod_lt _ (by decide)) (by have := Nat.div_le_self a 32; omega)
  have E1 : Hid _ := e1
  clear e1
  go_enter Tryz.func118, Tryz.ntmps118
  go_wp2
  go_ret
  exact ⟨by rw [E1.out]; rfl, rfl⟩

set_option maxHeartbeats 400000 in
theorem rot_4 (a : Nat) (w : World) (h : a < 256) :
    Calls Tryz.prog 118 #[.int .u8 a, .int .i64 4] w fun e w' => e = .returned (.int .u8 (rotN 4 a : Nat)) ∧ w = w' := by
  have hb : bits .and .u64 4 7 = 4 := by decide
  have e1 : bits .or .u8 ((a : Int) * 16 % 256) ((a : Int) / 16) = (rotN 4 a : Nat) := by
    rw [show (a : Int) * 16 % 256 = ((a * 16 % 256 : Nat) : Int) from by omega, show (a : Int) / 16 = ((a / 16 : Nat) : Int) from by omega]
    exact u8_or_nat _ _ (Nat.mod_lt _ (by decide)) (by have := Nat.div_le_self a 16; omega)
  have E1 : Hid _ := e1
  clear e1
  go_enter Tryz.func118, Tryz.ntmps118
  go_wp2
  go_ret
  exact ⟨by rw [E1.out]; rfl, rfl⟩

/-- The bits of an inverse, spread. -/
def spreadN (v : Nat) : Nat := ((((v ^^^ 99) ^^^ rotN 1 v) ^^^ rotN 2 v) ^^^ rotN 3 v) ^^^ rotN 4 v
theorem spreadN_lt {v : Nat} (h : v < 256) : spreadN v < 256 :=
  xor_lt (xor_lt (xor_lt (xor_lt (xor_lt h (by decide)) (rotN_lt 1 h)) (rotN_lt 2 h)) (rotN_lt 3 h)) (rotN_lt 4 h)

set_option maxHeartbeats 1600000 in
theorem spread_anyG (v : Nat) (w : World) (h : v < 256) :
    Calls Tryz.prog 112 #[.int .u8 v] w fun e w' => e = .returned (.int .u8 (spreadN v : Nat)) ∧ w = w' := by
  have r1 := rot_1 v
  have r2 := rot_2 v
  have r3 := rot_3 v
  have r4 := rot_4 v
  have l1 := rotN_lt 1 h
  have l2 := rotN_lt 2 h
  have l3 := rotN_lt 3 h
  have l4 := rotN_lt 4 h
  have l0 : v ^^^ 99 < 256 := xor_lt h (by decide)
  have e0 : bits .xor .u8 (v : Int) 99 = ((v ^^^ 99 : Nat) : Int) := u8_xor_nat v 99 h (by decide)
  unfold spreadN
  generalize rotN 1 v = q1 at *
  generalize rotN 2 v = q2 at *
  generalize rotN 3 v = q3 at *
  generalize rotN 4 v = q4 at *
  generalize v ^^^ 99 = q0 at *
  have e1 : bits .xor .u8 (q0 : Int) (q1 : Int) = ((q0 ^^^ q1 : Nat) : Int) := u8_xor_nat _ _ l0 l1
  have l5 : q0 ^^^ q1 < 256 := xor_lt l0 l1
  generalize q0 ^^^ q1 = p1 at *
  have e2 : bits .xor .u8 (p1 : Int) (q2 : Int) = ((p1 ^^^ q2 : Nat) : Int) := u8_xor_nat _ _ l5 l2
  have l6 : p1 ^^^ q2 < 256 := xor_lt l5 l2
  generalize p1 ^^^ q2 = p2 at *
  have e3 : bits .xor .u8 (p2 : Int) (q3 : Int) = ((p2 ^^^ q3 : Nat) : Int) := u8_xor_nat _ _ l6 l3
  have l7 : p2 ^^^ q3 < 256 := xor_lt l6 l3
  generalize p2 ^^^ q3 = p3 at *
  have e4 : bits .xor .u8 (p3 : Int) (q4 : Int) = ((p3 ^^^ q4 : Nat) : Int) := u8_xor_nat _ _ l7 l4
  generalize p3 ^^^ q4 = p4 at *
  have R1 : Hid _ := r1
  have R2 : Hid _ := r2
  have R3 : Hid _ := r3
  have R4 : Hid _ := r4
  clear r1 r2 r3 r4
  go_enter Tryz.func112, Tryz.ntmps112
  go_wp2_with fail
  refine wp_loop_rounds 5 ?_
  rw [rounds_succ]
  go_wp2_with fail
  refine (R1.out _ h).mono ?_
  rintro e w' ⟨rfl, rfl⟩
  go_wp2_with fail
  rw [rounds_succ]
  go_wp2_with fail
  refine (R2.out _ h).mono ?_
  rintro e w' ⟨rfl, rfl⟩
  go_wp2_with fail
  rw [rounds_succ]
  go_wp2_with fail
  refine (R3.out _ h).mono ?_
  rintro e w' ⟨rfl, rfl⟩
  go_wp2_with fail
  rw [rounds_succ]
  go_wp2_with fail
  refine (R4.out _ h).mono ?_
  rintro e w' ⟨rfl, rfl⟩
  go_wp2_with fail
  rw [rounds_succ]
  go_wp2_with fail
  go_ret
  exact ⟨rfl, rfl⟩

end Go.Proofs.YtncfocjmdecapaaGreatDoor
namespace Go.Proofs.YtncfocjmdecapaaGreatDoor
set_option linter.unusedVariables false
set_option linter.unusedSimpArgs false
open Go.RowKit
def invN (x : Nat) : Nat := if x = 0 then 0 else divN 1 x
theorem invN_lt (x : Nat) : invN x < 256 := by unfold invN; split; decide; exact divN_lt _ _
/-- What stands for a byte. -/
def subN (x : Nat) : Nat := spreadN (invN x)
theorem subN_lt (x : Nat) : subN x < 256 := spreadN_lt (invN_lt x)
/-- Numbers laid one behind the other at places that a function tells. -/
def laidAt (f g : Nat → Nat) (n k : Nat) : List Nat := (List.range k).foldl (fun l j => l.set (f j) (g j)) (List.replicate n 0)
theorem laidAt_succ (f g : Nat → Nat) (n k : Nat) : laidAt f g n (k + 1) = (laidAt f g n k).set (f k) (g k) := by unfold laidAt; rw [List.range_succ, List.foldl_append]; rfl
theorem laidAt_len (f g : Nat → Nat) (n : Nat) : ∀ k, (laidAt f g n k).length = n
  | 0 => List.length_replicate
  | k + 1 => by rw [laidAt_succ, List.length_set, laidAt_len f g n k]
theorem laidAt_get {f g : Nat → Nat} {n : Nat} (hf : ∀ i j, f i = f j → i < n → j < n → i = j) (hl : ∀ i, i < n → f i < n) : ∀ k i, k ≤ n → i < k → (laidAt f g n k)[f i]? = some (g i)
  | 0, i, _, h => absurd h (Nat.not_lt_zero _)
  | k + 1, i, hk, h => by
    rw [laidAt_succ]
    by_cases e : i = k
    · subst e
      rw [List.getElem?_set_self (by rw [laidAt_len]; exact hl i (by omega))]
    · rw [List.getElem?_set_ne (fun h2 => e (hf i k h2.symm (by omega) (by omega)))]
      exact laidAt_get hf hl k i (by omega) (by omega)
def Sk (k : Nat) : List Nat := laidAt id subN 256 k
def Bk (k : Nat) : List Nat := laidAt subN id 256 k
theorem Sk_succ (k : Nat) : Sk (k + 1) = (Sk k).set k (subN k) := laidAt_succ _ _ _ _
theorem Bk_succ (k : Nat) : Bk (k + 1) = (Bk k).set (subN k) k := laidAt_succ _ _ _ _
theorem Sk_len (k : Nat) : (Sk k).length = 256 := laidAt_len _ _ _ _
theorem Bk_len (k : Nat) : (Bk k).length = 256 := laidAt_len _ _ _ _
theorem S_at {x : Nat} (h : x < 256) : (Sk 256)[x]? = some (subN x) := laidAt_get (f := id) (fun _ _ h _ _ => h) (fun _ h => h) 256 x (Nat.le_refl _) h
end Go.Proofs.YtncfocjmdecapaaGreatDoor
namespace Go.Proofs.YtncfocjmdecapaaGreatDoor
set_option linter.unusedVariables false
set_option linter.unusedSimpArgs false
open Go.RowKit
theorem Own.two {b c : Nat} {w w1 w2 : World} (h : Own b w w1) (k : Own c w1 w2) (hc : w.heap.size ≤ c) : Own b w w2 :=
  ⟨k.os.trans h.os, k.tape.trans h.tape, k.output.trans h.output, Nat.le_trans h.size k.size, fun i hi hn => (k.block i (Nat.lt_of_lt_of_le hi h.size) (by omega)).trans (h.block i hi hn)⟩

def boxCells (d s : Int) (S B : List Nat) : List Value := [.int .u32 d, .int .i32 s, .int .u32 0] ++ (S.map (fun x : Nat => Value.int .u8 (x : Int)) ++ B.map (fun x : Nat => Value.int .u8 (x : Int)))
theorem box_s (d s : Int) {S : List Nat} (B : List Nat) {i x : Nat} (hi : S[i]? = some x) : (boxCells d s S B)[3 + i]? = some (.int .u8 (x : Int)) := by
  have hl : i < S.length := by
    rcases Nat.lt_or_ge i S.length with h | h
    · exact h
    · rw [List.getElem?_eq_none h] at hi; cases hi
  unfold boxCells
  rw [List.getElem?_append_right (by simp), show 3 + i - [Value.int .u32 d, .int .i32 s, .int .u32 0].length = i from by simp,
    List.getElem?_append_left (by simpa using hl), List.getElem?_map, hi]
  rfl
theorem box_set_d (d d' s : Int) (S B : List Nat) : (boxCells d s S B).set 0 (.int .u32 d') = boxCells d' s S B := rfl
theorem box_set_l (d s s' : Int) (S B : List Nat) : (boxCells d s S B).set 1 (.int .i32 s') = boxCells d s' S B := rfl
theorem box_set_s (d s : Int) (S B : List Nat) (i x : Nat) (hi : i < S.length) : (boxCells d s S B).set (3 + i) (.int .u8 (x : Int)) = boxCells d s (S.set i x) B := by
  unfold boxCells
  rw [List.set_append_right _ _ (by simp), show 3 + i - [Value.int .u32 d, .int .i32 s, .int .u32 0].length = i from by simp, List.set_append_left _ _ (by simpa using hi), List.map_set]
theorem box_set_b (d s : Int) (S B : List Nat) (hS : S.length = 256) (i x : Nat) : (boxCells d s S B).set (259 + i) (.int .u8 (x : Int)) = boxCells d s S (B.set i x) := by
  unfold boxCells
  rw [List.set_append_right _ _ (by simp; omega), show 259 + i - [Value.int .u32 d, .int .i32 s, .int .u32 0].length = 256 + i from by simp; omega, List.set_append_right _ _ (by simp [hS]),
    show 256 + i - (S.map (fun x : Nat => Value.int .u8 (x : Int))).length = i from by simp [hS], List.map_set]

/-- A box in a block of its own: the flag, the lock, what stands for each byte, and back. -/
def Box (w : World) (b : Nat) (d s : Int) (S B : List Nat) : Prop := Blk w b (boxCells d s S B).toArray 181 ∧ S.length = 256 ∧ B.length = 256
theorem Box.cell {w : World} {b : Nat} {d s : Int} {S B : List Nat} (h : Box w b d s S B) (k : Nat) : w.cell? ⟨b, k, none⟩ = (boxCells d s S B)[k]? := by
  rw [Blk.cell h.1 k]; simp
theorem Box.some {w : World} {b : Nat} {d s : Int} {S B : List Nat} (h : Box w b d s S B) {k : Nat} (hk : k < 515) : ∃ v, w.cell? ⟨b, k, none⟩ = some v := by
  have hl : (boxCells d s S B).length = 515 := by unfold boxCells; simp [h.2.1, h.2.2]
  rw [h.cell k, List.getElem?_eq_getElem (by omega)]; exact ⟨_, rfl⟩
theorem Box.set_s {w : World} {b : Nat} {d s : Int} {S B : List Nat} (h : Box w b d s S B) (i x : Nat) (hi : i < 256) : Box (w.setCell ⟨b, 3 + i, none⟩ (.int .u8 (x : Int))) b d s (S.set i x) B := by
  refine ⟨?_, by rw [List.length_set]; exact h.2.1, h.2.2⟩
  have := Blk.set h.1 (3 + i) (.int .u8 (x : Int))
  rw [set_toArray, box_set_s d s S B i x (by rw [h.2.1]; exact hi)] at this; exact this
theorem Box.set_b {w : World} {b : Nat} {d s : Int} {S B : List Nat} (h : Box w b d s S B) (i x : Nat) : Box (w.setCell ⟨b, 259 + i, none⟩ (.int .u8 (x : Int))) b d s S (B.set i x) := by
  refine ⟨?_, h.2.1, by rw [List.length_set]; exact h.2.2⟩
  have := Blk.set h.1 (259 + i) (.int .u8 (x : Int))
  rw [set_toArray, box_set_b d s S B h.2.1 i x] at this; exact this
theorem Box.set_l {w : World} {b : Nat} {d s : Int} {S B : List Nat} (h : Box w b d s S B) (s' : Int) : Box (w.setCell ⟨b, 1, none⟩ (.int .i32 s')) b d s' S B := by
  refine ⟨?_, h.2⟩
  have := Blk.set h.1 1 (.int .i32 s')
  rw [set_toArray, box_set_l] at this; exact this
theorem Box.set_d {w : World} {b : Nat} {d s : Int} {S B : List Nat} (h : Box w b d s S B) (d' : Int) : Box (w.setCell ⟨b, 0, none⟩ (.int .u32 d')) b d' s S B := by
  refine ⟨?_, h.2⟩
  have := Blk.set h.1 0 (.int .u32 d')
  rw [set_toArray, box_set_d] at this; exact this

def RInvB (b tb : Nat) (w0 : World) (d s : Int) (i : Value) (wr : World) : Prop :=
  ∃ k : Nat, k ≤ 256 ∧ i = .int .i64 k ∧ Box wr b d s (Sk k) (Bk k) ∧ TabIn wr tb ∧ Own b w0 wr

theorem TabIn.setB {w : World} {b c : Nat} (h : TabIn w b) (hn : b ≠ c) (k : Nat) (v : Value) : TabIn (w.setCell ⟨c, k, none⟩ v) b :=
  h.own ((Own.refl c w).set k v) hn

set_option maxRecDepth 100000 in
set_option maxHeartbeats 2000000 in
theorem reckonB (b : Nat) (d s : Int) (w : World) (h : Box w b d s (Sk 0) (Bk 0)) :
    Calls Tryz.prog 107 #[.pointer (some ⟨b, 0, none⟩)] w fun e w' => e = .returned (.tuple #[]) ∧ Box w' b d s (Sk 256) (Bk 256) ∧ Own b w w' := by
  have hbl := Blk.lt h.1
  have hne : b ≠ w.heap.size := by omega
  have Hle : Hid (w.heap.size ≤ w.heap.size) := Nat.le_refl _
  go_enter Tryz.func107, Tryz.ntmps107
  go_wp2_with fail
  refine (gfnew_any _).mono ?_
  rintro e w0 ⟨rfl, hT0, hB0⟩
  have hO0 : Own b w w0 := Own.of_below hB0 |>.trans (Own.refl _ _)
  have hX0 : Box w0 b d s (Sk 0) (Bk 0) := ⟨Blk.below h.1 hB0 hbl, h.2⟩
  obtain ⟨tb, htb⟩ : ∃ tb, w.heap.size = tb := ⟨_, rfl⟩
  rw [htb] at hT0 hne ⊢
  have htb' : w.heap.size ≤ tb := Nat.le_of_eq htb
  clear htb hB0 h
  go_wp2_with fail
  go_loopw [8] (fun i wr => RInvB b tb w d s i wr) (fun i _ => 256 - (intOf i).toNat)
  case atStart => exact ⟨0, by omega, rfl, hX0, hT0, hO0⟩
  case round =>
    obtain ⟨k, hk, rfl, hX, hT, hO⟩ := hrel
    clear hX0 hT0 hO0
    by_cases hlt : k < 256
    · have hx := subN_lt k
      by_cases h0 : k = 0
      · subst h0
        have hsub : spreadN 0 = subN 0 := rfl
        have HS : Hid _ := hsub
        clear hsub
        obtain ⟨v1, c1⟩ := hX.some (k := 3) (by omega)
        have f1 : wr.frozen? ⟨b, 3, none⟩ = false := Blk.free hX.1 3
        have hX1 := hX.set_s 0 (subN 0) (by omega)
        obtain ⟨v2, c2⟩ := hX1.some (k := 259 + subN 0) (by omega)
        have f2 : (wr.setCell ⟨b, 3 + 0, none⟩ (.int .u8 (subN 0))).frozen? ⟨b, 259 + subN 0, none⟩ = false := Blk.free hX1.1 (259 + subN 0)
        have hX2 := hX1.set_b (subN 0) 0
        rw [← Sk_succ, ← Bk_succ] at hX2
        rw [show 3 + 0 = 3 from rfl] at c2 f2 hX2
        have hT2 := (hT.setB (Ne.symm hne) 3 (.int .u8 (subN 0))).setB (Ne.symm hne) (259 + subN 0) (.int .u8 ((0 : Nat) : Int))
        go_wp2_with fail
        refine (inv_zero tb _).mono ?_
        rintro e w' ⟨rfl, rfl⟩
        go_wp2_with fail
        refine (spread_anyG 0 _ (by decide)).mono ?_
        rintro e w' ⟨rfl, rfl⟩
        rw [HS.out]
        clear HS
        generalize subN 0 = sv at *
        go_wp2_with fail
        go_roundw
        case rel => exact ⟨1, by omega, by go_num, hX2, hT2, (hO.set _ _).set _ _⟩
        case measure => simp [intOf]
      · have hsub : spreadN (divN 1 k) = subN k := by unfold subN invN; rw [if_neg h0]
        have HS : Hid _ := hsub
        clear hsub
        have H0 : Hid _ := h0
        clear h0
        have hd := divN_lt 1 k
        go_wp2_with fail
        refine (inv_any tb k _ hT hlt H0.out).mono ?_
        rintro e w1 ⟨rfl, hT1, hO1⟩
        have hO2 := hO.two hO1 htb'
        have hY : Box w1 b d s (Sk k) (Bk k) := ⟨hO1.blk hX.1 hne, hX.2⟩
        clear hX hT hO hO1
        obtain ⟨v1, c1⟩ := hY.some (k := 3 + k) (by omega)
        have f1 : w1.frozen? ⟨b, 3 + k, none⟩ = false := Blk.free hY.1 (3 + k)
        have hX1 := hY.set_s k (subN k) hlt
        obtain ⟨v2, c2⟩ := hX1.some (k := 259 + subN k) (by omega)
        have f2 : (w1.setCell ⟨b, 3 + k, none⟩ (.int .u8 (subN k))).frozen? ⟨b, 259 + subN k, none⟩ = false := Blk.free hX1.1 (259 + subN k)
        have hX2 := hX1.set_b (subN k) k
        rw [← Sk_succ, ← Bk_succ] at hX2
        have hT2 := (hT1.setB (Ne.symm hne) (3 + k) (.int .u8 (subN k))).setB (Ne.symm hne) (259 + subN k) (.int .u8 (k : Int))
        go_wp2_with fail
        refine (spread_anyG (divN 1 k) _ hd).mono ?_
        rintro e w' ⟨rfl, rfl⟩
        rw [HS.out]
        clear HS
        generalize subN k = sv at *
        go_wp2_with fail
        go_roundw
        case rel => exact ⟨k + 1, by omega, by go_num, hX2, hT2, (hO2.set _ _).set _ _⟩
        case measure => simp [intOf]; omega
    · obtain rfl : k = 256 := by omega
      go_wp2_with fail
      go_end0
      exact ⟨rfl, hX, hO⟩

set_option maxRecDepth 100000 in
set_option maxHeartbeats 1600000 in
theorem slowB (b : Nat) (w : World) (h : Box w b 0 0 (Sk 0) (Bk 0)) :
    Calls Tryz.prog 109 #[.pointer (some ⟨b, 0, none⟩), .func (.func 107) #[.pointer (some ⟨b, 0, none⟩)] #[]] w fun e w' => e = .returned (.tuple #[]) ∧ Box w' b 1 0 (Sk 256) (Bk 256) ∧ Own b w w' := by
  have c1 : w.cell? ⟨b, 1, none⟩ = some (.int .i32 0) := h.cell 1
  have f1 : w.frozen? ⟨b, 1, none⟩ = false := Blk.free h.1 1
  have h1 := h.set_l 1
  have c0 : (w.setCell ⟨b, 1, none⟩ (.int .i32 1)).cell? ⟨b, 0, none⟩ = some (.int .u32 0) := h1.cell 0
  have hnot : ∀ (x : Bool) (w : World), (Op.unary .not (.bool x)).run Tryz.prog w = .ok (.bool (!x)) w := fun _ _ => rfl
  go_enter_defers Tryz.func109, Tryz.ntmps109
  go_wp2_with fail
  refine (lock_free ⟨b, 1, none⟩ _ c1 f1).mono ?_
  rintro e w' ⟨rfl, rfl⟩
  go_wp2_with fail
  refine (flag_load _ 0 false _ c0 rfl).mono ?_
  rintro e w' ⟨rfl, rfl⟩
  go_wp2_with fail
  refine (reckonB b 0 1 _ h1).mono ?_
  rintro e w2 ⟨rfl, hT2, hO2⟩
  go_wp2_with fail
  refine leaves_cons (f := 116) (args := #[.pointer (some ⟨b, 0, none⟩), .bool true]) (by simp) (by simp [go_sem]) ?_
  refine (flag_deferred ⟨b, 0, none⟩ (.int .u32 0) .returning _ (hT2.cell 0) (Blk.free hT2.1 0)).mono ?_
  rintro e u' w'' ⟨rfl, rfl, rfl⟩
  have hT3 : Box (w2.drew.setCell ⟨b, 0, none⟩ (.int .u32 1)) b 1 1 (Sk 256) (Bk 256) := Box.set_d (w := w2.drew) hT2 1
  refine leaves_cons (f := 115) (args := #[.pointer (some ⟨b, 1, none⟩)]) (by simp [settle]) (by simp [go_sem]) ?_
  refine (unlock_deferred ⟨b, 1, none⟩ _ _ (hT3.cell 1) (Blk.free hT3.1 1)).mono ?_
  rintro e u' w'' ⟨rfl, rfl, rfl⟩
  simp [Leaves, settle, results, Tryz.results109]
  exact ⟨hT3.set_l 0, ((((Own.refl b w).set 1 _).trans hO2).drew.set 0 _).set 1 _⟩

/-- A table that was not asked yet, or is reckoned. -/
def BoxIn (w : World) (b : Nat) : Prop := Box w b 0 0 (Sk 0) (Bk 0) ∨ Box w b 1 0 (Sk 256) (Bk 256)
theorem BoxIn.own {w w' : World} {b c : Nat} (h : BoxIn w b) (hO : Own c w w') (hn : b ≠ c) : BoxIn w' b :=
  h.elim (fun t => .inl ⟨hO.blk t.1 hn, t.2⟩) (fun t => .inr ⟨hO.blk t.1 hn, t.2⟩)
theorem BoxIn.lt {w : World} {b : Nat} (h : BoxIn w b) : b < w.heap.size := h.elim (fun t => Blk.lt t.1) (fun t => Blk.lt t.1)
theorem BoxIn.below {w w' : World} {b : Nat} (h : BoxIn w b) (hO : Below w.heap.size w w') : BoxIn w' b :=
  h.elim (fun t => .inl ⟨Blk.below t.1 hO (Blk.lt t.1), t.2⟩) (fun t => .inr ⟨Blk.below t.1 hO (Blk.lt t.1), t.2⟩)

set_option maxRecDepth 100000 in
set_option maxHeartbeats 1600000 in
theorem doB_first (b : Nat) (w : World) (h : Box w b 0 0 (Sk 0) (Bk 0)) :
    Calls Tryz.prog 106 #[.pointer (some ⟨b, 0, none⟩), .func (.func 107) #[.pointer (some ⟨b, 0, none⟩)] #[]] w fun e w' => e = .returned (.tuple #[]) ∧ Box w' b 1 0 (Sk 256) (Bk 256) ∧ Own b w w' := by
  have hnot : ∀ (x : Bool) (w : World), (Op.unary .not (.bool x)).run Tryz.prog w = .ok (.bool (!x)) w := fun _ _ => rfl
  go_enter Tryz.func106, Tryz.ntmps106
  go_wp2_with fail
  refine (flag_load _ 0 false _ (h.cell 0) rfl).mono ?_
  rintro e w' ⟨rfl, rfl⟩
  go_wp2_with fail
  refine (slowB b _ h).mono ?_
  rintro e w2 ⟨rfl, hT, hO⟩
  go_wp2_with fail
  go_end0
  exact ⟨rfl, hT, hO⟩

set_option maxHeartbeats 800000 in
theorem doB_done (b : Nat) (f : Value) (w : World) (h : Box w b 1 0 (Sk 256) (Bk 256)) :
    Calls Tryz.prog 106 #[.pointer (some ⟨b, 0, none⟩), f] w fun e w' => e = .returned (.tuple #[]) ∧ w = w' := by
  have hnot : ∀ (x : Bool) (w : World), (Op.unary .not (.bool x)).run Tryz.prog w = .ok (.bool (!x)) w := fun _ _ => rfl
  go_enter Tryz.func106, Tryz.ntmps106
  go_wp2_with fail
  refine (flag_load _ 1 true _ (h.cell 0) rfl).mono ?_
  rintro e w' ⟨rfl, rfl⟩
  go_wp2_with fail
  go_end0
  exact ⟨rfl, rfl⟩

set_option maxRecDepth 100000 in
set_option maxHeartbeats 800000 in
theorem readyB (b : Nat) (w : World) (h : BoxIn w b) :
    Calls Tryz.prog 105 #[.pointer (some ⟨b, 0, none⟩)] w fun e w' => e = .returned (.tuple #[]) ∧ Box w' b 1 0 (Sk 256) (Bk 256) ∧ Own b w w' := by
  have hmf : ∀ (fn : Fn) (first cap : Array Value) (w : World), (Instr.makeFunc fn first cap).run Tryz.prog w = .ok (.func fn first cap) w := fun _ _ _ _ => rfl
  rcases h with h | h
  · obtain ⟨v0, c0⟩ := h.some (k := 0) (by omega)
    go_enter Tryz.func105, Tryz.ntmps105
    go_wp2_with fail
    refine (doB_first b _ h).mono ?_
    rintro e w2 ⟨rfl, hT, hO⟩
    go_wp2_with fail
    go_end0
    exact ⟨rfl, hT, hO⟩
  · go_enter Tryz.func105, Tryz.ntmps105
    go_wp2_with fail
    refine (doB_done b _ _ h).mono ?_
    rintro e w2 ⟨rfl, rfl⟩
    go_wp2_with fail
    go_end0
    exact ⟨rfl, h, Own.refl _ _⟩


/-- The cells of a new box. -/
def zeroX : Array Value := (boxCells 0 0 (Sk 0) (Bk 0)).toArray
theorem zeroX_run (w : World) : (zeroValue 181).run Tryz.prog w = .ok (.agg zeroX) w := by kernel_rfl

set_option maxRecDepth 100000 in
set_option maxHeartbeats 1600000 in
theorem sbnew_any (w : World) :
    Calls Tryz.prog 75 #[] w fun e w' => e = .returned (.pointer (some ⟨w.heap.size, 0, none⟩)) ∧ BoxIn w' w.heap.size ∧ Below w.heap.size w w' := by
  have hz := zeroX_run
  go_enter Tryz.func75, Tryz.ntmps75
  go_wp2_with fail
  go_ret
  exact ⟨rfl, .inl ⟨Blk.new _ _ _, Sk_len 0, Bk_len 0⟩, (Below.refl _ _).alloc (Nat.le_refl _) _⟩

def LeftB (b : Nat) (w w' : World) : Prop := BoxIn w' b ∧ Own b w w'

set_option maxRecDepth 100000 in
set_option maxHeartbeats 800000 in
theorem sub_any (b x : Nat) (w : World) (h : BoxIn w b) (hx : x < 256) :
    Calls Tryz.prog 92 #[.pointer (some ⟨b, 0, none⟩), .int .u8 x] w fun e w' => e = .returned (.int .u8 (subN x : Nat)) ∧ LeftB b w w' := by
  go_enter Tryz.func92, Tryz.ntmps92
  go_wp2_with fail
  refine (readyB b _ h).mono ?_
  rintro e w2 ⟨rfl, hT, hO⟩
  have c1 : w2.cell? ⟨b, 3 + x, none⟩ = some (.int .u8 (subN x : Nat)) := (hT.cell (3 + x)).trans (box_s 1 0 _ (S_at hx))
  go_wp2_with fail
  go_ret
  exact ⟨rfl, .inr hT, hO⟩
theorem sub_i {b : Nat} {x y : Int} (w : World) (h : BoxIn w b) (hx : B8 x) (hy : ((subN x.toNat : Nat) : Int) = y) :
    Calls Tryz.prog 92 #[.pointer (some ⟨b, 0, none⟩), .int .u8 x] w fun e w' => e = .returned (.int .u8 y) ∧ LeftB b w w' := by
  subst hy
  obtain ⟨n, hn, rfl⟩ := hx.nat
  rw [Int.toNat_natCast]; exact sub_any b n w h hn
end Go.Proofs.YtncfocjmdecapaaGreatDoor
namespace Go.Proofs.YtncfocjmdecapaaGreatDoor
set_option linter.unusedVariables false
set_option linter.unusedSimpArgs false
open Go.RowKit
def subI (x : Int) : Int := (subN x.toNat : Nat)
theorem B8_sub (x : Int) : B8 (subI x) := B8_nat (subN_lt _)
/-- What stands for the bytes of a word. -/
def wordI (x : Int) : Int := subI (x / 16777216) * 16777216 + subI (x / 65536 % 256) * 65536 + subI (x / 256 % 256) * 256 + subI (x % 256)

theorem LeftB.trans {b : Nat} {w w1 w2 : World} (h : LeftB b w w1) (k : LeftB b w1 w2) : LeftB b w w2 := ⟨k.1, h.2.trans k.2⟩

set_option maxRecDepth 100000 in
set_option maxHeartbeats 1600000 in
theorem word_any (b : Nat) (x : Int) (w : World) (h : BoxIn w b) (hx : 0 ≤ x ∧ x < 4294967296) :
    Calls Tryz.prog 76 #[.pointer (some ⟨b, 0, none⟩), .int .u32 x] w fun e w' => e = .returned (.int .u32 (wordI x)) ∧ LeftB b w w' := by
  unfold wordI
  obtain ⟨y3, h3⟩ : ∃ y, subI (x / 16777216) = y := ⟨_, rfl⟩
  obtain ⟨y2, h2⟩ : ∃ y, subI (x / 65536 % 256) = y := ⟨_, rfl⟩
  obtain ⟨y1, h1⟩ : ∃ y, subI (x / 256 % 256) = y := ⟨_, rfl⟩
  obtain ⟨y0, h0⟩ : ∃ y, subI (x % 256) = y := ⟨_, rfl⟩
  have b3 : 0 ≤ y3 ∧ y3 < 256 := h3 ▸ B8_sub _
  have b2 : 0 ≤ y2 ∧ y2 < 256 := h2 ▸ B8_sub _
  have b1 : 0 ≤ y1 ∧ y1 < 256 := h1 ▸ B8_sub _
  have b0 : 0 ≤ y0 ∧ y0 < 256 := h0 ▸ B8_sub _
  rw [h3, h2, h1, h0]
  have hj := u32_join4 b3 b2 b1 b0
  have H3 : Hid _ := h3
  have HJ : Hid _ := hj
  have H2 : Hid _ := h2
  have H1 : Hid _ := h1
  have H0 : Hid _ := h0
  clear h3 h2 h1 h0 hj
  go_enter Tryz.func76, Tryz.ntmps76
  go_wp2_with fail
  refine (sub_i (y := y3) _ h (by unfold B8; omega) H3.out).mono ?_
  rintro e w1 ⟨rfl, hL1⟩
  go_wp2_with fail
  refine (sub_i (y := y2) _ hL1.1 (by unfold B8; omega) H2.out).mono ?_
  rintro e w2 ⟨rfl, hL2⟩
  go_wp2_with fail
  refine (sub_i (y := y1) _ hL2.1 (by unfold B8; omega) H1.out).mono ?_
  rintro e w3 ⟨rfl, hL3⟩
  go_wp2_with fail
  refine (sub_i (y := y0) _ hL3.1 (by unfold B8; omega) H0.out).mono ?_
  rintro e w4 ⟨rfl, hL4⟩
  go_wp2_with fail
  go_ret
  exact ⟨by rw [← HJ.out]; rfl, hL1.trans (hL2.trans (hL3.trans hL4))⟩
theorem word_i {b : Nat} {x y : Int} (w : World) (h : BoxIn w b) (hx : 0 ≤ x ∧ x < 4294967296) (hy : wordI x = y) :
    Calls Tryz.prog 76 #[.pointer (some ⟨b, 0, none⟩), .int .u32 x] w fun e w' => e = .returned (.int .u32 y) ∧ LeftB b w w' := by
  subst hy; exact word_any b x w h hx

end Go.Proofs.YtncfocjmdecapaaGreatDoor
