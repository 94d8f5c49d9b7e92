/- What stands for a byte: the numbers. -/
import Derived.Test.YtkcbckafibjflaaGreatDoorSbx
namespace Go.Proofs.YtkcbckafibjflaaGreatDoor
set_option linter.unusedVariables false
set_option linter.unusedSimpArgs false
open Go.RowKit

def invN (x : Nat) : Nat := if x = 0 then 0 else divN 1 x
theorem invN_lt (x : Nat) : invN x < 256 := by unfold invN; split; decide; exact divN_lt _ _
/-- What stands for a byte. -/
def subN (x : Nat) : Nat := spreadN (invN x)
theorem subN_lt (x : Nat) : subN x < 256 := spreadN_lt (invN_lt x)
def subL : List Nat := [99, 124, 119, 123, 242, 107, 111, 197, 48, 1, 103, 43, 254, 215, 171, 118, 202, 130, 201, 125, 250, 89, 71, 240, 173, 212, 162, 175, 156, 164, 114, 192, 183, 253, 147, 38, 54, 63, 247, 204, 52, 165, 229, 241, 113, 216, 49, 21, 4, 199, 35, 195, 24, 150, 5, 154, 7, 18, 128, 226, 235, 39, 178, 117, 9, 131, 44, 26, 27, 110, 90, 160, 82, 59, 214, 179, 41, 227, 47, 132, 83, 209, 0, 237, 32, 252, 177, 91, 106, 203, 190, 57, 74, 76, 88, 207, 208, 239, 170, 251, 67, 77, 51, 133, 69, 249, 2, 127, 80, 60, 159, 168, 81, 163, 64, 143, 146, 157, 56, 245, 188, 182, 218, 33, 16, 255, 243, 210, 205, 12, 19, 236, 95, 151, 68, 23, 196, 167, 126, 61, 100, 93, 25, 115, 96, 129, 79, 220, 34, 42, 144, 136, 70, 238, 184, 20, 222, 94, 11, 219, 224, 50, 58, 10, 73, 6, 36, 92, 194, 211, 172, 98, 145, 149, 228, 121, 231, 200, 55, 109, 141, 213, 78, 169, 108, 86, 244, 234, 101, 122, 174, 8, 186, 120, 37, 46, 28, 166, 180, 198, 232, 221, 116, 31, 75, 189, 139, 138, 112, 62, 181, 102, 72, 3, 246, 14, 97, 53, 87, 185, 134, 193, 29, 158, 225, 248, 152, 17, 105, 217, 142, 148, 155, 30, 135, 233, 206, 85, 40, 223, 140, 161, 137, 13, 191, 230, 66, 104, 65, 153, 45, 15, 176, 84, 187, 22]
def backL : List Nat := [82, 9, 106, 213, 48, 54, 165, 56, 191, 64, 163, 158, 129, 243, 215, 251, 124, 227, 57, 130, 155, 47, 255, 135, 52, 142, 67, 68, 196, 222, 233, 203, 84, 123, 148, 50, 166, 194, 35, 61, 238, 76, 149, 11, 66, 250, 195, 78, 8, 46, 161, 102, 40, 217, 36, 178, 118, 91, 162, 73, 109, 139, 209, 37, 114, 248, 246, 100, 134, 104, 152, 22, 212, 164, 92, 204, 93, 101, 182, 146, 108, 112, 72, 80, 253, 237, 185, 218, 94, 21, 70, 87, 167, 141, 157, 132, 144, 216, 171, 0, 140, 188, 211, 10, 247, 228, 88, 5, 184, 179, 69, 6, 208, 44, 30, 143, 202, 63, 15, 2, 193, 175, 189, 3, 1, 19, 138, 107, 58, 145, 17, 65, 79, 103, 220, 234, 151, 242, 207, 206, 240, 180, 230, 115, 150, 172, 116, 34, 231, 173, 53, 133, 226, 249, 55, 232, 28, 117, 223, 110, 71, 241, 26, 113, 29, 41, 197, 137, 111, 183, 98, 14, 170, 24, 190, 27, 252, 86, 62, 75, 198, 210, 121, 32, 154, 219, 192, 254, 120, 205, 90, 244, 31, 221, 168, 51, 136, 7, 199, 49, 177, 18, 16, 89, 39, 128, 236, 95, 96, 81, 127, 169, 25, 181, 74, 13, 45, 229, 122, 159, 147, 201, 156, 239, 160, 224, 59, 77, 174, 42, 245, 176, 200, 235, 187, 60, 131, 83, 153, 97, 23, 43, 4, 126, 186, 119, 214, 38, 225, 105, 20, 99, 85, 33, 12, 125]
def backN (x : Nat) : Nat := backL.getD x 0
theorem sub_lit {x : Nat} (h : x < 256) : subN x = subL.getD x 0 := by
  have k : (List.range 256).all (fun x => subN x == subL.getD x 0) = true := by decide +kernel
  exact beq_iff_eq.1 (List.all_eq_true.1 k x (List.mem_range.2 h))
theorem back_sub {x : Nat} (h : x < 256) : backN (subN x) = x := by
  rw [sub_lit h]
  have k : (List.range 256).all (fun x => backN (subL.getD x 0) == x) = true := by decide +kernel
  exact beq_iff_eq.1 (List.all_eq_true.1 k x (List.mem_range.2 h))
theorem backN_lt {x : Nat} (h : x < 256) : backN x < 256 := by
  have k : (List.range 256).all (fun x => decide (backN x < 256)) = true := by decide +kernel
  exact of_decide_eq_true (List.all_eq_true.1 k x (List.mem_range.2 h))
theorem sub_back {x : Nat} (h : x < 256) : subN (backN x) = x := by
  rw [sub_lit (backN_lt h)]
  have k : (List.range 256).all (fun x => subL.getD (backN x) 0 == x) = true := by decide +kernel
  exact beq_iff_eq.1 (List.all_eq_true.1 k x (List.mem_range.2 h))
theorem sub_ne {x : Nat} (h : x < 256) : subN x ≠ x := by
  rw [sub_lit h]
  have k : (List.range 256).all (fun x => subL.getD x 0 != x) = true := by decide +kernel
  exact bne_iff_ne.1 (List.all_eq_true.1 k x (List.mem_range.2 h))
theorem sub_inj {x y : Nat} (hx : x < 256) (hy : y < 256) (h : subN x = subN y) : x = y := by
  rw [← back_sub hx, ← back_sub hy, h]

/-- Numbers laid one behind the other at places that a function tells. -/
def laidAt (f g : Nat → Nat) (n k : Nat) : List Nat := (List.range k).foldl (fun l j => l.set (f j) (g j)) (List.replicate n 0)
theorem laidAt_succ (f g : Nat → Nat) (n k : Nat) : laidAt f g n (k + 1) = (laidAt f g n k).set (f k) (g k) := by unfold laidAt; rw [List.range_succ, List.foldl_append]; rfl
theorem laidAt_len (f g : Nat → Nat) (n : Nat) : ∀ k, (laidAt f g n k).length = n
  | 0 => List.length_replicate
  | k + 1 => by rw [laidAt_succ, List.length_set, laidAt_len f g n k]
theorem laidAt_get {f g : Nat → Nat} {n : Nat} (hf : ∀ i j, f i = f j → i < n → j < n → i = j) (hl : ∀ i, i < n → f i < n) : ∀ k i, k ≤ n → i < k → (laidAt f g n k)[f i]? = some (g i)
  | 0, i, _, h => absurd h (Nat.not_lt_zero _)
  | k + 1, i, hk, h => by
    rw [laidAt_succ]
    by_cases e : i = k
    · subst e
      rw [List.getElem?_set_self (by rw [laidAt_len]; exact hl i (by omega))]
    · rw [List.getElem?_set_ne (fun h2 => e (hf i k h2.symm (by omega) (by omega)))]
      exact laidAt_get hf hl k i (by omega) (by omega)
def Sk (k : Nat) : List Nat := laidAt id subN 256 k
def Bk (k : Nat) : List Nat := laidAt subN id 256 k
theorem Sk_succ (k : Nat) : Sk (k + 1) = (Sk k).set k (subN k) := laidAt_succ _ _ _ _
theorem Bk_succ (k : Nat) : Bk (k + 1) = (Bk k).set (subN k) k := laidAt_succ _ _ _ _
theorem Sk_len (k : Nat) : (Sk k).length = 256 := laidAt_len _ _ _ _
theorem Bk_len (k : Nat) : (Bk k).length = 256 := laidAt_len _ _ _ _
theorem S_at {x : Nat} (h : x < 256) : (Sk 256)[x]? = some (subN x) := laidAt_get (f := id) (fun _ _ h _ _ => h) (fun _ h => h) 256 x (Nat.le_refl _) h
theorem B_at {x : Nat} (h : x < 256) : (Bk 256)[x]? = some (backN x) := by
  have e : (Bk 256)[subN (backN x)]? = some (id (backN x)) := laidAt_get (f := subN) (fun i j h hi hj => sub_inj hi hj h) (fun i hi => subN_lt i) 256 (backN x) (Nat.le_refl _) (backN_lt h)
  rw [sub_back h] at e; exact e
end Go.Proofs.YtkcbckafibjflaaGreatDoor
