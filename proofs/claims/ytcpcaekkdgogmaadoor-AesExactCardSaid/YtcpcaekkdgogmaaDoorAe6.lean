/- AES: a known block under a known key. -/
import Derived.Test.YtcpcaekkdgogmaaDoorAe5
namespace Go.Proofs.YtcpcaekkdgogmaaDoor
set_option linter.unusedVariables false
set_option linter.unusedSimpArgs false
open Go.RowKit

def subT (x : Nat) : Nat := subL.getD x 0
def wordT (x : Nat) : Nat := subT (x / 16777216) * 16777216 + subT (x / 65536 % 256) * 65536 + subT (x / 256 % 256) * 256 + subT (x % 256)
theorem wordT_eq {x : Nat} (h : x < 4294967296) : wordN x = wordT x := by
  unfold wordN wordT subT
  rw [sub_lit (show x / 16777216 < 256 by omega), sub_lit (show x / 65536 % 256 < 256 by omega), sub_lit (show x / 256 % 256 < 256 by omega), sub_lit (show x % 256 < 256 by omega)]
def knownW : List Nat := [66051, 67438087, 134810123, 202182159, 269554195, 336926231, 404298267, 471670303, 2775827103, 2708915352, 2843725459, 2775761052, 374450381, 38059738, 442344641, 104905438, 2928140272, 267459432, 2794378747, 66852199, 1843523912, 1873104786, 1979247443, 1941459341, 3327558271, 3383204119, 1864977644, 1825921419, 1038236277, 1380414951, 666869428, 1409797945, 199004255, 3262843208, 2907850148, 3246857263, 1173726816, 397595527, 806178099, 1678410250, 2094003996, 3199532628, 333888496, 3529615327, 4028300030, 3886557561, 3617940554, 3014649408, 625081969, 2616524837, 2282994645, 1517427722, 1314547353, 2851229664, 2119642026, 3455634922, 620526028, 3205069289, 924500540, 1835589174]
def knownS : List (List Nat) := [[0, 16, 32, 48, 64, 80, 96, 112, 128, 144, 160, 176, 192, 208, 224, 240], [79, 99, 118, 6, 67, 224, 170, 133, 239, 167, 33, 50, 1, 164, 231, 5], [24, 89, 251, 194, 138, 28, 0, 160, 120, 237, 138, 173, 196, 47, 97, 9], [151, 92, 102, 193, 203, 159, 63, 168, 169, 58, 40, 223, 142, 225, 15, 99], [28, 5, 242, 113, 164, 23, 224, 79, 249, 33, 197, 193, 4, 112, 21, 84], [195, 87, 170, 225, 27, 69, 183, 176, 162, 199, 189, 40, 168, 220, 153, 250], [127, 7, 65, 67, 203, 78, 36, 62, 193, 12, 129, 93, 131, 117, 213, 76], [214, 83, 164, 105, 108, 160, 188, 15, 90, 202, 171, 93, 185, 108, 94, 125], [90, 168, 88, 57, 95, 210, 141, 125, 5, 225, 163, 136, 104, 243, 185, 197], [74, 130, 72, 81, 197, 126, 126, 71, 100, 61, 229, 12, 42, 243, 232, 201], [193, 73, 7, 246, 202, 59, 58, 160, 112, 233, 170, 49, 59, 82, 181, 236], [95, 156, 106, 191, 186, 198, 52, 170, 80, 64, 159, 167, 102, 103, 118, 83], [81, 102, 4, 149, 67, 83, 149, 3, 20, 251, 134, 228, 1, 146, 37, 33], [98, 123, 206, 185, 153, 157, 90, 170, 201, 69, 236, 244, 35, 245, 109, 165], [142, 162, 183, 202, 81, 103, 69, 191, 234, 252, 73, 144, 75, 73, 96, 137]]
def lastT (W : List Nat) (n : Nat) : Nat := if n % 8 = 0 then wordT (rot8 (W.getD (n - 1) 0)) ^^^ 2 ^ (23 + n / 8) else if n % 8 = 4 then wordT (W.getD (n - 1) 0) else W.getD (n - 1) 0
def kF : Nat → Nat := fun i => i
def gF : Nat → Nat := fun i => 17 * i
def okW (n : Nat) : Bool := knownW.getD n 0 == (if n < 8 then kwN kF n else knownW.getD (n - 8) 0 ^^^ lastT knownW n) && decide (knownW.getD n 0 < 4294967296)
theorem okW_all : (List.range 60).all okW = true := by kernel_rfl
theorem exK_known : ∀ n, n ≤ 60 → ∀ i, exK kF n i = if i < n then knownW.getD i 0 else 0
  | 0, _, i => (if_neg (Nat.not_lt_zero i)).symm
  | n + 1, hn, i => by
    have ih := exK_known n (by omega)
    have hok := List.all_eq_true.1 okW_all n (List.mem_range.2 (by omega))
    unfold okW at hok
    rw [Bool.and_eq_true] at hok
    have h1 := eq_of_beq hok.1
    show upd (exK kF n) n (if n < 8 then kwN kF n else exK kF n (n - 8) ^^^ lastN (exK kF n) n) i = _
    unfold upd
    by_cases e : i = n
    · subst e
      rw [if_pos rfl, show (if i < i + 1 then knownW.getD i 0 else 0) = knownW.getD i 0 from if_pos (Nat.lt_succ_self i), h1]
      by_cases h8 : i < 8
      · rw [if_pos h8, if_pos h8]
      · rw [if_neg h8, if_neg h8, ih, if_pos (by omega)]
        have hl : exK kF i (i - 1) = knownW.getD (i - 1) 0 := by rw [ih, if_pos (by omega)]
        have hb : knownW.getD (i - 1) 0 < 4294967296 := by
          have := List.all_eq_true.1 okW_all (i - 1) (List.mem_range.2 (by omega))
          unfold okW at this; rw [Bool.and_eq_true] at this; exact of_decide_eq_true this.2
        have : lastN (exK kF i) i = lastT knownW i := by
          unfold lastN lastT
          rw [hl, wordT_eq (rot8_lt hb), wordT_eq hb]
        rw [this]
    · rw [if_neg e, ih]
      by_cases h5 : i < n
      · rw [if_pos h5, if_pos (by omega)]
      · rw [if_neg h5, if_neg (by omega)]
def stF (r : Nat) : Nat → Nat := fun i => (knownS.getD r []).getD i 0
def addT (r : Nat) (f : Nat → Nat) : Nat → Nat := fun i => f i ^^^ numB (knownW.getD (4 * r + i / 4) 0) 4 (i % 4)
def okS (r i : Nat) : Bool := (stF r i == if r = 0 then addT 0 gF i else addT r (if r < 14 then mxA (mvA subT (stF (r - 1))) else mvA subT (stF (r - 1))) i) && decide (stF r i < 256)
theorem okS_all : (List.range 15).all (fun r => (List.range 16).all (okS r)) = true := by kernel_rfl
theorem okS_at {r i : Nat} (hr : r < 15) (hi : i < 16) : okS r i = true := List.all_eq_true.1 (List.all_eq_true.1 okS_all r (List.mem_range.2 hr)) i (List.mem_range.2 hi)
theorem addT_eq {r : Nat} (hr : r < 15) (f g : Nat → Nat) (i : Nat) (hi : i < 16) (h : f i = g i) : addK (exK kF 60) r f i = addT r g i := by
  unfold addK addT
  rw [h, exK_known 60 (Nat.le_refl _), if_pos (by omega)]
theorem mxA_congr {f g : Nat → Nat} (h : ∀ i, i < 16 → f i = g i) (i : Nat) (hi : i < 16) : mxA f i = mxA g i := by
  unfold mxA
  rw [h _ (show 4 * (i / 4) + i % 4 < 16 by omega), h _ (show 4 * (i / 4) + (i % 4 + 1) % 4 < 16 by omega), h _ (show 4 * (i / 4) + (i % 4 + 2) % 4 < 16 by omega), h _ (show 4 * (i / 4) + (i % 4 + 3) % 4 < 16 by omega)]
theorem enc_known : ∀ r, r < 15 → ∀ i, i < 16 → encK subN (exK kF 60) gF r i = stF r i
  | 0, hr, i, hi => by
    have h := okS_at hr hi
    unfold okS at h; rw [Bool.and_eq_true, if_pos rfl] at h
    rw [eq_of_beq h.1]
    exact addT_eq hr gF gF i hi rfl
  | r + 1, hr, i, hi => by
    have ih := enc_known r (by omega)
    have h := okS_at hr hi
    unfold okS at h; rw [Bool.and_eq_true, if_neg (Nat.succ_ne_zero r), Nat.add_sub_cancel] at h
    rw [eq_of_beq h.1]
    have hmv : ∀ j, j < 16 → mvA subN (encK subN (exK kF 60) gF r) j = mvA subT (stF r) j := fun j hj => by
      unfold mvA subT
      have hb := okS_at (r := r) (i := 4 * ((j / 4 + j % 4) % 4) + j % 4) (by omega) (by omega)
      unfold okS at hb; rw [Bool.and_eq_true] at hb
      rw [ih _ (by omega), sub_lit (of_decide_eq_true hb.2)]
    refine addT_eq hr _ _ i hi ?_
    by_cases h14 : r + 1 < 14
    · rw [if_pos h14, if_pos h14]; exact mxA_congr hmv i hi
    · rw [if_neg h14, if_neg h14]; exact hmv i hi
theorem known_0 : encK subN (exK kF 60) gF 14 0 = 142 := by rw [enc_known 14 (by decide) 0 (by decide)]; rfl
theorem known_1 : encK subN (exK kF 60) gF 14 1 = 162 := by rw [enc_known 14 (by decide) 1 (by decide)]; rfl
theorem known_15 : encK subN (exK kF 60) gF 14 15 = 137 := by rw [enc_known 14 (by decide) 15 (by decide)]; rfl
theorem known_w0 : exK kF 60 0 = 66051 := by rw [exK_known 60 (Nat.le_refl _)]; rfl
end Go.Proofs.YtcpcaekkdgogmaaDoor
