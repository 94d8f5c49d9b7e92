/- Sums of 32 bytes in plain mathematics. -/
import Derived.Test.YtloajfbehejehaaDoorRow
namespace Go.Proofs.YtloajfbehejehaaDoor
set_option linter.unusedVariables false
set_option linter.unusedSimpArgs false
open Go.RowKit

/-- A number's bytes. -/
def numB (n size i : Nat) : Nat := n / 256 ^ (size - 1 - i) % 256
theorem numB_lt (n size i : Nat) : numB n size i < 256 := Nat.mod_lt _ (by decide)
def rorN (n x : Nat) : Nat := (x * 2 ^ (32 - n) % 4294967296) ||| (x / 2 ^ n)
def sg0 (x : Nat) : Nat := rorN 7 x ^^^ rorN 18 x ^^^ (x / 8)
def sg1 (x : Nat) : Nat := rorN 17 x ^^^ rorN 19 x ^^^ (x / 1024)
def bg0 (x : Nat) : Nat := rorN 2 x ^^^ rorN 13 x ^^^ rorN 22 x
def bg1 (x : Nat) : Nat := rorN 6 x ^^^ rorN 11 x ^^^ rorN 25 x
def chN (e f g : Nat) : Nat := (e &&& f) ^^^ ((4294967295 - e) &&& g)
def mjN (a b c : Nat) : Nat := (a &&& b) ^^^ (a &&& c) ^^^ (b &&& c)
def wd (b : Nat → Nat) (t : Nat) : Nat := b (4 * t) * 16777216 + b (4 * t + 1) * 65536 + b (4 * t + 2) * 256 + b (4 * t + 3)
def spS (w : Nat → Nat) (t : Nat) : Nat := (sg1 (w (t - 2)) + w (t - 7) + sg0 (w (t - 15)) + w (t - 16)) % 4294967296
/-- A block's words. -/
def spK (b : Nat → Nat) : Nat → Nat → Nat
  | 0 => fun _ => 0
  | n + 1 => upd (spK b n) n (if n < 16 then wd b n else spS (spK b n) n)
def kTab : List Nat := [0x428a2f98, 0x71374491, 0xb5c0fbcf, 0xe9b5dba5, 0x3956c25b, 0x59f111f1, 0x923f82a4, 0xab1c5ed5,
  0xd807aa98, 0x12835b01, 0x243185be, 0x550c7dc3, 0x72be5d74, 0x80deb1fe, 0x9bdc06a7, 0xc19bf174,
  0xe49b69c1, 0xefbe4786, 0x0fc19dc6, 0x240ca1cc, 0x2de92c6f, 0x4a7484aa, 0x5cb0a9dc, 0x76f988da,
  0x983e5152, 0xa831c66d, 0xb00327c8, 0xbf597fc7, 0xc6e00bf3, 0xd5a79147, 0x06ca6351, 0x14292967,
  0x27b70a85, 0x2e1b2138, 0x4d2c6dfc, 0x53380d13, 0x650a7354, 0x766a0abb, 0x81c2c92e, 0x92722c85,
  0xa2bfe8a1, 0xa81a664b, 0xc24b8b70, 0xc76c51a3, 0xd192e819, 0xd6990624, 0xf40e3585, 0x106aa070,
  0x19a4c116, 0x1e376c08, 0x2748774c, 0x34b0bcb5, 0x391c0cb3, 0x4ed8aa4a, 0x5b9cca4f, 0x682e6ff3,
  0x748f82ee, 0x78a5636f, 0x84c87814, 0x8cc70208, 0x90befffa, 0xa4506ceb, 0xbef9a3f7, 0xc67178f2]
def kN (t : Nat) : Nat := kTab.getD t 0
def hTab : List Nat := [0x6a09e667, 0xbb67ae85, 0x3c6ef372, 0xa54ff53a, 0x510e527f, 0x9b05688c, 0x1f83d9ab, 0x5be0cd19]
def hN (t : Nat) : Nat := hTab.getD t 0
def t1N (v : Nat → Nat) (k w : Nat) : Nat := (v 7 + bg1 (v 4) + chN (v 4) (v 5) (v 6) + k + w) % 4294967296
def t2N (v : Nat → Nat) : Nat := (bg0 (v 0) + mjN (v 0) (v 1) (v 2)) % 4294967296
def rdS (v : Nat → Nat) (k w : Nat) : Nat → Nat := fun j => if j = 0 then (t1N v k w + t2N v) % 4294967296 else if j = 4 then (v 3 + t1N v k w) % 4294967296 else v (j - 1)
/-- Eight words behind some rounds. -/
def rdK (H W : Nat → Nat) : Nat → Nat → Nat
  | 0 => H
  | n + 1 => rdS (rdK H W n) (kN n) (W n)
def mixN (H b : Nat → Nat) : Nat → Nat := fun j => (rdK H (spK b 64) 64 j + H j) % 4294967296
/-- Behind some blocks. -/
def chK (F : Nat → Nat) : Nat → Nat → Nat
  | 0 => hN
  | n + 1 => mixN (chK F n) (fun i => F (64 * n + i))
/-- How many blocks there are; what is written behind n bytes. -/
def blkN (n : Nat) : Nat := (n + 8) / 64 + 1
def padN (n : Nat) (F : Nat → Nat) : Nat → Nat := fun i => if i < n then F i else if i = n then 128 else if i < 64 * blkN n - 8 then 0 else numB (8 * n) 8 (i - (64 * blkN n - 8))
/-- The sum. -/
def shaN (n : Nat) (F : Nat → Nat) : Nat → Nat := fun j => numB (chK (padN n F) (blkN n) (j / 4)) 4 (j % 4)

theorem or32 {a b : Nat} (ha : a < 4294967296) (hb : b < 4294967296) : a ||| b < 4294967296 := Nat.or_lt_two_pow (n := 32) ha hb
theorem xor32 {a b : Nat} (ha : a < 4294967296) (hb : b < 4294967296) : a ^^^ b < 4294967296 := Nat.xor_lt_two_pow (n := 32) ha hb
theorem and32 {a b : Nat} (ha : a < 4294967296) : a &&& b < 4294967296 := Nat.lt_of_le_of_lt Nat.and_le_left ha
theorem rorN_lt {n x : Nat} (h : x < 4294967296) : rorN n x < 4294967296 := or32 (Nat.mod_lt _ (by decide)) (Nat.lt_of_le_of_lt (Nat.div_le_self _ _) h)
theorem sg0_lt {x : Nat} (h : x < 4294967296) : sg0 x < 4294967296 := xor32 (xor32 (rorN_lt h) (rorN_lt h)) (Nat.lt_of_le_of_lt (Nat.div_le_self _ _) h)
theorem sg1_lt {x : Nat} (h : x < 4294967296) : sg1 x < 4294967296 := xor32 (xor32 (rorN_lt h) (rorN_lt h)) (Nat.lt_of_le_of_lt (Nat.div_le_self _ _) h)
theorem bg0_lt {x : Nat} (h : x < 4294967296) : bg0 x < 4294967296 := xor32 (xor32 (rorN_lt h) (rorN_lt h)) (rorN_lt h)
theorem bg1_lt {x : Nat} (h : x < 4294967296) : bg1 x < 4294967296 := xor32 (xor32 (rorN_lt h) (rorN_lt h)) (rorN_lt h)
theorem wd_lt {b : Nat → Nat} {t : Nat} (h : ∀ i, i < 64 → b i < 256) (ht : t < 16) : wd b t < 4294967296 := by
  have h0 := h (4 * t) (by omega); have h1 := h (4 * t + 1) (by omega); have h2 := h (4 * t + 2) (by omega); have h3 := h (4 * t + 3) (by omega)
  unfold wd; omega
theorem spK_lt {b : Nat → Nat} (hb : ∀ i, i < 64 → b i < 256) : ∀ n t, spK b n t < 4294967296
  | 0, _ => by show 0 < _; decide
  | n + 1, t => by
    show upd (spK b n) n (if n < 16 then wd b n else spS (spK b n) n) t < _
    unfold upd
    split
    · split
      · exact wd_lt hb ‹_›
      · exact Nat.mod_lt _ (by decide)
    · exact spK_lt hb n t
theorem spK_keep (b : Nat → Nat) {i : Nat} : ∀ n, i < n → spK b n i = if i < 16 then wd b i else spS (spK b i) i
  | 0, h => by omega
  | n + 1, h => by
    show upd (spK b n) n (if n < 16 then wd b n else spS (spK b n) n) i = _
    by_cases e : i = n
    · rw [e]; exact if_pos rfl
    · exact (if_neg e).trans (spK_keep b n (by omega))
theorem spK_same (b : Nat → Nat) {i n m : Nat} (h : i < n) (h' : i < m) : spK b n i = spK b m i := by rw [spK_keep b n h, spK_keep b m h']
theorem spS_same (b : Nat → Nat) {t n : Nat} (h : 16 ≤ t) (hn : t ≤ n) : spS (spK b n) t = spS (spK b t) t := by
  unfold spS
  rw [spK_same b (n := n) (m := t) (i := t - 2) (by omega) (by omega), spK_same b (n := n) (m := t) (i := t - 7) (by omega) (by omega), spK_same b (n := n) (m := t) (i := t - 15) (by omega) (by omega), spK_same b (n := n) (m := t) (i := t - 16) (by omega) (by omega)]
theorem spK_lo (b : Nat → Nat) {t : Nat} (h : t < 16) : spK b 64 t = wd b t := (spK_keep b 64 (by omega)).trans (if_pos h)
theorem spK_hi (b : Nat → Nat) {t : Nat} (h : 16 ≤ t) (h2 : t < 64) : spK b 64 t = spS (spK b 64) t := by
  rw [spK_keep b 64 h2, if_neg (by omega), spS_same b h (show t ≤ 64 by omega)]
theorem kN_lt (t : Nat) : kN t < 4294967296 := by
  unfold kN
  rcases Nat.lt_or_ge t 64 with h | h
  · have : ∀ t, t < 64 → kTab.getD t 0 < 4294967296 := by decide
    exact this t h
  · rw [List.getD_eq_getElem?_getD, List.getElem?_eq_none (by simpa [kTab] using h)]; decide
theorem hN_lt (t : Nat) : hN t < 4294967296 := by
  unfold hN
  rcases Nat.lt_or_ge t 8 with h | h
  · have : ∀ t, t < 8 → hTab.getD t 0 < 4294967296 := by decide
    exact this t h
  · rw [List.getD_eq_getElem?_getD, List.getElem?_eq_none (by simpa [hTab] using h)]; decide
theorem t1N_lt (v : Nat → Nat) (k w : Nat) : t1N v k w < 4294967296 := Nat.mod_lt _ (by decide)
theorem t2N_lt (v : Nat → Nat) : t2N v < 4294967296 := Nat.mod_lt _ (by decide)
theorem rdS_lt {v : Nat → Nat} {k w : Nat} (hv : ∀ j, j < 8 → v j < 4294967296) : ∀ j, j < 8 → rdS v k w j < 4294967296 := fun j hj => by
  unfold rdS
  split
  · exact Nat.mod_lt _ (by decide)
  · split
    · exact Nat.mod_lt _ (by decide)
    · exact hv _ (by omega)
theorem rdK_lt {H W : Nat → Nat} (hH : ∀ j, j < 8 → H j < 4294967296) : ∀ n j, j < 8 → rdK H W n j < 4294967296
  | 0, j, hj => hH j hj
  | n + 1, j, hj => rdS_lt (rdK_lt hH n) j hj
theorem mixN_lt (H b : Nat → Nat) (j : Nat) : mixN H b j < 4294967296 := Nat.mod_lt _ (by decide)
theorem chK_lt (F : Nat → Nat) : ∀ n j, chK F n j < 4294967296
  | 0, j => hN_lt j
  | n + 1, j => mixN_lt _ _ j
theorem spK_congr {b c : Nat → Nat} (h : ∀ i, i < 64 → b i = c i) : ∀ n, spK b n = spK c n
  | 0 => rfl
  | n + 1 => by
    show upd (spK b n) n (if n < 16 then wd b n else spS (spK b n) n) = upd (spK c n) n (if n < 16 then wd c n else spS (spK c n) n)
    rw [spK_congr h n]
    by_cases e : n < 16
    · rw [if_pos e, if_pos e]
      unfold wd
      rw [h (4 * n) (by omega), h (4 * n + 1) (by omega), h (4 * n + 2) (by omega), h (4 * n + 3) (by omega)]
    · rw [if_neg e, if_neg e]
theorem mixN_congr {H b c : Nat → Nat} (h : ∀ i, i < 64 → b i = c i) : mixN H b = mixN H c := by
  unfold mixN; rw [spK_congr h 64]
theorem chK_congr {F G : Nat → Nat} : ∀ n, (∀ i, i < 64 * n → F i = G i) → chK F n = chK G n
  | 0, _ => rfl
  | n + 1, h => by
    show mixN (chK F n) _ = mixN (chK G n) _
    rw [chK_congr n (fun i hi => h i (by omega))]
    exact mixN_congr fun i hi => h _ (by omega)
theorem padN_congr {n : Nat} {F G : Nat → Nat} (h : ∀ i, i < n → F i = G i) : padN n F = padN n G := by
  funext i; unfold padN
  by_cases e : i < n
  · rw [if_pos e, if_pos e, h i e]
  · rw [if_neg e, if_neg e]
theorem shaN_congr {n : Nat} {F G : Nat → Nat} (h : ∀ i, i < n → F i = G i) : shaN n F = shaN n G := by
  unfold shaN; rw [padN_congr h]
theorem shaN_lt (n : Nat) (F : Nat → Nat) (j : Nat) : shaN n F j < 256 := numB_lt _ _ _
end Go.Proofs.YtloajfbehejehaaDoor
