/- Sums of 32 bytes in plain mathematics. Words in memory; a hash in memory. Numbers with names: wraps, quotients, rests, as a walk meets them. -/
import Derived.Lib.Hide
import Derived.IntWalk
import Derived.RegionTactic
import Derived.Laws.BitsLemmas
import Derived.Laws.BitsAllLaws
import Derived.Outline
import Derived.ChangeKeysEq
import Derived.Laws.StructEq
import Derived.Laws.CopyOwn
import Derived.Deep.RegionHeld3
import Derived.Deep.DeepCutAuto
import Derived.StillTailTactics
import Derived.Test.YtncfocjmdecapaaGreatDoorZB0
namespace Go.Proofs.YtncfocjmdecapaaGreatDoor
set_option linter.unusedVariables false
set_option linter.unusedSimpArgs false
open Go.RowKit
/-- A number's bytes. -/
def numB (n size i : Nat) : Nat := n / 256 ^ (size - 1 - i) % 256
theorem numB_lt (n size i : Nat) : numB n size i < 256 := Nat.mod_lt _ (by decide)
def rorN (n x : Nat) : Nat := (x * 2 ^ (32 - n) % 4294967296) ||| (x / 2 ^ n)
def sg0 (x : Nat) : Nat := rorN 7 x ^^^ rorN 18 x ^^^ (x / 8)
def sg1 (x : Nat) : Nat := rorN 17 x ^^^ rorN 19 x ^^^ (x / 1024)
def bg0 (x : Nat) : Nat := rorN 2 x ^^^ rorN 13 x ^^^ rorN 22 x
def bg1 (x : Nat) : Nat := rorN 6 x ^^^ rorN 11 x ^^^ rorN 25 x
def chN (e f g : Nat) : Nat := (e &&& f) ^^^ ((4294967295 - e) &&& g)
def mjN (a b c : Nat) : Nat := (a &&& b) ^^^ (a &&& c) ^^^ (b &&& c)
def wd (b : Nat → Nat) (t : Nat) : Nat := b (4 * t) * 16777216 + b (4 * t + 1) * 65536 + b (4 * t + 2) * 256 + b (4 * t + 3)
def spS (w : Nat → Nat) (t : Nat) : Nat := (sg1 (w (t - 2)) + w (t - 7) + sg0 (w (t - 15)) + w (t - 16)) % 4294967296
/-- A block's words. -/
def spK (b : Nat → Nat) : Nat → Nat → Nat
  | 0 => fun _ => 0
  | n + 1 => upd (spK b n) n (if n < 16 then wd b n else spS (spK b n) n)
def kTab : List Nat := [0x428a2f98, 0x71374491, 0xb5c0fbcf, 0xe9b5dba5, 0x3956c25b, 0x59f111f1, 0x923f82a4, 0xab1c5ed5,
  0xd807aa98, 0x12835b01, 0x243185be, 0x550c7dc3, 0x72be5d74, 0x80deb1fe, 0x9bdc06a7, 0xc19bf174,
  0xe49b69c1, 0xefbe4786, 0x0fc19dc6, 0x240ca1cc, 0x2de92c6f, 0x4a7484aa, 0x5cb0a9dc, 0x76f988da,
  0x983e5152, 0xa831c66d, 0xb00327c8, 0xbf597fc7, 0xc6e00bf3, 0xd5a79147, 0x06ca6351, 0x14292967,
  0x27b70a85, 0x2e1b2138, 0x4d2c6dfc, 0x53380d13, 0x650a7354, 0x766a0abb, 0x81c2c92e, 0x92722c85,
  0xa2bfe8a1, 0xa81a664b, 0xc24b8b70, 0xc76c51a3, 0xd192e819, 0xd6990624, 0xf40e3585, 0x106aa070,
  0x19a4c116, 0x1e376c08, 0x2748774c, 0x34b0bcb5, 0x391c0cb3, 0x4ed8aa4a, 0x5b9cca4f, 0x682e6ff3,
  0x748f82ee, 0x78a5636f, 0x84c87814, 0x8cc70208, 0x90befffa, 0xa4506ceb, 0xbef9a3f7, 0xc67178f2]
def kN (t : Nat) : Nat := kTab.getD t 0
def hTab : List Nat := [0x6a09e667, 0xbb67ae85, 0x3c6ef372, 0xa54ff53a, 0x510e527f, 0x9b05688c, 0x1f83d9ab, 0x5be0cd19]
def hN (t : Nat) : Nat := hTab.getD t 0
def t1N (v : Nat → Nat) (k w : Nat) : Nat := (v 7 + bg1 (v 4) + chN (v 4) (v 5) (v 6) + k + w) % 4294967296
def t2N (v : Nat → Nat) : Nat := (bg0 (v 0) + mjN (v 0) (v 1) (v 2)) % 4294967296
def rdS (v : Nat → Nat) (k w : Nat) : Nat → Nat := fun j => if j = 0 then (t1N v k w + t2N v) % 4294967296 else if j = 4 then (v 3 + t1N v k w) % 4294967296 else v (j - 1)
/-- Eight words behind some rounds. -/
def rdK (H W : Nat → Nat) : Nat → Nat → Nat
  | 0 => H
  | n + 1 => rdS (rdK H W n) (kN n) (W n)
def mixN (H b : Nat → Nat) : Nat → Nat := fun j => (rdK H (spK b 64) 64 j + H j) % 4294967296
/-- Behind some blocks. -/
def chK (F : Nat → Nat) : Nat → Nat → Nat
  | 0 => hN
  | n + 1 => mixN (chK F n) (fun i => F (64 * n + i))
/-- How many blocks there are; what is written behind n bytes. -/
def blkN (n : Nat) : Nat := (n + 8) / 64 + 1
def padN (n : Nat) (F : Nat → Nat) : Nat → Nat := fun i => if i < n then F i else if i = n then 128 else if i < 64 * blkN n - 8 then 0 else numB (8 * n) 8 (i - (64 * blkN n - 8))
/-- The sum. -/
def shaN (n : Nat) (F : Nat → Nat) : Nat → Nat := fun j => numB (chK (padN n F) (blkN n) (j / 4)) 4 (j % 4)

theorem or32 {a b : Nat} (ha : a < 4294967296) (hb : b < 4294967296) : a ||| b < 4294967296 := Nat.or_lt_two_pow (n := 32) ha hb
theorem xor32 {a b : Nat} (ha : a < 4294967296) (hb : b < 4294967296) : a ^^^ b < 4294967296 := Nat.xor_lt_two_pow (n := 32) ha hb
theorem and32 {a b : Nat} (ha : a < 4294967296) : a &&& b < 4294967296 := Nat.lt_of_le_of_lt Nat.and_le_left ha
theorem rorN_lt {n x : Nat} (h : x < 4294967296) : rorN n x < 4294967296 := or32 (Nat.mod_lt _ (by decide)) (Nat.lt_of_le_of_lt (Nat.div_le_self _ _) h)
theorem sg0_lt {x : Nat} (h : x < 4294967296) : sg0 x < 4294967296 := xor32 (xor32 (rorN_lt h) (rorN_lt h)) (Nat.lt_of_le_of_lt (Nat.div_le_self _ _) h)
theorem sg1_lt {x : Nat} (h : x < 4294967296) : sg1 x < 4294967296 := xor32 (xor32 (rorN_lt h) (rorN_lt h)) (Nat.lt_of_le_of_lt (Nat.div_le_self _ _) h)
theorem wd_lt {b : Nat → Nat} {t : Nat} (h : ∀ i, i < 64 → b i < 256) (ht : t < 16) : wd b t < 4294967296 := by
  have h0 := h (4 * t) (by omega); have h1 := h (4 * t + 1) (by omega); have h2 := h (4 * t + 2) (by omega); have h3 := h (4 * t + 3) (by omega)
  unfold wd; omega
theorem spK_lt {b : Nat → Nat} (hb : ∀ i, i < 64 → b i < 256) : ∀ n t, spK b n t < 4294967296
  | 0, _ => by show 0 < _; decide
  | n + 1, t => by
    show upd (spK b n) n (if n < 16 then wd b n else spS (spK b n) n) t < _
    unfold upd
    split
    · split
      · exact wd_lt hb ‹_›
      · exact Nat.mod_lt _ (by decide)
    · exact spK_lt hb n t
theorem spK_keep (b : Nat → Nat) {i : Nat} : ∀ n, i < n → spK b n i = if i < 16 then wd b i else spS (spK b i) i
  | 0, h => by omega
  | n + 1, h => by
    show upd (spK b n) n (if n < 16 then wd b n else spS (spK b n) n) i = _
    by_cases e : i = n
    · rw [e]; exact if_pos rfl
    · exact (if_neg e).trans (spK_keep b n (by omega))
theorem spK_same (b : Nat → Nat) {i n m : Nat} (h : i < n) (h' : i < m) : spK b n i = spK b m i := by rw [spK_keep b n h, spK_keep b m h']
theorem spS_same (b : Nat → Nat) {t n : Nat} (h : 16 ≤ t) (hn : t ≤ n) : spS (spK b n) t = spS (spK b t) t := by
  unfold spS
  rw [spK_same b (n := n) (m := t) (i := t - 2) (by omega) (by omega), spK_same b (n := n) (m := t) (i := t - 7) (by omega) (by omega), spK_same b (n := n) (m := t) (i := t - 15) (by omega) (by omega), spK_same b (n := n) (m := t) (i := t - 16) (by omega) (by omega)]
theorem spK_lo (b : Nat → Nat) {t : Nat} (h : t < 16) : spK b 64 t = wd b t := (spK_keep b 64 (by omega)).trans (if_pos h)
theorem spK_hi (b : Nat → Nat) {t : Nat} (h : 16 ≤ t) (h2 : t < 64) : spK b 64 t = spS (spK b 64) t := by
  rw [spK_keep b 64 h2, if_neg (by omega), spS_same b h (show t ≤ 64 by omega)]
theorem kN_lt (t : Nat) : kN t < 4294967296 := by
  unfold kN
  rcases Nat.lt_or_ge t 64 with h | h
  · have : ∀ t, t < 64 → kTab.getD t 0 < 4294967296 := by decide
    exact this t h
  · rw [List.getD_eq_getElem?_getD, List.getElem?_eq_none (by simpa [kTab] using h)]; decide
theorem hN_lt (t : Nat) : hN t < 4294967296 := by
  unfold hN
  rcases Nat.lt_or_ge t 8 with h | h
  · have : ∀ t, t < 8 → hTab.getD t 0 < 4294967296 := by decide
    exact this t h
  · rw [List.getD_eq_getElem?_getD, List.getElem?_eq_none (by simpa [hTab] using h)]; decide
theorem rdS_lt {v : Nat → Nat} {k w : Nat} (hv : ∀ j, j < 8 → v j < 4294967296) : ∀ j, j < 8 → rdS v k w j < 4294967296 := fun j hj => by
  unfold rdS
  split
  · exact Nat.mod_lt _ (by decide)
  · split
    · exact Nat.mod_lt _ (by decide)
    · exact hv _ (by omega)
theorem rdK_lt {H W : Nat → Nat} (hH : ∀ j, j < 8 → H j < 4294967296) : ∀ n j, j < 8 → rdK H W n j < 4294967296
  | 0, j, hj => hH j hj
  | n + 1, j, hj => rdS_lt (rdK_lt hH n) j hj
theorem mixN_lt (H b : Nat → Nat) (j : Nat) : mixN H b j < 4294967296 := Nat.mod_lt _ (by decide)
theorem chK_lt (F : Nat → Nat) : ∀ n j, chK F n j < 4294967296
  | 0, j => hN_lt j
  | n + 1, j => mixN_lt _ _ j
theorem spK_congr {b c : Nat → Nat} (h : ∀ i, i < 64 → b i = c i) : ∀ n, spK b n = spK c n
  | 0 => rfl
  | n + 1 => by
    show upd (spK b n) n (if n < 16 then wd b n else spS (spK b n) n) = upd (spK c n) n (if n < 16 then wd c n else spS (spK c n) n)
    rw [spK_congr h n]
    by_cases e : n < 16
    · rw [if_pos e, if_pos e]
      unfold wd
      rw [h (4 * n) (by omega), h (4 * n + 1) (by omega), h (4 * n + 2) (by omega), h (4 * n + 3) (by omega)]
    · rw [if_neg e, if_neg e]
theorem mixN_congr {H b c : Nat → Nat} (h : ∀ i, i < 64 → b i = c i) : mixN H b = mixN H c := by
  unfold mixN; rw [spK_congr h 64]
theorem chK_congr {F G : Nat → Nat} : ∀ n, (∀ i, i < 64 * n → F i = G i) → chK F n = chK G n
  | 0, _ => rfl
  | n + 1, h => by
    show mixN (chK F n) _ = mixN (chK G n) _
    rw [chK_congr n (fun i hi => h i (by omega))]
    exact mixN_congr fun i hi => h _ (by omega)
theorem shaN_lt (n : Nat) (F : Nat → Nat) (j : Nat) : shaN n F j < 256 := numB_lt _ _ _
end Go.Proofs.YtncfocjmdecapaaGreatDoor
namespace Go.Proofs.YtncfocjmdecapaaGreatDoor
set_option linter.unusedVariables false
set_option linter.unusedSimpArgs false
open Go.RowKit
/-- A row of words' cells. -/
def rowW (n : Nat) (f : Nat → Nat) : List Value := (List.range n).map fun i => Value.int .u32 (f i : Nat)
theorem rowW_len (n : Nat) (f : Nat → Nat) : (rowW n f).length = n := by simp [rowW]
theorem rowW_get {n : Nat} (f : Nat → Nat) {i : Nat} (h : i < n) : (rowW n f)[i]? = some (.int .u32 (f i : Nat)) := by
  unfold rowW; rw [List.getElem?_map, List.getElem?_range h]; rfl
theorem rowW_set (n : Nat) (f : Nat → Nat) (k x : Nat) : (rowW n f).set k (.int .u32 (x : Nat)) = rowW n (upd f k x) := by
  refine List.ext_getElem? fun i => ?_
  by_cases hi : i < n
  · rw [rowW_get _ hi]
    by_cases e : i = k
    · subst e; rw [List.getElem?_set_self (by rw [rowW_len]; exact hi)]; simp [upd]
    · rw [List.getElem?_set_ne (Ne.symm e), rowW_get _ hi]; simp [upd, e]
  · rw [List.getElem?_eq_none (by rw [List.length_set, rowW_len]; omega), List.getElem?_eq_none (by rw [rowW_len]; omega)]
theorem rowW_congr {n : Nat} {f g : Nat → Nat} (h : ∀ i, i < n → f i = g i) : rowW n f = rowW n g := by
  unfold rowW; exact List.map_congr_left fun i hi => by rw [h i (List.mem_range.1 hi)]
theorem rowW_one (n : Nat) (f : Nat → Nat) : ∀ v ∈ rowW n f, v.oneCell' = true := by
  intro v hv; unfold rowW at hv; obtain ⟨i, _, rfl⟩ := List.mem_map.1 hv; rfl
theorem rowW_size (n : Nat) (f : Nat → Nat) : (rowW n f).toArray.size = n := by rw [List.size_toArray, rowW_len]
theorem rowC_size (n : Nat) (f : Nat → Nat) : (rowC n f).toArray.size = n := by rw [List.size_toArray, rowC_len]
/-- Words in a block of their own, as a fact on a world. -/
def WB (t : TypeId) (n g : Nat) (f : Nat → Nat) (w : World) : Prop := Blk w g (rowW n f).toArray t
theorem WB.cell {t : TypeId} {n g : Nat} {f : Nat → Nat} {w : World} (h : WB t n g f w) {i : Nat} (hi : i < n) : w.cell? ⟨g, i, none⟩ = some (.int .u32 (f i : Nat)) := by
  rw [Blk.cell h i]; simpa using rowW_get f hi
theorem WB.val {t : TypeId} {n g : Nat} {f : Nat → Nat} {w : World} (h : WB t n g f w) {i x : Nat} (hi : i < n) (hx : f i = x) : w.cell? ⟨g, i, none⟩ = some (.int .u32 (x : Nat)) := by rw [← hx]; exact h.cell hi
theorem WB.set {t : TypeId} {n g : Nat} {f : Nat → Nat} {w : World} (h : WB t n g f w) (k x : Nat) : WB t n g (upd f k x) (w.setCell ⟨g, k, none⟩ (.int .u32 (x : Nat))) := by
  have := Blk.set h k (.int .u32 (x : Nat))
  rw [List.setIfInBounds_toArray, rowW_set] at this; exact this
theorem WB.congr {t : TypeId} {n g : Nat} {f f' : Nat → Nat} {w : World} (h : WB t n g f w) (he : ∀ i, i < n → f i = f' i) : WB t n g f' w := by
  unfold WB at h ⊢; rw [← rowW_congr he]; exact h
theorem WB.free {t : TypeId} {n g : Nat} {f : Nat → Nat} {w : World} (h : WB t n g f w) (k : Nat) : w.frozen? ⟨g, k, none⟩ = false := Blk.free h k
/-- Bytes in a block of their own. -/
def RB (t : TypeId) (n g : Nat) (f : Nat → Nat) (w : World) : Prop := Blk w g (rowC n f).toArray t
theorem RB.cell {t : TypeId} {n g : Nat} {f : Nat → Nat} {w : World} (h : RB t n g f w) {i : Nat} (hi : i < n) : w.cell? ⟨g, i, none⟩ = some (.int .u8 (f i : Nat)) := by
  rw [Blk.cell h i]; simpa using rowC_get f hi
theorem RB.val {t : TypeId} {n g : Nat} {f : Nat → Nat} {w : World} (h : RB t n g f w) {i x : Nat} (hi : i < n) (hx : f i = x) : w.cell? ⟨g, i, none⟩ = some (.int .u8 (x : Nat)) := by rw [← hx]; exact h.cell hi
theorem RB.set {t : TypeId} {n g : Nat} {f : Nat → Nat} {w : World} (h : RB t n g f w) (k x : Nat) : RB t n g (upd f k x) (w.setCell ⟨g, k, none⟩ (.int .u8 (x : Nat))) := by
  have := Blk.set h k (.int .u8 (x : Nat))
  rw [List.setIfInBounds_toArray, rowC_set] at this; exact this
theorem RB.congr {t : TypeId} {n g : Nat} {f f' : Nat → Nat} {w : World} (h : RB t n g f w) (he : ∀ i, i < n → f i = f' i) : RB t n g f' w := by
  unfold RB at h ⊢; rw [← rowC_congr he]; exact h
theorem RB.free {t : TypeId} {n g : Nat} {f : Nat → Nat} {w : World} (h : RB t n g f w) (k : Nat) : w.frozen? ⟨g, k, none⟩ = false := Blk.free h k

/-- A hash's cells. -/
def hshC (H R : Nat → Nat) (k n : Nat) : List Value := rowW 8 H ++ (rowC 64 R ++ [.int .i64 (k : Nat), .int .u64 (n : Nat)])
theorem hshC_len (H R : Nat → Nat) (k n : Nat) : (hshC H R k n).length = 74 := by
  unfold hshC; rw [List.length_append, List.length_append, rowW_len, rowC_len]; rfl
theorem hshC_size (H R : Nat → Nat) (k n : Nat) : (hshC H R k n).toArray.size = 74 := by rw [List.size_toArray, hshC_len]
theorem hshC_w (H R : Nat → Nat) (k n : Nat) {i : Nat} (h : i < 8) : (hshC H R k n)[i]? = some (.int .u32 (H i : Nat)) := by
  unfold hshC; rw [List.getElem?_append_left (by rw [rowW_len]; exact h)]; exact rowW_get H h
theorem hshC_r (H R : Nat → Nat) (k n : Nat) {i : Nat} (h : i < 64) : (hshC H R k n)[8 + i]? = some (.int .u8 (R i : Nat)) := by
  unfold hshC
  rw [List.getElem?_append_right (by rw [rowW_len]; omega), rowW_len, show 8 + i - 8 = i by omega, List.getElem?_append_left (by rw [rowC_len]; exact h)]; exact rowC_get R h
theorem hshC_k (H R : Nat → Nat) (k n : Nat) : (hshC H R k n)[72]? = some (.int .i64 (k : Nat)) := by
  unfold hshC
  rw [List.getElem?_append_right (by rw [rowW_len]; omega), rowW_len, List.getElem?_append_right (by rw [rowC_len]; omega), rowC_len]; rfl
theorem hshC_n (H R : Nat → Nat) (k n : Nat) : (hshC H R k n)[73]? = some (.int .u64 (n : Nat)) := by
  unfold hshC
  rw [List.getElem?_append_right (by rw [rowW_len]; omega), rowW_len, List.getElem?_append_right (by rw [rowC_len]; omega), rowC_len]; rfl
/-- Cells that are a hash's, one by one. -/
theorem hshC_ext {L : List Value} {H R : Nat → Nat} {k n : Nat} (hl : L.length = 74) (hw : ∀ i, i < 8 → L[i]? = some (.int .u32 (H i : Nat))) (hr : ∀ i, i < 64 → L[8 + i]? = some (.int .u8 (R i : Nat))) (hk : L[72]? = some (.int .i64 (k : Nat))) (hn : L[73]? = some (.int .u64 (n : Nat))) : L = hshC H R k n := by
  refine List.ext_getElem? fun i => ?_
  rcases Nat.lt_or_ge i 8 with h | h
  · rw [hw i h, hshC_w _ _ _ _ h]
  · rcases Nat.lt_or_ge i 72 with h2 | h2
    · obtain ⟨j, rfl⟩ : ∃ j, i = 8 + j := ⟨i - 8, by omega⟩
      rw [hr j (by omega), hshC_r _ _ _ _ (by omega)]
    · rcases Nat.lt_or_ge i 74 with h3 | h3
      · rcases (by omega : i = 72 ∨ i = 73) with rfl | rfl
        · rw [hk, hshC_k]
        · rw [hn, hshC_n]
      · rw [List.getElem?_eq_none (by omega), List.getElem?_eq_none (by rw [hshC_len]; omega)]
theorem splice_get {L cs : List Value} {off : Nat} (h : off + cs.length ≤ L.length) (i : Nat) : (splice L off cs)[i]? = if i < off then L[i]? else if i < off + cs.length then cs[i - off]? else L[i]? := by
  unfold splice
  by_cases h1 : i < off
  · rw [if_pos h1, List.getElem?_append_left (by rw [List.length_take]; omega), List.getElem?_take_of_lt h1]
  · rw [if_neg h1, List.getElem?_append_right (by rw [List.length_take]; omega), List.length_take, Nat.min_eq_left (by omega)]
    by_cases h2 : i < off + cs.length
    · rw [if_pos h2, List.getElem?_append_left (by omega)]
    · rw [if_neg h2, List.getElem?_append_right (by omega), List.getElem?_drop, show off + cs.length + (i - off - cs.length) = i by omega]
/-- Words stored over a hash's. -/
theorem hshC_words (H R H' : Nat → Nat) (k n : Nat) : splice (hshC H R k n) 0 (rowW 8 H') = hshC H' R k n := by
  have hf : 0 + (rowW 8 H').length ≤ (hshC H R k n).length := by rw [rowW_len, hshC_len]; omega
  refine hshC_ext (by rw [length_splice _ _ _ hf, hshC_len]) (fun i hi => ?_) (fun i hi => ?_) ?_ ?_
  · rw [splice_get hf, if_neg (by omega), rowW_len, if_pos (by omega), Nat.sub_zero]; exact rowW_get H' hi
  · rw [splice_get hf, if_neg (by omega), rowW_len, if_neg (by omega)]; exact hshC_r _ _ _ _ hi
  · rw [splice_get hf, if_neg (by omega), rowW_len, if_neg (by omega)]; exact hshC_k _ _ _ _
  · rw [splice_get hf, if_neg (by omega), rowW_len, if_neg (by omega)]; exact hshC_n _ _ _ _
/-- Bytes copied into a hash's. -/
def cpy (R G : Nat → Nat) (k c : Nat) : Nat → Nat := fun i => if k ≤ i ∧ i < k + c then G (i - k) else R i
theorem hshC_copy (H R G : Nat → Nat) (k n o c : Nat) (hc : o + c ≤ 64) : splice (hshC H R k n) (8 + o) (rowC c G) = hshC H (cpy R G o c) k n := by
  have hf : 8 + o + (rowC c G).length ≤ (hshC H R k n).length := by rw [rowC_len, hshC_len]; omega
  refine hshC_ext (by rw [length_splice _ _ _ hf, hshC_len]) (fun i hi => ?_) (fun i hi => ?_) ?_ ?_
  · rw [splice_get hf, if_pos (by omega)]; exact hshC_w _ _ _ _ hi
  · rw [splice_get hf, rowC_len]
    unfold cpy
    by_cases h1 : 8 + i < 8 + o
    · rw [if_pos h1, if_neg (by omega)]; exact hshC_r _ _ _ _ hi
    · rw [if_neg h1]
      by_cases h2 : 8 + i < 8 + o + c
      · rw [if_pos h2, if_pos (by omega), show 8 + i - (8 + o) = i - o by omega]; exact rowC_get G (by omega)
      · rw [if_neg h2, if_neg (by omega)]; exact hshC_r _ _ _ _ hi
  · rw [splice_get hf, if_neg (by omega), rowC_len, if_neg (by omega)]; exact hshC_k _ _ _ _
  · rw [splice_get hf, if_neg (by omega), rowC_len, if_neg (by omega)]; exact hshC_n _ _ _ _
theorem hshC_setk (H R : Nat → Nat) (k k' n : Nat) : (hshC H R k n).set 72 (.int .i64 (k' : Nat)) = hshC H R k' n := by
  refine hshC_ext (by rw [List.length_set, hshC_len]) (fun i hi => ?_) (fun i hi => ?_) ?_ ?_
  · rw [List.getElem?_set_ne (by omega)]; exact hshC_w _ _ _ _ hi
  · rw [List.getElem?_set_ne (by omega)]; exact hshC_r _ _ _ _ hi
  · rw [List.getElem?_set_self (by rw [hshC_len]; omega)]
  · rw [List.getElem?_set_ne (by omega)]; exact hshC_n _ _ _ _
theorem hshC_setn (H R : Nat → Nat) (k n n' : Nat) : (hshC H R k n).set 73 (.int .u64 (n' : Nat)) = hshC H R k n' := by
  refine hshC_ext (by rw [List.length_set, hshC_len]) (fun i hi => ?_) (fun i hi => ?_) ?_ ?_
  · rw [List.getElem?_set_ne (by omega)]; exact hshC_w _ _ _ _ hi
  · rw [List.getElem?_set_ne (by omega)]; exact hshC_r _ _ _ _ hi
  · rw [List.getElem?_set_ne (by omega)]; exact hshC_k _ _ _ _
  · rw [List.getElem?_set_self (by rw [hshC_len]; omega)]
theorem hshC_one (H R : Nat → Nat) (k n : Nat) : ∀ v ∈ hshC H R k n, v.oneCell' = true := by
  intro v hv
  unfold hshC at hv
  rcases List.mem_append.1 hv with h | h
  · exact rowW_one _ _ v h
  · rcases List.mem_append.1 h with h | h
    · exact rowC_one _ _ v h
    · simp only [List.mem_cons, List.not_mem_nil, or_false] at h
      rcases h with rfl | rfl <;> rfl
/-- A hash in memory. -/
def HB (w : World) (g : Nat) (H R : Nat → Nat) (k n : Nat) : Prop := Blk w g (hshC H R k n).toArray 162
theorem HB.word {w : World} {g : Nat} {H R : Nat → Nat} {k n : Nat} (h : HB w g H R k n) {i : Nat} (hi : i < 8) : w.cell? ⟨g, i, none⟩ = some (.int .u32 (H i : Nat)) := by
  rw [Blk.cell h i]; simpa using hshC_w H R k n hi
theorem HB.byte {w : World} {g : Nat} {H R : Nat → Nat} {k n : Nat} (h : HB w g H R k n) {i : Nat} (hi : i < 64) : w.cell? ⟨g, 8 + i, none⟩ = some (.int .u8 (R i : Nat)) := by
  rw [Blk.cell h (8 + i)]; simpa using hshC_r H R k n hi
theorem HB.held {w : World} {g : Nat} {H R : Nat → Nat} {k n : Nat} (h : HB w g H R k n) : w.cell? ⟨g, 72, none⟩ = some (.int .i64 (k : Nat)) := by
  rw [Blk.cell h 72]; simpa using hshC_k H R k n
theorem HB.all {w : World} {g : Nat} {H R : Nat → Nat} {k n : Nat} (h : HB w g H R k n) : w.cell? ⟨g, 73, none⟩ = some (.int .u64 (n : Nat)) := by
  rw [Blk.cell h 73]; simpa using hshC_n H R k n
theorem HB.setk {w : World} {g : Nat} {H R : Nat → Nat} {k n : Nat} (h : HB w g H R k n) (k' : Nat) : HB (w.setCell ⟨g, 72, none⟩ (.int .i64 (k' : Nat))) g H R k' n := by
  have := Blk.set h 72 (.int .i64 (k' : Nat))
  rw [List.setIfInBounds_toArray, hshC_setk] at this; exact this
theorem HB.setn {w : World} {g : Nat} {H R : Nat → Nat} {k n : Nat} (h : HB w g H R k n) (n' : Nat) : HB (w.setCell ⟨g, 73, none⟩ (.int .u64 (n' : Nat))) g H R k n' := by
  have := Blk.set h 73 (.int .u64 (n' : Nat))
  rw [List.setIfInBounds_toArray, hshC_setn] at this; exact this
/-- Cells stored into the middle of a block. -/
theorem Blk.setMid {w : World} {b : Nat} {D : List Value} {t : TypeId} (h : Blk w b D.toArray t) (o : Nat) (vs : List Value) (hs : o + vs.length ≤ D.length) : Blk (w.setCells b o vs) b (splice D o vs).toArray t := by
  obtain ⟨D', h1, h2⟩ := Blk.setCells_any vs o w _ h
  have e : D' = (splice D o vs).toArray := by
    refine Array.ext (by rw [h2, List.size_toArray, List.size_toArray, length_splice _ _ _ hs]) fun j hj hj2 => ?_
    have hc1 : (w.setCells b o vs).cell? ⟨b, j, none⟩ = some D'[j] := by rw [Blk.cell h1, Array.getElem?_eq_getElem hj]
    have hjl : j < D.length := by rw [h2, List.size_toArray] at hj; exact hj
    have hD : ∀ i, i < D.length → w.cell? ⟨b, i, none⟩ = D[i]? := fun i hi => by rw [Blk.cell h i]; simp
    have hg : (splice D o vs)[j]? = some (splice D o vs).toArray[j] := by
      rw [List.getElem?_eq_getElem (by simpa using hj2)]; simp
    rw [splice_get hs] at hg
    by_cases h3 : o ≤ j ∧ j < o + vs.length
    · rw [if_neg (by omega), if_pos h3.2] at hg
      have hi := World.cell?_setCells_in b vs o w (fun i hi => by rw [hD _ (by omega), List.getElem?_eq_getElem (by omega)]; rfl) (j - o) (by omega)
      rw [show o + (j - o) = j by omega] at hi
      rw [hc1] at hi
      rw [← List.getElem?_eq_getElem (by omega)] at hi
      rw [hg] at hi
      exact Option.some.inj hi
    · have ho := World.cell?_setCells_out b vs o w ⟨b, j, none⟩ (by simp; omega)
      rw [hc1, hD j hjl] at ho
      have : D[j]? = some (splice D o vs).toArray[j] := by
        by_cases h4 : j < o
        · rw [if_pos h4] at hg; exact hg
        · rw [if_neg h4, if_neg (by omega)] at hg; exact hg
      rw [this] at ho
      exact Option.some.inj ho
  rw [← e]; exact h1
theorem HB.words {w : World} {g : Nat} {H R : Nat → Nat} {k n : Nat} (h : HB w g H R k n) (H' : Nat → Nat) : HB (w.setCells g 0 (rowW 8 H').toArray.toList) g H' R k n := by
  have := Blk.setMid h 0 (rowW 8 H') (by rw [rowW_len, hshC_len]; omega)
  rw [hshC_words] at this; exact this
/-- What the package's variables hold. -/
def GV (w : World) : Prop := (∀ i, i < 8 → w.cell? ⟨1, i, none⟩ = some (.int .u32 (hN i : Nat))) ∧ (∀ i, i < 64 → w.cell? ⟨2, i, none⟩ = some (.int .u32 (kN i : Nat)))
theorem GV.later {w w' : World} (h : GV w) (hb : Below w.heap.size w w') : GV w' := ⟨fun i hi => cell_below hb (h.1 i hi), fun i hi => cell_below hb (h.2 i hi)⟩
theorem GV.lt {w : World} (h : GV w) : 1 < w.heap.size ∧ 2 < w.heap.size := by
  constructor
  · rcases Nat.lt_or_ge 1 w.heap.size with h' | h'
    · exact h'
    · have := h.1 0 (by decide); simp [World.cell?, Array.getElem?_eq_none h'] at this
  · rcases Nat.lt_or_ge 2 w.heap.size with h' | h'
    · exact h'
    · have := h.2 0 (by decide); simp [World.cell?, Array.getElem?_eq_none h'] at this
theorem GV.own {w w' : World} {b : Nat} (h : GV w) (hO : Own b w w') (h0 : b ≠ 1) (h1 : b ≠ 2) : GV w' :=
  ⟨fun i hi => hO.cell (h.1 i hi) (fun e => h0 e.symm), fun i hi => hO.cell (h.2 i hi) (fun e => h1 e.symm)⟩
theorem GV.drew {w : World} (h : GV w) : GV w.drew := h.later (Below.refl _ w).drew

/-- One operation that tells a value, at a plain region's list and at a still one. -/
theorem wpList_value {ops : Array Oper} {rest : List Oper} {o : Oper} {a : Act} {w : World} {Q : Exit → Act → World → Prop} {v : Value} (hgd : o.guard = none) (he : (execOp a.eval o).run Tryz.prog w = .ok (.value v) w)
    (hk : wpList Tryz.prog ops Q rest (a.put o.dst v) w) : wpList Tryz.prog ops Q (o :: rest) a w := by
  refine wpList_plain hgd fun K hK => ?_
  unfold Oper.wp
  rw [he]
  exact hK _ _ hk
theorem still_lit {id : Nat} {Q : Exit → Act → World → Prop} {a : Act} {w : World} {l : List Oper} (hm : Tryz.prog.follows .mixedOrders = true) (hB : Region.lexB .any l.toArray = true)
    (h : wpStill Tryz.prog l.toArray w.drew (fun a' => Q .normal a' w.drew) l a) : (Code.region id l.toArray true).wp Tryz.prog Q a w := wp_region_still_lit hm hB h
theorem still_tail {id : Nat} {Q : Exit → Act → World → Prop} {a : Act} {w : World} {l : List Oper} (n : Nat) (hm : Tryz.prog.follows .mixedOrders = true) (hB : Region.lexTailB .any l.toArray n = true)
    (h : wpStill Tryz.prog l.toArray w.drew (fun a' => wpList Tryz.prog l.toArray Q (l.drop n) a' w.drew) (l.take n) a) : (Code.region id l.toArray true).wp Tryz.prog Q a w := wp_region_still_tail n hm hB h
theorem step_storeM {ops : Array Oper} {o : Oper} {a : Act} {w : World} {K : Act → World → Prop} {Q : Exit → Act → World → Prop} {E : Prop} (hgd : o.guard = none) (ty : TypeId) (x y : Operand) (ho : o.op = .store ty x y) (b off : Nat) (cells : Array Value) (hx : a.eval x = .pointer (some ⟨b, off, none⟩)) (hy : a.eval y = .agg cells)
    (ht : w.there b off cells.size) (hi : (Tryz.prog.info? ty).map (·.size) = some cells.size) (h1 : cells.all (·.oneCell') = true) (h : K (a.put o.dst undef) (w.setCells b off cells.toList)) : if Region.wanted o (yielded ops a.tmps) = true then Oper.wp Tryz.prog o a w K Q else E := by
  have hw : Region.wanted o (yielded ops a.tmps) = true := by simp [Region.wanted, hgd]
  rw [if_pos hw]
  exact wp_store_mid ty x y ho b off cells hx hy ht hi h1 h
theorem step_loadM {ops : Array Oper} {o : Oper} {a : Act} {w : World} {K : Act → World → Prop} {Q : Exit → Act → World → Prop} {E : Prop} (hgd : o.guard = none) (ty : TypeId) (x : Operand) (ho : o.op = .load ty x) (b off : Nat) (hx : a.eval x = .pointer (some ⟨b, off, none⟩)) (cs : List Value) (d : TypeDesc) (hc : w.rangeAt b off cs)
    (hu : Tryz.prog.underlying ty = some d) (hd : d.isRow = true) (hi : (Tryz.prog.info? ty).map (·.size) = some cs.length) (h : K (a.put o.dst (.agg cs.toArray)) w) : if Region.wanted o (yielded ops a.tmps) = true then Oper.wp Tryz.prog o a w K Q else E := by
  have hw : Region.wanted o (yielded ops a.tmps) = true := by simp [Region.wanted, hgd]
  rw [if_pos hw]
  exact wp_load_mid ty x ho b off hx cs d hc hu hd hi h
theorem there_mid {w : World} {g : Nat} {D : List Value} {t : TypeId} (h : Blk w g D.toArray t) {o n : Nat} (hn : o + n ≤ D.length) : w.there g o n := fun j hj => by
  rw [Blk.cell h, Blk.free h]
  refine ⟨?_, rfl⟩
  rw [Array.getElem?_eq_getElem (by rw [List.size_toArray]; omega)]; rfl
theorem HB.rangeW {w : World} {g : Nat} {H R : Nat → Nat} {k n : Nat} (h : HB w g H R k n) : w.rangeAt g 0 (rowW 8 H) := fun j v hv => by
  have hj : j < 8 := by have := (List.getElem?_eq_some_iff.1 hv).1; rw [rowW_len] at this; exact this
  rw [rowW_get H hj] at hv
  rw [Nat.zero_add, h.word hj]; exact hv
theorem HB.rangeR {w : World} {g : Nat} {H R : Nat → Nat} {k n : Nat} (h : HB w g H R k n) : w.rangeAt g 8 (rowC 64 R) := fun j v hv => by
  have hj : j < 64 := by have := (List.getElem?_eq_some_iff.1 hv).1; rw [rowC_len] at this; exact this
  rw [rowC_get R hj] at hv
  rw [h.byte hj]; exact hv
end Go.Proofs.YtncfocjmdecapaaGreatDoor
namespace Go.Proofs.YtncfocjmdecapaaGreatDoor
set_option linter.unusedVariables false
set_option linter.unusedSimpArgs false
theorem wrs {c r k : Nat} (h : c + r = k) (hk : k < 1000) : IntKind.i64.wrap ((c : Int) + (r : Int)) = (k : Int) := by rw [IntWalk.i64_in _ (by omega)]; omega
theorem wrn {a b k : Nat} {m : Int} (hm : m = (b : Int)) (h : b * a = k) (hk : k < 1000) : IntKind.i64.wrap (m * (a : Int)) = (k : Int) := by
  subst hm
  have e : (b : Int) * (a : Int) = (k : Int) := by rw [← h]; exact (Int.natCast_mul b a).symm
  rw [e]; exact IntWalk.i64_in _ (by omega)
theorem wrk {i k n : Nat} {m : Int} (hm : m = (n : Int)) (h : i + n = k) (hk : k < 1000) : IntKind.i64.wrap ((i : Int) + m) = (k : Int) := by subst hm; rw [IntWalk.i64_in _ (by omega)]; omega
theorem wrb {i k n : Nat} {m : Int} (hm : m = (n : Int)) (h : i = k + n) (hk : i < 1000) : IntKind.i64.wrap ((i : Int) - m) = (k : Int) := by subst hm; rw [IntWalk.i64_in _ (by omega)]; omega
theorem u32m (a b : Int) {c d e : Nat} (ha : a = (c : Int)) (hb : b = (d : Int)) (h : (c + d) % 4294967296 = e) : IntKind.u32.wrap (a + b) = (e : Int) := by
  subst ha hb; rw [← h]; simp [IntKind.wrap, IntKind.bits, IntKind.signed]
end Go.Proofs.YtncfocjmdecapaaGreatDoor
