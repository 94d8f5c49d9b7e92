/- Sums of 32 bytes in plain mathematics. Words in memory; a hash in memory. Words turned; a block's words. A block's words, made. A block, mixed in. -/
import Derived.Test.YtmabhjifldafaaaDoorStp
import Derived.Test.YtmabhjifldafaaaDoorRow
import Derived.Test.YtmabhjifldafaaaDoorSetC
import Derived.Lib.Hide
import Derived.IntWalk
import Derived.RegionTactic
import Derived.Laws.BitsLemmas
import Derived.Laws.BitsAllLaws
import Derived.Outline
import Derived.ChangeKeysEq
import Derived.Laws.StructEq
import Derived.Laws.CopyOwn
import Derived.Deep.RegionHeld3
import Derived.Deep.DeepCutAuto
import Derived.StillTailTactics
import Derived.Test.YtmabhjifldafaaaDoorNm
namespace Go.Proofs.YtmabhjifldafaaaDoor
set_option linter.unusedVariables false
set_option linter.unusedSimpArgs false
open Go.RowKit

def rorN (n x : Nat) : Nat := (x * 2 ^ (32 - n) % 4294967296) ||| (x / 2 ^ n)
def sg0 (x : Nat) : Nat := rorN 7 x ^^^ rorN 18 x ^^^ (x / 8)
def sg1 (x : Nat) : Nat := rorN 17 x ^^^ rorN 19 x ^^^ (x / 1024)
def bg0 (x : Nat) : Nat := rorN 2 x ^^^ rorN 13 x ^^^ rorN 22 x
def bg1 (x : Nat) : Nat := rorN 6 x ^^^ rorN 11 x ^^^ rorN 25 x
def chN (e f g : Nat) : Nat := (e &&& f) ^^^ ((4294967295 - e) &&& g)
def mjN (a b c : Nat) : Nat := (a &&& b) ^^^ (a &&& c) ^^^ (b &&& c)
def wd (b : Nat → Nat) (t : Nat) : Nat := b (4 * t) * 16777216 + b (4 * t + 1) * 65536 + b (4 * t + 2) * 256 + b (4 * t + 3)
def spS (w : Nat → Nat) (t : Nat) : Nat := (sg1 (w (t - 2)) + w (t - 7) + sg0 (w (t - 15)) + w (t - 16)) % 4294967296
/-- A block's words. -/
def spK (b : Nat → Nat) : Nat → Nat → Nat
  | 0 => fun _ => 0
  | n + 1 => upd (spK b n) n (if n < 16 then wd b n else spS (spK b n) n)
def kTab : List Nat := [0x428a2f98, 0x71374491, 0xb5c0fbcf, 0xe9b5dba5, 0x3956c25b, 0x59f111f1, 0x923f82a4, 0xab1c5ed5,
  0xd807aa98, 0x12835b01, 0x243185be, 0x550c7dc3, 0x72be5d74, 0x80deb1fe, 0x9bdc06a7, 0xc19bf174,
  0xe49b69c1, 0xefbe4786, 0x0fc19dc6, 0x240ca1cc, 0x2de92c6f, 0x4a7484aa, 0x5cb0a9dc, 0x76f988da,
  0x983e5152, 0xa831c66d, 0xb00327c8, 0xbf597fc7, 0xc6e00bf3, 0xd5a79147, 0x06ca6351, 0x14292967,
  0x27b70a85, 0x2e1b2138, 0x4d2c6dfc, 0x53380d13, 0x650a7354, 0x766a0abb, 0x81c2c92e, 0x92722c85,
  0xa2bfe8a1, 0xa81a664b, 0xc24b8b70, 0xc76c51a3, 0xd192e819, 0xd6990624, 0xf40e3585, 0x106aa070,
  0x19a4c116, 0x1e376c08, 0x2748774c, 0x34b0bcb5, 0x391c0cb3, 0x4ed8aa4a, 0x5b9cca4f, 0x682e6ff3,
  0x748f82ee, 0x78a5636f, 0x84c87814, 0x8cc70208, 0x90befffa, 0xa4506ceb, 0xbef9a3f7, 0xc67178f2]
def kN (t : Nat) : Nat := kTab.getD t 0
def hTab : List Nat := [0x6a09e667, 0xbb67ae85, 0x3c6ef372, 0xa54ff53a, 0x510e527f, 0x9b05688c, 0x1f83d9ab, 0x5be0cd19]
def hN (t : Nat) : Nat := hTab.getD t 0
def t1N (v : Nat → Nat) (k w : Nat) : Nat := (v 7 + bg1 (v 4) + chN (v 4) (v 5) (v 6) + k + w) % 4294967296
def t2N (v : Nat → Nat) : Nat := (bg0 (v 0) + mjN (v 0) (v 1) (v 2)) % 4294967296
def rdS (v : Nat → Nat) (k w : Nat) : Nat → Nat := fun j => if j = 0 then (t1N v k w + t2N v) % 4294967296 else if j = 4 then (v 3 + t1N v k w) % 4294967296 else v (j - 1)
/-- Eight words behind some rounds. -/
def rdK (H W : Nat → Nat) : Nat → Nat → Nat
  | 0 => H
  | n + 1 => rdS (rdK H W n) (kN n) (W n)
def mixN (H b : Nat → Nat) : Nat → Nat := fun j => (rdK H (spK b 64) 64 j + H j) % 4294967296
/-- Behind some blocks. -/
def chK (F : Nat → Nat) : Nat → Nat → Nat
  | 0 => hN
  | n + 1 => mixN (chK F n) (fun i => F (64 * n + i))
/-- How many blocks there are; what is written behind n bytes. -/
def blkN (n : Nat) : Nat := (n + 8) / 64 + 1
def padN (n : Nat) (F : Nat → Nat) : Nat → Nat := fun i => if i < n then F i else if i = n then 128 else if i < 64 * blkN n - 8 then 0 else numB (8 * n) 8 (i - (64 * blkN n - 8))
/-- The sum. -/
def shaN (n : Nat) (F : Nat → Nat) : Nat → Nat := fun j => numB (chK (padN n F) (blkN n) (j / 4)) 4 (j % 4)

theorem or32 {a b : Nat} (ha : a < 4294967296) (hb : b < 4294967296) : a ||| b < 4294967296 := Nat.or_lt_two_pow (n := 32) ha hb
theorem xor32 {a b : Nat} (ha : a < 4294967296) (hb : b < 4294967296) : a ^^^ b < 4294967296 := Nat.xor_lt_two_pow (n := 32) ha hb
theorem and32 {a b : Nat} (ha : a < 4294967296) : a &&& b < 4294967296 := Nat.lt_of_le_of_lt Nat.and_le_left ha
theorem rorN_lt {n x : Nat} (h : x < 4294967296) : rorN n x < 4294967296 := or32 (Nat.mod_lt _ (by decide)) (Nat.lt_of_le_of_lt (Nat.div_le_self _ _) h)
theorem sg0_lt {x : Nat} (h : x < 4294967296) : sg0 x < 4294967296 := xor32 (xor32 (rorN_lt h) (rorN_lt h)) (Nat.lt_of_le_of_lt (Nat.div_le_self _ _) h)
theorem sg1_lt {x : Nat} (h : x < 4294967296) : sg1 x < 4294967296 := xor32 (xor32 (rorN_lt h) (rorN_lt h)) (Nat.lt_of_le_of_lt (Nat.div_le_self _ _) h)
theorem bg0_lt {x : Nat} (h : x < 4294967296) : bg0 x < 4294967296 := xor32 (xor32 (rorN_lt h) (rorN_lt h)) (rorN_lt h)
theorem bg1_lt {x : Nat} (h : x < 4294967296) : bg1 x < 4294967296 := xor32 (xor32 (rorN_lt h) (rorN_lt h)) (rorN_lt h)
theorem wd_lt {b : Nat → Nat} {t : Nat} (h : ∀ i, i < 64 → b i < 256) (ht : t < 16) : wd b t < 4294967296 := by
  have h0 := h (4 * t) (by omega); have h1 := h (4 * t + 1) (by omega); have h2 := h (4 * t + 2) (by omega); have h3 := h (4 * t + 3) (by omega)
  unfold wd; omega
theorem spK_lt {b : Nat → Nat} (hb : ∀ i, i < 64 → b i < 256) : ∀ n t, spK b n t < 4294967296
  | 0, _ => by show 0 < _; decide
  | n + 1, t => by
    show upd (spK b n) n (if n < 16 then wd b n else spS (spK b n) n) t < _
    unfold upd
    split
    · split
      · exact wd_lt hb ‹_›
      · exact Nat.mod_lt _ (by decide)
    · exact spK_lt hb n t
theorem spK_keep (b : Nat → Nat) {i : Nat} : ∀ n, i < n → spK b n i = if i < 16 then wd b i else spS (spK b i) i
  | 0, h => by omega
  | n + 1, h => by
    show upd (spK b n) n (if n < 16 then wd b n else spS (spK b n) n) i = _
    by_cases e : i = n
    · rw [e]; exact if_pos rfl
    · exact (if_neg e).trans (spK_keep b n (by omega))
theorem spK_same (b : Nat → Nat) {i n m : Nat} (h : i < n) (h' : i < m) : spK b n i = spK b m i := by rw [spK_keep b n h, spK_keep b m h']
theorem spS_same (b : Nat → Nat) {t n : Nat} (h : 16 ≤ t) (hn : t ≤ n) : spS (spK b n) t = spS (spK b t) t := by
  unfold spS
  rw [spK_same b (n := n) (m := t) (i := t - 2) (by omega) (by omega), spK_same b (n := n) (m := t) (i := t - 7) (by omega) (by omega), spK_same b (n := n) (m := t) (i := t - 15) (by omega) (by omega), spK_same b (n := n) (m := t) (i := t - 16) (by omega) (by omega)]
theorem spK_lo (b : Nat → Nat) {t : Nat} (h : t < 16) : spK b 64 t = wd b t := (spK_keep b 64 (by omega)).trans (if_pos h)
theorem spK_hi (b : Nat → Nat) {t : Nat} (h : 16 ≤ t) (h2 : t < 64) : spK b 64 t = spS (spK b 64) t := by
  rw [spK_keep b 64 h2, if_neg (by omega), spS_same b h (show t ≤ 64 by omega)]
theorem kN_lt (t : Nat) : kN t < 4294967296 := by
  unfold kN
  rcases Nat.lt_or_ge t 64 with h | h
  · have : ∀ t, t < 64 → kTab.getD t 0 < 4294967296 := by decide
    exact this t h
  · rw [List.getD_eq_getElem?_getD, List.getElem?_eq_none (by simpa [kTab] using h)]; decide
theorem hN_lt (t : Nat) : hN t < 4294967296 := by
  unfold hN
  rcases Nat.lt_or_ge t 8 with h | h
  · have : ∀ t, t < 8 → hTab.getD t 0 < 4294967296 := by decide
    exact this t h
  · rw [List.getD_eq_getElem?_getD, List.getElem?_eq_none (by simpa [hTab] using h)]; decide
theorem t1N_lt (v : Nat → Nat) (k w : Nat) : t1N v k w < 4294967296 := Nat.mod_lt _ (by decide)
theorem t2N_lt (v : Nat → Nat) : t2N v < 4294967296 := Nat.mod_lt _ (by decide)
theorem rdS_lt {v : Nat → Nat} {k w : Nat} (hv : ∀ j, j < 8 → v j < 4294967296) : ∀ j, j < 8 → rdS v k w j < 4294967296 := fun j hj => by
  unfold rdS
  split
  · exact Nat.mod_lt _ (by decide)
  · split
    · exact Nat.mod_lt _ (by decide)
    · exact hv _ (by omega)
theorem rdK_lt {H W : Nat → Nat} (hH : ∀ j, j < 8 → H j < 4294967296) : ∀ n j, j < 8 → rdK H W n j < 4294967296
  | 0, j, hj => hH j hj
  | n + 1, j, hj => rdS_lt (rdK_lt hH n) j hj
theorem mixN_lt (H b : Nat → Nat) (j : Nat) : mixN H b j < 4294967296 := Nat.mod_lt _ (by decide)
theorem chK_lt (F : Nat → Nat) : ∀ n j, chK F n j < 4294967296
  | 0, j => hN_lt j
  | n + 1, j => mixN_lt _ _ j
theorem spK_congr {b c : Nat → Nat} (h : ∀ i, i < 64 → b i = c i) : ∀ n, spK b n = spK c n
  | 0 => rfl
  | n + 1 => by
    show upd (spK b n) n (if n < 16 then wd b n else spS (spK b n) n) = upd (spK c n) n (if n < 16 then wd c n else spS (spK c n) n)
    rw [spK_congr h n]
    by_cases e : n < 16
    · rw [if_pos e, if_pos e]
      unfold wd
      rw [h (4 * n) (by omega), h (4 * n + 1) (by omega), h (4 * n + 2) (by omega), h (4 * n + 3) (by omega)]
    · rw [if_neg e, if_neg e]
theorem mixN_congr {H b c : Nat → Nat} (h : ∀ i, i < 64 → b i = c i) : mixN H b = mixN H c := by
  unfold mixN; rw [spK_congr h 64]
theorem chK_congr {F G : Nat → Nat} : ∀ n, (∀ i, i < 64 * n → F i = G i) → chK F n = chK G n
  | 0, _ => rfl
  | n + 1, h => by
    show mixN (chK F n) _ = mixN (chK G n) _
    rw [chK_congr n (fun i hi => h i (by omega))]
    exact mixN_congr fun i hi => h _ (by omega)
theorem padN_congr {n : Nat} {F G : Nat → Nat} (h : ∀ i, i < n → F i = G i) : padN n F = padN n G := by
  funext i; unfold padN
  by_cases e : i < n
  · rw [if_pos e, if_pos e, h i e]
  · rw [if_neg e, if_neg e]
theorem shaN_congr {n : Nat} {F G : Nat → Nat} (h : ∀ i, i < n → F i = G i) : shaN n F = shaN n G := by
  unfold shaN; rw [padN_congr h]
theorem shaN_lt (n : Nat) (F : Nat → Nat) (j : Nat) : shaN n F j < 256 := numB_lt _ _ _
end Go.Proofs.YtmabhjifldafaaaDoor
namespace Go.Proofs.YtmabhjifldafaaaDoor
set_option linter.unusedVariables false
set_option linter.unusedSimpArgs false
open Go.RowKit

/-- A row of words' cells. -/
def rowW (n : Nat) (f : Nat → Nat) : List Value := (List.range n).map fun i => Value.int .u32 (f i : Nat)
theorem rowW_len (n : Nat) (f : Nat → Nat) : (rowW n f).length = n := by simp [rowW]
theorem rowW_get {n : Nat} (f : Nat → Nat) {i : Nat} (h : i < n) : (rowW n f)[i]? = some (.int .u32 (f i : Nat)) := by
  unfold rowW; rw [List.getElem?_map, List.getElem?_range h]; rfl
theorem rowW_set (n : Nat) (f : Nat → Nat) (k x : Nat) : (rowW n f).set k (.int .u32 (x : Nat)) = rowW n (upd f k x) := by
  refine List.ext_getElem? fun i => ?_
  by_cases hi : i < n
  · rw [rowW_get _ hi]
    by_cases e : i = k
    · subst e; rw [List.getElem?_set_self (by rw [rowW_len]; exact hi)]; simp [upd]
    · rw [List.getElem?_set_ne (Ne.symm e), rowW_get _ hi]; simp [upd, e]
  · rw [List.getElem?_eq_none (by rw [List.length_set, rowW_len]; omega), List.getElem?_eq_none (by rw [rowW_len]; omega)]
theorem rowW_congr {n : Nat} {f g : Nat → Nat} (h : ∀ i, i < n → f i = g i) : rowW n f = rowW n g := by
  unfold rowW; exact List.map_congr_left fun i hi => by rw [h i (List.mem_range.1 hi)]
theorem rowW_one (n : Nat) (f : Nat → Nat) : ∀ v ∈ rowW n f, v.oneCell' = true := by
  intro v hv; unfold rowW at hv; obtain ⟨i, _, rfl⟩ := List.mem_map.1 hv; rfl
theorem rowW_size (n : Nat) (f : Nat → Nat) : (rowW n f).toArray.size = n := by rw [List.size_toArray, rowW_len]
theorem rowC_size (n : Nat) (f : Nat → Nat) : (rowC n f).toArray.size = n := by rw [List.size_toArray, rowC_len]
/-- Words in a block of their own, as a fact on a world. -/
def WB (t : TypeId) (n g : Nat) (f : Nat → Nat) (w : World) : Prop := Blk w g (rowW n f).toArray t
theorem WB.cell {t : TypeId} {n g : Nat} {f : Nat → Nat} {w : World} (h : WB t n g f w) {i : Nat} (hi : i < n) : w.cell? ⟨g, i, none⟩ = some (.int .u32 (f i : Nat)) := by
  rw [Blk.cell h i]; simpa using rowW_get f hi
theorem WB.val {t : TypeId} {n g : Nat} {f : Nat → Nat} {w : World} (h : WB t n g f w) {i x : Nat} (hi : i < n) (hx : f i = x) : w.cell? ⟨g, i, none⟩ = some (.int .u32 (x : Nat)) := by rw [← hx]; exact h.cell hi
theorem WB.set {t : TypeId} {n g : Nat} {f : Nat → Nat} {w : World} (h : WB t n g f w) (k x : Nat) : WB t n g (upd f k x) (w.setCell ⟨g, k, none⟩ (.int .u32 (x : Nat))) := by
  have := Blk.set h k (.int .u32 (x : Nat))
  rw [List.setIfInBounds_toArray, rowW_set] at this; exact this
theorem WB.congr {t : TypeId} {n g : Nat} {f f' : Nat → Nat} {w : World} (h : WB t n g f w) (he : ∀ i, i < n → f i = f' i) : WB t n g f' w := by
  unfold WB at h ⊢; rw [← rowW_congr he]; exact h
theorem WB.free {t : TypeId} {n g : Nat} {f : Nat → Nat} {w : World} (h : WB t n g f w) (k : Nat) : w.frozen? ⟨g, k, none⟩ = false := Blk.free h k
/-- Bytes in a block of their own. -/
def RB (t : TypeId) (n g : Nat) (f : Nat → Nat) (w : World) : Prop := Blk w g (rowC n f).toArray t
theorem RB.cell {t : TypeId} {n g : Nat} {f : Nat → Nat} {w : World} (h : RB t n g f w) {i : Nat} (hi : i < n) : w.cell? ⟨g, i, none⟩ = some (.int .u8 (f i : Nat)) := by
  rw [Blk.cell h i]; simpa using rowC_get f hi
theorem RB.val {t : TypeId} {n g : Nat} {f : Nat → Nat} {w : World} (h : RB t n g f w) {i x : Nat} (hi : i < n) (hx : f i = x) : w.cell? ⟨g, i, none⟩ = some (.int .u8 (x : Nat)) := by rw [← hx]; exact h.cell hi
theorem RB.set {t : TypeId} {n g : Nat} {f : Nat → Nat} {w : World} (h : RB t n g f w) (k x : Nat) : RB t n g (upd f k x) (w.setCell ⟨g, k, none⟩ (.int .u8 (x : Nat))) := by
  have := Blk.set h k (.int .u8 (x : Nat))
  rw [List.setIfInBounds_toArray, rowC_set] at this; exact this
theorem RB.congr {t : TypeId} {n g : Nat} {f f' : Nat → Nat} {w : World} (h : RB t n g f w) (he : ∀ i, i < n → f i = f' i) : RB t n g f' w := by
  unfold RB at h ⊢; rw [← rowC_congr he]; exact h
theorem RB.free {t : TypeId} {n g : Nat} {f : Nat → Nat} {w : World} (h : RB t n g f w) (k : Nat) : w.frozen? ⟨g, k, none⟩ = false := Blk.free h k

/-- A hash's cells. -/
def hshC (H R : Nat → Nat) (k n : Nat) : List Value := rowW 8 H ++ (rowC 64 R ++ [.int .i64 (k : Nat), .int .u64 (n : Nat)])
theorem hshC_len (H R : Nat → Nat) (k n : Nat) : (hshC H R k n).length = 74 := by
  unfold hshC; rw [List.length_append, List.length_append, rowW_len, rowC_len]; rfl
theorem hshC_size (H R : Nat → Nat) (k n : Nat) : (hshC H R k n).toArray.size = 74 := by rw [List.size_toArray, hshC_len]
theorem hshC_w (H R : Nat → Nat) (k n : Nat) {i : Nat} (h : i < 8) : (hshC H R k n)[i]? = some (.int .u32 (H i : Nat)) := by
  unfold hshC; rw [List.getElem?_append_left (by rw [rowW_len]; exact h)]; exact rowW_get H h
theorem hshC_r (H R : Nat → Nat) (k n : Nat) {i : Nat} (h : i < 64) : (hshC H R k n)[8 + i]? = some (.int .u8 (R i : Nat)) := by
  unfold hshC
  rw [List.getElem?_append_right (by rw [rowW_len]; omega), rowW_len, show 8 + i - 8 = i by omega, List.getElem?_append_left (by rw [rowC_len]; exact h)]; exact rowC_get R h
theorem hshC_k (H R : Nat → Nat) (k n : Nat) : (hshC H R k n)[72]? = some (.int .i64 (k : Nat)) := by
  unfold hshC
  rw [List.getElem?_append_right (by rw [rowW_len]; omega), rowW_len, List.getElem?_append_right (by rw [rowC_len]; omega), rowC_len]; rfl
theorem hshC_n (H R : Nat → Nat) (k n : Nat) : (hshC H R k n)[73]? = some (.int .u64 (n : Nat)) := by
  unfold hshC
  rw [List.getElem?_append_right (by rw [rowW_len]; omega), rowW_len, List.getElem?_append_right (by rw [rowC_len]; omega), rowC_len]; rfl
/-- Cells that are a hash's, one by one. -/
theorem hshC_ext {L : List Value} {H R : Nat → Nat} {k n : Nat} (hl : L.length = 74) (hw : ∀ i, i < 8 → L[i]? = some (.int .u32 (H i : Nat))) (hr : ∀ i, i < 64 → L[8 + i]? = some (.int .u8 (R i : Nat))) (hk : L[72]? = some (.int .i64 (k : Nat))) (hn : L[73]? = some (.int .u64 (n : Nat))) : L = hshC H R k n := by
  refine List.ext_getElem? fun i => ?_
  rcases Nat.lt_or_ge i 8 with h | h
  · rw [hw i h, hshC_w _ _ _ _ h]
  · rcases Nat.lt_or_ge i 72 with h2 | h2
    · obtain ⟨j, rfl⟩ : ∃ j, i = 8 + j := ⟨i - 8, by omega⟩
      rw [hr j (by omega), hshC_r _ _ _ _ (by omega)]
    · rcases Nat.lt_or_ge i 74 with h3 | h3
      · rcases (by omega : i = 72 ∨ i = 73) with rfl | rfl
        · rw [hk, hshC_k]
        · rw [hn, hshC_n]
      · rw [List.getElem?_eq_none (by omega), List.getElem?_eq_none (by rw [hshC_len]; omega)]
theorem splice_get {L cs : List Value} {off : Nat} (h : off + cs.length ≤ L.length) (i : Nat) : (splice L off cs)[i]? = if i < off then L[i]? else if i < off + cs.length then cs[i - off]? else L[i]? := by
  unfold splice
  by_cases h1 : i < off
  · rw [if_pos h1, List.getElem?_append_left (by rw [List.length_take]; omega), List.getElem?_take_of_lt h1]
  · rw [if_neg h1, List.getElem?_append_right (by rw [List.length_take]; omega), List.length_take, Nat.min_eq_left (by omega)]
    by_cases h2 : i < off + cs.length
    · rw [if_pos h2, List.getElem?_append_left (by omega)]
    · rw [if_neg h2, List.getElem?_append_right (by omega), List.getElem?_drop, show off + cs.length + (i - off - cs.length) = i by omega]
/-- Words stored over a hash's. -/
theorem hshC_words (H R H' : Nat → Nat) (k n : Nat) : splice (hshC H R k n) 0 (rowW 8 H') = hshC H' R k n := by
  have hf : 0 + (rowW 8 H').length ≤ (hshC H R k n).length := by rw [rowW_len, hshC_len]; omega
  refine hshC_ext (by rw [length_splice _ _ _ hf, hshC_len]) (fun i hi => ?_) (fun i hi => ?_) ?_ ?_
  · rw [splice_get hf, if_neg (by omega), rowW_len, if_pos (by omega), Nat.sub_zero]; exact rowW_get H' hi
  · rw [splice_get hf, if_neg (by omega), rowW_len, if_neg (by omega)]; exact hshC_r _ _ _ _ hi
  · rw [splice_get hf, if_neg (by omega), rowW_len, if_neg (by omega)]; exact hshC_k _ _ _ _
  · rw [splice_get hf, if_neg (by omega), rowW_len, if_neg (by omega)]; exact hshC_n _ _ _ _
/-- Bytes copied into a hash's. -/
def cpy (R G : Nat → Nat) (k c : Nat) : Nat → Nat := fun i => if k ≤ i ∧ i < k + c then G (i - k) else R i
theorem hshC_copy (H R G : Nat → Nat) (k n o c : Nat) (hc : o + c ≤ 64) : splice (hshC H R k n) (8 + o) (rowC c G) = hshC H (cpy R G o c) k n := by
  have hf : 8 + o + (rowC c G).length ≤ (hshC H R k n).length := by rw [rowC_len, hshC_len]; omega
  refine hshC_ext (by rw [length_splice _ _ _ hf, hshC_len]) (fun i hi => ?_) (fun i hi => ?_) ?_ ?_
  · rw [splice_get hf, if_pos (by omega)]; exact hshC_w _ _ _ _ hi
  · rw [splice_get hf, rowC_len]
    unfold cpy
    by_cases h1 : 8 + i < 8 + o
    · rw [if_pos h1, if_neg (by omega)]; exact hshC_r _ _ _ _ hi
    · rw [if_neg h1]
      by_cases h2 : 8 + i < 8 + o + c
      · rw [if_pos h2, if_pos (by omega), show 8 + i - (8 + o) = i - o by omega]; exact rowC_get G (by omega)
      · rw [if_neg h2, if_neg (by omega)]; exact hshC_r _ _ _ _ hi
  · rw [splice_get hf, if_neg (by omega), rowC_len, if_neg (by omega)]; exact hshC_k _ _ _ _
  · rw [splice_get hf, if_neg (by omega), rowC_len, if_neg (by omega)]; exact hshC_n _ _ _ _
theorem hshC_setk (H R : Nat → Nat) (k k' n : Nat) : (hshC H R k n).set 72 (.int .i64 (k' : Nat)) = hshC H R k' n := by
  refine hshC_ext (by rw [List.length_set, hshC_len]) (fun i hi => ?_) (fun i hi => ?_) ?_ ?_
  · rw [List.getElem?_set_ne (by omega)]; exact hshC_w _ _ _ _ hi
  · rw [List.getElem?_set_ne (by omega)]; exact hshC_r _ _ _ _ hi
  · rw [List.getElem?_set_self (by rw [hshC_len]; omega)]
  · rw [List.getElem?_set_ne (by omega)]; exact hshC_n _ _ _ _
theorem hshC_setn (H R : Nat → Nat) (k n n' : Nat) : (hshC H R k n).set 73 (.int .u64 (n' : Nat)) = hshC H R k n' := by
  refine hshC_ext (by rw [List.length_set, hshC_len]) (fun i hi => ?_) (fun i hi => ?_) ?_ ?_
  · rw [List.getElem?_set_ne (by omega)]; exact hshC_w _ _ _ _ hi
  · rw [List.getElem?_set_ne (by omega)]; exact hshC_r _ _ _ _ hi
  · rw [List.getElem?_set_ne (by omega)]; exact hshC_k _ _ _ _
  · rw [List.getElem?_set_self (by rw [hshC_len]; omega)]
theorem hshC_one (H R : Nat → Nat) (k n : Nat) : ∀ v ∈ hshC H R k n, v.oneCell' = true := by
  intro v hv
  unfold hshC at hv
  rcases List.mem_append.1 hv with h | h
  · exact rowW_one _ _ v h
  · rcases List.mem_append.1 h with h | h
    · exact rowC_one _ _ v h
    · simp only [List.mem_cons, List.not_mem_nil, or_false] at h
      rcases h with rfl | rfl <;> rfl
/-- A hash in memory. -/
def HB (w : World) (g : Nat) (H R : Nat → Nat) (k n : Nat) : Prop := Blk w g (hshC H R k n).toArray 196
theorem HB.word {w : World} {g : Nat} {H R : Nat → Nat} {k n : Nat} (h : HB w g H R k n) {i : Nat} (hi : i < 8) : w.cell? ⟨g, i, none⟩ = some (.int .u32 (H i : Nat)) := by
  rw [Blk.cell h i]; simpa using hshC_w H R k n hi
theorem HB.byte {w : World} {g : Nat} {H R : Nat → Nat} {k n : Nat} (h : HB w g H R k n) {i : Nat} (hi : i < 64) : w.cell? ⟨g, 8 + i, none⟩ = some (.int .u8 (R i : Nat)) := by
  rw [Blk.cell h (8 + i)]; simpa using hshC_r H R k n hi
theorem HB.held {w : World} {g : Nat} {H R : Nat → Nat} {k n : Nat} (h : HB w g H R k n) : w.cell? ⟨g, 72, none⟩ = some (.int .i64 (k : Nat)) := by
  rw [Blk.cell h 72]; simpa using hshC_k H R k n
theorem HB.all {w : World} {g : Nat} {H R : Nat → Nat} {k n : Nat} (h : HB w g H R k n) : w.cell? ⟨g, 73, none⟩ = some (.int .u64 (n : Nat)) := by
  rw [Blk.cell h 73]; simpa using hshC_n H R k n
theorem HB.setk {w : World} {g : Nat} {H R : Nat → Nat} {k n : Nat} (h : HB w g H R k n) (k' : Nat) : HB (w.setCell ⟨g, 72, none⟩ (.int .i64 (k' : Nat))) g H R k' n := by
  have := Blk.set h 72 (.int .i64 (k' : Nat))
  rw [List.setIfInBounds_toArray, hshC_setk] at this; exact this
theorem HB.setn {w : World} {g : Nat} {H R : Nat → Nat} {k n : Nat} (h : HB w g H R k n) (n' : Nat) : HB (w.setCell ⟨g, 73, none⟩ (.int .u64 (n' : Nat))) g H R k n' := by
  have := Blk.set h 73 (.int .u64 (n' : Nat))
  rw [List.setIfInBounds_toArray, hshC_setn] at this; exact this
/-- Cells stored into the middle of a block. -/
theorem Blk.setMid {w : World} {b : Nat} {D : List Value} {t : TypeId} (h : Blk w b D.toArray t) (o : Nat) (vs : List Value) (hs : o + vs.length ≤ D.length) : Blk (w.setCells b o vs) b (splice D o vs).toArray t := by
  obtain ⟨D', h1, h2⟩ := Blk.setCells_any vs o w _ h
  have e : D' = (splice D o vs).toArray := by
    refine Array.ext (by rw [h2, List.size_toArray, List.size_toArray, length_splice _ _ _ hs]) fun j hj hj2 => ?_
    have hc1 : (w.setCells b o vs).cell? ⟨b, j, none⟩ = some D'[j] := by rw [Blk.cell h1, Array.getElem?_eq_getElem hj]
    have hjl : j < D.length := by rw [h2, List.size_toArray] at hj; exact hj
    have hD : ∀ i, i < D.length → w.cell? ⟨b, i, none⟩ = D[i]? := fun i hi => by rw [Blk.cell h i]; simp
    have hg : (splice D o vs)[j]? = some (splice D o vs).toArray[j] := by
      rw [List.getElem?_eq_getElem (by simpa using hj2)]; simp
    rw [splice_get hs] at hg
    by_cases h3 : o ≤ j ∧ j < o + vs.length
    · rw [if_neg (by omega), if_pos h3.2] at hg
      have hi := World.cell?_setCells_in b vs o w (fun i hi => by rw [hD _ (by omega), List.getElem?_eq_getElem (by omega)]; rfl) (j - o) (by omega)
      rw [show o + (j - o) = j by omega] at hi
      rw [hc1] at hi
      rw [← List.getElem?_eq_getElem (by omega)] at hi
      rw [hg] at hi
      exact Option.some.inj hi
    · have ho := World.cell?_setCells_out b vs o w ⟨b, j, none⟩ (by simp; omega)
      rw [hc1, hD j hjl] at ho
      have : D[j]? = some (splice D o vs).toArray[j] := by
        by_cases h4 : j < o
        · rw [if_pos h4] at hg; exact hg
        · rw [if_neg h4, if_neg (by omega)] at hg; exact hg
      rw [this] at ho
      exact Option.some.inj ho
  rw [← e]; exact h1
theorem HB.words {w : World} {g : Nat} {H R : Nat → Nat} {k n : Nat} (h : HB w g H R k n) (H' : Nat → Nat) : HB (w.setCells g 0 (rowW 8 H').toArray.toList) g H' R k n := by
  have := Blk.setMid h 0 (rowW 8 H') (by rw [rowW_len, hshC_len]; omega)
  rw [hshC_words] at this; exact this
/-- What the package's variables hold. -/
def GV (w : World) : Prop := (∀ i, i < 8 → w.cell? ⟨2, i, none⟩ = some (.int .u32 (hN i : Nat))) ∧ (∀ i, i < 64 → w.cell? ⟨3, i, none⟩ = some (.int .u32 (kN i : Nat)))
theorem GV.later {w w' : World} (h : GV w) (hb : Below w.heap.size w w') : GV w' := ⟨fun i hi => cell_below hb (h.1 i hi), fun i hi => cell_below hb (h.2 i hi)⟩
theorem GV.lt {w : World} (h : GV w) : 2 < w.heap.size ∧ 3 < w.heap.size := by
  constructor
  · rcases Nat.lt_or_ge 2 w.heap.size with h' | h'
    · exact h'
    · have := h.1 0 (by decide); simp [World.cell?, Array.getElem?_eq_none h'] at this
  · rcases Nat.lt_or_ge 3 w.heap.size with h' | h'
    · exact h'
    · have := h.2 0 (by decide); simp [World.cell?, Array.getElem?_eq_none h'] at this
theorem GV.own {w w' : World} {b : Nat} (h : GV w) (hO : Own b w w') (h0 : b ≠ 2) (h1 : b ≠ 3) : GV w' :=
  ⟨fun i hi => hO.cell (h.1 i hi) (fun e => h0 e.symm), fun i hi => hO.cell (h.2 i hi) (fun e => h1 e.symm)⟩
theorem GV.drew {w : World} (h : GV w) : GV w.drew := h.later (Below.refl _ w).drew

theorem exec_load_mid {o : Oper} {a : Act} {w : World} {ty : TypeId} {x : Operand} (b off : Nat) (cs : List Value) (d : TypeDesc) (ho : o.op = .load ty x) (hx : a.eval x = .pointer (some ⟨b, off, none⟩)) (hc : w.rangeAt b off cs)
    (hu : Tryd.prog.underlying ty = some d) (hd : d.isRow = true) (hi : (Tryd.prog.info? ty).map (·.size) = some cs.length) : (execOp a.eval o).run Tryd.prog w = .ok (.value (.agg cs.toArray)) w := by
  unfold execOp
  simp only [ho, hx, Instr.loadAt, Instr.sureAddr, Sem.run_bind, Sem.run_pure, Result.andThen_ok, run_loadVar_mid w b off ty cs d hc hu hd hi]
theorem step_loadM {ops : Array Oper} {o : Oper} {a : Act} {w : World} {K : Act → World → Prop} {Q : Exit → Act → World → Prop} {E : Prop} (hgd : o.guard = none) (ty : TypeId) (x : Operand) (ho : o.op = .load ty x) (b off : Nat) (hx : a.eval x = .pointer (some ⟨b, off, none⟩)) (cs : List Value) (d : TypeDesc) (hc : w.rangeAt b off cs)
    (hu : Tryd.prog.underlying ty = some d) (hd : d.isRow = true) (hi : (Tryd.prog.info? ty).map (·.size) = some cs.length) (h : K (a.put o.dst (.agg cs.toArray)) w) : if Region.wanted o (yielded ops a.tmps) = true then Oper.wp Tryd.prog o a w K Q else E := by
  have hw : Region.wanted o (yielded ops a.tmps) = true := by simp [Region.wanted, hgd]
  rw [if_pos hw]
  exact wp_load_mid ty x ho b off hx cs d hc hu hd hi h
theorem there_mid {w : World} {g : Nat} {D : List Value} {t : TypeId} (h : Blk w g D.toArray t) {o n : Nat} (hn : o + n ≤ D.length) : w.there g o n := fun j hj => by
  rw [Blk.cell h, Blk.free h]
  refine ⟨?_, rfl⟩
  rw [Array.getElem?_eq_getElem (by rw [List.size_toArray]; omega)]; rfl
theorem HB.rangeW {w : World} {g : Nat} {H R : Nat → Nat} {k n : Nat} (h : HB w g H R k n) : w.rangeAt g 0 (rowW 8 H) := fun j v hv => by
  have hj : j < 8 := by have := (List.getElem?_eq_some_iff.1 hv).1; rw [rowW_len] at this; exact this
  rw [rowW_get H hj] at hv
  rw [Nat.zero_add, h.word hj]; exact hv
theorem HB.rangeR {w : World} {g : Nat} {H R : Nat → Nat} {k n : Nat} (h : HB w g H R k n) : w.rangeAt g 8 (rowC 64 R) := fun j v hv => by
  have hj : j < 64 := by have := (List.getElem?_eq_some_iff.1 hv).1; rw [rowC_len] at this; exact this
  rw [rowC_get R hj] at hv
  rw [h.byte hj]; exact hv
end Go.Proofs.YtmabhjifldafaaaDoor
namespace Go.Proofs.YtmabhjifldafaaaDoor
set_option linter.unusedVariables false
set_option linter.unusedSimpArgs false
open Go.RowKit

theorem or_add {a b k : Nat} (hb : b < 2 ^ k) : (a * 2 ^ k) ||| b = a * 2 ^ k + b := by
  rw [Nat.mul_comm, ← Nat.two_pow_add_eq_or_of_lt hb a]
theorem u32_join {a b : Int} (k : Nat) (ha : 0 ≤ a) (hb : 0 ≤ b) (hbk : b < (2 ^ k : Nat)) (h : a * (2 ^ k : Nat) + b < 4294967296) : bits .or .u32 (a * (2 ^ k : Nat)) b = a * (2 ^ k : Nat) + b := by
  obtain ⟨n, rfl⟩ := Int.eq_ofNat_of_zero_le ha
  obtain ⟨m, rfl⟩ := Int.eq_ofNat_of_zero_le hb
  have h1 : m < 2 ^ k := by omega
  have h2 : ((n : Int) * ((2 ^ k : Nat) : Int)) = ((n * 2 ^ k : Nat) : Int) := (Int.natCast_mul _ _).symm
  rw [h2] at h ⊢
  rw [u32_or_nat _ _ (by omega) (by omega), or_add h1]; omega
theorem u32_join4 {y3 y2 y1 y0 : Int} (b3 : 0 ≤ y3 ∧ y3 < 256) (b2 : 0 ≤ y2 ∧ y2 < 256) (b1 : 0 ≤ y1 ∧ y1 < 256) (b0 : 0 ≤ y0 ∧ y0 < 256) :
    bits .or .u32 (bits .or .u32 (bits .or .u32 (y3 * 16777216) (y2 * 65536)) (y1 * 256)) y0 = y3 * 16777216 + y2 * 65536 + y1 * 256 + y0 := by
  have e1 := u32_join (a := y3) (b := y2 * 65536) 24 b3.1 (by omega) (by omega) (by omega)
  rw [show ((2 ^ 24 : Nat) : Int) = 16777216 from by decide] at e1
  have e2 := u32_join (a := y3 * 256 + y2) (b := y1 * 256) 16 (by omega) (by omega) (by omega) (by omega)
  rw [show ((2 ^ 16 : Nat) : Int) = 65536 from by decide, show (y3 * 256 + y2) * 65536 = y3 * 16777216 + y2 * 65536 from by omega] at e2
  have e3 := u32_join (a := y3 * 65536 + y2 * 256 + y1) (b := y0) 8 (by omega) (by omega) (by omega) (by omega)
  rw [show ((2 ^ 8 : Nat) : Int) = 256 from by decide, show (y3 * 65536 + y2 * 256 + y1) * 256 = y3 * 16777216 + y2 * 65536 + y1 * 256 from by omega] at e3
  rw [e1, e2, e3]

set_option maxHeartbeats 400000 in
theorem rl2_any (a : Nat) (w : World) (h : a < 4294967296) :
    Calls Tryd.prog 124 #[.int .u32 (a : Nat), .int .i64 (-2)] w fun e w' => e = .returned (.int .u32 (rorN 2 a : Nat)) ∧ w' = w := by
  have hb : bits .and .u64 (IntKind.u64.wrap (-2)) 31 = 30 := by decide
  have e1 : bits .or .u32 ((a : Int) * 1073741824 % 4294967296) ((a : Int) / 4) = (rorN 2 a : Nat) := by
    rw [show (a : Int) * 1073741824 % 4294967296 = ((a * 1073741824 % 4294967296 : Nat) : Int) from by omega, show (a : Int) / 4 = ((a / 4 : Nat) : Int) from by omega]
    exact u32_or_nat _ _ (Nat.mod_lt _ (by decide)) (by omega)
  have E1 := Lib.hid e1
  clear e1
  go_enter Tryd.func124, Tryd.ntmps124
  go_wp2
  go_ret
  exact ⟨by rw [E1.out]; rfl, rfl⟩
set_option maxHeartbeats 400000 in
theorem ror2_any (a : Nat) (w : World) (h : a < 4294967296) :
    Calls Tryd.prog 121 #[.int .u32 (a : Nat), .int .i64 2] w fun e w' => e = .returned (.int .u32 (rorN 2 a : Nat)) ∧ w' = w := by
  have HC := Lib.hid (rl2_any a w h)
  go_enter Tryd.func121, Tryd.ntmps121
  go_wp2_with fail
  refine HC.out.mono ?_
  rintro e w' ⟨rfl, rfl⟩
  go_wp2_with fail
  go_ret
  exact ⟨rfl, rfl⟩
set_option maxHeartbeats 400000 in
theorem rl6_any (a : Nat) (w : World) (h : a < 4294967296) :
    Calls Tryd.prog 124 #[.int .u32 (a : Nat), .int .i64 (-6)] w fun e w' => e = .returned (.int .u32 (rorN 6 a : Nat)) ∧ w' = w := by
  have hb : bits .and .u64 (IntKind.u64.wrap (-6)) 31 = 26 := by decide
  have e1 : bits .or .u32 ((a : Int) * 67108864 % 4294967296) ((a : Int) / 64) = (rorN 6 a : Nat) := by
    rw [show (a : Int) * 67108864 % 4294967296 = ((a * 67108864 % 4294967296 : Nat) : Int) from by omega, show (a : Int) / 64 = ((a / 64 : Nat) : Int) from by omega]
    exact u32_or_nat _ _ (Nat.mod_lt _ (by decide)) (by omega)
  have E1 := Lib.hid e1
  clear e1
  go_enter Tryd.func124, Tryd.ntmps124
  go_wp2
  go_ret
  exact ⟨by rw [E1.out]; rfl, rfl⟩
set_option maxHeartbeats 400000 in
theorem ror6_any (a : Nat) (w : World) (h : a < 4294967296) :
    Calls Tryd.prog 121 #[.int .u32 (a : Nat), .int .i64 6] w fun e w' => e = .returned (.int .u32 (rorN 6 a : Nat)) ∧ w' = w := by
  have HC := Lib.hid (rl6_any a w h)
  go_enter Tryd.func121, Tryd.ntmps121
  go_wp2_with fail
  refine HC.out.mono ?_
  rintro e w' ⟨rfl, rfl⟩
  go_wp2_with fail
  go_ret
  exact ⟨rfl, rfl⟩
set_option maxHeartbeats 400000 in
theorem rl7_any (a : Nat) (w : World) (h : a < 4294967296) :
    Calls Tryd.prog 124 #[.int .u32 (a : Nat), .int .i64 (-7)] w fun e w' => e = .returned (.int .u32 (rorN 7 a : Nat)) ∧ w' = w := by
  have hb : bits .and .u64 (IntKind.u64.wrap (-7)) 31 = 25 := by decide
  have e1 : bits .or .u32 ((a : Int) * 33554432 % 4294967296) ((a : Int) / 128) = (rorN 7 a : Nat) := by
    rw [show (a : Int) * 33554432 % 4294967296 = ((a * 33554432 % 4294967296 : Nat) : Int) from by omega, show (a : Int) / 128 = ((a / 128 : Nat) : Int) from by omega]
    exact u32_or_nat _ _ (Nat.mod_lt _ (by decide)) (by omega)
  have E1 := Lib.hid e1
  clear e1
  go_enter Tryd.func124, Tryd.ntmps124
  go_wp2
  go_ret
  exact ⟨by rw [E1.out]; rfl, rfl⟩
set_option maxHeartbeats 400000 in
theorem ror7_any (a : Nat) (w : World) (h : a < 4294967296) :
    Calls Tryd.prog 121 #[.int .u32 (a : Nat), .int .i64 7] w fun e w' => e = .returned (.int .u32 (rorN 7 a : Nat)) ∧ w' = w := by
  have HC := Lib.hid (rl7_any a w h)
  go_enter Tryd.func121, Tryd.ntmps121
  go_wp2_with fail
  refine HC.out.mono ?_
  rintro e w' ⟨rfl, rfl⟩
  go_wp2_with fail
  go_ret
  exact ⟨rfl, rfl⟩
set_option maxHeartbeats 400000 in
theorem rl11_any (a : Nat) (w : World) (h : a < 4294967296) :
    Calls Tryd.prog 124 #[.int .u32 (a : Nat), .int .i64 (-11)] w fun e w' => e = .returned (.int .u32 (rorN 11 a : Nat)) ∧ w' = w := by
  have hb : bits .and .u64 (IntKind.u64.wrap (-11)) 31 = 21 := by decide
  have e1 : bits .or .u32 ((a : Int) * 2097152 % 4294967296) ((a : Int) / 2048) = (rorN 11 a : Nat) := by
    rw [show (a : Int) * 2097152 % 4294967296 = ((a * 2097152 % 4294967296 : Nat) : Int) from by omega, show (a : Int) / 2048 = ((a / 2048 : Nat) : Int) from by omega]
    exact u32_or_nat _ _ (Nat.mod_lt _ (by decide)) (by omega)
  have E1 := Lib.hid e1
  clear e1
  go_enter Tryd.func124, Tryd.ntmps124
  go_wp2
  go_ret
  exact ⟨by rw [E1.out]; rfl, rfl⟩
set_option maxHeartbeats 400000 in
theorem ror11_any (a : Nat) (w : World) (h : a < 4294967296) :
    Calls Tryd.prog 121 #[.int .u32 (a : Nat), .int .i64 11] w fun e w' => e = .returned (.int .u32 (rorN 11 a : Nat)) ∧ w' = w := by
  have HC := Lib.hid (rl11_any a w h)
  go_enter Tryd.func121, Tryd.ntmps121
  go_wp2_with fail
  refine HC.out.mono ?_
  rintro e w' ⟨rfl, rfl⟩
  go_wp2_with fail
  go_ret
  exact ⟨rfl, rfl⟩
set_option maxHeartbeats 400000 in
theorem rl13_any (a : Nat) (w : World) (h : a < 4294967296) :
    Calls Tryd.prog 124 #[.int .u32 (a : Nat), .int .i64 (-13)] w fun e w' => e = .returned (.int .u32 (rorN 13 a : Nat)) ∧ w' = w := by
  have hb : bits .and .u64 (IntKind.u64.wrap (-13)) 31 = 19 := by decide
  have e1 : bits .or .u32 ((a : Int) * 524288 % 4294967296) ((a : Int) / 8192) = (rorN 13 a : Nat) := by
    rw [show (a : Int) * 524288 % 4294967296 = ((a * 524288 % 4294967296 : Nat) : Int) from by omega, show (a : Int) / 8192 = ((a / 8192 : Nat) : Int) from by omega]
    exact u32_or_nat _ _ (Nat.mod_lt _ (by decide)) (by omega)
  have E1 := Lib.hid e1
  clear e1
  go_enter Tryd.func124, Tryd.ntmps124
  go_wp2
  go_ret
  exact ⟨by rw [E1.out]; rfl, rfl⟩
set_option maxHeartbeats 400000 in
theorem ror13_any (a : Nat) (w : World) (h : a < 4294967296) :
    Calls Tryd.prog 121 #[.int .u32 (a : Nat), .int .i64 13] w fun e w' => e = .returned (.int .u32 (rorN 13 a : Nat)) ∧ w' = w := by
  have HC := Lib.hid (rl13_any a w h)
  go_enter Tryd.func121, Tryd.ntmps121
  go_wp2_with fail
  refine HC.out.mono ?_
  rintro e w' ⟨rfl, rfl⟩
  go_wp2_with fail
  go_ret
  exact ⟨rfl, rfl⟩
set_option maxHeartbeats 400000 in
theorem rl17_any (a : Nat) (w : World) (h : a < 4294967296) :
    Calls Tryd.prog 124 #[.int .u32 (a : Nat), .int .i64 (-17)] w fun e w' => e = .returned (.int .u32 (rorN 17 a : Nat)) ∧ w' = w := by
  have hb : bits .and .u64 (IntKind.u64.wrap (-17)) 31 = 15 := by decide
  have e1 : bits .or .u32 ((a : Int) * 32768 % 4294967296) ((a : Int) / 131072) = (rorN 17 a : Nat) := by
    rw [show (a : Int) * 32768 % 4294967296 = ((a * 32768 % 4294967296 : Nat) : Int) from by omega, show (a : Int) / 131072 = ((a / 131072 : Nat) : Int) from by omega]
    exact u32_or_nat _ _ (Nat.mod_lt _ (by decide)) (by omega)
  have E1 := Lib.hid e1
  clear e1
  go_enter Tryd.func124, Tryd.ntmps124
  go_wp2
  go_ret
  exact ⟨by rw [E1.out]; rfl, rfl⟩
set_option maxHeartbeats 400000 in
theorem ror17_any (a : Nat) (w : World) (h : a < 4294967296) :
    Calls Tryd.prog 121 #[.int .u32 (a : Nat), .int .i64 17] w fun e w' => e = .returned (.int .u32 (rorN 17 a : Nat)) ∧ w' = w := by
  have HC := Lib.hid (rl17_any a w h)
  go_enter Tryd.func121, Tryd.ntmps121
  go_wp2_with fail
  refine HC.out.mono ?_
  rintro e w' ⟨rfl, rfl⟩
  go_wp2_with fail
  go_ret
  exact ⟨rfl, rfl⟩
set_option maxHeartbeats 400000 in
theorem rl18_any (a : Nat) (w : World) (h : a < 4294967296) :
    Calls Tryd.prog 124 #[.int .u32 (a : Nat), .int .i64 (-18)] w fun e w' => e = .returned (.int .u32 (rorN 18 a : Nat)) ∧ w' = w := by
  have hb : bits .and .u64 (IntKind.u64.wrap (-18)) 31 = 14 := by decide
  have e1 : bits .or .u32 ((a : Int) * 16384 % 4294967296) ((a : Int) / 262144) = (rorN 18 a : Nat) := by
    rw [show (a : Int) * 16384 % 4294967296 = ((a * 16384 % 4294967296 : Nat) : Int) from by omega, show (a : Int) / 262144 = ((a / 262144 : Nat) : Int) from by omega]
    exact u32_or_nat _ _ (Nat.mod_lt _ (by decide)) (by omega)
  have E1 := Lib.hid e1
  clear e1
  go_enter Tryd.func124, Tryd.ntmps124
  go_wp2
  go_ret
  exact ⟨by rw [E1.out]; rfl, rfl⟩
set_option maxHeartbeats 400000 in
theorem ror18_any (a : Nat) (w : World) (h : a < 4294967296) :
    Calls Tryd.prog 121 #[.int .u32 (a : Nat), .int .i64 18] w fun e w' => e = .returned (.int .u32 (rorN 18 a : Nat)) ∧ w' = w := by
  have HC := Lib.hid (rl18_any a w h)
  go_enter Tryd.func121, Tryd.ntmps121
  go_wp2_with fail
  refine HC.out.mono ?_
  rintro e w' ⟨rfl, rfl⟩
  go_wp2_with fail
  go_ret
  exact ⟨rfl, rfl⟩
set_option maxHeartbeats 400000 in
theorem rl19_any (a : Nat) (w : World) (h : a < 4294967296) :
    Calls Tryd.prog 124 #[.int .u32 (a : Nat), .int .i64 (-19)] w fun e w' => e = .returned (.int .u32 (rorN 19 a : Nat)) ∧ w' = w := by
  have hb : bits .and .u64 (IntKind.u64.wrap (-19)) 31 = 13 := by decide
  have e1 : bits .or .u32 ((a : Int) * 8192 % 4294967296) ((a : Int) / 524288) = (rorN 19 a : Nat) := by
    rw [show (a : Int) * 8192 % 4294967296 = ((a * 8192 % 4294967296 : Nat) : Int) from by omega, show (a : Int) / 524288 = ((a / 524288 : Nat) : Int) from by omega]
    exact u32_or_nat _ _ (Nat.mod_lt _ (by decide)) (by omega)
  have E1 := Lib.hid e1
  clear e1
  go_enter Tryd.func124, Tryd.ntmps124
  go_wp2
  go_ret
  exact ⟨by rw [E1.out]; rfl, rfl⟩
set_option maxHeartbeats 400000 in
theorem ror19_any (a : Nat) (w : World) (h : a < 4294967296) :
    Calls Tryd.prog 121 #[.int .u32 (a : Nat), .int .i64 19] w fun e w' => e = .returned (.int .u32 (rorN 19 a : Nat)) ∧ w' = w := by
  have HC := Lib.hid (rl19_any a w h)
  go_enter Tryd.func121, Tryd.ntmps121
  go_wp2_with fail
  refine HC.out.mono ?_
  rintro e w' ⟨rfl, rfl⟩
  go_wp2_with fail
  go_ret
  exact ⟨rfl, rfl⟩
set_option maxHeartbeats 400000 in
theorem rl22_any (a : Nat) (w : World) (h : a < 4294967296) :
    Calls Tryd.prog 124 #[.int .u32 (a : Nat), .int .i64 (-22)] w fun e w' => e = .returned (.int .u32 (rorN 22 a : Nat)) ∧ w' = w := by
  have hb : bits .and .u64 (IntKind.u64.wrap (-22)) 31 = 10 := by decide
  have e1 : bits .or .u32 ((a : Int) * 1024 % 4294967296) ((a : Int) / 4194304) = (rorN 22 a : Nat) := by
    rw [show (a : Int) * 1024 % 4294967296 = ((a * 1024 % 4294967296 : Nat) : Int) from by omega, show (a : Int) / 4194304 = ((a / 4194304 : Nat) : Int) from by omega]
    exact u32_or_nat _ _ (Nat.mod_lt _ (by decide)) (by omega)
  have E1 := Lib.hid e1
  clear e1
  go_enter Tryd.func124, Tryd.ntmps124
  go_wp2
  go_ret
  exact ⟨by rw [E1.out]; rfl, rfl⟩
set_option maxHeartbeats 400000 in
theorem ror22_any (a : Nat) (w : World) (h : a < 4294967296) :
    Calls Tryd.prog 121 #[.int .u32 (a : Nat), .int .i64 22] w fun e w' => e = .returned (.int .u32 (rorN 22 a : Nat)) ∧ w' = w := by
  have HC := Lib.hid (rl22_any a w h)
  go_enter Tryd.func121, Tryd.ntmps121
  go_wp2_with fail
  refine HC.out.mono ?_
  rintro e w' ⟨rfl, rfl⟩
  go_wp2_with fail
  go_ret
  exact ⟨rfl, rfl⟩
set_option maxHeartbeats 400000 in
theorem rl25_any (a : Nat) (w : World) (h : a < 4294967296) :
    Calls Tryd.prog 124 #[.int .u32 (a : Nat), .int .i64 (-25)] w fun e w' => e = .returned (.int .u32 (rorN 25 a : Nat)) ∧ w' = w := by
  have hb : bits .and .u64 (IntKind.u64.wrap (-25)) 31 = 7 := by decide
  have e1 : bits .or .u32 ((a : Int) * 128 % 4294967296) ((a : Int) / 33554432) = (rorN 25 a : Nat) := by
    rw [show (a : Int) * 128 % 4294967296 = ((a * 128 % 4294967296 : Nat) : Int) from by omega, show (a : Int) / 33554432 = ((a / 33554432 : Nat) : Int) from by omega]
    exact u32_or_nat _ _ (Nat.mod_lt _ (by decide)) (by omega)
  have E1 := Lib.hid e1
  clear e1
  go_enter Tryd.func124, Tryd.ntmps124
  go_wp2
  go_ret
  exact ⟨by rw [E1.out]; rfl, rfl⟩
set_option maxHeartbeats 400000 in
theorem ror25_any (a : Nat) (w : World) (h : a < 4294967296) :
    Calls Tryd.prog 121 #[.int .u32 (a : Nat), .int .i64 25] w fun e w' => e = .returned (.int .u32 (rorN 25 a : Nat)) ∧ w' = w := by
  have HC := Lib.hid (rl25_any a w h)
  go_enter Tryd.func121, Tryd.ntmps121
  go_wp2_with fail
  refine HC.out.mono ?_
  rintro e w' ⟨rfl, rfl⟩
  go_wp2_with fail
  go_ret
  exact ⟨rfl, rfl⟩
end Go.Proofs.YtmabhjifldafaaaDoor
namespace Go.Proofs.YtmabhjifldafaaaDoor
set_option linter.unusedVariables false
set_option linter.unusedSimpArgs false
open Go.RowKit

def zero64w : Array Value := (rowW 64 (fun _ => 0)).toArray
theorem zero64w_run (w : World) : (zeroValue 199).run Tryd.prog w = .ok (.agg zero64w) w := by kernel_rfl
theorem info70 (v : Nat → Nat) : (Tryd.prog.info? 199).map (·.size) = some (rowW 64 v).toArray.size := by rw [rowW_size]; kernel_rfl
theorem one64w (v : Nat → Nat) : (rowW 64 v).toArray.all (·.oneCell') = true := all_oneCell_toArray (rowW_one _ _)
/-- While words are made. -/
structure SPR (w0 : World) (b : Nat → Nat) (n : Nat) (wr : World) : Prop where
  s : RB 169 64 w0.heap.size b wr
  r : WB 199 64 (w0.heap.size + 1) (fun _ => 0) wr
  y : WB 199 64 (w0.heap.size + 1 + 1) (fun t => if t < n then spK b 64 t else 0) wr
  o : Below w0.heap.size w0 wr
theorem SPR.start (b : Nat → Nat) (w : World) : SPR w b 0 (((w.alloc (.cells (rowC 64 b).toArray 169)).alloc (.cells zero64w 199)).alloc (.cells zero64w 199)) := by
  refine ⟨((Blk.new w _ 169).alloc _).alloc _, ?_, ?_, (((Below.refl _ _).alloc (Nat.le_refl _) _).alloc (by simp) _).alloc (by simp; omega) _⟩
  · have := (Blk.new (w.alloc (.cells (rowC 64 b).toArray 169)) zero64w 199).alloc (.cells zero64w 199)
    show Blk _ _ zero64w _; simpa using this
  · have := Blk.new ((w.alloc (.cells (rowC 64 b).toArray 169)).alloc (.cells zero64w 199)) zero64w 199
    refine WB.congr (f := fun _ => 0) ?_ fun i _ => (if_neg (Nat.not_lt_zero _)).symm
    show Blk _ _ zero64w _; simpa using this
theorem SPR.below {w0 : World} {b : Nat → Nat} {n : Nat} {wr w' : World} (h : SPR w0 b n wr) (hb : Below wr.heap.size wr w') : SPR w0 b n w' :=
  ⟨Blk.below h.s hb (Blk.lt h.s), Blk.below h.r hb (Blk.lt h.r), Blk.below h.y hb (Blk.lt h.y), h.o.trans (hb.mono h.o.size)⟩
theorem SPR.drew {w0 : World} {b : Nat → Nat} {n : Nat} {wr : World} (h : SPR w0 b n wr) : SPR w0 b n wr.drew := h.below (Below.refl _ wr).drew
theorem SPR.set {w0 : World} {b : Nat → Nat} {n x : Nat} {wr : World} (h : SPR w0 b n wr) (hx : spK b 64 n = x) : SPR w0 b (n + 1) (wr.setCell ⟨w0.heap.size + 1 + 1, n, none⟩ (.int .u32 (x : Nat))) := by
  refine ⟨Blk.set_other h.s (by simp; omega) _, Blk.set_other h.r (by simp) _, (h.y.set n x).congr fun j _ => ?_, h.o.setCell (by simp; omega) _⟩
  unfold upd
  by_cases e : j = n
  · rw [if_pos e, e, if_pos (by omega), hx]
  · rw [if_neg e]
    show (if j < n then spK b 64 j else 0) = if j < n + 1 then spK b 64 j else 0
    by_cases h5 : j < n
    · rw [if_pos h5, if_pos (by omega)]
    · rw [if_neg h5, if_neg (by omega)]
theorem SPR.word {w0 : World} {b : Nat → Nat} {n i x : Nat} {wr : World} (h : SPR w0 b n wr) (hi : i < n) (hn : n ≤ 64) (hx : spK b 64 i = x) : wr.cell? ⟨w0.heap.size + 1 + 1, i, none⟩ = some (.int .u32 (x : Nat)) :=
  h.y.val (by omega) (by rw [← hx]; exact if_pos hi)
theorem SPR.none {w0 : World} {b : Nat → Nat} {n : Nat} {wr : World} (h : SPR w0 b n wr) (hn : n < 64) : wr.cell? ⟨w0.heap.size + 1 + 1, n, none⟩ = some (.int .u32 0) :=
  h.y.val hn (if_neg (Nat.lt_irrefl _))
set_option maxRecDepth 100000 in
set_option maxHeartbeats 4000000 in
theorem spread_any (b : Nat → Nat) (w : World) (hb : ∀ i, i < 64 → b i < 256) :
    Calls Tryd.prog 120 #[.agg (rowC 64 b).toArray] w fun e w' => e = .returned (.agg (rowW 64 (spK b 64)).toArray) ∧ Below w.heap.size w w' := by
  have hz := zero64w_run
  have HT := Lib.hid (SPR.start b w)
  obtain ⟨C, hC⟩ : ∃ C, (rowC 64 b).toArray = C := ⟨_, rfl⟩
  have HB8 := Lib.hid hb
  have HL := Lib.hid (fun t => spK_lt hb 64 t)
  rw [hC] at HT ⊢
  clear hb hC
  go_enter Tryd.func120, Tryd.ntmps120
  go_wp2_with fail
  clear hz
  go_loopw [8] (fun v wr => ∃ i : Nat, i ≤ 16 ∧ v = .int .i64 (i : Int) ∧ SPR w b i wr) (fun v _ => 16 - (intOf v).toNat)
  case atStart => exact ⟨0, Nat.zero_le _, rfl, HT.out⟩
  case round =>
    clear HT
    obtain ⟨i, hi, rfl, hW⟩ := hrel
    have HW := Lib.hid hW
    clear hW
    by_cases hlt : i < 16
    · have i0 : (0 : Int) ≤ (i : Int) := by omega
      have i1 : (i : Int) < 16 := by omega
      have i6 : (i : Int) < 64 := by omega
      obtain ⟨j0, hj0⟩ : ∃ j, 4 * i = j := ⟨_, rfl⟩
      obtain ⟨j1, hj1⟩ : ∃ j, j0 + 1 = j := ⟨_, rfl⟩
      obtain ⟨j2, hj2⟩ : ∃ j, j0 + 2 = j := ⟨_, rfl⟩
      obtain ⟨j3, hj3⟩ : ∃ j, j0 + 3 = j := ⟨_, rfl⟩
      have k0 := wrn (m := 4) rfl hj0 (by omega)
      have k1 := wrk (m := 1) rfl hj1 (by omega)
      have k2 := wrk (m := 2) rfl hj2 (by omega)
      have k3 := wrk (m := 3) rfl hj3 (by omega)
      obtain ⟨a0, b0⟩ : (0 : Int) ≤ (j0 : Int) ∧ (j0 : Int) < 64 := by omega
      obtain ⟨a1, b1⟩ : (0 : Int) ≤ (j1 : Int) ∧ (j1 : Int) < 64 := by omega
      obtain ⟨a2, b2⟩ : (0 : Int) ≤ (j2 : Int) ∧ (j2 : Int) < 64 := by omega
      obtain ⟨a3, b3⟩ : (0 : Int) ≤ (j3 : Int) ∧ (j3 : Int) < 64 := by omega
      have HP := HW.out.drew
      have hkw : spK b 64 i = b j0 * 16777216 + b j1 * 65536 + b j2 * 256 + b j3 := by
        rw [spK_lo b hlt]; unfold wd; rw [← hj1, ← hj2, ← hj3, ← hj0]
      have l0 := HB8.out j0 (by omega)
      have l1 := HB8.out j1 (by omega)
      have l2 := HB8.out j2 (by omega)
      have l3 := HB8.out j3 (by omega)
      have q0 := HP.s.cell (i := j0) (by omega)
      have q1 := HP.s.cell (i := j1) (by omega)
      have q2 := HP.s.cell (i := j2) (by omega)
      have q3 := HP.s.cell (i := j3) (by omega)
      generalize b j0 = x0 at *
      generalize b j1 = x1 at *
      generalize b j2 = x2 at *
      generalize b j3 = x3 at *
      have c0 : IntKind.u32.wrap (x0 : Int) = (x0 : Int) := by rw [IntKind.wrap_u32]; omega
      have c1 : IntKind.u32.wrap (x1 : Int) = (x1 : Int) := by rw [IntKind.wrap_u32]; omega
      have c2 : IntKind.u32.wrap (x2 : Int) = (x2 : Int) := by rw [IntKind.wrap_u32]; omega
      have c3 : IntKind.u32.wrap (x3 : Int) = (x3 : Int) := by rw [IntKind.wrap_u32]; omega
      have d0 : IntKind.u32.wrap ((x0 : Int) * 16777216) = (x0 : Int) * 16777216 := by rw [IntKind.wrap_u32]; omega
      have d1 : IntKind.u32.wrap ((x1 : Int) * 65536) = (x1 : Int) * 65536 := by rw [IntKind.wrap_u32]; omega
      have d2 : IntKind.u32.wrap ((x2 : Int) * 256) = (x2 : Int) * 256 := by rw [IntKind.wrap_u32]; omega
      have e4 := u32_join4 (y3 := (x0 : Int)) (y2 := x1) (y1 := x2) (y0 := x3) (by omega) (by omega) (by omega) (by omega)
      obtain ⟨V, hV⟩ : ∃ V, spK b 64 i = V := ⟨_, rfl⟩
      rw [hV] at hkw
      have e5 : (x0 : Int) * 16777216 + (x1 : Int) * 65536 + (x2 : Int) * 256 + (x3 : Int) = (V : Int) := by omega
      rw [e5] at e4
      have c8 := HP.none (show i < 64 by omega)
      have z8 : wr.drew.frozen? ⟨w.heap.size + 1 + 1, i, none⟩ = false := HP.y.free _
      have HN := Lib.hid (HP.set hV)
      clear e5 hkw l0 l1 l2 l3 hV hj0 hj1 hj2 hj3 HP hlt hi HW
      go_wp2_with fail
      refine still_tail 31 (by kernel_rfl) (by kernel_rfl) ?_
      simp only [List.take_succ_cons, List.take_zero, List.drop_succ_cons, List.drop_zero]
      generalize wr.drew = W0 at *
      repeat still_step
      refine wpStill_nil ?_
      clear k0 k1 k2 k3
      go_wp2_with fail
      go_roundw
      case rel => exact ⟨i + 1, by omega, by go_num, HN.out⟩
      case measure => simp [intOf] <;> omega
    · obtain rfl : i = 16 := by omega
      clear hi hlt
      rw [show ((16 : Nat) : Int) = 16 from rfl]
      go_wp2_with fail
      go_loopw [5] (fun v wr => ∃ t : Nat, 16 ≤ t ∧ t ≤ 64 ∧ v = .int .i64 (t : Int) ∧ SPR w b t wr) (fun v _ => 64 - (intOf v).toNat)
      case atStart => exact ⟨16, by decide, by decide, rfl, HW.out⟩
      case round =>
        clear HW
        obtain ⟨t, ht, ht6, rfl, hW⟩ := hrel
        have HW := Lib.hid hW
        clear hW
        by_cases hlt : t < 64
        · have t0 : (0 : Int) ≤ (t : Int) := by omega
          have t1 : (t : Int) < 64 := by omega
          have t16 : (16 : Int) ≤ (t : Int) := by omega
          obtain ⟨p, hp⟩ : ∃ p, t = p + 15 := ⟨t - 15, by omega⟩
          obtain ⟨q, hq⟩ : ∃ p, t = p + 2 := ⟨t - 2, by omega⟩
          obtain ⟨r, hr⟩ : ∃ p, t = p + 7 := ⟨t - 7, by omega⟩
          obtain ⟨s, hs⟩ : ∃ p, t = p + 16 := ⟨t - 16, by omega⟩
          have m1 := wrb (m := 15) rfl hp (by omega)
          have m2 := wrb (m := 2) rfl hq (by omega)
          have m3 := wrb (m := 7) rfl hr (by omega)
          have m4 := wrb (m := 16) rfl hs (by omega)
          obtain ⟨p0, p1⟩ : (0 : Int) ≤ (p : Int) ∧ (p : Int) < 64 := by omega
          obtain ⟨q0, q1⟩ : (0 : Int) ≤ (q : Int) ∧ (q : Int) < 64 := by omega
          obtain ⟨r0, r1⟩ : (0 : Int) ≤ (r : Int) ∧ (r : Int) < 64 := by omega
          obtain ⟨s0, s1⟩ : (0 : Int) ≤ (s : Int) ∧ (s : Int) < 64 := by omega
          have hre := spK_hi b ht hlt
          unfold spS at hre
          rw [show t - 2 = q by omega, show t - 7 = r by omega, show t - 15 = p by omega, show t - 16 = s by omega] at hre
          obtain ⟨x, hx⟩ : ∃ x, spK b 64 p = x := ⟨_, rfl⟩
          obtain ⟨y, hy⟩ : ∃ x, spK b 64 q = x := ⟨_, rfl⟩
          obtain ⟨u, hu⟩ : ∃ x, spK b 64 r = x := ⟨_, rfl⟩
          obtain ⟨z, hz⟩ : ∃ x, spK b 64 s = x := ⟨_, rfl⟩
          obtain ⟨V, hV⟩ : ∃ x, spK b 64 t = x := ⟨_, rfl⟩
          have lx : x < 4294967296 := hx ▸ HL.out p
          have ly : y < 4294967296 := hy ▸ HL.out q
          have lu : u < 4294967296 := hu ▸ HL.out r
          have lz : z < 4294967296 := hz ▸ HL.out s
          rw [hx, hy, hu, hz, hV] at hre
          have HP := Lib.hid HW.out.drew
          have cx : wr.drew.cell? ⟨w.heap.size + 1 + 1, p, none⟩ = some (.int .u32 (x : Nat)) := HP.out.word (by omega) ht6 hx
          have cy : wr.drew.cell? ⟨w.heap.size + 1 + 1, q, none⟩ = some (.int .u32 (y : Nat)) := HP.out.word (by omega) ht6 hy
          have HU : Hid (spK b 64 r = u ∧ spK b 64 s = z ∧ r < t ∧ s < t ∧ t < 64) := Lib.hid ⟨hu, hz, by omega, by omega, hlt⟩
          have HVV := Lib.hid hV
          have hX7 := ror7_any x
          have R7 := Lib.hid (fun w' => ror7_any x w' lx)
          have R18 := Lib.hid (fun w' => ror18_any x w' lx)
          have R17 := Lib.hid (fun w' => ror17_any y w' ly)
          have R19 := Lib.hid (fun w' => ror19_any y w' ly)
          have x3 : (x : Int) / 8 = ((x / 8 : Nat) : Int) := by omega
          have y3 : (y : Int) / 1024 = ((y / 1024 : Nat) : Int) := by omega
          have w3 : IntKind.u32.wrap ((x / 8 : Nat) : Int) = ((x / 8 : Nat) : Int) := by rw [IntKind.wrap_u32]; omega
          have w4 : IntKind.u32.wrap ((y / 1024 : Nat) : Int) = ((y / 1024 : Nat) : Int) := by rw [IntKind.wrap_u32]; omega
          have f1 : bits .xor .u32 (rorN 7 x : Nat) (rorN 18 x : Nat) = ((rorN 7 x ^^^ rorN 18 x : Nat) : Int) := u32_xor_nat _ _ (rorN_lt lx) (rorN_lt lx)
          have f2 : bits .xor .u32 ((rorN 7 x ^^^ rorN 18 x : Nat) : Int) ((x / 8 : Nat) : Int) = ((sg0 x : Nat) : Int) := u32_xor_nat _ _ (xor32 (rorN_lt lx) (rorN_lt lx)) (by omega)
          have g1 : bits .xor .u32 (rorN 17 y : Nat) (rorN 19 y : Nat) = ((rorN 17 y ^^^ rorN 19 y : Nat) : Int) := u32_xor_nat _ _ (rorN_lt ly) (rorN_lt ly)
          have g2 : bits .xor .u32 ((rorN 17 y ^^^ rorN 19 y : Nat) : Int) ((y / 1024 : Nat) : Int) = ((sg1 y : Nat) : Int) := u32_xor_nat _ _ (xor32 (rorN_lt ly) (rorN_lt ly)) (by omega)
          have l0 := sg0_lt lx
          have l1 := sg1_lt ly
          clear hX7
          generalize rorN 7 x ^^^ rorN 18 x = o1 at *
          generalize rorN 17 y ^^^ rorN 19 y = o2 at *
          generalize rorN 7 x = o3 at *
          generalize rorN 18 x = o4 at *
          generalize rorN 17 y = o5 at *
          generalize rorN 19 y = o6 at *
          generalize sg0 x = S0 at *
          generalize sg1 y = S1 at *
          generalize x / 8 = x8 at *
          generalize y / 1024 = y8 at *
          obtain ⟨v1, hv1⟩ : ∃ v, (S1 + u) % 4294967296 = v := ⟨_, rfl⟩
          obtain ⟨v2, hv2⟩ : ∃ v, (v1 + S0) % 4294967296 = v := ⟨_, rfl⟩
          have h1 := u32m (S1 : Int) (u : Int) rfl rfl hv1
          have h2 := u32m (v1 : Int) (S0 : Int) rfl rfl hv2
          have h3 := u32m (v2 : Int) (z : Int) (e := V) rfl rfl (by omega)
          have HH1 := Lib.hid h1
          have HH2 := Lib.hid h2
          have HH3 := Lib.hid h3
          clear hv1 hv2 hre h1 h2 h3 lx ly lu lz l0 l1 hx hy hu hz hV hp hq hr hs ht ht6 hlt HW
          go_wp2_with fail
          refine still_lit (by kernel_rfl) (by kernel_rfl) ?_
          generalize wr.drew = W0 at *
          repeat still_step
          refine wpStill_step (fun K hK => ?_)
          go_simp
          with_reducible refine ⟨_, R7.out _, hK _ ?_⟩
          clear hK K
          repeat still_step
          refine wpStill_step (fun K hK => ?_)
          go_simp
          with_reducible refine ⟨_, R18.out _, hK _ ?_⟩
          clear hK K
          repeat still_step
          refine wpStill_nil ?_
          clear cx R7 R18
          go_wp2_with fail
          have HP1 := Lib.hid HP.out.drew
          have cy' : W0.drew.cell? ⟨w.heap.size + 1 + 1, q, none⟩ = some (.int .u32 (y : Nat)) := cy
          clear HP cy
          refine still_lit (by kernel_rfl) (by kernel_rfl) ?_
          generalize W0.drew = W1 at *
          repeat still_step
          refine wpStill_step (fun K hK => ?_)
          go_simp
          with_reducible refine ⟨_, R17.out _, hK _ ?_⟩
          clear hK K
          repeat still_step
          refine wpStill_step (fun K hK => ?_)
          go_simp
          with_reducible refine ⟨_, R19.out _, hK _ ?_⟩
          clear hK K
          repeat still_step
          refine wpStill_nil ?_
          clear cy' R17 R19
          go_wp2_with fail
          have HP2 := Lib.hid HP1.out.drew
          clear HP1
          have cu : W1.drew.cell? ⟨w.heap.size + 1 + 1, r, none⟩ = some (.int .u32 (u : Nat)) := HP2.out.word HU.out.2.2.1 (Nat.le_of_lt HU.out.2.2.2.2) HU.out.1
          have cz : W1.drew.cell? ⟨w.heap.size + 1 + 1, s, none⟩ = some (.int .u32 (z : Nat)) := HP2.out.word HU.out.2.2.2.1 (Nat.le_of_lt HU.out.2.2.2.2) HU.out.2.1
          have c8 := HP2.out.none HU.out.2.2.2.2
          have z8 : W1.drew.frozen? ⟨w.heap.size + 1 + 1, t, none⟩ = false := HP2.out.y.free _
          have HN := Lib.hid (HP2.out.set HVV.out)
          have h1 := HH1.out
          have h2 := HH2.out
          have h3 := HH3.out
          clear HP2 HH1 HH2 HH3
          refine still_tail 15 (by kernel_rfl) (by kernel_rfl) ?_
          simp only [List.take_succ_cons, List.take_zero, List.drop_succ_cons, List.drop_zero]
          generalize W1.drew = W2 at *
          repeat still_step
          refine wpStill_nil ?_
          clear cu cz m1 m2 m3 m4 h1 h2 h3
          go_wp2_with fail
          have h64 := HU.out.2.2.2.2
          go_roundw
          case rel => exact ⟨t + 1, by omega, by omega, by go_num, HN.out⟩
          case measure => simp [intOf] <;> omega
        · obtain rfl : t = 64 := by omega
          have hY : WB 199 64 (w.heap.size + 1 + 1) (spK b 64) wr := HW.out.y.congr fun j hj => if_pos hj
          have hN : WB 199 64 (w.heap.size + 1) (spK b 64) (wr.setCells (w.heap.size + 1) 0 (rowW 64 (spK b 64)).toArray.toList) := Blk.setCells HW.out.r (rowW 64 (spK b 64)) (by rw [rowW_size, rowW_len])
          have hO : Below w.heap.size w (wr.setCells (w.heap.size + 1) 0 (rowW 64 (spK b 64)).toArray.toList) := HW.out.o.trans ((Own.setCells _ 0 wr).below (by omega) HW.out.o.size)
          have hTH : wr.there (w.heap.size + 1) 0 (rowW 64 (spK b 64)).toArray.size := Blk.there HW.out.r (by rw [rowW_size, rowW_size]; exact Nat.le_refl _)
          have hI := info70 (spK b 64)
          have hI1 := one64w (spK b 64)
          obtain ⟨E, hE⟩ : ∃ C, (rowW 64 (spK b 64)).toArray = C := ⟨_, rfl⟩
          unfold WB at hN hY
          rw [hE] at hN hY hO hTH hI hI1
          have HN := Lib.hid hN
          have HY := Lib.hid hY
          have HO := Lib.hid hO
          have HTH := Lib.hid hTH
          have HI := Lib.hid hI
          have HI1 := Lib.hid hI1
          have HE := Lib.hid hE
          clear hN hY hO hTH hI hI1 hE hlt ht ht6 HW
          go_wp2_with (first
            | (refine wpList_load_row rfl 199 (.tmp 3) rfl (w.heap.size + 1 + 1) rfl 199 E (0, 0) _ HY.out Tryd.underlying199 rfl HI.out ?_)
            | (refine wpList_store_mid rfl 199 (.tmp 2) (.tmp 96) rfl (w.heap.size + 1) 0 E rfl rfl HTH.out HI.out HI1.out ?_))
          refine bodyPost_ret (v := .agg E) ?_ rfl ⟨by rw [HE.out], HO.out⟩
          exact results_cell_row Tryd.results120 _ _ (w.heap.size + 1) 199 E (0, 0) _ rfl HN.out Tryd.underlying199 rfl HI.out
end Go.Proofs.YtmabhjifldafaaaDoor
namespace Go.Proofs.YtmabhjifldafaaaDoor
set_option linter.unusedVariables false
set_option linter.unusedSimpArgs false
open Go.RowKit

theorem run_index70 (W : Nat → Nat) (t : Nat) (ht : t < 64) (w : World) : (Instr.index 199 (.agg (rowW 64 W).toArray) (.int .i64 (t : Int))).run Tryd.prog w = .ok (.int .u32 (W t : Nat)) w := by
  have h1 : Tryd.prog.underlying 199 = some (.array 64 193) := Tryd.underlying199
  have h2 : (isAgg 193).run Tryd.prog w = .ok false w := by
    unfold isAgg; rw [Sem.run_bind, run_underlying Tryd.underlying193 w]; rfl
  have h3 : (sizeOf 193).run Tryd.prog w = .ok 1 w := by kernel_rfl
  have h4 : (0 : Int) ≤ (t : Int) ∧ (t : Int) < ((64 : Nat) : Int) := by omega
  have h5 : (t : Int).toNat * 1 = t := by omega
  have h6 : (rowW 64 W).toArray[t]? = some (.int .u32 (W t : Nat)) := by rw [List.getElem?_toArray]; exact rowW_get W ht
  unfold Instr.index part
  simp only [asIntOf, Sem.run_bind, Sem.run_pure, Result.andThen_ok, run_underlying h1]
  rw [if_pos h4]
  simp only [Sem.run_bind, Result.andThen_ok, h2, h3, h5, h6, Bool.false_eq_true, if_false, Sem.run_pure]
theorem exec_index {o : Oper} {a : Act} {w : World} {ty : TypeId} {C : Array Value} {n : Int} {v : Value} (x y : Operand) (ho : o.op = .index ty x y) (hx : a.eval x = .agg C) (hy : a.eval y = .int .i64 n) (h : (Instr.index ty (.agg C) (.int .i64 n)).run Tryd.prog w = .ok v w) : (execOp a.eval o).run Tryd.prog w = .ok (.value v) w := by
  unfold execOp
  simp only [ho, hx, hy, Sem.run_bind, h, Result.andThen_ok]
  rfl
def zero8w : Array Value := (rowW 8 (fun _ => 0)).toArray
theorem zero8w_run (w : World) : (zeroValue 194).run Tryd.prog w = .ok (.agg zero8w) w := by kernel_rfl
theorem info56 (v : Nat → Nat) : (Tryd.prog.info? 194).map (·.size) = some (rowW 8 v).toArray.size := by rw [rowW_size]; kernel_rfl
theorem one8w (v : Nat → Nat) : (rowW 8 v).toArray.all (·.oneCell') = true := all_oneCell_toArray (rowW_one _ _)
theorem info57 (v : Nat → Nat) : (Tryd.prog.info? 169).map (·.size) = some (rowC 64 v).toArray.size := by rw [rowC_size]; kernel_rfl
theorem info_u32 : (Tryd.prog.info? 193).map (·.size) = some 1 := by kernel_rfl
/-- While a block is mixed in. -/
structure MI (w0 : World) (H b V : Nat → Nat) (wr : World) : Prop where
  s : WB 194 8 w0.heap.size H wr
  b : RB 169 64 (w0.heap.size + 1) b wr
  r : WB 194 8 (w0.heap.size + 1 + 1) (fun _ => 0) wr
  v : WB 194 8 (w0.heap.size + 1 + 1 + 1) V wr
  o : Below w0.heap.size w0 wr
  g : GV wr
theorem MI.below {w0 : World} {H b V : Nat → Nat} {wr w' : World} (h : MI w0 H b V wr) (hb : Below wr.heap.size wr w') : MI w0 H b V w' :=
  ⟨Blk.below h.s hb (Blk.lt h.s), Blk.below h.b hb (Blk.lt h.b), Blk.below h.r hb (Blk.lt h.r), Blk.below h.v hb (Blk.lt h.v), h.o.trans (hb.mono h.o.size), h.g.later hb⟩
theorem MI.drew {w0 : World} {H b V : Nat → Nat} {wr : World} (h : MI w0 H b V wr) : MI w0 H b V wr.drew := h.below (Below.refl _ wr).drew
theorem MI.set {w0 : World} {H b V : Nat → Nat} {wr : World} (h : MI w0 H b V wr) (hg : GV w0) (k x : Nat) : MI w0 H b (upd V k x) (wr.setCell ⟨w0.heap.size + 1 + 1 + 1, k, none⟩ (.int .u32 (x : Nat))) := by
  have := hg.lt
  exact ⟨Blk.set_other h.s (by simp; omega) _, Blk.set_other h.b (by simp) _, Blk.set_other h.r (by simp) _, h.v.set k x, h.o.setCell (by simp; omega) _, h.g.own ((Own.refl _ wr).set k _) (by omega) (by omega)⟩
theorem MI.congr {w0 : World} {H b V V' : Nat → Nat} {wr : World} (h : MI w0 H b V wr) (he : ∀ i, i < 8 → V i = V' i) : MI w0 H b V' wr := ⟨h.s, h.b, h.r, h.v.congr he, h.o, h.g⟩
/-- Behind a row that was turned, and what is new. -/
theorem MI.turned {w0 : World} {H b V V' : Nat → Nat} {wr w' : World} (h : MI w0 H b V wr) (hb : Below (w0.heap.size + 1 + 1 + 1) wr w') (hv : WB 194 8 (w0.heap.size + 1 + 1 + 1) V' w') (hg : GV w0) : MI w0 H b V' w' := by
  have hl := hg.lt
  exact ⟨Blk.below h.s hb (by omega), Blk.below h.b hb (by omega), Blk.below h.r hb (by omega), hv, h.o.trans (hb.mono (by omega)),
    ⟨fun i hi => cell_belowB hb (show 2 < w0.heap.size + 1 + 1 + 1 by omega) (h.g.1 i hi), fun i hi => cell_belowB hb (show 3 < w0.heap.size + 1 + 1 + 1 by omega) (h.g.2 i hi)⟩⟩
def shf (V : Nat → Nat) : Nat → Nat := fun j => if j = 0 then V 0 else V (j - 1)
theorem splice_shf (V : Nat → Nat) : splice (rowW 8 V) 1 (rowW 7 V) = rowW 8 (shf V) := by
  refine List.ext_getElem? fun i => ?_
  rw [splice_get (by rw [rowW_len, rowW_len]; exact Nat.le_refl 8)]
  by_cases h0 : i < 1
  · obtain rfl : i = 0 := by omega
    rw [if_pos (by omega), rowW_get V (by omega), rowW_get (shf V) (by omega)]; rfl
  · rw [if_neg h0, rowW_len]
    by_cases h8 : i < 8
    · rw [if_pos (by omega), rowW_get V (show i - 1 < 7 by omega), rowW_get (shf V) h8]
      show _ = some (Value.int .u32 ((if i = 0 then V 0 else V (i - 1) : Nat) : Int))
      rw [if_neg (by omega)]
    · rw [if_neg (by omega), List.getElem?_eq_none (by rw [rowW_len]; omega), List.getElem?_eq_none (by rw [rowW_len]; omega)]
theorem rd_shf (V : Nat → Nat) (k w j : Nat) : upd (upd (shf V) 4 ((V 3 + t1N V k w) % 4294967296)) 0 ((t1N V k w + t2N V) % 4294967296) j = rdS V k w j := by
  unfold upd rdS shf
  by_cases h0 : j = 0
  · simp only [if_pos h0]
  · simp only [if_neg h0]
theorem allx {x : Nat} (h : x < 4294967296) : 4294967295 ^^^ x = 4294967295 - x := by
  refine Nat.eq_of_testBit_eq fun i => ?_
  rw [show 4294967295 - x = 2 ^ 32 - (x + 1) by omega, Nat.testBit_xor, Nat.testBit_two_pow_sub_succ h, show 4294967295 = 2 ^ 32 - 1 by rfl, Nat.testBit_two_pow_sub_one]
  by_cases hi : i < 32
  · simp [hi]
  · have : x.testBit i = false := Nat.testBit_lt_two_pow (Nat.lt_of_lt_of_le h (by show 2 ^ 32 ≤ 2 ^ i; exact Nat.pow_le_pow_right (by decide) (by omega)))
    simp [hi, this]
set_option maxRecDepth 100000 in
set_option maxHeartbeats 8000000 in
theorem mixed_any (H b : Nat → Nat) (w : World) (hH : ∀ j, j < 8 → H j < 4294967296) (hb : ∀ i, i < 64 → b i < 256) (hg : GV w) :
    Calls Tryd.prog 118 #[.agg (rowW 8 H).toArray, .agg (rowC 64 b).toArray] w fun e w' => e = .returned (.agg (rowW 8 (mixN H b)).toArray) ∧ Below w.heap.size w w' := by
  have hz := zero8w_run
  have HG := Lib.hid hg
  have HL := Lib.hid (fun n => rdK_lt (W := spK b 64) hH n)
  have HHL := Lib.hid hH
  obtain ⟨CH, hCH⟩ : ∃ C, (rowW 8 H).toArray = C := ⟨_, rfl⟩
  obtain ⟨CB, hCB⟩ : ∃ C, (rowC 64 b).toArray = C := ⟨_, rfl⟩
  obtain ⟨E, hE⟩ : ∃ C, (rowW 64 (spK b 64)).toArray = C := ⟨_, rfl⟩
  have HSP : Hid (∀ w', Calls Tryd.prog 120 #[.agg CB] w' fun e w'' => e = .returned (.agg E) ∧ Below w'.heap.size w' w'') := Lib.hid fun w' => by rw [← hCB, ← hE]; exact spread_any b w' hb
  have HIX : Hid (∀ t w', t < 64 → (Instr.index 199 (.agg E) (.int .i64 (t : Nat))).run Tryd.prog w' = .ok (.int .u32 (spK b 64 t : Nat)) w') := Lib.hid fun t w' ht => by rw [← hE]; exact run_index70 _ t ht w'
  have HWL := Lib.hid (fun t => spK_lt hb 64 t)
  have HMX : Hid (mixN H b = fun j => (rdK H (spK b 64) 64 j + H j) % 4294967296) := Lib.hid rfl
  obtain ⟨M, hM⟩ : ∃ M, mixN H b = M := ⟨_, rfl⟩
  rw [hM] at HMX ⊢
  obtain ⟨W, hW⟩ : ∃ W, spK b 64 = W := ⟨_, rfl⟩
  rw [hW] at HL HIX HWL HMX
  have HI1 : Hid ((Tryd.prog.info? 194).map (·.size) = some CH.size) := Lib.hid (by rw [← hCH]; exact info56 H)
  have HO1 : Hid (CH.all (·.oneCell') = true) := Lib.hid (by rw [← hCH]; exact one8w H)
  have HI2 : Hid ((Tryd.prog.info? 169).map (·.size) = some CB.size) := Lib.hid (by rw [← hCB]; exact info57 b)
  obtain ⟨wa, hwa⟩ : ∃ q, (((w.alloc (.cells CH 194)).alloc (.cells CB 169)).alloc (.cells zero8w 194)).alloc (.cells zero8w 194) = q := ⟨_, rfl⟩
  obtain ⟨wb, hwb⟩ : ∃ q, wa.setCells (w.heap.size + 1 + 1 + 1) 0 CH.toList = q := ⟨_, rfl⟩
  have HA : Hid (MI w H b (fun _ => 0) wa) := Lib.hid (by
    have hl := HG.out.lt
    rw [← hwa, ← hCH, ← hCB]
    have hbl : Below w.heap.size w ((((w.alloc (.cells (rowW 8 H).toArray 194)).alloc (.cells (rowC 64 b).toArray 169)).alloc (.cells zero8w 194)).alloc (.cells zero8w 194)) := ((((Below.refl _ _).alloc (Nat.le_refl _) _).alloc (by simp) _).alloc (by simp; omega) _).alloc (by simp; omega) _
    refine ⟨(((Blk.new w _ 194).alloc _).alloc _).alloc _, ?_, ?_, ?_, hbl, HG.out.later hbl⟩
    · have := ((Blk.new (w.alloc (.cells (rowW 8 H).toArray 194)) (rowC 64 b).toArray 169).alloc (.cells zero8w 194)).alloc (.cells zero8w 194)
      show Blk _ _ (rowC 64 b).toArray _; simpa using this
    · have := (Blk.new ((w.alloc (.cells (rowW 8 H).toArray 194)).alloc (.cells (rowC 64 b).toArray 169)) zero8w 194).alloc (.cells zero8w 194)
      show Blk _ _ zero8w _; simpa using this
    · have := Blk.new (((w.alloc (.cells (rowW 8 H).toArray 194)).alloc (.cells (rowC 64 b).toArray 169)).alloc (.cells zero8w 194)) zero8w 194
      show Blk _ _ zero8w _; simpa using this)
  have HT : Hid (MI w H b H wb) := Lib.hid (by
    have hO : Own (w.heap.size + 1 + 1 + 1) wa wb := by rw [← hwb]; exact Own.setCells _ _ _
    refine HA.out.turned (hO.below (Nat.le_refl _) (Nat.le_of_lt (Blk.lt HA.out.v))) ?_ HG.out
    rw [← hwb, ← hCH]
    exact Blk.setCells HA.out.v (rowW 8 H) (by rw [rowW_size, rowW_len]))
  have HTH : Hid (wa.there (w.heap.size + 1 + 1 + 1) 0 CH.size) := Lib.hid (by rw [← hCH]; exact Blk.there HA.out.v (by rw [rowW_size, rowW_size]; exact Nat.le_refl _))
  obtain ⟨w3, hw3⟩ : ∃ q, ((w.alloc (.cells CH 194)).alloc (.cells CB 169)).alloc (.cells zero8w 194) = q := ⟨_, rfl⟩
  have HL3 : Hid (Blk w3 w.heap.size CH 194) := Lib.hid (by rw [← hw3]; exact ((Blk.new w _ 194).alloc _).alloc _)
  have HLB : Hid (Blk wb (w.heap.size + 1) CB 169) := Lib.hid (hCB ▸ HT.out.b)
  have hs3 : w3.heap.size = w.heap.size + 1 + 1 + 1 := by rw [← hw3]; simp
  rw [hw3] at hwa
  rw [hCH, hCB]
  clear hCH hCB hE hM hW hH hb hg HA
  go_enter Tryd.func118, Tryd.ntmps118
  go_wp2_with (first
    | (refine wpList_load_row rfl 194 (.tmp 2) rfl w.heap.size rfl 194 CH (0, 0) _ HL3.out Tryd.underlying194 rfl HI1.out ?_)
    | (refine wpList_store_mid rfl 194 (.tmp 5) (.tmp 13) rfl (w.heap.size + 1 + 1 + 1) 0 CH rfl rfl HTH.out HI1.out HO1.out ?_; rw [hwb])
    | (refine wpList_load_row rfl 169 (.tmp 3) rfl (w.heap.size + 1) rfl 169 CB (0, 0) _ HLB.out Tryd.underlying169 rfl HI2.out ?_))
  clear hz hwb hwa hw3 hs3 HTH HL3 HLB HO1 HI2
  refine (HSP.out _).mono ?_
  rintro e w4 ⟨rfl, hb4⟩
  have H4 := Lib.hid (HT.out.below hb4)
  clear hb4 HT HSP
  go_wp2_with fail
  go_loopw [16] (fun v wr => ∃ t : Nat, t ≤ 64 ∧ v = .int .i64 (t : Int) ∧ MI w H b (rdK H W t) wr) (fun v _ => 64 - (intOf v).toNat)
  case atStart => exact ⟨0, Nat.zero_le _, rfl, H4.out⟩
  case round =>
    clear H4
    obtain ⟨t, ht, rfl, hX⟩ := hrel
    have HX := Lib.hid hX
    clear hX
    by_cases hlt : t < 64
    · have t0 : (0 : Int) ≤ (t : Int) := by omega
      have t1 : (t : Int) < 64 := by omega
      have HIT := Lib.hid (fun w' => HIX.out t w' hlt)
      have HLV := Lib.hid (HL.out t)
      have HNX : Hid (rdK H W (t + 1) = rdS (rdK H W t) (kN t) (W t)) := Lib.hid rfl
      obtain ⟨V, hV⟩ : ∃ V, rdK H W t = V := ⟨_, rfl⟩
      rw [hV] at HX HLV HNX
      have lw := HWL.out t
      obtain ⟨wt, hwt⟩ : ∃ x, W t = x := ⟨_, rfl⟩
      rw [hwt] at HIT lw HNX
      have lk := kN_lt t
      obtain ⟨kt, hkt⟩ : ∃ x, kN t = x := ⟨_, rfl⟩
      rw [hkt] at lk HNX
      obtain ⟨x0, h0⟩ : ∃ x, V 0 = x := ⟨_, rfl⟩
      obtain ⟨x1, h1⟩ : ∃ x, V 1 = x := ⟨_, rfl⟩
      obtain ⟨x2, h2⟩ : ∃ x, V 2 = x := ⟨_, rfl⟩
      obtain ⟨x3, h3⟩ : ∃ x, V 3 = x := ⟨_, rfl⟩
      obtain ⟨x4, h4⟩ : ∃ x, V 4 = x := ⟨_, rfl⟩
      obtain ⟨x5, h5⟩ : ∃ x, V 5 = x := ⟨_, rfl⟩
      obtain ⟨x6, h6⟩ : ∃ x, V 6 = x := ⟨_, rfl⟩
      obtain ⟨x7, h7⟩ : ∃ x, V 7 = x := ⟨_, rfl⟩
      have l0 : x0 < 4294967296 := h0 ▸ HLV.out 0 (by decide)
      have l1 : x1 < 4294967296 := h1 ▸ HLV.out 1 (by decide)
      have l2 : x2 < 4294967296 := h2 ▸ HLV.out 2 (by decide)
      have l3 : x3 < 4294967296 := h3 ▸ HLV.out 3 (by decide)
      have l4 : x4 < 4294967296 := h4 ▸ HLV.out 4 (by decide)
      have l5 : x5 < 4294967296 := h5 ▸ HLV.out 5 (by decide)
      have l6 : x6 < 4294967296 := h6 ▸ HLV.out 6 (by decide)
      have l7 : x7 < 4294967296 := h7 ▸ HLV.out 7 (by decide)
      have ht1 : t1N V kt wt = (x7 + bg1 x4 + chN x4 x5 x6 + kt + wt) % 4294967296 := by unfold t1N; rw [h7, h4, h5, h6]
      have ht2 : t2N V = (bg0 x0 + mjN x0 x1 x2) % 4294967296 := by unfold t2N; rw [h0, h1, h2]
      have HCV : Hid (∀ w', MI w H b V w' → w'.cell? ⟨w.heap.size + 1 + 1 + 1, 0, none⟩ = some (.int .u32 (x0 : Nat)) ∧ w'.cell? ⟨w.heap.size + 1 + 1 + 1, 1, none⟩ = some (.int .u32 (x1 : Nat)) ∧ w'.cell? ⟨w.heap.size + 1 + 1 + 1, 2, none⟩ = some (.int .u32 (x2 : Nat)) ∧ w'.cell? ⟨w.heap.size + 1 + 1 + 1, 3, none⟩ = some (.int .u32 (x3 : Nat)) ∧ w'.cell? ⟨w.heap.size + 1 + 1 + 1, 4, none⟩ = some (.int .u32 (x4 : Nat)) ∧ w'.cell? ⟨w.heap.size + 1 + 1 + 1, 5, none⟩ = some (.int .u32 (x5 : Nat)) ∧ w'.cell? ⟨w.heap.size + 1 + 1 + 1, 6, none⟩ = some (.int .u32 (x6 : Nat)) ∧ w'.cell? ⟨w.heap.size + 1 + 1 + 1, 7, none⟩ = some (.int .u32 (x7 : Nat))) := Lib.hid fun w' h =>
        ⟨h.v.val (by decide) h0, h.v.val (by decide) h1, h.v.val (by decide) h2, h.v.val (by decide) h3, h.v.val (by decide) h4, h.v.val (by decide) h5, h.v.val (by decide) h6, h.v.val (by decide) h7⟩
      have H03 := Lib.hid h3
      have HKT := Lib.hid hkt
      clear h0 h1 h2 h3 h4 h5 h6 h7
      have R6 := Lib.hid (fun w' => ror6_any x4 w' l4)
      have R11 := Lib.hid (fun w' => ror11_any x4 w' l4)
      have R25 := Lib.hid (fun w' => ror25_any x4 w' l4)
      have R2 := Lib.hid (fun w' => ror2_any x0 w' l0)
      have R13 := Lib.hid (fun w' => ror13_any x0 w' l0)
      have R22 := Lib.hid (fun w' => ror22_any x0 w' l0)
      have f1 : bits .xor .u32 (rorN 6 x4 : Nat) (rorN 11 x4 : Nat) = ((rorN 6 x4 ^^^ rorN 11 x4 : Nat) : Int) := u32_xor_nat _ _ (rorN_lt l4) (rorN_lt l4)
      have f2 : bits .xor .u32 ((rorN 6 x4 ^^^ rorN 11 x4 : Nat) : Int) (rorN 25 x4 : Nat) = ((bg1 x4 : Nat) : Int) := u32_xor_nat _ _ (xor32 (rorN_lt l4) (rorN_lt l4)) (rorN_lt l4)
      have g1 : bits .xor .u32 (rorN 2 x0 : Nat) (rorN 13 x0 : Nat) = ((rorN 2 x0 ^^^ rorN 13 x0 : Nat) : Int) := u32_xor_nat _ _ (rorN_lt l0) (rorN_lt l0)
      have g2 : bits .xor .u32 ((rorN 2 x0 ^^^ rorN 13 x0 : Nat) : Int) (rorN 22 x0 : Nat) = ((bg0 x0 : Nat) : Int) := u32_xor_nat _ _ (xor32 (rorN_lt l0) (rorN_lt l0)) (rorN_lt l0)
      have n1 : bits .and .u32 (x4 : Int) (x5 : Int) = ((x4 &&& x5 : Nat) : Int) := u32_and_nat _ _ l4 l5
      have n2 : bits .and .u32 ((4294967295 - x4 : Nat) : Int) (x6 : Int) = (((4294967295 - x4) &&& x6 : Nat) : Int) := u32_and_nat _ _ (by omega) l6
      have n3 : bits .xor .u32 ((x4 &&& x5 : Nat) : Int) (((4294967295 - x4) &&& x6 : Nat) : Int) = ((chN x4 x5 x6 : Nat) : Int) := u32_xor_nat _ _ (and32 (b := x5) l4) (and32 (b := x6) (by omega))
      have n4 : bits .xor .u32 4294967295 (x4 : Int) = ((4294967295 - x4 : Nat) : Int) := by rw [← allx l4]; exact u32_xor_nat 4294967295 x4 (by decide) l4
      have n0 : (if IntKind.u32.signed = true then (-1 : Int) else IntKind.u32.max) = 4294967295 := rfl
      have p1 : bits .and .u32 (x0 : Int) (x1 : Int) = ((x0 &&& x1 : Nat) : Int) := u32_and_nat _ _ l0 l1
      have p2 : bits .and .u32 (x0 : Int) (x2 : Int) = ((x0 &&& x2 : Nat) : Int) := u32_and_nat _ _ l0 l2
      have p3 : bits .and .u32 (x1 : Int) (x2 : Int) = ((x1 &&& x2 : Nat) : Int) := u32_and_nat _ _ l1 l2
      have p4 : bits .xor .u32 ((x0 &&& x1 : Nat) : Int) ((x0 &&& x2 : Nat) : Int) = (((x0 &&& x1) ^^^ (x0 &&& x2) : Nat) : Int) := u32_xor_nat _ _ (and32 (b := x1) l0) (and32 (b := x2) l0)
      have p5 : bits .xor .u32 (((x0 &&& x1) ^^^ (x0 &&& x2) : Nat) : Int) ((x1 &&& x2 : Nat) : Int) = ((mjN x0 x1 x2 : Nat) : Int) := u32_xor_nat _ _ (xor32 (and32 (b := x1) l0) (and32 (b := x2) l0)) (and32 (b := x2) l1)
      generalize rorN 6 x4 ^^^ rorN 11 x4 = o1 at *
      generalize rorN 2 x0 ^^^ rorN 13 x0 = o2 at *
      generalize rorN 6 x4 = o3 at *
      generalize rorN 11 x4 = o4 at *
      generalize rorN 25 x4 = o5 at *
      generalize rorN 2 x0 = o6 at *
      generalize rorN 13 x0 = o7 at *
      generalize rorN 22 x0 = o8 at *
      generalize bg1 x4 = B1 at *
      generalize bg0 x0 = B0 at *
      generalize chN x4 x5 x6 = ch at *
      generalize mjN x0 x1 x2 = mj at *
      generalize (x0 &&& x1) ^^^ (x0 &&& x2) = o9 at *
      generalize x4 &&& x5 = oa at *
      generalize (4294967295 - x4) &&& x6 = ob at *
      generalize x0 &&& x1 = oc at *
      generalize x0 &&& x2 = od at *
      generalize x1 &&& x2 = oe at *
      generalize 4294967295 - x4 = nx at *
      obtain ⟨v1, hv1⟩ : ∃ v, (x7 + B1) % 4294967296 = v := ⟨_, rfl⟩
      obtain ⟨v2, hv2⟩ : ∃ v, (v1 + ch) % 4294967296 = v := ⟨_, rfl⟩
      obtain ⟨v3, hv3⟩ : ∃ v, (v2 + kt) % 4294967296 = v := ⟨_, rfl⟩
      obtain ⟨T1, hT1⟩ : ∃ v, t1N V kt wt = v := ⟨_, rfl⟩
      obtain ⟨T2, hT2⟩ : ∃ v, t2N V = v := ⟨_, rfl⟩
      obtain ⟨U4, hU4⟩ : ∃ v, (x3 + T1) % 4294967296 = v := ⟨_, rfl⟩
      obtain ⟨U0, hU0⟩ : ∃ v, (T1 + T2) % 4294967296 = v := ⟨_, rfl⟩
      rw [hT1] at ht1
      rw [hT2] at ht2
      have s1 := u32m (x7 : Int) (B1 : Int) rfl rfl hv1
      have s2 := u32m (v1 : Int) (ch : Int) rfl rfl hv2
      have s3 := u32m (v2 : Int) (kt : Int) rfl rfl hv3
      have s4 := u32m (v3 : Int) (wt : Int) (e := T1) rfl rfl (by omega)
      have s5 := u32m (B0 : Int) (mj : Int) rfl rfl ht2.symm
      have s6 := u32m (x3 : Int) (T1 : Int) rfl rfl hU4
      have s7 := u32m (T1 : Int) (T2 : Int) rfl rfl hU0
      have HRD : Hid (∀ j, upd (upd (shf V) 4 U4) 0 U0 j = rdK H W (t + 1) j) := Lib.hid fun j => by
        rw [HNX.out, ← rd_shf V kt wt j, hT1, hT2, H03.out, hU4, hU0]
      have HTT := Lib.hid hlt
      have HS6 := Lib.hid s6
      have HS7 := Lib.hid s7
      clear hv1 hv2 hv3 ht1 ht2 hT1 hT2 hU4 hU0 l0 l1 l2 l3 l4 l5 l6 l7 lw lk hV hwt hkt hlt ht s6 s7
      go_wp2_with (first | (refine wpList_value rfl (exec_index (.tmp 15) (.tmp 16) rfl rfl rfl (HIT.out _)) ?_))
      have HP0 := Lib.hid HX.out.drew
      have c := HCV.out _ HP0.out
      have c0 := c.1
      have c4 := c.2.2.2.2.1
      clear c HX
      refine still_lit (by kernel_rfl) (by kernel_rfl) ?_
      generalize wr.drew = W0 at *
      repeat still_step
      refine wpStill_nil ?_
      clear c0 c4
      go_wp2_with fail
      have HP1 := Lib.hid HP0.out.drew
      have c := HCV.out _ HP1.out
      have c5 := c.2.2.2.2.2.1
      have c6 := c.2.2.2.2.2.2.1
      have c7 := c.2.2.2.2.2.2.2
      have ck := HP1.out.g.2 t HTT.out
      rw [HKT.out] at ck
      clear c HP0
      refine still_lit (by kernel_rfl) (by kernel_rfl) ?_
      generalize W0.drew = W1 at *
      repeat still_step
      refine wpStill_step (fun K hK => ?_)
      go_simp
      with_reducible refine ⟨_, R6.out _, hK _ ?_⟩
      clear hK K
      repeat still_step
      refine wpStill_step (fun K hK => ?_)
      go_simp
      with_reducible refine ⟨_, R11.out _, hK _ ?_⟩
      clear hK K
      repeat still_step
      refine wpStill_step (fun K hK => ?_)
      go_simp
      with_reducible refine ⟨_, R25.out _, hK _ ?_⟩
      clear hK K
      repeat still_step
      refine wpStill_nil ?_
      clear c5 c6 c7 ck R6 R11 R25 f1 f2 n0 n1 n2 n3 n4 s1 s2 s3 s4
      go_wp2_with fail
      have HP2 := Lib.hid HP1.out.drew
      have c := HCV.out _ HP2.out
      have c1 := c.2.1
      have c2 := c.2.2.1
      clear c HP1
      refine still_lit (by kernel_rfl) (by kernel_rfl) ?_
      generalize W1.drew = W2 at *
      repeat still_step
      refine wpStill_step (fun K hK => ?_)
      go_simp
      with_reducible refine ⟨_, R2.out _, hK _ ?_⟩
      clear hK K
      repeat still_step
      refine wpStill_step (fun K hK => ?_)
      go_simp
      with_reducible refine ⟨_, R13.out _, hK _ ?_⟩
      clear hK K
      repeat still_step
      refine wpStill_step (fun K hK => ?_)
      go_simp
      with_reducible refine ⟨_, R22.out _, hK _ ?_⟩
      clear hK K
      repeat still_step
      refine wpStill_nil ?_
      clear c1 c2 R2 R13 R22 g1 g2 p1 p2 p3 p4 p5 s5
      go_wp2_with fail
      have HP3 := Lib.hid HP2.out.drew
      clear HP2
      have HSRC : Hid (∀ j v, (rowW 7 V)[j]? = some v → W2.drew.cell? ((⟨(w.heap.size + 1 + 1 + 1), 0, none⟩ : Addr).add j) = some v) := Lib.hid fun j v hv => by
        have hj : j < 7 := by have := (List.getElem?_eq_some_iff.1 hv).1; rw [rowW_len] at this; exact this
        rw [rowW_get V hj] at hv
        rw [Addr.add_mid, Nat.zero_add, HP3.out.v.cell (show j < 8 by omega)]; exact hv
      refine still_tail 2 (by kernel_rfl) (by kernel_rfl) ?_
      simp only [List.take_succ_cons, List.take_zero, List.drop_succ_cons, List.drop_zero]
      generalize W2.drew = W3 at *
      repeat still_step
      refine wpStill_nil ?_
      refine wpList_copy_splice rfl (.tmp 76) (.tmp 77) 202 202 rfl 193 Tryd.underlying202 info_u32 (some ⟨(w.heap.size + 1 + 1 + 1), 1, none⟩) (some ⟨(w.heap.size + 1 + 1 + 1), 0, none⟩) 7 7 7 8 rfl rfl (w.heap.size + 1 + 1 + 1) 1 (rowW 8 V) 194 HP3.out.v (rowW 7 V) (by rw [rowW_len]; rfl) (fun _ => ⟨rfl, _, rfl, HSRC.out⟩) (by rw [rowW_len, rowW_len]; exact Nat.le_refl 8) (rowW_one _ _) (w.heap.size + 1 + 1 + 1) W3 (Below.refl _ _) (Nat.le_refl _) ?_
      intro w5 HG5 hB5
      have HX5 : Hid (MI w H b (shf V) w5) := Lib.hid (HP3.out.turned hB5 (by have := HG5.out; rw [splice_shf] at this; exact this) HG.out)
      obtain ⟨w6, hw6⟩ : ∃ q, w5.setCell ⟨(w.heap.size + 1 + 1 + 1), 4, none⟩ (.int .u32 (U4 : Nat)) = q := ⟨_, rfl⟩
      have HX6 : Hid (MI w H b (upd (shf V) 4 U4) w6) := Lib.hid (by rw [← hw6]; exact HX5.out.set HG.out 4 U4)
      have c4 : w5.cell? ⟨(w.heap.size + 1 + 1 + 1), 4, none⟩ = some (.int .u32 (x3 : Nat)) := HX5.out.v.val (by decide) H03.out
      have z4 : w5.frozen? ⟨(w.heap.size + 1 + 1 + 1), 4, none⟩ = false := HX5.out.v.free _
      have c0 := HX6.out.v.cell (i := 0) (by decide)
      have z0 : w6.frozen? ⟨(w.heap.size + 1 + 1 + 1), 0, none⟩ = false := HX6.out.v.free _
      have HN : Hid (MI w H b (rdK H W (t + 1)) (w6.setCell ⟨(w.heap.size + 1 + 1 + 1), 0, none⟩ (.int .u32 (U0 : Nat)))) := Lib.hid ((HX6.out.set HG.out 0 U0).congr fun j _ => HRD.out j)
      have s6 := HS6.out
      have s7 := HS7.out
      generalize upd (shf V) 4 U4 0 = q0 at *
      clear HG5 hB5 HP3 HSRC HX5 HX6 HRD HS6 HS7 HCV HNX HKT H03
      have HTT' := HTT.out
      rw [show (rowW 7 V).length = 7 from rowW_len 7 V]
      go_wp2_with fail
      go_roundw
      case rel => exact ⟨t + 1, by omega, by go_num, HN.out⟩
      case measure => simp [intOf] <;> omega
    · obtain rfl : t = 64 := by omega
      obtain ⟨R, hR⟩ : ∃ R, rdK H W 64 = R := ⟨_, rfl⟩
      have HRL := Lib.hid (HL.out 64)
      rw [hR] at HX HMX HRL
      have HMJ : Hid (∀ j, (R j + H j) % 4294967296 = M j) := Lib.hid fun j => by rw [HMX.out]
      clear hR hlt ht HMX HL HIX HWL
      rw [show ((64 : Nat) : Int) = 64 from rfl]
      go_wp2_with fail
      go_loopw [89] (fun v wr => ∃ i : Nat, i ≤ 8 ∧ v = .int .i64 (i : Int) ∧ MI w H b (fun j => if j < i then M j else R j) wr) (fun v _ => 8 - (intOf v).toNat)
      case atStart => exact ⟨0, Nat.zero_le _, rfl, HX.out.congr fun i _ => (if_neg (Nat.not_lt_zero _)).symm⟩
      case round =>
        clear HX
        obtain ⟨i, hi, rfl, hX⟩ := hrel
        have HX := Lib.hid hX
        clear hX
        by_cases hli : i < 8
        · have i0 : (0 : Int) ≤ (i : Int) := by omega
          have i1 : (i : Int) < 8 := by omega
          obtain ⟨x, hx⟩ : ∃ x, R i = x := ⟨_, rfl⟩
          obtain ⟨y, hy⟩ : ∃ x, H i = x := ⟨_, rfl⟩
          obtain ⟨z, hz⟩ : ∃ x, M i = x := ⟨_, rfl⟩
          have hs := HMJ.out i
          rw [hx, hy, hz] at hs
          have s1 := u32m (x : Int) (y : Int) rfl rfl hs
          have HP := Lib.hid HX.out.drew
          have ca : wr.drew.cell? ⟨(w.heap.size + 1 + 1 + 1), i, none⟩ = some (.int .u32 (x : Nat)) := HP.out.v.val hli (by rw [← hx]; exact if_neg (Nat.lt_irrefl _))
          have za : wr.drew.frozen? ⟨(w.heap.size + 1 + 1 + 1), i, none⟩ = false := HP.out.v.free _
          have cb : wr.drew.cell? ⟨w.heap.size, i, none⟩ = some (.int .u32 (y : Nat)) := HP.out.s.val hli hy
          have HN : Hid (MI w H b (fun j => if j < i + 1 then M j else R j) (wr.drew.setCell ⟨(w.heap.size + 1 + 1 + 1), i, none⟩ (.int .u32 (z : Nat)))) := Lib.hid ((HP.out.set HG.out i z).congr fun j _ => by
            unfold upd
            by_cases e : j = i
            · rw [if_pos e, e, if_pos (by omega), hz]
            · rw [if_neg e]
              show (if j < i then M j else R j) = if j < i + 1 then M j else R j
              by_cases h5 : j < i
              · rw [if_pos h5, if_pos (by omega)]
              · rw [if_neg h5, if_neg (by omega)])
          clear hs hx hy hz HX HP hli hi
          go_wp2_with fail
          refine still_tail 8 (by kernel_rfl) (by kernel_rfl) ?_
          simp only [List.take_succ_cons, List.take_zero, List.drop_succ_cons, List.drop_zero]
          generalize wr.drew = W0 at *
          repeat still_step
          refine wpStill_nil ?_
          clear cb s1
          go_wp2_with fail
          go_roundw
          case rel => exact ⟨i + 1, by omega, by go_num, HN.out⟩
          case measure => simp [intOf] <;> omega
        · obtain rfl : i = 8 := by omega
          have hY : WB 194 8 (w.heap.size + 1 + 1 + 1) M wr := HX.out.v.congr fun j hj => if_pos hj
          have hN : WB 194 8 (w.heap.size + 1 + 1) M (wr.setCells (w.heap.size + 1 + 1) 0 (rowW 8 M).toArray.toList) := Blk.setCells HX.out.r (rowW 8 M) (by rw [rowW_size, rowW_len])
          have hO : Below w.heap.size w (wr.setCells (w.heap.size + 1 + 1) 0 (rowW 8 M).toArray.toList) := HX.out.o.trans ((Own.setCells _ 0 wr).below (by omega) HX.out.o.size)
          have hTH : wr.there (w.heap.size + 1 + 1) 0 (rowW 8 M).toArray.size := Blk.there HX.out.r (by rw [rowW_size, rowW_size]; exact Nat.le_refl _)
          have hI := info56 M
          have hI1 := one8w M
          obtain ⟨E, hE⟩ : ∃ C, (rowW 8 M).toArray = C := ⟨_, rfl⟩
          unfold WB at hN hY
          rw [hE] at hN hY hO hTH hI hI1
          have HN := Lib.hid hN
          have HY := Lib.hid hY
          have HO := Lib.hid hO
          have HTH := Lib.hid hTH
          have HI := Lib.hid hI
          have HI1 := Lib.hid hI1
          have HE := Lib.hid hE
          clear hN hY hO hTH hI hI1 hE hli hi HX
          go_wp2_with (first
            | (refine wpList_load_row rfl 194 (.tmp 5) rfl (w.heap.size + 1 + 1 + 1) rfl 194 E (0, 0) _ HY.out Tryd.underlying194 rfl HI.out ?_)
            | (refine wpList_store_mid rfl 194 (.tmp 4) (.tmp 101) rfl (w.heap.size + 1 + 1) 0 E rfl rfl HTH.out HI.out HI1.out ?_))
          refine bodyPost_ret (v := .agg E) ?_ rfl ⟨by rw [HE.out], HO.out⟩
          exact results_cell_row Tryd.results118 _ _ (w.heap.size + 1 + 1) 194 E (0, 0) _ rfl HN.out Tryd.underlying194 rfl HI.out
end Go.Proofs.YtmabhjifldafaaaDoor
