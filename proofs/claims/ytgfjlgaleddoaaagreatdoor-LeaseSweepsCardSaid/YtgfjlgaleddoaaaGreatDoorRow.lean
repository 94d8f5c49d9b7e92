/- Rows of bytes in a block of their own: made, written, read. -/
import Derived.Test.YtgfjlgaleddoaaaGreatDoorCame
import Derived.Test.YtgfjlgaleddoaaaGreatDoorProg
import Derived.WalkKit
import Derived.Laws.OwnMore
import Derived.Laws.BytesArg
import Derived.OwnWalk
import Derived.Maps.AppendAt
namespace Go.Proofs.YtgfjlgaleddoaaaGreatDoor
set_option linter.unusedVariables false
set_option linter.unusedSimpArgs false
open Go.RowKit

/-- A row's cells, as a function tells them. -/
def rowC (n : Nat) (f : Nat → Nat) : List Value := (List.range n).map fun i => Value.int .u8 (f i : Nat)
/-- A function, turned at one place. -/
def upd (f : Nat → Nat) (k x : Nat) : Nat → Nat := fun i => if i = k then x else f i
theorem rowC_len (n : Nat) (f : Nat → Nat) : (rowC n f).length = n := by simp [rowC]
theorem rowC_get {n : Nat} (f : Nat → Nat) {i : Nat} (h : i < n) : (rowC n f)[i]? = some (.int .u8 (f i : Nat)) := by
  unfold rowC; rw [List.getElem?_map, List.getElem?_range h]; rfl
theorem rowC_set (n : Nat) (f : Nat → Nat) (k x : Nat) : (rowC n f).set k (.int .u8 (x : Nat)) = rowC n (upd f k x) := by
  refine List.ext_getElem? fun i => ?_
  by_cases hi : i < n
  · rw [rowC_get _ hi]
    by_cases e : i = k
    · subst e; rw [List.getElem?_set_self (by rw [rowC_len]; exact hi)]; simp [upd]
    · rw [List.getElem?_set_ne (Ne.symm e), rowC_get _ hi]; simp [upd, e]
  · rw [List.getElem?_eq_none (by rw [List.length_set, rowC_len]; omega), List.getElem?_eq_none (by rw [rowC_len]; omega)]
theorem rowC_zero (n : Nat) : List.replicate n (Value.int .u8 0) = rowC n (fun _ => 0) := by
  refine List.ext_getElem? fun i => ?_
  by_cases hi : i < n
  · rw [rowC_get _ hi, List.getElem?_replicate, if_pos hi]; rfl
  · rw [List.getElem?_eq_none (by simp; omega), List.getElem?_eq_none (by rw [rowC_len]; omega)]
theorem rowC_congr {n : Nat} {f g : Nat → Nat} (h : ∀ i, i < n → f i = g i) : rowC n f = rowC n g := by
  unfold rowC; exact List.map_congr_left fun i hi => by rw [h i (List.mem_range.1 hi)]
theorem rowC_succ (n : Nat) (f : Nat → Nat) : rowC (n + 1) f = rowC n f ++ [.int .u8 (f n : Nat)] := by
  unfold rowC; rw [List.range_succ, List.map_append]; rfl
theorem rowC_one (n : Nat) (f : Nat → Nat) : ∀ v ∈ rowC n f, v.oneCell' = true := by
  intro v hv; unfold rowC at hv; obtain ⟨i, _, rfl⟩ := List.mem_map.1 hv; rfl

/-- A row of bytes in block g. -/
def Row (w : World) (g n : Nat) (f : Nat → Nat) : Prop := Blk w g (rowC n f).toArray 5
theorem Row.bytes {w : World} {g n : Nat} {f : Nat → Nat} (h : Row w g n f) (hf : ∀ i, i < n → f i < 256) : Bytes w (some ⟨g, 0, none⟩) n f := fun k hk =>
  ⟨hf k hk, g, 0, rfl, by rw [Nat.zero_add, Blk.cell h k]; simpa using rowC_get f hk⟩
theorem Row.cell {w : World} {g n : Nat} {f : Nat → Nat} (h : Row w g n f) {i : Nat} (hi : i < n) : w.cell? ⟨g, i, none⟩ = some (.int .u8 (f i : Nat)) := by
  rw [Blk.cell h i]; simpa using rowC_get f hi
theorem Row.set {w : World} {g n : Nat} {f : Nat → Nat} (h : Row w g n f) (k x : Nat) : Row (w.setCell ⟨g, k, none⟩ (.int .u8 (x : Nat))) g n (upd f k x) := by
  have := Blk.set h k (.int .u8 (x : Nat))
  rw [List.setIfInBounds_toArray, rowC_set] at this; exact this
theorem Row.own {w w' : World} {g n b : Nat} {f : Nat → Nat} (h : Row w g n f) (hO : Own b w w') (hn : g ≠ b) : Row w' g n f := hO.blk h hn
theorem Row.later {w w' : World} {g n : Nat} {f : Nat → Nat} (h : Row w g n f) (hb : Below w.heap.size w w') : Row w' g n f := Blk.below h hb (Blk.lt h)
theorem Row.lt {w : World} {g n : Nat} {f : Nat → Nat} (h : Row w g n f) : g < w.heap.size := Blk.lt h
theorem Row.drew {w : World} {g n : Nat} {f : Nat → Nat} (h : Row w g n f) : Row w.drew g n f := h
theorem Row.made {w : World} {base g n : Nat} (h : w.ownsRow base 5 1 (.slice (some ⟨g, 0, none⟩) n n) n (madeCells #[.int .u8 0] n).toList) : Row w g n (fun _ => 0) := by
  rcases h.2 with ⟨h1, _⟩ | ⟨g', cap, cur, hv, _, hh, _, _, hsz, hcur⟩
  · cases h1
  · cases hv
    rw [toList_madeCells_one, Nat.mul_one, rowC_zero] at hcur
    have e : cur.toList = rowC n (fun _ => 0) := by
      rw [← hcur, List.take_of_length_le]
      simpa using Nat.le_of_eq hsz
    unfold Row Blk
    rw [hh, ← e]
theorem info_u8 : (Tryz.prog.info? 5).map (fun i => (i.zero, i.size, i.bytes)) = some (some (.int .u8 0), 1, 1) := by kernel_rfl
theorem Own.grown {b : Nat} {w w1 w2 : World} (h : Own b w w1) (hg : w1.grownBy w2 none) : Own b w w2 :=
  h.trans ⟨hg.os, hg.tape, hg.output, hg.size, fun k hk _ => hg.block k hk (by simp)⟩
theorem Below.grown0 {B : Nat} {w w1 w2 : World} (h : Below B w w1) (hg : w1.grownBy w2 none) (hB : B ≤ w1.heap.size) : Below B w w2 := h.grown hg hB (fun _ h => by cases h)
theorem below_grown {w w1 : World} (hg : w.grownBy w1 none) : Below w.heap.size w w1 := (Below.refl _ w).grown hg (Nat.le_refl _) (fun _ h => by cases h)

/-- The bytes of an owned row. -/
theorem row_cells {w : World} {base : Nat} {e : TypeId} {v : Value} {n : Nat} {xs : List Value} (h : w.ownsRow base e 1 v n xs) (hn : 0 < n) :
    ∃ g cap, v = .slice (some ⟨g, 0, none⟩) n cap ∧ base ≤ g ∧ n ≤ cap ∧ cap ≤ maxLen ∧ ∀ i, i < n → w.cell? ⟨g, i, none⟩ = xs[i]? := by
  rcases h.2 with ⟨_, h0⟩ | ⟨g, cap, cur, hv, hb, hh, hnc, hm, hsz, hcur⟩
  · omega
  · refine ⟨g, cap, hv, hb, hnc, hm, fun i hi => ?_⟩
    have h1 : w.cell? ⟨g, i, none⟩ = cur[i]? := by simp [World.cell?, hh]
    rw [h1, ← hcur, List.getElem?_take_of_lt (by omega)]
    simp
theorem owned_bytes {w : World} {base : Nat} {v : Value} {n : Nat} {f : Nat → Nat} (h : w.ownsRow base 5 1 v n (rowC n f)) (hf : ∀ i, i < n → f i < 256) :
    ∃ oa cap, v = .slice oa n cap ∧ Bytes w oa n f ∧ (∀ a, oa = some a → base ≤ a.block) := by
  by_cases h0 : n = 0
  · subst h0
    rcases h.2 with ⟨rfl, _⟩ | ⟨g, cap, cur, rfl, hb, _⟩
    · exact ⟨none, 0, rfl, fun k hk => absurd hk (Nat.not_lt_zero _), fun a h => by cases h⟩
    · exact ⟨_, cap, rfl, fun k hk => absurd hk (Nat.not_lt_zero _), fun a h => by cases h; exact hb⟩
  · obtain ⟨g, cap, rfl, hb, _, _, hc⟩ := row_cells h (by omega)
    exact ⟨_, cap, rfl, fun k hk => ⟨hf k hk, g, 0, rfl, by rw [Nat.zero_add, hc k hk, rowC_get f hk]⟩, fun a h => by cases h; exact hb⟩

/-- Bytes as a string. -/
def strF (n : Nat) (f : Nat → Nat) : ByteArray := strOfNums ((List.range n).map fun i => (f i : Int))
theorem conv_bytes {T E S : TypeId} (hT : Tryz.prog.underlying T = some (.slice E)) (hE : Tryz.prog.underlying E = some (.int .u8)) (hS : Tryz.prog.underlying S = some .string)
    {w : World} {oa : Option Addr} {n cap : Nat} {f : Nat → Nat} (h : Bytes w oa n f) (hn : 0 < n) : (convert T S (.slice oa n cap)).run Tryz.prog w = .ok (.string (strF n f)) w := by
  obtain ⟨_, b, off, rfl, _⟩ := h 0 hn
  refine run_convert_bytes_arg w T E hT hE b off n cap _ (by simp) (fun i hi => ?_) S hS
  obtain ⟨_, b', off', e, hc⟩ := h i hi
  cases e
  rw [hc, List.getD_eq_getElem?_getD, List.getElem?_map, List.getElem?_range hi]; rfl
theorem strF_congr {n : Nat} {f g : Nat → Nat} (h : ∀ i, i < n → f i = g i) : strF n f = strF n g := by
  unfold strF; rw [List.map_congr_left fun i hi => by rw [h i (List.mem_range.1 hi)]]
theorem strF_inj {n m : Nat} {f g : Nat → Nat} (hf : ∀ i, i < n → f i < 256) (hg : ∀ i, i < m → g i < 256) (h : strF n f = strF m g) : n = m ∧ ∀ i, i < n → f i = g i := by
  have hd := congrArg (fun s => s.data.toList) h
  simp only [strF, strOfNums_data, List.map_map] at hd
  have hl := congrArg List.length hd
  simp at hl
  subst hl
  refine ⟨rfl, fun i hi => ?_⟩
  have hi2 := congrArg (fun l : List UInt8 => l[i]?) hd
  simp only [List.getElem?_map, List.getElem?_range hi, Option.map_some, Option.some.injEq, Function.comp] at hi2
  have h3 := congrArg UInt8.toNat hi2
  have a1 := hf i hi
  have a2 := hg i hi
  simp [UInt8.toNat_ofNat] at h3
  omega
end Go.Proofs.YtgfjlgaleddoaaaGreatDoor
