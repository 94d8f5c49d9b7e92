/- Leases without those that begin so, without those of some tokens. -/
import Derived.Test.YtgfjlgaleddoaaaGreatDoorLe5
namespace Go.Proofs.YtgfjlgaleddoaaaGreatDoor
set_option linter.unusedVariables false
set_option linter.unusedSimpArgs false
open Go.RowKit
def pxB (p : ByteArray) (x : LE) : Bool := Lib.hasPrefix x.pth.data.toList p.data.toList
set_option maxRecDepth 100000 in
set_option maxHeartbeats 2000000 in
theorem px_any (x : LE) (b : Nat) (p : ByteArray) (w : World) (hb : b < w.heap.size) (hc : w.cell? ⟨b, 0, none⟩ = some (.string p)) :
    Calls Tryz.prog 44 #[.agg (leL x).toArray, .pointer (some ⟨b, 0, none⟩)] w fun e w' => e = .returned (.bool (pxB p x)) ∧ Below w.heap.size w w' := by
  have HC := Lib.hid (fun w => Tryz.strings_HasPrefix x.pth p w)
  have hc2 : (w.alloc (.cells (leL x).toArray 33)).cell? ⟨b, 0, none⟩ = some (.string p) := by rw [← hc]; exact World.cell?_alloc_lt _ _ ⟨b, 0, none⟩ hb
  unfold leL at *
  unfold pxB
  go_enter Tryz.func44, Tryz.ntmps44
  go_wp2_with (first | (refine (HC.out _).mono ?_; rintro e w2 ⟨rfl, hw2⟩; rw [hw2]) | fail)
  go_ret
  exact ⟨rfl, (Below.refl _ _).alloc (Nat.le_refl _) _⟩
def ofB (m : Nat) (S : Nat → ByteArray) (x : LE) : Bool := Lib.containsS ((List.range m).map S) x.tok
theorem contains_any (oa : Option Addr) (m c : Nat) (S : Nat → ByteArray) (s : ByteArray) (w : World) (hS : CK 1 w oa m (stC S)) (hm : m ≤ maxLen) :
    Calls Tryz.prog 47 #[.slice oa m c, .string s] w fun e w' => e = .returned (.bool (Lib.containsS ((List.range m).map S) s)) ∧ w' = w := by
  rcases Nat.eq_zero_or_pos m with h0 | h0
  · subst h0; exact Tryz.slices_Contains_string_empty oa c s w
  · obtain ⟨b, off, rfl, _⟩ := hS 0 h0
    have h9 := Tryz.slices_Contains_string b off m c ((List.range m).map S) s w (by simp) (by unfold maxLen at hm; omega) (fun j hj => by
      have hj : j < m := by simpa using hj
      obtain ⟨_, _, e, hr⟩ := hS j hj
      cases e
      have h8 := hr 0 (.string (S j)) rfl
      rw [Nat.add_zero, Nat.mul_one] at h8
      rw [h8, List.getD_eq_getElem?_getD]; simp [hj])
    rw [List.take_of_length_le (by simp)] at h9
    exact h9
set_option maxRecDepth 100000 in
set_option maxHeartbeats 2000000 in
theorem of_any (x : LE) (b m c : Nat) (oa : Option Addr) (S : Nat → ByteArray) (w : World) (hb : b < w.heap.size) (hc : w.cell? ⟨b, 0, none⟩ = some (.slice oa m c)) (hS : CK 1 w oa m (stC S)) (hm : m ≤ maxLen) :
    Calls Tryz.prog 46 #[.agg (leL x).toArray, .pointer (some ⟨b, 0, none⟩)] w fun e w' => e = .returned (.bool (ofB m S x)) ∧ Below w.heap.size w w' := by
  have HC := Lib.hid (contains_any oa m c S x.tok (w.alloc (.cells (leL x).toArray 33)) (hS.later ((Below.refl _ _).alloc (Nat.le_refl _) _)) hm)
  have hc2 : (w.alloc (.cells (leL x).toArray 33)).cell? ⟨b, 0, none⟩ = some (.slice oa m c) := by rw [← hc]; exact World.cell?_alloc_lt _ _ ⟨b, 0, none⟩ hb
  unfold leL at *
  unfold ofB
  clear hS
  go_enter Tryz.func46, Tryz.ntmps46
  go_wp2_with (first | (refine HC.out.mono ?_; rintro e w2 ⟨rfl, hw2⟩; rw [hw2]) | fail)
  go_ret
  exact ⟨rfl, (Below.refl _ _).alloc (Nat.le_refl _) _⟩
/-- What is left, and the numbers of what went. -/
def PxR (X : Nat → LE) (P : Nat → Bool) (n : Nat) (w : World) (e : Ending) (w' : World) : Prop := ∃ oa ca ob cb, e = .returned (.tuple #[.slice oa (fl (nt P) n).length ca, .slice ob (fl P n).length cb]) ∧
  CK 5 w' oa (fl (nt P) n).length (leC (ixL X (fl (nt P) n))) ∧ CK 1 w' ob (fl P n).length (stC (ixS X (fl P n))) ∧ Below w.heap.size w w'
theorem PxR.of {X : Nat → LE} {P : Nat → Bool} {n : Nat} {w w1 w' : World} {va vb : Value} (h : TR X w1 (fl (nt P) n) (fl P n) va vb w') (hb : Below w.heap.size w w1) : PxR X P n w (.returned (.tuple #[va, vb])) w' := by
  obtain ⟨oa, ca, rfl, -, -, -, -, h1⟩ := h.l.out (fun _ => rfl) (by decide)
  obtain ⟨ob, cb, rfl, -, -, -, -, h2⟩ := h.g.out (fun _ => rfl) (by decide)
  exact ⟨oa, ca, ob, cb, rfl, h1, h2, hb.trans (h.o.mono hb.size)⟩
set_option maxRecDepth 100000 in
set_option maxHeartbeats 2000000 in
theorem prefix_any (oa : Option Addr) (n c : Nat) (X : Nat → LE) (p : ByteArray) (w : World) (hX : CK 5 w oa n (leC X)) (hn : n ≤ maxLen) (hL : ∀ i, i < n → LES (X i)) (hc : ckB n X = true) :
    Calls Tryz.prog 16 #[.slice oa n c, .string p] w (PxR X (fun i => pxB p (X i)) n w) := by
  obtain ⟨w1, hw1⟩ : ∃ y, w.alloc (.cells #[.string p] 9) = y := ⟨_, rfl⟩
  obtain ⟨g, hg⟩ : ∃ y, w.heap.size = y := ⟨_, rfl⟩
  have hb1 : Below w.heap.size w w1 := by rw [← hw1]; exact (Below.refl _ _).alloc (Nat.le_refl _) _
  have hB : Blk w1 g #[.string p] 9 := by rw [← hw1, ← hg]; exact Blk.new _ _ _
  have HB1 := Lib.hid hb1
  have HC := Lib.hid (without_px oa n c g X w1 (fun i => pxB p (X i)) (hX.later hb1) hn hL hc fun w' hb i _ => px_any (X i) g p w' (Nat.lt_of_lt_of_le (Blk.lt hB) hb.size) (cell_below hb (by rw [Blk.cell hB]; rfl)))
  clear hb1 hB hX hL hc
  go_enter Tryz.func16, Tryz.ntmps16
  go_wp2_with fail
  refine HC.out.mono ?_
  rintro e w2 ⟨va, vb, rfl, hT⟩
  have HT := Lib.hid hT
  clear hT
  go_wp2_with fail
  refine bodyPost_ret (v := .tuple #[va, vb]) (results_tmp2 (fn := Tryz.f16) (t := 4) (u := 5) rfl _ _ _) rfl (PxR.of HT.out HB1.out)
set_option maxRecDepth 100000 in
set_option maxHeartbeats 2000000 in
theorem lof_any (oa ob : Option Addr) (n c m d : Nat) (X : Nat → LE) (S : Nat → ByteArray) (w : World) (hX : CK 5 w oa n (leC X)) (hn : n ≤ maxLen) (hL : ∀ i, i < n → LES (X i)) (hc : ckB n X = true) (hS : CK 1 w ob m (stC S)) (hm : m ≤ maxLen) :
    Calls Tryz.prog 17 #[.slice oa n c, .slice ob m d] w (PxR X (fun i => ofB m S (X i)) n w) := by
  obtain ⟨w1, hw1⟩ : ∃ y, w.alloc (.cells #[.slice ob m d] 42) = y := ⟨_, rfl⟩
  obtain ⟨g, hg⟩ : ∃ y, w.heap.size = y := ⟨_, rfl⟩
  have hb1 : Below w.heap.size w w1 := by rw [← hw1]; exact (Below.refl _ _).alloc (Nat.le_refl _) _
  have hB : Blk w1 g #[.slice ob m d] 42 := by rw [← hw1, ← hg]; exact Blk.new _ _ _
  have HB1 := Lib.hid hb1
  have HC := Lib.hid (without_of oa n c g X w1 (fun i => ofB m S (X i)) (hX.later hb1) hn hL hc fun w' hb i _ => of_any (X i) g m d ob S w' (Nat.lt_of_lt_of_le (Blk.lt hB) hb.size) (cell_below hb (by rw [Blk.cell hB]; rfl)) ((hS.later hb1).later hb) hm)
  clear hb1 hB hX hL hc
  go_enter Tryz.func17, Tryz.ntmps17
  go_wp2_with fail
  refine HC.out.mono ?_
  rintro e w2 ⟨va, vb, rfl, hT⟩
  have HT := Lib.hid hT
  clear hT
  go_wp2_with fail
  refine bodyPost_ret (v := .tuple #[va, vb]) (results_tmp2 (fn := Tryz.f17) (t := 4) (u := 5) rfl _ _ _) rfl (PxR.of HT.out HB1.out)
end Go.Proofs.YtgfjlgaleddoaaaGreatDoor
