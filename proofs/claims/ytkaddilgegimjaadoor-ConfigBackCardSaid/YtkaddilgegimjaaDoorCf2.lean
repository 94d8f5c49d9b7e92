/- Contracts of configs as bytes, the program's and the document's. -/
import Derived.Test.YtkaddilgegimjaaDoorCf1
import Derived.Test.YtkaddilgegimjaaDoorApq
import Derived.RegionTactic
import Derived.Deep.RegionHeld3
import Derived.Laws.BitsAllLaws
import Derived.Outline
namespace Go.Proofs.YtkaddilgegimjaaDoor
set_option linter.unusedVariables false
set_option linter.unusedSimpArgs false
open Go.RowKit

theorem lt_of_cell {w : World} {a : Addr} {v : Value} (hc : w.cell? a = some v) : a.block < w.heap.size := by
  rcases Nat.lt_or_ge a.block w.heap.size with h' | h'
  · exact h'
  · simp [World.cell?, Array.getElem?_eq_none h'] at hc
theorem below_drew {B : Nat} {a w : World} (h : Below B a w) : Below B a w.drew := ⟨h.os, h.tape, h.output, h.size, h.block⟩
theorem cell_alloc {w : World} {o : Obj} {a : Addr} {v : Value} (h : w.cell? a = some v) : (w.alloc o).cell? a = some v := cell_below ((Below.refl _ _).alloc (Nat.le_refl _) o) h
/-- A config as eight bytes. -/
def cfF (k n g : Nat) (i : Nat) : Nat := [99, 102, k, n, g / 16777216, g / 65536 % 256, g / 256 % 256, g % 256].getD i 0
theorem cfF_lt {k n g : Nat} (hk : k < 256) (hn : n < 256) (hg : g < 4294967296) : ∀ i, i < 8 → cfF k n g i < 256 := fun i hi => by
  match i, hi with
  | 0, _ => show 99 < 256; decide
  | 1, _ => show 102 < 256; decide
  | 2, _ => exact hk
  | 3, _ => exact hn
  | 4, _ => show g / 16777216 < 256; omega
  | 5, _ => show g / 65536 % 256 < 256; omega
  | 6, _ => show g / 256 % 256 < 256; omega
  | 7, _ => show g % 256 < 256; omega
theorem cf_row (k n g : Nat) : (rowC 8 (cfF k n g)).toArray = #[.int .u8 99, .int .u8 102, .int .u8 (k : Int), .int .u8 (n : Int), .int .u8 ((g : Int) / 16777216), .int .u8 ((g : Int) / 65536 % 256), .int .u8 ((g : Int) / 256 % 256), .int .u8 ((g : Int) % 256)] := rfl
set_option maxRecDepth 100000 in
set_option maxHeartbeats 1000000 in
theorem enc_ok (k n g : Nat) (w : World) (h : OkP k n) (hg0 : 0 < g) (hg : g < 4294967296) :
    Calls Tryd.prog 29 #[.agg #[.int .i64 k, .int .i64 n, .int .u32 g]] w fun e w' => ∃ b, e = .returned (.tuple #[.slice (some ⟨b, 0, none⟩) 8 8, .nilIface]) ∧ Row w' b 8 (cfF k n g) ∧ Below w.heap.size w w' := by
  have i0 : (k : Int) ≤ 255 := by have := h.2.1; have := h.2.2; omega
  have i1 : (n : Int) ≤ 255 := h.2.2
  have j0 : (0 : Int) ≤ (k : Int) := by omega
  have j1 : (0 : Int) ≤ (n : Int) := by omega
  have g0 : (0 : Int) ≤ (g : Int) := by omega
  have g1 : (g : Int) ≤ 4294967295 := by omega
  have HG := Lib.hid (show (g : Int) ≠ 0 by omega)
  have HG2 := Lib.hid (show (0 : Int) < (g : Int) by omega)
  go_enter Tryd.func29, Tryd.ntmps29
  go_wp2_with fail
  refine (ccheck_ok _ _ _ _ h HG.out).mono ?_
  rintro e w1 ⟨rfl, hb⟩
  have hY : Blk w1 w.heap.size #[.int .i64 (k : Int), .int .i64 (n : Int), .int .u32 (g : Int)] 56 := Blk.below (Blk.new _ _ _) hb (by simp)
  have y0 : w1.cell? ⟨w.heap.size, 0, none⟩ = some (.int .i64 (k : Int)) := Blk.cell hY 0
  have y1 : w1.cell? ⟨w.heap.size, 1, none⟩ = some (.int .i64 (n : Int)) := Blk.cell hY 1
  have y2 : w1.cell? ⟨w.heap.size, 2, none⟩ = some (.int .u32 (g : Int)) := Blk.cell hY 2
  have hB : Below w.heap.size w w1 := ((Below.refl _ _).alloc (Nat.le_refl _) _).trans (hb.mono (by simp))
  have HB := Lib.hid hB
  clear hY hb hB
  go_wp2_with fail
  go_ret2
  refine ⟨_, rfl, ?_, ?_⟩
  · unfold Row; rw [cf_row]; exact blk2' _ _ _ _ _
  · exact (HB.out.alloc HB.out.size _).alloc (by simp; exact Nat.le_succ_of_le HB.out.size) _
set_option maxRecDepth 100000 in
set_option maxHeartbeats 1000000 in
theorem renc_ok (k n g : Nat) (w : World) (h : OkP k n) (hg0 : 0 < g) (hg : g < 4294967296) :
    Calls Tryd.prog 30 #[.agg #[.int .i64 k, .int .i64 n, .int .u32 g]] w fun e w' => ∃ b, e = .returned (.tuple #[.slice (some ⟨b, 0, none⟩) 8 8, .int .i64 0]) ∧ Row w' b 8 (cfF k n g) ∧ Below w.heap.size w w' := by
  have i0 : (k : Int) ≤ 255 := by have := h.2.1; have := h.2.2; omega
  have i1 : (n : Int) ≤ 255 := h.2.2
  have j0 : (0 : Int) ≤ (k : Int) := by omega
  have j1 : (0 : Int) ≤ (n : Int) := by omega
  have g0 : (0 : Int) ≤ (g : Int) := by omega
  have g1 : (g : Int) ≤ 4294967295 := by omega
  have HG := Lib.hid (show (g : Int) ≠ 0 by omega)
  have HG2 := Lib.hid (show (0 : Int) < (g : Int) by omega)
  go_enter Tryd.func30, Tryd.ntmps30
  go_wp2_with fail
  refine (rmay_ok _ _ _ _ h HG2.out).mono ?_
  rintro e w1 ⟨rfl, hb⟩
  have hY : Blk w1 w.heap.size #[.int .i64 (k : Int), .int .i64 (n : Int), .int .u32 (g : Int)] 52 := Blk.below (Blk.new _ _ _) hb (by simp)
  have y0 : w1.cell? ⟨w.heap.size, 0, none⟩ = some (.int .i64 (k : Int)) := Blk.cell hY 0
  have y1 : w1.cell? ⟨w.heap.size, 1, none⟩ = some (.int .i64 (n : Int)) := Blk.cell hY 1
  have y2 : w1.cell? ⟨w.heap.size, 2, none⟩ = some (.int .u32 (g : Int)) := Blk.cell hY 2
  have hB : Below w.heap.size w w1 := ((Below.refl _ _).alloc (Nat.le_refl _) _).trans (hb.mono (by simp))
  have HB := Lib.hid hB
  clear hY hb hB
  go_wp2_with fail
  go_ret2
  refine ⟨_, rfl, ?_, ?_⟩
  · unfold Row; rw [cf_row]; exact Blk.new _ _ _
  · exact HB.out.alloc HB.out.size _
set_option maxHeartbeats 400000 in
theorem enc_no (k n g : Int) (w : World) (h : ¬ (OkP k n ∧ g ≠ 0)) (hg : 0 ≤ g) :
    Calls Tryd.prog 29 #[.agg #[.int .i64 k, .int .i64 n, .int .u32 g]] w fun e w' => e = .returned (.tuple #[.slice none 0 0, .iface 146 (.int .i64 1)]) ∧ Below w.heap.size w w' := by
  go_enter Tryd.func29, Tryd.ntmps29
  go_wp2_with fail
  refine (ccheck_no _ _ _ _ h).mono ?_
  rintro e w1 ⟨rfl, hb⟩
  go_wp2_with fail
  go_ret2
  exact ⟨rfl, ((Below.refl _ _).alloc (Nat.le_refl _) _).trans (hb.mono (by simp))⟩
set_option maxHeartbeats 400000 in
theorem renc_no (k n g : Int) (w : World) (h : ¬ (OkP k n ∧ g ≠ 0)) (hg : 0 ≤ g) :
    Calls Tryd.prog 30 #[.agg #[.int .i64 k, .int .i64 n, .int .u32 g]] w fun e w' => e = .returned (.tuple #[.slice none 0 0, .int .i64 1]) ∧ Below w.heap.size w w' := by
  go_enter Tryd.func30, Tryd.ntmps30
  go_wp2_with fail
  refine (rmay_no _ _ _ _ h hg).mono ?_
  rintro e w1 ⟨rfl, hb⟩
  go_wp2_with fail
  go_ret2
  exact ⟨rfl, ((Below.refl _ _).alloc (Nat.le_refl _) _).trans (hb.mono (by simp))⟩
/-- The last four of eight bytes, the highest first. -/
def gN (f : Nat → Nat) : Nat := f 4 * 16777216 + f 5 * 65536 + f 6 * 256 + f 7
set_option maxRecDepth 100000 in
set_option maxHeartbeats 1000000 in
theorem dec_len (oa : Option Addr) (n cp : Nat) (f : Nat → Nat) (w : World) (hb : Bytes w oa n f) (h : n ≠ 8) :
    Calls Tryd.prog 33 #[.slice oa n cp] w fun e w' => e = .returned (.tuple #[.agg #[.int .i64 0, .int .i64 0, .int .u32 0], .iface 146 (.int .i64 4)]) ∧ Below w.heap.size w w' := by
  have h1 : ((n : Int) != 8) = true := by rw [bne_iff_ne]; omega
  clear hb h
  go_enter Tryd.func33, Tryd.ntmps33
  go_wp2_with fail
  refine bodyPost_ret (v := .tuple #[.agg #[.int .i64 0, .int .i64 0, .int .u32 0], .iface 146 (.int .i64 4)]) ?_ rfl ⟨rfl, ?_⟩
  · simp [results, Tryd.results33, go_sem]
  · exact (Below.refl _ _).alloc (Nat.le_refl _) _
set_option maxRecDepth 100000 in
set_option maxHeartbeats 1000000 in
theorem dec_m0 (oa : Option Addr) (n cp : Nat) (f : Nat → Nat) (w : World) (hb : Bytes w oa n f) (h : n = 8) (hf : f 0 ≠ 99) :
    Calls Tryd.prog 33 #[.slice oa n cp] w fun e w' => e = .returned (.tuple #[.agg #[.int .i64 0, .int .i64 0, .int .u32 0], .iface 146 (.int .i64 4)]) ∧ Below w.heap.size w w' := by
  subst h
  obtain ⟨_, b, off, rfl, c0⟩ := (Bytes.alloc hb (.cells #[.int .i64 0, .int .i64 0, .int .u32 0] 56)) 0 (by omega)
  obtain ⟨_, b', off', e1, c1⟩ := (Bytes.alloc hb (.cells #[.int .i64 0, .int .i64 0, .int .u32 0] 56)) 1 (by omega)
  cases e1
  rw [Nat.add_zero] at c0
  have h1 : ((f 0 : Int) != 99) = true := by rw [bne_iff_ne]; omega
  clear hb hf
  go_enter Tryd.func33, Tryd.ntmps33
  go_wp2_with fail
  refine bodyPost_ret (v := .tuple #[.agg #[.int .i64 0, .int .i64 0, .int .u32 0], .iface 146 (.int .i64 4)]) ?_ rfl ⟨rfl, ?_⟩
  · simp [results, Tryd.results33, go_sem]
  · exact (Below.refl _ _).alloc (Nat.le_refl _) _
set_option maxRecDepth 100000 in
set_option maxHeartbeats 1000000 in
theorem dec_m1 (oa : Option Addr) (n cp : Nat) (f : Nat → Nat) (w : World) (hb : Bytes w oa n f) (h : n = 8) (hf0 : f 0 = 99) (hf : f 1 ≠ 102) :
    Calls Tryd.prog 33 #[.slice oa n cp] w fun e w' => e = .returned (.tuple #[.agg #[.int .i64 0, .int .i64 0, .int .u32 0], .iface 146 (.int .i64 4)]) ∧ Below w.heap.size w w' := by
  subst h
  obtain ⟨_, b, off, rfl, c0⟩ := (Bytes.alloc hb (.cells #[.int .i64 0, .int .i64 0, .int .u32 0] 56)) 0 (by omega)
  obtain ⟨_, b', off', e1, c1⟩ := (Bytes.alloc hb (.cells #[.int .i64 0, .int .i64 0, .int .u32 0] 56)) 1 (by omega)
  cases e1
  rw [Nat.add_zero] at c0
  have h1 : ((f 1 : Int) != 102) = true := by rw [bne_iff_ne]; omega
  rw [hf0] at c0
  clear hb hf hf0
  go_enter Tryd.func33, Tryd.ntmps33
  go_wp2_with fail
  refine bodyPost_ret (v := .tuple #[.agg #[.int .i64 0, .int .i64 0, .int .u32 0], .iface 146 (.int .i64 4)]) ?_ rfl ⟨rfl, ?_⟩
  · simp [results, Tryd.results33, go_sem]
  · exact (Below.refl _ _).alloc (Nat.le_refl _) _
set_option maxRecDepth 100000 in
set_option maxHeartbeats 1000000 in
theorem rdec_len (oa : Option Addr) (n cp : Nat) (f : Nat → Nat) (w : World) (hb : Bytes w oa n f) (h : n ≠ 8) :
    Calls Tryd.prog 34 #[.slice oa n cp] w fun e w' => e = .returned (.tuple #[.agg #[.int .i64 0, .int .i64 0, .int .u32 0], .int .i64 4]) ∧ Below w.heap.size w w' := by
  have h1 : ((n : Int) != 8) = true := by rw [bne_iff_ne]; omega
  clear hb h
  go_enter Tryd.func34, Tryd.ntmps34
  go_wp2_with fail
  refine bodyPost_ret (v := .tuple #[.agg #[.int .i64 0, .int .i64 0, .int .u32 0], .int .i64 4]) ?_ rfl ⟨rfl, ?_⟩
  · simp [results, Tryd.results34, go_sem]
  · exact (Below.refl _ _).alloc (Nat.le_refl _) _
set_option maxRecDepth 100000 in
set_option maxHeartbeats 1000000 in
theorem rdec_m0 (oa : Option Addr) (n cp : Nat) (f : Nat → Nat) (w : World) (hb : Bytes w oa n f) (h : n = 8) (hf : f 0 ≠ 99) :
    Calls Tryd.prog 34 #[.slice oa n cp] w fun e w' => e = .returned (.tuple #[.agg #[.int .i64 0, .int .i64 0, .int .u32 0], .int .i64 4]) ∧ Below w.heap.size w w' := by
  subst h
  obtain ⟨_, b, off, rfl, c0⟩ := (Bytes.alloc hb (.cells #[.int .i64 0, .int .i64 0, .int .u32 0] 52)) 0 (by omega)
  obtain ⟨_, b', off', e1, c1⟩ := (Bytes.alloc hb (.cells #[.int .i64 0, .int .i64 0, .int .u32 0] 52)) 1 (by omega)
  cases e1
  rw [Nat.add_zero] at c0
  have h1 : ((f 0 : Int) != 99) = true := by rw [bne_iff_ne]; omega
  clear hb hf
  go_enter Tryd.func34, Tryd.ntmps34
  go_wp2_with fail
  refine bodyPost_ret (v := .tuple #[.agg #[.int .i64 0, .int .i64 0, .int .u32 0], .int .i64 4]) ?_ rfl ⟨rfl, ?_⟩
  · simp [results, Tryd.results34, go_sem]
  · exact (Below.refl _ _).alloc (Nat.le_refl _) _
set_option maxRecDepth 100000 in
set_option maxHeartbeats 1000000 in
theorem rdec_m1 (oa : Option Addr) (n cp : Nat) (f : Nat → Nat) (w : World) (hb : Bytes w oa n f) (h : n = 8) (hf0 : f 0 = 99) (hf : f 1 ≠ 102) :
    Calls Tryd.prog 34 #[.slice oa n cp] w fun e w' => e = .returned (.tuple #[.agg #[.int .i64 0, .int .i64 0, .int .u32 0], .int .i64 4]) ∧ Below w.heap.size w w' := by
  subst h
  obtain ⟨_, b, off, rfl, c0⟩ := (Bytes.alloc hb (.cells #[.int .i64 0, .int .i64 0, .int .u32 0] 52)) 0 (by omega)
  obtain ⟨_, b', off', e1, c1⟩ := (Bytes.alloc hb (.cells #[.int .i64 0, .int .i64 0, .int .u32 0] 52)) 1 (by omega)
  cases e1
  rw [Nat.add_zero] at c0
  have h1 : ((f 1 : Int) != 102) = true := by rw [bne_iff_ne]; omega
  rw [hf0] at c0
  clear hb hf hf0
  go_enter Tryd.func34, Tryd.ntmps34
  go_wp2_with fail
  refine bodyPost_ret (v := .tuple #[.agg #[.int .i64 0, .int .i64 0, .int .u32 0], .int .i64 4]) ?_ rfl ⟨rfl, ?_⟩
  · simp [results, Tryd.results34, go_sem]
  · exact (Below.refl _ _).alloc (Nat.le_refl _) _
set_option maxRecDepth 100000 in
set_option maxHeartbeats 2000000 in
theorem dec_ok (oa : Option Addr) (cp : Nat) (f : Nat → Nat) (w : World) (hb : Bytes w oa 8 f) (h0 : f 0 = 99) (h1 : f 1 = 102) (h : OkP (f 2) (f 3)) (hg : gN f ≠ 0) :
    Calls Tryd.prog 33 #[.slice oa 8 cp] w fun e w' => e = .returned (.tuple #[.agg #[.int .i64 (f 2 : Nat), .int .i64 (f 3 : Nat), .int .u32 (gN f : Nat)], .nilIface]) ∧ Below w.heap.size w w' := by
  have HX := Lib.hid (Blk.new w #[.int .i64 0, .int .i64 0, .int .u32 0] 56)
  obtain ⟨_, bb0, oo0, ew, cw⟩ := hb 0 (by omega)
  subst ew
  have hlt := lt_of_cell cw
  have hn1 : ¬ (bb0 = w.heap.size + 1) := by simp at hlt; omega
  have hn2 : ¬ (w.heap.size + 1 = bb0) := by simp at hlt; omega
  clear cw
  obtain ⟨b0, bx0, ox0, e0, c0⟩ := (Bytes.alloc hb (.cells #[.int .i64 0, .int .i64 0, .int .u32 0] 56)) 0 (by omega)
  obtain ⟨b1, bx1, ox1, e1, c1⟩ := (Bytes.alloc hb (.cells #[.int .i64 0, .int .i64 0, .int .u32 0] 56)) 1 (by omega)
  obtain ⟨b2, bx2, ox2, e2, c2⟩ := (Bytes.alloc hb (.cells #[.int .i64 0, .int .i64 0, .int .u32 0] 56)) 2 (by omega)
  obtain ⟨b3, bx3, ox3, e3, c3⟩ := (Bytes.alloc hb (.cells #[.int .i64 0, .int .i64 0, .int .u32 0] 56)) 3 (by omega)
  obtain ⟨b4, bx4, ox4, e4, c4⟩ := (Bytes.alloc hb (.cells #[.int .i64 0, .int .i64 0, .int .u32 0] 56)) 4 (by omega)
  obtain ⟨b5, bx5, ox5, e5, c5⟩ := (Bytes.alloc hb (.cells #[.int .i64 0, .int .i64 0, .int .u32 0] 56)) 5 (by omega)
  obtain ⟨b6, bx6, ox6, e6, c6⟩ := (Bytes.alloc hb (.cells #[.int .i64 0, .int .i64 0, .int .u32 0] 56)) 6 (by omega)
  obtain ⟨b7, bx7, ox7, e7, c7⟩ := (Bytes.alloc hb (.cells #[.int .i64 0, .int .i64 0, .int .u32 0] 56)) 7 (by omega)
  cases e0
  cases e1
  cases e2
  cases e3
  cases e4
  cases e5
  cases e6
  cases e7
  rw [Nat.add_zero, h0] at c0
  rw [h1] at c1
  have HG := Lib.hid (show ((gN f : Nat) : Int) ≠ 0 by omega)
  have HS := Lib.hid (show ((f 4 : Int) * 16777216 + (f 5 : Int) * 65536 + (f 6 : Int) * 256 + (f 7 : Int)) = ((gN f : Nat) : Int) by unfold gN; omega)
  have H := Lib.hid h
  clear hb h0 h1 h hg
  generalize gN f = G at *
  generalize f 2 = x2 at *
  generalize f 3 = x3 at *
  generalize f 4 = x4 at *
  generalize f 5 = x5 at *
  generalize f 6 = x6 at *
  generalize f 7 = x7 at *
  have o1 : bits .or .u32 ((x4 : Int) * 16777216) ((x5 : Int) * 65536) = (x4 : Int) * 16777216 + (x5 : Int) * 65536 := bits_join .u32 32 (by decide) (fun n h0 h1 => by rw [IntKind.wrap_u32]; omega) 24 _ _ (by omega) (by omega) (by omega) (by omega) (by omega) (by omega)
  have o2 : bits .or .u32 ((x4 : Int) * 16777216 + (x5 : Int) * 65536) ((x6 : Int) * 256) = (x4 : Int) * 16777216 + (x5 : Int) * 65536 + (x6 : Int) * 256 := bits_join .u32 32 (by decide) (fun n h0 h1 => by rw [IntKind.wrap_u32]; omega) 16 _ _ (by omega) (by omega) (by omega) (by omega) (by omega) (by omega)
  have o3 : bits .or .u32 ((x4 : Int) * 16777216 + (x5 : Int) * 65536 + (x6 : Int) * 256) (x7 : Int) = (x4 : Int) * 16777216 + (x5 : Int) * 65536 + (x6 : Int) * 256 + (x7 : Int) := bits_join .u32 32 (by decide) (fun n h0 h1 => by rw [IntKind.wrap_u32]; omega) 8 _ _ (by omega) (by omega) (by omega) (by omega) (by omega) (by omega)
  have k2 : IntKind.i64.wrap (x2 : Int) = (x2 : Int) := IntWalk.i64_in _ (by omega)
  have k3 : IntKind.i64.wrap (x3 : Int) = (x3 : Int) := IntWalk.i64_in _ (by omega)
  have k4 : IntKind.u32.wrap (x4 : Int) = (x4 : Int) := by rw [IntKind.wrap_u32]; omega
  have k5 : IntKind.u32.wrap (x5 : Int) = (x5 : Int) := by rw [IntKind.wrap_u32]; omega
  have k6 : IntKind.u32.wrap (x6 : Int) = (x6 : Int) := by rw [IntKind.wrap_u32]; omega
  have k7 : IntKind.u32.wrap (x7 : Int) = (x7 : Int) := by rw [IntKind.wrap_u32]; omega
  have m4 : IntKind.u32.wrap ((x4 : Int) * 16777216) = (x4 : Int) * 16777216 := by rw [IntKind.wrap_u32]; omega
  have m5 : IntKind.u32.wrap ((x5 : Int) * 65536) = (x5 : Int) * 65536 := by rw [IntKind.wrap_u32]; omega
  have m6 : IntKind.u32.wrap ((x6 : Int) * 256) = (x6 : Int) * 256 := by rw [IntKind.wrap_u32]; omega
  go_enter Tryd.func33, Tryd.ntmps33
  go_wp2_with fail
  go_region_held3 (fun w' => w'.cell? ⟨bb0, oo0 + 2, none⟩ = some (.int .u8 x2) ∧ w'.cell? ⟨bb0, oo0 + 3, none⟩ = some (.int .u8 x3) ∧ w'.cell? ⟨bb0, oo0 + 4, none⟩ = some (.int .u8 x4) ∧ w'.cell? ⟨bb0, oo0 + 5, none⟩ = some (.int .u8 x5) ∧ w'.cell? ⟨bb0, oo0 + 6, none⟩ = some (.int .u8 x6) ∧ w'.cell? ⟨bb0, oo0 + 7, none⟩ = some (.int .u8 x7)) (go_keep)
    (first
      | (go_at_call 87; rw [HS.out]; refine (of_ok _ _ _ _ H.out HG.out).mono ?_; rintro e w3 ⟨rfl, hb3⟩; have hX3 : Blk w3 w.heap.size #[.int .i64 0, .int .i64 0, .int .u32 0] 56 := Blk.below (Blk.drew (Blk.alloc HX.out _)) hb3 (by simp; omega); have hY3 : Blk w3 (w.heap.size + 1) #[.int .i64 0, .int .i64 0, .int .u32 0] 56 := Blk.below (Blk.drew (blk2' _ _ _ _ _)) hb3 (by simp); have HB3 := Lib.hid hb3; have p2 : w3.cell? ⟨bb0, oo0 + 2, none⟩ = some (.int .u8 x2) := cell_below hb3 (cell_alloc c2); have p3 : w3.cell? ⟨bb0, oo0 + 3, none⟩ = some (.int .u8 x3) := cell_below hb3 (cell_alloc c3); have p4 : w3.cell? ⟨bb0, oo0 + 4, none⟩ = some (.int .u8 x4) := cell_below hb3 (cell_alloc c4); have p5 : w3.cell? ⟨bb0, oo0 + 5, none⟩ = some (.int .u8 x5) := cell_below hb3 (cell_alloc c5); have p6 : w3.cell? ⟨bb0, oo0 + 6, none⟩ = some (.int .u8 x6) := cell_below hb3 (cell_alloc c6); have p7 : w3.cell? ⟨bb0, oo0 + 7, none⟩ = some (.int .u8 x7) := cell_below hb3 (cell_alloc c7); have s0 : w3.cell? ⟨w.heap.size + 1, 0, none⟩ = some (.int .i64 0) := Blk.cell hY3 0; have z0 : w3.frozen? ⟨w.heap.size + 1, 0, none⟩ = false := Blk.free hY3 0; have s1 : w3.cell? ⟨w.heap.size + 1, 1, none⟩ = some (.int .i64 0) := Blk.cell hY3 1; have z1 : w3.frozen? ⟨w.heap.size + 1, 1, none⟩ = false := Blk.free hY3 1; have s2 : w3.cell? ⟨w.heap.size + 1, 2, none⟩ = some (.int .u32 0) := Blk.cell hY3 2; have z2 : w3.frozen? ⟨w.heap.size + 1, 2, none⟩ = false := Blk.free hY3 2; clear hb3)
      | (go_at_call 87; rw [HS.out]; refine (of_ok _ _ _ _ H.out HG.out).mono ?_; rintro e w3 ⟨rfl, hb3⟩; have hX3 : Blk w3 w.heap.size #[.int .i64 0, .int .i64 0, .int .u32 0] 56 := Blk.below (Blk.drew HX.out) hb3 (by simp); have HB3 := Lib.hid hb3; have p2 : w3.cell? ⟨bb0, oo0 + 2, none⟩ = some (.int .u8 x2) := cell_below hb3 c2; have p3 : w3.cell? ⟨bb0, oo0 + 3, none⟩ = some (.int .u8 x3) := cell_below hb3 c3; have p4 : w3.cell? ⟨bb0, oo0 + 4, none⟩ = some (.int .u8 x4) := cell_below hb3 c4; have p5 : w3.cell? ⟨bb0, oo0 + 5, none⟩ = some (.int .u8 x5) := cell_below hb3 c5; have p6 : w3.cell? ⟨bb0, oo0 + 6, none⟩ = some (.int .u8 x6) := cell_below hb3 c6; have p7 : w3.cell? ⟨bb0, oo0 + 7, none⟩ = some (.int .u8 x7) := cell_below hb3 c7; clear hb3))
  all_goals first
    | (have q := hY3
       clear q
       have l0 : (((w3.setCell ⟨w.heap.size + 1, 0, none⟩ (.int .i64 (x2 : Int))).setCell ⟨w.heap.size + 1, 1, none⟩ (.int .i64 (x3 : Int))).setCell ⟨w.heap.size + 1, 2, none⟩ (.int .u32 (G : Int))).cell? ⟨w.heap.size + 1, 0, none⟩ = some (.int .i64 (x2 : Int)) := Blk.cell (Blk.set (Blk.set (Blk.set hY3 0 _) 1 _) 2 _) 0
       have l1 : (((w3.setCell ⟨w.heap.size + 1, 0, none⟩ (.int .i64 (x2 : Int))).setCell ⟨w.heap.size + 1, 1, none⟩ (.int .i64 (x3 : Int))).setCell ⟨w.heap.size + 1, 2, none⟩ (.int .u32 (G : Int))).cell? ⟨w.heap.size + 1, 1, none⟩ = some (.int .i64 (x3 : Int)) := Blk.cell (Blk.set (Blk.set (Blk.set hY3 0 _) 1 _) 2 _) 1
       have l2 : (((w3.setCell ⟨w.heap.size + 1, 0, none⟩ (.int .i64 (x2 : Int))).setCell ⟨w.heap.size + 1, 1, none⟩ (.int .i64 (x3 : Int))).setCell ⟨w.heap.size + 1, 2, none⟩ (.int .u32 (G : Int))).cell? ⟨w.heap.size + 1, 2, none⟩ = some (.int .u32 (G : Int)) := Blk.cell (Blk.set (Blk.set (Blk.set hY3 0 _) 1 _) 2 _) 2
       have hX4 : Blk (((w3.setCell ⟨w.heap.size + 1, 0, none⟩ (.int .i64 (x2 : Int))).setCell ⟨w.heap.size + 1, 1, none⟩ (.int .i64 (x3 : Int))).setCell ⟨w.heap.size + 1, 2, none⟩ (.int .u32 (G : Int))) w.heap.size #[.int .i64 0, .int .i64 0, .int .u32 0] 56 := (Blk.set_other (Blk.set_other (Blk.set_other hX3 (by simp) _) (by simp) _) (by simp) _)
       clear s0 s1 s2 z0 z1 z2
       have s0 : (((w3.setCell ⟨w.heap.size + 1, 0, none⟩ (.int .i64 (x2 : Int))).setCell ⟨w.heap.size + 1, 1, none⟩ (.int .i64 (x3 : Int))).setCell ⟨w.heap.size + 1, 2, none⟩ (.int .u32 (G : Int))).cell? ⟨w.heap.size, 0, none⟩ = some (.int .i64 0) := Blk.cell hX4 0
       have z0 : (((w3.setCell ⟨w.heap.size + 1, 0, none⟩ (.int .i64 (x2 : Int))).setCell ⟨w.heap.size + 1, 1, none⟩ (.int .i64 (x3 : Int))).setCell ⟨w.heap.size + 1, 2, none⟩ (.int .u32 (G : Int))).frozen? ⟨w.heap.size, 0, none⟩ = false := Blk.free hX4 0
       have s1 : (((w3.setCell ⟨w.heap.size + 1, 0, none⟩ (.int .i64 (x2 : Int))).setCell ⟨w.heap.size + 1, 1, none⟩ (.int .i64 (x3 : Int))).setCell ⟨w.heap.size + 1, 2, none⟩ (.int .u32 (G : Int))).cell? ⟨w.heap.size, 1, none⟩ = some (.int .i64 0) := Blk.cell hX4 1
       have z1 : (((w3.setCell ⟨w.heap.size + 1, 0, none⟩ (.int .i64 (x2 : Int))).setCell ⟨w.heap.size + 1, 1, none⟩ (.int .i64 (x3 : Int))).setCell ⟨w.heap.size + 1, 2, none⟩ (.int .u32 (G : Int))).frozen? ⟨w.heap.size, 1, none⟩ = false := Blk.free hX4 1
       have s2 : (((w3.setCell ⟨w.heap.size + 1, 0, none⟩ (.int .i64 (x2 : Int))).setCell ⟨w.heap.size + 1, 1, none⟩ (.int .i64 (x3 : Int))).setCell ⟨w.heap.size + 1, 2, none⟩ (.int .u32 (G : Int))).cell? ⟨w.heap.size, 2, none⟩ = some (.int .u32 0) := Blk.cell hX4 2
       have z2 : (((w3.setCell ⟨w.heap.size + 1, 0, none⟩ (.int .i64 (x2 : Int))).setCell ⟨w.heap.size + 1, 1, none⟩ (.int .i64 (x3 : Int))).setCell ⟨w.heap.size + 1, 2, none⟩ (.int .u32 (G : Int))).frozen? ⟨w.heap.size, 2, none⟩ = false := Blk.free hX4 2
       have a0 : ((((w3.setCell ⟨w.heap.size + 1, 0, none⟩ (.int .i64 (x2 : Int))).setCell ⟨w.heap.size + 1, 1, none⟩ (.int .i64 (x3 : Int))).setCell ⟨w.heap.size + 1, 2, none⟩ (.int .u32 (G : Int))).setCell ⟨w.heap.size, 0, none⟩ (.int .i64 (x2 : Int))).cell? ⟨w.heap.size, 0, none⟩ = some (.int .i64 (x2 : Int)) := Blk.cell (Blk.set hX4 0 _) 0
       have a1 : (((((w3.setCell ⟨w.heap.size + 1, 0, none⟩ (.int .i64 (x2 : Int))).setCell ⟨w.heap.size + 1, 1, none⟩ (.int .i64 (x3 : Int))).setCell ⟨w.heap.size + 1, 2, none⟩ (.int .u32 (G : Int))).setCell ⟨w.heap.size, 0, none⟩ (.int .i64 (x2 : Int))).setCell ⟨w.heap.size, 1, none⟩ (.int .i64 (x3 : Int))).cell? ⟨w.heap.size, 1, none⟩ = some (.int .i64 (x3 : Int)) := Blk.cell (Blk.set (Blk.set hX4 0 _) 1 _) 1
       have a2 : ((((((w3.setCell ⟨w.heap.size + 1, 0, none⟩ (.int .i64 (x2 : Int))).setCell ⟨w.heap.size + 1, 1, none⟩ (.int .i64 (x3 : Int))).setCell ⟨w.heap.size + 1, 2, none⟩ (.int .u32 (G : Int))).setCell ⟨w.heap.size, 0, none⟩ (.int .i64 (x2 : Int))).setCell ⟨w.heap.size, 1, none⟩ (.int .i64 (x3 : Int))).setCell ⟨w.heap.size, 2, none⟩ (.int .u32 (G : Int))).cell? ⟨w.heap.size, 2, none⟩ = some (.int .u32 (G : Int)) := Blk.cell (Blk.set (Blk.set (Blk.set hX4 0 _) 1 _) 2 _) 2
       have A0 := Lib.hid a0
       have A1 := Lib.hid a1
       have A2 := Lib.hid a2
       clear a0 a1 a2
       clear hX3 hX4 p2 p3 p4 p5 p6 p7 c0 c1 c2 c3 c4 c5 c6 c7 k2 k3 k4 k5 k6 k7 m4 m5 m6 o1 o2 o3
       go_wp2_with fail
       have hB : Below w.heap.size w w3 := (below_drew (((Below.refl _ _).alloc (Nat.le_refl _) _).alloc (by simp) _)).trans (HB3.out.mono (by simp; omega))
       have HB := Lib.hid hB
       clear hB
       refine bodyPost_ret (v := .tuple #[.agg #[.int .i64 x2, .int .i64 x3, .int .u32 G], .nilIface]) ?_ rfl ⟨rfl, ?_⟩
       · simp [results, Tryd.results33, go_sem, A0.out, A1.out, A2.out]
       · exact (((((HB.out.setCell (by simp) _).setCell (by simp) _).setCell (by simp) _).setCell (by simp) _).setCell (by simp) _).setCell (by simp) _
      )
    | (skip
       have hX4 := Blk.alloc hX3 (.cells #[.int .i64 (x2 : Int), .int .i64 (x3 : Int), .int .u32 (G : Int)] 56)
       have s0 : (w3.alloc (.cells #[.int .i64 (x2 : Int), .int .i64 (x3 : Int), .int .u32 (G : Int)] 56)).cell? ⟨w.heap.size, 0, none⟩ = some (.int .i64 0) := Blk.cell hX4 0
       have z0 : (w3.alloc (.cells #[.int .i64 (x2 : Int), .int .i64 (x3 : Int), .int .u32 (G : Int)] 56)).frozen? ⟨w.heap.size, 0, none⟩ = false := Blk.free hX4 0
       have s1 : (w3.alloc (.cells #[.int .i64 (x2 : Int), .int .i64 (x3 : Int), .int .u32 (G : Int)] 56)).cell? ⟨w.heap.size, 1, none⟩ = some (.int .i64 0) := Blk.cell hX4 1
       have z1 : (w3.alloc (.cells #[.int .i64 (x2 : Int), .int .i64 (x3 : Int), .int .u32 (G : Int)] 56)).frozen? ⟨w.heap.size, 1, none⟩ = false := Blk.free hX4 1
       have s2 : (w3.alloc (.cells #[.int .i64 (x2 : Int), .int .i64 (x3 : Int), .int .u32 (G : Int)] 56)).cell? ⟨w.heap.size, 2, none⟩ = some (.int .u32 0) := Blk.cell hX4 2
       have z2 : (w3.alloc (.cells #[.int .i64 (x2 : Int), .int .i64 (x3 : Int), .int .u32 (G : Int)] 56)).frozen? ⟨w.heap.size, 2, none⟩ = false := Blk.free hX4 2
       have a0 : ((w3.alloc (.cells #[.int .i64 (x2 : Int), .int .i64 (x3 : Int), .int .u32 (G : Int)] 56)).setCell ⟨w.heap.size, 0, none⟩ (.int .i64 (x2 : Int))).cell? ⟨w.heap.size, 0, none⟩ = some (.int .i64 (x2 : Int)) := Blk.cell (Blk.set hX4 0 _) 0
       have a1 : (((w3.alloc (.cells #[.int .i64 (x2 : Int), .int .i64 (x3 : Int), .int .u32 (G : Int)] 56)).setCell ⟨w.heap.size, 0, none⟩ (.int .i64 (x2 : Int))).setCell ⟨w.heap.size, 1, none⟩ (.int .i64 (x3 : Int))).cell? ⟨w.heap.size, 1, none⟩ = some (.int .i64 (x3 : Int)) := Blk.cell (Blk.set (Blk.set hX4 0 _) 1 _) 1
       have a2 : ((((w3.alloc (.cells #[.int .i64 (x2 : Int), .int .i64 (x3 : Int), .int .u32 (G : Int)] 56)).setCell ⟨w.heap.size, 0, none⟩ (.int .i64 (x2 : Int))).setCell ⟨w.heap.size, 1, none⟩ (.int .i64 (x3 : Int))).setCell ⟨w.heap.size, 2, none⟩ (.int .u32 (G : Int))).cell? ⟨w.heap.size, 2, none⟩ = some (.int .u32 (G : Int)) := Blk.cell (Blk.set (Blk.set (Blk.set hX4 0 _) 1 _) 2 _) 2
       have A0 := Lib.hid a0
       have A1 := Lib.hid a1
       have A2 := Lib.hid a2
       clear a0 a1 a2
       clear hX3 hX4 p2 p3 p4 p5 p6 p7 c0 c1 c2 c3 c4 c5 c6 c7 k2 k3 k4 k5 k6 k7 m4 m5 m6 o1 o2 o3
       go_wp2_with fail
       have hB : Below w.heap.size w w3 := (below_drew ((Below.refl _ _).alloc (Nat.le_refl _) _)).trans (HB3.out.mono (by simp))
       have HB := Lib.hid hB
       clear hB
       refine bodyPost_ret (v := .tuple #[.agg #[.int .i64 x2, .int .i64 x3, .int .u32 G], .nilIface]) ?_ rfl ⟨rfl, ?_⟩
       · simp [results, Tryd.results33, go_sem, A0.out, A1.out, A2.out]
       · exact (((HB.out.alloc HB.out.size _).setCell (by simp) _).setCell (by simp) _).setCell (by simp) _
      )
set_option maxRecDepth 100000 in
set_option maxHeartbeats 2000000 in
theorem dec_no (oa : Option Addr) (cp : Nat) (f : Nat → Nat) (w : World) (hb : Bytes w oa 8 f) (h0 : f 0 = 99) (h1 : f 1 = 102) (h : ¬ (OkP (f 2) (f 3) ∧ ((gN f : Nat) : Int) ≠ 0)) :
    Calls Tryd.prog 33 #[.slice oa 8 cp] w fun e w' => e = .returned (.tuple #[.agg #[.int .i64 0, .int .i64 0, .int .u32 0], .iface 146 (.int .i64 4)]) ∧ Below w.heap.size w w' := by
  have HX := Lib.hid (Blk.new w #[.int .i64 0, .int .i64 0, .int .u32 0] 56)
  obtain ⟨_, bb0, oo0, ew, cw⟩ := hb 0 (by omega)
  subst ew
  have hlt := lt_of_cell cw
  have hn1 : ¬ (bb0 = w.heap.size + 1) := by simp at hlt; omega
  have hn2 : ¬ (w.heap.size + 1 = bb0) := by simp at hlt; omega
  clear cw
  obtain ⟨b0, bx0, ox0, e0, c0⟩ := (Bytes.alloc hb (.cells #[.int .i64 0, .int .i64 0, .int .u32 0] 56)) 0 (by omega)
  obtain ⟨b1, bx1, ox1, e1, c1⟩ := (Bytes.alloc hb (.cells #[.int .i64 0, .int .i64 0, .int .u32 0] 56)) 1 (by omega)
  obtain ⟨b2, bx2, ox2, e2, c2⟩ := (Bytes.alloc hb (.cells #[.int .i64 0, .int .i64 0, .int .u32 0] 56)) 2 (by omega)
  obtain ⟨b3, bx3, ox3, e3, c3⟩ := (Bytes.alloc hb (.cells #[.int .i64 0, .int .i64 0, .int .u32 0] 56)) 3 (by omega)
  obtain ⟨b4, bx4, ox4, e4, c4⟩ := (Bytes.alloc hb (.cells #[.int .i64 0, .int .i64 0, .int .u32 0] 56)) 4 (by omega)
  obtain ⟨b5, bx5, ox5, e5, c5⟩ := (Bytes.alloc hb (.cells #[.int .i64 0, .int .i64 0, .int .u32 0] 56)) 5 (by omega)
  obtain ⟨b6, bx6, ox6, e6, c6⟩ := (Bytes.alloc hb (.cells #[.int .i64 0, .int .i64 0, .int .u32 0] 56)) 6 (by omega)
  obtain ⟨b7, bx7, ox7, e7, c7⟩ := (Bytes.alloc hb (.cells #[.int .i64 0, .int .i64 0, .int .u32 0] 56)) 7 (by omega)
  cases e0
  cases e1
  cases e2
  cases e3
  cases e4
  cases e5
  cases e6
  cases e7
  rw [Nat.add_zero, h0] at c0
  rw [h1] at c1
  have HS := Lib.hid (show ((f 4 : Int) * 16777216 + (f 5 : Int) * 65536 + (f 6 : Int) * 256 + (f 7 : Int)) = ((gN f : Nat) : Int) by unfold gN; omega)
  have H := Lib.hid h
  clear hb h0 h1 h
  generalize gN f = G at *
  generalize f 2 = x2 at *
  generalize f 3 = x3 at *
  generalize f 4 = x4 at *
  generalize f 5 = x5 at *
  generalize f 6 = x6 at *
  generalize f 7 = x7 at *
  have o1 : bits .or .u32 ((x4 : Int) * 16777216) ((x5 : Int) * 65536) = (x4 : Int) * 16777216 + (x5 : Int) * 65536 := bits_join .u32 32 (by decide) (fun n h0 h1 => by rw [IntKind.wrap_u32]; omega) 24 _ _ (by omega) (by omega) (by omega) (by omega) (by omega) (by omega)
  have o2 : bits .or .u32 ((x4 : Int) * 16777216 + (x5 : Int) * 65536) ((x6 : Int) * 256) = (x4 : Int) * 16777216 + (x5 : Int) * 65536 + (x6 : Int) * 256 := bits_join .u32 32 (by decide) (fun n h0 h1 => by rw [IntKind.wrap_u32]; omega) 16 _ _ (by omega) (by omega) (by omega) (by omega) (by omega) (by omega)
  have o3 : bits .or .u32 ((x4 : Int) * 16777216 + (x5 : Int) * 65536 + (x6 : Int) * 256) (x7 : Int) = (x4 : Int) * 16777216 + (x5 : Int) * 65536 + (x6 : Int) * 256 + (x7 : Int) := bits_join .u32 32 (by decide) (fun n h0 h1 => by rw [IntKind.wrap_u32]; omega) 8 _ _ (by omega) (by omega) (by omega) (by omega) (by omega) (by omega)
  have k2 : IntKind.i64.wrap (x2 : Int) = (x2 : Int) := IntWalk.i64_in _ (by omega)
  have k3 : IntKind.i64.wrap (x3 : Int) = (x3 : Int) := IntWalk.i64_in _ (by omega)
  have k4 : IntKind.u32.wrap (x4 : Int) = (x4 : Int) := by rw [IntKind.wrap_u32]; omega
  have k5 : IntKind.u32.wrap (x5 : Int) = (x5 : Int) := by rw [IntKind.wrap_u32]; omega
  have k6 : IntKind.u32.wrap (x6 : Int) = (x6 : Int) := by rw [IntKind.wrap_u32]; omega
  have k7 : IntKind.u32.wrap (x7 : Int) = (x7 : Int) := by rw [IntKind.wrap_u32]; omega
  have m4 : IntKind.u32.wrap ((x4 : Int) * 16777216) = (x4 : Int) * 16777216 := by rw [IntKind.wrap_u32]; omega
  have m5 : IntKind.u32.wrap ((x5 : Int) * 65536) = (x5 : Int) * 65536 := by rw [IntKind.wrap_u32]; omega
  have m6 : IntKind.u32.wrap ((x6 : Int) * 256) = (x6 : Int) * 256 := by rw [IntKind.wrap_u32]; omega
  go_enter Tryd.func33, Tryd.ntmps33
  go_wp2_with fail
  go_region_held3 (fun w' => w'.cell? ⟨bb0, oo0 + 2, none⟩ = some (.int .u8 x2) ∧ w'.cell? ⟨bb0, oo0 + 3, none⟩ = some (.int .u8 x3) ∧ w'.cell? ⟨bb0, oo0 + 4, none⟩ = some (.int .u8 x4) ∧ w'.cell? ⟨bb0, oo0 + 5, none⟩ = some (.int .u8 x5) ∧ w'.cell? ⟨bb0, oo0 + 6, none⟩ = some (.int .u8 x6) ∧ w'.cell? ⟨bb0, oo0 + 7, none⟩ = some (.int .u8 x7)) (go_keep)
    (first
      | (go_at_call 87; rw [HS.out]; refine (of_no _ _ _ _ H.out).mono ?_; rintro e w3 ⟨rfl, hb3⟩; have hX3 : Blk w3 w.heap.size #[.int .i64 0, .int .i64 0, .int .u32 0] 56 := Blk.below (Blk.drew (Blk.alloc HX.out _)) hb3 (by simp; omega); have hY3 : Blk w3 (w.heap.size + 1) #[.int .i64 0, .int .i64 0, .int .u32 0] 56 := Blk.below (Blk.drew (blk2' _ _ _ _ _)) hb3 (by simp); have HB3 := Lib.hid hb3; have p2 : w3.cell? ⟨bb0, oo0 + 2, none⟩ = some (.int .u8 x2) := cell_below hb3 (cell_alloc c2); have p3 : w3.cell? ⟨bb0, oo0 + 3, none⟩ = some (.int .u8 x3) := cell_below hb3 (cell_alloc c3); have p4 : w3.cell? ⟨bb0, oo0 + 4, none⟩ = some (.int .u8 x4) := cell_below hb3 (cell_alloc c4); have p5 : w3.cell? ⟨bb0, oo0 + 5, none⟩ = some (.int .u8 x5) := cell_below hb3 (cell_alloc c5); have p6 : w3.cell? ⟨bb0, oo0 + 6, none⟩ = some (.int .u8 x6) := cell_below hb3 (cell_alloc c6); have p7 : w3.cell? ⟨bb0, oo0 + 7, none⟩ = some (.int .u8 x7) := cell_below hb3 (cell_alloc c7); have s0 : w3.cell? ⟨w.heap.size + 1, 0, none⟩ = some (.int .i64 0) := Blk.cell hY3 0; have z0 : w3.frozen? ⟨w.heap.size + 1, 0, none⟩ = false := Blk.free hY3 0; have s1 : w3.cell? ⟨w.heap.size + 1, 1, none⟩ = some (.int .i64 0) := Blk.cell hY3 1; have z1 : w3.frozen? ⟨w.heap.size + 1, 1, none⟩ = false := Blk.free hY3 1; have s2 : w3.cell? ⟨w.heap.size + 1, 2, none⟩ = some (.int .u32 0) := Blk.cell hY3 2; have z2 : w3.frozen? ⟨w.heap.size + 1, 2, none⟩ = false := Blk.free hY3 2; clear hb3)
      | (go_at_call 87; rw [HS.out]; refine (of_no _ _ _ _ H.out).mono ?_; rintro e w3 ⟨rfl, hb3⟩; have hX3 : Blk w3 w.heap.size #[.int .i64 0, .int .i64 0, .int .u32 0] 56 := Blk.below (Blk.drew HX.out) hb3 (by simp); have HB3 := Lib.hid hb3; have p2 : w3.cell? ⟨bb0, oo0 + 2, none⟩ = some (.int .u8 x2) := cell_below hb3 c2; have p3 : w3.cell? ⟨bb0, oo0 + 3, none⟩ = some (.int .u8 x3) := cell_below hb3 c3; have p4 : w3.cell? ⟨bb0, oo0 + 4, none⟩ = some (.int .u8 x4) := cell_below hb3 c4; have p5 : w3.cell? ⟨bb0, oo0 + 5, none⟩ = some (.int .u8 x5) := cell_below hb3 c5; have p6 : w3.cell? ⟨bb0, oo0 + 6, none⟩ = some (.int .u8 x6) := cell_below hb3 c6; have p7 : w3.cell? ⟨bb0, oo0 + 7, none⟩ = some (.int .u8 x7) := cell_below hb3 c7; clear hb3))
  all_goals first
    | (have q := hY3
       clear q
       have l0 : (((w3.setCell ⟨w.heap.size + 1, 0, none⟩ (.int .i64 0)).setCell ⟨w.heap.size + 1, 1, none⟩ (.int .i64 0)).setCell ⟨w.heap.size + 1, 2, none⟩ (.int .u32 0)).cell? ⟨w.heap.size + 1, 0, none⟩ = some (.int .i64 0) := Blk.cell (Blk.set (Blk.set (Blk.set hY3 0 _) 1 _) 2 _) 0
       have l1 : (((w3.setCell ⟨w.heap.size + 1, 0, none⟩ (.int .i64 0)).setCell ⟨w.heap.size + 1, 1, none⟩ (.int .i64 0)).setCell ⟨w.heap.size + 1, 2, none⟩ (.int .u32 0)).cell? ⟨w.heap.size + 1, 1, none⟩ = some (.int .i64 0) := Blk.cell (Blk.set (Blk.set (Blk.set hY3 0 _) 1 _) 2 _) 1
       have l2 : (((w3.setCell ⟨w.heap.size + 1, 0, none⟩ (.int .i64 0)).setCell ⟨w.heap.size + 1, 1, none⟩ (.int .i64 0)).setCell ⟨w.heap.size + 1, 2, none⟩ (.int .u32 0)).cell? ⟨w.heap.size + 1, 2, none⟩ = some (.int .u32 0) := Blk.cell (Blk.set (Blk.set (Blk.set hY3 0 _) 1 _) 2 _) 2
       have hX4 : Blk (((w3.setCell ⟨w.heap.size + 1, 0, none⟩ (.int .i64 0)).setCell ⟨w.heap.size + 1, 1, none⟩ (.int .i64 0)).setCell ⟨w.heap.size + 1, 2, none⟩ (.int .u32 0)) w.heap.size #[.int .i64 0, .int .i64 0, .int .u32 0] 56 := (Blk.set_other (Blk.set_other (Blk.set_other hX3 (by simp) _) (by simp) _) (by simp) _)
       clear s0 s1 s2 z0 z1 z2
       have s0 : (((w3.setCell ⟨w.heap.size + 1, 0, none⟩ (.int .i64 0)).setCell ⟨w.heap.size + 1, 1, none⟩ (.int .i64 0)).setCell ⟨w.heap.size + 1, 2, none⟩ (.int .u32 0)).cell? ⟨w.heap.size, 0, none⟩ = some (.int .i64 0) := Blk.cell hX4 0
       have z0 : (((w3.setCell ⟨w.heap.size + 1, 0, none⟩ (.int .i64 0)).setCell ⟨w.heap.size + 1, 1, none⟩ (.int .i64 0)).setCell ⟨w.heap.size + 1, 2, none⟩ (.int .u32 0)).frozen? ⟨w.heap.size, 0, none⟩ = false := Blk.free hX4 0
       have s1 : (((w3.setCell ⟨w.heap.size + 1, 0, none⟩ (.int .i64 0)).setCell ⟨w.heap.size + 1, 1, none⟩ (.int .i64 0)).setCell ⟨w.heap.size + 1, 2, none⟩ (.int .u32 0)).cell? ⟨w.heap.size, 1, none⟩ = some (.int .i64 0) := Blk.cell hX4 1
       have z1 : (((w3.setCell ⟨w.heap.size + 1, 0, none⟩ (.int .i64 0)).setCell ⟨w.heap.size + 1, 1, none⟩ (.int .i64 0)).setCell ⟨w.heap.size + 1, 2, none⟩ (.int .u32 0)).frozen? ⟨w.heap.size, 1, none⟩ = false := Blk.free hX4 1
       have s2 : (((w3.setCell ⟨w.heap.size + 1, 0, none⟩ (.int .i64 0)).setCell ⟨w.heap.size + 1, 1, none⟩ (.int .i64 0)).setCell ⟨w.heap.size + 1, 2, none⟩ (.int .u32 0)).cell? ⟨w.heap.size, 2, none⟩ = some (.int .u32 0) := Blk.cell hX4 2
       have z2 : (((w3.setCell ⟨w.heap.size + 1, 0, none⟩ (.int .i64 0)).setCell ⟨w.heap.size + 1, 1, none⟩ (.int .i64 0)).setCell ⟨w.heap.size + 1, 2, none⟩ (.int .u32 0)).frozen? ⟨w.heap.size, 2, none⟩ = false := Blk.free hX4 2
       have a0 : ((((w3.setCell ⟨w.heap.size + 1, 0, none⟩ (.int .i64 0)).setCell ⟨w.heap.size + 1, 1, none⟩ (.int .i64 0)).setCell ⟨w.heap.size + 1, 2, none⟩ (.int .u32 0)).setCell ⟨w.heap.size, 0, none⟩ (.int .i64 0)).cell? ⟨w.heap.size, 0, none⟩ = some (.int .i64 0) := Blk.cell (Blk.set hX4 0 _) 0
       have a1 : (((((w3.setCell ⟨w.heap.size + 1, 0, none⟩ (.int .i64 0)).setCell ⟨w.heap.size + 1, 1, none⟩ (.int .i64 0)).setCell ⟨w.heap.size + 1, 2, none⟩ (.int .u32 0)).setCell ⟨w.heap.size, 0, none⟩ (.int .i64 0)).setCell ⟨w.heap.size, 1, none⟩ (.int .i64 0)).cell? ⟨w.heap.size, 1, none⟩ = some (.int .i64 0) := Blk.cell (Blk.set (Blk.set hX4 0 _) 1 _) 1
       have a2 : ((((((w3.setCell ⟨w.heap.size + 1, 0, none⟩ (.int .i64 0)).setCell ⟨w.heap.size + 1, 1, none⟩ (.int .i64 0)).setCell ⟨w.heap.size + 1, 2, none⟩ (.int .u32 0)).setCell ⟨w.heap.size, 0, none⟩ (.int .i64 0)).setCell ⟨w.heap.size, 1, none⟩ (.int .i64 0)).setCell ⟨w.heap.size, 2, none⟩ (.int .u32 0)).cell? ⟨w.heap.size, 2, none⟩ = some (.int .u32 0) := Blk.cell (Blk.set (Blk.set (Blk.set hX4 0 _) 1 _) 2 _) 2
       have A0 := Lib.hid a0
       have A1 := Lib.hid a1
       have A2 := Lib.hid a2
       clear a0 a1 a2
       clear hX3 hX4 p2 p3 p4 p5 p6 p7 c0 c1 c2 c3 c4 c5 c6 c7 k2 k3 k4 k5 k6 k7 m4 m5 m6 o1 o2 o3
       go_wp2_with fail
       have hB : Below w.heap.size w w3 := (below_drew (((Below.refl _ _).alloc (Nat.le_refl _) _).alloc (by simp) _)).trans (HB3.out.mono (by simp; omega))
       have HB := Lib.hid hB
       clear hB
       refine bodyPost_ret (v := .tuple #[.agg #[.int .i64 0, .int .i64 0, .int .u32 0], .iface 146 (.int .i64 4)]) ?_ rfl ⟨rfl, ?_⟩
       · simp [results, Tryd.results33, go_sem, A0.out, A1.out, A2.out]
       · exact (((((HB.out.setCell (by simp) _).setCell (by simp) _).setCell (by simp) _).setCell (by simp) _).setCell (by simp) _).setCell (by simp) _
      )
    | (skip
       have hX4 := Blk.alloc hX3 (.cells #[.int .i64 0, .int .i64 0, .int .u32 0] 56)
       have s0 : (w3.alloc (.cells #[.int .i64 0, .int .i64 0, .int .u32 0] 56)).cell? ⟨w.heap.size, 0, none⟩ = some (.int .i64 0) := Blk.cell hX4 0
       have z0 : (w3.alloc (.cells #[.int .i64 0, .int .i64 0, .int .u32 0] 56)).frozen? ⟨w.heap.size, 0, none⟩ = false := Blk.free hX4 0
       have s1 : (w3.alloc (.cells #[.int .i64 0, .int .i64 0, .int .u32 0] 56)).cell? ⟨w.heap.size, 1, none⟩ = some (.int .i64 0) := Blk.cell hX4 1
       have z1 : (w3.alloc (.cells #[.int .i64 0, .int .i64 0, .int .u32 0] 56)).frozen? ⟨w.heap.size, 1, none⟩ = false := Blk.free hX4 1
       have s2 : (w3.alloc (.cells #[.int .i64 0, .int .i64 0, .int .u32 0] 56)).cell? ⟨w.heap.size, 2, none⟩ = some (.int .u32 0) := Blk.cell hX4 2
       have z2 : (w3.alloc (.cells #[.int .i64 0, .int .i64 0, .int .u32 0] 56)).frozen? ⟨w.heap.size, 2, none⟩ = false := Blk.free hX4 2
       have a0 : ((w3.alloc (.cells #[.int .i64 0, .int .i64 0, .int .u32 0] 56)).setCell ⟨w.heap.size, 0, none⟩ (.int .i64 0)).cell? ⟨w.heap.size, 0, none⟩ = some (.int .i64 0) := Blk.cell (Blk.set hX4 0 _) 0
       have a1 : (((w3.alloc (.cells #[.int .i64 0, .int .i64 0, .int .u32 0] 56)).setCell ⟨w.heap.size, 0, none⟩ (.int .i64 0)).setCell ⟨w.heap.size, 1, none⟩ (.int .i64 0)).cell? ⟨w.heap.size, 1, none⟩ = some (.int .i64 0) := Blk.cell (Blk.set (Blk.set hX4 0 _) 1 _) 1
       have a2 : ((((w3.alloc (.cells #[.int .i64 0, .int .i64 0, .int .u32 0] 56)).setCell ⟨w.heap.size, 0, none⟩ (.int .i64 0)).setCell ⟨w.heap.size, 1, none⟩ (.int .i64 0)).setCell ⟨w.heap.size, 2, none⟩ (.int .u32 0)).cell? ⟨w.heap.size, 2, none⟩ = some (.int .u32 0) := Blk.cell (Blk.set (Blk.set (Blk.set hX4 0 _) 1 _) 2 _) 2
       have A0 := Lib.hid a0
       have A1 := Lib.hid a1
       have A2 := Lib.hid a2
       clear a0 a1 a2
       clear hX3 hX4 p2 p3 p4 p5 p6 p7 c0 c1 c2 c3 c4 c5 c6 c7 k2 k3 k4 k5 k6 k7 m4 m5 m6 o1 o2 o3
       go_wp2_with fail
       have hB : Below w.heap.size w w3 := (below_drew ((Below.refl _ _).alloc (Nat.le_refl _) _)).trans (HB3.out.mono (by simp))
       have HB := Lib.hid hB
       clear hB
       refine bodyPost_ret (v := .tuple #[.agg #[.int .i64 0, .int .i64 0, .int .u32 0], .iface 146 (.int .i64 4)]) ?_ rfl ⟨rfl, ?_⟩
       · simp [results, Tryd.results33, go_sem, A0.out, A1.out, A2.out]
       · exact (((HB.out.alloc HB.out.size _).setCell (by simp) _).setCell (by simp) _).setCell (by simp) _
      )
end Go.Proofs.YtkaddilgegimjaaDoor
