/- Contracts of the document's reading of a config. -/
import Derived.Test.YtkaddilgegimjaaDoorCf2
import Derived.Deep.RegionWith
namespace Go.Proofs.YtkaddilgegimjaaDoor
set_option linter.unusedVariables false
set_option linter.unusedSimpArgs false
open Go.RowKit

/-- The number of some of the bytes from the fifth on. -/
def gB (f : Nat → Nat) : Nat → Nat | 0 => 0 | k + 1 => 256 * gB f k + f (4 + k)
theorem gB_four (f : Nat → Nat) : gB f 4 = gN f := by
  have e : gB f 4 = 256 * (256 * (256 * (256 * 0 + f 4) + f 5) + f 6) + f 7 := rfl
  rw [e]; unfold gN; omega
theorem gB_lt {f : Nat → Nat} : ∀ k, (∀ i, i < k → f (4 + i) < 256) → gB f k < 256 ^ k
  | 0, _ => by show (0 : Nat) < 1; decide
  | k + 1, h => by
    have h1 := gB_lt k fun i hi => h i (by omega)
    have h2 := h k (by omega)
    show 256 * gB f k + f (4 + k) < 256 ^ (k + 1)
    rw [Nat.pow_succ]; omega
set_option maxRecDepth 100000 in
set_option maxHeartbeats 2000000 in
theorem rdec_ok (oa : Option Addr) (cp : Nat) (f : Nat → Nat) (w : World) (hb : Bytes w oa 8 f) (h0 : f 0 = 99) (h1 : f 1 = 102) (h : OkP (f 2) (f 3)) (hg : 0 < gN f) :
    Calls Tryd.prog 34 #[.slice oa 8 cp] w fun e w' => e = .returned (.tuple #[.agg #[.int .i64 (f 2 : Nat), .int .i64 (f 3 : Nat), .int .u32 (gN f : Nat)], .int .i64 0]) ∧ Below w.heap.size w w' := by
  have HB := Lib.hid hb
  have HF := Lib.hid (fun i (hi : i < 8) => (hb i hi).1)
  obtain ⟨_, bb0, oo0, ew, cw⟩ := hb 0 (by omega)
  subst ew
  have hlt := lt_of_cell cw
  have hn1 : ¬ (bb0 = w.heap.size + 1) := by simp at hlt; omega
  have hn2 : ¬ (w.heap.size + 1 = bb0) := by simp at hlt; omega
  clear cw
  obtain ⟨b0, bx0, ox0, e0, c0⟩ := (Bytes.alloc hb (.cells #[.int .i64 0, .int .i64 0, .int .u32 0] 52)) 0 (by omega)
  cases e0
  obtain ⟨b1, bx1, ox1, e1, c1⟩ := (Bytes.alloc hb (.cells #[.int .i64 0, .int .i64 0, .int .u32 0] 52)) 1 (by omega)
  cases e1
  obtain ⟨b2, bx2, ox2, e2, c2⟩ := (Bytes.alloc hb (.cells #[.int .i64 0, .int .i64 0, .int .u32 0] 52)) 2 (by omega)
  cases e2
  obtain ⟨b3, bx3, ox3, e3, c3⟩ := (Bytes.alloc hb (.cells #[.int .i64 0, .int .i64 0, .int .u32 0] 52)) 3 (by omega)
  cases e3
  rw [Nat.add_zero, h0] at c0
  rw [h1] at c1
  have HG := Lib.hid (show (0 : Int) < ((gN f : Nat) : Int) by omega)
  have HS := Lib.hid (gB_four f)
  have H := Lib.hid h
  clear hb h0 h1 h hg
  generalize gN f = G at *
  have HX2 := Lib.hid (show f 2 = f 2 from rfl)
  obtain ⟨x2, e2⟩ : ∃ x, f 2 = x := ⟨_, rfl⟩
  obtain ⟨x3, e3⟩ : ∃ x, f 3 = x := ⟨_, rfl⟩
  rw [e2] at c2 b2 H ⊢
  rw [e3] at c3 b3 H ⊢
  clear HX2 e2 e3
  have k2 : IntKind.i64.wrap (x2 : Int) = (x2 : Int) := IntWalk.i64_in _ (by omega)
  have k3 : IntKind.i64.wrap (x3 : Int) = (x3 : Int) := IntWalk.i64_in _ (by omega)
  go_enter Tryd.func34, Tryd.ntmps34
  go_wp2_with fail
  go_region
  all_goals
    clear c0 c1 c2 c3
    go_wp2_with fail
    go_loopw [5] (fun i wr => ∃ d k : Nat, d = 4 + k ∧ k ≤ 4 ∧ i = .int .i64 d ∧ Blk wr w.heap.size #[.int .i64 0, .int .i64 0, .int .u32 0] 52 ∧ Blk wr (w.heap.size + 1) #[.int .i64 (x2 : Int), .int .i64 (x3 : Int), .int .u32 (gB f k : Nat)] 52 ∧ Below w.heap.size w wr) (fun i _ => 8 - (intOf i).toNat)
    case atStart => exact ⟨4, 0, rfl, Nat.zero_le _, rfl, by first | exact blk2 _ _ _ _ _ | exact Blk.drew (blk2 _ _ _ _ _), by first | exact blk2' _ _ _ _ _ | exact Blk.drew (blk2' _ _ _ _ _), by first | exact ((Below.refl _ _).alloc (Nat.le_refl _) _).alloc (by simp) _ | exact below_drew (((Below.refl _ _).alloc (Nat.le_refl _) _).alloc (by simp) _)⟩
    case round =>
      obtain ⟨d, k, hdk, hk, rfl, hX, hY, hO⟩ := hrel
      by_cases hlt4 : k < 4
      · obtain ⟨hfk, b', o', e, hcell⟩ := (Bytes.later HB.out hO) d (by omega)
        cases e
        have hl : gB f k < 16777216 := Nat.lt_of_lt_of_le (gB_lt k fun i hi => HF.out (4 + i) (by omega)) (Nat.pow_le_pow_right (n := 256) (by decide) (show k ≤ 3 by omega))
        have hs : gB f (k + 1) = 256 * gB f k + f d := by rw [hdk]; rfl
        have d0 : (0 : Int) ≤ (d : Int) := by omega
        have d1 : (d : Int) < 8 := by omega
        generalize gB f k = t at *
        generalize f d = x at *
        have m1 : IntKind.u32.wrap (256 * (t : Int)) = 256 * (t : Int) := by rw [IntKind.wrap_u32]; omega
        have m2 : IntKind.u32.wrap (x : Int) = (x : Int) := by rw [IntKind.wrap_u32]; omega
        have m3 : IntKind.u32.wrap (256 * (t : Int) + (x : Int)) = 256 * (t : Int) + (x : Int) := by rw [IntKind.wrap_u32]; omega
        have y2 : wr.cell? ⟨w.heap.size + 1, 2, none⟩ = some (.int .u32 (t : Int)) := Blk.cell hY 2
        have z2 : wr.frozen? ⟨w.heap.size + 1, 2, none⟩ = false := Blk.free hY 2
        have hX4 : Blk (wr.setCell ⟨w.heap.size + 1, 2, none⟩ (.int .u32 (256 * (t : Int) + (x : Int)))) w.heap.size #[.int .i64 0, .int .i64 0, .int .u32 0] 52 := Blk.set_other hX (by simp) _
        have hY4 : Blk (wr.setCell ⟨w.heap.size + 1, 2, none⟩ (.int .u32 (256 * (t : Int) + (x : Int)))) (w.heap.size + 1) #[.int .i64 (x2 : Int), .int .i64 (x3 : Int), .int .u32 (256 * (t : Int) + (x : Int))] 52 := Blk.set hY 2 _
        have hO4 : Below w.heap.size w (wr.setCell ⟨w.heap.size + 1, 2, none⟩ (.int .u32 (256 * (t : Int) + (x : Int)))) := hO.setCell (by simp) _
        have HX4 := Lib.hid hX4
        have HY4 := Lib.hid hY4
        have HO4 := Lib.hid hO4
        have HSS := Lib.hid hs
        have HDK := Lib.hid hdk
        clear hX hY hO hX4 hY4 hO4 hs hdk
        go_wp2_with fail
        go_region
        all_goals
          go_wp2_with fail
          go_roundw
          case rel => exact ⟨d + 1, k + 1, by rw [HDK.out]; rfl, by omega, by go_num, by first | exact HX4.out | exact Blk.drew HX4.out, by rw [HSS.out]; first | exact HY4.out | exact Blk.drew HY4.out, by first | exact HO4.out | exact below_drew HO4.out⟩
          case measure => simp [intOf]; omega
      · obtain rfl : k = 4 := by omega
        obtain rfl : d = 8 := by omega
        rw [HS.out] at hY
        have y0 : wr.cell? ⟨w.heap.size + 1, 0, none⟩ = some (.int .i64 (x2 : Int)) := Blk.cell hY 0
        have y1 : wr.cell? ⟨w.heap.size + 1, 1, none⟩ = some (.int .i64 (x3 : Int)) := Blk.cell hY 1
        have y2 : wr.cell? ⟨w.heap.size + 1, 2, none⟩ = some (.int .u32 (G : Int)) := Blk.cell hY 2
        have HXX := Lib.hid hX
        have HYY := Lib.hid hY
        have HOO := Lib.hid hO
        clear hX hY hO hdk
        go_wp2_with fail
        refine (rmay_ok _ _ _ _ H.out HG.out).mono ?_
        rintro e w9 ⟨rfl, hb9⟩
        have hX9 := Blk.below HXX.out hb9 (Blk.lt HXX.out)
        have hY9 := Blk.below HYY.out hb9 (Blk.lt HYY.out)
        have u0 : w9.cell? ⟨w.heap.size + 1, 0, none⟩ = some (.int .i64 (x2 : Int)) := Blk.cell hY9 0
        have u1 : w9.cell? ⟨w.heap.size + 1, 1, none⟩ = some (.int .i64 (x3 : Int)) := Blk.cell hY9 1
        have u2 : w9.cell? ⟨w.heap.size + 1, 2, none⟩ = some (.int .u32 (G : Int)) := Blk.cell hY9 2
        have s0 : w9.cell? ⟨w.heap.size, 0, none⟩ = some (.int .i64 0) := Blk.cell hX9 0
        have z0 : w9.frozen? ⟨w.heap.size, 0, none⟩ = false := Blk.free hX9 0
        have s1 : w9.cell? ⟨w.heap.size, 1, none⟩ = some (.int .i64 0) := Blk.cell hX9 1
        have z1 : w9.frozen? ⟨w.heap.size, 1, none⟩ = false := Blk.free hX9 1
        have s2 : w9.cell? ⟨w.heap.size, 2, none⟩ = some (.int .u32 0) := Blk.cell hX9 2
        have z2 : w9.frozen? ⟨w.heap.size, 2, none⟩ = false := Blk.free hX9 2
        have a0 : (w9.setCell ⟨w.heap.size, 0, none⟩ (.int .i64 (x2 : Int))).cell? ⟨w.heap.size, 0, none⟩ = some (.int .i64 (x2 : Int)) := Blk.cell (Blk.set hX9 0 _) 0
        have a1 : ((w9.setCell ⟨w.heap.size, 0, none⟩ (.int .i64 (x2 : Int))).setCell ⟨w.heap.size, 1, none⟩ (.int .i64 (x3 : Int))).cell? ⟨w.heap.size, 1, none⟩ = some (.int .i64 (x3 : Int)) := Blk.cell (Blk.set (Blk.set hX9 0 _) 1 _) 1
        have a2 : (((w9.setCell ⟨w.heap.size, 0, none⟩ (.int .i64 (x2 : Int))).setCell ⟨w.heap.size, 1, none⟩ (.int .i64 (x3 : Int))).setCell ⟨w.heap.size, 2, none⟩ (.int .u32 (G : Int))).cell? ⟨w.heap.size, 2, none⟩ = some (.int .u32 (G : Int)) := Blk.cell (Blk.set (Blk.set (Blk.set hX9 0 _) 1 _) 2 _) 2
        have A0 := Lib.hid a0
        have A1 := Lib.hid a1
        have A2 := Lib.hid a2
        clear a0 a1 a2
        have hB9 : Below w.heap.size w w9 := HOO.out.trans (hb9.mono HOO.out.size)
        have HB9 := Lib.hid hB9
        clear hX9 hY9 hb9 hB9
        go_wp2_with fail
        refine bodyPost_ret (v := .tuple #[.agg #[.int .i64 x2, .int .i64 x3, .int .u32 G], .int .i64 0]) ?_ rfl ⟨rfl, ?_⟩
        · simp [results, Tryd.results34, go_sem, A0.out, A1.out, A2.out]
        · exact (((HB9.out).setCell (by simp) _).setCell (by simp) _).setCell (by simp) _
set_option maxRecDepth 100000 in
set_option maxHeartbeats 2000000 in
theorem rdec_no (oa : Option Addr) (cp : Nat) (f : Nat → Nat) (w : World) (hb : Bytes w oa 8 f) (h0 : f 0 = 99) (h1 : f 1 = 102) (h : ¬ (OkP (f 2) (f 3) ∧ ((gN f : Nat) : Int) ≠ 0)) :
    Calls Tryd.prog 34 #[.slice oa 8 cp] w fun e w' => e = .returned (.tuple #[.agg #[.int .i64 0, .int .i64 0, .int .u32 0], .int .i64 4]) ∧ Below w.heap.size w w' := by
  have HB := Lib.hid hb
  have HF := Lib.hid (fun i (hi : i < 8) => (hb i hi).1)
  obtain ⟨_, bb0, oo0, ew, cw⟩ := hb 0 (by omega)
  subst ew
  have hlt := lt_of_cell cw
  have hn1 : ¬ (bb0 = w.heap.size + 1) := by simp at hlt; omega
  have hn2 : ¬ (w.heap.size + 1 = bb0) := by simp at hlt; omega
  clear cw
  obtain ⟨b0, bx0, ox0, e0, c0⟩ := (Bytes.alloc hb (.cells #[.int .i64 0, .int .i64 0, .int .u32 0] 52)) 0 (by omega)
  cases e0
  obtain ⟨b1, bx1, ox1, e1, c1⟩ := (Bytes.alloc hb (.cells #[.int .i64 0, .int .i64 0, .int .u32 0] 52)) 1 (by omega)
  cases e1
  obtain ⟨b2, bx2, ox2, e2, c2⟩ := (Bytes.alloc hb (.cells #[.int .i64 0, .int .i64 0, .int .u32 0] 52)) 2 (by omega)
  cases e2
  obtain ⟨b3, bx3, ox3, e3, c3⟩ := (Bytes.alloc hb (.cells #[.int .i64 0, .int .i64 0, .int .u32 0] 52)) 3 (by omega)
  cases e3
  rw [Nat.add_zero, h0] at c0
  rw [h1] at c1
  have HG := Lib.hid (show (0 : Int) ≤ ((gN f : Nat) : Int) by omega)
  have HS := Lib.hid (gB_four f)
  have H := Lib.hid h
  clear hb h0 h1 h
  generalize gN f = G at *
  have HX2 := Lib.hid (show f 2 = f 2 from rfl)
  obtain ⟨x2, e2⟩ : ∃ x, f 2 = x := ⟨_, rfl⟩
  obtain ⟨x3, e3⟩ : ∃ x, f 3 = x := ⟨_, rfl⟩
  rw [e2] at c2 b2 H
  rw [e3] at c3 b3 H
  clear HX2 e2 e3
  have k2 : IntKind.i64.wrap (x2 : Int) = (x2 : Int) := IntWalk.i64_in _ (by omega)
  have k3 : IntKind.i64.wrap (x3 : Int) = (x3 : Int) := IntWalk.i64_in _ (by omega)
  go_enter Tryd.func34, Tryd.ntmps34
  go_wp2_with fail
  go_region
  all_goals
    clear c0 c1 c2 c3
    go_wp2_with fail
    go_loopw [5] (fun i wr => ∃ d k : Nat, d = 4 + k ∧ k ≤ 4 ∧ i = .int .i64 d ∧ Blk wr w.heap.size #[.int .i64 0, .int .i64 0, .int .u32 0] 52 ∧ Blk wr (w.heap.size + 1) #[.int .i64 (x2 : Int), .int .i64 (x3 : Int), .int .u32 (gB f k : Nat)] 52 ∧ Below w.heap.size w wr) (fun i _ => 8 - (intOf i).toNat)
    case atStart => exact ⟨4, 0, rfl, Nat.zero_le _, rfl, by first | exact blk2 _ _ _ _ _ | exact Blk.drew (blk2 _ _ _ _ _), by first | exact blk2' _ _ _ _ _ | exact Blk.drew (blk2' _ _ _ _ _), by first | exact ((Below.refl _ _).alloc (Nat.le_refl _) _).alloc (by simp) _ | exact below_drew (((Below.refl _ _).alloc (Nat.le_refl _) _).alloc (by simp) _)⟩
    case round =>
      obtain ⟨d, k, hdk, hk, rfl, hX, hY, hO⟩ := hrel
      by_cases hlt4 : k < 4
      · obtain ⟨hfk, b', o', e, hcell⟩ := (Bytes.later HB.out hO) d (by omega)
        cases e
        have hl : gB f k < 16777216 := Nat.lt_of_lt_of_le (gB_lt k fun i hi => HF.out (4 + i) (by omega)) (Nat.pow_le_pow_right (n := 256) (by decide) (show k ≤ 3 by omega))
        have hs : gB f (k + 1) = 256 * gB f k + f d := by rw [hdk]; rfl
        have d0 : (0 : Int) ≤ (d : Int) := by omega
        have d1 : (d : Int) < 8 := by omega
        generalize gB f k = t at *
        generalize f d = x at *
        have m1 : IntKind.u32.wrap (256 * (t : Int)) = 256 * (t : Int) := by rw [IntKind.wrap_u32]; omega
        have m2 : IntKind.u32.wrap (x : Int) = (x : Int) := by rw [IntKind.wrap_u32]; omega
        have m3 : IntKind.u32.wrap (256 * (t : Int) + (x : Int)) = 256 * (t : Int) + (x : Int) := by rw [IntKind.wrap_u32]; omega
        have y2 : wr.cell? ⟨w.heap.size + 1, 2, none⟩ = some (.int .u32 (t : Int)) := Blk.cell hY 2
        have z2 : wr.frozen? ⟨w.heap.size + 1, 2, none⟩ = false := Blk.free hY 2
        have hX4 : Blk (wr.setCell ⟨w.heap.size + 1, 2, none⟩ (.int .u32 (256 * (t : Int) + (x : Int)))) w.heap.size #[.int .i64 0, .int .i64 0, .int .u32 0] 52 := Blk.set_other hX (by simp) _
        have hY4 : Blk (wr.setCell ⟨w.heap.size + 1, 2, none⟩ (.int .u32 (256 * (t : Int) + (x : Int)))) (w.heap.size + 1) #[.int .i64 (x2 : Int), .int .i64 (x3 : Int), .int .u32 (256 * (t : Int) + (x : Int))] 52 := Blk.set hY 2 _
        have hO4 : Below w.heap.size w (wr.setCell ⟨w.heap.size + 1, 2, none⟩ (.int .u32 (256 * (t : Int) + (x : Int)))) := hO.setCell (by simp) _
        have HX4 := Lib.hid hX4
        have HY4 := Lib.hid hY4
        have HO4 := Lib.hid hO4
        have HSS := Lib.hid hs
        have HDK := Lib.hid hdk
        clear hX hY hO hX4 hY4 hO4 hs hdk
        go_wp2_with fail
        go_region
        all_goals
          go_wp2_with fail
          go_roundw
          case rel => exact ⟨d + 1, k + 1, by rw [HDK.out]; rfl, by omega, by go_num, by first | exact HX4.out | exact Blk.drew HX4.out, by rw [HSS.out]; first | exact HY4.out | exact Blk.drew HY4.out, by first | exact HO4.out | exact below_drew HO4.out⟩
          case measure => simp [intOf]; omega
      · obtain rfl : k = 4 := by omega
        obtain rfl : d = 8 := by omega
        rw [HS.out] at hY
        have y0 : wr.cell? ⟨w.heap.size + 1, 0, none⟩ = some (.int .i64 (x2 : Int)) := Blk.cell hY 0
        have y1 : wr.cell? ⟨w.heap.size + 1, 1, none⟩ = some (.int .i64 (x3 : Int)) := Blk.cell hY 1
        have y2 : wr.cell? ⟨w.heap.size + 1, 2, none⟩ = some (.int .u32 (G : Int)) := Blk.cell hY 2
        have HXX := Lib.hid hX
        have HYY := Lib.hid hY
        have HOO := Lib.hid hO
        clear hX hY hO hdk
        go_wp2_with fail
        refine (rmay_no _ _ _ _ H.out HG.out).mono ?_
        rintro e w9 ⟨rfl, hb9⟩
        have hX9 := Blk.below HXX.out hb9 (Blk.lt HXX.out)
        have hY9 := Blk.below HYY.out hb9 (Blk.lt HYY.out)
        have u0 : w9.cell? ⟨w.heap.size + 1, 0, none⟩ = some (.int .i64 (x2 : Int)) := Blk.cell hY9 0
        have u1 : w9.cell? ⟨w.heap.size + 1, 1, none⟩ = some (.int .i64 (x3 : Int)) := Blk.cell hY9 1
        have u2 : w9.cell? ⟨w.heap.size + 1, 2, none⟩ = some (.int .u32 (G : Int)) := Blk.cell hY9 2
        have s0 : w9.cell? ⟨w.heap.size, 0, none⟩ = some (.int .i64 0) := Blk.cell hX9 0
        have z0 : w9.frozen? ⟨w.heap.size, 0, none⟩ = false := Blk.free hX9 0
        have s1 : w9.cell? ⟨w.heap.size, 1, none⟩ = some (.int .i64 0) := Blk.cell hX9 1
        have z1 : w9.frozen? ⟨w.heap.size, 1, none⟩ = false := Blk.free hX9 1
        have s2 : w9.cell? ⟨w.heap.size, 2, none⟩ = some (.int .u32 0) := Blk.cell hX9 2
        have z2 : w9.frozen? ⟨w.heap.size, 2, none⟩ = false := Blk.free hX9 2
        have a0 : (w9.setCell ⟨w.heap.size, 0, none⟩ (.int .i64 0)).cell? ⟨w.heap.size, 0, none⟩ = some (.int .i64 0) := Blk.cell (Blk.set hX9 0 _) 0
        have a1 : ((w9.setCell ⟨w.heap.size, 0, none⟩ (.int .i64 0)).setCell ⟨w.heap.size, 1, none⟩ (.int .i64 0)).cell? ⟨w.heap.size, 1, none⟩ = some (.int .i64 0) := Blk.cell (Blk.set (Blk.set hX9 0 _) 1 _) 1
        have a2 : (((w9.setCell ⟨w.heap.size, 0, none⟩ (.int .i64 0)).setCell ⟨w.heap.size, 1, none⟩ (.int .i64 0)).setCell ⟨w.heap.size, 2, none⟩ (.int .u32 0)).cell? ⟨w.heap.size, 2, none⟩ = some (.int .u32 0) := Blk.cell (Blk.set (Blk.set (Blk.set hX9 0 _) 1 _) 2 _) 2
        have A0 := Lib.hid a0
        have A1 := Lib.hid a1
        have A2 := Lib.hid a2
        clear a0 a1 a2
        have hB9 : Below w.heap.size w w9 := HOO.out.trans (hb9.mono HOO.out.size)
        have HB9 := Lib.hid hB9
        clear hX9 hY9 hb9 hB9
        go_wp2_with fail
        refine bodyPost_ret (v := .tuple #[.agg #[.int .i64 0, .int .i64 0, .int .u32 0], .int .i64 4]) ?_ rfl ⟨rfl, ?_⟩
        · simp [results, Tryd.results34, go_sem, A0.out, A1.out, A2.out]
        · exact (((HB9.out).setCell (by simp) _).setCell (by simp) _).setCell (by simp) _
end Go.Proofs.YtkaddilgegimjaaDoor
