/- Blocks as words, words as blocks; a number moved by one place; its bits. -/
import Derived.Test.YtbighpacggbllaaDoorGh1
namespace Go.Proofs.YtbighpacggbllaaDoor
set_option linter.unusedVariables false
set_option linter.unusedSimpArgs false
open Go.RowKit

theorem or8 (x y : Nat) (hx : x < 72057594037927936) (hy : y < 256) : bits .or .u64 ((x : Int) * 256) (y : Int) = (x : Int) * 256 + (y : Int) :=
  bits_join .u64 64 (by decide) (fun n h0 h1 => by simp [IntKind.wrap, IntKind.bits, IntKind.signed]; omega) 8 _ _ (by omega) (by omega) (by omega) (by omega) (by omega) (by omega)
/-- Two words in a block of their own. -/
def W2 (w : World) (g : Nat) (a b : Nat) : Prop := Blk w g #[.int .u64 (a : Int), .int .u64 (b : Int)] 112
/-- Behind k rounds of reading. -/
def RI (w0 : World) (f : Nat → Nat) (k : Nat) (wr : World) : Prop := B16 wr w0.heap.size f ∧ W2 wr (w0.heap.size + 1) 0 0 ∧ W2 wr (w0.heap.size + 1 + 1) (beX f 0 k) (beX f 8 k) ∧ Below w0.heap.size w0 wr
theorem RI.drew {w0 wr : World} {f : Nat → Nat} {k : Nat} (h : RI w0 f k wr) : RI w0 f k wr.drew := ⟨h.1, h.2.1, h.2.2.1, h.2.2.2.drew⟩
set_option maxRecDepth 100000 in
set_option maxHeartbeats 4000000 in
theorem gread_any (f : Nat → Nat) (w : World) (hf : ∀ i, i < 16 → f i < 256) :
    Calls Tryd.prog 40 #[.agg (rowC 16 f).toArray] w fun e w' => e = .returned (.agg #[.int .u64 (hiW f : Int), .int .u64 (loW f : Int)]) ∧ Below w.heap.size w w' := by
  have HF := Lib.hid hf
  clear hf
  obtain ⟨C, hC⟩ : ∃ C, (rowC 16 f).toArray = C := ⟨_, rfl⟩
  rw [hC]
  have HT := Lib.hid (show RI w f 0 (((w.alloc (.cells C 43)).alloc (.cells #[.int .u64 0, .int .u64 0] 112)).alloc (.cells #[.int .u64 0, .int .u64 0] 112)) by
    rw [← hC]
    refine ⟨((Blk.new w _ 43).alloc _).alloc _, ?_, ?_, (((Below.refl _ _).alloc (Nat.le_refl _) _).alloc (by simp) _).alloc (by simp; omega) _⟩
    · have := (Blk.new (w.alloc (.cells (rowC 16 f).toArray 43)) #[.int .u64 0, .int .u64 0] 112).alloc (.cells #[.int .u64 0, .int .u64 0] 112)
      unfold W2; simpa using this
    · have := Blk.new ((w.alloc (.cells (rowC 16 f).toArray 43)).alloc (.cells #[.int .u64 0, .int .u64 0] 112)) #[.int .u64 0, .int .u64 0] 112
      unfold W2; simpa [beX] using this)
  clear hC
  go_enter Tryd.func40, Tryd.ntmps40
  go_wp2_with fail
  go_loopw [5] (fun i wr => ∃ k : Nat, k ≤ 8 ∧ i = .int .i64 (k : Int) ∧ RI w f k wr) (fun i _ => 8 - (intOf i).toNat)
  case atStart => exact ⟨0, Nat.zero_le _, rfl, HT.out⟩
  case round =>
    obtain ⟨k, hk, rfl, hT⟩ := hrel
    by_cases hlt : k < 8
    · obtain ⟨hX, hY, hZ, hO⟩ := hT
      have hx8 := HF.out k (by omega)
      have hy8 := HF.out (8 + k) (by omega)
      have cx : wr.cell? ⟨w.heap.size, k, none⟩ = some (.int .u8 (f k : Nat)) := hX.cell (by omega)
      have cy : wr.cell? ⟨w.heap.size, 8 + k, none⟩ = some (.int .u8 (f (8 + k) : Nat)) := hX.cell (by omega)
      have hl0 : beX f 0 k < 72057594037927936 := Nat.lt_of_lt_of_le (beX_lt k fun i hi => HF.out (0 + i) (by omega)) (Nat.pow_le_pow_right (n := 256) (by decide) (show k ≤ 7 by omega))
      have hl8 : beX f 8 k < 72057594037927936 := Nat.lt_of_lt_of_le (beX_lt k fun i hi => HF.out (8 + i) (by omega)) (Nat.pow_le_pow_right (n := 256) (by decide) (show k ≤ 7 by omega))
      have hs0 : beX f 0 (k + 1) = beX f 0 k * 256 + f k := by show _ * 256 + f (0 + k) = _; rw [Nat.zero_add]
      have hs8 : beX f 8 (k + 1) = beX f 8 k * 256 + f (8 + k) := rfl
      generalize beX f 0 k = s at *
      generalize beX f 8 k = t at *
      generalize f (8 + k) = y at *
      generalize f k = x at *
      have o1 := or8 s x hl0 hx8
      have o2 := or8 t y hl8 hy8
      have c0 : wr.cell? ⟨w.heap.size + 1 + 1, 0, none⟩ = some (.int .u64 (s : Int)) := Blk.cell hZ 0
      have c1 : wr.cell? ⟨w.heap.size + 1 + 1, 1, none⟩ = some (.int .u64 (t : Int)) := Blk.cell hZ 1
      have z0 : wr.frozen? ⟨w.heap.size + 1 + 1, 0, none⟩ = false := Blk.free hZ 0
      have z1 : wr.frozen? ⟨w.heap.size + 1 + 1, 1, none⟩ = false := Blk.free hZ 1
      have m1 : IntKind.u64.wrap ((s : Int) * 256) = (s : Int) * 256 := by rw [IntKind.wrap_u64]; omega
      have m2 : IntKind.u64.wrap ((t : Int) * 256) = (t : Int) * 256 := by rw [IntKind.wrap_u64]; omega
      have m3 : IntKind.u64.wrap (x : Int) = (x : Int) := by rw [IntKind.wrap_u64]; omega
      have m4 : IntKind.u64.wrap (y : Int) = (y : Int) := by rw [IntKind.wrap_u64]; omega
      have m5 : IntKind.i64.wrap (8 + (k : Int)) = 8 + (k : Int) := IntWalk.i64_in _ (by omega)
      have m6 : (8 + (k : Int)).toNat = 8 + k := by omega
      have k0 : (0 : Int) ≤ (k : Int) := by omega
      have k1 : (k : Int) < 8 := by omega
      have k2 : (0 : Int) ≤ 8 + (k : Int) := by omega
      have k3 : 8 + (k : Int) < 16 := by omega
      have HN := Lib.hid (show RI w f (k + 1) ((wr.setCell ⟨w.heap.size + 1 + 1, 0, none⟩ (.int .u64 ((s : Int) * 256 + (x : Int)))).setCell ⟨w.heap.size + 1 + 1, 1, none⟩ (.int .u64 ((t : Int) * 256 + (y : Int)))) by
        refine ⟨Blk.set_other (Blk.set_other hX (by simp; omega) _) (by simp; omega) _, Blk.set_other (Blk.set_other hY (by simp) _) (by simp) _, ?_, (hO.setCell (by simp; omega) _).setCell (by simp; omega) _⟩
        have := (Blk.set hZ 0 (.int .u64 ((s : Int) * 256 + (x : Int)))).set 1 (.int .u64 ((t : Int) * 256 + (y : Int)))
        unfold W2
        rw [hs0, hs8]
        simpa using this)
      clear hX hY hZ hO hs0 hs8 hl0 hl8 hx8 hy8
      go_wp2_with fail
      go_region
      all_goals
        go_wp2_with fail
        go_region
      all_goals
        go_wp2_with fail
        go_roundw
        case rel => exact ⟨k + 1, by omega, by go_num, by first | exact HN.out | exact HN.out.drew | exact HN.out.drew.drew⟩
        case measure => simp [intOf]; omega
    · obtain rfl : k = 8 := by omega
      obtain ⟨hX, hY, hZ, hO⟩ := hT
      have e0 : beX f 0 8 = hiW f := rfl
      have e1 : beX f 8 8 = loW f := rfl
      rw [e0, e1] at hZ
      obtain ⟨a, ha⟩ : ∃ a, hiW f = a := ⟨_, rfl⟩
      obtain ⟨b, hb⟩ : ∃ b, loW f = b := ⟨_, rfl⟩
      rw [ha, hb] at hZ
      have HA := Lib.hid ha
      have HB := Lib.hid hb
      have c0 : wr.cell? ⟨w.heap.size + 1 + 1, 0, none⟩ = some (.int .u64 (a : Int)) := Blk.cell hZ 0
      have c1 : wr.cell? ⟨w.heap.size + 1 + 1, 1, none⟩ = some (.int .u64 (b : Int)) := Blk.cell hZ 1
      have d0 : wr.cell? ⟨w.heap.size + 1, 0, none⟩ = some (.int .u64 0) := Blk.cell hY 0
      have d1 : wr.cell? ⟨w.heap.size + 1, 1, none⟩ = some (.int .u64 0) := Blk.cell hY 1
      have f0 : wr.frozen? ⟨w.heap.size + 1, 0, none⟩ = false := Blk.free hY 0
      have f1 : wr.frozen? ⟨w.heap.size + 1, 1, none⟩ = false := Blk.free hY 1
      have A0 := Lib.hid (show (wr.setCell ⟨w.heap.size + 1, 0, none⟩ (.int .u64 (a : Int))).cell? ⟨w.heap.size + 1, 0, none⟩ = some (.int .u64 (a : Int)) from Blk.cell (Blk.set hY 0 _) 0)
      have A1 := Lib.hid (show ((wr.setCell ⟨w.heap.size + 1, 0, none⟩ (.int .u64 (a : Int))).setCell ⟨w.heap.size + 1, 1, none⟩ (.int .u64 (b : Int))).cell? ⟨w.heap.size + 1, 1, none⟩ = some (.int .u64 (b : Int)) from Blk.cell (Blk.set (Blk.set hY 0 _) 1 _) 1)
      have HO := Lib.hid hO
      clear hX hY hZ hO ha hb e0 e1 hlt hk HT
      go_wp2_with fail
      refine bodyPost_ret (v := .agg #[.int .u64 (a : Int), .int .u64 (b : Int)]) ?_ rfl ⟨by rw [HA.out, HB.out], ?_⟩
      · simp [results, Tryd.results40, go_sem, A0.out, A1.out]
      · exact ((HO.out.setCell (by simp) _).setCell (by simp) _)

end Go.Proofs.YtbighpacggbllaaDoor
