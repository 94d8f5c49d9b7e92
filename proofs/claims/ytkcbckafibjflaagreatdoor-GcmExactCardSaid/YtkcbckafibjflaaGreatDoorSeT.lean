/- Layer 8: the document's table (for seats that have Row). -/
import Derived.Test.YtkcbckafibjflaaGreatDoorSeb
import Derived.Test.YtkcbckafibjflaaGreatDoorCame
import Derived.Test.YtkcbckafibjflaaGreatDoorSetC
import Derived.Test.YtkcbckafibjflaaGreatDoorRow
namespace Go.Proofs.YtkcbckafibjflaaGreatDoor
set_option linter.unusedVariables false
set_option linter.unusedSimpArgs false
open Go.RowKit

/-- An array of bytes in a block of its own. -/
def Arr (w : World) (g : Nat) (f : Nat → Nat) : Prop := Blk w g (rowC 256 f).toArray 37
theorem Arr.cell {w : World} {g : Nat} {f : Nat → Nat} (h : Arr w g f) {i : Nat} (hi : i < 256) : w.cell? ⟨g, i, none⟩ = some (.int .u8 (f i : Nat)) := by
  rw [Blk.cell h i]; simpa using rowC_get f hi
theorem Arr.set {w : World} {g : Nat} {f : Nat → Nat} (h : Arr w g f) (k x : Nat) : Arr (w.setCell ⟨g, k, none⟩ (.int .u8 (x : Nat))) g (upd f k x) := by
  have := Blk.set h k (.int .u8 (x : Nat))
  rw [List.setIfInBounds_toArray, rowC_set] at this; exact this
def zero256 : Array Value := (rowC 256 (fun _ => 0)).toArray
theorem zero256_run (w : World) : (zeroValue 37).run Tryz.prog w = .ok (.agg zero256) w := by kernel_rfl

/-- The powers of 3 that go back. -/
def x2 (q k : Nat) : Nat := q ^^^ (q * 2 ^ k % 256)
def thirdN (q : Nat) : Nat := if 128 ≤ x2 (x2 (x2 q 1) 2) 4 then x2 (x2 (x2 q 1) 2) 4 ^^^ 9 else x2 (x2 (x2 q 1) 2) 4
def backE : Nat → Nat
  | 0 => 1
  | n + 1 => thirdN (backE n)
theorem x2_lt {q : Nat} (h : q < 256) (k : Nat) : x2 q k < 256 := xor_lt h (Nat.mod_lt _ (by decide))
theorem thirdN_lt {q : Nat} (h : q < 256) : thirdN q < 256 := by
  unfold thirdN; split
  · exact xor_lt (x2_lt (x2_lt (x2_lt h 1) 2) 4) (by decide)
  · exact x2_lt (x2_lt (x2_lt h 1) 2) 4
theorem backE_lt : ∀ n, backE n < 256
  | 0 => by show 1 < 256; decide
  | n + 1 => thirdN_lt (backE_lt n)
theorem backE_exp : ∀ i, i < 255 → backE i = expN ((255 - i) % 255) := by decide +kernel
theorem back_inv {i : Nat} (h : i < 255) : backE i = invN (expN i) := by
  have hp := exp_pos h
  unfold invN divN
  rw [if_neg (by omega), if_neg (by decide), log_exp h, show logN 1 = 0 by decide +kernel, Nat.zero_add, backE_exp i h]
theorem sub_at {i : Nat} (h : i < 255) : spreadN (backE i) = subN (expN i) := by rw [back_inv h]; rfl
theorem exp_all {x : Nat} (h0 : 0 < x) (h : x < 256) : ∃ i, i < 255 ∧ expN i = x := ⟨logN x, log_lt h, exp_log h0 h⟩

theorem size256 : (Tryz.prog.info? 37).map (·.size) = some 256 := by kernel_rfl
theorem one256 (f : Nat → Nat) : (rowC 256 f).toArray.all (·.oneCell') = true := all_oneCell_toArray (rowC_one _ _)
/-- Behind k rounds. -/
def TIs (w0 : World) (k : Nat) (wr : World) : Prop := ∃ f, Arr wr (w0.heap.size + 1) f ∧ f 0 = 99 ∧ (∀ j, j < k → f (expN j) = subN (expN j)) ∧ Arr wr w0.heap.size (fun _ => 0) ∧ Below w0.heap.size w0 wr
theorem TIs.start (w : World) : TIs w 0 ((w.alloc (.cells zero256 37)).alloc (.cells (zero256.setIfInBounds 0 (.int .u8 99)) 37)) := by
  refine ⟨upd (fun _ => 0) 0 99, ?_, rfl, fun j hj => absurd hj (Nat.not_lt_zero _), (Blk.new w zero256 37).alloc _, ((Below.refl _ _).alloc (Nat.le_refl _) _).alloc (by simp) _⟩
  have h := Blk.new (w.alloc (.cells zero256 37)) (zero256.setIfInBounds 0 (.int .u8 99)) 37
  have e : zero256.setIfInBounds 0 (.int .u8 99) = (rowC 256 (upd (fun _ => 0) 0 99)).toArray := by
    unfold zero256
    rw [List.setIfInBounds_toArray, show (Value.int .u8 99) = .int .u8 ((99 : Nat) : Int) from rfl, rowC_set]
  rw [e] at h ⊢
  unfold Arr
  simpa using h
theorem TIs.step {w0 wr : World} {k : Nat} (h : TIs w0 k wr) (hk : k < 255) : TIs w0 (k + 1) (wr.setCell ⟨w0.heap.size + 1, expN k, none⟩ (.int .u8 (subN (expN k) : Nat))) := by
  obtain ⟨f, h1, h2, h3, h4, h5⟩ := h
  refine ⟨upd f (expN k) (subN (expN k)), h1.set _ _, ?_, fun j hj => ?_, Blk.set_other h4 (by simp) _, h5.setCell (by simp) _⟩
  · have := exp_pos hk
    unfold upd; rw [if_neg (by omega)]; exact h2
  · unfold upd
    by_cases e : expN j = expN k
    · rw [if_pos e, e]
    · rw [if_neg e]
      refine h3 j ?_
      rcases Nat.lt_or_ge j k with h' | h'
      · exact h'
      · obtain rfl : j = k := by omega
        exact absurd rfl e
theorem TIs.done {w0 wr : World} (h : TIs w0 255 wr) : Arr wr (w0.heap.size + 1) subN ∧ Arr wr w0.heap.size (fun _ => 0) ∧ Below w0.heap.size w0 wr := by
  obtain ⟨f, h1, h2, h3, h4, h5⟩ := h
  refine ⟨?_, h4, h5⟩
  have e : rowC 256 f = rowC 256 subN := rowC_congr fun x hx => by
    rcases Nat.eq_zero_or_pos x with h0 | h0
    · subst h0; rw [h2]; decide +kernel
    · obtain ⟨i, hi, rfl⟩ := exp_all h0 hx
      exact h3 i hi
  unfold Arr at h1 ⊢
  rw [← e]; exact h1
theorem TIs.cell {w0 wr : World} {k x : Nat} (h : TIs w0 k wr) (hx : x < 256) : ∃ y : Nat, wr.cell? ⟨w0.heap.size + 1, x, none⟩ = some (.int .u8 (y : Int)) ∧ wr.frozen? ⟨w0.heap.size + 1, x, none⟩ = false := by
  obtain ⟨f, h1, _⟩ := h
  exact ⟨_, h1.cell hx, Blk.free h1 _⟩

set_option maxRecDepth 100000 in
set_option maxHeartbeats 4000000 in
theorem table_any (w : World) :
    Calls Tryz.prog 36 #[] w fun e w' => e = .returned (.agg (rowC 256 subN).toArray) ∧ Below w.heap.size w w' := by
  have hz := zero256_run
  have hz0 : zero256[0]? = some (.int .u8 0) := by kernel_rfl
  have HT0 := Lib.hid (TIs.start w)
  go_enter Tryz.func36, Tryz.ntmps36
  go_wp2_with fail
  clear hz hz0
  go_loopw [2, 3, 4] (fun p q i wr => ∃ k : Nat, k ≤ 255 ∧ i = .int .i64 (k : Int) ∧ p = .int .u8 (expN k : Nat) ∧ q = .int .u8 (backE k : Nat) ∧ TIs w k wr) (fun _ _ i _ => 255 - (intOf i).toNat)
  case atStart => exact ⟨0, Nat.zero_le _, rfl, rfl, rfl, HT0.out⟩
  case round =>
    obtain ⟨k, hk, rfl, rfl, rfl, hT⟩ := hrel
    by_cases hlt : k < 255
    · have hp8 := expN_lt k
      have hq8 := backE_lt k
      obtain ⟨y, hy, hf⟩ := hT.cell hp8
      have HTn := Lib.hid (hT.step hlt)
      have HS := Lib.hid (sub_at hlt)
      have ht8 : timesN (expN k) < 256 := by
        unfold timesN; split
        · omega
        · exact xor_lt (by omega) (by decide)
      have e0 : bits .xor .u8 (expN k : Int) (timesN (expN k) : Int) = (expN (k + 1) : Nat) := by
        rw [u8_xor_nat _ _ hp8 ht8, Nat.xor_comm]; rfl
      have hr1 := x2_lt hq8 1
      have hr2 := x2_lt hr1 2
      have hr3 := x2_lt hr2 4
      have m1 : IntKind.u8.wrap ((backE k : Int) * 2) = ((backE k * 2 ^ 1 % 256 : Nat) : Int) := by rw [IntKind.wrap_u8]; omega
      have e1 : bits .xor .u8 (backE k : Int) ((backE k * 2 ^ 1 % 256 : Nat) : Int) = (x2 (backE k) 1 : Nat) := u8_xor_nat _ _ hq8 (Nat.mod_lt _ (by decide))
      have m2 : IntKind.u8.wrap ((x2 (backE k) 1 : Int) * 4) = ((x2 (backE k) 1 * 2 ^ 2 % 256 : Nat) : Int) := by rw [IntKind.wrap_u8]; omega
      have e2 : bits .xor .u8 (x2 (backE k) 1 : Int) ((x2 (backE k) 1 * 2 ^ 2 % 256 : Nat) : Int) = (x2 (x2 (backE k) 1) 2 : Nat) := u8_xor_nat _ _ hr1 (Nat.mod_lt _ (by decide))
      have m3 : IntKind.u8.wrap ((x2 (x2 (backE k) 1) 2 : Int) * 16) = ((x2 (x2 (backE k) 1) 2 * 2 ^ 4 % 256 : Nat) : Int) := by rw [IntKind.wrap_u8]; omega
      have e3 : bits .xor .u8 (x2 (x2 (backE k) 1) 2 : Int) ((x2 (x2 (backE k) 1) 2 * 2 ^ 4 % 256 : Nat) : Int) = (x2 (x2 (x2 (backE k) 1) 2) 4 : Nat) := u8_xor_nat _ _ hr2 (Nat.mod_lt _ (by decide))
      have e4 : bits .xor .u8 (x2 (x2 (x2 (backE k) 1) 2) 4 : Int) 9 = ((x2 (x2 (x2 (backE k) 1) 2) 4 ^^^ 9 : Nat) : Int) := u8_xor_nat _ 9 hr3 (by decide)
      have HB := Lib.hid (show backE (k + 1) = if 128 ≤ x2 (x2 (x2 (backE k) 1) 2) 4 then x2 (x2 (x2 (backE k) 1) 2) 4 ^^^ 9 else x2 (x2 (x2 (backE k) 1) 2) 4 from rfl)
      have HX := Lib.hid (show expN (k + 1) = expN (k + 1) from rfl)
      have HP8 := Lib.hid hp8
      have HQ8 := Lib.hid hq8
      generalize x2 (x2 (backE k) 1) 2 * 2 ^ 4 % 256 = s3 at *
      generalize x2 (x2 (x2 (backE k) 1) 2) 4 = r3 at *
      generalize x2 (backE k) 1 * 2 ^ 2 % 256 = s2 at *
      generalize x2 (x2 (backE k) 1) 2 = r2 at *
      generalize backE k * 2 ^ 1 % 256 = s1 at *
      generalize x2 (backE k) 1 = r1 at *
      generalize r3 ^^^ 9 = r4 at *
      obtain ⟨q, hq⟩ : ∃ q, backE k = q := ⟨_, rfl⟩
      obtain ⟨p, hp⟩ : ∃ p, expN k = p := ⟨_, rfl⟩
      obtain ⟨p2, hp2⟩ : ∃ p, expN (k + 1) = p := ⟨_, rfl⟩
      rw [hq] at HS HQ8 m1 e1 hq8 ⊢
      rw [hp] at HTn HS HP8 hy hf e0 hp8 ht8 ⊢
      rw [hp2] at e0
      have HP2 := Lib.hid hp2
      rw [← HS.out] at HTn
      obtain ⟨s, hs⟩ : ∃ s, spreadN q = s := ⟨_, rfl⟩
      rw [hs] at HTn
      have HSP := Lib.hid hs
      obtain ⟨t, htt⟩ : ∃ t, timesN p = t := ⟨_, rfl⟩
      rw [htt] at e0 ht8
      have HTT := Lib.hid htt
      have p0 : (0 : Int) ≤ (p : Int) := by omega
      have p1 : (p : Int) < 256 := by omega
      clear hq hp hp2 hs htt hT hp8 hq8 ht8 hr1 hr2 HX HS
      by_cases hge : 128 ≤ r3
      · have hge' : (128 : Int) ≤ (r3 : Int) := by omega
        have HB2 := Lib.hid (HB.out.trans (if_pos hge))
        clear hge hr3 HB
        go_wp2_with fail
        refine (aff_any q _ HQ8.out).mono ?_
        rintro e w1 ⟨rfl, rfl⟩
        rw [HSP.out]
        go_wp2_with fail
        refine (times_any p _ HP8.out).mono ?_
        rintro e w1 ⟨rfl, rfl⟩
        rw [HTT.out]
        go_wp2_with fail
        go_roundw
        case rel => exact ⟨k + 1, by omega, by go_num, by rw [HP2.out], by rw [HB2.out], HTn.out⟩
        case measure => simp [intOf]; omega
      · have hge' : ¬ ((128 : Int) ≤ (r3 : Int)) := by omega
        have HB2 := Lib.hid (HB.out.trans (if_neg hge))
        clear hge hr3 HB
        go_wp2_with fail
        refine (aff_any q _ HQ8.out).mono ?_
        rintro e w1 ⟨rfl, rfl⟩
        rw [HSP.out]
        go_wp2_with fail
        refine (times_any p _ HP8.out).mono ?_
        rintro e w1 ⟨rfl, rfl⟩
        rw [HTT.out]
        go_wp2_with fail
        go_roundw
        case rel => exact ⟨k + 1, by omega, by go_num, by rw [HP2.out], by rw [HB2.out], HTn.out⟩
        case measure => simp [intOf]; omega
    · obtain rfl : k = 255 := by omega
      obtain ⟨hA, hZ, hO⟩ := hT.done
      have HA := Lib.hid hA
      have HZ := Lib.hid hZ
      have HO := Lib.hid hO
      have HSz := Lib.hid size256
      have HTh : Hid (wr.there w.heap.size 0 (rowC 256 subN).toArray.size) := Lib.hid (Blk.there hZ (by simp [rowC_len]))
      have HI : Hid ((Tryz.prog.info? 37).map (·.size) = some (rowC 256 subN).toArray.size) := Lib.hid (by rw [List.size_toArray, rowC_len]; exact size256)
      have HON := Lib.hid (one256 subN)
      have HN : Hid (Blk (wr.setCells w.heap.size 0 (rowC 256 subN).toArray.toList) w.heap.size (rowC 256 subN).toArray 37) := Lib.hid (Blk.setCells hZ (rowC 256 subN) (by simp [rowC_len]))
      have HOw : Hid (Own w.heap.size wr (wr.setCells w.heap.size 0 (rowC 256 subN).toArray.toList)) := Lib.hid (Own.setCells _ _ _)
      clear hT hA hZ hO hlt hk HT0
      obtain ⟨C, hC⟩ : ∃ C, (rowC 256 subN).toArray = C := ⟨_, rfl⟩
      unfold Arr at HA
      rw [hC] at HA HTh HI HON HN HOw
      have HCC := Lib.hid hC
      clear hC
      go_wp2_with (first
        | (refine wpList_load_row rfl 37 (.tmp 1) rfl (w.heap.size + 1) rfl 37 C (0, 0) _ HA.out Tryz.underlying37 rfl HI.out ?_)
        | (refine wpList_store_mid rfl 37 (.tmp 0) (.tmp 34) rfl w.heap.size 0 C rfl rfl HTh.out HI.out HON.out ?_))
      refine bodyPost_ret (v := .agg C) ?_ rfl ⟨by rw [HCC.out], ?_⟩
      · exact results_cell_row Tryz.results36 _ _ w.heap.size 37 C (0, 0) _ rfl HN.out Tryz.underlying37 rfl HI.out
      · exact HO.out.trans (HOw.out.below (Nat.le_refl _) HO.out.size)
end Go.Proofs.YtkcbckafibjflaaGreatDoor
