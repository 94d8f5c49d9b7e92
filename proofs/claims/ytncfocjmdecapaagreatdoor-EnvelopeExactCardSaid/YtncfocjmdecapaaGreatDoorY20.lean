/- Part of the proof: what stands here serves the walks of the functions that the statement calls. -/
import Derived.Test.YtncfocjmdecapaaGreatDoorY19
namespace Go.Proofs.YtncfocjmdecapaaGreatDoor
set_option linter.unusedVariables false
set_option linter.unusedSimpArgs false
open Go.RowKit
set_option maxRecDepth 100000
set_option maxHeartbeats 4000000
def Arr (w : World) (g : Nat) (f : Nat → Nat) : Prop := Blk w g (rowC 256 f).toArray 69
theorem Arr.cell {w : World} {g : Nat} {f : Nat → Nat} (h : Arr w g f) {i : Nat} (hi : i < 256) : w.cell? ⟨g, i, none⟩ = some (.int .u8 (f i : Nat)) := by
 rw [Blk.cell h i]; simpa using rowC_get f hi
theorem Arr.set {w : World} {g : Nat} {f : Nat → Nat} (h : Arr w g f) (k x : Nat) : Arr (w.setCell ⟨g, k, none⟩ (.int .u8 (x : Nat))) g (upd f k x) := by
 have := Blk.set h k (.int .u8 (x : Nat))
 rw [List.setIfInBounds_toArray, rowC_set] at this; exact this
def zero256 : Array Value := (rowC 256 (fun _ => 0)).toArray
theorem zero256_run (w : World) : (zeroValue 69).run Tryz.prog w = .ok (.agg zero256) w := by kernel_rfl
def x2 (q k : Nat) : Nat := q ^^^ (q * 2 ^ k % 256)
def thirdN (q : Nat) : Nat := if 128 ≤ x2 (x2 (x2 q 1) 2) 4 then x2 (x2 (x2 q 1) 2) 4 ^^^ 9 else x2 (x2 (x2 q 1) 2) 4
def backE : Nat → Nat
 | 0 => 1
 | n + 1 => thirdN (backE n)
theorem x2_lt {q : Nat} (h : q < 256) (k : Nat) : x2 q k < 256 := xor_lt h (Nat.mod_lt _ (by decide))
theorem thirdN_lt {q : Nat} (h : q < 256) : thirdN q < 256 := by
 unfold thirdN; split
 ·exact xor_lt (x2_lt (x2_lt (x2_lt h 1) 2) 4) (by decide)
 ·exact x2_lt (x2_lt (x2_lt h 1) 2) 4
theorem backE_lt : ∀ n, backE n < 256
 | 0 => by show 1 < 256; decide
 | n + 1 => thirdN_lt (backE_lt n)
theorem backE_exp : ∀ i, i < 255 → backE i = expN ((255 - i) % 255) := by decide +kernel
theorem back_inv {i : Nat} (h : i < 255) : backE i = invN (expN i) := by
 have hp := exp_pos h
 unfold invN divN
 rw [if_neg (by omega), if_neg (by decide), log_exp h, show logN 1 = 0 by decide +kernel, Nat.zero_add, backE_exp i h]
theorem sub_at {i : Nat} (h : i < 255) : spreadN (backE i) = subN (expN i) := by rw [back_inv h]; rfl
theorem exp_all {x : Nat} (h0 : 0 < x) (h : x < 256) : ∃ i, i < 255 ∧ expN i = x := ⟨logN x, log_lt h, exp_log h0 h⟩
theorem size256 : (Tryz.prog.info? 69).map (·.size) = some 256 := by kernel_rfl
theorem one256 (f : Nat → Nat) : (rowC 256 f).toArray.all (·.oneCell') = true := all_oneCell_toArray (rowC_one _ _)
def TIs (w0 : World) (k : Nat) (wr : World) : Prop := ∃ f, Arr wr (w0.heap.size + 1) f ∧ f 0 = 99 ∧ (∀ j, j < k → f (expN j) = subN (expN j)) ∧ Arr wr w0.heap.size (fun _ => 0) ∧ Below w0.heap.size w0 wr
theorem TIs.start (w : World) : TIs w 0 ((w.alloc (.cells zero256 69)).alloc (.cells (zero256.setIfInBounds 0 (.int .u8 99)) 69)) := by
 refine ⟨upd (fun _ => 0) 0 99, ?_, rfl, fun j hj => absurd hj (Nat.not_lt_zero _), (Blk.new w zero256 69).alloc _, (zA).alloc (by simp) _⟩
 have h := Blk.new (w.alloc (.cells zero256 69)) (zero256.setIfInBounds 0 (.int .u8 99)) 69
 have e : zero256.setIfInBounds 0 (.int .u8 99) = (rowC 256 (upd (fun _ => 0) 0 99)).toArray := by
  unfold zero256
  rw [List.setIfInBounds_toArray, show (Value.int .u8 99) = .int .u8 ((99 : Nat) : Int) from rfl, rowC_set]
 rw [e] at h ⊢
 unfold Arr
 simpa using h
theorem TIs.step {w0 wr : World} {k : Nat} (h : TIs w0 k wr) (hk : k < 255) : TIs w0 (k + 1) (wr.setCell ⟨w0.heap.size + 1, expN k, none⟩ (.int .u8 (subN (expN k) : Nat))) := by
 obtain ⟨f, h1, h2, h3, h4, h5⟩ := h
 refine ⟨upd f (expN k) (subN (expN k)), h1.set _ _, ?_, fun j hj => ?_, Blk.set_other h4 (by simp) _, h5.setCell (by simp) _⟩
 ·have := exp_pos hk
  unfold upd; rw [if_neg (by omega)]; exact h2
 ·unfold upd
  by_cases e : expN j = expN k
  ·rw [if_pos e, e]
  ·rw [if_neg e]
   refine h3 j ?_
   rcases Nat.lt_or_ge j k with h' | h'
   ·exact h'
   ·obtain rfl : j = k := by omega
    exact absurd rfl e
theorem TIs.done {w0 wr : World} (h : TIs w0 255 wr) : Arr wr (w0.heap.size + 1) subN ∧ Arr wr w0.heap.size (fun _ => 0) ∧ Below w0.heap.size w0 wr := by
 obtain ⟨f, h1, h2, h3, h4, h5⟩ := h
 refine ⟨?_, h4, h5⟩
 have e : rowC 256 f = rowC 256 subN := rowC_congr fun x hx => by
  rcases Nat.eq_zero_or_pos x with h0 | h0
  ·subst h0; rw [h2]; decide +kernel
  ·obtain ⟨i, hi, rfl⟩ := exp_all h0 hx
   exact h3 i hi
 unfold Arr at h1 ⊢
 rw [← e]; exact h1
theorem TIs.cell {w0 wr : World} {k x : Nat} (h : TIs w0 k wr) (hx : x < 256) : ∃ y : Nat, wr.cell? ⟨w0.heap.size + 1, x, none⟩ = some (.int .u8 (y : Int)) ∧ wr.frozen? ⟨w0.heap.size + 1, x, none⟩ = false := by
 obtain ⟨f, h1, _⟩ := h
 exact ⟨_, h1.cell hx, Blk.free h1 _⟩
theorem table_any (w : World) :
  Calls Tryz.prog 87 #[] w fun e w' => e = .returned (.agg (rowC 256 subN).toArray) ∧ Below w.heap.size w w' := by
 have hz := zero256_run
 have hz0 : zero256[0]? = some (.int .u8 0) := by kernel_rfl
 have HT0 := zh (TIs.start w)
 go_enter Tryz.func87, Tryz.ntmps87
 go_wp2_with fail
 clear hz hz0
 go_loopw [2, 3, 4] (fun p q i wr => ∃ k : Nat, k ≤ 255 ∧ i = .int .i64 (k : Int) ∧ p = .int .u8 (expN k : Nat) ∧ q = .int .u8 (backE k : Nat) ∧ TIs w k wr) (fun _ _ i _ => 255 - (intOf i).toNat)
 case atStart => exact ⟨0, Nat.zero_le _, rfl, rfl, rfl, HT0.out⟩
 case round =>
  obtain ⟨k, hk, rfl, rfl, rfl, hT⟩ := hrel
  by_cases hlt : k < 255
  ·have hp8 := expN_lt k
   have hq8 := backE_lt k
   obtain ⟨y, hy, hf⟩ := hT.cell hp8
   have HTn := zh (hT.step hlt)
   have HS := zh (sub_at hlt)
   have ht8 : timesN (expN k) < 256 := by
    unfold timesN; split
    ·omega
    ·exact xor_lt (by omega) (by decide)
   have e0 : bits .xor .u8 (expN k : Int) (timesN (expN k) : Int) = (expN (k + 1) : Nat) := by
    rw [u8_xor_nat _ _ hp8 ht8, Nat.xor_comm]; rfl
   have hr1 := x2_lt hq8 1
   have hr2 := x2_lt hr1 2
   have hr3 := x2_lt hr2 4
   have m1 : IntKind.u8.wrap ((backE k : Int) * 2) = ((backE k * 2 ^ 1 % 256 : Nat) : Int) := by rw [IntKind.wrap_u8]; omega
   have e1 : bits .xor .u8 (backE k : Int) ((backE k * 2 ^ 1 % 256 : Nat) : Int) = (x2 (backE k) 1 : Nat) := u8_xor_nat _ _ hq8 (Nat.mod_lt _ (by decide))
   have m2 : IntKind.u8.wrap ((x2 (backE k) 1 : Int) * 4) = ((x2 (backE k) 1 * 2 ^ 2 % 256 : Nat) : Int) := by rw [IntKind.wrap_u8]; omega
   have e2 : bits .xor .u8 (x2 (backE k) 1 : Int) ((x2 (backE k) 1 * 2 ^ 2 % 256 : Nat) : Int) = (x2 (x2 (backE k) 1) 2 : Nat) := u8_xor_nat _ _ hr1 (Nat.mod_lt _ (by decide))
   have m3 : IntKind.u8.wrap ((x2 (x2 (backE k) 1) 2 : Int) * 16) = ((x2 (x2 (backE k) 1) 2 * 2 ^ 4 % 256 : Nat) : Int) := by rw [IntKind.wrap_u8]; omega
   have e3 : bits .xor .u8 (x2 (x2 (backE k) 1) 2 : Int) ((x2 (x2 (backE k) 1) 2 * 2 ^ 4 % 256 : Nat) : Int) = (x2 (x2 (x2 (backE k) 1) 2) 4 : Nat) := u8_xor_nat _ _ hr2 (Nat.mod_lt _ (by decide))
   have e4 : bits .xor .u8 (x2 (x2 (x2 (backE k) 1) 2) 4 : Int) 9 = ((x2 (x2 (x2 (backE k) 1) 2) 4 ^^^ 9 : Nat) : Int) := u8_xor_nat _ 9 hr3 (by decide)
   have HB := zh (show backE (k + 1) = if 128 ≤ x2 (x2 (x2 (backE k) 1) 2) 4 then x2 (x2 (x2 (backE k) 1) 2) 4 ^^^ 9 else x2 (x2 (x2 (backE k) 1) 2) 4 from rfl)
   have HX := zh (show expN (k + 1) = expN (k + 1) from rfl)
   have HP8 := zh hp8
   have HQ8 := zh hq8
   generalize x2 (x2 (backE k) 1) 2 * 2 ^ 4 % 256 = s3 at *
   generalize x2 (x2 (x2 (backE k) 1) 2) 4 = r3 at *
   generalize x2 (backE k) 1 * 2 ^ 2 % 256 = s2 at *
   generalize x2 (x2 (backE k) 1) 2 = r2 at *
   generalize backE k * 2 ^ 1 % 256 = s1 at *
   generalize x2 (backE k) 1 = r1 at *
   generalize r3 ^^^ 9 = r4 at *
   obtain ⟨q, hq⟩ := zX (backE k)
   obtain ⟨p, hp⟩ := zX (expN k)
   obtain ⟨p2, hp2⟩ := zX (expN (k + 1))
   rw [hq] at HS HQ8 m1 e1 hq8 ⊢
   rw [hp] at HTn HS HP8 hy hf e0 hp8 ht8 ⊢
   rw [hp2] at e0
   have HP2 := zh hp2
   rw [← HS.out] at HTn
   obtain ⟨s, hs⟩ := zX (spreadN q)
   rw [hs] at HTn
   have HSP := zh hs
   obtain ⟨t, htt⟩ := zX (timesN p)
   rw [htt] at e0 ht8
   have HTT := zh htt
   have p0 : (0 : Int) ≤ (p : Int) := by omega
   have p1 : (p : Int) < 256 := by omega
   clear hq hp hp2 hs htt hT hp8 hq8 ht8 hr1 hr2 HX HS
   by_cases hge : 128 ≤ r3
   ·have hge' : (128 : Int) ≤ (r3 : Int) := by omega
    have HB2 := zh (HB.out.trans (if_pos hge))
    clear hge hr3 HB
    go_wp2_with fail
    refine (aff_any q _ HQ8.out).mono ?_
    rintro e w1 ⟨rfl, rfl⟩
    rw [HSP.out]
    go_wp2_with fail
    refine (times_any p _ HP8.out).mono ?_
    rintro e w1 ⟨rfl, rfl⟩
    rw [HTT.out]
    go_wp2_with fail
    go_roundw
    case rel => exact ⟨k + 1, by omega, by go_num, by rw [HP2.out], by rw [HB2.out], HTn.out⟩
    case measure => simp [intOf]; omega
   ·have hge' : ¬ ((128 : Int) ≤ (r3 : Int)) := by omega
    have HB2 := zh (HB.out.trans (if_neg hge))
    clear hge hr3 HB
    go_wp2_with fail
    refine (aff_any q _ HQ8.out).mono ?_
    rintro e w1 ⟨rfl, rfl⟩
    rw [HSP.out]
    go_wp2_with fail
    refine (times_any p _ HP8.out).mono ?_
    rintro e w1 ⟨rfl, rfl⟩
    rw [HTT.out]
    go_wp2_with fail
    go_roundw
    case rel => exact ⟨k + 1, by omega, by go_num, by rw [HP2.out], by rw [HB2.out], HTn.out⟩
    case measure => simp [intOf]; omega
  ·obtain rfl : k = 255 := by omega
   obtain ⟨hA, hZ, hO⟩ := hT.done
   have HA := zh hA
   have HZ := zh hZ
   have HO := zh hO
   have HSz := zh size256
   have HTh : Hid (wr.there w.heap.size 0 (rowC 256 subN).toArray.size) := zh (Blk.there hZ (by simp [rowC_len]))
   have HI : Hid ((Tryz.prog.info? 69).map (·.size) = some (rowC 256 subN).toArray.size) := zh (by rw [List.size_toArray, rowC_len]; exact size256)
   have HON := zh (one256 subN)
   have HN : Hid (Blk (wr.setCells w.heap.size 0 (rowC 256 subN).toArray.toList) w.heap.size (rowC 256 subN).toArray 69) := zh (Blk.setCells hZ (rowC 256 subN) (by simp [rowC_len]))
   have HOw : Hid (Own w.heap.size wr (wr.setCells w.heap.size 0 (rowC 256 subN).toArray.toList)) := zh (Own.setCells _ _ _)
   clear hT hA hZ hO hlt hk HT0
   obtain ⟨C, hC⟩ := zX ((rowC 256 subN).toArray)
   unfold Arr at HA
   rw [hC] at HA HTh HI HON HN HOw
   have HCC := zh hC
   clear hC
   go_wp2_with (first
    | (refine wpList_load_row rfl 69 (.tmp 1) rfl (w.heap.size + 1) rfl 69 C (0, 0) _ HA.out Tryz.underlying69 rfl HI.out ?_)
    | (refine wpList_store_mid rfl 69 (.tmp 0) (.tmp 34) rfl w.heap.size 0 C rfl rfl HTh.out HI.out HON.out ?_))
   refine bodyPost_ret (v := .agg C) ?_ rfl ⟨by rw [HCC.out], ?_⟩
   ·exact results_cell_row Tryz.results87 _ _ w.heap.size 69 C (0, 0) _ rfl HN.out Tryz.underlying69 rfl HI.out
   ·exact HO.out.trans (HOw.out.below (Nat.le_refl _) HO.out.size)
set_option maxHeartbeats 1000000
theorem rpow_any (n x : Nat) (w : World) (hn : n < 62) (hx : 2 ^ n = x) :
  Calls Tryz.prog 103 #[.int .i64 n] w fun e w' => e = .returned (.int .i64 (x : Int)) ∧ w' = w := by
 have Hx : Hid (2 ^ n = x) := zh hx
 clear hx
 go_enter Tryz.func103, Tryz.ntmps103
 go_wp2_with fail
 go_loop [3, 4] (fun v i => ∃ k : Nat, k ≤ n ∧ i = .int .i64 k ∧ v = .int .i64 ((2 ^ k : Nat) : Int)) (fun _ i => n - (intOf i).toNat)
 case atStart => exact ⟨0, by omega, rfl, rfl⟩
 case round =>
  obtain ⟨k, hk, rfl, rfl⟩ := hrel
  have hs : 2 ^ (k + 1) = 2 * 2 ^ k := by rw [Nat.pow_succ, Nat.mul_comm]
  by_cases hlt : k < n
  ·have hb2 : 2 ^ k ≤ 2 ^ 61 := Nat.pow_le_pow_right (by decide) (by omega)
   rw [show (2 : Nat) ^ 61 = 2305843009213693952 from by decide] at hb2
   obtain ⟨q, hq⟩ := zX (2 ^ k)
   rw [hq] at hb2 hs ⊢
   have Hs := zh hs
   clear hs hq
   go_wp2_with fail
   go_round
   case rel => exact ⟨k + 1, by omega, by go_num, by rw [Hs.out]; go_num⟩
   case measure => simp [intOf]; omega
  ·obtain rfl : n = k := by omega
   clear hs
   rw [Hx.out]
   go_wp2_with fail
   go_ret
   exact ⟨rfl, rfl⟩
set_option maxHeartbeats 4000000
def RBGG (t : TypeId) (n g : Nat) (f : Nat → Nat) (w : World) : Prop := Blk w g (rowC n f).toArray t
theorem RBGG.cell {t : TypeId} {n g : Nat} {f : Nat → Nat} {w : World} (h : RBGG t n g f w) {i : Nat} (hi : i < n) : w.cell? ⟨g, i, none⟩ = some (.int .u8 (f i : Nat)) := by
 rw [Blk.cell h i]; simpa using rowC_get f hi
theorem RBGG.val {t : TypeId} {n g : Nat} {f : Nat → Nat} {w : World} (h : RBGG t n g f w) {i x : Nat} (hi : i < n) (hx : f i = x) : w.cell? ⟨g, i, none⟩ = some (.int .u8 (x : Nat)) := by rw [← hx]; exact h.cell hi
theorem RBGG.set {t : TypeId} {n g : Nat} {f : Nat → Nat} {w : World} (h : RBGG t n g f w) (k x : Nat) : RBGG t n g (upd f k x) (w.setCell ⟨g, k, none⟩ (.int .u8 (x : Nat))) := by
 have := Blk.set h k (.int .u8 (x : Nat))
 rw [List.setIfInBounds_toArray, rowC_set] at this; exact this
theorem RBGG.congr {t : TypeId} {n g : Nat} {f f' : Nat → Nat} {w : World} (h : RBGG t n g f w) (he : ∀ i, i < n → f i = f' i) : RBGG t n g f' w := by
 unfold RBGG at h ⊢; rw [← rowC_congr he]; exact h
theorem RBGG.free {t : TypeId} {n g : Nat} {f : Nat → Nat} {w : World} (h : RBGG t n g f w) (k : Nat) : w.frozen? ⟨g, k, none⟩ = false := Blk.free h k
def f4 (a b c d : Nat) : Nat → Nat := fun k => if k = 0 then a else if k = 1 then b else if k = 2 then c else d
theorem RBGG.set4 {t : TypeId} {n g : Nat} {f : Nat → Nat} {w : World} (h : RBGG t n g f w) (o : Nat) (v : Nat → Nat) :
  RBGG t n g (fun j => if o ≤ j ∧ j < o + 4 then v (j - o) else f j) (w.setCells g o (rowC 4 v).toArray.toList) := by
 have h4 : RBGG t n g _ ((((w.setCell ⟨g, o, none⟩ (.int .u8 (v 0 : Nat))).setCell ⟨g, o + 1, none⟩ (.int .u8 (v 1 : Nat))).setCell ⟨g, o + 2, none⟩ (.int .u8 (v 2 : Nat))).setCell ⟨g, o + 3, none⟩ (.int .u8 (v 3 : Nat))) := (((h.set o (v 0)).set (o + 1) (v 1)).set (o + 2) (v 2)).set (o + 3) (v 3)
 refine RBGG.congr h4 fun i _ => ?_
 unfold upd
 by_cases e3 : i = o + 3
 ·subst e3; rw [if_pos rfl, if_pos (by omega), show o + 3 - o = 3 by omega]
 ·rw [if_neg e3]
  by_cases e2 : i = o + 2
  ·subst e2; rw [if_pos rfl, if_pos (by omega), show o + 2 - o = 2 by omega]
  ·rw [if_neg e2]
   by_cases e1 : i = o + 1
   ·subst e1; rw [if_pos rfl, if_pos (by omega), show o + 1 - o = 1 by omega]
   ·rw [if_neg e1]
    by_cases e0 : i = o
    ·subst e0; rw [if_pos rfl, if_pos (by omega), Nat.sub_self]
    ·rw [if_neg e0, if_neg (by omega)]
theorem RBGG.range4 {t : TypeId} {n g : Nat} {f : Nat → Nat} {w : World} (h : RBGG t n g f w) {o : Nat} (ho : o + 4 ≤ n) {V : Nat → Nat} (hV : ∀ k, k < 4 → f (o + k) = V k) : w.rangeAt g o (rowC 4 V) := fun j v hv => by
 have hj : j < 4 := by
  have := (List.getElem?_eq_some_iff.1 hv).1
  rw [rowC_len] at this; exact this
 rw [rowC_get V hj] at hv
 rw [h.cell (show o + j < n by omega), hV j hj]; exact hv
theorem RBGG.there4 {t : TypeId} {n g : Nat} {f : Nat → Nat} {w : World} (h : RBGG t n g f w) {o : Nat} (ho : o + 4 ≤ n) (v : Nat → Nat) : w.there g o (rowC 4 v).toArray.size := fun j hj => by
 rw [List.size_toArray, rowC_len] at hj
 refine ⟨?_, h.free _⟩
 rw [h.cell (show o + j < n by omega)]; rfl
theorem info35 (v : Nat → Nat) : (Tryz.prog.info? 67).map (·.size) = some (rowC 4 v).toArray.size := by rw [List.size_toArray, rowC_len]; kernel_rfl
theorem info35l (v : Nat → Nat) : (Tryz.prog.info? 67).map (·.size) = some (rowC 4 v).length := by rw [rowC_len]; kernel_rfl
theorem one4 (v : Nat → Nat) : (rowC 4 v).toArray.all (·.oneCell') = true := all_oneCell_toArray (rowC_one _ _)
theorem info36 (v : Nat → Nat) : (Tryz.prog.info? 68).map (·.size) = some (rowC 240 v).toArray.size := by rw [List.size_toArray, rowC_len]; kernel_rfl
theorem one240 (v : Nat → Nat) : (rowC 240 v).toArray.all (·.oneCell') = true := all_oneCell_toArray (rowC_one _ _)
theorem size240 (v : Nat → Nat) : (rowC 240 v).toArray.size = 240 := by rw [List.size_toArray, rowC_len]
def zero240 : Array Value := (rowC 240 (fun _ => 0)).toArray
theorem zero240_run (w : World) : (zeroValue 68).run Tryz.prog w = .ok (.agg zero240) w := by kernel_rfl
def zero4 : Array Value := (rowC 4 (fun _ => 0)).toArray
theorem zero4_run (w : World) : (zeroValue 67).run Tryz.prog w = .ok (.agg zero4) w := by kernel_rfl
def dF (f : Nat → Nat) (j : Nat) : Nat := dW f (j / 4) (j % 4)
theorem dF_at (f : Nat → Nat) (i k : Nat) (hk : k < 4) : dF f (4 * i + k) = dW f i k := by unfold dF; rw [show (4 * i + k) / 4 = i by omega, show (4 * i + k) % 4 = k by omega]
structure WR (w0 : World) (f : Nat → Nat) (m : Nat) (wr : World) : Prop where
 s : RBGG 69 256 w0.heap.size subN wr
 r : RBGG 68 240 (w0.heap.size + 1) (fun _ => 0) wr
 y : RBGG 68 240 (w0.heap.size + 1 + 1) (fun j => if j < m then dF f j else 0) wr
 o : Below w0.heap.size w0 wr
theorem WR.start (f : Nat → Nat) (w : World) : WR w f 0 (((w.alloc (.cells (rowC 256 subN).toArray 69)).alloc (.cells zero240 68)).alloc (.cells zero240 68)) := by
 refine ⟨((Blk.new w _ 69).alloc _).alloc _, ?_, ?_, ((zA).alloc (by simp) _).alloc (by simp; omega) _⟩
 ·have := (Blk.new (w.alloc (.cells (rowC 256 subN).toArray 69)) zero240 68).alloc (.cells zero240 68)
  show Blk _ _ zero240 _; simpa using this
 ·have := Blk.new ((w.alloc (.cells (rowC 256 subN).toArray 69)).alloc (.cells zero240 68)) zero240 68
  refine RBGG.congr (f := fun _ => 0) ?_ fun i _ => (if_neg (Nat.not_lt_zero _)).symm
  show Blk _ _ zero240 _; simpa using this
theorem WR.below {w0 : World} {f : Nat → Nat} {m : Nat} {wr w' : World} (h : WR w0 f m wr) (hb : Below wr.heap.size wr w') : WR w0 f m w' :=
 ⟨Blk.below h.s hb (Blk.lt h.s), Blk.below h.r hb (Blk.lt h.r), Blk.below h.y hb (Blk.lt h.y), h.o.trans (hb.mono h.o.size)⟩
theorem WR.own {w0 : World} {f : Nat → Nat} {m b : Nat} {wr w' : World} (h : WR w0 f m wr) (hO : Own b wr w') (hb : w0.heap.size + 1 + 1 < b) : WR w0 f m w' :=
 ⟨hO.blk h.s (by omega), hO.blk h.r (by omega), hO.blk h.y (by omega), h.o.trans (hO.below (by omega) h.o.size)⟩
theorem WR.drew {w0 : World} {f : Nat → Nat} {m : Nat} {wr : World} (h : WR w0 f m wr) : WR w0 f m wr.drew := h.below (Below.refl _ wr).drew
theorem WR.set {w0 : World} {f : Nat → Nat} {m x : Nat} {wr : World} (h : WR w0 f m wr) (hx : dF f m = x) : WR w0 f (m + 1) (wr.setCell ⟨w0.heap.size + 1 + 1, m, none⟩ (.int .u8 (x : Nat))) := by
 refine ⟨Blk.set_other h.s (by simp; omega) _, Blk.set_other h.r (by simp) _, (h.y.set m x).congr fun j _ => ?_, h.o.setCell (by simp; omega) _⟩
 unfold upd
 by_cases e : j = m
 ·rw [if_pos e, e, if_pos (by omega), hx]
 ·rw [if_neg e]
  show (if j < m then dF f j else 0) = if j < m + 1 then dF f j else 0
  by_cases h5 : j < m
  ·rw [if_pos h5, if_pos (by omega)]
  ·rw [if_neg h5, if_neg (by omega)]
theorem WR.set4 {w0 : World} {f : Nat → Nat} {i o : Nat} {v : Nat → Nat} {wr : World} (h : WR w0 f (4 * i) wr) (ho : o = 4 * i) (hv : ∀ k, k < 4 → dW f i k = v k) : WR w0 f (4 * (i + 1)) (wr.setCells (w0.heap.size + 1 + 1) o (rowC 4 v).toArray.toList) := by
 subst ho
 have hO : Own (w0.heap.size + 1 + 1) wr (wr.setCells (w0.heap.size + 1 + 1) (4 * i) (rowC 4 v).toArray.toList) := Own.setCells _ _ _
 refine ⟨hO.blk h.s (by omega), hO.blk h.r (by omega), (h.y.set4 (4 * i) v).congr fun j _ => ?_, h.o.trans (hO.below (by omega) h.o.size)⟩
 by_cases e : 4 * i ≤ j ∧ j < 4 * i + 4
 ·rw [if_pos e, if_pos (by omega), ← hv _ (by omega), ← dF_at f i _ (by omega), show 4 * i + (j - 4 * i) = j by omega]
 ·rw [if_neg e]
  show (if j < 4 * i then dF f j else 0) = if j < 4 * (i + 1) then dF f j else 0
  by_cases h5 : j < 4 * i
  ·rw [if_pos h5, if_pos (by omega)]
  ·rw [if_neg h5, if_neg (by omega)]
theorem WR.word {w0 : World} {f : Nat → Nat} {m : Nat} {wr : World} (h : WR w0 f m wr) {p k o x : Nat} (ho : o = 4 * p + k) (hk : k < 4) (hp : p < 60) (hm : 4 * p + k < m) (hx : dW f p k = x) : wr.cell? ⟨w0.heap.size + 1 + 1, o, none⟩ = some (.int .u8 (x : Nat)) := by
 subst ho
 refine h.y.val (by omega) ?_
 show (if 4 * p + k < m then dF f (4 * p + k) else 0) = x
 rw [if_pos hm, dF_at f p k hk, hx]
theorem WR.none {w0 : World} {f : Nat → Nat} {m o : Nat} {wr : World} (h : WR w0 f m wr) (ho : o = m) (hm : m < 240) : wr.cell? ⟨w0.heap.size + 1 + 1, o, none⟩ = some (.int .u8 0) := by
 subst ho
 exact h.y.val hm (if_neg (Nat.lt_irrefl _))
theorem WR.word4 {w0 : World} {f : Nat → Nat} {i p o : Nat} {wr : World} (h : WR w0 f (4 * i) wr) (hp : p < i) (hi : i ≤ 60) (ho : o = p * 4) : wr.rangeAt (w0.heap.size + 1 + 1) o (rowC 4 (dW f p)) := by
 subst ho
 refine h.y.range4 (by omega) fun k hk => ?_
 show (if p * 4 + k < 4 * i then dF f (p * 4 + k) else 0) = dW f p k
 rw [if_pos (by omega), show p * 4 + k = 4 * p + k by omega, dF_at f p k hk]
theorem RBGG.store4 {g : Nat} {u : Nat → Nat} {w : World} (h : RBGG 67 4 g u w) (v : Nat → Nat) : RBGG 67 4 g v (w.setCells g 0 (rowC 4 v).toArray.toList) :=
 Blk.setCells h (rowC 4 v) (by rw [List.size_toArray, rowC_len, rowC_len])
def WV (w0 : World) (f : Nat → Nat) (m vb : Nat) (V : Nat → Nat) (wr : World) : Prop := WR w0 f m wr ∧ RBGG 67 4 vb V wr ∧ w0.heap.size + 1 + 1 < vb
theorem WV.drew {w0 : World} {f : Nat → Nat} {m vb : Nat} {V : Nat → Nat} {wr : World} (h : WV w0 f m vb V wr) : WV w0 f m vb V wr.drew := ⟨h.1.drew, h.2.1, h.2.2⟩
theorem WV.store {w0 : World} {f : Nat → Nat} {m vb : Nat} {V : Nat → Nat} {wr : World} (h : WV w0 f m vb V wr) (v : Nat → Nat) : WV w0 f m vb v (wr.setCells vb 0 (rowC 4 v).toArray.toList) :=
 ⟨h.1.own (Own.setCells _ _ _) h.2.2, h.2.1.store4 v, h.2.2⟩
theorem WV.set {w0 : World} {f : Nat → Nat} {m vb o x : Nat} {V : Nat → Nat} {wr : World} (h : WV w0 f m vb V wr) (ho : o = m) (hx : dF f m = x) : WV w0 f (m + 1) vb V (wr.setCell ⟨w0.heap.size + 1 + 1, o, none⟩ (.int .u8 (x : Nat))) := by
 subst ho
 have := h.2.2
 exact ⟨h.1.set hx, Blk.set_other h.2.1 (by simp; omega) _, h.2.2⟩
theorem f4_lt {a b c d : Nat} (ha : a < 256) (hb : b < 256) (hc : c < 256) (hd : d < 256) (k : Nat) : f4 a b c d k < 256 := by
 unfold f4; split
 ·exact ha
 ·split
  ·exact hb
  ·split
   ·exact hc
   ·exact hd
theorem rwords_any (f : Nat → Nat) (kb off cap : Nat) (w : World) (hf : ∀ i, i < 32 → f i < 256) (hk : ∀ i, i < 32 → w.cell? ⟨kb, off + i, none⟩ = some (.int .u8 (f i : Nat))) :
  Calls Tryz.prog 88 #[.slice (some ⟨kb, off, none⟩) 32 cap, .agg (rowC 256 subN).toArray] w fun e w' => e = .returned (.agg (rowC 240 (dF f)).toArray) ∧ Below w.heap.size w w' := by
 have hz := zero240_run
 have HF := zh hf
 have HKC := zh hk
 have HKL : Hid (kb < w.heap.size) := zh (by
  rcases Nat.lt_or_ge kb w.heap.size with h' | h'
  ·exact h'
  ·have := hk 0 (by decide); simp [World.cell?, Array.getElem?_eq_none h'] at this)
 obtain ⟨C, hC⟩ := zX ((rowC 256 subN).toArray)
 have HT := zh (WR.start f w)
 rw [hC] at HT ⊢
 clear hf hk hC
 go_enter Tryz.func88, Tryz.ntmps88
 go_wp2_with fail
 clear hz
 go_loopw [6] (fun v wr => ∃ i : Nat, i ≤ 60 ∧ v = .int .i64 (i : Int) ∧ WR w f (4 * i) wr) (fun v _ => 60 - (intOf v).toNat)
 case atStart => exact ⟨0, Nat.zero_le _, rfl, HT.out⟩
 case round =>
  clear HT
  obtain ⟨i, hi, rfl, hW⟩ := hrel
  have HW := zh hW
  clear hW
  by_cases hlt : i < 60
  ·have i0 : (0 : Int) ≤ (i : Int) := by omega
   have i1 : (i : Int) < 60 := by omega
   by_cases h8 : i < 8
   ·have i8 : (i : Int) < 8 := by omega
    obtain ⟨j0, hj0⟩ := zX (4 * i)
    obtain ⟨j1, hj1⟩ := zX (j0 + 1)
    obtain ⟨j2, hj2⟩ := zX (j0 + 2)
    obtain ⟨j3, hj3⟩ := zX (j0 + 3)
    have k0 := wrn (m := 4) rfl hj0 (by omega)
    have k1 := wrk (m := 1) rfl hj1 (by omega)
    have k2 := wrk (m := 2) rfl hj2 (by omega)
    have k3 := wrk (m := 3) rfl hj3 (by omega)
    obtain ⟨a0, b0⟩ : (0 : Int) ≤ (j0 : Int) ∧ (j0 : Int) < 32 := by omega
    obtain ⟨a1, b1⟩ : (0 : Int) ≤ (j1 : Int) ∧ (j1 : Int) < 32 := by omega
    obtain ⟨a2, b2⟩ : (0 : Int) ≤ (j2 : Int) ∧ (j2 : Int) < 32 := by omega
    obtain ⟨a3, b3⟩ : (0 : Int) ≤ (j3 : Int) ∧ (j3 : Int) < 32 := by omega
    have HD : Hid (∀ k, k < 4 → dW f i k = f4 (f j0) (f j1) (f j2) (f j3) k) := zh fun k hk => by
     rw [dW_lo HF.out h8 hk]
     rcases (by omega : k = 0 ∨ k = 1 ∨ k = 2 ∨ k = 3) with rfl | rfl | rfl | rfl
     ·show f (4 * i + 0) = f j0; rw [← hj0, Nat.add_zero]
     ·show f (4 * i + 1) = f j1; rw [← hj1, ← hj0]
     ·show f (4 * i + 2) = f j2; rw [← hj2, ← hj0]
     ·show f (4 * i + 3) = f j3; rw [← hj3, ← hj0]
    have HO := zh HW.out.drew.o
    have c0 := cell_belowB HO.out HKL.out (HKC.out j0 (by omega))
    have c1 := cell_belowB HO.out HKL.out (HKC.out j1 (by omega))
    have c2 := cell_belowB HO.out HKL.out (HKC.out j2 (by omega))
    have c3 := cell_belowB HO.out HKL.out (HKC.out j3 (by omega))
    generalize f j0 = x0 at *
    generalize f j1 = x1 at *
    generalize f j2 = x2 at *
    generalize f j3 = x3 at *
    have HJ : Hid (4 * i = j0) := zh hj0
    have HN := zh (HW.out.drew.set4 (o := i * 4) (by omega) HD.out)
    have HY := zh HW.out.drew.y
    clear hj0 hj1 hj2 hj3 hlt h8 hi HW HO
    go_wp2_with fail
    refine wp_region_still_tail 26 (by kernel_rfl) (by kernel_rfl) ?_
    simp only [List.take_succ_cons, List.take_zero, List.drop_succ_cons, List.drop_zero]
    change wpStill _ _ wr.drew (fun a' => wpList _ _ _ _ a' wr.drew) _ _
    generalize wr.drew = W0 at *
    repeat still_step
    refine wpStill_nil ?_
    have HN' := zh HN.out
    obtain ⟨W1, hW1⟩ := zX (W0.setCells (w.heap.size + 1 + 1) (i * 4) (rowC 4 (f4 x0 x1 x2 x3)).toArray.toList)
    rw [hW1] at HN'
    refine wpList_store_mid rfl 67 (.tmp 40) (.tmp 39) rfl (w.heap.size + 1 + 1) (i * 4) (rowC 4 (f4 x0 x1 x2 x3)).toArray rfl rfl (HY.out.there4 (by omega) _) (info35 _) (one4 _) ?_
    rw [hW1]
    clear hW1 HN HY k0 k1 k2 k3 c0 c1 c2 c3
    go_wp2_with fail
    go_roundw
    case rel => exact ⟨i + 1, by omega, by go_num, HN'.out⟩
    case measure => simp [intOf]; omega
   ·have i8 : ¬ (i : Int) < 8 := by omega
    obtain ⟨p, hp⟩ : ∃ p, i = p + 1 := ⟨i - 1, by omega⟩
    have s1 := wrb (m := 1) rfl hp (by omega)
    have e1 : (i : Int) - 1 = (p : Int) := by omega
    have p0 : (0 : Int) ≤ (p : Int) := by omega
    have p1 : (p : Int) < 60 := by omega
    have HIB : Hid (8 ≤ i ∧ i < 60) := zh ⟨by omega, hlt⟩
    have HREC0 : Hid (∀ k, k < 4 → dW f i k = dW f (i - 8) k ^^^ (if i % 8 = 0 then (if k = 0 then subN (dW f p 1) ^^^ 2 ^ (i / 8 - 1) else subN (dW f p ((k + 1) % 4))) else if i % 8 = 4 then subN (dW f p k) else dW f p k)) := zh fun k hk => by
     have := dW_rec HF.out HIB.out.1 HIB.out.2 hk
     rw [show i - 1 = p by omega] at this; exact this
    have HRG : Hid (wr.rangeAt (w.heap.size + 1 + 1) (p * 4) (rowC 4 (dW f p))) := zh (HW.out.word4 (by omega) hi rfl)
    obtain ⟨vb, hvb⟩ := zX wr.heap.size
    obtain ⟨wa, hwa⟩ := zX (wr.alloc (.cells zero4 67))
    obtain ⟨wv, hwv⟩ := zX (wa.setCells vb 0 (rowC 4 (dW f p)).toArray.toList)
    have HWA : Hid (RBGG 67 4 vb (fun _ => 0) wa) := zh (by rw [← hwa, ← hvb]; exact Blk.new wr zero4 _)
    have HWV : Hid (WV w f (4 * i) vb (dW f p) wv) := zh (by
     have hlt := Blk.lt HW.out.y
     refine ⟨?_, ?_, by omega⟩
     ·have h1 : WR w f (4 * i) wa := by rw [← hwa]; exact HW.out.below (zA)
      rw [← hwv]; exact h1.own (Own.setCells _ _ _) (by omega)
     ·rw [← hwv]; exact HWA.out.store4 _)
    have hz := zero4_run
    obtain ⟨CV, hCV⟩ := zX (rowC 4 (dW f p))
    rw [hCV] at HRG hwv
    have hI1 : (Tryz.prog.info? 67).map (·.size) = some CV.length := by rw [← hCV]; exact info35l _
    have hI2 : (Tryz.prog.info? 67).map (·.size) = some CV.toArray.size := by rw [← hCV]; exact info35 _
    have hI3 : CV.toArray.all (·.oneCell') = true := by rw [← hCV]; exact one4 _
    have HI1 := zh hI1
    have HI2 := zh hI2
    have HI3 := zh hI3
    have HTH : Hid (wa.there vb 0 CV.toArray.size) := zh (by rw [← hCV]; exact HWA.out.there4 (by decide) _)
    clear hI1 hI2 hI3 hCV hp hlt h8 hi HW HWA
    by_cases m0 : i % 8 = 0
    ·have mi : (i : Int) % 8 = 0 := by omega
     have hre := HREC0.out
     simp only [if_pos m0] at hre
     have HRE := zh hre
     have HM0 := zh m0
     clear hre m0 HREC0
     go_wp2_with (first
      | (refine wpList_load_mid rfl 67 (.tmp 43) rfl (w.heap.size + 1 + 1) (p * 4) rfl CV _ HRG.out Tryz.underlying67 rfl HI1.out ?_)
      | (refine wpList_store_mid rfl 67 (.tmp 7) (.tmp 44) rfl vb 0 CV.toArray rfl rfl HTH.out HI2.out HI3.out ?_; rw [hwv]))
     clear hz hwv hwa hvb HTH HRG HI1 HI2 HI3 s1 e1
     obtain ⟨x0, h0⟩ := zX (dW f p 0)
     obtain ⟨x1, h1⟩ := zX (dW f p 1)
     obtain ⟨x2, h2⟩ := zX (dW f p 2)
     obtain ⟨x3, h3⟩ := zX (dW f p 3)
     have l0 := dW_lt f p 0
     have l1 := dW_lt f p 1
     have l2 := dW_lt f p 2
     have l3 := dW_lt f p 3
     rw [h0] at l0
     rw [h1] at l1
     rw [h2] at l2
     rw [h3] at l3
     have c0 : wv.drew.cell? ⟨vb, 0, none⟩ = some (.int .u8 (x0 : Nat)) := HWV.out.2.1.val (by decide) h0
     have c1 : wv.drew.cell? ⟨vb, 1, none⟩ = some (.int .u8 (x1 : Nat)) := HWV.out.2.1.val (by decide) h1
     have c2 : wv.drew.cell? ⟨vb, 2, none⟩ = some (.int .u8 (x2 : Nat)) := HWV.out.2.1.val (by decide) h2
     have c3 : wv.drew.cell? ⟨vb, 3, none⟩ = some (.int .u8 (x3 : Nat)) := HWV.out.2.1.val (by decide) h3
     obtain ⟨s0, g0⟩ := zX (subN x0)
     obtain ⟨s1, g1⟩ := zX (subN x1)
     obtain ⟨s2, g2⟩ := zX (subN x2)
     obtain ⟨s3, g3⟩ := zX (subN x3)
     have t0 : wv.drew.cell? ⟨w.heap.size, x0, none⟩ = some (.int .u8 (s0 : Nat)) := HWV.out.1.s.val l0 g0
     have t1 : wv.drew.cell? ⟨w.heap.size, x1, none⟩ = some (.int .u8 (s1 : Nat)) := HWV.out.1.s.val l1 g1
     have t2 : wv.drew.cell? ⟨w.heap.size, x2, none⟩ = some (.int .u8 (s2 : Nat)) := HWV.out.1.s.val l2 g2
     have t3 : wv.drew.cell? ⟨w.heap.size, x3, none⟩ = some (.int .u8 (s3 : Nat)) := HWV.out.1.s.val l3 g3
     have m0 : s0 < 256 := g0 ▸ subN_lt _
     have m1 : s1 < 256 := g1 ▸ subN_lt _
     have m2 : s2 < 256 := g2 ▸ subN_lt _
     have m3 : s3 < 256 := g3 ▸ subN_lt _
     obtain ⟨a0, b0⟩ : (0 : Int) ≤ (x0 : Int) ∧ (x0 : Int) < 256 := by omega
     obtain ⟨a1, b1⟩ : (0 : Int) ≤ (x1 : Int) ∧ (x1 : Int) < 256 := by omega
     obtain ⟨a2, b2⟩ : (0 : Int) ≤ (x2 : Int) ∧ (x2 : Int) < 256 := by omega
     obtain ⟨a3, b3⟩ : (0 : Int) ≤ (x3 : Int) ∧ (x3 : Int) < 256 := by omega
     have HWP := zh HWV.out.drew
     obtain ⟨q, hq⟩ := zX (i / 8)
     have hiB := HIB.out
     obtain ⟨d, hd⟩ : ∃ d, q = d + 1 := ⟨q - 1, by omega⟩
     have d1 := tdk (m := 8) rfl hq
     have d2 : (i : Int) / 8 = (q : Int) := by omega
     have d3 := wrb (m := 1) rfl hd (by omega)
     have d0 : (0 : Int) ≤ (d : Int) := by omega
     have d4 : IntKind.i64.wrap (q : Int) = (q : Int) := IntWalk.i64_in _ (by omega)
     have hd7 : d < 7 := by omega
     obtain ⟨pw, hpw⟩ := zX (2 ^ d)
     have hp8 : pw < 256 := by rw [← hpw]; exact Nat.lt_of_lt_of_le (Nat.pow_lt_pow_right (by decide) hd7) (by decide)
     have HPW := zh (fun w' => rpow_any d pw w' (by omega) hpw)
     obtain ⟨z, hz⟩ := zX (s1 ^^^ pw)
     have hzl : z < 256 := by rw [← hz]; exact xlt m1 hp8
     have xr : bits .xor .u8 (s1 : Int) (pw : Int) = (z : Int) := by rw [← hz]; exact u8_xor_nat _ _ m1 hp8
     have cv : IntKind.u8.wrap (pw : Int) = (pw : Int) := by rw [IntKind.wrap_u8]; omega
     obtain ⟨V, hV⟩ := zX (f4 z s2 s3 s0)
     have HREC : Hid (∀ k, k < 4 → dW f i k = dW f (i - 8) k ^^^ V k) := zh fun k hk => by
      rw [HRE.out k hk, ← hV]
      congr 1
      rcases (by omega : k = 0 ∨ k = 1 ∨ k = 2 ∨ k = 3) with rfl | rfl | rfl | rfl
      ·show subN (dW f p 1) ^^^ 2 ^ (i / 8 - 1) = z
       rw [h1, g1, hq, show q - 1 = d by omega, hpw, hz]
      ·show subN (dW f p 2) = s2; rw [h2, g2]
      ·show subN (dW f p 3) = s3; rw [h3, g3]
      ·show subN (dW f p 0) = s0; rw [h0, g0]
     have HV8 : Hid (∀ k, k < 4 → V k < 256) := zh fun k _ => hV ▸ f4_lt hzl m2 m3 m0 k
     have HVV := zh hV
     clear h0 h1 h2 h3 g0 g1 g2 g3 l0 l1 l2 l3 m0 m1 m2 m3 hq hd hpw hz hzl hp8 hd7 hiB hV HRE HM0 HWV
     refine wp_region_still_tail 23 (by kernel_rfl) (by kernel_rfl) ?_
     simp only [List.take_succ_cons, List.take_zero, List.drop_succ_cons, List.drop_zero]
     change wpStill _ _ wv.drew (fun a' => wpList _ _ _ _ a' wv.drew) _ _
     generalize wv.drew = W0 at *
     repeat still_step
     refine wpStill_step (fun K hK => ?_)
     go_simp
     with_reducible refine ⟨_, HPW.out _, hK _ ?_⟩
     clear hK K
     repeat still_step
     refine wpStill_nil ?_
     have hst := HWP.out.store V
     obtain ⟨W1, hW1⟩ := zX (W0.setCells vb 0 (rowC 4 V).toArray.toList)
     rw [hW1] at hst
     have HST := zh hst
     clear hst
     refine wpList_store_mid rfl 67 (.tmp 7) (.tmp 70) rfl vb 0 (rowC 4 V).toArray rfl (by rw [← HVV.out]; rfl) (HWP.out.2.1.there4 (by decide) _) (info35 _) (one4 _) ?_
     rw [hW1]
     clear hW1 HWP c0 c1 c2 c3 t0 t1 t2 t3 xr cv d1 d2 d3 d4 HPW HVV
     go_wp2_with fail
     clear mi
     go_loopw [8] (fun v wi => ∃ k : Nat, k ≤ 4 ∧ v = .int .i64 (k : Int) ∧ WV w f (4 * i + k) vb V wi) (fun v _ => 4 - (intOf v).toNat)
     case atStart => exact ⟨0, Nat.zero_le _, rfl, HST.out⟩
     case round =>
      clear HST
      obtain ⟨k, hk, rfl, hX⟩ := hrel
      have HX := zh hX
      clear hX
      by_cases hlk : k < 4
      ·have k0 : (0 : Int) ≤ (k : Int) := by omega
       have k1 : (k : Int) < 4 := by omega
       have HI := HIB.out
       obtain ⟨p, hp⟩ : ∃ p, i = p + 8 := ⟨i - 8, by omega⟩
       have s8 := wrb (m := 8) rfl hp (by omega)
       have p0 : (0 : Int) ≤ (p : Int) := by omega
       have p1 : (p : Int) < 60 := by omega
       have hre := HREC.out k hlk
       rw [show i - 8 = p by omega] at hre
       have ha8 := dW_lt f p k
       have hb8 := HV8.out k hlk
       obtain ⟨x, hx⟩ := zX (dW f p k)
       obtain ⟨y, hy⟩ := zX (V k)
       obtain ⟨z, hz⟩ := zX (dW f i k)
       rw [hx] at ha8 hre
       rw [hy] at hb8 hre
       rw [hz] at hre
       have xr : bits .xor .u8 (x : Int) (y : Int) = (z : Int) := by rw [hre]; exact u8_xor_nat _ _ ha8 hb8
       have HP := HX.out.drew
       have ca : wr.drew.cell? ⟨w.heap.size + 1 + 1, p * 4 + k, none⟩ = some (.int .u8 (x : Nat)) := HP.1.word (by omega) hlk (by omega) (by omega) hx
       have cb : wr.drew.cell? ⟨vb, k, none⟩ = some (.int .u8 (y : Nat)) := HP.2.1.val hlk hy
       have c8 : wr.drew.cell? ⟨w.heap.size + 1 + 1, i * 4 + k, none⟩ = some (.int .u8 0) := HP.1.none (by omega) (by omega)
       have z8 : wr.drew.frozen? ⟨w.heap.size + 1 + 1, i * 4 + k, none⟩ = false := HP.1.y.free _
       have HN : Hid (WV w f (4 * i + (k + 1)) vb V (wr.drew.setCell ⟨w.heap.size + 1 + 1, i * 4 + k, none⟩ (.int .u8 (z : Nat)))) := zh (HP.set (by omega) (by rw [dF_at f i k hlk, hz]))
       clear HP hx hy hz hre ha8 hb8 hp HI hlk hk HX
       go_wp2_with fail
       refine wp_region_still_tail 14 (by kernel_rfl) (by kernel_rfl) ?_
       simp only [List.take_succ_cons, List.take_zero, List.drop_succ_cons, List.drop_zero]
       change wpStill _ _ wr.drew (fun a' => wpList _ _ _ _ a' wr.drew) _ _
       generalize wr.drew = W0 at *
       repeat still_step
       refine wpStill_nil ?_
       go_wp2_with fail
       go_roundw
       case rel => exact ⟨k + 1, by omega, by go_num, HN.out⟩
       case measure => simp [intOf]; omega
      ·obtain rfl : k = 4 := by omega
       have HN : Hid (WR w f (4 * (i + 1)) wr) := zh (by rw [show 4 * (i + 1) = 4 * i + 4 by omega]; exact HX.out.1)
       clear HX hlk hk
       go_wp2_with fail
       go_roundw
       case rel => exact ⟨i + 1, by omega, by go_num, HN.out⟩
       case measure => simp [intOf]; omega
    ·by_cases m4 : i % 8 = 4
     ·have mi : (i : Int) % 8 = 4 := by omega
      have hre := HREC0.out
      simp only [if_neg m0, if_pos m4] at hre
      have HRE := zh hre
      clear hre m0 m4 HREC0
      go_wp2_with (first
       | (refine wpList_load_mid rfl 67 (.tmp 43) rfl (w.heap.size + 1 + 1) (p * 4) rfl CV _ HRG.out Tryz.underlying67 rfl HI1.out ?_)
       | (refine wpList_store_mid rfl 67 (.tmp 7) (.tmp 44) rfl vb 0 CV.toArray rfl rfl HTH.out HI2.out HI3.out ?_; rw [hwv]))
      clear hz hwv hwa hvb HTH HRG HI1 HI2 HI3 s1 e1
      obtain ⟨x0, h0⟩ := zX (dW f p 0)
      obtain ⟨x1, h1⟩ := zX (dW f p 1)
      obtain ⟨x2, h2⟩ := zX (dW f p 2)
      obtain ⟨x3, h3⟩ := zX (dW f p 3)
      have l0 := dW_lt f p 0
      have l1 := dW_lt f p 1
      have l2 := dW_lt f p 2
      have l3 := dW_lt f p 3
      rw [h0] at l0
      rw [h1] at l1
      rw [h2] at l2
      rw [h3] at l3
      have c0 : wv.drew.cell? ⟨vb, 0, none⟩ = some (.int .u8 (x0 : Nat)) := HWV.out.2.1.val (by decide) h0
      have c1 : wv.drew.cell? ⟨vb, 1, none⟩ = some (.int .u8 (x1 : Nat)) := HWV.out.2.1.val (by decide) h1
      have c2 : wv.drew.cell? ⟨vb, 2, none⟩ = some (.int .u8 (x2 : Nat)) := HWV.out.2.1.val (by decide) h2
      have c3 : wv.drew.cell? ⟨vb, 3, none⟩ = some (.int .u8 (x3 : Nat)) := HWV.out.2.1.val (by decide) h3
      obtain ⟨s0, g0⟩ := zX (subN x0)
      obtain ⟨s1, g1⟩ := zX (subN x1)
      obtain ⟨s2, g2⟩ := zX (subN x2)
      obtain ⟨s3, g3⟩ := zX (subN x3)
      have t0 : wv.drew.cell? ⟨w.heap.size, x0, none⟩ = some (.int .u8 (s0 : Nat)) := HWV.out.1.s.val l0 g0
      have t1 : wv.drew.cell? ⟨w.heap.size, x1, none⟩ = some (.int .u8 (s1 : Nat)) := HWV.out.1.s.val l1 g1
      have t2 : wv.drew.cell? ⟨w.heap.size, x2, none⟩ = some (.int .u8 (s2 : Nat)) := HWV.out.1.s.val l2 g2
      have t3 : wv.drew.cell? ⟨w.heap.size, x3, none⟩ = some (.int .u8 (s3 : Nat)) := HWV.out.1.s.val l3 g3
      have m0 : s0 < 256 := g0 ▸ subN_lt _
      have m1 : s1 < 256 := g1 ▸ subN_lt _
      have m2 : s2 < 256 := g2 ▸ subN_lt _
      have m3 : s3 < 256 := g3 ▸ subN_lt _
      obtain ⟨a0, b0⟩ : (0 : Int) ≤ (x0 : Int) ∧ (x0 : Int) < 256 := by omega
      obtain ⟨a1, b1⟩ : (0 : Int) ≤ (x1 : Int) ∧ (x1 : Int) < 256 := by omega
      obtain ⟨a2, b2⟩ : (0 : Int) ≤ (x2 : Int) ∧ (x2 : Int) < 256 := by omega
      obtain ⟨a3, b3⟩ : (0 : Int) ≤ (x3 : Int) ∧ (x3 : Int) < 256 := by omega
      have HWP := zh HWV.out.drew
      obtain ⟨V, hV⟩ := zX (f4 s0 s1 s2 s3)
      have HREC : Hid (∀ k, k < 4 → dW f i k = dW f (i - 8) k ^^^ V k) := zh fun k hk => by
       rw [HRE.out k hk, ← hV]
       congr 1
       rcases (by omega : k = 0 ∨ k = 1 ∨ k = 2 ∨ k = 3) with rfl | rfl | rfl | rfl
       ·show subN (dW f p 0) = s0; rw [h0, g0]
       ·show subN (dW f p 1) = s1; rw [h1, g1]
       ·show subN (dW f p 2) = s2; rw [h2, g2]
       ·show subN (dW f p 3) = s3; rw [h3, g3]
      have HV8 : Hid (∀ k, k < 4 → V k < 256) := zh fun k _ => hV ▸ f4_lt m0 m1 m2 m3 k
      have HVV := zh hV
      clear h0 h1 h2 h3 g0 g1 g2 g3 l0 l1 l2 l3 m0 m1 m2 m3 hV HRE HWV
      refine wp_region_still_tail 17 (by kernel_rfl) (by kernel_rfl) ?_
      simp only [List.take_succ_cons, List.take_zero, List.drop_succ_cons, List.drop_zero]
      change wpStill _ _ wv.drew (fun a' => wpList _ _ _ _ a' wv.drew) _ _
      generalize wv.drew = W0 at *
      repeat still_step
      refine wpStill_nil ?_
      have hst := HWP.out.store V
      obtain ⟨W1, hW1⟩ := zX (W0.setCells vb 0 (rowC 4 V).toArray.toList)
      rw [hW1] at hst
      have HST := zh hst
      clear hst
      refine wpList_store_mid rfl 67 (.tmp 7) (.tmp 90) rfl vb 0 (rowC 4 V).toArray rfl (by rw [← HVV.out]; rfl) (HWP.out.2.1.there4 (by decide) _) (info35 _) (one4 _) ?_
      rw [hW1]
      clear hW1 HWP c0 c1 c2 c3 t0 t1 t2 t3 HVV
      go_wp2_with fail
      clear mi
      go_loopw [8] (fun v wi => ∃ k : Nat, k ≤ 4 ∧ v = .int .i64 (k : Int) ∧ WV w f (4 * i + k) vb V wi) (fun v _ => 4 - (intOf v).toNat)
      case atStart => exact ⟨0, Nat.zero_le _, rfl, HST.out⟩
      case round =>
       clear HST
       obtain ⟨k, hk, rfl, hX⟩ := hrel
       have HX := zh hX
       clear hX
       by_cases hlk : k < 4
       ·have k0 : (0 : Int) ≤ (k : Int) := by omega
        have k1 : (k : Int) < 4 := by omega
        have HI := HIB.out
        obtain ⟨p, hp⟩ : ∃ p, i = p + 8 := ⟨i - 8, by omega⟩
        have s8 := wrb (m := 8) rfl hp (by omega)
        have p0 : (0 : Int) ≤ (p : Int) := by omega
        have p1 : (p : Int) < 60 := by omega
        have hre := HREC.out k hlk
        rw [show i - 8 = p by omega] at hre
        have ha8 := dW_lt f p k
        have hb8 := HV8.out k hlk
        obtain ⟨x, hx⟩ := zX (dW f p k)
        obtain ⟨y, hy⟩ := zX (V k)
        obtain ⟨z, hz⟩ := zX (dW f i k)
        rw [hx] at ha8 hre
        rw [hy] at hb8 hre
        rw [hz] at hre
        have xr : bits .xor .u8 (x : Int) (y : Int) = (z : Int) := by rw [hre]; exact u8_xor_nat _ _ ha8 hb8
        have HP := HX.out.drew
        have ca : wr.drew.cell? ⟨w.heap.size + 1 + 1, p * 4 + k, none⟩ = some (.int .u8 (x : Nat)) := HP.1.word (by omega) hlk (by omega) (by omega) hx
        have cb : wr.drew.cell? ⟨vb, k, none⟩ = some (.int .u8 (y : Nat)) := HP.2.1.val hlk hy
        have c8 : wr.drew.cell? ⟨w.heap.size + 1 + 1, i * 4 + k, none⟩ = some (.int .u8 0) := HP.1.none (by omega) (by omega)
        have z8 : wr.drew.frozen? ⟨w.heap.size + 1 + 1, i * 4 + k, none⟩ = false := HP.1.y.free _
        have HN : Hid (WV w f (4 * i + (k + 1)) vb V (wr.drew.setCell ⟨w.heap.size + 1 + 1, i * 4 + k, none⟩ (.int .u8 (z : Nat)))) := zh (HP.set (by omega) (by rw [dF_at f i k hlk, hz]))
        clear HP hx hy hz hre ha8 hb8 hp HI hlk hk HX
        go_wp2_with fail
        refine wp_region_still_tail 14 (by kernel_rfl) (by kernel_rfl) ?_
        simp only [List.take_succ_cons, List.take_zero, List.drop_succ_cons, List.drop_zero]
        change wpStill _ _ wr.drew (fun a' => wpList _ _ _ _ a' wr.drew) _ _
        generalize wr.drew = W0 at *
        repeat still_step
        refine wpStill_nil ?_
        go_wp2_with fail
        go_roundw
        case rel => exact ⟨k + 1, by omega, by go_num, HN.out⟩
        case measure => simp [intOf]; omega
       ·obtain rfl : k = 4 := by omega
        have HN : Hid (WR w f (4 * (i + 1)) wr) := zh (by rw [show 4 * (i + 1) = 4 * i + 4 by omega]; exact HX.out.1)
        clear HX hlk hk
        go_wp2_with fail
        go_roundw
        case rel => exact ⟨i + 1, by omega, by go_num, HN.out⟩
        case measure => simp [intOf]; omega
     ·have mi : ¬ (i : Int) % 8 = 0 := by omega
      have mj : ¬ (i : Int) % 8 = 4 := by omega
      have hre := HREC0.out
      simp only [if_neg m0, if_neg m4] at hre
      obtain ⟨V, hV⟩ := zX (dW f p)
      rw [hV] at hre
      have HREC : Hid (∀ k, k < 4 → dW f i k = dW f (i - 8) k ^^^ V k) := zh hre
      have HV8 : Hid (∀ k, k < 4 → V k < 256) := zh fun k _ => hV ▸ dW_lt f p k
      rw [hV] at HWV
      clear hre m0 m4 hV HREC0
      go_wp2_with (first
       | (refine wpList_load_mid rfl 67 (.tmp 43) rfl (w.heap.size + 1 + 1) (p * 4) rfl CV _ HRG.out Tryz.underlying67 rfl HI1.out ?_)
       | (refine wpList_store_mid rfl 67 (.tmp 7) (.tmp 44) rfl vb 0 CV.toArray rfl rfl HTH.out HI2.out HI3.out ?_; rw [hwv]))
      clear hz hwv hwa hvb HTH HRG HI1 HI2 HI3 s1 e1
      go_loopw [8] (fun v wi => ∃ k : Nat, k ≤ 4 ∧ v = .int .i64 (k : Int) ∧ WV w f (4 * i + k) vb V wi) (fun v _ => 4 - (intOf v).toNat)
      case atStart => exact ⟨0, Nat.zero_le _, rfl, HWV.out⟩
      case round =>
       clear HWV
       obtain ⟨k, hk, rfl, hX⟩ := hrel
       have HX := zh hX
       clear hX
       by_cases hlk : k < 4
       ·have k0 : (0 : Int) ≤ (k : Int) := by omega
        have k1 : (k : Int) < 4 := by omega
        have HI := HIB.out
        obtain ⟨p, hp⟩ : ∃ p, i = p + 8 := ⟨i - 8, by omega⟩
        have s8 := wrb (m := 8) rfl hp (by omega)
        have p0 : (0 : Int) ≤ (p : Int) := by omega
        have p1 : (p : Int) < 60 := by omega
        have hre := HREC.out k hlk
        rw [show i - 8 = p by omega] at hre
        have ha8 := dW_lt f p k
        have hb8 := HV8.out k hlk
        obtain ⟨x, hx⟩ := zX (dW f p k)
        obtain ⟨y, hy⟩ := zX (V k)
        obtain ⟨z, hz⟩ := zX (dW f i k)
        rw [hx] at ha8 hre
        rw [hy] at hb8 hre
        rw [hz] at hre
        have xr : bits .xor .u8 (x : Int) (y : Int) = (z : Int) := by rw [hre]; exact u8_xor_nat _ _ ha8 hb8
        have HP := HX.out.drew
        have ca : wr.drew.cell? ⟨w.heap.size + 1 + 1, p * 4 + k, none⟩ = some (.int .u8 (x : Nat)) := HP.1.word (by omega) hlk (by omega) (by omega) hx
        have cb : wr.drew.cell? ⟨vb, k, none⟩ = some (.int .u8 (y : Nat)) := HP.2.1.val hlk hy
        have c8 : wr.drew.cell? ⟨w.heap.size + 1 + 1, i * 4 + k, none⟩ = some (.int .u8 0) := HP.1.none (by omega) (by omega)
        have z8 : wr.drew.frozen? ⟨w.heap.size + 1 + 1, i * 4 + k, none⟩ = false := HP.1.y.free _
        have HN : Hid (WV w f (4 * i + (k + 1)) vb V (wr.drew.setCell ⟨w.heap.size + 1 + 1, i * 4 + k, none⟩ (.int .u8 (z : Nat)))) := zh (HP.set (by omega) (by rw [dF_at f i k hlk, hz]))
        clear HP hx hy hz hre ha8 hb8 hp HI hlk hk HX
        go_wp2_with fail
        refine wp_region_still_tail 14 (by kernel_rfl) (by kernel_rfl) ?_
        simp only [List.take_succ_cons, List.take_zero, List.drop_succ_cons, List.drop_zero]
        change wpStill _ _ wr.drew (fun a' => wpList _ _ _ _ a' wr.drew) _ _
        generalize wr.drew = W0 at *
        repeat still_step
        refine wpStill_nil ?_
        go_wp2_with fail
        go_roundw
        case rel => exact ⟨k + 1, by omega, by go_num, HN.out⟩
        case measure => simp [intOf]; omega
       ·obtain rfl : k = 4 := by omega
        have HN : Hid (WR w f (4 * (i + 1)) wr) := zh (by rw [show 4 * (i + 1) = 4 * i + 4 by omega]; exact HX.out.1)
        clear HX hlk hk
        go_wp2_with fail
        go_roundw
        case rel => exact ⟨i + 1, by omega, by go_num, HN.out⟩
        case measure => simp [intOf]; omega
  ·obtain rfl : i = 60 := by omega
   have hN : RBGG 68 240 (w.heap.size + 1) (dF f) (wr.setCells (w.heap.size + 1) 0 (rowC 240 (dF f)).toArray.toList) := Blk.setCells HW.out.r (rowC 240 (dF f)) (by rw [List.size_toArray, rowC_len, rowC_len])
   have hY : RBGG 68 240 (w.heap.size + 1 + 1) (dF f) wr := HW.out.y.congr fun j hj => if_pos (by omega)
   have hO : Below w.heap.size w (wr.setCells (w.heap.size + 1) 0 (rowC 240 (dF f)).toArray.toList) := HW.out.o.trans ((Own.setCells _ 0 wr).below (by omega) HW.out.o.size)
   have hTH : wr.there (w.heap.size + 1) 0 (rowC 240 (dF f)).toArray.size := Blk.there HW.out.r (by rw [size240, size240]; exact Nat.le_refl _)
   have hI := info36 (dF f)
   have hI1 := one240 (dF f)
   obtain ⟨E, hE⟩ := zX ((rowC 240 (dF f)).toArray)
   unfold RBGG at hN hY
   rw [hE] at hN hY hO hTH hI hI1
   have HN := zh hN
   have HY := zh hY
   have HO := zh hO
   have HTH := zh hTH
   have HI := zh hI
   have HI1 := zh hI1
   have HE := zh hE
   clear hN hY hO hTH hI hI1 hE hlt hi HW
   go_wp2_with (first
    | (refine wpList_load_row rfl 68 (.tmp 5) rfl (w.heap.size + 1 + 1) rfl 68 E (0, 0) _ HY.out Tryz.underlying68 rfl HI.out ?_)
    | (refine wpList_store_mid rfl 68 (.tmp 4) (.tmp 109) rfl (w.heap.size + 1) 0 E rfl rfl HTH.out HI.out HI1.out ?_))
   refine bodyPost_ret (v := .agg E) ?_ rfl ⟨by rw [HE.out], HO.out⟩
   exact results_cell_row Tryz.results88 _ _ (w.heap.size + 1) 68 E (0, 0) _ rfl HN.out Tryz.underlying68 rfl HI.out
end Go.Proofs.YtncfocjmdecapaaGreatDoor
