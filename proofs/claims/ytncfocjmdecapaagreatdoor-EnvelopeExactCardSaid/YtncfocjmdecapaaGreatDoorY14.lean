/- Part of the proof: what stands here serves the walks of the functions that the statement calls. -/
import Derived.Laws.Bits64
import Derived.Laws.Bits64b
import Derived.Test.YtncfocjmdecapaaGreatDoorY12
namespace Go.Proofs.YtncfocjmdecapaaGreatDoor
set_option linter.unusedVariables false
set_option linter.unusedSimpArgs false
open Go.RowKit
def lowN : Nat := 0xe1 * 2 ^ 56
def nx1 (a b : Nat) : Nat := a / 2 ^^^ (b % 2 * lowN)
def nx2 (a b : Nat) : Nat := b / 2 ||| (a * 2 ^ 63 % 2 ^ 64)
def vK (a b : Nat) : Nat → Nat × Nat
 | 0 => (a, b)
 | k + 1 => (nx1 (vK a b k).1 (vK a b k).2, nx2 (vK a b k).1 (vK a b k).2)
def hasN (a b k : Nat) : Bool := if k < 64 then a * 2 ^ k % 2 ^ 64 / 2 ^ 63 == 1 else b * 2 ^ (k - 64) % 2 ^ 64 / 2 ^ 63 == 1
def zK (a b c d : Nat) : Nat → Nat × Nat
 | 0 => (0, 0)
 | k + 1 => if hasN a b k then ((zK a b c d k).1 ^^^ (vK c d k).1, (zK a b c d k).2 ^^^ (vK c d k).2) else zK a b c d k
def mulW (a b c d : Nat) : Nat × Nat := zK a b c d 128
theorem has_bit {a b k : Nat} (hk : k < 128) (ha : a < 2 ^ 64) (hb : b < 2 ^ 64) : hasN a b k = if k < 64 then a.testBit (63 - k) else b.testBit (127 - k) := by
 have key : ∀ x j, j < 64 → x < 2 ^ 64 → (x * 2 ^ j % 2 ^ 64 / 2 ^ 63 == 1) = x.testBit (63 - j) := by
  intro x j hj hx
  have h1 : x * 2 ^ j % 2 ^ 64 = x % 2 ^ (64 - j) * 2 ^ j := by
   have : (2 : Nat) ^ 64 = 2 ^ (64 - j) * 2 ^ j := by rw [← Nat.pow_add]; congr 1; omega
   rw [this, Nat.mul_mod_mul_right]
  have h2 : x % 2 ^ (64 - j) * 2 ^ j / 2 ^ 63 = x % 2 ^ (64 - j) / 2 ^ (63 - j) := by
   have : (2 : Nat) ^ 63 = 2 ^ (63 - j) * 2 ^ j := by rw [← Nat.pow_add]; congr 1; omega
   rw [this, Nat.mul_div_mul_right _ _ (Nat.pow_pos (by decide))]
  rw [h1, h2, Nat.testBit_eq_decide_div_mod_eq]
  have h3 : x % 2 ^ (64 - j) / 2 ^ (63 - j) = x / 2 ^ (63 - j) % 2 := by
   have : (2 : Nat) ^ (64 - j) = 2 ^ (63 - j) * 2 := by rw [← Nat.pow_succ]; congr 1; omega
   rw [this, Nat.mod_mul_right_div_self]
  rw [h3]
  by_cases h : x / 2 ^ (63 - j) % 2 = 1 <;> simp [h]
 unfold hasN
 by_cases h : k < 64
 ·rw [if_pos h, if_pos h]; exact key a k h ha
 ·rw [if_neg h, if_neg h]
  have := key b (k - 64) (by omega) hb
  rw [this]; congr 1; omega
def beX (f : Nat → Nat) (a : Nat) : Nat → Nat | 0 => 0 | k + 1 => beX f a k * 256 + f (a + k)
theorem beX_lt {f : Nat → Nat} {a : Nat} : ∀ k, (∀ i, i < k → f (a + i) < 256) → beX f a k < 256 ^ k
 | 0, _ => Nat.one_pos
 | k + 1, h => by
  have h1 := beX_lt k fun i hi => h i (by omega)
  have h2 := h k (by omega)
  show beX f a k * 256 + f (a + k) < 256 ^ (k + 1)
  rw [Nat.pow_succ]; omega
def blkF (a b : Nat) : Nat → Nat := fun i => if i < 8 then numB a 8 i else numB b 8 (i - 8)
theorem blkF_lt (a b i : Nat) : blkF a b i < 256 := by unfold blkF; split <;> exact numB_lt _ _ _
def hiW (f : Nat → Nat) : Nat := beX f 0 8
def loW (f : Nat → Nat) : Nat := beX f 8 8
def mulF (f g : Nat → Nat) : Nat → Nat := blkF (mulW (hiW f) (loW f) (hiW g) (loW g)).1 (mulW (hiW f) (loW f) (hiW g) (loW g)).2
def addF (f g : Nat → Nat) : Nat → Nat := fun i => f i ^^^ g i
theorem hiW_lt {f : Nat → Nat} (hf : ∀ i, i < 16 → f i < 256) : hiW f < 18446744073709551616 := by
 have := beX_lt (f := f) (a := 0) 8 (fun i hi => hf _ (by omega)); simpa [hiW] using this
theorem loW_lt {f : Nat → Nat} (hf : ∀ i, i < 16 → f i < 256) : loW f < 18446744073709551616 := by
 have := beX_lt (f := f) (a := 8) 8 (fun i hi => hf _ (by omega)); simpa [loW] using this
theorem nx1_lt {a b : Nat} (ha : a < 2 ^ 64) : nx1 a b < 2 ^ 64 := by
 unfold nx1 lowN
 refine Nat.xor_lt_two_pow (by omega) ?_
 have : b % 2 < 2 := Nat.mod_lt _ (by decide)
 omega
theorem nx2_lt {a b : Nat} (hb : b < 2 ^ 64) : nx2 a b < 2 ^ 64 := by
 unfold nx2
 exact Nat.or_lt_two_pow (by omega) (Nat.mod_lt _ (by decide))
theorem vK_lt {a b : Nat} (ha : a < 2 ^ 64) (hb : b < 2 ^ 64) : ∀ k, (vK a b k).1 < 2 ^ 64 ∧ (vK a b k).2 < 2 ^ 64
 | 0 => ⟨ha, hb⟩
 | k + 1 => ⟨nx1_lt (vK_lt ha hb k).1, nx2_lt (vK_lt ha hb k).2⟩
theorem zK_lt {a b c d : Nat} (hc : c < 2 ^ 64) (hd : d < 2 ^ 64) : ∀ k, (zK a b c d k).1 < 2 ^ 64 ∧ (zK a b c d k).2 < 2 ^ 64
 | 0 => ⟨Nat.two_pow_pos 64, Nat.two_pow_pos 64⟩
 | k + 1 => by
  have h1 := zK_lt (a := a) (b := b) hc hd k
  have h2 := vK_lt hc hd k
  show (if hasN a b k then ((zK a b c d k).1 ^^^ (vK c d k).1, (zK a b c d k).2 ^^^ (vK c d k).2) else zK a b c d k).1 < _ ∧ (if hasN a b k then ((zK a b c d k).1 ^^^ (vK c d k).1, (zK a b c d k).2 ^^^ (vK c d k).2) else zK a b c d k).2 < _
  split
  ·exact ⟨Nat.xor_lt_two_pow h1.1 h2.1, Nat.xor_lt_two_pow h1.2 h2.2⟩
  ·exact h1
theorem pair_xor (a b x y : Nat) (hx : x < 256) (hy : y < 256) : (a * 256 + x) ^^^ (b * 256 + y) = (a ^^^ b) * 256 + (x ^^^ y) := by
 have h : ∀ n m, m < 256 → n * 256 + m = n <<< 8 ||| m := fun n m hm => by
  rw [Nat.shiftLeft_eq, show (256 : Nat) = 2 ^ 8 from rfl, Nat.mul_comm, Nat.two_pow_add_eq_or_of_lt (by simpa using hm)]
 rw [h a x hx, h b y hy, h (a ^^^ b) (x ^^^ y) (Nat.xor_lt_two_pow (n := 8) hx hy)]
 refine Nat.eq_of_testBit_eq fun i => ?_
 simp only [Nat.testBit_xor, Nat.testBit_or, Nat.testBit_shiftLeft]
 by_cases hi : 8 ≤ i
 ·have hx' : x.testBit i = false := Nat.testBit_lt_two_pow (Nat.lt_of_lt_of_le hx (Nat.pow_le_pow_right (n := 2) (by decide) hi))
  have hy' : y.testBit i = false := Nat.testBit_lt_two_pow (Nat.lt_of_lt_of_le hy (Nat.pow_le_pow_right (n := 2) (by decide) hi))
  simp [hi, hx', hy']
 ·simp [hi]
theorem beX_xor {f g : Nat → Nat} {a : Nat} : ∀ k, (∀ i, i < k → f (a + i) < 256) → (∀ i, i < k → g (a + i) < 256) → beX (addF f g) a k = beX f a k ^^^ beX g a k
 | 0, _, _ => (show (0 : Nat) = 0 ^^^ 0 by decide)
 | k + 1, hf, hg => by
  show beX (addF f g) a k * 256 + (f (a + k) ^^^ g (a + k)) = _
  rw [beX_xor k (fun i hi => hf i (by omega)) (fun i hi => hg i (by omega))]
  exact (pair_xor _ _ _ _ (hf k (by omega)) (hg k (by omega))).symm
set_option maxRecDepth 100000
set_option maxHeartbeats 4000000
def AI (w0 : World) (f g : Nat → Nat) (k : Nat) (wr : World) : Prop := B16 wr w0.heap.size (fun i => if i < k then f i ^^^ g i else f i) ∧ B16 wr (w0.heap.size + 1) g ∧ B16 wr (w0.heap.size + 1 + 1) (fun _ => 0) ∧ Below w0.heap.size w0 wr
theorem AI.drew {w0 wr : World} {f g : Nat → Nat} {k : Nat} (h : AI w0 f g k wr) : AI w0 f g k wr.drew := ⟨h.1, h.2.1, h.2.2.1, h.2.2.2.drew⟩
theorem AI.next {w0 wr : World} {f g : Nat → Nat} {k : Nat} (h : AI w0 f g k wr) (hk : k < 16) : AI w0 f g (k + 1) (wr.setCell ⟨w0.heap.size, k, none⟩ (.int .u8 ((f k ^^^ g k : Nat) : Int))) := by
 obtain ⟨h1, h2, h3, h4⟩ := h
 refine ⟨B16.congr (h1.set k (f k ^^^ g k)) fun i _ => ?_, Blk.set_other h2 (by simp) _, Blk.set_other h3 (by simp; omega) _, h4.setCell (Nat.le_refl _) _⟩
 unfold upd
 by_cases e : i = k
 ·subst e; rw [if_pos rfl, if_pos (by omega)]
 ·rw [if_neg e]
  show (if i < k then f i ^^^ g i else f i) = (if i < k + 1 then f i ^^^ g i else f i)
  by_cases h5 : i < k
  ·rw [if_pos h5, if_pos (by omega)]
  ·rw [if_neg h5, if_neg (by omega)]
theorem gadd_any (f g : Nat → Nat) (w : World) (hf : ∀ i, i < 16 → f i < 256) (hg : ∀ i, i < 16 → g i < 256) :
  Calls Tryz.prog 58 #[.agg (rowC 16 f).toArray, .agg (rowC 16 g).toArray] w fun e w' => e = .returned (.agg (rowC 16 (addF f g)).toArray) ∧ Below w.heap.size w w' := by
 have hz := zero16_run
 have HF := zh hf
 have HG := zh hg
 clear hf hg
 obtain ⟨C, hC⟩ := zX ((rowC 16 f).toArray)
 obtain ⟨D, hD⟩ := zX ((rowC 16 g).toArray)
 rw [hC, hD]
 have HC := zh hC
 have HD := zh hD
 clear hC hD
 have HT := zh (show AI w f g 0 (((w.alloc (.cells C 82)).alloc (.cells D 82)).alloc (.cells zero16 82)) by
  rw [← HC.out, ← HD.out]
  refine ⟨?_, ?_, ?_, ((zA).alloc (by simp) _).alloc (by simp; omega) _⟩
  ·exact B16.congr (((Blk.new w _ 82).alloc _).alloc _) fun i _ => (if_neg (Nat.not_lt_zero i)).symm
  ·have := (Blk.new (w.alloc (.cells (rowC 16 f).toArray 82)) (rowC 16 g).toArray 82).alloc (.cells zero16 82)
   unfold B16; simpa using this
  ·have := Blk.new ((w.alloc (.cells (rowC 16 f).toArray 82)).alloc (.cells (rowC 16 g).toArray 82)) zero16 82
   show Blk _ _ zero16 _; simpa using this)
 go_enter Tryz.func58, Tryz.ntmps58
 go_wp2_with fail
 clear hz
 go_loopw [6] (fun i wr => ∃ k : Nat, k ≤ 16 ∧ i = .int .i64 (k : Int) ∧ AI w f g k wr) (fun i _ => 16 - (intOf i).toNat)
 case atStart => exact ⟨0, Nat.zero_le _, rfl, HT.out⟩
 case round =>
  obtain ⟨k, hk, rfl, hT⟩ := hrel
  by_cases hlt : k < 16
  ·obtain ⟨hX, hY, hZ, hO⟩ := hT
   have cx : wr.cell? ⟨w.heap.size, k, none⟩ = some (.int .u8 (f k : Nat)) := by
    have := hX.cell hlt; rw [if_neg (Nat.lt_irrefl _)] at this; exact this
   have zx : wr.frozen? ⟨w.heap.size, k, none⟩ = false := Blk.free hX k
   have cy : wr.cell? ⟨w.heap.size + 1, k, none⟩ = some (.int .u8 (g k : Nat)) := hY.cell hlt
   have e1 : bits .xor .u8 (f k : Int) (g k : Int) = ((f k ^^^ g k : Nat) : Int) := u8_xor_nat _ _ (HF.out k hlt) (HG.out k hlt)
   have HN := zh (AI.next ⟨hX, hY, hZ, hO⟩ hlt)
   have k0 : (0 : Int) ≤ (k : Int) := by omega
   have k1 : (k : Int) < 16 := by omega
   clear hX hY hZ hO
   generalize f k ^^^ g k = r at *
   generalize f k = p at *
   generalize g k = q at *
   go_wp2_with fail
   go_region
   all_goals
    go_wp2_with fail
    go_roundw
    case rel => exact ⟨k + 1, by omega, by go_num, by first | exact HN.out | exact HN.out.drew⟩
    case measure => simp [intOf]; omega
  ·obtain rfl : k = 16 := by omega
   obtain ⟨hX, hY, hZ, hO⟩ := hT
   have hX' : B16 wr w.heap.size (addF f g) := hX.congr fun i hi => if_pos hi
   obtain ⟨E, hE⟩ := zX ((rowC 16 (addF f g)).toArray)
   have HX : Hid (Blk wr w.heap.size E 82) := zh (hE ▸ hX')
   have HTh : Hid (wr.there (w.heap.size + 1 + 1) 0 E.size) := zh (hE ▸ hZ.there (addF f g))
   have HI : Hid ((Tryz.prog.info? 82).map (·.size) = some E.size) := zh (hE ▸ info16 (addF f g))
   have HON : Hid (E.all (·.oneCell') = true) := zh (hE ▸ one16 (addF f g))
   have HN : Hid (Blk (wr.setCells (w.heap.size + 1 + 1) 0 E.toList) (w.heap.size + 1 + 1) E 82) := zh (hE ▸ hZ.store (addF f g))
   have HOw : Hid (Own (w.heap.size + 1 + 1) wr (wr.setCells (w.heap.size + 1 + 1) 0 E.toList)) := zh (Own.setCells _ _ _)
   have HO := zh hO
   have HE := zh hE
   clear hX hY hZ hO hX' hE hlt hk HT
   go_wp2_with (first
    | (refine wpList_load_row rfl 82 (.tmp 2) rfl w.heap.size rfl 82 E (0, 0) _ HX.out Tryz.underlying82 rfl HI.out ?_)
    | (refine wpList_store_mid rfl 82 (.tmp 4) (.tmp 18) rfl (w.heap.size + 1 + 1) 0 E rfl rfl HTh.out HI.out HON.out ?_))
   refine bodyPost_ret (v := .agg E) ?_ rfl ⟨by rw [HE.out], ?_⟩
   ·exact results_cell_row Tryz.results58 _ _ (w.heap.size + 1 + 1) 82 E (0, 0) _ rfl HN.out Tryz.underlying82 rfl HI.out
   ·exact HO.out.trans (HOw.out.below (by omega) HO.out.size)
theorem or8 (x y : Nat) (hx : x < 72057594037927936) (hy : y < 256) : bits .or .u64 ((x : Int) * 256) (y : Int) = (x : Int) * 256 + (y : Int) :=
 bits_join .u64 64 (by decide) (fun n h0 h1 => by simp [IntKind.wrap, IntKind.bits, IntKind.signed]; omega) 8 _ _ (by omega) (by omega) (by omega) (by omega) (by omega) (by omega)
def W2 (w : World) (g : Nat) (a b : Nat) : Prop := Blk w g #[.int .u64 (a : Int), .int .u64 (b : Int)] 184
def RI (w0 : World) (f : Nat → Nat) (k : Nat) (wr : World) : Prop := B16 wr w0.heap.size f ∧ W2 wr (w0.heap.size + 1) 0 0 ∧ W2 wr (w0.heap.size + 1 + 1) (beX f 0 k) (beX f 8 k) ∧ Below w0.heap.size w0 wr
theorem RI.drew {w0 wr : World} {f : Nat → Nat} {k : Nat} (h : RI w0 f k wr) : RI w0 f k wr.drew := ⟨h.1, h.2.1, h.2.2.1, h.2.2.2.drew⟩
theorem gread_any (f : Nat → Nat) (w : World) (hf : ∀ i, i < 16 → f i < 256) :
  Calls Tryz.prog 94 #[.agg (rowC 16 f).toArray] w fun e w' => e = .returned (.agg #[.int .u64 (hiW f : Int), .int .u64 (loW f : Int)]) ∧ Below w.heap.size w w' := by
 have HF := zh hf
 clear hf
 obtain ⟨C, hC⟩ := zX ((rowC 16 f).toArray)
 rw [hC]
 have HT := zh (show RI w f 0 (((w.alloc (.cells C 82)).alloc (.cells #[.int .u64 0, .int .u64 0] 184)).alloc (.cells #[.int .u64 0, .int .u64 0] 184)) by
  rw [← hC]
  refine ⟨((Blk.new w _ 82).alloc _).alloc _, ?_, ?_, ((zA).alloc (by simp) _).alloc (by simp; omega) _⟩
  ·have := (Blk.new (w.alloc (.cells (rowC 16 f).toArray 82)) #[.int .u64 0, .int .u64 0] 184).alloc (.cells #[.int .u64 0, .int .u64 0] 184)
   unfold W2; simpa using this
  ·have := Blk.new ((w.alloc (.cells (rowC 16 f).toArray 82)).alloc (.cells #[.int .u64 0, .int .u64 0] 184)) #[.int .u64 0, .int .u64 0] 184
   unfold W2; simpa [beX] using this)
 clear hC
 go_enter Tryz.func94, Tryz.ntmps94
 go_wp2_with fail
 go_loopw [5] (fun i wr => ∃ k : Nat, k ≤ 8 ∧ i = .int .i64 (k : Int) ∧ RI w f k wr) (fun i _ => 8 - (intOf i).toNat)
 case atStart => exact ⟨0, Nat.zero_le _, rfl, HT.out⟩
 case round =>
  obtain ⟨k, hk, rfl, hT⟩ := hrel
  by_cases hlt : k < 8
  ·obtain ⟨hX, hY, hZ, hO⟩ := hT
   have hx8 := HF.out k (by omega)
   have hy8 := HF.out (8 + k) (by omega)
   have cx : wr.cell? ⟨w.heap.size, k, none⟩ = some (.int .u8 (f k : Nat)) := hX.cell (by omega)
   have cy : wr.cell? ⟨w.heap.size, 8 + k, none⟩ = some (.int .u8 (f (8 + k) : Nat)) := hX.cell (by omega)
   have hl0 : beX f 0 k < 72057594037927936 := Nat.lt_of_lt_of_le (beX_lt k fun i hi => HF.out (0 + i) (by omega)) (Nat.pow_le_pow_right (n := 256) (by decide) (show k ≤ 7 by omega))
   have hl8 : beX f 8 k < 72057594037927936 := Nat.lt_of_lt_of_le (beX_lt k fun i hi => HF.out (8 + i) (by omega)) (Nat.pow_le_pow_right (n := 256) (by decide) (show k ≤ 7 by omega))
   have hs0 : beX f 0 (k + 1) = beX f 0 k * 256 + f k := by show _ * 256 + f (0 + k) = _; rw [Nat.zero_add]
   have hs8 : beX f 8 (k + 1) = beX f 8 k * 256 + f (8 + k) := rfl
   generalize beX f 0 k = s at *
   generalize beX f 8 k = t at *
   generalize f (8 + k) = y at *
   generalize f k = x at *
   have o1 := or8 s x hl0 hx8
   have o2 := or8 t y hl8 hy8
   have c0 : wr.cell? ⟨w.heap.size + 1 + 1, 0, none⟩ = some (.int .u64 (s : Int)) := Blk.cell hZ 0
   have c1 : wr.cell? ⟨w.heap.size + 1 + 1, 1, none⟩ = some (.int .u64 (t : Int)) := Blk.cell hZ 1
   have z0 : wr.frozen? ⟨w.heap.size + 1 + 1, 0, none⟩ = false := Blk.free hZ 0
   have z1 : wr.frozen? ⟨w.heap.size + 1 + 1, 1, none⟩ = false := Blk.free hZ 1
   have m1 : IntKind.u64.wrap ((s : Int) * 256) = (s : Int) * 256 := by rw [IntKind.wrap_u64]; omega
   have m2 : IntKind.u64.wrap ((t : Int) * 256) = (t : Int) * 256 := by rw [IntKind.wrap_u64]; omega
   have m3 : IntKind.u64.wrap (x : Int) = (x : Int) := by rw [IntKind.wrap_u64]; omega
   have m4 : IntKind.u64.wrap (y : Int) = (y : Int) := by rw [IntKind.wrap_u64]; omega
   have m5 : IntKind.i64.wrap (8 + (k : Int)) = 8 + (k : Int) := IntWalk.i64_in _ (by omega)
   have m6 : (8 + (k : Int)).toNat = 8 + k := by omega
   have k0 : (0 : Int) ≤ (k : Int) := by omega
   have k1 : (k : Int) < 8 := by omega
   have k2 : (0 : Int) ≤ 8 + (k : Int) := by omega
   have k3 : 8 + (k : Int) < 16 := by omega
   have HN := zh (show RI w f (k + 1) ((wr.setCell ⟨w.heap.size + 1 + 1, 0, none⟩ (.int .u64 ((s : Int) * 256 + (x : Int)))).setCell ⟨w.heap.size + 1 + 1, 1, none⟩ (.int .u64 ((t : Int) * 256 + (y : Int)))) by
    refine ⟨Blk.set_other (Blk.set_other hX (by simp; omega) _) (by simp; omega) _, Blk.set_other (Blk.set_other hY (by simp) _) (by simp) _, ?_, (hO.setCell (by simp; omega) _).setCell (by simp; omega) _⟩
    have := (Blk.set hZ 0 (.int .u64 ((s : Int) * 256 + (x : Int)))).set 1 (.int .u64 ((t : Int) * 256 + (y : Int)))
    unfold W2
    rw [hs0, hs8]
    simpa using this)
   clear hX hY hZ hO hs0 hs8 hl0 hl8 hx8 hy8
   go_wp2_with fail
   go_region
   all_goals
    go_wp2_with fail
    go_region
   all_goals
    go_wp2_with fail
    go_roundw
    case rel => exact ⟨k + 1, by omega, by go_num, by first | exact HN.out | exact HN.out.drew | exact HN.out.drew.drew⟩
    case measure => simp [intOf]; omega
  ·obtain rfl : k = 8 := by omega
   obtain ⟨hX, hY, hZ, hO⟩ := hT
   have e0 : beX f 0 8 = hiW f := rfl
   have e1 : beX f 8 8 = loW f := rfl
   rw [e0, e1] at hZ
   obtain ⟨a, ha⟩ := zX (hiW f)
   obtain ⟨b, hb⟩ := zX (loW f)
   rw [ha, hb] at hZ
   have HA := zh ha
   have HB := zh hb
   have c0 : wr.cell? ⟨w.heap.size + 1 + 1, 0, none⟩ = some (.int .u64 (a : Int)) := Blk.cell hZ 0
   have c1 : wr.cell? ⟨w.heap.size + 1 + 1, 1, none⟩ = some (.int .u64 (b : Int)) := Blk.cell hZ 1
   have d0 : wr.cell? ⟨w.heap.size + 1, 0, none⟩ = some (.int .u64 0) := Blk.cell hY 0
   have d1 : wr.cell? ⟨w.heap.size + 1, 1, none⟩ = some (.int .u64 0) := Blk.cell hY 1
   have f0 : wr.frozen? ⟨w.heap.size + 1, 0, none⟩ = false := Blk.free hY 0
   have f1 : wr.frozen? ⟨w.heap.size + 1, 1, none⟩ = false := Blk.free hY 1
   have A0 := zh (show (wr.setCell ⟨w.heap.size + 1, 0, none⟩ (.int .u64 (a : Int))).cell? ⟨w.heap.size + 1, 0, none⟩ = some (.int .u64 (a : Int)) from Blk.cell (Blk.set hY 0 _) 0)
   have A1 := zh (show ((wr.setCell ⟨w.heap.size + 1, 0, none⟩ (.int .u64 (a : Int))).setCell ⟨w.heap.size + 1, 1, none⟩ (.int .u64 (b : Int))).cell? ⟨w.heap.size + 1, 1, none⟩ = some (.int .u64 (b : Int)) from Blk.cell (Blk.set (Blk.set hY 0 _) 1 _) 1)
   have HO := zh hO
   clear hX hY hZ hO ha hb e0 e1 hlt hk HT
   go_wp2_with fail
   refine bodyPost_ret (v := .agg #[.int .u64 (a : Int), .int .u64 (b : Int)]) ?_ rfl ⟨by rw [HA.out, HB.out], ?_⟩
   ·simp [results, Tryz.results94, go_sem, A0.out, A1.out]
   ·exact ((HO.out.setCell (by simp) _).setCell (by simp) _)
set_option maxHeartbeats 1000000
theorem has_eq (a k : Nat) (hk : k < 64) : Value.bool (IntKind.u64.wrap ((a : Int) * (2 : Int) ^ k) / 9223372036854775808 == 1) = Value.bool (a * 2 ^ k % 2 ^ 64 / 2 ^ 63 == 1) := by
 rw [IntKind.wrap_u64]
 have e : (a : Int) * (2 : Int) ^ k = ((a * 2 ^ k : Nat) : Int) := by push_cast; rfl
 rw [e]
 generalize a * 2 ^ k = n
 congr 1
 by_cases h : n % 2 ^ 64 / 2 ^ 63 = 1
 ·have h' : (n : Int) % 18446744073709551616 / 9223372036854775808 = 1 := by omega
  rw [h, h']; rfl
 ·have h' : ¬ (n : Int) % 18446744073709551616 / 9223372036854775808 = 1 := by omega
  simp only [beq_eq_false_iff_ne.mpr h, beq_eq_false_iff_ne.mpr h']
theorem has_any (a b k : Nat) (w : World) (hk : k < 128) :
  Calls Tryz.prog 95 #[.agg #[.int .u64 (a : Int), .int .u64 (b : Int)], .int .i64 (k : Int)] w fun e w' => e = .returned (.bool (hasN a b k)) ∧ Below w.heap.size w w' := by
 by_cases h : k < 64
 ·have k0 : (0 : Int) ≤ (k : Int) := by omega
  have k1 : (k : Int) < 64 := by omega
  have he := zh (has_eq a k h)
  have hh : hasN a b k = (a * 2 ^ k % 2 ^ 64 / 2 ^ 63 == 1) := if_pos h
  have HB := zh ((Below.refl w.heap.size w).alloc (Nat.le_refl _) (.cells #[.int .u64 (a : Int), .int .u64 (b : Int)] 184))
  go_enter Tryz.func95, Tryz.ntmps95
  go_wp2_with fail
  go_ret
  refine ⟨?_, HB.out⟩
  rw [hh, ← he.out]; rfl
 ·obtain ⟨j, rfl⟩ : ∃ j, k = 64 + j := ⟨k - 64, by omega⟩
  have k0 : (0 : Int) ≤ (j : Int) := by omega
  have k1 : ¬ ((64 + j : Nat) : Int) < 64 := by omega
  have k2 : (((64 + j : Nat) : Int) - 64) = (j : Int) := by omega
  have k3 : IntKind.i64.wrap (j : Int) = (j : Int) := IntWalk.i64_in _ (by omega)
  have he := zh (has_eq b j (by omega))
  have hh : hasN a b (64 + j) = (b * 2 ^ j % 2 ^ 64 / 2 ^ 63 == 1) := by
   unfold hasN; rw [if_neg h, show 64 + j - 64 = j by omega]
  have HB := zh ((Below.refl w.heap.size w).alloc (Nat.le_refl _) (.cells #[.int .u64 (a : Int), .int .u64 (b : Int)] 184))
  generalize hc : ((64 + j : Nat) : Int) = c at *
  have hw : IntKind.i64.wrap (c - 64) = (j : Int) := by rw [k2]; exact k3
  go_enter Tryz.func95, Tryz.ntmps95
  go_wp2_with fail
  go_ret
  refine ⟨?_, HB.out⟩
  exact congrArg Ending.returned he.out
set_option maxHeartbeats 4000000
theorem next_any (a b : Nat) (w : World) (ha : a < 18446744073709551616) (hb : b < 18446744073709551616) :
  Calls Tryz.prog 96 #[.agg #[.int .u64 (a : Int), .int .u64 (b : Int)]] w fun e w' => e = .returned (.agg #[.int .u64 (nx1 a b : Int), .int .u64 (nx2 a b : Int)]) ∧ Below w.heap.size w w' := by
 have o1 : bits .and .u64 (b : Int) 1 = ((b % 2 : Nat) : Int) := by
  have := bits_and_u64_nat b 1 hb (by decide)
  rw [Nat.and_one_is_mod] at this; exact this
 have e2 : IntKind.u64.wrap ((a : Int) * 9223372036854775808) = ((a * 2 ^ 63 % 2 ^ 64 : Nat) : Int) := by rw [IntKind.wrap_u64]; omega
 have o2 : bits .or .u64 ((b : Int) / 2) ((a * 2 ^ 63 % 2 ^ 64 : Nat) : Int) = (nx2 a b : Int) := by
  have := bits_or_u64_nat (b / 2) (a * 2 ^ 63 % 2 ^ 64) (by omega) (by omega)
  rw [show ((b / 2 : Nat) : Int) = (b : Int) / 2 by omega] at this; exact this
 have e3 : IntKind.u64.wrap (((b % 2 : Nat) : Int) * 16212958658533785600) = ((b % 2 * lowN : Nat) : Int) := by rw [IntKind.wrap_u64]; unfold lowN; omega
 have o3 : bits .xor .u64 ((a : Int) / 2) ((b % 2 * lowN : Nat) : Int) = (nx1 a b : Int) := by
  have := bits_xor_u64_nat (a / 2) (b % 2 * lowN) (by omega) (by unfold lowN; omega)
  rw [show ((a / 2 : Nat) : Int) = (a : Int) / 2 by omega] at this; exact this
 generalize nx1 a b = x at *
 generalize nx2 a b = y at *
 generalize b % 2 * lowN = p at *
 generalize a * 2 ^ 63 % 2 ^ 64 = q at *
 generalize b % 2 = r at *
 go_enter Tryz.func96, Tryz.ntmps96
 go_wp2_with fail
 have c0 := Blk.cell (((Blk.new w #[.int .u64 (x : Int), .int .u64 (y : Int)] 184)).alloc (.cells #[.int .u64 (x : Int), .int .u64 (y : Int)] 184)) 0
 refine bodyPost_ret (v := .agg #[.int .u64 (x : Int), .int .u64 (y : Int)]) ?_ rfl ⟨rfl, (zA).alloc (by simp) _⟩
 have hN : Blk ((w.alloc (.cells #[.int .u64 (x : Int), .int .u64 (y : Int)] 184)).alloc (.cells #[.int .u64 (x : Int), .int .u64 (y : Int)] 184)) (w.heap.size + 1) #[.int .u64 (x : Int), .int .u64 (y : Int)] 184 := by
  simpa using Blk.new (w.alloc (.cells #[.int .u64 (x : Int), .int .u64 (y : Int)] 184)) #[.int .u64 (x : Int), .int .u64 (y : Int)] 184
 exact results_cell_row Tryz.results96 _ _ (w.heap.size + 1) 184 #[.int .u64 (x : Int), .int .u64 (y : Int)] (0, 0) _ rfl hN Tryz.underlying184 rfl (by kernel_rfl)
theorem numB_shift (a i : Nat) (hi : i < 8) : IntKind.u8.wrap ((a : Int) / (2 : Int) ^ (56 - 8 * i)) = ((numB a 8 i : Nat) : Int) := by
 have e : (a : Int) / (2 : Int) ^ (56 - 8 * i) = ((a / 2 ^ (56 - 8 * i) : Nat) : Int) := by push_cast; rfl
 have p : (2 : Nat) ^ (56 - 8 * i) = 256 ^ (8 - 1 - i) := by rw [show (256 : Nat) = 2 ^ 8 from rfl, ← Nat.pow_mul]; congr 1; omega
 rw [e, p]
 unfold numB
 generalize a / 256 ^ (8 - 1 - i) = n
 simp only [IntKind.wrap, IntKind.bits, IntKind.signed]
 simp
def BI (w0 : World) (a b k : Nat) (wr : World) : Prop := W2 wr w0.heap.size a b ∧ B16 wr (w0.heap.size + 1) (fun _ => 0) ∧ B16 wr (w0.heap.size + 1 + 1) (fun i => if i % 8 < k then blkF a b i else 0) ∧ Below w0.heap.size w0 wr
theorem block_any (a b : Nat) (w : World) :
  Calls Tryz.prog 97 #[.agg #[.int .u64 (a : Int), .int .u64 (b : Int)]] w fun e w' => e = .returned (.agg (rowC 16 (blkF a b)).toArray) ∧ Below w.heap.size w w' := by
 have hz := zero16_run
 have HT := zh (show BI w a b 0 (((w.alloc (.cells #[.int .u64 (a : Int), .int .u64 (b : Int)] 184)).alloc (.cells zero16 82)).alloc (.cells zero16 82)) by
  refine ⟨((Blk.new w _ 184).alloc _).alloc _, ?_, ?_, ((zA).alloc (by simp) _).alloc (by simp; omega) _⟩
  ·have := (Blk.new (w.alloc (.cells #[.int .u64 (a : Int), .int .u64 (b : Int)] 184)) zero16 82).alloc (.cells zero16 82)
   show Blk _ _ zero16 _; simpa using this
  ·have := Blk.new ((w.alloc (.cells #[.int .u64 (a : Int), .int .u64 (b : Int)] 184)).alloc (.cells zero16 82)) zero16 82
   refine B16.congr (f := fun _ => 0) ?_ fun i _ => (if_neg (Nat.not_lt_zero _)).symm
   show Blk _ _ zero16 _; simpa using this)
 go_enter Tryz.func97, Tryz.ntmps97
 go_wp2_with fail
 clear hz
 go_loopw [5] (fun i wr => ∃ k : Nat, k ≤ 8 ∧ i = .int .i64 (k : Int) ∧ BI w a b k wr) (fun i _ => 8 - (intOf i).toNat)
 case atStart => exact ⟨0, Nat.zero_le _, rfl, HT.out⟩
 case round =>
  obtain ⟨k, hk, rfl, hT⟩ := hrel
  by_cases hlt : k < 8
  ·obtain ⟨hX, hY, hZ, hO⟩ := hT
   have c0 : wr.cell? ⟨w.heap.size, 0, none⟩ = some (.int .u64 (a : Int)) := Blk.cell hX 0
   have c1 : wr.cell? ⟨w.heap.size, 1, none⟩ = some (.int .u64 (b : Int)) := Blk.cell hX 1
   have z0 : wr.cell? ⟨w.heap.size + 1 + 1, k, none⟩ = some (.int .u8 0) := by
    have := hZ.cell (show k < 16 by omega); rw [if_neg (by omega)] at this; exact this
   have z1 : wr.cell? ⟨w.heap.size + 1 + 1, 8 + k, none⟩ = some (.int .u8 0) := by
    have := hZ.cell (show 8 + k < 16 by omega); rw [if_neg (by omega)] at this; exact this
   have f0 : wr.frozen? ⟨w.heap.size + 1 + 1, k, none⟩ = false := Blk.free hZ _
   have f1 : wr.frozen? ⟨w.heap.size + 1 + 1, 8 + k, none⟩ = false := Blk.free hZ _
   have n1 := numB_shift a k hlt
   have n2 := numB_shift b k hlt
   have k0 : (0 : Int) ≤ (k : Int) := by omega
   have k1 : (k : Int) < 8 := by omega
   have HN := zh (show BI w a b (k + 1) ((wr.setCell ⟨w.heap.size + 1 + 1, k, none⟩ (.int .u8 (numB a 8 k : Nat))).setCell ⟨w.heap.size + 1 + 1, 8 + k, none⟩ (.int .u8 (numB b 8 k : Nat))) by
    refine ⟨Blk.set_other (Blk.set_other hX (by simp; omega) _) (by simp; omega) _, Blk.set_other (Blk.set_other hY (by simp) _) (by simp) _, B16.congr ((hZ.set k (numB a 8 k)).set (8 + k) (numB b 8 k)) fun i hi => ?_, (hO.setCell (by simp; omega) _).setCell (by simp; omega) _⟩
    unfold upd
    by_cases e : i = 8 + k
    ·subst e; rw [if_pos rfl]
     show _ = if (8 + k) % 8 < k + 1 then blkF a b (8 + k) else 0
     rw [if_pos (by omega)]; unfold blkF; rw [if_neg (by omega), show 8 + k - 8 = k by omega]
    ·rw [if_neg e]
     by_cases e' : i = k
     ·subst e'; rw [if_pos rfl]
      show _ = if i % 8 < i + 1 then blkF a b i else 0
      rw [if_pos (by omega)]; unfold blkF; rw [if_pos hlt]
     ·rw [if_neg e']
      show (if i % 8 < k then blkF a b i else 0) = if i % 8 < k + 1 then blkF a b i else 0
      by_cases h5 : i % 8 < k
      ·rw [if_pos h5, if_pos (by omega)]
      ·rw [if_neg h5, if_neg (by omega)])
   clear hX hY hZ hO
   rcases (show k = 0 ∨ k = 1 ∨ k = 2 ∨ k = 3 ∨ k = 4 ∨ k = 5 ∨ k = 6 ∨ k = 7 by omega) with rfl | rfl | rfl | rfl | rfl | rfl | rfl | rfl
   all_goals
    simp at n1 n2 z0 z1 f0 f1
    generalize numB a 8 _ = u at *
    generalize numB b 8 _ = v at *
    go_wp2_with fail
    go_roundw
    case rel => first | exact ⟨1, by omega, rfl, HN.out⟩ | exact ⟨2, by omega, rfl, HN.out⟩ | exact ⟨3, by omega, rfl, HN.out⟩ | exact ⟨4, by omega, rfl, HN.out⟩ | exact ⟨5, by omega, rfl, HN.out⟩ | exact ⟨6, by omega, rfl, HN.out⟩ | exact ⟨7, by omega, rfl, HN.out⟩ | exact ⟨8, by omega, rfl, HN.out⟩
    case measure => simp [intOf]
  ·obtain rfl : k = 8 := by omega
   obtain ⟨hX, hY, hZ, hO⟩ := hT
   have hZ' : B16 wr (w.heap.size + 1 + 1) (blkF a b) := hZ.congr fun i hi => if_pos (Nat.mod_lt _ (by decide))
   obtain ⟨E, hE⟩ := zX ((rowC 16 (blkF a b)).toArray)
   have HZ : Hid (Blk wr (w.heap.size + 1 + 1) E 82) := zh (hE ▸ hZ')
   have HTh : Hid (wr.there (w.heap.size + 1) 0 E.size) := zh (hE ▸ hY.there (blkF a b))
   have HI : Hid ((Tryz.prog.info? 82).map (·.size) = some E.size) := zh (hE ▸ info16 (blkF a b))
   have HON : Hid (E.all (·.oneCell') = true) := zh (hE ▸ one16 (blkF a b))
   have HN : Hid (Blk (wr.setCells (w.heap.size + 1) 0 E.toList) (w.heap.size + 1) E 82) := zh (hE ▸ hY.store (blkF a b))
   have HOw : Hid (Own (w.heap.size + 1) wr (wr.setCells (w.heap.size + 1) 0 E.toList)) := zh (Own.setCells _ _ _)
   have HO := zh hO
   have HE := zh hE
   clear hX hY hZ hO hZ' hE hlt hk HT
   go_wp2_with (first
    | (refine wpList_load_row rfl 82 (.tmp 3) rfl (w.heap.size + 1 + 1) rfl 82 E (0, 0) _ HZ.out Tryz.underlying82 rfl HI.out ?_)
    | (refine wpList_store_mid rfl 82 (.tmp 2) (.tmp 28) rfl (w.heap.size + 1) 0 E rfl rfl HTh.out HI.out HON.out ?_))
   refine bodyPost_ret (v := .agg E) ?_ rfl ⟨by rw [HE.out], ?_⟩
   ·exact results_cell_row Tryz.results97 _ _ (w.heap.size + 1) 82 E (0, 0) _ rfl HN.out Tryz.underlying82 rfl HI.out
   ·exact HO.out.trans (HOw.out.below (by omega) HO.out.size)
end Go.Proofs.YtncfocjmdecapaaGreatDoor
