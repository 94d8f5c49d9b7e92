/- Part of the proof: what stands here serves the walks of the functions that the statement calls. -/
import Derived.Test.YtncfocjmdecapaaGreatDoorY17
import Derived.Test.YtncfocjmdecapaaGreatDoorY19
namespace Go.Proofs.YtncfocjmdecapaaGreatDoor
set_option linter.unusedVariables false
set_option linter.unusedSimpArgs false
open Go.RowKit
set_option maxRecDepth 100000
set_option maxHeartbeats 4000000
def AJ (w0 : World) (f g : Nat → Nat) (k : Nat) (wr : World) : Prop := A16 wr w0.heap.size (fun i => if i < k then f i ^^^ g i else f i) ∧ A16 wr (w0.heap.size + 1) g ∧ A16 wr (w0.heap.size + 1 + 1) (fun _ => 0) ∧ Below w0.heap.size w0 wr
theorem AJ.drew {w0 wr : World} {f g : Nat → Nat} {k : Nat} (h : AJ w0 f g k wr) : AJ w0 f g k wr.drew := ⟨h.1, h.2.1, h.2.2.1, h.2.2.2.drew⟩
theorem AJ.next {w0 wr : World} {f g : Nat → Nat} {k : Nat} (h : AJ w0 f g k wr) (hk : k < 16) : AJ w0 f g (k + 1) (wr.setCell ⟨w0.heap.size, k, none⟩ (.int .u8 ((f k ^^^ g k : Nat) : Int))) := by
 obtain ⟨h1, h2, h3, h4⟩ := h
 refine ⟨A16.congr (h1.set k (f k ^^^ g k)) fun i _ => ?_, Blk.set_other h2 (by simp) _, Blk.set_other h3 (by simp; omega) _, h4.setCell (Nat.le_refl _) _⟩
 unfold upd
 by_cases e : i = k
 ·subst e; rw [if_pos rfl, if_pos (by omega)]
 ·rw [if_neg e]
  show (if i < k then f i ^^^ g i else f i) = (if i < k + 1 then f i ^^^ g i else f i)
  by_cases h5 : i < k
  ·rw [if_pos h5, if_pos (by omega)]
  ·rw [if_neg h5, if_neg (by omega)]
theorem radd_any (f g : Nat → Nat) (w : World) (hf : ∀ i, i < 16 → f i < 256) (hg : ∀ i, i < 16 → g i < 256) :
  Calls Tryz.prog 70 #[.agg (rowC 16 f).toArray, .agg (rowC 16 g).toArray] w fun e w' => e = .returned (.agg (rowC 16 (addF f g)).toArray) ∧ Below w.heap.size w w' := by
 have hz := zero16a_run
 have HF := zh hf
 have HG := zh hg
 clear hf hg
 obtain ⟨C, hC⟩ := zX ((rowC 16 f).toArray)
 obtain ⟨D, hD⟩ := zX ((rowC 16 g).toArray)
 rw [hC, hD]
 have HC := zh hC
 have HD := zh hD
 clear hC hD
 have HT := zh (show AJ w f g 0 (((w.alloc (.cells C 72)).alloc (.cells D 72)).alloc (.cells zero16 72)) by
  rw [← HC.out, ← HD.out]
  refine ⟨?_, ?_, ?_, ((zA).alloc (by simp) _).alloc (by simp; omega) _⟩
  ·exact A16.congr (((Blk.new w _ 72).alloc _).alloc _) fun i _ => (if_neg (Nat.not_lt_zero i)).symm
  ·have := (Blk.new (w.alloc (.cells (rowC 16 f).toArray 72)) (rowC 16 g).toArray 72).alloc (.cells zero16 72)
   unfold A16; simpa using this
  ·have := Blk.new ((w.alloc (.cells (rowC 16 f).toArray 72)).alloc (.cells (rowC 16 g).toArray 72)) zero16 72
   show Blk _ _ zero16 _; simpa using this)
 go_enter Tryz.func70, Tryz.ntmps70
 go_wp2_with fail
 clear hz
 go_loopw [5] (fun i wr => ∃ k : Nat, k ≤ 16 ∧ i = .int .i64 (k : Int) ∧ AJ w f g k wr) (fun i _ => 16 - (intOf i).toNat)
 case atStart => exact ⟨0, Nat.zero_le _, rfl, HT.out⟩
 case round =>
  obtain ⟨k, hk, rfl, hT⟩ := hrel
  by_cases hlt : k < 16
  ·obtain ⟨hX, hY, hZ, hO⟩ := hT
   have cx : wr.cell? ⟨w.heap.size, k, none⟩ = some (.int .u8 (f k : Nat)) := by
    have := hX.cell hlt; rw [if_neg (Nat.lt_irrefl _)] at this; exact this
   have zx : wr.frozen? ⟨w.heap.size, k, none⟩ = false := Blk.free hX k
   have cy : wr.cell? ⟨w.heap.size + 1, k, none⟩ = some (.int .u8 (g k : Nat)) := hY.cell hlt
   have e1 : bits .xor .u8 (f k : Int) (g k : Int) = ((f k ^^^ g k : Nat) : Int) := u8_xor_nat _ _ (HF.out k hlt) (HG.out k hlt)
   have HN := zh (AJ.next ⟨hX, hY, hZ, hO⟩ hlt)
   have k0 : (0 : Int) ≤ (k : Int) := by omega
   have k1 : (k : Int) < 16 := by omega
   clear hX hY hZ hO
   generalize f k ^^^ g k = r at *
   generalize f k = p at *
   generalize g k = q at *
   go_wp2_with fail
   go_region
   all_goals
    go_wp2_with fail
    go_roundw
    case rel => exact ⟨k + 1, by omega, by go_num, by first | exact HN.out | exact HN.out.drew⟩
    case measure => simp [intOf]; omega
  ·obtain rfl : k = 16 := by omega
   obtain ⟨hX, hY, hZ, hO⟩ := hT
   have hX' : A16 wr w.heap.size (addF f g) := hX.congr fun i hi => if_pos hi
   obtain ⟨E, hE⟩ := zX ((rowC 16 (addF f g)).toArray)
   have HX : Hid (Blk wr w.heap.size E 72) := zh (hE ▸ hX')
   have HTh : Hid (wr.there (w.heap.size + 1 + 1) 0 E.size) := zh (hE ▸ hZ.there (addF f g))
   have HI : Hid ((Tryz.prog.info? 72).map (·.size) = some E.size) := zh (hE ▸ info16a (addF f g))
   have HON : Hid (E.all (·.oneCell') = true) := zh (hE ▸ one16 (addF f g))
   have HN : Hid (Blk (wr.setCells (w.heap.size + 1 + 1) 0 E.toList) (w.heap.size + 1 + 1) E 72) := zh (hE ▸ hZ.store (addF f g))
   have HOw : Hid (Own (w.heap.size + 1 + 1) wr (wr.setCells (w.heap.size + 1 + 1) 0 E.toList)) := zh (Own.setCells _ _ _)
   have HO := zh hO
   have HE := zh hE
   clear hX hY hZ hO hX' hE hlt hk HT
   go_wp2_with (first
    | (refine wpList_load_row rfl 72 (.tmp 2) rfl w.heap.size rfl 72 E (0, 0) _ HX.out Tryz.underlying72 rfl HI.out ?_)
    | (refine wpList_store_mid rfl 72 (.tmp 4) (.tmp 19) rfl (w.heap.size + 1 + 1) 0 E rfl rfl HTh.out HI.out HON.out ?_))
   refine bodyPost_ret (v := .agg E) ?_ rfl ⟨by rw [HE.out], ?_⟩
   ·exact results_cell_row Tryz.results70 _ _ (w.heap.size + 1 + 1) 72 E (0, 0) _ rfl HN.out Tryz.underlying72 rfl HI.out
   ·exact HO.out.trans (HOw.out.below (by omega) HO.out.size)
set_option maxRecDepth 512
set_option maxHeartbeats 200000
def shF (v : Nat → Nat) : Nat → Nat := fun k => v k / 2 + (if 0 < k then v (k - 1) % 2 * 128 else 0)
def nxF (v : Nat → Nat) : Nat → Nat := fun k => if k = 0 ∧ v 15 % 2 = 1 then shF v 0 ^^^ 225 else shF v k
def vB (y : Nat → Nat) : Nat → Nat → Nat | 0 => y | k + 1 => nxF (vB y k)
def hB (x : Nat → Nat) (k : Nat) : Bool := decide (128 ≤ x (k / 8) * 2 ^ (k % 8) % 256)
def zB (x y : Nat → Nat) : Nat → Nat → Nat | 0 => fun _ => 0 | k + 1 => if hB x k then addF (zB x y k) (vB y k) else zB x y k
theorem shF_lt {v : Nat → Nat} (hv : ∀ i, i < 16 → v i < 256) (i : Nat) (hi : i < 16) : shF v i < 256 := by
 have h1 := hv i hi
 have h2 : v (i - 1) % 2 < 2 := Nat.mod_lt _ (by decide)
 unfold shF; split <;> omega
theorem nxF_lt {v : Nat → Nat} (hv : ∀ i, i < 16 → v i < 256) (i : Nat) (hi : i < 16) : nxF v i < 256 := by
 unfold nxF; split
 ·exact Nat.xor_lt_two_pow (n := 8) (shF_lt hv 0 (by omega)) (by decide)
 ·exact shF_lt hv i hi
theorem vB_lt {y : Nat → Nat} (hy : ∀ i, i < 16 → y i < 256) : ∀ k i, i < 16 → vB y k i < 256
 | 0, i, hi => hy i hi
 | k + 1, i, hi => nxF_lt (vB_lt hy k) i hi
theorem zB_lt {x y : Nat → Nat} (hy : ∀ i, i < 16 → y i < 256) : ∀ k i, i < 16 → zB x y k i < 256
 | 0, _, _ => Nat.zero_lt_succ _
 | k + 1, i, hi => by
  show (if hB x k then addF (zB x y k) (vB y k) else zB x y k) i < 256
  split
  ·exact addF_lt (zB_lt hy k) (vB_lt hy k) i hi
  ·exact zB_lt hy k i hi
theorem beX_mod2 {f : Nat → Nat} {a k : Nat} : beX f a (k + 1) % 2 = f (a + k) % 2 := by
 show (beX f a k * 256 + f (a + k)) % 2 = _
 omega
theorem beX_half {f g : Nat → Nat} {a : Nat} : ∀ k, (∀ i, i < k → g (a + i) = f (a + i) / 2 + (if 0 < i then f (a + i - 1) % 2 * 128 else 0)) → beX g a k = beX f a k / 2
 | 0, _ => by show (0 : Nat) = 0 / 2; rfl
 | k + 1, h => by
  show beX g a k * 256 + g (a + k) = (beX f a k * 256 + f (a + k)) / 2
  rw [beX_half k (fun i hi => h i (by omega)), h k (by omega)]
  cases k with
  | zero => show beX f a 0 / 2 * 256 + (f (a + 0) / 2 + 0) = (0 * 256 + f (a + 0)) / 2; show 0 / 2 * 256 + (f (a + 0) / 2 + 0) = _; omega
  | succ k =>
   rw [if_pos (by omega)]
   have e := beX_mod2 (f := f) (a := a) (k := k)
   rw [show a + (k + 1) - 1 = a + k by omega, ← e]
   generalize beX f a (k + 1) = n
   omega
theorem beX_head {f : Nat → Nat} {a : Nat} (c : Nat) : ∀ k, beX (fun i => if i = a then f i + c else f i) a (k + 1) = beX f a (k + 1) + c * 256 ^ k
 | 0 => by show (0 * 256 + (if a + 0 = a then f (a + 0) + c else _)) = (0 * 256 + f (a + 0)) + c * 1; rw [if_pos (by omega)]; omega
 | k + 1 => by
  show beX (fun i => if i = a then f i + c else f i) a (k + 1) * 256 + (if a + (k + 1) = a then _ else f (a + (k + 1))) = (beX f a (k + 1) * 256 + f (a + (k + 1))) + c * 256 ^ (k + 1)
  rw [beX_head c k, if_neg (by omega), Nat.pow_succ, ← Nat.mul_assoc]
  generalize c * 256 ^ k = m
  omega
theorem beX_congr {f g : Nat → Nat} {a : Nat} : ∀ k, (∀ i, i < k → f (a + i) = g (a + i)) → beX f a k = beX g a k
 | 0, _ => rfl
 | k + 1, h => by show beX f a k * 256 + f (a + k) = beX g a k * 256 + g (a + k); rw [beX_congr k (fun i hi => h i (by omega)), h k (by omega)]
theorem xor_top {n : Nat} (hn : n < 2 ^ 63) : n ^^^ lowN = ((n / 2 ^ 56) ^^^ 225) * 2 ^ 56 + n % 2 ^ 56 := by
 have h : ∀ p q, q < 2 ^ 56 → p * 2 ^ 56 + q = p <<< 56 ||| q := fun p q hq => by
  rw [Nat.shiftLeft_eq, Nat.mul_comm, Nat.two_pow_add_eq_or_of_lt hq]
 have e1 : n = (n / 2 ^ 56) <<< 56 ||| (n % 2 ^ 56) := by rw [← h _ _ (Nat.mod_lt _ (by decide))]; omega
 have e2 : lowN = 225 <<< 56 ||| 0 := rfl
 rw [h _ _ (Nat.mod_lt _ (by decide))]
 rw [e2]
 conv => lhs; rw [e1]
 refine Nat.eq_of_testBit_eq fun i => ?_
 simp only [Nat.testBit_xor, Nat.testBit_or, Nat.testBit_shiftLeft, Nat.zero_testBit, Nat.testBit_mod_two_pow]
 by_cases hi : 56 ≤ i
 ·simp [hi, show ¬ i < 56 by omega]
 ·simp [hi]
theorem beX_succ (f : Nat → Nat) (a k : Nat) : beX f a (k + 1) = beX f a k * 256 + f (a + k) := rfl
theorem beX_tail (f : Nat → Nat) (k : Nat) : beX (fun i => if i = 0 then 0 else f i) 0 (k + 1) = beX f 1 k := by
 induction k with
 | zero => rw [beX_succ, if_pos (Nat.zero_add 0)]; show beX _ 0 0 * 256 + 0 = 0; show 0 * 256 + 0 = 0; rw [Nat.zero_mul]
 | succ k ih =>
  rw [beX_succ, ih, beX_succ f 1 k, if_neg (Nat.succ_ne_zero _ ∘ (Nat.zero_add _).symm.trans), Nat.add_comm 1 k, Nat.zero_add]
theorem w_nxF {v : Nat → Nat} (hv : ∀ i, i < 16 → v i < 256) : wF (nxF v) = nxP (wF v) := by
 have hlo : loW v % 2 = v 15 % 2 := beX_mod2 (f := v) (a := 8) (k := 7)
 have hhi : hiW v % 2 = v 7 % 2 := by have := beX_mod2 (f := v) (a := 0) (k := 7); rwa [Nat.zero_add] at this
 have h1 : beX (shF v) 0 8 = hiW v / 2 := beX_half 8 fun i hi => by
  show v (0 + i) / 2 + (if 0 < 0 + i then v (0 + i - 1) % 2 * 128 else 0) = _
  rw [Nat.zero_add]
 have h2 : beX (shF v) 8 8 = loW v / 2 + hiW v % 2 * 2 ^ 63 := by
  have e := beX_half (f := v) (a := 8) (g := fun i => if i = 8 then v 8 / 2 else shF v i) 8 fun i hi => by
   show (if 8 + i = 8 then v 8 / 2 else v (8 + i) / 2 + (if 0 < 8 + i then v (8 + i - 1) % 2 * 128 else 0)) = _
   by_cases h0 : i = 0
   ·subst h0; rfl
   ·rw [if_neg (by omega), if_pos (by omega), if_pos (by omega)]
  have e2 := beX_head (f := fun i => if i = 8 then v 8 / 2 else shF v i) (a := 8) (v 7 % 2 * 128) 7
  have e3 : beX (shF v) 8 8 = beX (fun i => if i = 8 then (fun i => if i = 8 then v 8 / 2 else shF v i) i + v 7 % 2 * 128 else (fun i => if i = 8 then v 8 / 2 else shF v i) i) 8 (7 + 1) := beX_congr 8 fun i hi => by
   show shF v (8 + i) = if 8 + i = 8 then (if 8 + i = 8 then v 8 / 2 else shF v (8 + i)) + v 7 % 2 * 128 else if 8 + i = 8 then v 8 / 2 else shF v (8 + i)
   by_cases h0 : i = 0
   ·subst h0; rfl
   ·rw [if_neg (by omega), if_neg (by omega)]
  rw [e3, e2, e, hhi]
  show loW v / 2 + v 7 % 2 * 128 * 256 ^ 7 = _
  rw [Nat.mul_assoc]
 have hb := bd_w hv
 refine Prod.ext ?_ ?_
 ·show beX (nxF v) 0 8 = hiW v / 2 ^^^ (loW v % 2 * lowN)
  rw [hlo]
  by_cases h15 : v 15 % 2 = 1
  ·rw [h15, Nat.one_mul]
   have hn : hiW v / 2 < 2 ^ 63 := by have := hb.1; show hiW v / 2 < _; have : hiW v < 2 ^ 64 := this; omega
   rw [xor_top hn]
   have e := beX_head (f := fun i => if i = 0 then 0 else shF v i) (a := 0) (shF v 0 ^^^ 225) 7
   have e0 := beX_head (f := fun i => if i = 0 then 0 else shF v i) (a := 0) (shF v 0) 7
   have c1 : beX (nxF v) 0 8 = beX (fun i => if i = 0 then (fun i => if i = 0 then 0 else shF v i) i + (shF v 0 ^^^ 225) else (fun i => if i = 0 then 0 else shF v i) i) 0 (7 + 1) := beX_congr 8 fun i hi => by
    show (if 0 + i = 0 ∧ v 15 % 2 = 1 then shF v 0 ^^^ 225 else shF v (0 + i)) = if 0 + i = 0 then (if 0 + i = 0 then 0 else shF v (0 + i)) + (shF v 0 ^^^ 225) else if 0 + i = 0 then 0 else shF v (0 + i)
    by_cases h0 : i = 0
    ·subst h0; rw [if_pos ⟨rfl, h15⟩, if_pos rfl, if_pos rfl, Nat.zero_add]
    ·rw [if_neg (by omega), if_neg (by omega), if_neg (by omega)]
   have c2 : beX (shF v) 0 8 = beX (fun i => if i = 0 then (fun i => if i = 0 then 0 else shF v i) i + shF v 0 else (fun i => if i = 0 then 0 else shF v i) i) 0 (7 + 1) := beX_congr 8 fun i hi => by
    show shF v (0 + i) = if 0 + i = 0 then (if 0 + i = 0 then 0 else shF v (0 + i)) + shF v 0 else if 0 + i = 0 then 0 else shF v (0 + i)
    by_cases h0 : i = 0
    ·subst h0; rw [if_pos rfl, if_pos rfl]; exact (Nat.zero_add _).symm
    ·rw [if_neg (by omega), if_neg (by omega)]
   have hl : beX (fun i => if i = 0 then 0 else shF v i) 0 (7 + 1) < 256 ^ 7 := by
    rw [beX_tail (shF v) 7]
    exact beX_lt 7 fun i hi => shF_lt hv _ (by omega)
   have hs0 := shF_lt hv 0 (by omega)
   rw [← h1, c2, e0, c1, e]
   generalize beX (fun i => if i = 0 then 0 else shF v i) 0 (7 + 1) = m at hl ⊢
   generalize shF v 0 = s at hs0 ⊢
   have p : (256 : Nat) ^ 7 = 2 ^ 56 := by decide
   rw [p] at hl ⊢
   have q1 : (m + s * 2 ^ 56) / 2 ^ 56 = s := by omega
   have q2 : (m + s * 2 ^ 56) % 2 ^ 56 = m := by omega
   rw [q1, q2]; exact Nat.add_comm _ _
  ·have h15' : v 15 % 2 = 0 := by omega
   rw [h15', Nat.zero_mul, Nat.xor_zero, ← h1]
   exact beX_congr 8 fun i hi => if_neg (fun h => h15 h.2)
 ·show beX (nxF v) 8 8 = loW v / 2 ||| (hiW v * 2 ^ 63 % 2 ^ 64)
  have e : beX (nxF v) 8 8 = beX (shF v) 8 8 := beX_congr 8 fun i hi => if_neg (fun h => absurd h.1 (by omega))
  rw [e, h2]
  have hl : loW v / 2 < 2 ^ 63 := by have : loW v < 2 ^ 64 := hb.2; omega
  have e2 : hiW v * 2 ^ 63 % 2 ^ 64 = hiW v % 2 * 2 ^ 63 := by omega
  rw [e2, Nat.or_comm, Nat.mul_comm, ← Nat.two_pow_add_eq_or_of_lt hl, Nat.add_comm]
theorem w_vB {y : Nat → Nat} (hy : ∀ i, i < 16 → y i < 256) : ∀ k, wF (vB y k) = vP (wF y) k
 | 0 => rfl
 | k + 1 => by
  show wF (nxF (vB y k)) = _
  rw [w_nxF (vB_lt hy k), w_vB hy k]; rfl
theorem beX_bit {f : Nat → Nat} {a : Nat} : ∀ k, (∀ i, i < k → f (a + i) < 256) → ∀ j, j < 8 * k → (beX f a k).testBit (8 * k - 1 - j) = (f (a + j / 8)).testBit (7 - j % 8)
 | 0, _, j, h => absurd h (by omega)
 | k + 1, hf, j, hj => by
  have hk := hf k (by omega)
  show (beX f a k * 256 + f (a + k)).testBit (8 * (k + 1) - 1 - j) = _
  rw [show beX f a k * 256 + f (a + k) = 2 ^ 8 * beX f a k + f (a + k) by omega, Nat.testBit_two_pow_mul_add _ (by simpa using hk)]
  by_cases h : j < 8 * k
  ·rw [if_neg (by omega), ← beX_bit k (fun i hi => hf i (by omega)) j h]
   congr 1; omega
  ·rw [if_pos (by omega)]
   have : j / 8 = k := by omega
   rw [this]; congr 1; omega
theorem hB_bit {x k : Nat} (hx : x < 256) (hk : k < 8) : decide (128 ≤ x * 2 ^ k % 256) = x.testBit (7 - k) := by
 have h : ∀ x, x < 256 → ∀ k, k < 8 → decide (128 ≤ x * 2 ^ k % 256) = x.testBit (7 - k) := of_decide_eq_true (by kernel_rfl)
 exact h x hx k hk
theorem hB_has {x : Nat → Nat} (hx : ∀ i, i < 16 → x i < 256) {k : Nat} (hk : k < 128) : hB x k = hasN (wF x).1 (wF x).2 k := by
 rw [has_bit hk (bd_w hx).1 (bd_w hx).2]
 unfold hB
 rw [hB_bit (hx _ (by omega)) (Nat.mod_lt _ (by decide))]
 by_cases h : k < 64
 ·rw [if_pos h]
  have := beX_bit (f := x) (a := 0) 8 (fun i hi => hx _ (by omega)) k (by omega)
  rw [Nat.zero_add] at this; exact this.symm
 ·rw [if_neg h]
  have := beX_bit (f := x) (a := 8) 8 (fun i hi => hx _ (by omega)) (k - 64) (by omega)
  rw [show 8 * 8 - 1 - (k - 64) = 127 - k by omega, show 8 + (k - 64) / 8 = k / 8 by omega, show (k - 64) % 8 = k % 8 by omega] at this
  exact this.symm
theorem w_zB {x y : Nat → Nat} (hx : ∀ i, i < 16 → x i < 256) (hy : ∀ i, i < 16 → y i < 256) : ∀ k, k ≤ 128 → wF (zB x y k) = zP (wF x) (wF y) k
 | 0, _ => w_zero
 | k + 1, hk => by
  show wF (if hB x k then addF (zB x y k) (vB y k) else zB x y k) = _
  rw [z_succ, hB_has hx (by omega), ← w_zB hx hy k (by omega), ← w_vB hy k]
  split
  ·exact w_add (zB_lt hy k) (vB_lt hy k)
  ·rfl
theorem zB_mul {x y : Nat → Nat} (hx : ∀ i, i < 16 → x i < 256) (hy : ∀ i, i < 16 → y i < 256) : ∀ i, i < 16 → zB x y 128 i = mulF x y i :=
 w_inj (zB_lt hy 128) (fun i _ => mulF_lt x y i) (by rw [w_zB hx hy 128 (Nat.le_refl _), w_mul x hy]; rfl)
set_option maxRecDepth 100000
set_option maxHeartbeats 8000000
def RMG (w0 : World) (g4 : Nat) (x y : Nat → Nat) (k : Nat) (wr : World) : Prop := A16 wr w0.heap.size x ∧ A16 wr (w0.heap.size + 1 + 1) (fun _ => 0) ∧ A16 wr (w0.heap.size + 1 + 1 + 1) (zB x y k) ∧ A16 wr g4 (vB y k) ∧ Below w0.heap.size w0 wr
def mvF (v : Nat → Nat) (k : Nat) : Nat → Nat := fun i => if k < i then shF v i else v i
def RV (w0 : World) (g4 : Nat) (x : Nat → Nat) (z v : Nat → Nat) (j : Value) (wr : World) : Prop := ((∃ k : Nat, k < 16 ∧ j = .int .i64 (k : Int) ∧ A16 wr g4 (mvF v k)) ∨ (j = .int .i64 (-1) ∧ A16 wr g4 (shF v))) ∧ A16 wr w0.heap.size x ∧ A16 wr (w0.heap.size + 1 + 1) (fun _ => 0) ∧ A16 wr (w0.heap.size + 1 + 1 + 1) z ∧ Below w0.heap.size w0 wr
theorem rmul_any (x y : Nat → Nat) (w : World) (hx : ∀ i, i < 16 → x i < 256) (hy : ∀ i, i < 16 → y i < 256) :
  Calls Tryz.prog 100 #[.agg (rowC 16 x).toArray, .agg (rowC 16 y).toArray] w fun e w' => e = .returned (.agg (rowC 16 (mulF x y)).toArray) ∧ Below w.heap.size w w' := by
 have hz := zero16a_run
 obtain ⟨X, hX⟩ := zX ((rowC 16 x).toArray)
 obtain ⟨Y, hY⟩ := zX ((rowC 16 y).toArray)
 have HCY : Hid (∃ f, Y = (rowC 16 f).toArray) := zh ⟨_, hY.symm⟩
 have HC0 : Hid (∃ f, zero16 = (rowC 16 f).toArray) := zh ⟨_, rfl⟩
 obtain ⟨w0, hw0⟩ := zX ((((w.alloc (.cells X 72)).alloc (.cells Y 72)).alloc (.cells zero16 72)).alloc (.cells zero16 72))
 have s1 : (w.alloc (.cells X 72)).heap.size = w.heap.size + 1 := by simp
 have s2 : ((w.alloc (.cells X 72)).alloc (.cells Y 72)).heap.size = w.heap.size + 1 + 1 := by simp
 have s3 : (((w.alloc (.cells X 72)).alloc (.cells Y 72)).alloc (.cells zero16 72)).heap.size = w.heap.size + 1 + 1 + 1 := by simp
 have s4 : w0.heap.size = w.heap.size + 1 + 1 + 1 + 1 := by rw [← hw0]; simp
 obtain ⟨w1, hw1'⟩ := zX (w0.alloc (.cells zero16 72))
 obtain ⟨g4, hg4⟩ := zX w0.heap.size
 have p0 : Blk w0 w.heap.size X 72 := by rw [← hw0]; exact (((Blk.new w _ _).alloc _).alloc _).alloc _
 have p1 : Blk w0 (w.heap.size + 1) Y 72 := by rw [← hw0, ← s1]; exact ((Blk.new _ _ _).alloc _).alloc _
 have p2 : Blk w0 (w.heap.size + 1 + 1) zero16 72 := by rw [← hw0, ← s2]; exact (Blk.new _ _ _).alloc _
 have p3 : Blk w0 (w.heap.size + 1 + 1 + 1) zero16 72 := by rw [← hw0, ← s3]; exact Blk.new _ _ _
 have pO : Below w.heap.size w w0 := by rw [← hw0]; exact (((zA).alloc (by simp) _).alloc (by simp; omega) _).alloc (by simp; omega) _
 have q0 : Blk w1 w.heap.size X 72 := by rw [← hw1']; exact p0.alloc _
 have q1 : Blk w1 (w.heap.size + 1) Y 72 := by rw [← hw1']; exact p1.alloc _
 have q2 : Blk w1 (w.heap.size + 1 + 1) zero16 72 := by rw [← hw1']; exact p2.alloc _
 have q3 : Blk w1 (w.heap.size + 1 + 1 + 1) zero16 72 := by rw [← hw1']; exact p3.alloc _
 have q4 : Blk w1 g4 zero16 72 := by rw [← hw1', ← hg4]; exact Blk.new _ _ _
 have hg : w.heap.size + 1 + 1 + 1 < g4 := by rw [← hg4, s4]; omega
 have qO : Below w.heap.size w w1 := by rw [← hw1']; exact pO.alloc pO.size _
 obtain ⟨w2, hw2⟩ := zX (w1.setCells g4 0 Y.toList)
 have HT : Hid (RMG w g4 x y 0 w2) := zh (by
  rw [← hw2]
  have hO := Own.setCells (b := g4) Y.toList 0 w1
  refine ⟨?_, hO.blk q2 (by omega), hO.blk q3 (by omega), ?_, Below.set16 (g := g4) qO (by omega) qO.size _⟩
  ·have := hO.blk q0 (by omega); rw [← hX] at this; exact this
  ·have := Blk.store16a q4 HCY.out HC0.out; rw [← hY] at this ⊢; exact this)
 have P1 : Hid (Blk w0 (w.heap.size + 1) Y 72) := zh p1
 have Q4 := zh q4
 have HG4 := zh hg
 clear hg
 have HX0 := zh hx
 have HY0 := zh hy
 rw [hX, hY]
 clear hx hy hX hY s1 s2 s3 s4 p0 p1 p2 p3 pO q0 q1 q2 q3 q4 qO
 go_enter Tryz.func100, Tryz.ntmps100
 go_wp2_with (first
  | (refine wpList_load16a rfl (.tmp 3) rfl (w.heap.size + 1) rfl Y P1.out HCY.out ?_)
  | (refine wpList_store16a rfl (.tmp 6) (.tmp 10) rfl g4 rfl Y zero16 rfl Q4.out HCY.out HC0.out ?_))
 clear hw0 hw1' hg4 hz P1 Q4
 go_loopw [7] (fun i wr => ∃ k : Nat, k ≤ 128 ∧ i = .int .i64 (k : Int) ∧ RMG w g4 x y k wr) (fun i _ => 128 - (intOf i).toNat)
 case atStart => exact ⟨0, Nat.zero_le _, rfl, hw2 ▸ HT.out⟩
 case round =>
  clear hw2 HT
  obtain ⟨k, hk, rfl, hX, hR, hZ, hV, hO⟩ := hrel
  have hgg := HG4.out
  by_cases hlt : k < 128
  ·have k0 : (0 : Int) ≤ (k : Int) := by omega
   have k1 : (k : Int) < 128 := by omega
   have hzk : zB x y (k + 1) = if hB x k then addF (zB x y k) (vB y k) else zB x y k := rfl
   have hvk : vB y (k + 1) = nxF (vB y k) := rfl
   have hxk := HX0.out (k / 8) (by omega)
   have hvl : ∀ i, i < 16 → vB y k i < 256 := vB_lt HY0.out k
   have hzl : ∀ i, i < 16 → zB x y k i < 256 := zB_lt HY0.out k
   have cx : wr.cell? ⟨w.heap.size, k / 8, none⟩ = some (.int .u8 (x (k / 8) : Nat)) := hX.cell (by omega)
   have hbk : hB x k = decide (128 ≤ x (k / 8) * 2 ^ (k % 8) % 256) := rfl
   generalize vB y k = v at *
   generalize zB x y k = z at *
   generalize x (k / 8) = p at *
   have HZL := zh hzl
   have HVL := zh hvl
   have HZK := zh hzk
   have HVK := zh hvk
   have c15 : wr.cell? ⟨g4, 15, none⟩ = some (.int .u8 (v 15 : Nat)) := hV.cell (by omega)
   have h15 := hvl 15 (by omega)
   obtain ⟨b15, e15⟩ := zX (((v 15 : Int) % 2 == 1))
   have H15 : Hid ((v 15 % 2 = 1) ↔ b15 = true) := zh (by rw [← e15, beq_iff_eq]; omega)
   clear hzl hvl hzk hvk
   by_cases hb : hB x k = true
   ·have h128 : (128 : Int) ≤ (p : Int) * 2 ^ (k % 8) % 256 := by
     rw [hbk] at hb
     have h1 := of_decide_eq_true hb
     have e : (((p * 2 ^ (k % 8) % 256 : Nat)) : Int) = (p : Int) * 2 ^ (k % 8) % 256 := by push_cast; rfl
     rw [← e]; omega
    obtain ⟨Z, hZe⟩ := zX ((rowC 16 z).toArray)
    obtain ⟨V, hVe⟩ := zX ((rowC 16 v).toArray)
    obtain ⟨S, hSe⟩ := zX ((rowC 16 (addF z v)).toArray)
    have HADD : Hid (∀ w, Calls Tryz.prog 70 #[.agg Z, .agg V] w fun e w' => e = .returned (.agg S) ∧ Below w.heap.size w w') := zh fun w => by
     rw [← hZe, ← hVe, ← hSe]; exact radd_any z v w HZL.out HVL.out
    have HCZ : Hid (∃ f, Z = (rowC 16 f).toArray) := zh ⟨_, hZe.symm⟩
    have HCV : Hid (∃ f, V = (rowC 16 f).toArray) := zh ⟨_, hVe.symm⟩
    have HCS : Hid (∃ f, S = (rowC 16 f).toArray) := zh ⟨_, hSe.symm⟩
    have HZB : Hid (Blk wr (w.heap.size + 1 + 1 + 1) Z 72) := zh (hZe ▸ hZ)
    have HVB : Hid (Blk wr g4 V 72) := zh (hVe ▸ hV)
    have HSe := zh hSe
    have HXw := zh hX
    have HRw := zh hR
    have HVw := zh hV
    have HOw := zh hO
    have HB := zh (HZK.out.trans (if_pos hb))
    clear hX hR hZ hV hO hb hbk hZe hVe hSe HZK c15
    go_wp2_with (first
     | (refine wpList_load16a rfl (.tmp 5) rfl (w.heap.size + 1 + 1 + 1) rfl Z HZB.out HCZ.out ?_)
     | (refine wpList_load16a rfl (.tmp 6) rfl g4 rfl V HVB.out HCV.out ?_))
    refine (HADD.out _).mono ?_
    rintro e w4 ⟨rfl, hbw⟩
    obtain ⟨w5, hw5⟩ := zX (w4.setCells (w.heap.size + 1 + 1 + 1) 0 S.toList)
    have hZ4 : Blk w4 (w.heap.size + 1 + 1 + 1) Z 72 := Blk.below HZB.out hbw (Blk.lt HZB.out)
    have HZ4 := zh hZ4
    have hX : A16 w5 w.heap.size x := by rw [← hw5]; exact (Own.setCells _ _ _).blk (Blk.below HXw.out hbw (Blk.lt HXw.out)) (by omega)
    have hR : A16 w5 (w.heap.size + 1 + 1) (fun _ => 0) := by rw [← hw5]; exact (Own.setCells _ _ _).blk (Blk.below HRw.out hbw (Blk.lt HRw.out)) (by omega)
    have hV : A16 w5 g4 v := by rw [← hw5]; exact (Own.setCells _ _ _).blk (Blk.below HVw.out hbw (Blk.lt HVw.out)) (by omega)
    have hO : Below w.heap.size w w5 := by
     have h4 := HOw.out.trans (hbw.mono HOw.out.size)
     rw [← hw5]; exact Below.set16 (g := w.heap.size + 1 + 1 + 1) h4 (by omega) h4.size _
    have hZ : A16 w5 (w.heap.size + 1 + 1 + 1) (addF z v) := by
     have := Blk.store16a hZ4 HCS.out HCZ.out
     rw [hw5, ← HSe.out] at this; exact this
    have c15 : w5.cell? ⟨g4, 15, none⟩ = some (.int .u8 (v 15 : Nat)) := hV.cell (by omega)
    have HX5 := zh hX
    have HR5 := zh hR
    have HZ5 := zh hZ
    have HV5 := zh hV
    have HO5 := zh hO
    generalize addF z v = z5 at *
    clear hX hR hZ hV hO hbw hZ4 HZB HVB HXw HRw HVw HOw HADD HZL
    go_wp2_with (first
     | (refine wpList_store16a rfl (.tmp 5) (.tmp 26) rfl (w.heap.size + 1 + 1 + 1) rfl S Z rfl HZ4.out HCS.out HCZ.out ?_))
    clear HZ4 hw5
    clear c15 cx
    go_loopw [9] (fun j wi => RV w g4 x z5 v j wi) (fun j _ => (intOf j + 1).toNat)
    case atStart => exact ⟨Or.inl ⟨15, by omega, rfl, HV5.out.congr fun i hi => (if_neg (show ¬ 15 < i by omega)).symm⟩, HX5.out, HR5.out, HZ5.out, HO5.out⟩
    case round =>
     obtain ⟨hj, hX, hR, hZ, hO⟩ := hrel
     rcases hj with ⟨j, hj, rfl, hV⟩ | ⟨rfl, hV⟩
     ·rcases Nat.eq_zero_or_pos j with rfl | hjp
      ·have hp0 := HVL.out 0 (by omega)
       have cv : wr.cell? ⟨g4, 0, none⟩ = some (.int .u8 (v 0 : Nat)) := hV.cell (by omega)
       have fv : wr.frozen? ⟨g4, 0, none⟩ = false := Blk.free hV 0
       have HN := zh (show RV w g4 x z5 v (.int .i64 (-1)) (wr.setCell ⟨g4, 0, none⟩ (.int .u8 ((v 0 : Int) / 2))) by
        refine ⟨Or.inr ⟨rfl, ?_⟩, Blk.set_other hX (by simp; omega) _, Blk.set_other hR (by simp; omega) _, Blk.set_other hZ (by simp; omega) _, hO.setCell (by simp; omega) _⟩
        have := hV.set 0 (v 0 / 2)
        rw [show ((v 0 / 2 : Nat) : Int) = (v 0 : Int) / 2 by omega] at this
        refine this.congr fun i hi => ?_
        unfold upd mvF
        by_cases e : i = 0
        ·subst e; rw [if_pos rfl]; show v 0 / 2 = v 0 / 2 + 0; rfl
        ·rw [if_neg e, if_pos (by omega)])
       clear hX hR hZ hO hV
       generalize v 0 = q0 at *
       go_wp2_with fail
       go_roundw
       case rel => exact HN.out
       case measure => simp [intOf]
      ·have hpj := HVL.out j hj
       have hpm := HVL.out (j - 1) (by omega)
       have cv : wr.cell? ⟨g4, j, none⟩ = some (.int .u8 (v j : Nat)) := by
        have := hV.cell hj; unfold mvF at this; rw [if_neg (by omega)] at this; exact this
       have cm : wr.cell? ⟨g4, j - 1, none⟩ = some (.int .u8 (v (j - 1) : Nat)) := by
        have := hV.cell (show j - 1 < 16 by omega); unfold mvF at this; rw [if_neg (by omega)] at this; exact this
       have fv : wr.frozen? ⟨g4, j, none⟩ = false := Blk.free hV j
       have j0 : (0 : Int) < (j : Int) := by omega
       have j1 : (j : Int) < 16 := by omega
       have key : ∀ (ww : World) (F : Nat → Nat) (r : Nat), r = shF v j → A16 ww g4 F → (∀ i, i < 16 → i ≠ j → F i = mvF v j i) → A16 ww w.heap.size x → A16 ww (w.heap.size + 1 + 1) (fun _ => 0) → A16 ww (w.heap.size + 1 + 1 + 1) z5 → Below w.heap.size w ww →
         RV w g4 x z5 v (.int .i64 ((j : Int) - 1)) (ww.setCell ⟨g4, j, none⟩ (.int .u8 (r : Int))) := by
        intro ww F r hr hV hF hX hR hZ hO
        refine ⟨Or.inl ⟨j - 1, by omega, by rw [show ((j - 1 : Nat) : Int) = (j : Int) - 1 by omega], ?_⟩, Blk.set_other hX (by simp; omega) _, Blk.set_other hR (by simp; omega) _, Blk.set_other hZ (by simp; omega) _, hO.setCell (by simp; omega) _⟩
        refine (hV.set j r).congr fun i hi => ?_
        unfold upd
        by_cases e : i = j
        ·subst e; rw [if_pos rfl]; unfold mvF; rw [if_pos (by omega)]; exact hr
        ·rw [if_neg e, hF i hi e]; unfold mvF
         by_cases h5 : j < i
         ·rw [if_pos h5, if_pos (by omega)]
         ·rw [if_neg h5, if_neg (by omega)]
       have hsj : shF v j = v j / 2 + v (j - 1) % 2 * 128 := by unfold shF; rw [if_pos hjp]
       by_cases hq : v (j - 1) % 2 = 1
       ·have eq1 : ((v (j - 1) : Int) % 2 == 1) = true := by rw [beq_iff_eq]; omega
        have HN := zh (key (wr.setCell ⟨g4, j, none⟩ (.int .u8 ((v j / 2 : Nat) : Int))) (upd (mvF v j) j (v j / 2)) (v j / 2 + 128) (by rw [hsj, hq]) (hV.set j _) (fun i _ h => if_neg h) (Blk.set_other hX (by simp; omega) _) (Blk.set_other hR (by simp; omega) _) (Blk.set_other hZ (by simp; omega) _) (hO.setCell (by simp; omega) _))
        rw [show ((v j / 2 + 128 : Nat) : Int) = (v j : Int) / 2 + 128 by omega, show ((v j / 2 : Nat) : Int) = (v j : Int) / 2 by omega] at HN
        clear hX hR hZ hO hV key hsj hq
        generalize v (j - 1) = qm at *
        generalize v j = qj at *
        go_wp2_with fail
        go_roundw
        case rel => exact HN.out
        case measure => first | (simp [intOf]; done) | (simp [intOf]; omega)
       ·have eq1 : ((v (j - 1) : Int) % 2 == 1) = false := by rw [beq_eq_false_iff_ne]; omega
        have HN := zh (key wr (mvF v j) (v j / 2) (by rw [hsj, show v (j - 1) % 2 = 0 by omega, Nat.zero_mul, Nat.add_zero]) hV (fun i _ _ => rfl) hX hR hZ hO)
        rw [show ((v j / 2 : Nat) : Int) = (v j : Int) / 2 by omega] at HN
        clear hX hR hZ hO hV key hsj hq
        generalize v (j - 1) = qm at *
        generalize v j = qj at *
        go_wp2_with fail
        go_roundw
        case rel => exact HN.out
        case measure => first | (simp [intOf]; done) | (simp [intOf]; omega)
     ·have hs0 := shF_lt HVL.out 0 (by omega)
      have cv : wr.cell? ⟨g4, 0, none⟩ = some (.int .u8 (shF v 0 : Nat)) := hV.cell (by omega)
      have fv : wr.frozen? ⟨g4, 0, none⟩ = false := Blk.free hV 0
      have ex : bits .xor .u8 ((shF v 0 : Nat) : Int) 225 = ((shF v 0 ^^^ 225 : Nat) : Int) := u8_xor_nat _ 225 hs0 (by decide)
      cases b15
      ·have HN := zh (show RMG w g4 x y (k + 1) wr by
        refine ⟨hX, hR, ?_, ?_, hO⟩
        ·rw [HB.out]; exact hZ
        ·rw [HVK.out]; exact hV.congr fun i hi => (if_neg (fun h => absurd (H15.out.1 h.2) (by decide))).symm)
       clear hX hR hZ hO hV hs0
       go_wp2_with fail
       go_roundw
       case rel => exact ⟨k + 1, by omega, by go_num, HN.out⟩
       case measure => simp [intOf]; omega
      ·have HN := zh (show RMG w g4 x y (k + 1) (wr.setCell ⟨g4, 0, none⟩ (.int .u8 ((shF v 0 ^^^ 225 : Nat) : Int))) by
        refine ⟨Blk.set_other hX (by simp; omega) _, Blk.set_other hR (by simp; omega) _, ?_, ?_, hO.setCell (by simp; omega) _⟩
        ·rw [HB.out]; exact Blk.set_other hZ (by simp; omega) _
        ·rw [HVK.out]
         refine (hV.set 0 (shF v 0 ^^^ 225)).congr fun i hi => ?_
         unfold upd nxF
         by_cases e : i = 0
         ·rw [if_pos e, if_pos ⟨e, H15.out.2 rfl⟩]
         ·rw [if_neg e, if_neg (fun h => e h.1)])
       clear hX hR hZ hO hV
       generalize shF v 0 ^^^ 225 = r2 at *
       generalize shF v 0 = r1 at *
       go_wp2_with fail
       go_roundw
       case rel => exact ⟨k + 1, by omega, by go_num, HN.out⟩
       case measure => simp [intOf]; omega
   ·have h128 : ¬ (128 : Int) ≤ (p : Int) * 2 ^ (k % 8) % 256 := by
     rw [hbk] at hb
     have h1 : ¬ 128 ≤ p * 2 ^ (k % 8) % 256 := fun h => hb (decide_eq_true h)
     have e : (((p * 2 ^ (k % 8) % 256 : Nat)) : Int) = (p : Int) * 2 ^ (k % 8) % 256 := by push_cast; rfl
     rw [← e]; omega
    have HB := zh (HZK.out.trans (if_neg hb))
    obtain ⟨z5, hz5⟩ := zX z
    rw [hz5] at HB hZ
    obtain ⟨w5, hw5⟩ := zX wr
    rw [hw5] at hX hR hZ hV hO c15 cx ⊢
    have HX5 := zh hX
    have HR5 := zh hR
    have HZ5 := zh hZ
    have HV5 := zh hV
    have HO5 := zh hO
    clear hX hR hZ hV hO hb hbk hz5 hw5 HZK HZL
    go_wp2_with fail
    clear c15 cx
    go_loopw [9] (fun j wi => RV w g4 x z5 v j wi) (fun j _ => (intOf j + 1).toNat)
    case atStart => exact ⟨Or.inl ⟨15, by omega, rfl, HV5.out.congr fun i hi => (if_neg (show ¬ 15 < i by omega)).symm⟩, HX5.out, HR5.out, HZ5.out, HO5.out⟩
    case round =>
     obtain ⟨hj, hX, hR, hZ, hO⟩ := hrel
     rcases hj with ⟨j, hj, rfl, hV⟩ | ⟨rfl, hV⟩
     ·rcases Nat.eq_zero_or_pos j with rfl | hjp
      ·have hp0 := HVL.out 0 (by omega)
       have cv : wr.cell? ⟨g4, 0, none⟩ = some (.int .u8 (v 0 : Nat)) := hV.cell (by omega)
       have fv : wr.frozen? ⟨g4, 0, none⟩ = false := Blk.free hV 0
       have HN := zh (show RV w g4 x z5 v (.int .i64 (-1)) (wr.setCell ⟨g4, 0, none⟩ (.int .u8 ((v 0 : Int) / 2))) by
        refine ⟨Or.inr ⟨rfl, ?_⟩, Blk.set_other hX (by simp; omega) _, Blk.set_other hR (by simp; omega) _, Blk.set_other hZ (by simp; omega) _, hO.setCell (by simp; omega) _⟩
        have := hV.set 0 (v 0 / 2)
        rw [show ((v 0 / 2 : Nat) : Int) = (v 0 : Int) / 2 by omega] at this
        refine this.congr fun i hi => ?_
        unfold upd mvF
        by_cases e : i = 0
        ·subst e; rw [if_pos rfl]; show v 0 / 2 = v 0 / 2 + 0; rfl
        ·rw [if_neg e, if_pos (by omega)])
       clear hX hR hZ hO hV
       generalize v 0 = q0 at *
       go_wp2_with fail
       go_roundw
       case rel => exact HN.out
       case measure => simp [intOf]
      ·have hpj := HVL.out j hj
       have hpm := HVL.out (j - 1) (by omega)
       have cv : wr.cell? ⟨g4, j, none⟩ = some (.int .u8 (v j : Nat)) := by
        have := hV.cell hj; unfold mvF at this; rw [if_neg (by omega)] at this; exact this
       have cm : wr.cell? ⟨g4, j - 1, none⟩ = some (.int .u8 (v (j - 1) : Nat)) := by
        have := hV.cell (show j - 1 < 16 by omega); unfold mvF at this; rw [if_neg (by omega)] at this; exact this
       have fv : wr.frozen? ⟨g4, j, none⟩ = false := Blk.free hV j
       have j0 : (0 : Int) < (j : Int) := by omega
       have j1 : (j : Int) < 16 := by omega
       have key : ∀ (ww : World) (F : Nat → Nat) (r : Nat), r = shF v j → A16 ww g4 F → (∀ i, i < 16 → i ≠ j → F i = mvF v j i) → A16 ww w.heap.size x → A16 ww (w.heap.size + 1 + 1) (fun _ => 0) → A16 ww (w.heap.size + 1 + 1 + 1) z5 → Below w.heap.size w ww →
         RV w g4 x z5 v (.int .i64 ((j : Int) - 1)) (ww.setCell ⟨g4, j, none⟩ (.int .u8 (r : Int))) := by
        intro ww F r hr hV hF hX hR hZ hO
        refine ⟨Or.inl ⟨j - 1, by omega, by rw [show ((j - 1 : Nat) : Int) = (j : Int) - 1 by omega], ?_⟩, Blk.set_other hX (by simp; omega) _, Blk.set_other hR (by simp; omega) _, Blk.set_other hZ (by simp; omega) _, hO.setCell (by simp; omega) _⟩
        refine (hV.set j r).congr fun i hi => ?_
        unfold upd
        by_cases e : i = j
        ·subst e; rw [if_pos rfl]; unfold mvF; rw [if_pos (by omega)]; exact hr
        ·rw [if_neg e, hF i hi e]; unfold mvF
         by_cases h5 : j < i
         ·rw [if_pos h5, if_pos (by omega)]
         ·rw [if_neg h5, if_neg (by omega)]
       have hsj : shF v j = v j / 2 + v (j - 1) % 2 * 128 := by unfold shF; rw [if_pos hjp]
       by_cases hq : v (j - 1) % 2 = 1
       ·have eq1 : ((v (j - 1) : Int) % 2 == 1) = true := by rw [beq_iff_eq]; omega
        have HN := zh (key (wr.setCell ⟨g4, j, none⟩ (.int .u8 ((v j / 2 : Nat) : Int))) (upd (mvF v j) j (v j / 2)) (v j / 2 + 128) (by rw [hsj, hq]) (hV.set j _) (fun i _ h => if_neg h) (Blk.set_other hX (by simp; omega) _) (Blk.set_other hR (by simp; omega) _) (Blk.set_other hZ (by simp; omega) _) (hO.setCell (by simp; omega) _))
        rw [show ((v j / 2 + 128 : Nat) : Int) = (v j : Int) / 2 + 128 by omega, show ((v j / 2 : Nat) : Int) = (v j : Int) / 2 by omega] at HN
        clear hX hR hZ hO hV key hsj hq
        generalize v (j - 1) = qm at *
        generalize v j = qj at *
        go_wp2_with fail
        go_roundw
        case rel => exact HN.out
        case measure => first | (simp [intOf]; done) | (simp [intOf]; omega)
       ·have eq1 : ((v (j - 1) : Int) % 2 == 1) = false := by rw [beq_eq_false_iff_ne]; omega
        have HN := zh (key wr (mvF v j) (v j / 2) (by rw [hsj, show v (j - 1) % 2 = 0 by omega, Nat.zero_mul, Nat.add_zero]) hV (fun i _ _ => rfl) hX hR hZ hO)
        rw [show ((v j / 2 : Nat) : Int) = (v j : Int) / 2 by omega] at HN
        clear hX hR hZ hO hV key hsj hq
        generalize v (j - 1) = qm at *
        generalize v j = qj at *
        go_wp2_with fail
        go_roundw
        case rel => exact HN.out
        case measure => first | (simp [intOf]; done) | (simp [intOf]; omega)
     ·have hs0 := shF_lt HVL.out 0 (by omega)
      have cv : wr.cell? ⟨g4, 0, none⟩ = some (.int .u8 (shF v 0 : Nat)) := hV.cell (by omega)
      have fv : wr.frozen? ⟨g4, 0, none⟩ = false := Blk.free hV 0
      have ex : bits .xor .u8 ((shF v 0 : Nat) : Int) 225 = ((shF v 0 ^^^ 225 : Nat) : Int) := u8_xor_nat _ 225 hs0 (by decide)
      cases b15
      ·have HN := zh (show RMG w g4 x y (k + 1) wr by
        refine ⟨hX, hR, ?_, ?_, hO⟩
        ·rw [HB.out]; exact hZ
        ·rw [HVK.out]; exact hV.congr fun i hi => (if_neg (fun h => absurd (H15.out.1 h.2) (by decide))).symm)
       clear hX hR hZ hO hV hs0
       go_wp2_with fail
       go_roundw
       case rel => exact ⟨k + 1, by omega, by go_num, HN.out⟩
       case measure => simp [intOf]; omega
      ·have HN := zh (show RMG w g4 x y (k + 1) (wr.setCell ⟨g4, 0, none⟩ (.int .u8 ((shF v 0 ^^^ 225 : Nat) : Int))) by
        refine ⟨Blk.set_other hX (by simp; omega) _, Blk.set_other hR (by simp; omega) _, ?_, ?_, hO.setCell (by simp; omega) _⟩
        ·rw [HB.out]; exact Blk.set_other hZ (by simp; omega) _
        ·rw [HVK.out]
         refine (hV.set 0 (shF v 0 ^^^ 225)).congr fun i hi => ?_
         unfold upd nxF
         by_cases e : i = 0
         ·rw [if_pos e, if_pos ⟨e, H15.out.2 rfl⟩]
         ·rw [if_neg e, if_neg (fun h => e h.1)])
       clear hX hR hZ hO hV
       generalize shF v 0 ^^^ 225 = r2 at *
       generalize shF v 0 = r1 at *
       go_wp2_with fail
       go_roundw
       case rel => exact ⟨k + 1, by omega, by go_num, HN.out⟩
       case measure => simp [intOf]; omega
  ·obtain rfl : k = 128 := by omega
   obtain ⟨M, hM⟩ := zX ((rowC 16 (mulF x y)).toArray)
   have HCM : Hid (∃ f, M = (rowC 16 f).toArray) := zh ⟨_, hM.symm⟩
   have HCZ : Hid (∃ f, zero16 = (rowC 16 f).toArray) := zh ⟨_, rfl⟩
   have HZ5 : Hid (Blk wr (w.heap.size + 1 + 1 + 1) M 72) := zh (by
    have := hZ.congr (zB_mul HX0.out HY0.out)
    unfold A16 at this; rw [hM] at this; exact this)
   have HR5 : Hid (Blk wr (w.heap.size + 1 + 1) zero16 72) := zh hR
   have HN : Hid (Blk (wr.setCells (w.heap.size + 1 + 1) 0 M.toList) (w.heap.size + 1 + 1) M 72) := zh (Blk.store16a HR5.out HCM.out HCZ.out)
   have HO5 : Hid (Below w.heap.size w (wr.setCells (w.heap.size + 1 + 1) 0 M.toList)) := zh (Below.set16 (g := w.heap.size + 1 + 1) hO (by omega) hO.size _)
   have HM := zh hM
   clear hX hR hZ hV hO hM hlt hk
   go_wp2_with (first
    | (refine wpList_load16a rfl (.tmp 5) rfl (w.heap.size + 1 + 1 + 1) rfl M HZ5.out HCM.out ?_)
    | (refine wpList_store16a rfl (.tmp 4) (.tmp 62) rfl (w.heap.size + 1 + 1) rfl M zero16 rfl HR5.out HCM.out HCZ.out ?_))
   refine bodyPost_ret (v := .agg M) ?_ rfl ⟨by rw [HM.out], HO5.out⟩
   exact res16a Tryz.results100 _ _ (w.heap.size + 1 + 1) M rfl HN.out HCM.out
def TJ (w0 : World) (h f s : Nat → Nat) (n k : Nat) (wr : World) : Prop := A16 wr w0.heap.size (thrF h f n s k) ∧ A16 wr (w0.heap.size + 1) h ∧ A16 wr (w0.heap.size + 1 + 1) (fun _ => 0) ∧ Below w0.heap.size w0 wr
def TF (w0 : World) (h f s : Nat → Nat) (n k g i : Nat) (wr : World) : Prop := A16 wr g (fun j => if j < i then chF f n k j else 0) ∧ TJ w0 h f s n k wr
theorem take_any (s y f : Nat → Nat) (oa : Option Addr) (n cap : Nat) (w : World) (hs : ∀ i, i < 16 → s i < 256) (hh : ∀ i, i < 16 → y i < 256) (hb : Bytes w oa n f) (hn : n < 1000000) :
  Calls Tryz.prog 86 #[.agg (rowC 16 s).toArray, .agg (rowC 16 y).toArray, .slice oa n cap] w fun e w' => e = .returned (.agg (rowC 16 (thrF y f n s ((n + 15) / 16))).toArray) ∧ Below w.heap.size w w' := by
 have hz := zero16a_run
 obtain ⟨C, hC⟩ := zX ((rowC 16 s).toArray)
 obtain ⟨D, hD⟩ := zX ((rowC 16 y).toArray)
 have hf : ∀ i, i < n → f i < 256 := fun i hi => (hb i hi).1
 have HT := zh (show TJ w y f s n 0 (((w.alloc (.cells C 72)).alloc (.cells D 72)).alloc (.cells zero16 72)) by
  rw [← hC, ← hD]
  refine ⟨((Blk.new w _ 72).alloc _).alloc _, ?_, ?_, ((zA).alloc (by simp) _).alloc (by simp; omega) _⟩
  ·have := (Blk.new (w.alloc (.cells (rowC 16 s).toArray 72)) (rowC 16 y).toArray 72).alloc (.cells zero16 72)
   unfold A16; simpa using this
  ·have := Blk.new ((w.alloc (.cells (rowC 16 s).toArray 72)).alloc (.cells (rowC 16 y).toArray 72)) zero16 72
   show Blk _ _ zero16 _; simpa using this)
 have HD3 := zh hD
 have HS := zh hs
 have HH := zh hh
 have HF := zh hf
 have HBy := zh hb
 rw [hC, hD]
 clear hs hh hb hf hC hD
 go_enter Tryz.func86, Tryz.ntmps86
 go_wp2_with fail
 go_loopw [7] (fun v wr => ∃ k a : Nat, k ≤ (n + 15) / 16 ∧ a = 16 * k ∧ v = .int .i64 (a : Int) ∧ TJ w y f s n k wr) (fun v _ => n + 16 - (intOf v).toNat)
 case atStart => exact ⟨0, 0, Nat.zero_le _, rfl, rfl, HT.out⟩
 case round =>
  clear HT
  obtain ⟨k, a, hk, ha, rfl, hJ⟩ := hrel
  have HA := zh ha
  have HK := zh hk
  clear ha hk
  by_cases hlt : a < n
  ·have hl : (a : Int) < (n : Int) := by omega
   have a0 : (0 : Int) ≤ (a : Int) := by omega
   have n9 : (n : Int) < 1000000 := by omega
   obtain ⟨_, b, off, rfl, _⟩ := HBy.out a hlt
   obtain ⟨g, hg⟩ := zX wr.heap.size
   obtain ⟨wa, hwa⟩ := zX (wr.alloc (.cells zero16 72))
   have hba : Below wr.heap.size wr wa := by rw [← hwa]; exact zA
   have HT : Hid (TF w y f s n k g 0 wa) := zh (by
    obtain ⟨h1, h2, h3, h4⟩ := hJ
    refine ⟨?_, Blk.below h1 hba (Blk.lt h1), Blk.below h2 hba (Blk.lt h2), Blk.below h3 hba (Blk.lt h3), h4.trans (hba.mono h4.size)⟩
    have : A16 wa g (fun _ => 0) := by rw [← hwa, ← hg]; exact Blk.new wr zero16 72
    exact this.congr fun i _ => (if_neg (Nat.not_lt_zero i)).symm)
   have HG : Hid (w.heap.size + 1 + 1 < g) := zh (by rw [← hg]; exact Blk.lt hJ.2.2.1)
   clear hJ hba
   go_wp2_with fail
   clear hz hwa hg
   go_loopw [9] (fun v wi => ∃ i : Nat, i ≤ 16 ∧ a + i ≤ n ∧ v = .int .i64 (i : Int) ∧ TF w y f s n k g i wi) (fun v _ => 16 - (intOf v).toNat)
   case atStart => exact ⟨0, Nat.zero_le _, by omega, rfl, HT.out⟩
   case round =>
    clear HT
    obtain ⟨i, hi, hai, rfl, hE, hJ⟩ := hrel
    by_cases hc : i < 16 ∧ a + i < n
    ·obtain ⟨hi2, hai2⟩ := hc
     have i0 : (0 : Int) ≤ (i : Int) := by omega
     have i1 : (i : Int) < 16 := by omega
     have i2 : (a : Int) + (i : Int) < (n : Int) := by omega
     obtain ⟨hfa, b', off', eb, hcell⟩ := HBy.out (a + i) hai2
     cases eb
     have hO := hJ.2.2.2
     have cb : wr.cell? ⟨b, off + (a + i), none⟩ = some (.int .u8 (f (a + i) : Nat)) := cell_below hO hcell
     have cx : wr.cell? ⟨g, i, none⟩ = some (.int .u8 0) := by
      have := hE.cell hi2; rw [if_neg (Nat.lt_irrefl _)] at this; exact this
     have fx : wr.frozen? ⟨g, i, none⟩ = false := Blk.free hE i
     have hgg := HG.out
     have HN := zh (show TF w y f s n k g (i + 1) (wr.setCell ⟨g, i, none⟩ (.int .u8 (f (a + i) : Nat))) by
      obtain ⟨h1, h2, h3, h4⟩ := hJ
      refine ⟨(hE.set i (f (a + i))).congr fun j hj => ?_, Blk.set_other h1 (by simp; omega) _, Blk.set_other h2 (by simp; omega) _, Blk.set_other h3 (by simp; omega) _, h4.setCell (by simp; omega) _⟩
      unfold upd
      by_cases e : j = i
      ·subst e; rw [if_pos rfl, if_pos (by omega)]; show f (a + j) = if 16 * k + j < n then f (16 * k + j) else 0
       rw [← HA.out, if_pos hai2]
      ·rw [if_neg e]
       show (if j < i then chF f n k j else 0) = if j < i + 1 then chF f n k j else 0
       by_cases h5 : j < i
       ·rw [if_pos h5, if_pos (by omega)]
       ·rw [if_neg h5, if_neg (by omega)])
     clear hE hJ hO hcell hgg
     generalize f (a + i) = r at *
     go_wp2_with fail
     go_roundw
     case rel => exact ⟨i + 1, by omega, by omega, by go_num, HN.out⟩
     case measure => simp [intOf]; omega
    ·have hE2 : A16 wr g (chF f n k) := hE.congr fun j hj => by
      by_cases h5 : j < i
      ·rw [if_pos h5]
      ·rw [if_neg h5]; show 0 = if 16 * k + j < n then f (16 * k + j) else 0
       rw [if_neg (by rw [← HA.out]; omega)]
     obtain ⟨h1, h2, h3, h4⟩ := hJ
     obtain ⟨F3, hF3⟩ := zX ((rowC 16 (thrF y f n s k)).toArray)
     obtain ⟨E, hE3⟩ := zX ((rowC 16 (chF f n k)).toArray)
     obtain ⟨A3, hA3⟩ := zX ((rowC 16 (addF (thrF y f n s k) (chF f n k))).toArray)
     obtain ⟨M, hM3⟩ := zX ((rowC 16 (thrF y f n s (k + 1))).toArray)
     have htl : ∀ i, i < 16 → thrF y f n s k i < 256 := fun i hi => thrF_lt HS.out k i hi
     have hcl2 : ∀ i, i < 16 → chF f n k i < 256 := fun i _ => chF_lt HF.out i
     have HADD : Hid (∀ w, Calls Tryz.prog 70 #[.agg F3, .agg E] w fun e w' => e = .returned (.agg A3) ∧ Below w.heap.size w w') := zh fun w => by
      rw [← hF3, ← hE3, ← hA3]; exact radd_any _ _ w htl hcl2
     have HMUL : Hid (∀ w, Calls Tryz.prog 100 #[.agg A3, .agg D] w fun e w' => e = .returned (.agg M) ∧ Below w.heap.size w w') := zh fun w => by
      rw [← HD3.out, ← hA3, ← hM3]; exact rmul_any _ _ w (addF_lt htl hcl2) HH.out
     have HIF : Hid ((Tryz.prog.info? 72).map (·.size) = some F3.size) := zh (hF3 ▸ info16a _)
     have HIE : Hid ((Tryz.prog.info? 72).map (·.size) = some E.size) := zh (hE3 ▸ info16a _)
     have HID : Hid ((Tryz.prog.info? 72).map (·.size) = some D.size) := zh (HD3.out ▸ info16a _)
     have HM5 : Hid (∃ f, M = (rowC 16 f).toArray) := zh ⟨_, hM3.symm⟩
     have HF5 : Hid (∃ f, F3 = (rowC 16 f).toArray) := zh ⟨_, hF3.symm⟩
     have hgg := HG.out
     have HNE : Hid (∀ p ∈ [(g, E), (w.heap.size + 1, D)], p.1 ≠ w.heap.size) := zh (by
      intro p hp
      rcases List.mem_cons.1 hp with rfl | hp
      ·show g ≠ _; omega
      ·rcases List.mem_cons.1 hp with rfl | hp
       ·exact Nat.succ_ne_self _
       ·cases hp)
     have HNZ : Hid (w.heap.size + 1 + 1 ≠ w.heap.size) := zh (by omega)
     have HM6 : Hid (M = (rowC 16 (thrF y f n s (k + 1))).toArray) := zh hM3.symm
     have HD6 : Hid (D = (rowC 16 y).toArray) := zh HD3.out.symm
     have HK1 : Hid (k + 1 ≤ (n + 15) / 16) := zh (by have := HA.out; omega)
     have HA1 : Hid (a + 16 = 16 * (k + 1)) := zh (by have := HA.out; omega)
     have g1 : Blk wr w.heap.size F3 72 := hF3 ▸ h1
     have g2 : Blk wr (w.heap.size + 1) D 72 := HD3.out ▸ h2
     have g3 : Blk wr g E 72 := hE3 ▸ hE2
     have HS9 := zh (SA.cons g3 (SA.cons g2 (SA.nil _)))
     have HX9 := zh g1
     have HZ9 := zh h3
     have HO9 := zh h4
     have hci : ¬ i < 16 ∨ (i < 16 ∧ ¬ a + i < n) := by omega
     clear hE hE2 h1 h2 h3 h4 hF3 hE3 hA3 hM3 htl hcl2 g1 g2 g3 hc hgg
     rcases hci with hc | ⟨hc1, hc⟩
     ·have hc' : ¬ (i : Int) < 16 := by omega
      go_wp2_with fail
      have hS_0 := HS9.out.drew
      have hX_0 := Blk.drew HX9.out
      have hZ_0 := Blk.drew HZ9.out
      have hO_0 := HO9.out.drew
      clear HS9 HX9 HZ9 HO9
      refine wp_region_held_drew (S := (SA [(g, E), (w.heap.size + 1, D)])) (by kernel_rfl) ?_ (fun hHeld => ?_)
      ·(try dsimp only)
       first | assumption | (apply SA.drew; assumption)
      generalize wr.drew = w5 at *
      refine wT 1 ?_ rfl ?_ ?_
      rotate_left
      ·intro wS hSw
       refine exec_load16a (x := .tmp 8) ?_ ?_ (ld16a hSw.h0 HIE.out) <;> rfl
      (try simp only [Act.put, zS])
      refine wT 3 ?_ rfl ?_ ?_
      rotate_left
      ·intro wS hSw
       refine exec_load16a (x := .tmp 4) ?_ ?_ (ld16a hSw.tl.h0 HID.out) <;> rfl
      (try simp only [Act.put, zS])
      refine wR [0] ?_
      refine aN rfl fun K hK => ?_
      refine step_load16a rfl (.tmp 3) rfl w.heap.size rfl F3 hX_0 HIF.out ?_
      refine hK.out _ _ ?_ fun hHeld => ?_
      ·(try dsimp only)
       first | assumption | (apply SA.drew; assumption)
      clear hK K
      (try simp only [Act.put, zS])
      refine wR [2] ?_
      refine aN rfl fun K hK => ?_
      go_simp
      (refine (HADD.out _).mono ?_; rintro e v_1 ⟨rfl, hb_1⟩; have hS_1 := SA.later hS_0 hb_1; have hX_1 := Blk.below hX_0 hb_1 (Blk.lt hX_0); have hZ_1 := Blk.below hZ_0 hb_1 (Blk.lt hZ_0); have hO_1 := Below.trans hO_0 (hb_1.mono hO_0.size); clear hS_0 hX_0 hZ_0 hO_0; clear hb_1; skip)
      (try go_wp2_with fail)
      refine hK.out _ _ ?_ fun hHeld => ?_
      ·(try dsimp only)
       first | assumption | (apply SA.drew; assumption)
      clear hK K
      (try simp only [Act.put, zS])
      refine wR [4] ?_
      refine aN rfl fun K hK => ?_
      go_simp
      (refine (HMUL.out _).mono ?_; rintro e v_2 ⟨rfl, hb_2⟩; have hS_2 := SA.later hS_1 hb_2; have hX_2 := Blk.below hX_1 hb_2 (Blk.lt hX_1); have hZ_2 := Blk.below hZ_1 hb_2 (Blk.lt hZ_1); have hO_2 := Below.trans hO_1 (hb_2.mono hO_1.size); clear hS_1 hX_1 hZ_1 hO_1; clear hb_2; skip)
      (try go_wp2_with fail)
      refine hK.out _ _ ?_ fun hHeld => ?_
      ·(try dsimp only)
       first | assumption | (apply SA.drew; assumption)
      clear hK K
      (try simp only [Act.put, zS])
      refine wR [5] ?_
      refine aN rfl fun K hK => ?_
      (refine step_store16a rfl (.tmp 3) (.tmp 40) rfl w.heap.size rfl M F3 rfl hX_2 HM5.out HF5.out ?_; have hX_3 := Blk.store16a hX_2 HM5.out HF5.out; have hS_3 := SA.set hS_2 HNE.out M.toList; have hZ_3 := (Own.setCells M.toList 0 v_2).blk hZ_2 HNZ.out; have hO_3 := Below.set16 (g := w.heap.size) hO_2 (Nat.le_refl _) hO_2.size M.toList; obtain ⟨v_3, hw_3⟩ := zX (v_2.setCells w.heap.size 0 M.toList); rw [hw_3] at hX_3 hS_3 hZ_3 hO_3 ⊢; clear hX_2 hS_2 hZ_2 hO_2 hw_3; skip)
      refine hK.out _ _ ?_ fun hHeld => ?_
      ·(try dsimp only)
       first | assumption | (apply SA.drew; assumption)
      clear hK K
      (try simp only [Act.put, zS])
      refine wpAnyH_done (by kernel_rfl) ?_ _
      have HX9 := zh hX_3
      have HZ9 := zh hZ_3
      have HS9 := zh hS_3
      have HO9 := zh hO_3
      clear hX_3 hZ_3 hS_3 hO_3
      go_wp2_with fail
      go_roundw
      case rel => exact ⟨k + 1, a + 16, HK1.out, HA1.out, by go_num, (by have q9 := HX9.out; rw [HM6.out] at q9; exact q9), (by have q9 := HS9.out.tl.h0; rw [HD6.out] at q9; exact q9), HZ9.out, HO9.out⟩
      case measure => simp [intOf]; omega
     ·have hc0 : (i : Int) < 16 := by omega
      have hc' : ¬ (a : Int) + (i : Int) < (n : Int) := by omega
      go_wp2_with fail
      have hS_0 := HS9.out.drew
      have hX_0 := Blk.drew HX9.out
      have hZ_0 := Blk.drew HZ9.out
      have hO_0 := HO9.out.drew
      clear HS9 HX9 HZ9 HO9
      refine wp_region_held_drew (S := (SA [(g, E), (w.heap.size + 1, D)])) (by kernel_rfl) ?_ (fun hHeld => ?_)
      ·(try dsimp only)
       first | assumption | (apply SA.drew; assumption)
      generalize wr.drew = w5 at *
      refine wT 1 ?_ rfl ?_ ?_
      rotate_left
      ·intro wS hSw
       refine exec_load16a (x := .tmp 8) ?_ ?_ (ld16a hSw.h0 HIE.out) <;> rfl
      (try simp only [Act.put, zS])
      refine wT 3 ?_ rfl ?_ ?_
      rotate_left
      ·intro wS hSw
       refine exec_load16a (x := .tmp 4) ?_ ?_ (ld16a hSw.tl.h0 HID.out) <;> rfl
      (try simp only [Act.put, zS])
      refine wR [0] ?_
      refine aN rfl fun K hK => ?_
      refine step_load16a rfl (.tmp 3) rfl w.heap.size rfl F3 hX_0 HIF.out ?_
      refine hK.out _ _ ?_ fun hHeld => ?_
      ·(try dsimp only)
       first | assumption | (apply SA.drew; assumption)
      clear hK K
      (try simp only [Act.put, zS])
      refine wR [2] ?_
      refine aN rfl fun K hK => ?_
      go_simp
      (refine (HADD.out _).mono ?_; rintro e v_4 ⟨rfl, hb_4⟩; have hS_4 := SA.later hS_0 hb_4; have hX_4 := Blk.below hX_0 hb_4 (Blk.lt hX_0); have hZ_4 := Blk.below hZ_0 hb_4 (Blk.lt hZ_0); have hO_4 := Below.trans hO_0 (hb_4.mono hO_0.size); clear hS_0 hX_0 hZ_0 hO_0; clear hb_4; skip)
      (try go_wp2_with fail)
      refine hK.out _ _ ?_ fun hHeld => ?_
      ·(try dsimp only)
       first | assumption | (apply SA.drew; assumption)
      clear hK K
      (try simp only [Act.put, zS])
      refine wR [4] ?_
      refine aN rfl fun K hK => ?_
      go_simp
      (refine (HMUL.out _).mono ?_; rintro e v_5 ⟨rfl, hb_5⟩; have hS_5 := SA.later hS_4 hb_5; have hX_5 := Blk.below hX_4 hb_5 (Blk.lt hX_4); have hZ_5 := Blk.below hZ_4 hb_5 (Blk.lt hZ_4); have hO_5 := Below.trans hO_4 (hb_5.mono hO_4.size); clear hS_4 hX_4 hZ_4 hO_4; clear hb_5; skip)
      (try go_wp2_with fail)
      refine hK.out _ _ ?_ fun hHeld => ?_
      ·(try dsimp only)
       first | assumption | (apply SA.drew; assumption)
      clear hK K
      (try simp only [Act.put, zS])
      refine wR [5] ?_
      refine aN rfl fun K hK => ?_
      (refine step_store16a rfl (.tmp 3) (.tmp 40) rfl w.heap.size rfl M F3 rfl hX_5 HM5.out HF5.out ?_; have hX_6 := Blk.store16a hX_5 HM5.out HF5.out; have hS_6 := SA.set hS_5 HNE.out M.toList; have hZ_6 := (Own.setCells M.toList 0 v_5).blk hZ_5 HNZ.out; have hO_6 := Below.set16 (g := w.heap.size) hO_5 (Nat.le_refl _) hO_5.size M.toList; obtain ⟨v_6, hw_6⟩ := zX (v_5.setCells w.heap.size 0 M.toList); rw [hw_6] at hX_6 hS_6 hZ_6 hO_6 ⊢; clear hX_5 hS_5 hZ_5 hO_5 hw_6; skip)
      refine hK.out _ _ ?_ fun hHeld => ?_
      ·(try dsimp only)
       first | assumption | (apply SA.drew; assumption)
      clear hK K
      (try simp only [Act.put, zS])
      refine wpAnyH_done (by kernel_rfl) ?_ _
      have HX9 := zh hX_6
      have HZ9 := zh hZ_6
      have HS9 := zh hS_6
      have HO9 := zh hO_6
      clear hX_6 hZ_6 hS_6 hO_6
      go_wp2_with fail
      go_roundw
      case rel => exact ⟨k + 1, a + 16, HK1.out, HA1.out, by go_num, (by have q9 := HX9.out; rw [HM6.out] at q9; exact q9), (by have q9 := HS9.out.tl.h0; rw [HD6.out] at q9; exact q9), HZ9.out, HO9.out⟩
      case measure => simp [intOf]; omega
  ·have hk := HK.out
   have ha := HA.out
   obtain rfl : k = (n + 15) / 16 := by omega
   obtain ⟨h1, h2, h3, h4⟩ := hJ
   obtain ⟨M, hM⟩ := zX ((rowC 16 (thrF y f n s ((n + 15) / 16))).toArray)
   have HCM : Hid (∃ f, M = (rowC 16 f).toArray) := zh ⟨_, hM.symm⟩
   have HCZ : Hid (∃ f, zero16 = (rowC 16 f).toArray) := zh ⟨_, rfl⟩
   have HX5 : Hid (Blk wr w.heap.size M 72) := zh (hM ▸ h1)
   have HR5 : Hid (Blk wr (w.heap.size + 1 + 1) zero16 72) := zh h3
   have HN : Hid (Blk (wr.setCells (w.heap.size + 1 + 1) 0 M.toList) (w.heap.size + 1 + 1) M 72) := zh (Blk.store16a HR5.out HCM.out HCZ.out)
   have HO5 : Hid (Below w.heap.size w (wr.setCells (w.heap.size + 1 + 1) 0 M.toList)) := zh (Below.set16 (g := w.heap.size + 1 + 1) h4 (by omega) h4.size _)
   have hl : ¬ (a : Int) < (n : Int) := by omega
   have HM := zh hM
   clear h1 h2 h3 h4 hM hlt hk ha HA HK
   go_wp2_with (first
    | (refine wpList_load16a rfl (.tmp 3) rfl w.heap.size rfl M HX5.out HCM.out ?_)
    | (refine wpList_store16a rfl (.tmp 6) (.tmp 41) rfl (w.heap.size + 1 + 1) rfl M zero16 rfl HR5.out HCM.out HCZ.out ?_))
   refine bodyPost_ret (v := .agg M) ?_ rfl ⟨by rw [HM.out], HO5.out⟩
   exact res16a Tryz.results86 _ _ (w.heap.size + 1 + 1) M rfl HN.out HCM.out
end Go.Proofs.YtncfocjmdecapaaGreatDoor
