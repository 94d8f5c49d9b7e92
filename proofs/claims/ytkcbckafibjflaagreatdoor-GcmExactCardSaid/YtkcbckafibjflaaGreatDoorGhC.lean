/- The document's product, byte by byte, is the product. Arrays of 16 bytes in memory. The document's sums of blocks. The document's products of blocks. Bytes, block by block, through the document's product. The document's sums of bytes with a block. -/
import Derived.Test.YtkcbckafibjflaaGreatDoorAr16
import Derived.Test.YtkcbckafibjflaaGreatDoorAe0
import Derived.Test.YtkcbckafibjflaaGreatDoorGhB
import Derived.Test.YtkcbckafibjflaaGreatDoorApo
import Derived.Deep.DeepCutAuto
namespace Go.Proofs.YtkcbckafibjflaaGreatDoor
set_option linter.unusedVariables false
set_option linter.unusedSimpArgs false
open Go.RowKit

/-- The document's way: a number of 16 bytes moved by one place, byte by byte. -/
def shF (v : Nat → Nat) : Nat → Nat := fun k => v k / 2 + (if 0 < k then v (k - 1) % 2 * 128 else 0)
def nxF (v : Nat → Nat) : Nat → Nat := fun k => if k = 0 ∧ v 15 % 2 = 1 then shF v 0 ^^^ 225 else shF v k
def vB (y : Nat → Nat) : Nat → Nat → Nat | 0 => y | k + 1 => nxF (vB y k)
def hB (x : Nat → Nat) (k : Nat) : Bool := decide (128 ≤ x (k / 8) * 2 ^ (k % 8) % 256)
def zB (x y : Nat → Nat) : Nat → Nat → Nat | 0 => fun _ => 0 | k + 1 => if hB x k then addF (zB x y k) (vB y k) else zB x y k
theorem shF_lt {v : Nat → Nat} (hv : ∀ i, i < 16 → v i < 256) (i : Nat) (hi : i < 16) : shF v i < 256 := by
  have h1 := hv i hi
  have h2 : v (i - 1) % 2 < 2 := Nat.mod_lt _ (by decide)
  unfold shF; split <;> omega
theorem nxF_lt {v : Nat → Nat} (hv : ∀ i, i < 16 → v i < 256) (i : Nat) (hi : i < 16) : nxF v i < 256 := by
  unfold nxF; split
  · exact Nat.xor_lt_two_pow (n := 8) (shF_lt hv 0 (by omega)) (by decide)
  · exact shF_lt hv i hi
theorem vB_lt {y : Nat → Nat} (hy : ∀ i, i < 16 → y i < 256) : ∀ k i, i < 16 → vB y k i < 256
  | 0, i, hi => hy i hi
  | k + 1, i, hi => nxF_lt (vB_lt hy k) i hi
theorem zB_lt {x y : Nat → Nat} (hy : ∀ i, i < 16 → y i < 256) : ∀ k i, i < 16 → zB x y k i < 256
  | 0, _, _ => Nat.zero_lt_succ _
  | k + 1, i, hi => by
    show (if hB x k then addF (zB x y k) (vB y k) else zB x y k) i < 256
    split
    · exact addF_lt (zB_lt hy k) (vB_lt hy k) i hi
    · exact zB_lt hy k i hi
theorem beX_mod2 {f : Nat → Nat} {a k : Nat} : beX f a (k + 1) % 2 = f (a + k) % 2 := by
  show (beX f a k * 256 + f (a + k)) % 2 = _
  omega
/-- Eight bytes, each moved by one place, as a number. -/
theorem beX_half {f g : Nat → Nat} {a : Nat} : ∀ k, (∀ i, i < k → g (a + i) = f (a + i) / 2 + (if 0 < i then f (a + i - 1) % 2 * 128 else 0)) → beX g a k = beX f a k / 2
  | 0, _ => by show (0 : Nat) = 0 / 2; rfl
  | k + 1, h => by
    show beX g a k * 256 + g (a + k) = (beX f a k * 256 + f (a + k)) / 2
    rw [beX_half k (fun i hi => h i (by omega)), h k (by omega)]
    cases k with
    | zero => show beX f a 0 / 2 * 256 + (f (a + 0) / 2 + 0) = (0 * 256 + f (a + 0)) / 2; show 0 / 2 * 256 + (f (a + 0) / 2 + 0) = _; omega
    | succ k =>
      rw [if_pos (by omega)]
      have e := beX_mod2 (f := f) (a := a) (k := k)
      rw [show a + (k + 1) - 1 = a + k by omega, ← e]
      generalize beX f a (k + 1) = n
      omega
theorem beX_head {f : Nat → Nat} {a : Nat} (c : Nat) : ∀ k, beX (fun i => if i = a then f i + c else f i) a (k + 1) = beX f a (k + 1) + c * 256 ^ k
  | 0 => by show (0 * 256 + (if a + 0 = a then f (a + 0) + c else _)) = (0 * 256 + f (a + 0)) + c * 1; rw [if_pos (by omega)]; omega
  | k + 1 => by
    show beX (fun i => if i = a then f i + c else f i) a (k + 1) * 256 + (if a + (k + 1) = a then _ else f (a + (k + 1))) = (beX f a (k + 1) * 256 + f (a + (k + 1))) + c * 256 ^ (k + 1)
    rw [beX_head c k, if_neg (by omega), Nat.pow_succ, ← Nat.mul_assoc]
    generalize c * 256 ^ k = m
    omega
theorem beX_congr {f g : Nat → Nat} {a : Nat} : ∀ k, (∀ i, i < k → f (a + i) = g (a + i)) → beX f a k = beX g a k
  | 0, _ => rfl
  | k + 1, h => by show beX f a k * 256 + f (a + k) = beX g a k * 256 + g (a + k); rw [beX_congr k (fun i hi => h i (by omega)), h k (by omega)]
theorem xor_top {n : Nat} (hn : n < 2 ^ 63) : n ^^^ lowN = ((n / 2 ^ 56) ^^^ 225) * 2 ^ 56 + n % 2 ^ 56 := by
  have h : ∀ p q, q < 2 ^ 56 → p * 2 ^ 56 + q = p <<< 56 ||| q := fun p q hq => by
    rw [Nat.shiftLeft_eq, Nat.mul_comm, Nat.two_pow_add_eq_or_of_lt hq]
  have e1 : n = (n / 2 ^ 56) <<< 56 ||| (n % 2 ^ 56) := by rw [← h _ _ (Nat.mod_lt _ (by decide))]; omega
  have e2 : lowN = 225 <<< 56 ||| 0 := rfl
  rw [h _ _ (Nat.mod_lt _ (by decide))]
  rw [e2]
  conv => lhs; rw [e1]
  refine Nat.eq_of_testBit_eq fun i => ?_
  simp only [Nat.testBit_xor, Nat.testBit_or, Nat.testBit_shiftLeft, Nat.zero_testBit, Nat.testBit_mod_two_pow]
  by_cases hi : 56 ≤ i
  · simp [hi, show ¬ i < 56 by omega]
  · simp [hi]
theorem beX_succ (f : Nat → Nat) (a k : Nat) : beX f a (k + 1) = beX f a k * 256 + f (a + k) := rfl
theorem beX_tail (f : Nat → Nat) (k : Nat) : beX (fun i => if i = 0 then 0 else f i) 0 (k + 1) = beX f 1 k := by
  induction k with
  | zero => rw [beX_succ, if_pos (Nat.zero_add 0)]; show beX _ 0 0 * 256 + 0 = 0; show 0 * 256 + 0 = 0; rw [Nat.zero_mul]
  | succ k ih =>
    rw [beX_succ, ih, beX_succ f 1 k, if_neg (Nat.succ_ne_zero _ ∘ (Nat.zero_add _).symm.trans), Nat.add_comm 1 k, Nat.zero_add]
theorem w_nxF {v : Nat → Nat} (hv : ∀ i, i < 16 → v i < 256) : wF (nxF v) = nxP (wF v) := by
  have hlo : loW v % 2 = v 15 % 2 := beX_mod2 (f := v) (a := 8) (k := 7)
  have hhi : hiW v % 2 = v 7 % 2 := by have := beX_mod2 (f := v) (a := 0) (k := 7); rwa [Nat.zero_add] at this
  have h1 : beX (shF v) 0 8 = hiW v / 2 := beX_half 8 fun i hi => by
    show v (0 + i) / 2 + (if 0 < 0 + i then v (0 + i - 1) % 2 * 128 else 0) = _
    rw [Nat.zero_add]
  have h2 : beX (shF v) 8 8 = loW v / 2 + hiW v % 2 * 2 ^ 63 := by
    have e := beX_half (f := v) (a := 8) (g := fun i => if i = 8 then v 8 / 2 else shF v i) 8 fun i hi => by
      show (if 8 + i = 8 then v 8 / 2 else v (8 + i) / 2 + (if 0 < 8 + i then v (8 + i - 1) % 2 * 128 else 0)) = _
      by_cases h0 : i = 0
      · subst h0; rfl
      · rw [if_neg (by omega), if_pos (by omega), if_pos (by omega)]
    have e2 := beX_head (f := fun i => if i = 8 then v 8 / 2 else shF v i) (a := 8) (v 7 % 2 * 128) 7
    have e3 : beX (shF v) 8 8 = beX (fun i => if i = 8 then (fun i => if i = 8 then v 8 / 2 else shF v i) i + v 7 % 2 * 128 else (fun i => if i = 8 then v 8 / 2 else shF v i) i) 8 (7 + 1) := beX_congr 8 fun i hi => by
      show shF v (8 + i) = if 8 + i = 8 then (if 8 + i = 8 then v 8 / 2 else shF v (8 + i)) + v 7 % 2 * 128 else if 8 + i = 8 then v 8 / 2 else shF v (8 + i)
      by_cases h0 : i = 0
      · subst h0; rfl
      · rw [if_neg (by omega), if_neg (by omega)]
    rw [e3, e2, e, hhi]
    show loW v / 2 + v 7 % 2 * 128 * 256 ^ 7 = _
    rw [Nat.mul_assoc]
  have hb := bd_w hv
  refine Prod.ext ?_ ?_
  · show beX (nxF v) 0 8 = hiW v / 2 ^^^ (loW v % 2 * lowN)
    rw [hlo]
    by_cases h15 : v 15 % 2 = 1
    · rw [h15, Nat.one_mul]
      have hn : hiW v / 2 < 2 ^ 63 := by have := hb.1; show hiW v / 2 < _; have : hiW v < 2 ^ 64 := this; omega
      rw [xor_top hn]
      have e := beX_head (f := fun i => if i = 0 then 0 else shF v i) (a := 0) (shF v 0 ^^^ 225) 7
      have e0 := beX_head (f := fun i => if i = 0 then 0 else shF v i) (a := 0) (shF v 0) 7
      have c1 : beX (nxF v) 0 8 = beX (fun i => if i = 0 then (fun i => if i = 0 then 0 else shF v i) i + (shF v 0 ^^^ 225) else (fun i => if i = 0 then 0 else shF v i) i) 0 (7 + 1) := beX_congr 8 fun i hi => by
        show (if 0 + i = 0 ∧ v 15 % 2 = 1 then shF v 0 ^^^ 225 else shF v (0 + i)) = if 0 + i = 0 then (if 0 + i = 0 then 0 else shF v (0 + i)) + (shF v 0 ^^^ 225) else if 0 + i = 0 then 0 else shF v (0 + i)
        by_cases h0 : i = 0
        · subst h0; rw [if_pos ⟨rfl, h15⟩, if_pos rfl, if_pos rfl, Nat.zero_add]
        · rw [if_neg (by omega), if_neg (by omega), if_neg (by omega)]
      have c2 : beX (shF v) 0 8 = beX (fun i => if i = 0 then (fun i => if i = 0 then 0 else shF v i) i + shF v 0 else (fun i => if i = 0 then 0 else shF v i) i) 0 (7 + 1) := beX_congr 8 fun i hi => by
        show shF v (0 + i) = if 0 + i = 0 then (if 0 + i = 0 then 0 else shF v (0 + i)) + shF v 0 else if 0 + i = 0 then 0 else shF v (0 + i)
        by_cases h0 : i = 0
        · subst h0; rw [if_pos rfl, if_pos rfl]; exact (Nat.zero_add _).symm
        · rw [if_neg (by omega), if_neg (by omega)]
      have hl : beX (fun i => if i = 0 then 0 else shF v i) 0 (7 + 1) < 256 ^ 7 := by
        rw [beX_tail (shF v) 7]
        exact beX_lt 7 fun i hi => shF_lt hv _ (by omega)
      have hs0 := shF_lt hv 0 (by omega)
      rw [← h1, c2, e0, c1, e]
      generalize beX (fun i => if i = 0 then 0 else shF v i) 0 (7 + 1) = m at hl ⊢
      generalize shF v 0 = s at hs0 ⊢
      have p : (256 : Nat) ^ 7 = 2 ^ 56 := by decide
      rw [p] at hl ⊢
      have q1 : (m + s * 2 ^ 56) / 2 ^ 56 = s := by omega
      have q2 : (m + s * 2 ^ 56) % 2 ^ 56 = m := by omega
      rw [q1, q2]; exact Nat.add_comm _ _
    · have h15' : v 15 % 2 = 0 := by omega
      rw [h15', Nat.zero_mul, Nat.xor_zero, ← h1]
      exact beX_congr 8 fun i hi => if_neg (fun h => h15 h.2)
  · show beX (nxF v) 8 8 = loW v / 2 ||| (hiW v * 2 ^ 63 % 2 ^ 64)
    have e : beX (nxF v) 8 8 = beX (shF v) 8 8 := beX_congr 8 fun i hi => if_neg (fun h => absurd h.1 (by omega))
    rw [e, h2]
    have hl : loW v / 2 < 2 ^ 63 := by have : loW v < 2 ^ 64 := hb.2; omega
    have e2 : hiW v * 2 ^ 63 % 2 ^ 64 = hiW v % 2 * 2 ^ 63 := by omega
    rw [e2, Nat.or_comm, Nat.mul_comm, ← Nat.two_pow_add_eq_or_of_lt hl, Nat.add_comm]
theorem w_vB {y : Nat → Nat} (hy : ∀ i, i < 16 → y i < 256) : ∀ k, wF (vB y k) = vP (wF y) k
  | 0 => rfl
  | k + 1 => by
    show wF (nxF (vB y k)) = _
    rw [w_nxF (vB_lt hy k), w_vB hy k]; rfl
theorem beX_bit {f : Nat → Nat} {a : Nat} : ∀ k, (∀ i, i < k → f (a + i) < 256) → ∀ j, j < 8 * k → (beX f a k).testBit (8 * k - 1 - j) = (f (a + j / 8)).testBit (7 - j % 8)
  | 0, _, j, h => absurd h (by omega)
  | k + 1, hf, j, hj => by
    have hk := hf k (by omega)
    show (beX f a k * 256 + f (a + k)).testBit (8 * (k + 1) - 1 - j) = _
    rw [show beX f a k * 256 + f (a + k) = 2 ^ 8 * beX f a k + f (a + k) by omega, Nat.testBit_two_pow_mul_add _ (by simpa using hk)]
    by_cases h : j < 8 * k
    · rw [if_neg (by omega), ← beX_bit k (fun i hi => hf i (by omega)) j h]
      congr 1; omega
    · rw [if_pos (by omega)]
      have : j / 8 = k := by omega
      rw [this]; congr 1; omega
theorem hB_bit {x k : Nat} (hx : x < 256) (hk : k < 8) : decide (128 ≤ x * 2 ^ k % 256) = x.testBit (7 - k) := by
  have h : ∀ x, x < 256 → ∀ k, k < 8 → decide (128 ≤ x * 2 ^ k % 256) = x.testBit (7 - k) := of_decide_eq_true (by kernel_rfl)
  exact h x hx k hk
theorem hB_has {x : Nat → Nat} (hx : ∀ i, i < 16 → x i < 256) {k : Nat} (hk : k < 128) : hB x k = hasN (wF x).1 (wF x).2 k := by
  rw [has_bit hk (bd_w hx).1 (bd_w hx).2]
  unfold hB
  rw [hB_bit (hx _ (by omega)) (Nat.mod_lt _ (by decide))]
  by_cases h : k < 64
  · rw [if_pos h]
    have := beX_bit (f := x) (a := 0) 8 (fun i hi => hx _ (by omega)) k (by omega)
    rw [Nat.zero_add] at this; exact this.symm
  · rw [if_neg h]
    have := beX_bit (f := x) (a := 8) 8 (fun i hi => hx _ (by omega)) (k - 64) (by omega)
    rw [show 8 * 8 - 1 - (k - 64) = 127 - k by omega, show 8 + (k - 64) / 8 = k / 8 by omega, show (k - 64) % 8 = k % 8 by omega] at this
    exact this.symm
theorem w_zB {x y : Nat → Nat} (hx : ∀ i, i < 16 → x i < 256) (hy : ∀ i, i < 16 → y i < 256) : ∀ k, k ≤ 128 → wF (zB x y k) = zP (wF x) (wF y) k
  | 0, _ => w_zero
  | k + 1, hk => by
    show wF (if hB x k then addF (zB x y k) (vB y k) else zB x y k) = _
    rw [z_succ, hB_has hx (by omega), ← w_zB hx hy k (by omega), ← w_vB hy k]
    split
    · exact w_add (zB_lt hy k) (vB_lt hy k)
    · rfl
/-- The document's product is the product. -/
theorem zB_mul {x y : Nat → Nat} (hx : ∀ i, i < 16 → x i < 256) (hy : ∀ i, i < 16 → y i < 256) : ∀ i, i < 16 → zB x y 128 i = mulF x y i :=
  w_inj (zB_lt hy 128) (fun i _ => mulF_lt x y i) (by rw [w_zB hx hy 128 (Nat.le_refl _), w_mul x hy]; rfl)
end Go.Proofs.YtkcbckafibjflaaGreatDoor
namespace Go.Proofs.YtkcbckafibjflaaGreatDoor
set_option linter.unusedVariables false
set_option linter.unusedSimpArgs false
open Go.RowKit

end Go.Proofs.YtkcbckafibjflaaGreatDoor
namespace Go.Proofs.YtkcbckafibjflaaGreatDoor
set_option linter.unusedVariables false
set_option linter.unusedSimpArgs false
open Go.RowKit

/-- Behind k rounds of a sum. -/
def AJ (w0 : World) (f g : Nat → Nat) (k : Nat) (wr : World) : Prop := A16 wr w0.heap.size (fun i => if i < k then f i ^^^ g i else f i) ∧ A16 wr (w0.heap.size + 1) g ∧ A16 wr (w0.heap.size + 1 + 1) (fun _ => 0) ∧ Below w0.heap.size w0 wr
theorem AJ.drew {w0 wr : World} {f g : Nat → Nat} {k : Nat} (h : AJ w0 f g k wr) : AJ w0 f g k wr.drew := ⟨h.1, h.2.1, h.2.2.1, h.2.2.2.drew⟩
theorem AJ.next {w0 wr : World} {f g : Nat → Nat} {k : Nat} (h : AJ w0 f g k wr) (hk : k < 16) : AJ w0 f g (k + 1) (wr.setCell ⟨w0.heap.size, k, none⟩ (.int .u8 ((f k ^^^ g k : Nat) : Int))) := by
  obtain ⟨h1, h2, h3, h4⟩ := h
  refine ⟨A16.congr (h1.set k (f k ^^^ g k)) fun i _ => ?_, Blk.set_other h2 (by simp) _, Blk.set_other h3 (by simp; omega) _, h4.setCell (Nat.le_refl _) _⟩
  unfold upd
  by_cases e : i = k
  · subst e; rw [if_pos rfl, if_pos (by omega)]
  · rw [if_neg e]
    show (if i < k then f i ^^^ g i else f i) = (if i < k + 1 then f i ^^^ g i else f i)
    by_cases h5 : i < k
    · rw [if_pos h5, if_pos (by omega)]
    · rw [if_neg h5, if_neg (by omega)]

set_option maxRecDepth 100000 in
set_option maxHeartbeats 4000000 in
theorem radd_any (f g : Nat → Nat) (w : World) (hf : ∀ i, i < 16 → f i < 256) (hg : ∀ i, i < 16 → g i < 256) :
    Calls Tryz.prog 40 #[.agg (rowC 16 f).toArray, .agg (rowC 16 g).toArray] w fun e w' => e = .returned (.agg (rowC 16 (addF f g)).toArray) ∧ Below w.heap.size w w' := by
  have hz := zero16a_run
  have HF := Lib.hid hf
  have HG := Lib.hid hg
  clear hf hg
  obtain ⟨C, hC⟩ : ∃ C, (rowC 16 f).toArray = C := ⟨_, rfl⟩
  obtain ⟨D, hD⟩ : ∃ C, (rowC 16 g).toArray = C := ⟨_, rfl⟩
  rw [hC, hD]
  have HC := Lib.hid hC
  have HD := Lib.hid hD
  clear hC hD
  have HT := Lib.hid (show AJ w f g 0 (((w.alloc (.cells C 40)).alloc (.cells D 40)).alloc (.cells zero16 40)) by
    rw [← HC.out, ← HD.out]
    refine ⟨?_, ?_, ?_, (((Below.refl _ _).alloc (Nat.le_refl _) _).alloc (by simp) _).alloc (by simp; omega) _⟩
    · exact A16.congr (((Blk.new w _ 40).alloc _).alloc _) fun i _ => (if_neg (Nat.not_lt_zero i)).symm
    · have := (Blk.new (w.alloc (.cells (rowC 16 f).toArray 40)) (rowC 16 g).toArray 40).alloc (.cells zero16 40)
      unfold A16; simpa using this
    · have := Blk.new ((w.alloc (.cells (rowC 16 f).toArray 40)).alloc (.cells (rowC 16 g).toArray 40)) zero16 40
      show Blk _ _ zero16 _; simpa using this)
  go_enter Tryz.func40, Tryz.ntmps40
  go_wp2_with fail
  clear hz
  go_loopw [5] (fun i wr => ∃ k : Nat, k ≤ 16 ∧ i = .int .i64 (k : Int) ∧ AJ w f g k wr) (fun i _ => 16 - (intOf i).toNat)
  case atStart => exact ⟨0, Nat.zero_le _, rfl, HT.out⟩
  case round =>
    obtain ⟨k, hk, rfl, hT⟩ := hrel
    by_cases hlt : k < 16
    · obtain ⟨hX, hY, hZ, hO⟩ := hT
      have cx : wr.cell? ⟨w.heap.size, k, none⟩ = some (.int .u8 (f k : Nat)) := by
        have := hX.cell hlt; rw [if_neg (Nat.lt_irrefl _)] at this; exact this
      have zx : wr.frozen? ⟨w.heap.size, k, none⟩ = false := Blk.free hX k
      have cy : wr.cell? ⟨w.heap.size + 1, k, none⟩ = some (.int .u8 (g k : Nat)) := hY.cell hlt
      have e1 : bits .xor .u8 (f k : Int) (g k : Int) = ((f k ^^^ g k : Nat) : Int) := u8_xor_nat _ _ (HF.out k hlt) (HG.out k hlt)
      have HN := Lib.hid (AJ.next ⟨hX, hY, hZ, hO⟩ hlt)
      have k0 : (0 : Int) ≤ (k : Int) := by omega
      have k1 : (k : Int) < 16 := by omega
      clear hX hY hZ hO
      generalize f k ^^^ g k = r at *
      generalize f k = p at *
      generalize g k = q at *
      go_wp2_with fail
      go_region
      all_goals
        go_wp2_with fail
        go_roundw
        case rel => exact ⟨k + 1, by omega, by go_num, by first | exact HN.out | exact HN.out.drew⟩
        case measure => simp [intOf]; omega
    · obtain rfl : k = 16 := by omega
      obtain ⟨hX, hY, hZ, hO⟩ := hT
      have hX' : A16 wr w.heap.size (addF f g) := hX.congr fun i hi => if_pos hi
      obtain ⟨E, hE⟩ : ∃ E, (rowC 16 (addF f g)).toArray = E := ⟨_, rfl⟩
      have HX : Hid (Blk wr w.heap.size E 40) := Lib.hid (hE ▸ hX')
      have HTh : Hid (wr.there (w.heap.size + 1 + 1) 0 E.size) := Lib.hid (hE ▸ hZ.there (addF f g))
      have HI : Hid ((Tryz.prog.info? 40).map (·.size) = some E.size) := Lib.hid (hE ▸ info16a (addF f g))
      have HON : Hid (E.all (·.oneCell') = true) := Lib.hid (hE ▸ one16 (addF f g))
      have HN : Hid (Blk (wr.setCells (w.heap.size + 1 + 1) 0 E.toList) (w.heap.size + 1 + 1) E 40) := Lib.hid (hE ▸ hZ.store (addF f g))
      have HOw : Hid (Own (w.heap.size + 1 + 1) wr (wr.setCells (w.heap.size + 1 + 1) 0 E.toList)) := Lib.hid (Own.setCells _ _ _)
      have HO := Lib.hid hO
      have HE := Lib.hid hE
      clear hX hY hZ hO hX' hE hlt hk HT
      go_wp2_with (first
        | (refine wpList_load_row rfl 40 (.tmp 2) rfl w.heap.size rfl 40 E (0, 0) _ HX.out Tryz.underlying40 rfl HI.out ?_)
        | (refine wpList_store_mid rfl 40 (.tmp 4) (.tmp 19) rfl (w.heap.size + 1 + 1) 0 E rfl rfl HTh.out HI.out HON.out ?_))
      refine bodyPost_ret (v := .agg E) ?_ rfl ⟨by rw [HE.out], ?_⟩
      · exact results_cell_row Tryz.results40 _ _ (w.heap.size + 1 + 1) 40 E (0, 0) _ rfl HN.out Tryz.underlying40 rfl HI.out
      · exact HO.out.trans (HOw.out.below (by omega) HO.out.size)
end Go.Proofs.YtkcbckafibjflaaGreatDoor
namespace Go.Proofs.YtkcbckafibjflaaGreatDoor
set_option linter.unusedVariables false
set_option linter.unusedSimpArgs false
open Go.RowKit

/-- Behind i bits of the document's product. -/
def RM (w0 : World) (g4 : Nat) (x y : Nat → Nat) (k : Nat) (wr : World) : Prop := A16 wr w0.heap.size x ∧ A16 wr (w0.heap.size + 1 + 1) (fun _ => 0) ∧ A16 wr (w0.heap.size + 1 + 1 + 1) (zB x y k) ∧ A16 wr g4 (vB y k) ∧ Below w0.heap.size w0 wr
/-- While a number is moved: places above k are moved. -/
def mvF (v : Nat → Nat) (k : Nat) : Nat → Nat := fun i => if k < i then shF v i else v i
def RV (w0 : World) (g4 : Nat) (x : Nat → Nat) (z v : Nat → Nat) (j : Value) (wr : World) : Prop := ((∃ k : Nat, k < 16 ∧ j = .int .i64 (k : Int) ∧ A16 wr g4 (mvF v k)) ∨ (j = .int .i64 (-1) ∧ A16 wr g4 (shF v))) ∧ A16 wr w0.heap.size x ∧ A16 wr (w0.heap.size + 1 + 1) (fun _ => 0) ∧ A16 wr (w0.heap.size + 1 + 1 + 1) z ∧ Below w0.heap.size w0 wr
set_option maxRecDepth 100000 in
set_option maxHeartbeats 8000000 in
theorem rmul_any (x y : Nat → Nat) (w : World) (hx : ∀ i, i < 16 → x i < 256) (hy : ∀ i, i < 16 → y i < 256) :
    Calls Tryz.prog 60 #[.agg (rowC 16 x).toArray, .agg (rowC 16 y).toArray] w fun e w' => e = .returned (.agg (rowC 16 (mulF x y)).toArray) ∧ Below w.heap.size w w' := by
  have hz := zero16a_run
  obtain ⟨X, hX⟩ : ∃ C, (rowC 16 x).toArray = C := ⟨_, rfl⟩
  obtain ⟨Y, hY⟩ : ∃ C, (rowC 16 y).toArray = C := ⟨_, rfl⟩
  have HCY : Hid (∃ f, Y = (rowC 16 f).toArray) := Lib.hid ⟨_, hY.symm⟩
  have HC0 : Hid (∃ f, zero16 = (rowC 16 f).toArray) := Lib.hid ⟨_, rfl⟩
  obtain ⟨w0, hw0⟩ : ∃ q, (((w.alloc (.cells X 40)).alloc (.cells Y 40)).alloc (.cells zero16 40)).alloc (.cells zero16 40) = q := ⟨_, rfl⟩
  have s1 : (w.alloc (.cells X 40)).heap.size = w.heap.size + 1 := by simp
  have s2 : ((w.alloc (.cells X 40)).alloc (.cells Y 40)).heap.size = w.heap.size + 1 + 1 := by simp
  have s3 : (((w.alloc (.cells X 40)).alloc (.cells Y 40)).alloc (.cells zero16 40)).heap.size = w.heap.size + 1 + 1 + 1 := by simp
  have s4 : w0.heap.size = w.heap.size + 1 + 1 + 1 + 1 := by rw [← hw0]; simp
  obtain ⟨w1, hw1'⟩ : ∃ q, w0.alloc (.cells zero16 40) = q := ⟨_, rfl⟩
  obtain ⟨g4, hg4⟩ : ∃ g, w0.heap.size = g := ⟨_, rfl⟩
  have p0 : Blk w0 w.heap.size X 40 := by rw [← hw0]; exact (((Blk.new w _ _).alloc _).alloc _).alloc _
  have p1 : Blk w0 (w.heap.size + 1) Y 40 := by rw [← hw0, ← s1]; exact ((Blk.new _ _ _).alloc _).alloc _
  have p2 : Blk w0 (w.heap.size + 1 + 1) zero16 40 := by rw [← hw0, ← s2]; exact (Blk.new _ _ _).alloc _
  have p3 : Blk w0 (w.heap.size + 1 + 1 + 1) zero16 40 := by rw [← hw0, ← s3]; exact Blk.new _ _ _
  have pO : Below w.heap.size w w0 := by rw [← hw0]; exact ((((Below.refl _ _).alloc (Nat.le_refl _) _).alloc (by simp) _).alloc (by simp; omega) _).alloc (by simp; omega) _
  have q0 : Blk w1 w.heap.size X 40 := by rw [← hw1']; exact p0.alloc _
  have q1 : Blk w1 (w.heap.size + 1) Y 40 := by rw [← hw1']; exact p1.alloc _
  have q2 : Blk w1 (w.heap.size + 1 + 1) zero16 40 := by rw [← hw1']; exact p2.alloc _
  have q3 : Blk w1 (w.heap.size + 1 + 1 + 1) zero16 40 := by rw [← hw1']; exact p3.alloc _
  have q4 : Blk w1 g4 zero16 40 := by rw [← hw1', ← hg4]; exact Blk.new _ _ _
  have hg : w.heap.size + 1 + 1 + 1 < g4 := by rw [← hg4, s4]; omega
  have qO : Below w.heap.size w w1 := by rw [← hw1']; exact pO.alloc pO.size _
  obtain ⟨w2, hw2⟩ : ∃ q, w1.setCells g4 0 Y.toList = q := ⟨_, rfl⟩
  have HT : Hid (RM w g4 x y 0 w2) := Lib.hid (by
    rw [← hw2]
    have hO := Own.setCells (b := g4) Y.toList 0 w1
    refine ⟨?_, hO.blk q2 (by omega), hO.blk q3 (by omega), ?_, Below.set16 (g := g4) qO (by omega) qO.size _⟩
    · have := hO.blk q0 (by omega); rw [← hX] at this; exact this
    · have := Blk.store16a q4 HCY.out HC0.out; rw [← hY] at this ⊢; exact this)
  have P1 : Hid (Blk w0 (w.heap.size + 1) Y 40) := Lib.hid p1
  have Q4 := Lib.hid q4
  have HG4 := Lib.hid hg
  clear hg
  have HX0 := Lib.hid hx
  have HY0 := Lib.hid hy
  rw [hX, hY]
  clear hx hy hX hY s1 s2 s3 s4 p0 p1 p2 p3 pO q0 q1 q2 q3 q4 qO
  go_enter Tryz.func60, Tryz.ntmps60
  go_wp2_with (first
    | (refine wpList_load16a rfl (.tmp 3) rfl (w.heap.size + 1) rfl Y P1.out HCY.out ?_)
    | (refine wpList_store16a rfl (.tmp 6) (.tmp 10) rfl g4 rfl Y zero16 rfl Q4.out HCY.out HC0.out ?_))
  clear hw0 hw1' hg4 hz P1 Q4
  go_loopw [7] (fun i wr => ∃ k : Nat, k ≤ 128 ∧ i = .int .i64 (k : Int) ∧ RM w g4 x y k wr) (fun i _ => 128 - (intOf i).toNat)
  case atStart => exact ⟨0, Nat.zero_le _, rfl, hw2 ▸ HT.out⟩
  case round =>
    clear hw2 HT
    obtain ⟨k, hk, rfl, hX, hR, hZ, hV, hO⟩ := hrel
    have hgg := HG4.out
    by_cases hlt : k < 128
    · have k0 : (0 : Int) ≤ (k : Int) := by omega
      have k1 : (k : Int) < 128 := by omega
      have hzk : zB x y (k + 1) = if hB x k then addF (zB x y k) (vB y k) else zB x y k := rfl
      have hvk : vB y (k + 1) = nxF (vB y k) := rfl
      have hxk := HX0.out (k / 8) (by omega)
      have hvl : ∀ i, i < 16 → vB y k i < 256 := vB_lt HY0.out k
      have hzl : ∀ i, i < 16 → zB x y k i < 256 := zB_lt HY0.out k
      have cx : wr.cell? ⟨w.heap.size, k / 8, none⟩ = some (.int .u8 (x (k / 8) : Nat)) := hX.cell (by omega)
      have hbk : hB x k = decide (128 ≤ x (k / 8) * 2 ^ (k % 8) % 256) := rfl
      generalize vB y k = v at *
      generalize zB x y k = z at *
      generalize x (k / 8) = p at *
      have HZL := Lib.hid hzl
      have HVL := Lib.hid hvl
      have HZK := Lib.hid hzk
      have HVK := Lib.hid hvk
      have c15 : wr.cell? ⟨g4, 15, none⟩ = some (.int .u8 (v 15 : Nat)) := hV.cell (by omega)
      have h15 := hvl 15 (by omega)
      obtain ⟨b15, e15⟩ : ∃ b, ((v 15 : Int) % 2 == 1) = b := ⟨_, rfl⟩
      have H15 : Hid ((v 15 % 2 = 1) ↔ b15 = true) := Lib.hid (by rw [← e15, beq_iff_eq]; omega)
      clear hzl hvl hzk hvk
      by_cases hb : hB x k = true
      · have h128 : (128 : Int) ≤ (p : Int) * 2 ^ (k % 8) % 256 := by
          rw [hbk] at hb
          have h1 := of_decide_eq_true hb
          have e : (((p * 2 ^ (k % 8) % 256 : Nat)) : Int) = (p : Int) * 2 ^ (k % 8) % 256 := by push_cast; rfl
          rw [← e]; omega
        obtain ⟨Z, hZe⟩ : ∃ C, (rowC 16 z).toArray = C := ⟨_, rfl⟩
        obtain ⟨V, hVe⟩ : ∃ C, (rowC 16 v).toArray = C := ⟨_, rfl⟩
        obtain ⟨S, hSe⟩ : ∃ C, (rowC 16 (addF z v)).toArray = C := ⟨_, rfl⟩
        have HADD : Hid (∀ w, Calls Tryz.prog 40 #[.agg Z, .agg V] w fun e w' => e = .returned (.agg S) ∧ Below w.heap.size w w') := Lib.hid fun w => by
          rw [← hZe, ← hVe, ← hSe]; exact radd_any z v w HZL.out HVL.out
        have HCZ : Hid (∃ f, Z = (rowC 16 f).toArray) := Lib.hid ⟨_, hZe.symm⟩
        have HCV : Hid (∃ f, V = (rowC 16 f).toArray) := Lib.hid ⟨_, hVe.symm⟩
        have HCS : Hid (∃ f, S = (rowC 16 f).toArray) := Lib.hid ⟨_, hSe.symm⟩
        have HZB : Hid (Blk wr (w.heap.size + 1 + 1 + 1) Z 40) := Lib.hid (hZe ▸ hZ)
        have HVB : Hid (Blk wr g4 V 40) := Lib.hid (hVe ▸ hV)
        have HSe := Lib.hid hSe
        have HXw := Lib.hid hX
        have HRw := Lib.hid hR
        have HVw := Lib.hid hV
        have HOw := Lib.hid hO
        have HB := Lib.hid (HZK.out.trans (if_pos hb))
        clear hX hR hZ hV hO hb hbk hZe hVe hSe HZK c15
        go_wp2_with (first
          | (refine wpList_load16a rfl (.tmp 5) rfl (w.heap.size + 1 + 1 + 1) rfl Z HZB.out HCZ.out ?_)
          | (refine wpList_load16a rfl (.tmp 6) rfl g4 rfl V HVB.out HCV.out ?_))
        refine (HADD.out _).mono ?_
        rintro e w4 ⟨rfl, hbw⟩
        obtain ⟨w5, hw5⟩ : ∃ q, w4.setCells (w.heap.size + 1 + 1 + 1) 0 S.toList = q := ⟨_, rfl⟩
        have hZ4 : Blk w4 (w.heap.size + 1 + 1 + 1) Z 40 := Blk.below HZB.out hbw (Blk.lt HZB.out)
        have HZ4 := Lib.hid hZ4
        have hX : A16 w5 w.heap.size x := by rw [← hw5]; exact (Own.setCells _ _ _).blk (Blk.below HXw.out hbw (Blk.lt HXw.out)) (by omega)
        have hR : A16 w5 (w.heap.size + 1 + 1) (fun _ => 0) := by rw [← hw5]; exact (Own.setCells _ _ _).blk (Blk.below HRw.out hbw (Blk.lt HRw.out)) (by omega)
        have hV : A16 w5 g4 v := by rw [← hw5]; exact (Own.setCells _ _ _).blk (Blk.below HVw.out hbw (Blk.lt HVw.out)) (by omega)
        have hO : Below w.heap.size w w5 := by
          have h4 := HOw.out.trans (hbw.mono HOw.out.size)
          rw [← hw5]; exact Below.set16 (g := w.heap.size + 1 + 1 + 1) h4 (by omega) h4.size _
        have hZ : A16 w5 (w.heap.size + 1 + 1 + 1) (addF z v) := by
          have := Blk.store16a hZ4 HCS.out HCZ.out
          rw [hw5, ← HSe.out] at this; exact this
        have c15 : w5.cell? ⟨g4, 15, none⟩ = some (.int .u8 (v 15 : Nat)) := hV.cell (by omega)
        have HX5 := Lib.hid hX
        have HR5 := Lib.hid hR
        have HZ5 := Lib.hid hZ
        have HV5 := Lib.hid hV
        have HO5 := Lib.hid hO
        generalize addF z v = z5 at *
        clear hX hR hZ hV hO hbw hZ4 HZB HVB HXw HRw HVw HOw HADD HZL
        go_wp2_with (first
          | (refine wpList_store16a rfl (.tmp 5) (.tmp 26) rfl (w.heap.size + 1 + 1 + 1) rfl S Z rfl HZ4.out HCS.out HCZ.out ?_))
        clear HZ4 hw5
        clear c15 cx
        go_loopw [9] (fun j wi => RV w g4 x z5 v j wi) (fun j _ => (intOf j + 1).toNat)
        case atStart => exact ⟨Or.inl ⟨15, by omega, rfl, HV5.out.congr fun i hi => (if_neg (show ¬ 15 < i by omega)).symm⟩, HX5.out, HR5.out, HZ5.out, HO5.out⟩
        case round =>
          obtain ⟨hj, hX, hR, hZ, hO⟩ := hrel
          rcases hj with ⟨j, hj, rfl, hV⟩ | ⟨rfl, hV⟩
          · rcases Nat.eq_zero_or_pos j with rfl | hjp
            · have hp0 := HVL.out 0 (by omega)
              have cv : wr.cell? ⟨g4, 0, none⟩ = some (.int .u8 (v 0 : Nat)) := hV.cell (by omega)
              have fv : wr.frozen? ⟨g4, 0, none⟩ = false := Blk.free hV 0
              have HN := Lib.hid (show RV w g4 x z5 v (.int .i64 (-1)) (wr.setCell ⟨g4, 0, none⟩ (.int .u8 ((v 0 : Int) / 2))) by
                refine ⟨Or.inr ⟨rfl, ?_⟩, Blk.set_other hX (by simp; omega) _, Blk.set_other hR (by simp; omega) _, Blk.set_other hZ (by simp; omega) _, hO.setCell (by simp; omega) _⟩
                have := hV.set 0 (v 0 / 2)
                rw [show ((v 0 / 2 : Nat) : Int) = (v 0 : Int) / 2 by omega] at this
                refine this.congr fun i hi => ?_
                unfold upd mvF
                by_cases e : i = 0
                · subst e; rw [if_pos rfl]; show v 0 / 2 = v 0 / 2 + 0; rfl
                · rw [if_neg e, if_pos (by omega)])
              clear hX hR hZ hO hV
              generalize v 0 = q0 at *
              go_wp2_with fail
              go_roundw
              case rel => exact HN.out
              case measure => simp [intOf]
            · have hpj := HVL.out j hj
              have hpm := HVL.out (j - 1) (by omega)
              have cv : wr.cell? ⟨g4, j, none⟩ = some (.int .u8 (v j : Nat)) := by
                have := hV.cell hj; unfold mvF at this; rw [if_neg (by omega)] at this; exact this
              have cm : wr.cell? ⟨g4, j - 1, none⟩ = some (.int .u8 (v (j - 1) : Nat)) := by
                have := hV.cell (show j - 1 < 16 by omega); unfold mvF at this; rw [if_neg (by omega)] at this; exact this
              have fv : wr.frozen? ⟨g4, j, none⟩ = false := Blk.free hV j
              have j0 : (0 : Int) < (j : Int) := by omega
              have j1 : (j : Int) < 16 := by omega
              have key : ∀ (ww : World) (F : Nat → Nat) (r : Nat), r = shF v j → A16 ww g4 F → (∀ i, i < 16 → i ≠ j → F i = mvF v j i) → A16 ww w.heap.size x → A16 ww (w.heap.size + 1 + 1) (fun _ => 0) → A16 ww (w.heap.size + 1 + 1 + 1) z5 → Below w.heap.size w ww →
                  RV w g4 x z5 v (.int .i64 ((j : Int) - 1)) (ww.setCell ⟨g4, j, none⟩ (.int .u8 (r : Int))) := by
                intro ww F r hr hV hF hX hR hZ hO
                refine ⟨Or.inl ⟨j - 1, by omega, by rw [show ((j - 1 : Nat) : Int) = (j : Int) - 1 by omega], ?_⟩, Blk.set_other hX (by simp; omega) _, Blk.set_other hR (by simp; omega) _, Blk.set_other hZ (by simp; omega) _, hO.setCell (by simp; omega) _⟩
                refine (hV.set j r).congr fun i hi => ?_
                unfold upd
                by_cases e : i = j
                · subst e; rw [if_pos rfl]; unfold mvF; rw [if_pos (by omega)]; exact hr
                · rw [if_neg e, hF i hi e]; unfold mvF
                  by_cases h5 : j < i
                  · rw [if_pos h5, if_pos (by omega)]
                  · rw [if_neg h5, if_neg (by omega)]
              have hsj : shF v j = v j / 2 + v (j - 1) % 2 * 128 := by unfold shF; rw [if_pos hjp]
              by_cases hq : v (j - 1) % 2 = 1
              · have eq1 : ((v (j - 1) : Int) % 2 == 1) = true := by rw [beq_iff_eq]; omega
                have HN := Lib.hid (key (wr.setCell ⟨g4, j, none⟩ (.int .u8 ((v j / 2 : Nat) : Int))) (upd (mvF v j) j (v j / 2)) (v j / 2 + 128) (by rw [hsj, hq]) (hV.set j _) (fun i _ h => if_neg h) (Blk.set_other hX (by simp; omega) _) (Blk.set_other hR (by simp; omega) _) (Blk.set_other hZ (by simp; omega) _) (hO.setCell (by simp; omega) _))
                rw [show ((v j / 2 + 128 : Nat) : Int) = (v j : Int) / 2 + 128 by omega, show ((v j / 2 : Nat) : Int) = (v j : Int) / 2 by omega] at HN
                clear hX hR hZ hO hV key hsj hq
                generalize v (j - 1) = qm at *
                generalize v j = qj at *
                go_wp2_with fail
                go_roundw
                case rel => exact HN.out
                case measure => first | (simp [intOf]; done) | (simp [intOf]; omega)
              · have eq1 : ((v (j - 1) : Int) % 2 == 1) = false := by rw [beq_eq_false_iff_ne]; omega
                have HN := Lib.hid (key wr (mvF v j) (v j / 2) (by rw [hsj, show v (j - 1) % 2 = 0 by omega, Nat.zero_mul, Nat.add_zero]) hV (fun i _ _ => rfl) hX hR hZ hO)
                rw [show ((v j / 2 : Nat) : Int) = (v j : Int) / 2 by omega] at HN
                clear hX hR hZ hO hV key hsj hq
                generalize v (j - 1) = qm at *
                generalize v j = qj at *
                go_wp2_with fail
                go_roundw
                case rel => exact HN.out
                case measure => first | (simp [intOf]; done) | (simp [intOf]; omega)
          · have hs0 := shF_lt HVL.out 0 (by omega)
            have cv : wr.cell? ⟨g4, 0, none⟩ = some (.int .u8 (shF v 0 : Nat)) := hV.cell (by omega)
            have fv : wr.frozen? ⟨g4, 0, none⟩ = false := Blk.free hV 0
            have ex : bits .xor .u8 ((shF v 0 : Nat) : Int) 225 = ((shF v 0 ^^^ 225 : Nat) : Int) := u8_xor_nat _ 225 hs0 (by decide)
            cases b15
            · have HN := Lib.hid (show RM w g4 x y (k + 1) wr by
                refine ⟨hX, hR, ?_, ?_, hO⟩
                · rw [HB.out]; exact hZ
                · rw [HVK.out]; exact hV.congr fun i hi => (if_neg (fun h => absurd (H15.out.1 h.2) (by decide))).symm)
              clear hX hR hZ hO hV hs0
              go_wp2_with fail
              go_roundw
              case rel => exact ⟨k + 1, by omega, by go_num, HN.out⟩
              case measure => simp [intOf]; omega
            · have HN := Lib.hid (show RM w g4 x y (k + 1) (wr.setCell ⟨g4, 0, none⟩ (.int .u8 ((shF v 0 ^^^ 225 : Nat) : Int))) by
                refine ⟨Blk.set_other hX (by simp; omega) _, Blk.set_other hR (by simp; omega) _, ?_, ?_, hO.setCell (by simp; omega) _⟩
                · rw [HB.out]; exact Blk.set_other hZ (by simp; omega) _
                · rw [HVK.out]
                  refine (hV.set 0 (shF v 0 ^^^ 225)).congr fun i hi => ?_
                  unfold upd nxF
                  by_cases e : i = 0
                  · rw [if_pos e, if_pos ⟨e, H15.out.2 rfl⟩]
                  · rw [if_neg e, if_neg (fun h => e h.1)])
              clear hX hR hZ hO hV
              generalize shF v 0 ^^^ 225 = r2 at *
              generalize shF v 0 = r1 at *
              go_wp2_with fail
              go_roundw
              case rel => exact ⟨k + 1, by omega, by go_num, HN.out⟩
              case measure => simp [intOf]; omega
      · have h128 : ¬ (128 : Int) ≤ (p : Int) * 2 ^ (k % 8) % 256 := by
          rw [hbk] at hb
          have h1 : ¬ 128 ≤ p * 2 ^ (k % 8) % 256 := fun h => hb (decide_eq_true h)
          have e : (((p * 2 ^ (k % 8) % 256 : Nat)) : Int) = (p : Int) * 2 ^ (k % 8) % 256 := by push_cast; rfl
          rw [← e]; omega
        have HB := Lib.hid (HZK.out.trans (if_neg hb))
        obtain ⟨z5, hz5⟩ : ∃ q, z = q := ⟨_, rfl⟩
        rw [hz5] at HB hZ
        obtain ⟨w5, hw5⟩ : ∃ q, wr = q := ⟨_, rfl⟩
        rw [hw5] at hX hR hZ hV hO c15 cx ⊢
        have HX5 := Lib.hid hX
        have HR5 := Lib.hid hR
        have HZ5 := Lib.hid hZ
        have HV5 := Lib.hid hV
        have HO5 := Lib.hid hO
        clear hX hR hZ hV hO hb hbk hz5 hw5 HZK HZL
        go_wp2_with fail
        clear c15 cx
        go_loopw [9] (fun j wi => RV w g4 x z5 v j wi) (fun j _ => (intOf j + 1).toNat)
        case atStart => exact ⟨Or.inl ⟨15, by omega, rfl, HV5.out.congr fun i hi => (if_neg (show ¬ 15 < i by omega)).symm⟩, HX5.out, HR5.out, HZ5.out, HO5.out⟩
        case round =>
          obtain ⟨hj, hX, hR, hZ, hO⟩ := hrel
          rcases hj with ⟨j, hj, rfl, hV⟩ | ⟨rfl, hV⟩
          · rcases Nat.eq_zero_or_pos j with rfl | hjp
            · have hp0 := HVL.out 0 (by omega)
              have cv : wr.cell? ⟨g4, 0, none⟩ = some (.int .u8 (v 0 : Nat)) := hV.cell (by omega)
              have fv : wr.frozen? ⟨g4, 0, none⟩ = false := Blk.free hV 0
              have HN := Lib.hid (show RV w g4 x z5 v (.int .i64 (-1)) (wr.setCell ⟨g4, 0, none⟩ (.int .u8 ((v 0 : Int) / 2))) by
                refine ⟨Or.inr ⟨rfl, ?_⟩, Blk.set_other hX (by simp; omega) _, Blk.set_other hR (by simp; omega) _, Blk.set_other hZ (by simp; omega) _, hO.setCell (by simp; omega) _⟩
                have := hV.set 0 (v 0 / 2)
                rw [show ((v 0 / 2 : Nat) : Int) = (v 0 : Int) / 2 by omega] at this
                refine this.congr fun i hi => ?_
                unfold upd mvF
                by_cases e : i = 0
                · subst e; rw [if_pos rfl]; show v 0 / 2 = v 0 / 2 + 0; rfl
                · rw [if_neg e, if_pos (by omega)])
              clear hX hR hZ hO hV
              generalize v 0 = q0 at *
              go_wp2_with fail
              go_roundw
              case rel => exact HN.out
              case measure => simp [intOf]
            · have hpj := HVL.out j hj
              have hpm := HVL.out (j - 1) (by omega)
              have cv : wr.cell? ⟨g4, j, none⟩ = some (.int .u8 (v j : Nat)) := by
                have := hV.cell hj; unfold mvF at this; rw [if_neg (by omega)] at this; exact this
              have cm : wr.cell? ⟨g4, j - 1, none⟩ = some (.int .u8 (v (j - 1) : Nat)) := by
                have := hV.cell (show j - 1 < 16 by omega); unfold mvF at this; rw [if_neg (by omega)] at this; exact this
              have fv : wr.frozen? ⟨g4, j, none⟩ = false := Blk.free hV j
              have j0 : (0 : Int) < (j : Int) := by omega
              have j1 : (j : Int) < 16 := by omega
              have key : ∀ (ww : World) (F : Nat → Nat) (r : Nat), r = shF v j → A16 ww g4 F → (∀ i, i < 16 → i ≠ j → F i = mvF v j i) → A16 ww w.heap.size x → A16 ww (w.heap.size + 1 + 1) (fun _ => 0) → A16 ww (w.heap.size + 1 + 1 + 1) z5 → Below w.heap.size w ww →
                  RV w g4 x z5 v (.int .i64 ((j : Int) - 1)) (ww.setCell ⟨g4, j, none⟩ (.int .u8 (r : Int))) := by
                intro ww F r hr hV hF hX hR hZ hO
                refine ⟨Or.inl ⟨j - 1, by omega, by rw [show ((j - 1 : Nat) : Int) = (j : Int) - 1 by omega], ?_⟩, Blk.set_other hX (by simp; omega) _, Blk.set_other hR (by simp; omega) _, Blk.set_other hZ (by simp; omega) _, hO.setCell (by simp; omega) _⟩
                refine (hV.set j r).congr fun i hi => ?_
                unfold upd
                by_cases e : i = j
                · subst e; rw [if_pos rfl]; unfold mvF; rw [if_pos (by omega)]; exact hr
                · rw [if_neg e, hF i hi e]; unfold mvF
                  by_cases h5 : j < i
                  · rw [if_pos h5, if_pos (by omega)]
                  · rw [if_neg h5, if_neg (by omega)]
              have hsj : shF v j = v j / 2 + v (j - 1) % 2 * 128 := by unfold shF; rw [if_pos hjp]
              by_cases hq : v (j - 1) % 2 = 1
              · have eq1 : ((v (j - 1) : Int) % 2 == 1) = true := by rw [beq_iff_eq]; omega
                have HN := Lib.hid (key (wr.setCell ⟨g4, j, none⟩ (.int .u8 ((v j / 2 : Nat) : Int))) (upd (mvF v j) j (v j / 2)) (v j / 2 + 128) (by rw [hsj, hq]) (hV.set j _) (fun i _ h => if_neg h) (Blk.set_other hX (by simp; omega) _) (Blk.set_other hR (by simp; omega) _) (Blk.set_other hZ (by simp; omega) _) (hO.setCell (by simp; omega) _))
                rw [show ((v j / 2 + 128 : Nat) : Int) = (v j : Int) / 2 + 128 by omega, show ((v j / 2 : Nat) : Int) = (v j : Int) / 2 by omega] at HN
                clear hX hR hZ hO hV key hsj hq
                generalize v (j - 1) = qm at *
                generalize v j = qj at *
                go_wp2_with fail
                go_roundw
                case rel => exact HN.out
                case measure => first | (simp [intOf]; done) | (simp [intOf]; omega)
              · have eq1 : ((v (j - 1) : Int) % 2 == 1) = false := by rw [beq_eq_false_iff_ne]; omega
                have HN := Lib.hid (key wr (mvF v j) (v j / 2) (by rw [hsj, show v (j - 1) % 2 = 0 by omega, Nat.zero_mul, Nat.add_zero]) hV (fun i _ _ => rfl) hX hR hZ hO)
                rw [show ((v j / 2 : Nat) : Int) = (v j : Int) / 2 by omega] at HN
                clear hX hR hZ hO hV key hsj hq
                generalize v (j - 1) = qm at *
                generalize v j = qj at *
                go_wp2_with fail
                go_roundw
                case rel => exact HN.out
                case measure => first | (simp [intOf]; done) | (simp [intOf]; omega)
          · have hs0 := shF_lt HVL.out 0 (by omega)
            have cv : wr.cell? ⟨g4, 0, none⟩ = some (.int .u8 (shF v 0 : Nat)) := hV.cell (by omega)
            have fv : wr.frozen? ⟨g4, 0, none⟩ = false := Blk.free hV 0
            have ex : bits .xor .u8 ((shF v 0 : Nat) : Int) 225 = ((shF v 0 ^^^ 225 : Nat) : Int) := u8_xor_nat _ 225 hs0 (by decide)
            cases b15
            · have HN := Lib.hid (show RM w g4 x y (k + 1) wr by
                refine ⟨hX, hR, ?_, ?_, hO⟩
                · rw [HB.out]; exact hZ
                · rw [HVK.out]; exact hV.congr fun i hi => (if_neg (fun h => absurd (H15.out.1 h.2) (by decide))).symm)
              clear hX hR hZ hO hV hs0
              go_wp2_with fail
              go_roundw
              case rel => exact ⟨k + 1, by omega, by go_num, HN.out⟩
              case measure => simp [intOf]; omega
            · have HN := Lib.hid (show RM w g4 x y (k + 1) (wr.setCell ⟨g4, 0, none⟩ (.int .u8 ((shF v 0 ^^^ 225 : Nat) : Int))) by
                refine ⟨Blk.set_other hX (by simp; omega) _, Blk.set_other hR (by simp; omega) _, ?_, ?_, hO.setCell (by simp; omega) _⟩
                · rw [HB.out]; exact Blk.set_other hZ (by simp; omega) _
                · rw [HVK.out]
                  refine (hV.set 0 (shF v 0 ^^^ 225)).congr fun i hi => ?_
                  unfold upd nxF
                  by_cases e : i = 0
                  · rw [if_pos e, if_pos ⟨e, H15.out.2 rfl⟩]
                  · rw [if_neg e, if_neg (fun h => e h.1)])
              clear hX hR hZ hO hV
              generalize shF v 0 ^^^ 225 = r2 at *
              generalize shF v 0 = r1 at *
              go_wp2_with fail
              go_roundw
              case rel => exact ⟨k + 1, by omega, by go_num, HN.out⟩
              case measure => simp [intOf]; omega
    · obtain rfl : k = 128 := by omega
      obtain ⟨M, hM⟩ : ∃ C, (rowC 16 (mulF x y)).toArray = C := ⟨_, rfl⟩
      have HCM : Hid (∃ f, M = (rowC 16 f).toArray) := Lib.hid ⟨_, hM.symm⟩
      have HCZ : Hid (∃ f, zero16 = (rowC 16 f).toArray) := Lib.hid ⟨_, rfl⟩
      have HZ5 : Hid (Blk wr (w.heap.size + 1 + 1 + 1) M 40) := Lib.hid (by
        have := hZ.congr (zB_mul HX0.out HY0.out)
        unfold A16 at this; rw [hM] at this; exact this)
      have HR5 : Hid (Blk wr (w.heap.size + 1 + 1) zero16 40) := Lib.hid hR
      have HN : Hid (Blk (wr.setCells (w.heap.size + 1 + 1) 0 M.toList) (w.heap.size + 1 + 1) M 40) := Lib.hid (Blk.store16a HR5.out HCM.out HCZ.out)
      have HO5 : Hid (Below w.heap.size w (wr.setCells (w.heap.size + 1 + 1) 0 M.toList)) := Lib.hid (Below.set16 (g := w.heap.size + 1 + 1) hO (by omega) hO.size _)
      have HM := Lib.hid hM
      clear hX hR hZ hV hO hM hlt hk
      go_wp2_with (first
        | (refine wpList_load16a rfl (.tmp 5) rfl (w.heap.size + 1 + 1 + 1) rfl M HZ5.out HCM.out ?_)
        | (refine wpList_store16a rfl (.tmp 4) (.tmp 62) rfl (w.heap.size + 1 + 1) rfl M zero16 rfl HR5.out HCM.out HCZ.out ?_))
      refine bodyPost_ret (v := .agg M) ?_ rfl ⟨by rw [HM.out], HO5.out⟩
      exact res16a Tryz.results60 _ _ (w.heap.size + 1 + 1) M rfl HN.out HCM.out
end Go.Proofs.YtkcbckafibjflaaGreatDoor
namespace Go.Proofs.YtkcbckafibjflaaGreatDoor
set_option linter.unusedVariables false
set_option linter.unusedSimpArgs false
open Go.RowKit

/-- Behind k blocks. -/
def TJ (w0 : World) (h f s : Nat → Nat) (n k : Nat) (wr : World) : Prop := A16 wr w0.heap.size (thrF h f n s k) ∧ A16 wr (w0.heap.size + 1) h ∧ A16 wr (w0.heap.size + 1 + 1) (fun _ => 0) ∧ Below w0.heap.size w0 wr
/-- While a block is filled: behind i bytes. -/
def TF (w0 : World) (h f s : Nat → Nat) (n k g i : Nat) (wr : World) : Prop := A16 wr g (fun j => if j < i then chF f n k j else 0) ∧ TJ w0 h f s n k wr
set_option maxRecDepth 100000 in
set_option maxHeartbeats 8000000 in
theorem take_any (s y f : Nat → Nat) (oa : Option Addr) (n cap : Nat) (w : World) (hs : ∀ i, i < 16 → s i < 256) (hh : ∀ i, i < 16 → y i < 256) (hb : Bytes w oa n f) (hn : n < 1000000) :
    Calls Tryz.prog 54 #[.agg (rowC 16 s).toArray, .agg (rowC 16 y).toArray, .slice oa n cap] w fun e w' => e = .returned (.agg (rowC 16 (thrF y f n s ((n + 15) / 16))).toArray) ∧ Below w.heap.size w w' := by
  have hz := zero16a_run
  obtain ⟨C, hC⟩ : ∃ C, (rowC 16 s).toArray = C := ⟨_, rfl⟩
  obtain ⟨D, hD⟩ : ∃ C, (rowC 16 y).toArray = C := ⟨_, rfl⟩
  have hf : ∀ i, i < n → f i < 256 := fun i hi => (hb i hi).1
  have HT := Lib.hid (show TJ w y f s n 0 (((w.alloc (.cells C 40)).alloc (.cells D 40)).alloc (.cells zero16 40)) by
    rw [← hC, ← hD]
    refine ⟨((Blk.new w _ 40).alloc _).alloc _, ?_, ?_, (((Below.refl _ _).alloc (Nat.le_refl _) _).alloc (by simp) _).alloc (by simp; omega) _⟩
    · have := (Blk.new (w.alloc (.cells (rowC 16 s).toArray 40)) (rowC 16 y).toArray 40).alloc (.cells zero16 40)
      unfold A16; simpa using this
    · have := Blk.new ((w.alloc (.cells (rowC 16 s).toArray 40)).alloc (.cells (rowC 16 y).toArray 40)) zero16 40
      show Blk _ _ zero16 _; simpa using this)
  have HD3 := Lib.hid hD
  have HS := Lib.hid hs
  have HH := Lib.hid hh
  have HF := Lib.hid hf
  have HBy := Lib.hid hb
  rw [hC, hD]
  clear hs hh hb hf hC hD
  go_enter Tryz.func54, Tryz.ntmps54
  go_wp2_with fail
  go_loopw [7] (fun v wr => ∃ k a : Nat, k ≤ (n + 15) / 16 ∧ a = 16 * k ∧ v = .int .i64 (a : Int) ∧ TJ w y f s n k wr) (fun v _ => n + 16 - (intOf v).toNat)
  case atStart => exact ⟨0, 0, Nat.zero_le _, rfl, rfl, HT.out⟩
  case round =>
    clear HT
    obtain ⟨k, a, hk, ha, rfl, hJ⟩ := hrel
    have HA := Lib.hid ha
    have HK := Lib.hid hk
    clear ha hk
    by_cases hlt : a < n
    · have hl : (a : Int) < (n : Int) := by omega
      have a0 : (0 : Int) ≤ (a : Int) := by omega
      have n9 : (n : Int) < 1000000 := by omega
      obtain ⟨_, b, off, rfl, _⟩ := HBy.out a hlt
      obtain ⟨g, hg⟩ : ∃ q, wr.heap.size = q := ⟨_, rfl⟩
      obtain ⟨wa, hwa⟩ : ∃ q, wr.alloc (.cells zero16 40) = q := ⟨_, rfl⟩
      have hba : Below wr.heap.size wr wa := by rw [← hwa]; exact (Below.refl _ _).alloc (Nat.le_refl _) _
      have HT : Hid (TF w y f s n k g 0 wa) := Lib.hid (by
        obtain ⟨h1, h2, h3, h4⟩ := hJ
        refine ⟨?_, Blk.below h1 hba (Blk.lt h1), Blk.below h2 hba (Blk.lt h2), Blk.below h3 hba (Blk.lt h3), h4.trans (hba.mono h4.size)⟩
        have : A16 wa g (fun _ => 0) := by rw [← hwa, ← hg]; exact Blk.new wr zero16 40
        exact this.congr fun i _ => (if_neg (Nat.not_lt_zero i)).symm)
      have HG : Hid (w.heap.size + 1 + 1 < g) := Lib.hid (by rw [← hg]; exact Blk.lt hJ.2.2.1)
      clear hJ hba
      go_wp2_with fail
      clear hz hwa hg
      go_loopw [9] (fun v wi => ∃ i : Nat, i ≤ 16 ∧ a + i ≤ n ∧ v = .int .i64 (i : Int) ∧ TF w y f s n k g i wi) (fun v _ => 16 - (intOf v).toNat)
      case atStart => exact ⟨0, Nat.zero_le _, by omega, rfl, HT.out⟩
      case round =>
        clear HT
        obtain ⟨i, hi, hai, rfl, hE, hJ⟩ := hrel
        by_cases hc : i < 16 ∧ a + i < n
        · obtain ⟨hi2, hai2⟩ := hc
          have i0 : (0 : Int) ≤ (i : Int) := by omega
          have i1 : (i : Int) < 16 := by omega
          have i2 : (a : Int) + (i : Int) < (n : Int) := by omega
          obtain ⟨hfa, b', off', eb, hcell⟩ := HBy.out (a + i) hai2
          cases eb
          have hO := hJ.2.2.2
          have cb : wr.cell? ⟨b, off + (a + i), none⟩ = some (.int .u8 (f (a + i) : Nat)) := cell_below hO hcell
          have cx : wr.cell? ⟨g, i, none⟩ = some (.int .u8 0) := by
            have := hE.cell hi2; rw [if_neg (Nat.lt_irrefl _)] at this; exact this
          have fx : wr.frozen? ⟨g, i, none⟩ = false := Blk.free hE i
          have hgg := HG.out
          have HN := Lib.hid (show TF w y f s n k g (i + 1) (wr.setCell ⟨g, i, none⟩ (.int .u8 (f (a + i) : Nat))) by
            obtain ⟨h1, h2, h3, h4⟩ := hJ
            refine ⟨(hE.set i (f (a + i))).congr fun j hj => ?_, Blk.set_other h1 (by simp; omega) _, Blk.set_other h2 (by simp; omega) _, Blk.set_other h3 (by simp; omega) _, h4.setCell (by simp; omega) _⟩
            unfold upd
            by_cases e : j = i
            · subst e; rw [if_pos rfl, if_pos (by omega)]; show f (a + j) = if 16 * k + j < n then f (16 * k + j) else 0
              rw [← HA.out, if_pos hai2]
            · rw [if_neg e]
              show (if j < i then chF f n k j else 0) = if j < i + 1 then chF f n k j else 0
              by_cases h5 : j < i
              · rw [if_pos h5, if_pos (by omega)]
              · rw [if_neg h5, if_neg (by omega)])
          clear hE hJ hO hcell hgg
          generalize f (a + i) = r at *
          go_wp2_with fail
          go_roundw
          case rel => exact ⟨i + 1, by omega, by omega, by go_num, HN.out⟩
          case measure => simp [intOf]; omega
        · have hE2 : A16 wr g (chF f n k) := hE.congr fun j hj => by
            by_cases h5 : j < i
            · rw [if_pos h5]
            · rw [if_neg h5]; show 0 = if 16 * k + j < n then f (16 * k + j) else 0
              rw [if_neg (by rw [← HA.out]; omega)]
          obtain ⟨h1, h2, h3, h4⟩ := hJ
          obtain ⟨F3, hF3⟩ : ∃ x, (rowC 16 (thrF y f n s k)).toArray = x := ⟨_, rfl⟩
          obtain ⟨E, hE3⟩ : ∃ x, (rowC 16 (chF f n k)).toArray = x := ⟨_, rfl⟩
          obtain ⟨A3, hA3⟩ : ∃ x, (rowC 16 (addF (thrF y f n s k) (chF f n k))).toArray = x := ⟨_, rfl⟩
          obtain ⟨M, hM3⟩ : ∃ x, (rowC 16 (thrF y f n s (k + 1))).toArray = x := ⟨_, rfl⟩
          have htl : ∀ i, i < 16 → thrF y f n s k i < 256 := fun i hi => thrF_lt HS.out k i hi
          have hcl2 : ∀ i, i < 16 → chF f n k i < 256 := fun i _ => chF_lt HF.out i
          have HADD : Hid (∀ w, Calls Tryz.prog 40 #[.agg F3, .agg E] w fun e w' => e = .returned (.agg A3) ∧ Below w.heap.size w w') := Lib.hid fun w => by
            rw [← hF3, ← hE3, ← hA3]; exact radd_any _ _ w htl hcl2
          have HMUL : Hid (∀ w, Calls Tryz.prog 60 #[.agg A3, .agg D] w fun e w' => e = .returned (.agg M) ∧ Below w.heap.size w w') := Lib.hid fun w => by
            rw [← HD3.out, ← hA3, ← hM3]; exact rmul_any _ _ w (addF_lt htl hcl2) HH.out
          have HIF : Hid ((Tryz.prog.info? 40).map (·.size) = some F3.size) := Lib.hid (hF3 ▸ info16a _)
          have HIE : Hid ((Tryz.prog.info? 40).map (·.size) = some E.size) := Lib.hid (hE3 ▸ info16a _)
          have HID : Hid ((Tryz.prog.info? 40).map (·.size) = some D.size) := Lib.hid (HD3.out ▸ info16a _)
          have HM5 : Hid (∃ f, M = (rowC 16 f).toArray) := Lib.hid ⟨_, hM3.symm⟩
          have HF5 : Hid (∃ f, F3 = (rowC 16 f).toArray) := Lib.hid ⟨_, hF3.symm⟩
          have hgg := HG.out
          have HNE : Hid (∀ p ∈ [(g, E), (w.heap.size + 1, D)], p.1 ≠ w.heap.size) := Lib.hid (by
            intro p hp
            rcases List.mem_cons.1 hp with rfl | hp
            · show g ≠ _; omega
            · rcases List.mem_cons.1 hp with rfl | hp
              · exact Nat.succ_ne_self _
              · cases hp)
          have HNZ : Hid (w.heap.size + 1 + 1 ≠ w.heap.size) := Lib.hid (by omega)
          have HM6 : Hid (M = (rowC 16 (thrF y f n s (k + 1))).toArray) := Lib.hid hM3.symm
          have HD6 : Hid (D = (rowC 16 y).toArray) := Lib.hid HD3.out.symm
          have HK1 : Hid (k + 1 ≤ (n + 15) / 16) := Lib.hid (by have := HA.out; omega)
          have HA1 : Hid (a + 16 = 16 * (k + 1)) := Lib.hid (by have := HA.out; omega)
          have g1 : Blk wr w.heap.size F3 40 := hF3 ▸ h1
          have g2 : Blk wr (w.heap.size + 1) D 40 := HD3.out ▸ h2
          have g3 : Blk wr g E 40 := hE3 ▸ hE2
          have HS9 := Lib.hid (SA.cons g3 (SA.cons g2 (SA.nil _)))
          have HX9 := Lib.hid g1
          have HZ9 := Lib.hid h3
          have HO9 := Lib.hid h4
          have hci : ¬ i < 16 ∨ (i < 16 ∧ ¬ a + i < n) := by omega
          clear hE hE2 h1 h2 h3 h4 hF3 hE3 hA3 hM3 htl hcl2 g1 g2 g3 hc hgg
          rcases hci with hc | ⟨hc1, hc⟩
          · have hc' : ¬ (i : Int) < 16 := by omega
            go_wp2_with fail
            have hS_0 := HS9.out.drew
            have hX_0 := Blk.drew HX9.out
            have hZ_0 := Blk.drew HZ9.out
            have hO_0 := HO9.out.drew
            clear HS9 HX9 HZ9 HO9
            refine wp_region_held_drew (S := (SA [(g, E), (w.heap.size + 1, D)])) (by kernel_rfl) ?_ (fun hHeld => ?_)
            · (try dsimp only)
              first | assumption | (apply SA.drew; assumption)
            generalize wr.drew = w5 at *
            refine wpAnyH_take (i := 1) (oi := { dst := some 37, op := Go.Op.load 40 (Go.Operand.tmp 8), type := 40, pos := "ref.go:42", after := #[], guard := none }) (v := ?_) rfl (by kernel_rfl) (by kernel_rfl) (by kernel_rfl) (fun _ _ _ h => h) (Or.inl ⟨by rfl, ?_⟩) (by assumption) ?_
            rotate_left
            · intro wS hSw
              refine exec_load16a (x := .tmp 8) ?_ ?_ (ld16a hSw.h0 HIE.out) <;> rfl
            (try simp only [Act.put, List.setIfInBounds_toArray, List.set_cons_zero, List.set_cons_succ])
            refine wpAnyH_take (i := 3) (oi := { dst := some 39, op := Go.Op.load 40 (Go.Operand.tmp 4), type := 40, pos := "ref.go:42", after := #[], guard := none }) (v := ?_) rfl (by kernel_rfl) (by kernel_rfl) (by kernel_rfl) (fun _ _ _ h => h) (Or.inl ⟨by rfl, ?_⟩) (by assumption) ?_
            rotate_left
            · intro wS hSw
              refine exec_load16a (x := .tmp 4) ?_ ?_ (ld16a hSw.tl.h0 HID.out) <;> rfl
            (try simp only [Act.put, List.setIfInBounds_toArray, List.set_cons_zero, List.set_cons_succ])
            refine wpAnyH_ready (rs := [0]) (by kernel_rfl) (by simp) ?_
            refine AllReadyH.cons (o := { dst := some 36, op := Go.Op.load 40 (Go.Operand.tmp 3), type := 40, pos := "ref.go:42", after := #[], guard := none }) rfl (fun K hK => ?_) AllReadyH.nil
            refine step_load16a rfl (.tmp 3) rfl w.heap.size rfl F3 hX_0 HIF.out ?_
            refine hK.out _ _ ?_ (fun hHeld => ?_)
            · (try dsimp only)
              first | assumption | (apply SA.drew; assumption)
            clear hK K
            (try simp only [Act.put, List.setIfInBounds_toArray, List.set_cons_zero, List.set_cons_succ])
            refine wpAnyH_ready (rs := [2]) (by kernel_rfl) (by simp) ?_
            refine AllReadyH.cons (o := { dst := some 38, op := Go.Op.call { callee := Go.Callee.value (Go.Operand.func 40), args := #[Go.Operand.tmp 36, Go.Operand.tmp 37], argTypes := #[40, 40] }, type := 40, pos := "ref.go:42", after := #[{ on := 0, ground := Go.Ground.data }, { on := 1, ground := Go.Ground.data }], guard := none }) rfl (fun K hK => ?_) AllReadyH.nil
            go_simp
            (refine (HADD.out _).mono ?_; rintro e v_1 ⟨rfl, hb_1⟩; have hS_1 := SA.later hS_0 hb_1; have hX_1 := Blk.below hX_0 hb_1 (Blk.lt hX_0); have hZ_1 := Blk.below hZ_0 hb_1 (Blk.lt hZ_0); have hO_1 := Below.trans hO_0 (hb_1.mono hO_0.size); clear hS_0 hX_0 hZ_0 hO_0; clear hb_1; skip)
            (try go_wp2_with fail)
            refine hK.out _ _ ?_ (fun hHeld => ?_)
            · (try dsimp only)
              first | assumption | (apply SA.drew; assumption)
            clear hK K
            (try simp only [Act.put, List.setIfInBounds_toArray, List.set_cons_zero, List.set_cons_succ])
            refine wpAnyH_ready (rs := [4]) (by kernel_rfl) (by simp) ?_
            refine AllReadyH.cons (o := { dst := some 40, op := Go.Op.call { callee := Go.Callee.value (Go.Operand.func 60), args := #[Go.Operand.tmp 38, Go.Operand.tmp 39], argTypes := #[40, 40] }, type := 40, pos := "ref.go:42", after := #[{ on := 2, ground := Go.Ground.data }, { on := 3, ground := Go.Ground.data }, { on := 2, ground := Go.Ground.chain }], guard := none }) rfl (fun K hK => ?_) AllReadyH.nil
            go_simp
            (refine (HMUL.out _).mono ?_; rintro e v_2 ⟨rfl, hb_2⟩; have hS_2 := SA.later hS_1 hb_2; have hX_2 := Blk.below hX_1 hb_2 (Blk.lt hX_1); have hZ_2 := Blk.below hZ_1 hb_2 (Blk.lt hZ_1); have hO_2 := Below.trans hO_1 (hb_2.mono hO_1.size); clear hS_1 hX_1 hZ_1 hO_1; clear hb_2; skip)
            (try go_wp2_with fail)
            refine hK.out _ _ ?_ (fun hHeld => ?_)
            · (try dsimp only)
              first | assumption | (apply SA.drew; assumption)
            clear hK K
            (try simp only [Act.put, List.setIfInBounds_toArray, List.set_cons_zero, List.set_cons_succ])
            refine wpAnyH_ready (rs := [5]) (by kernel_rfl) (by simp) ?_
            refine AllReadyH.cons (o := { dst := none, op := Go.Op.store 40 (Go.Operand.tmp 3) (Go.Operand.tmp 40), type := 0, pos := "ref.go:42", after := #[{ on := 4, ground := Go.Ground.data }, { on := 4, ground := Go.Ground.chain }, { on := 0, ground := Go.Ground.phase }, { on := 1, ground := Go.Ground.phase }, { on := 2, ground := Go.Ground.phase }, { on := 3, ground := Go.Ground.phase }, { on := 4, ground := Go.Ground.phase }], guard := none }) rfl (fun K hK => ?_) AllReadyH.nil
            (refine step_store16a rfl (.tmp 3) (.tmp 40) rfl w.heap.size rfl M F3 rfl hX_2 HM5.out HF5.out ?_; have hX_3 := Blk.store16a hX_2 HM5.out HF5.out; have hS_3 := SA.set hS_2 HNE.out M.toList; have hZ_3 := (Own.setCells M.toList 0 v_2).blk hZ_2 HNZ.out; have hO_3 := Below.set16 (g := w.heap.size) hO_2 (Nat.le_refl _) hO_2.size M.toList; obtain ⟨v_3, hw_3⟩ : ∃ q, (v_2.setCells w.heap.size 0 M.toList) = q := ⟨_, rfl⟩; rw [hw_3] at hX_3 hS_3 hZ_3 hO_3 ⊢; clear hX_2 hS_2 hZ_2 hO_2 hw_3; skip)
            refine hK.out _ _ ?_ (fun hHeld => ?_)
            · (try dsimp only)
              first | assumption | (apply SA.drew; assumption)
            clear hK K
            (try simp only [Act.put, List.setIfInBounds_toArray, List.set_cons_zero, List.set_cons_succ])
            refine wpAnyH_done (by kernel_rfl) ?_ _
            have HX9 := Lib.hid hX_3
            have HZ9 := Lib.hid hZ_3
            have HS9 := Lib.hid hS_3
            have HO9 := Lib.hid hO_3
            clear hX_3 hZ_3 hS_3 hO_3
            go_wp2_with fail
            go_roundw
            case rel => exact ⟨k + 1, a + 16, HK1.out, HA1.out, by go_num, (by have q9 := HX9.out; rw [HM6.out] at q9; exact q9), (by have q9 := HS9.out.tl.h0; rw [HD6.out] at q9; exact q9), HZ9.out, HO9.out⟩
            case measure => simp [intOf]; omega
          · have hc0 : (i : Int) < 16 := by omega
            have hc' : ¬ (a : Int) + (i : Int) < (n : Int) := by omega
            go_wp2_with fail
            have hS_0 := HS9.out.drew
            have hX_0 := Blk.drew HX9.out
            have hZ_0 := Blk.drew HZ9.out
            have hO_0 := HO9.out.drew
            clear HS9 HX9 HZ9 HO9
            refine wp_region_held_drew (S := (SA [(g, E), (w.heap.size + 1, D)])) (by kernel_rfl) ?_ (fun hHeld => ?_)
            · (try dsimp only)
              first | assumption | (apply SA.drew; assumption)
            generalize wr.drew = w5 at *
            refine wpAnyH_take (i := 1) (oi := { dst := some 37, op := Go.Op.load 40 (Go.Operand.tmp 8), type := 40, pos := "ref.go:42", after := #[], guard := none }) (v := ?_) rfl (by kernel_rfl) (by kernel_rfl) (by kernel_rfl) (fun _ _ _ h => h) (Or.inl ⟨by rfl, ?_⟩) (by assumption) ?_
            rotate_left
            · intro wS hSw
              refine exec_load16a (x := .tmp 8) ?_ ?_ (ld16a hSw.h0 HIE.out) <;> rfl
            (try simp only [Act.put, List.setIfInBounds_toArray, List.set_cons_zero, List.set_cons_succ])
            refine wpAnyH_take (i := 3) (oi := { dst := some 39, op := Go.Op.load 40 (Go.Operand.tmp 4), type := 40, pos := "ref.go:42", after := #[], guard := none }) (v := ?_) rfl (by kernel_rfl) (by kernel_rfl) (by kernel_rfl) (fun _ _ _ h => h) (Or.inl ⟨by rfl, ?_⟩) (by assumption) ?_
            rotate_left
            · intro wS hSw
              refine exec_load16a (x := .tmp 4) ?_ ?_ (ld16a hSw.tl.h0 HID.out) <;> rfl
            (try simp only [Act.put, List.setIfInBounds_toArray, List.set_cons_zero, List.set_cons_succ])
            refine wpAnyH_ready (rs := [0]) (by kernel_rfl) (by simp) ?_
            refine AllReadyH.cons (o := { dst := some 36, op := Go.Op.load 40 (Go.Operand.tmp 3), type := 40, pos := "ref.go:42", after := #[], guard := none }) rfl (fun K hK => ?_) AllReadyH.nil
            refine step_load16a rfl (.tmp 3) rfl w.heap.size rfl F3 hX_0 HIF.out ?_
            refine hK.out _ _ ?_ (fun hHeld => ?_)
            · (try dsimp only)
              first | assumption | (apply SA.drew; assumption)
            clear hK K
            (try simp only [Act.put, List.setIfInBounds_toArray, List.set_cons_zero, List.set_cons_succ])
            refine wpAnyH_ready (rs := [2]) (by kernel_rfl) (by simp) ?_
            refine AllReadyH.cons (o := { dst := some 38, op := Go.Op.call { callee := Go.Callee.value (Go.Operand.func 40), args := #[Go.Operand.tmp 36, Go.Operand.tmp 37], argTypes := #[40, 40] }, type := 40, pos := "ref.go:42", after := #[{ on := 0, ground := Go.Ground.data }, { on := 1, ground := Go.Ground.data }], guard := none }) rfl (fun K hK => ?_) AllReadyH.nil
            go_simp
            (refine (HADD.out _).mono ?_; rintro e v_4 ⟨rfl, hb_4⟩; have hS_4 := SA.later hS_0 hb_4; have hX_4 := Blk.below hX_0 hb_4 (Blk.lt hX_0); have hZ_4 := Blk.below hZ_0 hb_4 (Blk.lt hZ_0); have hO_4 := Below.trans hO_0 (hb_4.mono hO_0.size); clear hS_0 hX_0 hZ_0 hO_0; clear hb_4; skip)
            (try go_wp2_with fail)
            refine hK.out _ _ ?_ (fun hHeld => ?_)
            · (try dsimp only)
              first | assumption | (apply SA.drew; assumption)
            clear hK K
            (try simp only [Act.put, List.setIfInBounds_toArray, List.set_cons_zero, List.set_cons_succ])
            refine wpAnyH_ready (rs := [4]) (by kernel_rfl) (by simp) ?_
            refine AllReadyH.cons (o := { dst := some 40, op := Go.Op.call { callee := Go.Callee.value (Go.Operand.func 60), args := #[Go.Operand.tmp 38, Go.Operand.tmp 39], argTypes := #[40, 40] }, type := 40, pos := "ref.go:42", after := #[{ on := 2, ground := Go.Ground.data }, { on := 3, ground := Go.Ground.data }, { on := 2, ground := Go.Ground.chain }], guard := none }) rfl (fun K hK => ?_) AllReadyH.nil
            go_simp
            (refine (HMUL.out _).mono ?_; rintro e v_5 ⟨rfl, hb_5⟩; have hS_5 := SA.later hS_4 hb_5; have hX_5 := Blk.below hX_4 hb_5 (Blk.lt hX_4); have hZ_5 := Blk.below hZ_4 hb_5 (Blk.lt hZ_4); have hO_5 := Below.trans hO_4 (hb_5.mono hO_4.size); clear hS_4 hX_4 hZ_4 hO_4; clear hb_5; skip)
            (try go_wp2_with fail)
            refine hK.out _ _ ?_ (fun hHeld => ?_)
            · (try dsimp only)
              first | assumption | (apply SA.drew; assumption)
            clear hK K
            (try simp only [Act.put, List.setIfInBounds_toArray, List.set_cons_zero, List.set_cons_succ])
            refine wpAnyH_ready (rs := [5]) (by kernel_rfl) (by simp) ?_
            refine AllReadyH.cons (o := { dst := none, op := Go.Op.store 40 (Go.Operand.tmp 3) (Go.Operand.tmp 40), type := 0, pos := "ref.go:42", after := #[{ on := 4, ground := Go.Ground.data }, { on := 4, ground := Go.Ground.chain }, { on := 0, ground := Go.Ground.phase }, { on := 1, ground := Go.Ground.phase }, { on := 2, ground := Go.Ground.phase }, { on := 3, ground := Go.Ground.phase }, { on := 4, ground := Go.Ground.phase }], guard := none }) rfl (fun K hK => ?_) AllReadyH.nil
            (refine step_store16a rfl (.tmp 3) (.tmp 40) rfl w.heap.size rfl M F3 rfl hX_5 HM5.out HF5.out ?_; have hX_6 := Blk.store16a hX_5 HM5.out HF5.out; have hS_6 := SA.set hS_5 HNE.out M.toList; have hZ_6 := (Own.setCells M.toList 0 v_5).blk hZ_5 HNZ.out; have hO_6 := Below.set16 (g := w.heap.size) hO_5 (Nat.le_refl _) hO_5.size M.toList; obtain ⟨v_6, hw_6⟩ : ∃ q, (v_5.setCells w.heap.size 0 M.toList) = q := ⟨_, rfl⟩; rw [hw_6] at hX_6 hS_6 hZ_6 hO_6 ⊢; clear hX_5 hS_5 hZ_5 hO_5 hw_6; skip)
            refine hK.out _ _ ?_ (fun hHeld => ?_)
            · (try dsimp only)
              first | assumption | (apply SA.drew; assumption)
            clear hK K
            (try simp only [Act.put, List.setIfInBounds_toArray, List.set_cons_zero, List.set_cons_succ])
            refine wpAnyH_done (by kernel_rfl) ?_ _
            have HX9 := Lib.hid hX_6
            have HZ9 := Lib.hid hZ_6
            have HS9 := Lib.hid hS_6
            have HO9 := Lib.hid hO_6
            clear hX_6 hZ_6 hS_6 hO_6
            go_wp2_with fail
            go_roundw
            case rel => exact ⟨k + 1, a + 16, HK1.out, HA1.out, by go_num, (by have q9 := HX9.out; rw [HM6.out] at q9; exact q9), (by have q9 := HS9.out.tl.h0; rw [HD6.out] at q9; exact q9), HZ9.out, HO9.out⟩
            case measure => simp [intOf]; omega
    · have hk := HK.out
      have ha := HA.out
      obtain rfl : k = (n + 15) / 16 := by omega
      obtain ⟨h1, h2, h3, h4⟩ := hJ
      obtain ⟨M, hM⟩ : ∃ C, (rowC 16 (thrF y f n s ((n + 15) / 16))).toArray = C := ⟨_, rfl⟩
      have HCM : Hid (∃ f, M = (rowC 16 f).toArray) := Lib.hid ⟨_, hM.symm⟩
      have HCZ : Hid (∃ f, zero16 = (rowC 16 f).toArray) := Lib.hid ⟨_, rfl⟩
      have HX5 : Hid (Blk wr w.heap.size M 40) := Lib.hid (hM ▸ h1)
      have HR5 : Hid (Blk wr (w.heap.size + 1 + 1) zero16 40) := Lib.hid h3
      have HN : Hid (Blk (wr.setCells (w.heap.size + 1 + 1) 0 M.toList) (w.heap.size + 1 + 1) M 40) := Lib.hid (Blk.store16a HR5.out HCM.out HCZ.out)
      have HO5 : Hid (Below w.heap.size w (wr.setCells (w.heap.size + 1 + 1) 0 M.toList)) := Lib.hid (Below.set16 (g := w.heap.size + 1 + 1) h4 (by omega) h4.size _)
      have hl : ¬ (a : Int) < (n : Int) := by omega
      have HM := Lib.hid hM
      clear h1 h2 h3 h4 hM hlt hk ha HA HK
      go_wp2_with (first
        | (refine wpList_load16a rfl (.tmp 3) rfl w.heap.size rfl M HX5.out HCM.out ?_)
        | (refine wpList_store16a rfl (.tmp 6) (.tmp 41) rfl (w.heap.size + 1 + 1) rfl M zero16 rfl HR5.out HCM.out HCZ.out ?_))
      refine bodyPost_ret (v := .agg M) ?_ rfl ⟨by rw [HM.out], HO5.out⟩
      exact res16a Tryz.results54 _ _ (w.heap.size + 1 + 1) M rfl HN.out HCM.out
end Go.Proofs.YtkcbckafibjflaaGreatDoor
namespace Go.Proofs.YtkcbckafibjflaaGreatDoor
set_option linter.unusedVariables false
set_option linter.unusedSimpArgs false
open Go.RowKit

/-- Behind the blocks of both, in memory. -/
def HS1 (w0 : World) (D F : Array Value) (v : Value) (wr : World) : Prop := ∃ g, v = .pointer (some ⟨g, 0, none⟩) ∧ w0.heap.size + 1 < g ∧ Blk wr g F 40 ∧ Blk wr w0.heap.size D 40 ∧ Blk wr (w0.heap.size + 1) zero16 40 ∧ Below w0.heap.size w0 wr
/-- Behind k bytes of the lengths. -/
def HG1 (wc : World) (F : Nat → Nat) (k : Nat) (v : Value) (wr : World) : Prop := Grow wr wc.heap.size v k F ∧ Below wc.heap.size wc wr
theorem HG1.next {wc wr w' : World} {F : Nat → Nat} {k y : Nat} {v v' : Value} {z : Int} (h : HG1 wc F k v wr) (hy : y = F k)
    (hG : Grow w' wc.heap.size v' (k + 1) (catF k F (fun _ => y))) (hg : (wr.alloc (.cells #[.int .u8 z] 5)).grownBy w' v.ownBlock) : HG1 wc F (k + 1) v' w' := by
  refine ⟨hG.congr (catF_self fun i hi => by obtain rfl : i = 0 := (by omega); exact hy), ?_⟩
  have h1 : Below wc.heap.size wc (wr.alloc (.cells #[.int .u8 z] 5)) := h.2.alloc h.2.size _
  exact h1.grown hg h1.size (Grow.block h.1)
theorem hash_last (y f : Nat → Nat) (n : Nat) (g : Nat → Nat) (m : Nat) : thrF y (blkF (n * 8) (m * 8)) 16 (twoF y f n g m) ((16 + 15) / 16) = hashF y f n g m := by
  show mulF (addF (twoF y f n g m) (chF (blkF (n * 8) (m * 8)) 16 0)) y = mulF (addF (twoF y f n g m) (blkF (n * 8) (m * 8))) y
  rw [mulF_P, mulF_P]
  have e : wF (addF (twoF y f n g m) (chF (blkF (n * 8) (m * 8)) 16 0)) = wF (addF (twoF y f n g m) (blkF (n * 8) (m * 8))) := w_congr fun i hi => by
    show twoF y f n g m i ^^^ (if 16 * 0 + i < 16 then blkF (n * 8) (m * 8) (16 * 0 + i) else 0) = twoF y f n g m i ^^^ blkF (n * 8) (m * 8) i
    rw [if_pos (by omega), Nat.mul_zero, Nat.zero_add]
  rw [e]
set_option maxRecDepth 100000 in
set_option maxHeartbeats 8000000 in
theorem rhash_any (y f g : Nat → Nat) (oa ob : Option Addr) (n m cn cm : Nat) (w : World) (hy : ∀ i, i < 16 → y i < 256) (ha : Bytes w oa n f) (hb : Bytes w ob m g) (hn : n < 1000000) (hm : m < 1000000) :
    Calls Tryz.prog 41 #[.agg (rowC 16 y).toArray, .slice oa n cn, .slice ob m cm] w fun e w' => e = .returned (.agg (rowC 16 (hashF y f n g m)).toArray) ∧ Below w.heap.size w w' := by
  have hz := zero16a_run
  obtain ⟨D, hD⟩ : ∃ C, (rowC 16 y).toArray = C := ⟨_, rfl⟩
  obtain ⟨T1, hT1⟩ : ∃ C, (rowC 16 (thrF y f n (fun _ => 0) ((n + 15) / 16))).toArray = C := ⟨_, rfl⟩
  obtain ⟨T2, hT2⟩ : ∃ C, (rowC 16 (twoF y f n g m)).toArray = C := ⟨_, rfl⟩
  obtain ⟨M, hM⟩ : ∃ C, (rowC 16 (hashF y f n g m)).toArray = C := ⟨_, rfl⟩
  have hl0 : ∀ i, i < 16 → (fun _ => 0 : Nat → Nat) i < 256 := fun _ _ => Nat.zero_lt_succ _
  have HTH1 : Hid (∀ w', Below w.heap.size w w' → Calls Tryz.prog 54 #[.agg zero16, .agg D, .slice oa n cn] w' fun e w'' => e = .returned (.agg T1) ∧ Below w'.heap.size w' w'') := Lib.hid fun w' hb' => by
    rw [← hD, ← hT1]; exact take_any (fun _ => 0) y f oa n cn w' hl0 hy (ha.later hb') hn
  have HTH2 : Hid (∀ w', Below w.heap.size w w' → Calls Tryz.prog 54 #[.agg T1, .agg D, .slice ob m cm] w' fun e w'' => e = .returned (.agg T2) ∧ Below w'.heap.size w' w'') := Lib.hid fun w' hb' => by
    rw [← hD, ← hT1, ← hT2]; exact take_any _ y g ob m cm w' (thrF_lt hl0 _) hy (hb.later hb') hm
  have HTH3 : Hid (∀ w' oc cc, Bytes w' oc 16 (blkF (n * 8) (m * 8)) → Calls Tryz.prog 54 #[.agg T2, .agg D, .slice oc 16 cc] w' fun e w'' => e = .returned (.agg M) ∧ Below w'.heap.size w' w'') := Lib.hid fun w' oc cc hb' => by
    rw [← hD, ← hT2, ← hM, ← hash_last]; exact take_any _ y _ oc 16 cc w' (thrF_lt (thrF_lt hl0 _) _) hy hb' (by decide)
  have HID : Hid ((Tryz.prog.info? 40).map (·.size) = some D.size) := Lib.hid (hD ▸ info16a _)
  have HFC : Hid (∃ f, T2 = (rowC 16 f).toArray) := Lib.hid ⟨_, hT2.symm⟩
  have HDC : Hid (∃ f, D = (rowC 16 f).toArray) := Lib.hid ⟨_, hD.symm⟩
  have HMC : Hid (∃ f, M = (rowC 16 f).toArray) := Lib.hid ⟨_, hM.symm⟩
  have HZC : Hid (∃ f, zero16 = (rowC 16 f).toArray) := Lib.hid ⟨_, rfl⟩
  have HM := Lib.hid hM
  have n0 : (0 : Int) ≤ (n : Int) := by omega
  have n1 : (n : Int) < 1000000 := by omega
  have m0 : (0 : Int) ≤ (m : Int) := by omega
  have m1 : (m : Int) < 1000000 := by omega
  rw [hD]
  clear hy ha hb hD hT1 hT2 hM hl0
  go_enter Tryz.func41, Tryz.ntmps41
  go_upto_region 1 with fail
  obtain ⟨w0, hw0⟩ : ∃ q, (w.alloc (.cells D 40)).alloc (.cells zero16 40) = q := ⟨_, rfl⟩
  have B0 : Blk w0 w.heap.size D 40 := by rw [← hw0]; exact (Blk.new w _ 40).alloc _
  have B1 : Blk w0 (w.heap.size + 1) zero16 40 := by rw [← hw0]; simpa using Blk.new (w.alloc (.cells D 40)) zero16 40
  have O : Below w.heap.size w w0 := by rw [← hw0]; exact ((Below.refl _ _).alloc (Nat.le_refl _) _).alloc (by simp) _
  rw [hw0]
  clear hw0
  go_cut [7] (HS1 w D T2)
  case first =>
    have hS_0 : SA [(w.heap.size, D)] w0.drew := SA.cons B0.drew (SA.nil _)
    have hZ_0 : Blk w0.drew (w.heap.size + 1) zero16 40 := B1.drew
    have hO_0 : Below w.heap.size w w0.drew := O.drew
    clear B0 B1 O
    refine wp_region_held_drew (S := (SA [(w.heap.size, D)])) (by kernel_rfl) ?_ (fun hHeld => ?_)
    · (try dsimp only)
      first | assumption | (apply SA.drew; assumption)
    generalize w0.drew = W0 at *
    refine wpAnyH_take (i := 0) (oi := { dst := some 11, op := Go.Op.build 40 #[], type := 40, pos := "ref.go:49", after := #[], guard := none }) (v := ?_) rfl (by kernel_rfl) (by kernel_rfl) (by kernel_rfl) (fun _ _ _ h => h) (Or.inl ⟨by rfl, ?_⟩) (by assumption) ?_
    rotate_left
    · intro wS hSw
      refine exec_builda (C := zero16) (parts := #[]) (ps := #[]) ?_ ?_ build_nonea <;> first | rfl | simp
    (try simp only [Act.put, List.setIfInBounds_toArray, List.set_cons_zero, List.set_cons_succ])
    refine wpAnyH_take (i := 1) (oi := { dst := some 12, op := Go.Op.load 40 (Go.Operand.tmp 3), type := 40, pos := "ref.go:49", after := #[], guard := none }) (v := ?_) rfl (by kernel_rfl) (by kernel_rfl) (by kernel_rfl) (fun _ _ _ h => h) (Or.inl ⟨by rfl, ?_⟩) (by assumption) ?_
    rotate_left
    · intro wS hSw
      refine exec_load16a (x := .tmp 3) ?_ ?_ (ld16a hSw.h0 HID.out) <;> rfl
    (try simp only [Act.put, List.setIfInBounds_toArray, List.set_cons_zero, List.set_cons_succ])
    refine wpAnyH_take (i := 2) (oi := { dst := some 13, op := Go.Op.move (Go.Operand.tmp 1), type := 22, pos := "ref.go:49", after := #[], guard := none }) (v := ?_) rfl (by kernel_rfl) (by kernel_rfl) (by kernel_rfl) (fun _ _ _ h => h) (Or.inl ⟨by rfl, ?_⟩) (by assumption) ?_
    rotate_left
    · intro wS hSw
      (try dsimp only at hSw)
      go_simp
      (try with_reducible rfl)
    (try simp only [Act.put, List.setIfInBounds_toArray, List.set_cons_zero, List.set_cons_succ])
    refine wpAnyH_take (i := 4) (oi := { dst := some 15, op := Go.Op.load 40 (Go.Operand.tmp 3), type := 40, pos := "ref.go:49", after := #[], guard := none }) (v := ?_) rfl (by kernel_rfl) (by kernel_rfl) (by kernel_rfl) (fun _ _ _ h => h) (Or.inl ⟨by rfl, ?_⟩) (by assumption) ?_
    rotate_left
    · intro wS hSw
      refine exec_load16a (x := .tmp 3) ?_ ?_ (ld16a hSw.h0 HID.out) <;> rfl
    (try simp only [Act.put, List.setIfInBounds_toArray, List.set_cons_zero, List.set_cons_succ])
    refine wpAnyH_take (i := 5) (oi := { dst := some 16, op := Go.Op.move (Go.Operand.tmp 2), type := 22, pos := "ref.go:49", after := #[], guard := none }) (v := ?_) rfl (by kernel_rfl) (by kernel_rfl) (by kernel_rfl) (fun _ _ _ h => h) (Or.inl ⟨by rfl, ?_⟩) (by assumption) ?_
    rotate_left
    · intro wS hSw
      (try dsimp only at hSw)
      go_simp
      (try with_reducible rfl)
    (try simp only [Act.put, List.setIfInBounds_toArray, List.set_cons_zero, List.set_cons_succ])
    refine wpAnyH_ready (rs := [3, 7]) (by kernel_rfl) (by simp) ?_
    refine AllReadyH.cons (o := { dst := some 14, op := Go.Op.call { callee := Go.Callee.value (Go.Operand.func 54), args := #[Go.Operand.tmp 11, Go.Operand.tmp 12, Go.Operand.tmp 13], argTypes := #[40, 40, 22] }, type := 40, pos := "ref.go:49", after := #[{ on := 0, ground := Go.Ground.data }, { on := 1, ground := Go.Ground.data }, { on := 2, ground := Go.Ground.data }], guard := none }) rfl (fun K hK => ?_) ?_
    · skip
      go_simp
      (refine (HTH1.out _ hO_0).mono ?_; rintro e v_1 ⟨rfl, hb_1⟩; have hS_1 := SA.later hS_0 hb_1; have hZ_1 := Blk.below hZ_0 hb_1 (Blk.lt hZ_0); have hO_1 := Below.trans hO_0 (hb_1.mono hO_0.size); clear hS_0 hZ_0 hO_0; clear hb_1; skip)
      (try go_wp2_with fail)
      refine hK.out _ _ ?_ (fun hHeld => ?_)
      · (try dsimp only)
        first | assumption | (apply SA.drew; assumption)
      clear hK K
      (try simp only [Act.put, List.setIfInBounds_toArray, List.set_cons_zero, List.set_cons_succ])
      refine wpAnyH_ready (rs := [6, 7]) (by kernel_rfl) (by simp) ?_
      refine AllReadyH.cons (o := { dst := some 17, op := Go.Op.call { callee := Go.Callee.value (Go.Operand.func 54), args := #[Go.Operand.tmp 14, Go.Operand.tmp 15, Go.Operand.tmp 16], argTypes := #[40, 40, 22] }, type := 40, pos := "ref.go:49", after := #[{ on := 3, ground := Go.Ground.data }, { on := 4, ground := Go.Ground.data }, { on := 5, ground := Go.Ground.data }, { on := 3, ground := Go.Ground.chain }], guard := none }) rfl (fun K hK => ?_) ?_
      · skip
        go_simp
        (refine (HTH2.out _ hO_1).mono ?_; rintro e v_2 ⟨rfl, hb_2⟩; have hS_2 := SA.later hS_1 hb_2; have hZ_2 := Blk.below hZ_1 hb_2 (Blk.lt hZ_1); have hO_2 := Below.trans hO_1 (hb_2.mono hO_1.size); clear hS_1 hZ_1 hO_1; clear hb_2; skip)
        (try go_wp2_with fail)
        refine hK.out _ _ ?_ (fun hHeld => ?_)
        · (try dsimp only)
          first | assumption | (apply SA.drew; assumption)
        clear hK K
        (try simp only [Act.put, List.setIfInBounds_toArray, List.set_cons_zero, List.set_cons_succ])
        refine wpAnyH_ready (rs := [7]) (by kernel_rfl) (by simp) ?_
        refine AllReadyH.cons (o := { dst := some 7, op := Go.Op.alloc 40, type := 0, pos := "ref.go:49", after := #[], guard := none }) rfl (fun K hK => ?_) AllReadyH.nil
        go_simp
        (obtain ⟨v_3, hw_3⟩ : ∃ q, v_2.alloc (.cells zero16 40) = q := ⟨_, rfl⟩; rw [hw_3]; have hb_3 : Below v_2.heap.size v_2 v_3 := (by rw [← hw_3]; exact (Below.refl _ _).alloc (Nat.le_refl _) _); have hS_3 := SA.later hS_2 hb_3; have hZ_3 := Blk.below hZ_2 hb_3 (Blk.lt hZ_2); have hO_3 := Below.trans hO_2 (hb_3.mono hO_2.size); have hG_3 : Blk v_3 v_2.heap.size zero16 40 := (by rw [← hw_3]; exact Blk.new _ _ _); have HGL := Lib.hid (show w.heap.size + 1 < v_2.heap.size from Blk.lt hZ_2); clear hS_2 hZ_2 hO_2; clear hb_3 hw_3; skip)
        (try go_wp2_with fail)
        refine hK.out _ _ ?_ (fun hHeld => ?_)
        · (try dsimp only)
          first | assumption | (apply SA.drew; assumption)
        clear hK K
        (try simp only [Act.put, List.setIfInBounds_toArray, List.set_cons_zero, List.set_cons_succ])
        refine wpAnyH_ready (rs := [8]) (by kernel_rfl) (by simp) ?_
        refine AllReadyH.cons (o := { dst := none, op := Go.Op.store 40 (Go.Operand.tmp 7) (Go.Operand.tmp 17), type := 0, pos := "ref.go:49", after := #[{ on := 7, ground := Go.Ground.data }, { on := 6, ground := Go.Ground.data }, { on := 6, ground := Go.Ground.chain }, { on := 0, ground := Go.Ground.phase }, { on := 1, ground := Go.Ground.phase }, { on := 2, ground := Go.Ground.phase }, { on := 3, ground := Go.Ground.phase }, { on := 4, ground := Go.Ground.phase }, { on := 5, ground := Go.Ground.phase }, { on := 6, ground := Go.Ground.phase }, { on := 7, ground := Go.Ground.phase }], guard := none }) rfl (fun K hK => ?_) AllReadyH.nil
        (refine step_store16a rfl (.tmp 7) (.tmp 17) rfl v_2.heap.size rfl T2 zero16 rfl hG_3 HFC.out HZC.out ?_; have hG_4 := Blk.store16a hG_3 HFC.out HZC.out; have hS_4 := SA.set hS_3 (Lib.hid (show ∀ p ∈ [(w.heap.size, D)], p.1 ≠ v_2.heap.size by have h7 := HGL.out; intro p hp; rcases List.mem_cons.1 hp with rfl | hp; (show w.heap.size ≠ _; omega); cases hp)).out T2.toList; have hZ_4 := (Own.setCells T2.toList 0 v_3).blk hZ_3 (Lib.hid (show w.heap.size + 1 ≠ v_2.heap.size by have h7 := HGL.out; omega)).out; have hO_4 := Below.set16 (g := v_2.heap.size) hO_3 (by have h7 := HGL.out; omega) hO_3.size T2.toList; obtain ⟨v_4, hw_4⟩ : ∃ q, (v_3.setCells v_2.heap.size 0 T2.toList) = q := ⟨_, rfl⟩; rw [hw_4] at hG_4 hS_4 hZ_4 hO_4 ⊢; clear hG_3 hS_3 hZ_3 hO_3 hw_4; skip)
        refine hK.out _ _ ?_ (fun hHeld => ?_)
        · (try dsimp only)
          first | assumption | (apply SA.drew; assumption)
        clear hK K
        (try simp only [Act.put, List.setIfInBounds_toArray, List.set_cons_zero, List.set_cons_succ])
        refine wpAnyH_done (by kernel_rfl) ?_ _
        go_wp2_with fail
        go_meet
        exact ⟨_, rfl, HGL.out, hG_4, hS_4.h0, hZ_4, hO_4⟩
      refine AllReadyH.cons (o := { dst := some 7, op := Go.Op.alloc 40, type := 0, pos := "ref.go:49", after := #[], guard := none }) rfl (fun K hK => ?_) AllReadyH.nil
      go_simp
      (obtain ⟨v_5, hw_5⟩ : ∃ q, v_1.alloc (.cells zero16 40) = q := ⟨_, rfl⟩; rw [hw_5]; have hb_5 : Below v_1.heap.size v_1 v_5 := (by rw [← hw_5]; exact (Below.refl _ _).alloc (Nat.le_refl _) _); have hS_5 := SA.later hS_1 hb_5; have hZ_5 := Blk.below hZ_1 hb_5 (Blk.lt hZ_1); have hO_5 := Below.trans hO_1 (hb_5.mono hO_1.size); have hG_5 : Blk v_5 v_1.heap.size zero16 40 := (by rw [← hw_5]; exact Blk.new _ _ _); have HGL := Lib.hid (show w.heap.size + 1 < v_1.heap.size from Blk.lt hZ_1); clear hS_1 hZ_1 hO_1; clear hb_5 hw_5; skip)
      (try go_wp2_with fail)
      refine hK.out _ _ ?_ (fun hHeld => ?_)
      · (try dsimp only)
        first | assumption | (apply SA.drew; assumption)
      clear hK K
      (try simp only [Act.put, List.setIfInBounds_toArray, List.set_cons_zero, List.set_cons_succ])
      refine wpAnyH_ready (rs := [6]) (by kernel_rfl) (by simp) ?_
      refine AllReadyH.cons (o := { dst := some 17, op := Go.Op.call { callee := Go.Callee.value (Go.Operand.func 54), args := #[Go.Operand.tmp 14, Go.Operand.tmp 15, Go.Operand.tmp 16], argTypes := #[40, 40, 22] }, type := 40, pos := "ref.go:49", after := #[{ on := 3, ground := Go.Ground.data }, { on := 4, ground := Go.Ground.data }, { on := 5, ground := Go.Ground.data }, { on := 3, ground := Go.Ground.chain }], guard := none }) rfl (fun K hK => ?_) AllReadyH.nil
      go_simp
      (refine (HTH2.out _ hO_5).mono ?_; rintro e v_6 ⟨rfl, hb_6⟩; have hS_6 := SA.later hS_5 hb_6; have hZ_6 := Blk.below hZ_5 hb_6 (Blk.lt hZ_5); have hG_6 := Blk.below hG_5 hb_6 (Blk.lt hG_5); have hO_6 := Below.trans hO_5 (hb_6.mono hO_5.size); clear hS_5 hZ_5 hG_5 hO_5; clear hb_6; skip)
      (try go_wp2_with fail)
      refine hK.out _ _ ?_ (fun hHeld => ?_)
      · (try dsimp only)
        first | assumption | (apply SA.drew; assumption)
      clear hK K
      (try simp only [Act.put, List.setIfInBounds_toArray, List.set_cons_zero, List.set_cons_succ])
      refine wpAnyH_ready (rs := [8]) (by kernel_rfl) (by simp) ?_
      refine AllReadyH.cons (o := { dst := none, op := Go.Op.store 40 (Go.Operand.tmp 7) (Go.Operand.tmp 17), type := 0, pos := "ref.go:49", after := #[{ on := 7, ground := Go.Ground.data }, { on := 6, ground := Go.Ground.data }, { on := 6, ground := Go.Ground.chain }, { on := 0, ground := Go.Ground.phase }, { on := 1, ground := Go.Ground.phase }, { on := 2, ground := Go.Ground.phase }, { on := 3, ground := Go.Ground.phase }, { on := 4, ground := Go.Ground.phase }, { on := 5, ground := Go.Ground.phase }, { on := 6, ground := Go.Ground.phase }, { on := 7, ground := Go.Ground.phase }], guard := none }) rfl (fun K hK => ?_) AllReadyH.nil
      (refine step_store16a rfl (.tmp 7) (.tmp 17) rfl v_1.heap.size rfl T2 zero16 rfl hG_6 HFC.out HZC.out ?_; have hG_7 := Blk.store16a hG_6 HFC.out HZC.out; have hS_7 := SA.set hS_6 (Lib.hid (show ∀ p ∈ [(w.heap.size, D)], p.1 ≠ v_1.heap.size by have h7 := HGL.out; intro p hp; rcases List.mem_cons.1 hp with rfl | hp; (show w.heap.size ≠ _; omega); cases hp)).out T2.toList; have hZ_7 := (Own.setCells T2.toList 0 v_6).blk hZ_6 (Lib.hid (show w.heap.size + 1 ≠ v_1.heap.size by have h7 := HGL.out; omega)).out; have hO_7 := Below.set16 (g := v_1.heap.size) hO_6 (by have h7 := HGL.out; omega) hO_6.size T2.toList; obtain ⟨v_7, hw_7⟩ : ∃ q, (v_6.setCells v_1.heap.size 0 T2.toList) = q := ⟨_, rfl⟩; rw [hw_7] at hG_7 hS_7 hZ_7 hO_7 ⊢; clear hG_6 hS_6 hZ_6 hO_6 hw_7; skip)
      refine hK.out _ _ ?_ (fun hHeld => ?_)
      · (try dsimp only)
        first | assumption | (apply SA.drew; assumption)
      clear hK K
      (try simp only [Act.put, List.setIfInBounds_toArray, List.set_cons_zero, List.set_cons_succ])
      refine wpAnyH_done (by kernel_rfl) ?_ _
      go_wp2_with fail
      go_meet
      exact ⟨_, rfl, HGL.out, hG_7, hS_7.h0, hZ_7, hO_7⟩
    refine AllReadyH.cons (o := { dst := some 7, op := Go.Op.alloc 40, type := 0, pos := "ref.go:49", after := #[], guard := none }) rfl (fun K hK => ?_) AllReadyH.nil
    go_simp
    (obtain ⟨v_8, hw_8⟩ : ∃ q, W0.alloc (.cells zero16 40) = q := ⟨_, rfl⟩; rw [hw_8]; have hb_8 : Below W0.heap.size W0 v_8 := (by rw [← hw_8]; exact (Below.refl _ _).alloc (Nat.le_refl _) _); have hS_8 := SA.later hS_0 hb_8; have hZ_8 := Blk.below hZ_0 hb_8 (Blk.lt hZ_0); have hO_8 := Below.trans hO_0 (hb_8.mono hO_0.size); have hG_8 : Blk v_8 W0.heap.size zero16 40 := (by rw [← hw_8]; exact Blk.new _ _ _); have HGL := Lib.hid (show w.heap.size + 1 < W0.heap.size from Blk.lt hZ_0); clear hS_0 hZ_0 hO_0; clear hb_8 hw_8; skip)
    (try go_wp2_with fail)
    refine hK.out _ _ ?_ (fun hHeld => ?_)
    · (try dsimp only)
      first | assumption | (apply SA.drew; assumption)
    clear hK K
    (try simp only [Act.put, List.setIfInBounds_toArray, List.set_cons_zero, List.set_cons_succ])
    refine wpAnyH_ready (rs := [3]) (by kernel_rfl) (by simp) ?_
    refine AllReadyH.cons (o := { dst := some 14, op := Go.Op.call { callee := Go.Callee.value (Go.Operand.func 54), args := #[Go.Operand.tmp 11, Go.Operand.tmp 12, Go.Operand.tmp 13], argTypes := #[40, 40, 22] }, type := 40, pos := "ref.go:49", after := #[{ on := 0, ground := Go.Ground.data }, { on := 1, ground := Go.Ground.data }, { on := 2, ground := Go.Ground.data }], guard := none }) rfl (fun K hK => ?_) AllReadyH.nil
    go_simp
    (refine (HTH1.out _ hO_8).mono ?_; rintro e v_9 ⟨rfl, hb_9⟩; have hS_9 := SA.later hS_8 hb_9; have hZ_9 := Blk.below hZ_8 hb_9 (Blk.lt hZ_8); have hG_9 := Blk.below hG_8 hb_9 (Blk.lt hG_8); have hO_9 := Below.trans hO_8 (hb_9.mono hO_8.size); clear hS_8 hZ_8 hG_8 hO_8; clear hb_9; skip)
    (try go_wp2_with fail)
    refine hK.out _ _ ?_ (fun hHeld => ?_)
    · (try dsimp only)
      first | assumption | (apply SA.drew; assumption)
    clear hK K
    (try simp only [Act.put, List.setIfInBounds_toArray, List.set_cons_zero, List.set_cons_succ])
    refine wpAnyH_ready (rs := [6]) (by kernel_rfl) (by simp) ?_
    refine AllReadyH.cons (o := { dst := some 17, op := Go.Op.call { callee := Go.Callee.value (Go.Operand.func 54), args := #[Go.Operand.tmp 14, Go.Operand.tmp 15, Go.Operand.tmp 16], argTypes := #[40, 40, 22] }, type := 40, pos := "ref.go:49", after := #[{ on := 3, ground := Go.Ground.data }, { on := 4, ground := Go.Ground.data }, { on := 5, ground := Go.Ground.data }, { on := 3, ground := Go.Ground.chain }], guard := none }) rfl (fun K hK => ?_) AllReadyH.nil
    go_simp
    (refine (HTH2.out _ hO_9).mono ?_; rintro e v_10 ⟨rfl, hb_10⟩; have hS_10 := SA.later hS_9 hb_10; have hZ_10 := Blk.below hZ_9 hb_10 (Blk.lt hZ_9); have hG_10 := Blk.below hG_9 hb_10 (Blk.lt hG_9); have hO_10 := Below.trans hO_9 (hb_10.mono hO_9.size); clear hS_9 hZ_9 hG_9 hO_9; clear hb_10; skip)
    (try go_wp2_with fail)
    refine hK.out _ _ ?_ (fun hHeld => ?_)
    · (try dsimp only)
      first | assumption | (apply SA.drew; assumption)
    clear hK K
    (try simp only [Act.put, List.setIfInBounds_toArray, List.set_cons_zero, List.set_cons_succ])
    refine wpAnyH_ready (rs := [8]) (by kernel_rfl) (by simp) ?_
    refine AllReadyH.cons (o := { dst := none, op := Go.Op.store 40 (Go.Operand.tmp 7) (Go.Operand.tmp 17), type := 0, pos := "ref.go:49", after := #[{ on := 7, ground := Go.Ground.data }, { on := 6, ground := Go.Ground.data }, { on := 6, ground := Go.Ground.chain }, { on := 0, ground := Go.Ground.phase }, { on := 1, ground := Go.Ground.phase }, { on := 2, ground := Go.Ground.phase }, { on := 3, ground := Go.Ground.phase }, { on := 4, ground := Go.Ground.phase }, { on := 5, ground := Go.Ground.phase }, { on := 6, ground := Go.Ground.phase }, { on := 7, ground := Go.Ground.phase }], guard := none }) rfl (fun K hK => ?_) AllReadyH.nil
    (refine step_store16a rfl (.tmp 7) (.tmp 17) rfl W0.heap.size rfl T2 zero16 rfl hG_10 HFC.out HZC.out ?_; have hG_11 := Blk.store16a hG_10 HFC.out HZC.out; have hS_11 := SA.set hS_10 (Lib.hid (show ∀ p ∈ [(w.heap.size, D)], p.1 ≠ W0.heap.size by have h7 := HGL.out; intro p hp; rcases List.mem_cons.1 hp with rfl | hp; (show w.heap.size ≠ _; omega); cases hp)).out T2.toList; have hZ_11 := (Own.setCells T2.toList 0 v_10).blk hZ_10 (Lib.hid (show w.heap.size + 1 ≠ W0.heap.size by have h7 := HGL.out; omega)).out; have hO_11 := Below.set16 (g := W0.heap.size) hO_10 (by have h7 := HGL.out; omega) hO_10.size T2.toList; obtain ⟨v_11, hw_11⟩ : ∃ q, (v_10.setCells W0.heap.size 0 T2.toList) = q := ⟨_, rfl⟩; rw [hw_11] at hG_11 hS_11 hZ_11 hO_11 ⊢; clear hG_10 hS_10 hZ_10 hO_10 hw_11; skip)
    refine hK.out _ _ ?_ (fun hHeld => ?_)
    · (try dsimp only)
      first | assumption | (apply SA.drew; assumption)
    clear hK K
    (try simp only [Act.put, List.setIfInBounds_toArray, List.set_cons_zero, List.set_cons_succ])
    refine wpAnyH_done (by kernel_rfl) ?_ _
    go_wp2_with fail
    go_meet
    exact ⟨_, rfl, HGL.out, hG_11, hS_11.h0, hZ_11, hO_11⟩
  case rest =>
    clear hz
    obtain ⟨q, rfl, hq, hF, hDD, hZ, hO⟩ := hcut
    have HF := Lib.hid hF
    have HDD := Lib.hid hDD
    have HZ := Lib.hid hZ
    have HO := Lib.hid hO
    have HQ := Lib.hid hq
    clear hF hDD hZ hO hq
    generalize he8 : (8 : Int) * (n : Int) = a8
    generalize hf8 : (8 : Int) * (m : Int) = b8
    have HA8 : Hid (∀ k, k < 8 → IntKind.u8.wrap (a8 / (2 : Int) ^ (56 - 8 * k)) = ((blkF (n * 8) (m * 8) k : Nat) : Int)) := Lib.hid fun k hk => by
      have h1 := numB_shift (n * 8) k hk
      rw [show ((n * 8 : Nat) : Int) = a8 by omega] at h1
      rw [h1]; unfold blkF; rw [if_pos hk]
    have HB8 : Hid (∀ k, k < 8 → IntKind.u8.wrap (b8 / (2 : Int) ^ (56 - 8 * k)) = ((blkF (n * 8) (m * 8) (8 + k) : Nat) : Int)) := Lib.hid fun k hk => by
      have h1 := numB_shift (m * 8) k hk
      rw [show ((m * 8 : Nat) : Int) = b8 by omega] at h1
      rw [h1]; unfold blkF; rw [if_neg (by omega), show 8 + k - 8 = k by omega]
    have HFL : Hid (∀ i, blkF (n * 8) (m * 8) i < 256) := Lib.hid (blkF_lt _ _)
    obtain ⟨G, hG⟩ : ∃ G, blkF (n * 8) (m * 8) = G := ⟨_, rfl⟩
    rw [hG] at HA8 HB8 HFL HTH3
    clear hG
    have HT0 : Hid (HG1 wc G 0 (.slice none 0 0) wc) := Lib.hid ⟨Grow.nil _ _ _, Below.refl _ _⟩
    go_wp2_with fail
    go_loopw [8, 9] (fun v i wr => ∃ (k : Nat) (z : Int), k ≤ 8 ∧ z = 56 - 8 * (k : Int) ∧ i = .int .i64 z ∧ HG1 wc G k v wr) (fun _ i _ => (intOf i + 8).toNat)
    case atStart => exact ⟨0, 56, by omega, rfl, rfl, HT0.out⟩
    case round =>
      clear HT0
      obtain ⟨k, z, hk, hz, rfl, hT⟩ := hrel
      have HT := Lib.hid hT
      clear hT
      rcases (show k = 0 ∨ k = 1 ∨ k = 2 ∨ k = 3 ∨ k = 4 ∨ k = 5 ∨ k = 6 ∨ k = 7 ∨ k = 8 by omega) with rfl | rfl | rfl | rfl | rfl | rfl | rfl | rfl | rfl
      · obtain rfl : z = 56 := by omega
        have hcv : IntKind.u8.wrap (a8 / 72057594037927936) = ((G 0 : Nat) : Int) := by have := HA8.out 0 (by decide); simpa using this
        have HFk := Lib.hid (HFL.out 0)
        have HGk : Hid (G 0 = G 0) := Lib.hid rfl
        obtain ⟨u, hu⟩ : ∃ u, G 0 = u := ⟨_, rfl⟩
        rw [hu] at hcv HFk
        have HU := Lib.hid hu.symm
        clear hu HGk hk hz
        have HGr := Lib.hid (Grow.later HT.out.1 ((Below.refl _ wr).alloc (Nat.le_refl _) (.cells #[.int .u8 (u : Int)] 5)))
        have HB1 := Lib.hid (ob1 (w := wr) (z := (u : Int)) rfl HFk.out)
        have HLt : Hid (wc.heap.size ≤ (wr.alloc (.cells #[.int .u8 (u : Int)] 5)).heap.size) := Lib.hid (HT.out.2.alloc HT.out.2.size _).size
        go_wp2_with (at_builtin; refine wpList_appO rfl (.tmp 22) (.tmp 31) rfl wc.heap.size _ 0 1 1 (some ⟨wr.heap.size, 0, none⟩) G (fun _ => u) _ rfl HGr.out rfl (fun e => by cases e) HB1.out (by decide) HLt.out ?_)
        intro v3 w3 hG3 hg3 hat3
        have HN := Lib.hid (HG1.next HT.out HU.out hG3 hg3)
        clear hG3 hg3 hat3 HGr HB1 HLt hcv
        go_wp2_with fail
        go_roundw
        case rel => exact ⟨1, 48, by decide, by decide, rfl, HN.out⟩
        case measure => simp [intOf]
      · obtain rfl : z = 48 := by omega
        have hcv : IntKind.u8.wrap (a8 / 281474976710656) = ((G 1 : Nat) : Int) := by have := HA8.out 1 (by decide); simpa using this
        have HFk := Lib.hid (HFL.out 1)
        have HGk : Hid (G 1 = G 1) := Lib.hid rfl
        obtain ⟨u, hu⟩ : ∃ u, G 1 = u := ⟨_, rfl⟩
        rw [hu] at hcv HFk
        have HU := Lib.hid hu.symm
        clear hu HGk hk hz
        have HGr := Lib.hid (Grow.later HT.out.1 ((Below.refl _ wr).alloc (Nat.le_refl _) (.cells #[.int .u8 (u : Int)] 5)))
        have HB1 := Lib.hid (ob1 (w := wr) (z := (u : Int)) rfl HFk.out)
        have HLt : Hid (wc.heap.size ≤ (wr.alloc (.cells #[.int .u8 (u : Int)] 5)).heap.size) := Lib.hid (HT.out.2.alloc HT.out.2.size _).size
        go_wp2_with (at_builtin; refine wpList_appO rfl (.tmp 22) (.tmp 31) rfl wc.heap.size _ 1 1 1 (some ⟨wr.heap.size, 0, none⟩) G (fun _ => u) _ rfl HGr.out rfl (fun e => by cases e) HB1.out (by decide) HLt.out ?_)
        intro v3 w3 hG3 hg3 hat3
        have HN := Lib.hid (HG1.next HT.out HU.out hG3 hg3)
        clear hG3 hg3 hat3 HGr HB1 HLt hcv
        go_wp2_with fail
        go_roundw
        case rel => exact ⟨2, 40, by decide, by decide, rfl, HN.out⟩
        case measure => simp [intOf]
      · obtain rfl : z = 40 := by omega
        have hcv : IntKind.u8.wrap (a8 / 1099511627776) = ((G 2 : Nat) : Int) := by have := HA8.out 2 (by decide); simpa using this
        have HFk := Lib.hid (HFL.out 2)
        have HGk : Hid (G 2 = G 2) := Lib.hid rfl
        obtain ⟨u, hu⟩ : ∃ u, G 2 = u := ⟨_, rfl⟩
        rw [hu] at hcv HFk
        have HU := Lib.hid hu.symm
        clear hu HGk hk hz
        have HGr := Lib.hid (Grow.later HT.out.1 ((Below.refl _ wr).alloc (Nat.le_refl _) (.cells #[.int .u8 (u : Int)] 5)))
        have HB1 := Lib.hid (ob1 (w := wr) (z := (u : Int)) rfl HFk.out)
        have HLt : Hid (wc.heap.size ≤ (wr.alloc (.cells #[.int .u8 (u : Int)] 5)).heap.size) := Lib.hid (HT.out.2.alloc HT.out.2.size _).size
        go_wp2_with (at_builtin; refine wpList_appO rfl (.tmp 22) (.tmp 31) rfl wc.heap.size _ 2 1 1 (some ⟨wr.heap.size, 0, none⟩) G (fun _ => u) _ rfl HGr.out rfl (fun e => by cases e) HB1.out (by decide) HLt.out ?_)
        intro v3 w3 hG3 hg3 hat3
        have HN := Lib.hid (HG1.next HT.out HU.out hG3 hg3)
        clear hG3 hg3 hat3 HGr HB1 HLt hcv
        go_wp2_with fail
        go_roundw
        case rel => exact ⟨3, 32, by decide, by decide, rfl, HN.out⟩
        case measure => simp [intOf]
      · obtain rfl : z = 32 := by omega
        have hcv : IntKind.u8.wrap (a8 / 4294967296) = ((G 3 : Nat) : Int) := by have := HA8.out 3 (by decide); simpa using this
        have HFk := Lib.hid (HFL.out 3)
        have HGk : Hid (G 3 = G 3) := Lib.hid rfl
        obtain ⟨u, hu⟩ : ∃ u, G 3 = u := ⟨_, rfl⟩
        rw [hu] at hcv HFk
        have HU := Lib.hid hu.symm
        clear hu HGk hk hz
        have HGr := Lib.hid (Grow.later HT.out.1 ((Below.refl _ wr).alloc (Nat.le_refl _) (.cells #[.int .u8 (u : Int)] 5)))
        have HB1 := Lib.hid (ob1 (w := wr) (z := (u : Int)) rfl HFk.out)
        have HLt : Hid (wc.heap.size ≤ (wr.alloc (.cells #[.int .u8 (u : Int)] 5)).heap.size) := Lib.hid (HT.out.2.alloc HT.out.2.size _).size
        go_wp2_with (at_builtin; refine wpList_appO rfl (.tmp 22) (.tmp 31) rfl wc.heap.size _ 3 1 1 (some ⟨wr.heap.size, 0, none⟩) G (fun _ => u) _ rfl HGr.out rfl (fun e => by cases e) HB1.out (by decide) HLt.out ?_)
        intro v3 w3 hG3 hg3 hat3
        have HN := Lib.hid (HG1.next HT.out HU.out hG3 hg3)
        clear hG3 hg3 hat3 HGr HB1 HLt hcv
        go_wp2_with fail
        go_roundw
        case rel => exact ⟨4, 24, by decide, by decide, rfl, HN.out⟩
        case measure => simp [intOf]
      · obtain rfl : z = 24 := by omega
        have hcv : IntKind.u8.wrap (a8 / 16777216) = ((G 4 : Nat) : Int) := by have := HA8.out 4 (by decide); simpa using this
        have HFk := Lib.hid (HFL.out 4)
        have HGk : Hid (G 4 = G 4) := Lib.hid rfl
        obtain ⟨u, hu⟩ : ∃ u, G 4 = u := ⟨_, rfl⟩
        rw [hu] at hcv HFk
        have HU := Lib.hid hu.symm
        clear hu HGk hk hz
        have HGr := Lib.hid (Grow.later HT.out.1 ((Below.refl _ wr).alloc (Nat.le_refl _) (.cells #[.int .u8 (u : Int)] 5)))
        have HB1 := Lib.hid (ob1 (w := wr) (z := (u : Int)) rfl HFk.out)
        have HLt : Hid (wc.heap.size ≤ (wr.alloc (.cells #[.int .u8 (u : Int)] 5)).heap.size) := Lib.hid (HT.out.2.alloc HT.out.2.size _).size
        go_wp2_with (at_builtin; refine wpList_appO rfl (.tmp 22) (.tmp 31) rfl wc.heap.size _ 4 1 1 (some ⟨wr.heap.size, 0, none⟩) G (fun _ => u) _ rfl HGr.out rfl (fun e => by cases e) HB1.out (by decide) HLt.out ?_)
        intro v3 w3 hG3 hg3 hat3
        have HN := Lib.hid (HG1.next HT.out HU.out hG3 hg3)
        clear hG3 hg3 hat3 HGr HB1 HLt hcv
        go_wp2_with fail
        go_roundw
        case rel => exact ⟨5, 16, by decide, by decide, rfl, HN.out⟩
        case measure => simp [intOf]
      · obtain rfl : z = 16 := by omega
        have hcv : IntKind.u8.wrap (a8 / 65536) = ((G 5 : Nat) : Int) := by have := HA8.out 5 (by decide); simpa using this
        have HFk := Lib.hid (HFL.out 5)
        have HGk : Hid (G 5 = G 5) := Lib.hid rfl
        obtain ⟨u, hu⟩ : ∃ u, G 5 = u := ⟨_, rfl⟩
        rw [hu] at hcv HFk
        have HU := Lib.hid hu.symm
        clear hu HGk hk hz
        have HGr := Lib.hid (Grow.later HT.out.1 ((Below.refl _ wr).alloc (Nat.le_refl _) (.cells #[.int .u8 (u : Int)] 5)))
        have HB1 := Lib.hid (ob1 (w := wr) (z := (u : Int)) rfl HFk.out)
        have HLt : Hid (wc.heap.size ≤ (wr.alloc (.cells #[.int .u8 (u : Int)] 5)).heap.size) := Lib.hid (HT.out.2.alloc HT.out.2.size _).size
        go_wp2_with (at_builtin; refine wpList_appO rfl (.tmp 22) (.tmp 31) rfl wc.heap.size _ 5 1 1 (some ⟨wr.heap.size, 0, none⟩) G (fun _ => u) _ rfl HGr.out rfl (fun e => by cases e) HB1.out (by decide) HLt.out ?_)
        intro v3 w3 hG3 hg3 hat3
        have HN := Lib.hid (HG1.next HT.out HU.out hG3 hg3)
        clear hG3 hg3 hat3 HGr HB1 HLt hcv
        go_wp2_with fail
        go_roundw
        case rel => exact ⟨6, 8, by decide, by decide, rfl, HN.out⟩
        case measure => simp [intOf]
      · obtain rfl : z = 8 := by omega
        have hcv : IntKind.u8.wrap (a8 / 256) = ((G 6 : Nat) : Int) := by have := HA8.out 6 (by decide); simpa using this
        have HFk := Lib.hid (HFL.out 6)
        have HGk : Hid (G 6 = G 6) := Lib.hid rfl
        obtain ⟨u, hu⟩ : ∃ u, G 6 = u := ⟨_, rfl⟩
        rw [hu] at hcv HFk
        have HU := Lib.hid hu.symm
        clear hu HGk hk hz
        have HGr := Lib.hid (Grow.later HT.out.1 ((Below.refl _ wr).alloc (Nat.le_refl _) (.cells #[.int .u8 (u : Int)] 5)))
        have HB1 := Lib.hid (ob1 (w := wr) (z := (u : Int)) rfl HFk.out)
        have HLt : Hid (wc.heap.size ≤ (wr.alloc (.cells #[.int .u8 (u : Int)] 5)).heap.size) := Lib.hid (HT.out.2.alloc HT.out.2.size _).size
        go_wp2_with (at_builtin; refine wpList_appO rfl (.tmp 22) (.tmp 31) rfl wc.heap.size _ 6 1 1 (some ⟨wr.heap.size, 0, none⟩) G (fun _ => u) _ rfl HGr.out rfl (fun e => by cases e) HB1.out (by decide) HLt.out ?_)
        intro v3 w3 hG3 hg3 hat3
        have HN := Lib.hid (HG1.next HT.out HU.out hG3 hg3)
        clear hG3 hg3 hat3 HGr HB1 HLt hcv
        go_wp2_with fail
        go_roundw
        case rel => exact ⟨7, 0, by decide, by decide, rfl, HN.out⟩
        case measure => simp [intOf]
      · obtain rfl : z = 0 := by omega
        have hcv : IntKind.u8.wrap (a8) = ((G 7 : Nat) : Int) := by have := HA8.out 7 (by decide); simpa using this
        have HFk := Lib.hid (HFL.out 7)
        have HGk : Hid (G 7 = G 7) := Lib.hid rfl
        obtain ⟨u, hu⟩ : ∃ u, G 7 = u := ⟨_, rfl⟩
        rw [hu] at hcv HFk
        have HU := Lib.hid hu.symm
        clear hu HGk hk hz
        have HGr := Lib.hid (Grow.later HT.out.1 ((Below.refl _ wr).alloc (Nat.le_refl _) (.cells #[.int .u8 (u : Int)] 5)))
        have HB1 := Lib.hid (ob1 (w := wr) (z := (u : Int)) rfl HFk.out)
        have HLt : Hid (wc.heap.size ≤ (wr.alloc (.cells #[.int .u8 (u : Int)] 5)).heap.size) := Lib.hid (HT.out.2.alloc HT.out.2.size _).size
        go_wp2_with (at_builtin; refine wpList_appO rfl (.tmp 22) (.tmp 31) rfl wc.heap.size _ 7 1 1 (some ⟨wr.heap.size, 0, none⟩) G (fun _ => u) _ rfl HGr.out rfl (fun e => by cases e) HB1.out (by decide) HLt.out ?_)
        intro v3 w3 hG3 hg3 hat3
        have HN := Lib.hid (HG1.next HT.out HU.out hG3 hg3)
        clear hG3 hg3 hat3 HGr HB1 HLt hcv
        go_wp2_with fail
        go_roundw
        case rel => exact ⟨8, -8, by decide, by decide, rfl, HN.out⟩
        case measure => simp [intOf]
      · obtain rfl : z = -8 := by omega
        clear hk hz
        go_wp2_with fail
        go_loopw [8, 10] (fun v i wr => ∃ (k : Nat) (z : Int), k ≤ 8 ∧ z = 56 - 8 * (k : Int) ∧ i = .int .i64 z ∧ HG1 wc G (8 + k) v wr) (fun _ i _ => (intOf i + 8).toNat)
        case atStart => exact ⟨0, 56, by omega, rfl, rfl, HT.out⟩
        case round =>
          clear HT
          obtain ⟨k, z, hk, hz, rfl, hT⟩ := hrel
          have HT := Lib.hid hT
          clear hT
          rcases (show k = 0 ∨ k = 1 ∨ k = 2 ∨ k = 3 ∨ k = 4 ∨ k = 5 ∨ k = 6 ∨ k = 7 ∨ k = 8 by omega) with rfl | rfl | rfl | rfl | rfl | rfl | rfl | rfl | rfl
          · obtain rfl : z = 56 := by omega
            have hcv : IntKind.u8.wrap (b8 / 72057594037927936) = ((G 8 : Nat) : Int) := by have := HB8.out 0 (by decide); simpa using this
            have HFk := Lib.hid (HFL.out 8)
            have HGk : Hid (G 8 = G 8) := Lib.hid rfl
            obtain ⟨u, hu⟩ : ∃ u, G 8 = u := ⟨_, rfl⟩
            rw [hu] at hcv HFk
            have HU := Lib.hid hu.symm
            clear hu HGk hk hz
            have HGr := Lib.hid (Grow.later HT.out.1 ((Below.refl _ wr).alloc (Nat.le_refl _) (.cells #[.int .u8 (u : Int)] 5)))
            have HB1 := Lib.hid (ob1 (w := wr) (z := (u : Int)) rfl HFk.out)
            have HLt : Hid (wc.heap.size ≤ (wr.alloc (.cells #[.int .u8 (u : Int)] 5)).heap.size) := Lib.hid (HT.out.2.alloc HT.out.2.size _).size
            go_wp2_with (at_builtin; refine wpList_appO rfl (.tmp 37) (.tmp 46) rfl wc.heap.size _ 8 1 1 (some ⟨wr.heap.size, 0, none⟩) G (fun _ => u) _ rfl HGr.out rfl (fun e => by cases e) HB1.out (by decide) HLt.out ?_)
            intro v3 w3 hG3 hg3 hat3
            have HN := Lib.hid (HG1.next HT.out HU.out hG3 hg3)
            clear hG3 hg3 hat3 HGr HB1 HLt hcv
            go_wp2_with fail
            go_roundw
            case rel => exact ⟨1, 48, by decide, by decide, rfl, HN.out⟩
            case measure => simp [intOf]
          · obtain rfl : z = 48 := by omega
            have hcv : IntKind.u8.wrap (b8 / 281474976710656) = ((G 9 : Nat) : Int) := by have := HB8.out 1 (by decide); simpa using this
            have HFk := Lib.hid (HFL.out 9)
            have HGk : Hid (G 9 = G 9) := Lib.hid rfl
            obtain ⟨u, hu⟩ : ∃ u, G 9 = u := ⟨_, rfl⟩
            rw [hu] at hcv HFk
            have HU := Lib.hid hu.symm
            clear hu HGk hk hz
            have HGr := Lib.hid (Grow.later HT.out.1 ((Below.refl _ wr).alloc (Nat.le_refl _) (.cells #[.int .u8 (u : Int)] 5)))
            have HB1 := Lib.hid (ob1 (w := wr) (z := (u : Int)) rfl HFk.out)
            have HLt : Hid (wc.heap.size ≤ (wr.alloc (.cells #[.int .u8 (u : Int)] 5)).heap.size) := Lib.hid (HT.out.2.alloc HT.out.2.size _).size
            go_wp2_with (at_builtin; refine wpList_appO rfl (.tmp 37) (.tmp 46) rfl wc.heap.size _ 9 1 1 (some ⟨wr.heap.size, 0, none⟩) G (fun _ => u) _ rfl HGr.out rfl (fun e => by cases e) HB1.out (by decide) HLt.out ?_)
            intro v3 w3 hG3 hg3 hat3
            have HN := Lib.hid (HG1.next HT.out HU.out hG3 hg3)
            clear hG3 hg3 hat3 HGr HB1 HLt hcv
            go_wp2_with fail
            go_roundw
            case rel => exact ⟨2, 40, by decide, by decide, rfl, HN.out⟩
            case measure => simp [intOf]
          · obtain rfl : z = 40 := by omega
            have hcv : IntKind.u8.wrap (b8 / 1099511627776) = ((G 10 : Nat) : Int) := by have := HB8.out 2 (by decide); simpa using this
            have HFk := Lib.hid (HFL.out 10)
            have HGk : Hid (G 10 = G 10) := Lib.hid rfl
            obtain ⟨u, hu⟩ : ∃ u, G 10 = u := ⟨_, rfl⟩
            rw [hu] at hcv HFk
            have HU := Lib.hid hu.symm
            clear hu HGk hk hz
            have HGr := Lib.hid (Grow.later HT.out.1 ((Below.refl _ wr).alloc (Nat.le_refl _) (.cells #[.int .u8 (u : Int)] 5)))
            have HB1 := Lib.hid (ob1 (w := wr) (z := (u : Int)) rfl HFk.out)
            have HLt : Hid (wc.heap.size ≤ (wr.alloc (.cells #[.int .u8 (u : Int)] 5)).heap.size) := Lib.hid (HT.out.2.alloc HT.out.2.size _).size
            go_wp2_with (at_builtin; refine wpList_appO rfl (.tmp 37) (.tmp 46) rfl wc.heap.size _ 10 1 1 (some ⟨wr.heap.size, 0, none⟩) G (fun _ => u) _ rfl HGr.out rfl (fun e => by cases e) HB1.out (by decide) HLt.out ?_)
            intro v3 w3 hG3 hg3 hat3
            have HN := Lib.hid (HG1.next HT.out HU.out hG3 hg3)
            clear hG3 hg3 hat3 HGr HB1 HLt hcv
            go_wp2_with fail
            go_roundw
            case rel => exact ⟨3, 32, by decide, by decide, rfl, HN.out⟩
            case measure => simp [intOf]
          · obtain rfl : z = 32 := by omega
            have hcv : IntKind.u8.wrap (b8 / 4294967296) = ((G 11 : Nat) : Int) := by have := HB8.out 3 (by decide); simpa using this
            have HFk := Lib.hid (HFL.out 11)
            have HGk : Hid (G 11 = G 11) := Lib.hid rfl
            obtain ⟨u, hu⟩ : ∃ u, G 11 = u := ⟨_, rfl⟩
            rw [hu] at hcv HFk
            have HU := Lib.hid hu.symm
            clear hu HGk hk hz
            have HGr := Lib.hid (Grow.later HT.out.1 ((Below.refl _ wr).alloc (Nat.le_refl _) (.cells #[.int .u8 (u : Int)] 5)))
            have HB1 := Lib.hid (ob1 (w := wr) (z := (u : Int)) rfl HFk.out)
            have HLt : Hid (wc.heap.size ≤ (wr.alloc (.cells #[.int .u8 (u : Int)] 5)).heap.size) := Lib.hid (HT.out.2.alloc HT.out.2.size _).size
            go_wp2_with (at_builtin; refine wpList_appO rfl (.tmp 37) (.tmp 46) rfl wc.heap.size _ 11 1 1 (some ⟨wr.heap.size, 0, none⟩) G (fun _ => u) _ rfl HGr.out rfl (fun e => by cases e) HB1.out (by decide) HLt.out ?_)
            intro v3 w3 hG3 hg3 hat3
            have HN := Lib.hid (HG1.next HT.out HU.out hG3 hg3)
            clear hG3 hg3 hat3 HGr HB1 HLt hcv
            go_wp2_with fail
            go_roundw
            case rel => exact ⟨4, 24, by decide, by decide, rfl, HN.out⟩
            case measure => simp [intOf]
          · obtain rfl : z = 24 := by omega
            have hcv : IntKind.u8.wrap (b8 / 16777216) = ((G 12 : Nat) : Int) := by have := HB8.out 4 (by decide); simpa using this
            have HFk := Lib.hid (HFL.out 12)
            have HGk : Hid (G 12 = G 12) := Lib.hid rfl
            obtain ⟨u, hu⟩ : ∃ u, G 12 = u := ⟨_, rfl⟩
            rw [hu] at hcv HFk
            have HU := Lib.hid hu.symm
            clear hu HGk hk hz
            have HGr := Lib.hid (Grow.later HT.out.1 ((Below.refl _ wr).alloc (Nat.le_refl _) (.cells #[.int .u8 (u : Int)] 5)))
            have HB1 := Lib.hid (ob1 (w := wr) (z := (u : Int)) rfl HFk.out)
            have HLt : Hid (wc.heap.size ≤ (wr.alloc (.cells #[.int .u8 (u : Int)] 5)).heap.size) := Lib.hid (HT.out.2.alloc HT.out.2.size _).size
            go_wp2_with (at_builtin; refine wpList_appO rfl (.tmp 37) (.tmp 46) rfl wc.heap.size _ 12 1 1 (some ⟨wr.heap.size, 0, none⟩) G (fun _ => u) _ rfl HGr.out rfl (fun e => by cases e) HB1.out (by decide) HLt.out ?_)
            intro v3 w3 hG3 hg3 hat3
            have HN := Lib.hid (HG1.next HT.out HU.out hG3 hg3)
            clear hG3 hg3 hat3 HGr HB1 HLt hcv
            go_wp2_with fail
            go_roundw
            case rel => exact ⟨5, 16, by decide, by decide, rfl, HN.out⟩
            case measure => simp [intOf]
          · obtain rfl : z = 16 := by omega
            have hcv : IntKind.u8.wrap (b8 / 65536) = ((G 13 : Nat) : Int) := by have := HB8.out 5 (by decide); simpa using this
            have HFk := Lib.hid (HFL.out 13)
            have HGk : Hid (G 13 = G 13) := Lib.hid rfl
            obtain ⟨u, hu⟩ : ∃ u, G 13 = u := ⟨_, rfl⟩
            rw [hu] at hcv HFk
            have HU := Lib.hid hu.symm
            clear hu HGk hk hz
            have HGr := Lib.hid (Grow.later HT.out.1 ((Below.refl _ wr).alloc (Nat.le_refl _) (.cells #[.int .u8 (u : Int)] 5)))
            have HB1 := Lib.hid (ob1 (w := wr) (z := (u : Int)) rfl HFk.out)
            have HLt : Hid (wc.heap.size ≤ (wr.alloc (.cells #[.int .u8 (u : Int)] 5)).heap.size) := Lib.hid (HT.out.2.alloc HT.out.2.size _).size
            go_wp2_with (at_builtin; refine wpList_appO rfl (.tmp 37) (.tmp 46) rfl wc.heap.size _ 13 1 1 (some ⟨wr.heap.size, 0, none⟩) G (fun _ => u) _ rfl HGr.out rfl (fun e => by cases e) HB1.out (by decide) HLt.out ?_)
            intro v3 w3 hG3 hg3 hat3
            have HN := Lib.hid (HG1.next HT.out HU.out hG3 hg3)
            clear hG3 hg3 hat3 HGr HB1 HLt hcv
            go_wp2_with fail
            go_roundw
            case rel => exact ⟨6, 8, by decide, by decide, rfl, HN.out⟩
            case measure => simp [intOf]
          · obtain rfl : z = 8 := by omega
            have hcv : IntKind.u8.wrap (b8 / 256) = ((G 14 : Nat) : Int) := by have := HB8.out 6 (by decide); simpa using this
            have HFk := Lib.hid (HFL.out 14)
            have HGk : Hid (G 14 = G 14) := Lib.hid rfl
            obtain ⟨u, hu⟩ : ∃ u, G 14 = u := ⟨_, rfl⟩
            rw [hu] at hcv HFk
            have HU := Lib.hid hu.symm
            clear hu HGk hk hz
            have HGr := Lib.hid (Grow.later HT.out.1 ((Below.refl _ wr).alloc (Nat.le_refl _) (.cells #[.int .u8 (u : Int)] 5)))
            have HB1 := Lib.hid (ob1 (w := wr) (z := (u : Int)) rfl HFk.out)
            have HLt : Hid (wc.heap.size ≤ (wr.alloc (.cells #[.int .u8 (u : Int)] 5)).heap.size) := Lib.hid (HT.out.2.alloc HT.out.2.size _).size
            go_wp2_with (at_builtin; refine wpList_appO rfl (.tmp 37) (.tmp 46) rfl wc.heap.size _ 14 1 1 (some ⟨wr.heap.size, 0, none⟩) G (fun _ => u) _ rfl HGr.out rfl (fun e => by cases e) HB1.out (by decide) HLt.out ?_)
            intro v3 w3 hG3 hg3 hat3
            have HN := Lib.hid (HG1.next HT.out HU.out hG3 hg3)
            clear hG3 hg3 hat3 HGr HB1 HLt hcv
            go_wp2_with fail
            go_roundw
            case rel => exact ⟨7, 0, by decide, by decide, rfl, HN.out⟩
            case measure => simp [intOf]
          · obtain rfl : z = 0 := by omega
            have hcv : IntKind.u8.wrap (b8) = ((G 15 : Nat) : Int) := by have := HB8.out 7 (by decide); simpa using this
            have HFk := Lib.hid (HFL.out 15)
            have HGk : Hid (G 15 = G 15) := Lib.hid rfl
            obtain ⟨u, hu⟩ : ∃ u, G 15 = u := ⟨_, rfl⟩
            rw [hu] at hcv HFk
            have HU := Lib.hid hu.symm
            clear hu HGk hk hz
            have HGr := Lib.hid (Grow.later HT.out.1 ((Below.refl _ wr).alloc (Nat.le_refl _) (.cells #[.int .u8 (u : Int)] 5)))
            have HB1 := Lib.hid (ob1 (w := wr) (z := (u : Int)) rfl HFk.out)
            have HLt : Hid (wc.heap.size ≤ (wr.alloc (.cells #[.int .u8 (u : Int)] 5)).heap.size) := Lib.hid (HT.out.2.alloc HT.out.2.size _).size
            go_wp2_with (at_builtin; refine wpList_appO rfl (.tmp 37) (.tmp 46) rfl wc.heap.size _ 15 1 1 (some ⟨wr.heap.size, 0, none⟩) G (fun _ => u) _ rfl HGr.out rfl (fun e => by cases e) HB1.out (by decide) HLt.out ?_)
            intro v3 w3 hG3 hg3 hat3
            have HN := Lib.hid (HG1.next HT.out HU.out hG3 hg3)
            clear hG3 hg3 hat3 HGr HB1 HLt hcv
            go_wp2_with fail
            go_roundw
            case rel => exact ⟨8, -8, by decide, by decide, rfl, HN.out⟩
            case measure => simp [intOf]
          · obtain rfl : z = -8 := by omega
            clear hk hz
            obtain ⟨oc, cc, rfl, hB, _⟩ := HT.out.1.bytes (fun i _ => HFL.out i)
            have hP := HT.out.2
            have HB16 : Hid (Bytes wr oc 16 G) := Lib.hid hB
            have HX7 : Hid (Blk wr q T2 40) := Lib.hid (Blk.below HF.out hP (Blk.lt HF.out))
            have HX3 : Hid (Blk wr w.heap.size D 40) := Lib.hid (Blk.below HDD.out hP (Blk.lt HDD.out))
            have HX6 : Hid (Blk wr (w.heap.size + 1) zero16 40) := Lib.hid (Blk.below HZ.out hP (Blk.lt HZ.out))
            have HXO : Hid (Below w.heap.size w wr) := Lib.hid (HO.out.trans (hP.mono HO.out.size))
            clear hB hP HT HF HDD HZ HO
            go_wp2_with (first
              | (refine wpList_load16a rfl (.tmp 7) rfl q rfl T2 HX7.out HFC.out ?_)
              | (refine wpList_load16a rfl (.tmp 3) rfl w.heap.size rfl D HX3.out HDC.out ?_))
            refine (HTH3.out _ _ _ HB16.out).mono ?_
            rintro e w4 ⟨rfl, hb4⟩
            have HX6' : Hid (Blk w4 (w.heap.size + 1) zero16 40) := Lib.hid (Blk.below HX6.out hb4 (Blk.lt HX6.out))
            have hO4 := HXO.out.trans (hb4.mono HXO.out.size)
            have HN : Hid (Blk (w4.setCells (w.heap.size + 1) 0 M.toList) (w.heap.size + 1) M 40) := Lib.hid (Blk.store16a HX6'.out HMC.out HZC.out)
            have HO5 : Hid (Below w.heap.size w (w4.setCells (w.heap.size + 1) 0 M.toList)) := Lib.hid (Below.set16 (g := w.heap.size + 1) hO4 (by omega) hO4.size _)
            clear hb4 hO4 HX6 HXO HX7 HX3
            go_wp2_with (first
              | (refine wpList_store16a rfl (.tmp 6) (.tmp 51) rfl (w.heap.size + 1) rfl M zero16 rfl HX6'.out HMC.out HZC.out ?_))
            refine bodyPost_ret (v := .agg M) ?_ rfl ⟨by rw [HM.out], HO5.out⟩
            exact res16a Tryz.results41 _ _ (w.heap.size + 1) M rfl HN.out HMC.out
end Go.Proofs.YtkcbckafibjflaaGreatDoor
