/- packed.Number, packed.Bytes, packed.Join. -/
import Derived.Test.YtkaddilgegimjaaDoorClone
import Derived.Test.YtkaddilgegimjaaDoorWn
import Derived.Laws.OwnMore
namespace Go.Proofs.YtkaddilgegimjaaDoor
set_option linter.unusedVariables false
set_option linter.unusedSimpArgs false
open Go.RowKit

theorem Row.cong {w : World} {g n : Nat} {f f' : Nat → Nat} (h : Row w g n f) (he : ∀ i, i < n → f i = f' i) : Row w g n f' := by
  unfold Row at h ⊢; rw [← rowC_congr he]; exact h
theorem below_grw {B : Nat} {w w1 : World} (hg : w.grownBy w1 none) (hB : B ≤ w.heap.size) : Below B w w1 := (Below.refl _ w).grown hg hB (fun _ h => by cases h)
/-- A number's bytes, the highest first. -/
def numB (n size i : Nat) : Nat := n / 256 ^ (size - 1 - i) % 256
theorem numB_lt (n size i : Nat) : numB n size i < 256 := Nat.mod_lt _ (by decide)
def numR (n size k : Nat) : Nat → Nat := fun q => if size - k ≤ q then numB n size q else 0
theorem numR_step {n size k d q : Nat} (hd : d + k + 1 = size) (hq : n / 256 ^ k = q) : ∀ i, i < size → upd (numR n size k) d (q % 256) i = numR n size (k + 1) i := fun i hi => by
  unfold upd numR
  by_cases e : i = d
  · subst e
    rw [if_pos rfl, if_pos (by omega)]
    unfold numB
    rw [show size - 1 - i = k by omega, hq]
  · rw [if_neg e]
    by_cases h : size - k ≤ i
    · rw [if_pos h, if_pos (by omega)]
    · rw [if_neg h, if_neg (by omega)]

set_option maxRecDepth 100000 in
set_option maxHeartbeats 1000000 in
theorem pnum_any (n size : Nat) (w : World) (hn : n < 18446744073709551616) (h1 : 1 ≤ size) (h8 : size ≤ 8) :
    Calls Tryd.prog 95 #[.int .u64 (n : Int), .int .i64 (size : Int)] w fun e w' => e = .returned (.slice (some ⟨w.heap.size, 0, none⟩) size size) ∧ Row w' w.heap.size size (numB n size) ∧ Below w.heap.size w w' := by
  obtain ⟨i0, hi, hz0, hz1, hz2⟩ := info_parts info_u8
  have HN := Lib.hid hn
  have H1 := Lib.hid h1
  have H8 := Lib.hid h8
  have hmx : max (0 : Int) (size : Int) = (size : Int) := by omega
  have b1 : (1 : Int) ≤ (size : Int) := by omega
  have b8 : (size : Int) ≤ 8 := by omega
  clear hn h1 h8
  go_enter Tryd.func95, Tryd.ntmps95
  go_wp2_with (at_make; refine wpList_make_full _ rfl _ _ 31 rfl w.heap.size 5 i0 (.int .u8 0) 1 Tryd.underlying31 hi hz0 hz1 .i64 .i64 (size : Int) (size : Int) size rfl rfl rfl rfl ?c1 ?c2 (Nat.le_refl _) ?_)
  case c1 => rw [hz2]; omega
  case c2 => unfold maxLen; omega
  intro w2 hown2 hg2
  have hR : Row w2 w.heap.size size (fun _ => 0) := Row.made hown2
  have hR0 : Row w2 w.heap.size size (numR n size 0) := Row.cong hR fun i hi => (if_neg (by omega)).symm
  have hb2 : Below w.heap.size w w2 := below_grw hg2 (Nat.le_refl _)
  obtain ⟨g, hg⟩ : ∃ g, w.heap.size = g := ⟨_, rfl⟩
  have HG : Hid _ := hg
  rw [hg] at hR0 hb2 ⊢
  clear hown2 hg2 hR hi hz0 hz1 hz2 hg hmx
  go_wp2_with fail
  go_loopw [0, 6] (fun nv i wr => ∃ k : Nat, k ≤ size ∧ i = .int .i64 ((size : Int) - 1 - (k : Int)) ∧ nv = .int .u64 ((n / 256 ^ k : Nat) : Int) ∧ Row wr g size (numR n size k) ∧ Below g w wr) (fun _ i _ => (intOf i + 1).toNat)
  case atStart => exact ⟨0, Nat.zero_le _, by congr 1; omega, by rw [Nat.pow_zero, Nat.div_one], hR0, hb2⟩
  case round =>
    obtain ⟨k, hk, rfl, rfl, hX, hO⟩ := hrel
    clear hR0 hb2
    by_cases hlt : k < size
    · obtain ⟨d, hd⟩ : ∃ d : Nat, d + k + 1 = size := ⟨size - 1 - k, by omega⟩
      have hdi : (size : Int) - 1 - (k : Int) = (d : Int) := by omega
      have hs : n / 256 ^ (k + 1) = n / 256 ^ k / 256 := by rw [Nat.pow_succ, Nat.div_div_eq_div_mul]
      have hql : n / 256 ^ k < 18446744073709551616 := Nat.lt_of_le_of_lt (Nat.div_le_self _ _) HN.out
      have c1 : wr.cell? ⟨g, d, none⟩ = some (.int .u8 (numR n size k d : Nat)) := hX.cell (by omega)
      have f1 : wr.frozen? ⟨g, d, none⟩ = false := Blk.free hX d
      rw [hdi]
      have d0 : (0 : Int) ≤ (d : Int) := by omega
      have d1 : (d : Int) < (size : Int) := by omega
      obtain ⟨q, hq⟩ : ∃ q, n / 256 ^ k = q := ⟨_, rfl⟩
      have hst := numR_step hd hq
      rw [hq] at hs hql ⊢
      have hX4 : Row (wr.setCell ⟨g, d, none⟩ (.int .u8 ((q : Int) % 256))) g size (numR n size (k + 1)) := Row.cong (hX.set d (q % 256)) hst
      have hO4 : Below g w (wr.setCell ⟨g, d, none⟩ (.int .u8 ((q : Int) % 256))) := hO.setCell (Nat.le_refl _) _
      have HX4 := Lib.hid hX4
      have HO4 := Lib.hid hO4
      have HS : Hid _ := hs
      have HD := Lib.hid hd
      clear hX hO hX4 hO4 hs hst hq hdi hd
      generalize numR n size k d = z at *
      go_wp2_with fail
      go_roundw
      case rel => exact ⟨k + 1, by omega, by have := HD.out; congr 1; omega, by rw [HS.out]; go_num, HX4.out, HO4.out⟩
      case measure => have := HD.out; simp [intOf] <;> omega
    · obtain rfl : k = size := by omega
      have e3 : (k : Int) - 1 - (k : Int) = -1 := by omega
      rw [e3]
      have HX := Lib.hid (Row.cong (f' := numB n k) hX fun i hi => by unfold numR; rw [if_pos (by omega)])
      have HO := Lib.hid hO
      clear hX hO hlt hk
      generalize n / 256 ^ k = q8
      go_wp2_with fail
      go_ret
      exact ⟨by rw [HG.out]; rfl, by rw [HG.out]; exact HX.out, by rw [HG.out]; exact HO.out⟩

/-- A row in a block of the call's own. -/
theorem Grow.row {w : World} {base g n : Nat} {f : Nat → Nat} (h : Row w g n f) (hb : base ≤ g) (hn : n ≤ maxLen) : Grow w base (.slice (some ⟨g, 0, none⟩) n n) n f :=
  ⟨by rw [rowC_len, Nat.mul_one], .inr ⟨g, n, (rowC n f).toArray, rfl, hb, h, Nat.le_refl _, hn, by simp [rowC_len], by simp only [Nat.mul_one]; exact List.take_of_length_le (Nat.le_of_eq (rowC_len n f))⟩⟩
/-- Bytes behind their count. -/
def lenF (len : Nat) (f : Nat → Nat) : Nat → Nat := fun i => if i = 0 then len % 256 else f (i - 1)
theorem lenF_lt {len : Nat} {f : Nat → Nat} (hf : ∀ i, i < len → f i < 256) : ∀ i, i < len + 1 → lenF len f i < 256 := fun i hi => by
  unfold lenF
  by_cases e : i = 0
  · rw [if_pos e]; exact Nat.mod_lt _ (by decide)
  · rw [if_neg e]; exact hf _ (by omega)
set_option maxRecDepth 100000 in
set_option maxHeartbeats 1000000 in
theorem pbytes_any (od : Option Addr) (len cap : Nat) (f : Nat → Nat) (w : World) (hB : Bytes w od len f) (hl : len < 10000000000000) (hno : od = none → len = 0) :
    Calls Tryd.prog 96 #[.slice od len cap] w fun e w' => ∃ v, e = .returned v ∧ Grow w' w.heap.size v (len + 1) (lenF len f) ∧ Below w.heap.size w w' := by
  have hl0 : (len : Int) < 10000000000000 := by omega
  have hE : Row (w.alloc (.cells #[.int .u8 ((len : Int) % 256)] 5)) w.heap.size 1 (fun _ => len % 256) := by
    have := Blk.new w #[.int .u8 ((len : Int) % 256)] 5
    unfold Row
    rw [show (rowC 1 fun _ => len % 256).toArray = #[.int .u8 ((len : Int) % 256)] from by simp [rowC, List.range_succ]]
    exact this
  have HG := Lib.hid (Grow.row hE (Nat.le_refl _) (by unfold maxLen; omega))
  cases od with
  | none =>
    obtain rfl := hno rfl
    have HG0 : Hid (Grow (w.alloc (.cells #[.int .u8 0] 5)) w.heap.size (.slice (some ⟨w.heap.size, 0, none⟩) 1 1) 1 (lenF 0 f)) := Lib.hid (HG.out.congr fun i hi => by unfold lenF; rw [if_pos (by omega)])
    clear hE HG hB hl hl0 hno
    go_enter Tryd.func96, Tryd.ntmps96
    go_wp2_with fail
    go_ret
    exact ⟨_, rfl, HG0.out, (Below.refl _ _).alloc (Nat.le_refl _) _⟩
  | some a =>
    have HB := Lib.hid (hB.alloc (.cells #[.int .u8 ((len : Int) % 256)] 5))
    have HL := Lib.hid hl
    clear hE hB hl hno
    go_enter Tryd.func96, Tryd.ntmps96
    go_wp2_with (at_builtin; refine wpList_appA rfl (.tmp 6) (.tmp 7) rfl w.heap.size _ 1 len cap a _ f _ rfl HG.out rfl HB.out (by have := HL.out; omega) ?c1 ?_)
    case c1 => simp
    intro v' w' hG hb
    have HG2 := Lib.hid (show Grow w' w.heap.size v' (len + 1) (lenF len f) by
      rw [Nat.add_comm]
      exact hG.congr fun i hi => by
        unfold catF lenF
        by_cases e : i < 1
        · rw [if_pos e, if_pos (by omega)]
        · rw [if_neg e, if_neg (by omega)])
    have HB2 : Hid (Below w.heap.size w w') := Lib.hid (((Below.refl _ _).alloc (Nat.le_refl _) (.cells #[.int .u8 ((len : Int) % 256)] 5)).trans hb)
    clear hG hb HG HB
    go_wp2_with fail
    go_ret
    exact ⟨_, rfl, HG2.out, HB2.out⟩

/-- Rows, one behind the other. -/
def totL (L : Nat → Nat) : Nat → Nat
  | 0 => 0
  | k + 1 => totL L k + L k
def totF (L : Nat → Nat) (F : Nat → Nat → Nat) : Nat → Nat → Nat
  | 0 => fun _ => 0
  | k + 1 => catF (totL L k) (totF L F k) (F k)
/-- Slices of bytes, none of them nil. -/
def Parts (w : World) (b off k : Nat) (L : Nat → Nat) (F : Nat → Nat → Nat) : Prop := ∀ i, i < k → ∃ a cap, w.cell? ⟨b, off + i, none⟩ = some (.slice (some a) (L i) cap) ∧ Bytes w (some a) (L i) (F i)
theorem Parts.later {w w' : World} {b off k : Nat} {L : Nat → Nat} {F : Nat → Nat → Nat} (h : Parts w b off k L F) (hb : Below w.heap.size w w') : Parts w' b off k L F := fun i hi => by
  obtain ⟨a, cap, h1, h2⟩ := h i hi
  exact ⟨a, cap, cell_below hb h1, h2.later hb⟩
theorem totL_le {L : Nat → Nat} {m : Nat} : ∀ {k : Nat}, (∀ i, i < k → L i ≤ m) → totL L k ≤ k * m
  | 0, _ => Nat.zero_le _
  | k + 1, h => by
    have h1 := totL_le (k := k) fun i hi => h i (by omega)
    have h2 := h k (by omega)
    unfold totL; rw [Nat.succ_mul]; omega
set_option maxRecDepth 100000 in
set_option maxHeartbeats 1000000 in
theorem pjoin_any (b off k cp : Nat) (L : Nat → Nat) (F : Nat → Nat → Nat) (w : World) (hk : k ≤ 100) (hL : ∀ i, i < k → L i ≤ 1000000000) (hP : Parts w b off k L F) :
    Calls Tryd.prog 94 #[.slice (some ⟨b, off, none⟩) k cp] w fun e w' => ∃ v, e = .returned v ∧ Grow w' w.heap.size v (totL L k) (totF L F k) ∧ Below w.heap.size w w' := by
  have HP := Lib.hid hP
  have HL := Lib.hid hL
  have HK := Lib.hid hk
  have k100 : (k : Int) ≤ 100 := by omega
  clear hP hL hk
  go_enter Tryd.func94, Tryd.ntmps94
  go_wp2_with fail
  go_loopw [3, 8] (fun v c wr => ∃ j : Nat, j ≤ k ∧ c = .int .i64 (j : Int) ∧ Grow wr w.heap.size v (totL L j) (totF L F j) ∧ Below w.heap.size w wr) (fun _ c _ => k - (intOf c).toNat)
  case atStart => exact ⟨0, Nat.zero_le _, rfl, Grow.nil _ _ _, Below.refl _ _⟩
  case round =>
    obtain ⟨j, hj, rfl, hG, hO⟩ := hrel
    have HG := Lib.hid hG
    have HO := Lib.hid hO
    by_cases hlt : j < k
    · obtain ⟨a, cap, hc, hB⟩ := (HP.out.later hO) j hlt
      have i0 : (j : Int) < (k : Int) := by omega
      have i1 : (0 : Int) ≤ (j : Int) := by omega
      have t1 := totL_le (L := L) (m := 1000000000) (k := j) fun i hi => HL.out i (by omega)
      have t2 : totL L j + L j < 100000000000000 := by
        have := HL.out j hlt
        have := HK.out
        have : j * 1000000000 ≤ 100 * 1000000000 := Nat.mul_le_mul_right _ (by omega)
        omega
      have HT := Lib.hid t2
      have HB := Lib.hid hB
      have hsz := hO.size
      clear hG hO hB t1 t2
      obtain ⟨lj, hlj⟩ : ∃ x, L j = x := ⟨_, rfl⟩
      have HLJ := Lib.hid hlj
      rw [hlj] at hc
      clear hlj
      go_wp2_with (at_builtin; refine wpList_appA rfl (.tmp 12) (.tmp 13) rfl w.heap.size _ (totL L j) lj cap a (totF L F j) (F j) _ rfl HG.out rfl (by have h := HB.out; rw [HLJ.out] at h; exact h) (by have h := HT.out; rw [HLJ.out] at h; exact h) hsz ?_; intro v2 w2 hG2 hb2)
      have HG2 := Lib.hid (show Grow w2 w.heap.size v2 (totL L (j + 1)) (totF L F (j + 1)) by
        rw [← HLJ.out] at hG2; exact hG2)
      have HO2 := Lib.hid (HO.out.trans hb2)
      clear hG2 hb2 HG HO HB
      go_wp2_with fail
      go_roundw
      case rel => exact ⟨j + 1, by omega, by go_num, HG2.out, HO2.out⟩
      case measure => simp [intOf] <;> omega
    · obtain rfl : j = k := by omega
      clear hG hO
      go_wp2_with fail
      go_ret
      exact ⟨_, rfl, HG.out, HO.out⟩
end Go.Proofs.YtkaddilgegimjaaDoor
