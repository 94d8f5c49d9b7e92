/- The document's twelve bytes. -/
import Derived.Test.YtkaddilgegimjaaDoorNr
namespace Go.Proofs.YtkaddilgegimjaaDoor
set_option linter.unusedVariables false
set_option linter.unusedSimpArgs false
open Go.RowKit

/-- What stands in the last k places. -/
def rbF (t n k i : Nat) : Nat := if 12 ≤ i + k then nbF t n i else 0
theorem nbF_n {t n : Nat} (hn : n < 18446744073709551616) {k : Nat} (hk : k < 8) : nbF t n (11 - k) = n / 256 ^ k % 256 := by
  match k, hk with
  | 0, _ => show n % 256 = n / 1 % 256; rw [Nat.div_one]
  | 1, _ => rfl
  | 2, _ => rfl
  | 3, _ => rfl
  | 4, _ => rfl
  | 5, _ => rfl
  | 6, _ => rfl
  | 7, _ => show n / 72057594037927936 = n / 72057594037927936 % 256; omega
theorem nbF_t {t n : Nat} (ht : t < 4294967296) {k : Nat} (hk : k < 4) : nbF t n (3 - k) = t / 256 ^ k % 256 := by
  match k, hk with
  | 0, _ => show t % 256 = t / 1 % 256; rw [Nat.div_one]
  | 1, _ => rfl
  | 2, _ => rfl
  | 3, _ => show t / 16777216 = t / 16777216 % 256; omega
theorem rbF_step {t n k d v : Nat} (hd : d + k = 11) (hv : nbF t n d = v) : ∀ i, i < 12 → upd (rbF t n k) d v i = rbF t n (k + 1) i := fun i hi => by
  unfold upd rbF
  by_cases e : i = d
  · subst e; rw [if_pos rfl, if_pos (by omega), hv]
  · rw [if_neg e]
    by_cases h : 12 ≤ i + k
    · rw [if_pos h, if_pos (by omega)]
    · rw [if_neg h, if_neg (by omega)]
theorem Row.congr' {w : World} {g n : Nat} {f f' : Nat → Nat} (h : Row w g n f) (he : ∀ i, i < n → f i = f' i) : Row w g n f' := by
  unfold Row at h ⊢; rw [← rowC_congr he]; exact h
theorem below_grown' {B : Nat} {w w1 : World} (hg : w.grownBy w1 none) (hB : B ≤ w.heap.size) : Below B w w1 := (Below.refl _ w).grown hg hB (fun _ h => by cases h)

set_option maxRecDepth 100000 in
set_option maxHeartbeats 1600000 in
theorem rbytes_any (t n : Nat) (w : World) (ht : t < 4294967296) (hn : n < 18446744073709551616) :
    Calls Tryd.prog 21 #[.int .u32 t, .int .u64 n] w fun e w' => ∃ g, e = .returned (.slice (some ⟨g, 0, none⟩) 12 12) ∧ Row w' g 12 (nbF t n) ∧ Below w.heap.size w w' := by
  obtain ⟨i0, hi, hz0, hz1, hz2⟩ := info_parts info_u8
  have HT := Lib.hid ht
  have HN := Lib.hid hn
  clear ht hn
  go_enter Tryd.func21, Tryd.ntmps21
  go_wp2_with (at_make; refine wpList_make_full _ rfl _ _ 31 rfl w.heap.size 5 i0 (.int .u8 0) 1 Tryd.underlying31 hi hz0 hz1 .i64 .i64 (12 : Int) (12 : Int) 12 rfl rfl rfl rfl ?c1 ?c2 (Nat.le_refl _) ?_)
  case c1 => rw [hz2]; omega
  case c2 => unfold maxLen; omega
  intro w2 hown2 hg2
  have hR : Row w2 w.heap.size 12 (fun _ => 0) := Row.made hown2
  have hR0 : Row w2 w.heap.size 12 (rbF t n 0) := hR.congr' fun i hi => (if_neg (by omega)).symm
  have hb2 : Below w.heap.size w w2 := below_grown' hg2 (Nat.le_refl _)
  obtain ⟨g, hg⟩ : ∃ g, w.heap.size = g := ⟨_, rfl⟩
  have HG : Hid _ := hg
  rw [hg] at hR0 hb2 ⊢
  clear hown2 hg2 hR hi hz0 hz1 hz2 hg
  go_wp2_with fail
  go_loopw [1, 6] (fun nv i wr => ∃ k : Nat, k ≤ 8 ∧ i = .int .i64 (11 - (k : Int)) ∧ nv = .int .u64 ((n / 256 ^ k : Nat) : Int) ∧ Row wr g 12 (rbF t n k) ∧ Below g w wr) (fun _ i _ => (intOf i).toNat)
  case atStart => exact ⟨0, Nat.zero_le _, rfl, by rw [Nat.pow_zero, Nat.div_one], hR0, hb2⟩
  case round =>
    obtain ⟨k, hk, rfl, rfl, hX, hO⟩ := hrel
    clear hR0 hb2
    by_cases hlt : k < 8
    · obtain ⟨d, hd⟩ : ∃ d : Nat, 11 - k = d := ⟨_, rfl⟩
      have hdi : (11 : Int) - (k : Int) = (d : Int) := by omega
      have hv : nbF t n d = n / 256 ^ k % 256 := hd ▸ nbF_n HN.out hlt
      have hs : n / 256 ^ (k + 1) = n / 256 ^ k / 256 := by rw [Nat.pow_succ, Nat.div_div_eq_div_mul]
      have hql : n / 256 ^ k < 18446744073709551616 := Nat.lt_of_le_of_lt (Nat.div_le_self _ _) HN.out
      have c1 : wr.cell? ⟨g, d, none⟩ = some (.int .u8 (rbF t n k d : Nat)) := hX.cell (by omega)
      have f1 : wr.frozen? ⟨g, d, none⟩ = false := Blk.free hX d
      have hst := rbF_step (t := t) (n := n) (k := k) (d := d) (by omega) hv
      rw [hdi]
      have d0 : (4 : Int) ≤ (d : Int) := by omega
      have d1 : (d : Int) < 12 := by omega
      obtain ⟨q, hq⟩ : ∃ q, n / 256 ^ k = q := ⟨_, rfl⟩
      rw [hq] at hs hql hst hv ⊢
      have hX4 : Row (wr.setCell ⟨g, d, none⟩ (.int .u8 ((q : Int) % 256))) g 12 (rbF t n (k + 1)) := Row.congr' (hX.set d (q % 256)) hst
      have hO4 : Below g w (wr.setCell ⟨g, d, none⟩ (.int .u8 ((q : Int) % 256))) := hO.setCell (Nat.le_refl _) _
      have HX4 := Lib.hid hX4
      have HO4 := Lib.hid hO4
      have HS : Hid _ := hs
      clear hX hO hX4 hO4 hs hst hv hq hdi
      generalize rbF t n k d = z at *
      go_wp2_with fail
      go_roundw
      case rel => exact ⟨k + 1, by omega, by congr 1; omega, by rw [HS.out]; go_num, HX4.out, HO4.out⟩
      case measure => simp [intOf] <;> omega
    · obtain rfl : k = 8 := by omega
      have e3 : (11 : Int) - ((8 : Nat) : Int) = 3 := by decide
      rw [e3]
      generalize hqq : n / 256 ^ 8 = q8
      clear hqq e3
      go_wp2_with fail
      go_loopw [0, 7] (fun tv i wr => ∃ k : Nat, k ≤ 4 ∧ i = .int .i64 (3 - (k : Int)) ∧ tv = .int .u32 ((t / 256 ^ k : Nat) : Int) ∧ Row wr g 12 (rbF t n (8 + k)) ∧ Below g w wr) (fun _ i _ => (intOf i + 1).toNat)
      case atStart => exact ⟨0, Nat.zero_le _, rfl, by rw [Nat.pow_zero, Nat.div_one], hX, hO⟩
      case round =>
        obtain ⟨k, hk, rfl, rfl, hX2, hO2⟩ := hrel
        clear hX hO
        by_cases hlt : k < 4
        · obtain ⟨d, hd⟩ : ∃ d : Nat, 3 - k = d := ⟨_, rfl⟩
          have hdi : (3 : Int) - (k : Int) = (d : Int) := by omega
          have hv : nbF t n d = t / 256 ^ k % 256 := hd ▸ nbF_t HT.out hlt
          have hs : t / 256 ^ (k + 1) = t / 256 ^ k / 256 := by rw [Nat.pow_succ, Nat.div_div_eq_div_mul]
          have hql : t / 256 ^ k < 4294967296 := Nat.lt_of_le_of_lt (Nat.div_le_self _ _) HT.out
          have c1 : wr.cell? ⟨g, d, none⟩ = some (.int .u8 (rbF t n (8 + k) d : Nat)) := hX2.cell (by omega)
          have f1 : wr.frozen? ⟨g, d, none⟩ = false := Blk.free hX2 d
          have hst := rbF_step (t := t) (n := n) (k := 8 + k) (d := d) (by omega) hv
          rw [hdi]
          have d0 : (0 : Int) ≤ (d : Int) := by omega
          have d1 : (d : Int) < 12 := by omega
          obtain ⟨q, hq⟩ : ∃ q, t / 256 ^ k = q := ⟨_, rfl⟩
          rw [hq] at hs hql hst hv ⊢
          have hX4 : Row (wr.setCell ⟨g, d, none⟩ (.int .u8 ((q : Int) % 256))) g 12 (rbF t n (8 + (k + 1))) := Row.congr' (hX2.set d (q % 256)) hst
          have hO4 : Below g w (wr.setCell ⟨g, d, none⟩ (.int .u8 ((q : Int) % 256))) := hO2.setCell (Nat.le_refl _) _
          have HX4 := Lib.hid hX4
          have HO4 := Lib.hid hO4
          have HS : Hid _ := hs
          clear hX2 hO2 hX4 hO4 hs hst hv hq hdi
          generalize rbF t n (8 + k) d = z at *
          go_wp2_with fail
          go_roundw
          case rel => exact ⟨k + 1, by omega, by congr 1 <;> omega, by rw [HS.out]; go_num, HX4.out, HO4.out⟩
          case measure => simp [intOf] <;> omega
        · obtain rfl : k = 4 := by omega
          have hfin : Row wr g 12 (nbF t n) := hX2.congr' fun i hi => if_pos (by omega)
          have HF := Lib.hid hfin
          have HO := Lib.hid hO2
          have e3 : (3 : Int) - ((4 : Nat) : Int) = -1 := by decide
          rw [e3]
          generalize hqq : t / 256 ^ 4 = q4
          clear hqq e3 hX2 hO2 hfin
          go_wp2_with fail
          go_ret
          exact ⟨g, rfl, HF.out, by rw [HG.out]; exact HO.out⟩
end Go.Proofs.YtkaddilgegimjaaDoor
