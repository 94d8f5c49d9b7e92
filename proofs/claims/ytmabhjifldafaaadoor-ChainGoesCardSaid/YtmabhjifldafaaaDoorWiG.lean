/- Number's bytes in a row of the call's own. -/
import Derived.Test.YtmabhjifldafaaaDoorWi7
namespace Go.Proofs.YtmabhjifldafaaaDoor
set_option linter.unusedVariables false
set_option linter.unusedSimpArgs false
open Go.RowKit

def NumG (n : Nat) (w0 : World) (e : Ending) (w' : World) : Prop := ∃ v, e = .returned v ∧ Grow w' w0.heap.size v 8 (numB n 8) ∧ Below w0.heap.size w0 w'
theorem Grow.of_row {w : World} {g n : Nat} {f : Nat → Nat} (h : Row w g n f) (hn : n ≤ 1000000) : Grow w g (.slice (some ⟨g, 0, none⟩) n n) n f :=
  ⟨by rw [rowC_len, Nat.mul_one], .inr ⟨g, n, _, rfl, Nat.le_refl _, h, Nat.le_refl _, by unfold maxLen; omega, by rw [List.size_toArray, rowC_len, Nat.mul_one], by rw [Nat.mul_one]; exact List.take_of_length_le (by rw [rowC_len]; exact Nat.le_refl _)⟩⟩
set_option maxRecDepth 100000 in
set_option maxHeartbeats 4000000 in
theorem num_own (n : Nat) (w : World) (hn : n < 18446744073709551616) : Calls Tryd.prog 83 #[.int .u64 (n : Int)] w (NumG n w) := by
  obtain ⟨i0, hi0, hz0, hz1, hz2⟩ := info_parts info_u8
  have HN := Lib.hid hn
  clear hn
  go_enter Tryd.func83, Tryd.ntmps83
  go_wp2_with (refine wpList_make_own _ rfl _ _ 33 rfl w.heap.size 5 i0 (.int .u8 0) 1 Tryd.underlying33 hi0 hz0 hz1 .i64 .i64 8 8 rfl rfl rfl ?c1 ?c2 (Nat.le_refl _) ?_)
  case c1 => rw [hz2]; omega
  case c2 => unfold maxLen; omega
  intro w2 hown2 hg2
  have H2 : Hid (JG w (.slice (some ⟨w.heap.size, 0, none⟩) 0 8) 0 (numB n 8) w2) := Lib.hid ⟨hown2, (Below.refl _ w).grown hg2 (Nat.le_refl _) (fun _ h => by cases h)⟩
  clear hown2 hg2 hi0 hz0 hz1 hz2
  go_wp2_with fail
  go_loopw [3, 4] (fun x v wr => ∃ (j : Nat) (vb : Value), j ≤ 8 ∧ v = .int .i64 (56 - 8 * (j : Int)) ∧ vb = x ∧ JG w vb j (numB n 8) wr) (fun _ v _ => (intOf v + 8).toNat)
  case atStart => exact ⟨0, _, by omega, rfl, rfl, H2.out⟩
  case round =>
    clear H2
    obtain ⟨j, vb, hj, rfl, rfl, hX⟩ := hrel
    have HX := Lib.hid hX
    clear hX
    by_cases hlj : j < 8
    · as_aux_lemma =>
      obtain ⟨sh, hsh⟩ : ∃ sh, 56 - 8 * j = sh := ⟨_, rfl⟩
      have e1 : 56 - 8 * (j : Int) = (sh : Int) := by omega
      rw [e1]
      have g0 : (0 : Int) ≤ (sh : Int) := by omega
      have HJ := Lib.hid hlj
      have HSH : Hid (sh + 8 * j = 56) := Lib.hid (by omega)
      have e2 : IntKind.i64.wrap ((sh : Int) - 8) = 56 - 8 * ((j + 1 : Nat) : Int) := by rw [IntWalk.i64_in _ (by omega)]; omega
      obtain ⟨y, hy⟩ : ∃ y, numB n 8 j = y := ⟨_, rfl⟩
      have HY := Lib.hid hy
      have v0 : min sh 64 = sh := by omega
      have v1 : (n : Int) / 2 ^ min sh 64 % 256 = (y : Int) := by
        rw [v0, ← hy]
        unfold numB
        have p1 : sh = 8 * (8 - 1 - j) := by omega
        have p2 : (2 : Nat) ^ sh = 256 ^ (8 - 1 - j) := by rw [p1, Nat.pow_mul]
        rw [← p2]
        generalize hD : (2 : Nat) ^ sh = D
        have p3 : (2 : Int) ^ sh = (D : Int) := by rw [← hD]; exact (Int.natCast_pow 2 sh).symm
        rw [p3]; rfl
      have v2 : (n : Int) / 2 ^ sh % 256 = (y : Int) := by rw [← v0]; exact v1
      clear hy v0
      clear hlj hj hsh e1
      go_wp2_with (first
        | (refine wpList_app8 rfl (.tmp 10) (.tmp 15) rfl w.heap.size vb j (numB n 8) y wr rfl HX.out.g rfl (by have := HJ.out; omega) HX.out.o.size ?_; intro v9 w9 hG9 hb9 hs9; have H9 : Hid (JG w v9 (j + 1) (numB n 8) w9) := Lib.hid ⟨hG9.congr (fun k hk => by unfold upd; by_cases e : k = j <;> simp [e, HY.out]), HX.out.o.trans hb9⟩; clear hG9 hb9 hs9))
      go_roundw
      case rel => exact ⟨j + 1, _, by have := HJ.out; omega, by first | exact congrArg _ e2 | rfl | go_num, rfl, H9.out⟩
      case measure => have := HSH.out; have := HJ.out; simp [intOf] <;> omega
    · obtain rfl : j = 8 := by omega
      clear hlj hj
      go_wp2_with fail
      go_ret
      exact ⟨_, rfl, HX.out.g, HX.out.o⟩
set_option maxRecDepth 100000 in
set_option maxHeartbeats 4000000 in
theorem rnum_own (n : Nat) (w : World) (hn : n < 18446744073709551616) : Calls Tryd.prog 84 #[.int .u64 (n : Int)] w (NumG n w) := by
  have HN := Lib.hid hn
  clear hn
  go_enter Tryd.func84, Tryd.ntmps84
  go_wp2_with (refine wpList_mk rfl _ _ rfl 8 rfl rfl (by omega) ?_)
  obtain ⟨w2, hw2⟩ : ∃ z, w.alloc (.cells (rowC 8 (fun _ => 0)).toArray 5) = z := ⟨_, rfl⟩
  have hR0 : Row w2 w.heap.size 8 (numR n 8 0) := by
    rw [← hw2]
    have h := Blk.new w (rowC 8 (fun _ => 0)).toArray 5
    have e : rowC 8 (numR n 8 0) = rowC 8 (fun _ => 0) := rowC_congr fun i hi => if_neg (by omega)
    unfold Row; rw [e]; exact h
  have hb2 : Below w.heap.size w w2 := by rw [← hw2]; exact (Below.refl _ _).alloc (Nat.le_refl _) _
  rw [hw2]
  obtain ⟨g, hg⟩ : ∃ g, w.heap.size = g := ⟨_, rfl⟩
  have HG : Hid _ := hg
  rw [hg] at hR0 hb2 ⊢
  clear hw2 hg
  go_wp2_with fail
  go_loopw [0, 4] (fun nv i wr => ∃ k : Nat, k ≤ 8 ∧ i = .int .i64 (7 - (k : Int)) ∧ nv = .int .u64 ((n / 256 ^ k : Nat) : Int) ∧ Row wr g 8 (numR n 8 k) ∧ Below g w wr) (fun _ i _ => (intOf i + 1).toNat)
  case atStart => exact ⟨0, Nat.zero_le _, rfl, by rw [Nat.pow_zero, Nat.div_one], hR0, hb2⟩
  case round =>
    obtain ⟨k, hk, rfl, rfl, hX, hO⟩ := hrel
    clear hR0 hb2
    by_cases hlt : k < 8
    · obtain ⟨d, hd⟩ : ∃ d : Nat, d + k + 1 = 8 := ⟨7 - k, by omega⟩
      have hdi : 7 - (k : Int) = (d : Int) := by omega
      have hs : n / 256 ^ (k + 1) = n / 256 ^ k / 256 := by rw [Nat.pow_succ, Nat.div_div_eq_div_mul]
      have hql : n / 256 ^ k < 18446744073709551616 := Nat.lt_of_le_of_lt (Nat.div_le_self _ _) HN.out
      have c1 : wr.cell? ⟨g, d, none⟩ = some (.int .u8 (numR n 8 k d : Nat)) := hX.cell (by omega)
      have f1 : wr.frozen? ⟨g, d, none⟩ = false := Blk.free hX d
      rw [hdi]
      have d0 : (0 : Int) ≤ (d : Int) := by omega
      have d1 : (d : Int) < 8 := by omega
      have d2 : d < 8 := by omega
      obtain ⟨q, hq⟩ : ∃ q, n / 256 ^ k = q := ⟨_, rfl⟩
      have hst := numR_step hd hq
      rw [hq] at hs hql ⊢
      have hX4 : Row (wr.setCell ⟨g, d, none⟩ (.int .u8 ((q : Int) % 256))) g 8 (numR n 8 (k + 1)) := Row.cong (hX.set d (q % 256)) hst
      have hO4 : Below g w (wr.setCell ⟨g, d, none⟩ (.int .u8 ((q : Int) % 256))) := hO.setCell (Nat.le_refl _) _
      have HX4 := Lib.hid hX4
      have HO4 := Lib.hid hO4
      have HS : Hid _ := hs
      have HD := Lib.hid hd
      clear hX hO hX4 hO4 hs hst hq hdi hd
      generalize numR n 8 k d = z at *
      go_wp2_with fail
      go_roundw
      case rel => exact ⟨k + 1, by omega, by have := HD.out; congr 1; omega, by rw [HS.out]; go_num, HX4.out, HO4.out⟩
      case measure => have := HD.out; simp [intOf] <;> omega
    · obtain rfl : k = 8 := by omega
      have HX := Lib.hid hX
      have HO := Lib.hid hO
      clear hX hO hlt hk
      go_wp2_with fail
      go_ret
      have hF : Grow wr g (.slice (some ⟨g, 0, none⟩) 8 8) 8 (numB n 8) := (Grow.of_row HX.out (by omega)).congr fun i hi => if_pos (by omega)
      exact ⟨_, rfl, by rw [HG.out]; exact hF, by rw [HG.out]; exact HO.out⟩
end Go.Proofs.YtmabhjifldafaaaDoor
