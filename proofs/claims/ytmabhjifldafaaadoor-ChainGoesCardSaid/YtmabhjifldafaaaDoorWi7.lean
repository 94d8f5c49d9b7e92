/- A number's eight bytes. -/
import Derived.Test.YtmabhjifldafaaaDoorWi6
namespace Go.Proofs.YtmabhjifldafaaaDoor
set_option linter.unusedVariables false
set_option linter.unusedSimpArgs false
open Go.RowKit

theorem Row.cong {w : World} {g n : Nat} {f f' : Nat → Nat} (h : Row w g n f) (he : ∀ i, i < n → f i = f' i) : Row w g n f' := by
  unfold Row at h ⊢; rw [← rowC_congr he]; exact h
def numR (n size k : Nat) : Nat → Nat := fun q => if size - k ≤ q then numB n size q else 0
theorem numR_step {n size k d q : Nat} (hd : d + k + 1 = size) (hq : n / 256 ^ k = q) : ∀ i, i < size → upd (numR n size k) d (q % 256) i = numR n size (k + 1) i := fun i hi => by
  unfold upd numR
  by_cases e : i = d
  · subst e
    rw [if_pos rfl, if_pos (by omega)]
    unfold numB
    rw [show size - 1 - i = k by omega, hq]
  · rw [if_neg e]
    by_cases h : size - k ≤ i
    · rw [if_pos h, if_pos (by omega)]
    · rw [if_neg h, if_neg (by omega)]
theorem Grow.some8 {w : World} {base n : Nat} {v : Value} {f : Nat → Nat} (h : Grow w base v n f) (h0 : 0 < n) (hf : ∀ i, i < n → f i < 256) :
    ∃ g cap, v = .slice (some ⟨g, 0, none⟩) n cap ∧ base ≤ g ∧ Bytes w (some ⟨g, 0, none⟩) n f ∧ n ≤ cap ∧ cap ≤ maxLen := by
  obtain ⟨oa, cap, hv, hB, _⟩ := h.bytes hf
  rcases h.2 with ⟨_, h3⟩ | ⟨g, cap', cur, h2, hb, _, h3, hm, _⟩
  · omega
  · rw [hv] at h2; cases h2; exact ⟨g, cap, hv, hb, hB, h3, hm⟩
/-- A number's bytes, answered. -/
def NumA (n : Nat) (w0 : World) (e : Ending) (w' : World) : Prop :=
  Below w0.heap.size w0 w' ∧ ∃ a c, e = .returned (.slice (some a) 8 c) ∧ Bytes w' (some a) 8 (numB n 8) ∧ 8 ≤ c ∧ c ≤ maxLen ∧ w0.heap.size ≤ a.block
theorem rd_num {n : Nat} (hn : n < 18446744073709551616) : rdN (numB n 8) 8 = n := by
  have hd : ∀ k, n / 256 ^ k / 256 = n / 256 ^ (k + 1) := fun k => by rw [Nat.pow_succ, Nat.div_div_eq_div_mul]
  have h0 : n / 256 ^ 8 = 0 := Nat.div_eq_of_lt (by simpa using hn)
  have h1 := hd 0
  have h2 := hd 1
  have h3 := hd 2
  have h4 := hd 3
  have h5 := hd 4
  have h6 := hd 5
  have h7 := hd 6
  have h8 := hd 7
  simp only [rdN, numB, Nat.zero_add, Nat.reduceSub, Nat.reduceAdd] at *
  rw [Nat.pow_zero, Nat.div_one] at *
  omega
set_option maxRecDepth 100000 in
set_option maxHeartbeats 4000000 in
theorem num_any (n : Nat) (w : World) (hn : n < 18446744073709551616) : Calls Tryd.prog 83 #[.int .u64 (n : Int)] w (NumA n w) := by
  obtain ⟨i0, hi0, hz0, hz1, hz2⟩ := info_parts info_u8
  have HN := Lib.hid hn
  clear hn
  go_enter Tryd.func83, Tryd.ntmps83
  go_wp2_with (refine wpList_make_own _ rfl _ _ 33 rfl w.heap.size 5 i0 (.int .u8 0) 1 Tryd.underlying33 hi0 hz0 hz1 .i64 .i64 8 8 rfl rfl rfl ?c1 ?c2 (Nat.le_refl _) ?_)
  case c1 => rw [hz2]; omega
  case c2 => unfold maxLen; omega
  intro w2 hown2 hg2
  have H2 : Hid (JG w (.slice (some ⟨w.heap.size, 0, none⟩) 0 8) 0 (numB n 8) w2) := Lib.hid ⟨hown2, (Below.refl _ w).grown hg2 (Nat.le_refl _) (fun _ h => by cases h)⟩
  clear hown2 hg2 hi0 hz0 hz1 hz2
  go_wp2_with fail
  go_loopw [3, 4] (fun x v wr => ∃ (j : Nat) (vb : Value), j ≤ 8 ∧ v = .int .i64 (56 - 8 * (j : Int)) ∧ vb = x ∧ JG w vb j (numB n 8) wr) (fun _ v _ => (intOf v + 8).toNat)
  case atStart => exact ⟨0, _, by omega, rfl, rfl, H2.out⟩
  case round =>
    clear H2
    obtain ⟨j, vb, hj, rfl, rfl, hX⟩ := hrel
    have HX := Lib.hid hX
    clear hX
    by_cases hlj : j < 8
    · as_aux_lemma =>
      obtain ⟨sh, hsh⟩ : ∃ sh, 56 - 8 * j = sh := ⟨_, rfl⟩
      have e1 : 56 - 8 * (j : Int) = (sh : Int) := by omega
      rw [e1]
      have g0 : (0 : Int) ≤ (sh : Int) := by omega
      have HJ := Lib.hid hlj
      have HSH : Hid (sh + 8 * j = 56) := Lib.hid (by omega)
      have e2 : IntKind.i64.wrap ((sh : Int) - 8) = 56 - 8 * ((j + 1 : Nat) : Int) := by rw [IntWalk.i64_in _ (by omega)]; omega
      obtain ⟨y, hy⟩ : ∃ y, numB n 8 j = y := ⟨_, rfl⟩
      have HY := Lib.hid hy
      have v0 : min sh 64 = sh := by omega
      have v1 : (n : Int) / 2 ^ min sh 64 % 256 = (y : Int) := by
        rw [v0, ← hy]
        unfold numB
        have p1 : sh = 8 * (8 - 1 - j) := by omega
        have p2 : (2 : Nat) ^ sh = 256 ^ (8 - 1 - j) := by rw [p1, Nat.pow_mul]
        rw [← p2]
        generalize hD : (2 : Nat) ^ sh = D
        have p3 : (2 : Int) ^ sh = (D : Int) := by rw [← hD]; exact (Int.natCast_pow 2 sh).symm
        rw [p3]; rfl
      have v2 : (n : Int) / 2 ^ sh % 256 = (y : Int) := by rw [← v0]; exact v1
      clear hy v0
      clear hlj hj hsh e1
      go_wp2_with (first
        | (refine wpList_app8 rfl (.tmp 10) (.tmp 15) rfl w.heap.size vb j (numB n 8) y wr rfl HX.out.g rfl (by have := HJ.out; omega) HX.out.o.size ?_; intro v9 w9 hG9 hb9 hs9; have H9 : Hid (JG w v9 (j + 1) (numB n 8) w9) := Lib.hid ⟨hG9.congr (fun k hk => by unfold upd; by_cases e : k = j <;> simp [e, HY.out]), HX.out.o.trans hb9⟩; clear hG9 hb9 hs9))
      go_roundw
      case rel => exact ⟨j + 1, _, by have := HJ.out; omega, by first | exact congrArg _ e2 | rfl | go_num, rfl, H9.out⟩
      case measure => have := HSH.out; have := HJ.out; simp [intOf] <;> omega
    · obtain rfl : j = 8 := by omega
      clear hlj hj
      go_wp2_with fail
      go_ret
      obtain ⟨g, c, rfl, hb, hB, hc, hm⟩ := HX.out.g.some8 (by omega) (fun i _ => numB_lt _ _ _)
      exact ⟨HX.out.o, ⟨g, 0, none⟩, c, rfl, hB, hc, hm, hb⟩
set_option maxRecDepth 100000 in
set_option maxHeartbeats 4000000 in
theorem rnum_any (n : Nat) (w : World) (hn : n < 18446744073709551616) : Calls Tryd.prog 84 #[.int .u64 (n : Int)] w (NumA n w) := by
  have HN := Lib.hid hn
  clear hn
  go_enter Tryd.func84, Tryd.ntmps84
  go_wp2_with (refine wpList_mk rfl _ _ rfl 8 rfl rfl (by omega) ?_)
  obtain ⟨w2, hw2⟩ : ∃ z, w.alloc (.cells (rowC 8 (fun _ => 0)).toArray 5) = z := ⟨_, rfl⟩
  have hR0 : Row w2 w.heap.size 8 (numR n 8 0) := by
    rw [← hw2]
    have h := Blk.new w (rowC 8 (fun _ => 0)).toArray 5
    have e : rowC 8 (numR n 8 0) = rowC 8 (fun _ => 0) := rowC_congr fun i hi => if_neg (by omega)
    unfold Row; rw [e]; exact h
  have hb2 : Below w.heap.size w w2 := by rw [← hw2]; exact (Below.refl _ _).alloc (Nat.le_refl _) _
  rw [hw2]
  obtain ⟨g, hg⟩ : ∃ g, w.heap.size = g := ⟨_, rfl⟩
  have HG : Hid _ := hg
  rw [hg] at hR0 hb2 ⊢
  clear hw2 hg
  go_wp2_with fail
  go_loopw [0, 4] (fun nv i wr => ∃ k : Nat, k ≤ 8 ∧ i = .int .i64 (7 - (k : Int)) ∧ nv = .int .u64 ((n / 256 ^ k : Nat) : Int) ∧ Row wr g 8 (numR n 8 k) ∧ Below g w wr) (fun _ i _ => (intOf i + 1).toNat)
  case atStart => exact ⟨0, Nat.zero_le _, rfl, by rw [Nat.pow_zero, Nat.div_one], hR0, hb2⟩
  case round =>
    obtain ⟨k, hk, rfl, rfl, hX, hO⟩ := hrel
    clear hR0 hb2
    by_cases hlt : k < 8
    · obtain ⟨d, hd⟩ : ∃ d : Nat, d + k + 1 = 8 := ⟨7 - k, by omega⟩
      have hdi : 7 - (k : Int) = (d : Int) := by omega
      have hs : n / 256 ^ (k + 1) = n / 256 ^ k / 256 := by rw [Nat.pow_succ, Nat.div_div_eq_div_mul]
      have hql : n / 256 ^ k < 18446744073709551616 := Nat.lt_of_le_of_lt (Nat.div_le_self _ _) HN.out
      have c1 : wr.cell? ⟨g, d, none⟩ = some (.int .u8 (numR n 8 k d : Nat)) := hX.cell (by omega)
      have f1 : wr.frozen? ⟨g, d, none⟩ = false := Blk.free hX d
      rw [hdi]
      have d0 : (0 : Int) ≤ (d : Int) := by omega
      have d1 : (d : Int) < 8 := by omega
      have d2 : d < 8 := by omega
      obtain ⟨q, hq⟩ : ∃ q, n / 256 ^ k = q := ⟨_, rfl⟩
      have hst := numR_step hd hq
      rw [hq] at hs hql ⊢
      have hX4 : Row (wr.setCell ⟨g, d, none⟩ (.int .u8 ((q : Int) % 256))) g 8 (numR n 8 (k + 1)) := Row.cong (hX.set d (q % 256)) hst
      have hO4 : Below g w (wr.setCell ⟨g, d, none⟩ (.int .u8 ((q : Int) % 256))) := hO.setCell (Nat.le_refl _) _
      have HX4 := Lib.hid hX4
      have HO4 := Lib.hid hO4
      have HS : Hid _ := hs
      have HD := Lib.hid hd
      clear hX hO hX4 hO4 hs hst hq hdi hd
      generalize numR n 8 k d = z at *
      go_wp2_with fail
      go_roundw
      case rel => exact ⟨k + 1, by omega, by have := HD.out; congr 1; omega, by rw [HS.out]; go_num, HX4.out, HO4.out⟩
      case measure => have := HD.out; simp [intOf] <;> omega
    · obtain rfl : k = 8 := by omega
      have HX := Lib.hid hX
      have HO := Lib.hid hO
      clear hX hO hlt hk
      go_wp2_with fail
      go_ret
      have hF : Bytes wr (some ⟨g, 0, none⟩) 8 (numB n 8) := (Row.cong HX.out (fun i hi => if_pos (by omega))).bytes (fun i _ => numB_lt _ _ _)
      exact ⟨by rw [HG.out]; exact HO.out, ⟨g, 0, none⟩, 8, rfl, hF, by omega, by unfold maxLen; omega, by rw [HG.out]; exact Nat.le_refl _⟩
end Go.Proofs.YtmabhjifldafaaaDoor
