/- packed.Reader. -/
import Derived.Test.YtkaddilgegimjaaDoorPk1
import Derived.Test.YtkaddilgegimjaaDoorEn3
import Derived.Laws.CopyOwn
import Derived.Laws.BitsLemmas
import Derived.Laws.BitsAllLaws
import Derived.Deep.RegionHeld3
import Derived.Deep.RegionLaw
namespace Go.Proofs.YtkaddilgegimjaaDoor
set_option linter.unusedVariables false
set_option linter.unusedSimpArgs false
open Go.RowKit

theorem no_u8_rd {a : Option Addr} {n c : Nat} {b : Bool} : ∀ (j : Nat) (z : Int), (#[Value.slice a n c, .bool b] : Array Value)[j]? ≠ some (Value.int .u8 z) := fun j z h => by
  match j, h with
  | 0, h => simp at h
  | 1, h => simp at h
  | j + 2, h => simp at h
/-- A reader: what is left of N bytes from place p on; whether something lacked. -/
def Rd (w : World) (r N p : Nat) (F : Nat → Nat) (bad : Bool) : Prop := p ≤ N ∧ ∃ o c, Blk w r #[.slice o (N - p) c, .bool bad] 209 ∧ Bytes w o (N - p) (fun i => F (p + i)) ∧ (o = none → c = 0) ∧ N - p ≤ c ∧ c ≤ maxLen ∧ (∀ a, o = some a → 0 < N - p → a.block < r)
theorem Rd.later {w w' : World} {r N p : Nat} {F : Nat → Nat} {bad : Bool} (h : Rd w r N p F bad) (hb : Below w.heap.size w w') : Rd w' r N p F bad := by
  obtain ⟨h0, o, c, h1, h2, h3⟩ := h
  exact ⟨h0, o, c, h1.below hb h1.lt, h2.later hb, h3⟩
theorem Rd.lt {w : World} {r N p : Nat} {F : Nat → Nat} {bad : Bool} (h : Rd w r N p F bad) : r < w.heap.size := by obtain ⟨_, o, c, h1, _⟩ := h; exact h1.lt

set_option maxRecDepth 100000 in
set_option maxHeartbeats 1000000 in
theorem read_any (od : Option Addr) (n cap : Nat) (f : Nat → Nat) (w : World) (hB : Bytes w od n f) (hno : od = none → cap = 0) (hc : n ≤ cap) (hm : cap ≤ maxLen) :
    Calls Tryd.prog 97 #[.slice od n cap] w fun e w' => e = .returned (.pointer (some ⟨w.heap.size, 0, none⟩)) ∧ Rd w' w.heap.size n 0 f false ∧ Below w.heap.size w w' := by
  have HR : Hid (Rd (w.alloc (.cells #[.slice od n cap, .bool false] 209)) w.heap.size n 0 f false) := Lib.hid ⟨Nat.zero_le _, od, cap, Blk.new _ _ _, by simpa using hB.alloc _, hno, by simpa using hc, hm, fun a ha h0 => by
    obtain ⟨_, b, off, e, hcell⟩ := hB 0 (by simpa using h0)
    rw [ha] at e
    cases e
    exact World.block_lt_of_cell? w _ hcell⟩
  clear hB hno hc hm
  go_enter Tryd.func97, Tryd.ntmps97
  go_wp2_with fail
  go_ret
  exact ⟨rfl, HR.out, (Below.refl _ _).alloc (Nat.le_refl _) _⟩

/-- Bytes as a number, the highest first. -/
def beX (f : Nat → Nat) (a : Nat) : Nat → Nat | 0 => 0 | k + 1 => beX f a k * 256 + f (a + k)
theorem beX_lt {f : Nat → Nat} {a : Nat} : ∀ k, (∀ i, i < k → f (a + i) < 256) → beX f a k < 256 ^ k
  | 0, _ => by show (0 : Nat) < 1; decide
  | k + 1, h => by
    have h1 := beX_lt k fun i hi => h i (by omega)
    have h2 := h k (by omega)
    show beX f a k * 256 + f (a + k) < 256 ^ (k + 1)
    rw [Nat.pow_succ]; omega
theorem beX_zero {a : Nat} : ∀ k, beX (fun _ => 0) a k = 0
  | 0 => rfl
  | k + 1 => by show beX (fun _ => 0) a k * 256 + 0 = 0; rw [beX_zero k]
theorem beX_from {f : Nat → Nat} {p : Nat} : ∀ k, beX (fun i => f (p + i)) 0 k = beX f p k
  | 0 => rfl
  | k + 1 => by show beX (fun i => f (p + i)) 0 k * 256 + f (p + (0 + k)) = _; rw [beX_from k, Nat.zero_add]; rfl
theorem or8 (x y : Nat) (hx : x < 72057594037927936) (hy : y < 256) : bits .or .u64 ((x : Int) * 256) (y : Int) = (x : Int) * 256 + (y : Int) :=
  bits_join .u64 64 (by decide) (fun n h0 h1 => by simp [IntKind.wrap, IntKind.bits, IntKind.signed]; omega) 8 _ _ (by omega) (by omega) (by omega) (by omega) (by omega) (by omega)
set_option maxRecDepth 100000 in
set_option maxHeartbeats 1000000 in
theorem rnum_of (r s : Nat) (G : Nat → Nat) (Q : World → Prop) (w : World) (h1 : 1 ≤ s) (h8 : s ≤ 8) (hG : ∀ i, i < s → G i < 256)
    (hC : Calls Tryd.prog 122 #[.pointer (some ⟨r, 0, none⟩), .int .i64 (s : Int)] w fun e w' => e = .returned (.slice (some ⟨w.heap.size, 0, none⟩) s s) ∧ Row w' w.heap.size s G ∧ Q w') :
    Calls Tryd.prog 99 #[.pointer (some ⟨r, 0, none⟩), .int .i64 (s : Int)] w fun e w' => e = .returned (.int .u64 (beX G 0 s : Nat)) ∧ Q w' := by
  have C := Lib.hid hC
  have HG := Lib.hid hG
  have H8 := Lib.hid h8
  have b8 : (s : Int) ≤ 8 := by omega
  clear hC hG h1 h8
  go_enter Tryd.func99, Tryd.ntmps99
  go_wp2_with fail
  refine C.out.mono ?_
  rintro e w2 ⟨rfl, hR, hQ⟩
  have HR := Lib.hid hR
  have HQ := Lib.hid hQ
  clear hR hQ C
  go_wp2_with fail
  go_loop [5, 12] (fun nv i => ∃ k : Nat, k ≤ s ∧ i = .int .i64 (k : Int) ∧ nv = .int .u64 (beX G 0 k : Nat)) (fun _ i => s - (intOf i).toNat)
  case atStart => exact ⟨0, Nat.zero_le _, rfl, rfl⟩
  case round =>
    obtain ⟨k, hk, rfl, rfl⟩ := hrel
    by_cases hlt : k < s
    · have c1 := HR.out.cell hlt
      have hl : beX G 0 k < 72057594037927936 := Nat.lt_of_lt_of_le (beX_lt k fun i hi => by rw [Nat.zero_add]; exact HG.out i (by omega)) (Nat.pow_le_pow_right (n := 256) (by decide) (show k ≤ 7 by have := H8.out; omega))
      have hs : beX G 0 (k + 1) = beX G 0 k * 256 + G k := by show _ * 256 + G (0 + k) = _; rw [Nat.zero_add]
      have hg := HG.out k hlt
      obtain ⟨q, hq⟩ : ∃ q, beX G 0 k = q := ⟨_, rfl⟩
      obtain ⟨y, hy⟩ : ∃ y, G k = y := ⟨_, rfl⟩
      rw [hq] at hl hs ⊢
      rw [hy] at c1 hs hg
      have o1 := or8 q y hl hg
      have i0 : (k : Int) < (s : Int) := by omega
      have i1 : (0 : Int) ≤ (k : Int) := by omega
      have q1 : (q : Int) < 72057594037927936 := by omega
      have y1 : (y : Int) < 256 := by omega
      have HS := Lib.hid hs
      clear hq hy hs hl hg
      go_wp2_with fail
      go_round
      case rel => exact ⟨k + 1, by omega, by go_num, by rw [HS.out]; go_num⟩
      case measure => simp [intOf]; omega
    · obtain rfl : k = s := by omega
      have h2 : ¬ (k < k) := hlt
      clear hlt
      go_wp2_with fail
      go_ret
      exact ⟨rfl, HQ.out⟩

theorem splice_all {n : Nat} {f g : Nat → Nat} : splice (rowC n f) 0 (rowC n g) = rowC n g := by
  unfold splice
  rw [List.take_zero, Nat.zero_add, rowC_len, List.drop_of_length_le (by rw [rowC_len]; exact Nat.le_refl _), List.append_nil, List.nil_append]
theorem take_fin {w w4 : World} {r N p k n c b off n' c' : Nat} {F : Nat → Nat} {bad : Bool} {oo : Option Addr} (hR : Blk w r #[.slice (some ⟨b, off, none⟩) n c, .bool bad] 209) (hB : Bytes w (some ⟨b, off, none⟩) n (fun i => F (p + i))) (hN : N - p = n) (hpN : p ≤ N) (hk : k ≤ n) (hnc : n ≤ c) (hcm : c ≤ maxLen) (hlo : ∀ a, (some (⟨b, off, none⟩ : Addr)) = some a → 0 < n → a.block < r)
    (hg4 : w4.heap[w.heap.size]? = some (.cells (splice (rowC k fun _ => 0) 0 (rowC k fun i => F (p + i))).toArray 5 (0, 0))) (hb4 : Below w.heap.size w w4) (hoo : oo = some ⟨b, off + k, none⟩ ∨ (oo = some ⟨b, off, none⟩ ∧ c = k)) (hn' : n' = n - k) (hc' : c' = c - k) :
    Row (w4.setCell ⟨r, 0, none⟩ (.slice oo n' c')) w.heap.size k (fun i => F (p + i)) ∧ Rd (w4.setCell ⟨r, 0, none⟩ (.slice oo n' c')) r N (p + k) F bad ∧ Own r w (w4.setCell ⟨r, 0, none⟩ (.slice oo n' c')) := by
  subst hn' hc'
  have hl := hR.lt
  rw [splice_all] at hg4
  have hrow : Row w4 w.heap.size k (fun i => F (p + i)) := hg4
  have hR4 := hR.below hb4 hl
  have hB4 : Bytes w4 (some ⟨b, off, none⟩) n (fun i => F (p + i)) := fun i hi => by
    obtain ⟨h1, b', off', e, hc⟩ := hB i hi
    cases e
    exact ⟨h1, b, off, rfl, cell_below hb4 hc⟩
  have hO : Own r w4 (w4.setCell ⟨r, 0, none⟩ (.slice oo (n - k) (c - k))) := (Own.refl r w4).set 0 _
  refine ⟨hrow.own hO (by omega), ⟨by omega, oo, c - k, ?_, ?_, ?_, by omega, by omega, fun a ha h0 => ?_⟩, (Own.of_below hb4).trans hO⟩
  · have := hR4.set 0 (.slice oo (n - k) (c - k))
    rw [show N - (p + k) = n - k by omega]
    simpa using this
  · refine Bytes.set_apart ?_ hR4 no_u8_rd
    rw [show N - (p + k) = n - k by omega]
    intro i hi
    obtain ⟨h1, b', off', e, hc⟩ := hB4 (k + i) (by omega)
    cases e
    rcases hoo with rfl | ⟨_, rfl⟩
    · exact ⟨by show F (p + k + i) < 256; rw [Nat.add_assoc p]; exact h1, b, off + k, rfl, by show w4.cell? ⟨b, off + k + i, none⟩ = some (Value.int .u8 (F (p + k + i) : Nat)); rw [Nat.add_assoc off, Nat.add_assoc p]; exact hc⟩
    · omega
  · intro e
    rcases hoo with h | ⟨h, _⟩ <;> rw [h] at e <;> cases e
  · have hb := hlo ⟨b, off, none⟩ rfl (by omega)
    rcases hoo with h | ⟨h, _⟩ <;> rw [h] at ha <;> cases ha <;> exact hb
theorem take_fin2 {w w3 w4 : World} {r N k : Nat} {F : Nat → Nat} (hR : Blk w3 r #[.slice none 0 0, .bool true] 209) (hl : r < w.heap.size) (hO : Own r w w3)
    (hg4 : w4.heap[w.heap.size]? = some (.cells (splice (rowC k fun _ => 0) 0 []).toArray 5 (0, 0))) (hb4 : Below w.heap.size w3 w4) :
    Row (w4.setCell ⟨r, 0, none⟩ (.slice none 0 0)) w.heap.size k (fun _ => 0) ∧ Rd (w4.setCell ⟨r, 0, none⟩ (.slice none 0 0)) r N N F true ∧ Own r w (w4.setCell ⟨r, 0, none⟩ (.slice none 0 0)) := by
  have e : splice (rowC k fun _ => 0) 0 [] = rowC k fun _ => 0 := by simp [splice]
  rw [e] at hg4
  have hrow : Row w4 w.heap.size k (fun _ => 0) := hg4
  have hR4 : Blk w4 r #[.slice none 0 0, .bool true] 209 := hR.below hb4 hl
  have hO4 : Own r w4 (w4.setCell ⟨r, 0, none⟩ (.slice none 0 0)) := (Own.refl r w4).set 0 _
  refine ⟨hrow.own hO4 (by omega), ⟨Nat.le_refl _, none, 0, ?_, fun i hi => absurd hi (by omega), fun _ => rfl, by omega, by unfold maxLen; omega, fun a ha => by cases ha⟩, ?_⟩
  · have := hR4.set 0 (.slice none 0 0)
    rw [Nat.sub_self]
    simpa using this
  · have hO3 : Own r w w4 := ⟨hb4.os.trans hO.os, hb4.tape.trans hO.tape, hb4.output.trans hO.output, Nat.le_trans hO.size hb4.size, fun q hq hn => (hb4.block q hq).trans (hO.block q hq hn)⟩
    exact hO3.trans hO4

set_option maxRecDepth 100000 in
set_option maxHeartbeats 2000000 in
theorem take_ok (r N p k : Nat) (F : Nat → Nat) (bad : Bool) (w : World) (h : Rd w r N p F bad) (hk : k ≤ N - p) (hk8 : k ≤ 100000) (hk1 : 1 ≤ k) :
    Calls Tryd.prog 122 #[.pointer (some ⟨r, 0, none⟩), .int .i64 (k : Int)] w fun e w' => e = .returned (.slice (some ⟨w.heap.size, 0, none⟩) k k) ∧ Row w' w.heap.size k (fun i => F (p + i)) ∧ Rd w' r N (p + k) F bad ∧ Own r w w' := by
  obtain ⟨i0, hi, hz0, hz1, hz2⟩ := info_parts info_u8
  obtain ⟨hpN, o, c, hR, hB, hno, hnc, hcm, hlo⟩ := h
  have hrl := hR.lt
  have HPN := Lib.hid hpN
  have HK8 := Lib.hid hk8
  have HNO := Lib.hid hno
  have HCM := Lib.hid hcm
  obtain ⟨n, hn⟩ : ∃ x, N - p = x := ⟨_, rfl⟩
  rw [hn] at hR hB hk hnc hlo
  have HLO := Lib.hid hlo
  have HN := Lib.hid hn
  have HR := Lib.hid hR
  have HB := Lib.hid hB
  have HK := Lib.hid hk
  have HNC := Lib.hid hnc
  have hsz : ((Tryd.prog.info? 5).map (·.size)) = some 1 := by rw [hi]; exact congrArg some hz1
  have HSZ := Lib.hid hsz
  have hmx : max (0 : Int) (k : Int) = (k : Int) := by omega
  have k0 : (0 : Int) ≤ (k : Int) := by omega
  have k1 : (1 : Int) ≤ (k : Int) := by omega
  have HK1 := Lib.hid hk1
  have kb : (k : Int) ≤ 100000 := by omega
  have hc0 : w.cell? ⟨r, 0, none⟩ = some (.slice o n c) := hR.cell 0
  have hc1 : w.cell? ⟨r, 1, none⟩ = some (.bool bad) := hR.cell 1
  clear hpN hB hno hcm hn hR hk hnc hk8 hsz hk1 hlo
  go_enter Tryd.func122, Tryd.ntmps122
  go_wp2_with (at_make; refine wpList_make_full _ rfl _ _ 31 rfl w.heap.size 5 i0 (.int .u8 0) 1 Tryd.underlying31 hi hz0 hz1 .i64 .i64 (k : Int) (k : Int) k rfl rfl rfl rfl ?c1 ?c2 (Nat.le_refl _) ?_)
  case c1 => rw [hz2]; omega
  case c2 => unfold maxLen; omega
  intro w2 hown2 hg2
  have hR2 : Row w2 w.heap.size k (fun _ => 0) := Row.made hown2
  have hb2 : Below w.heap.size w w2 := below_grw hg2 (Nat.le_refl _)
  have d0 : w2.cell? ⟨r, 0, none⟩ = some (.slice o n c) := cell_below hb2 hc0
  have d1 : w2.cell? ⟨r, 1, none⟩ = some (.bool bad) := cell_below hb2 hc1
  have z0 : w2.frozen? ⟨r, 0, none⟩ = false := (HR.out.below hb2 hrl).free 0
  have z1 : w2.frozen? ⟨r, 1, none⟩ = false := (HR.out.below hb2 hrl).free 1
  have HR2 := Lib.hid hR2
  have HB2 := Lib.hid hb2
  clear hown2 hg2 hR2 hb2 hi hz0 hz1 hz2 hmx hc0 hc1
  obtain ⟨ad, had⟩ : ∃ ad, o = some ad := by
    cases o with
    | none => have := HNO.out rfl; have := HNC.out; have := HK.out; have := HK1.out; omega
    | some ad => exact ⟨ad, rfl⟩
  subst had
  obtain ⟨_, b, off, e0, _⟩ := HB.out 0 (by have := HK.out; have := HK1.out; omega)
  obtain rfl : ad = ⟨b, off, none⟩ := by cases e0; rfl
  clear e0
  have kn : (k : Int) ≤ (n : Int) := by have := HK.out; omega
  have knn : decide (n < k) = false := by have := HK.out; simp; omega
  have HG : Hid (w2.drew.heap[w.heap.size]? = some (.cells (rowC k (fun _ => 0)).toArray 5 (0, 0))) := Lib.hid HR2.out
  have HBD : Hid (∀ j v, (rowC k (fun i => F (p + i)))[j]? = some v → w2.drew.cell? ((⟨b, off, none⟩ : Addr).add j) = some v) := Lib.hid ((show Bytes w2.drew _ _ _ from ((HB.out.later HB2.out).mono HK.out)).newsA)
  have HL := Lib.hid hrl
  clear hrl
  have nc : (n : Int) ≤ (c : Int) := by have := HNC.out; omega
  have hlen : (rowC k (fun i => F (p + i))).length = k := rowC_len _ _
  have hgi : goInt k = .int .i64 (k : Int) := rfl
  have hkc : (k : Int) < (c : Int) ∨ k = c := by have := HK.out; have := HNC.out; omega
  rcases hkc with hkc | hkc
  · go_wp2_with fail
    go_region_law
      ((refine step_copy_splice rfl (.tmp 27) (.tmp 31) 31 31 rfl 5 Tryd.underlying31 HSZ.out (some ⟨w.heap.size, 0, none⟩) (some ⟨b, off, none⟩) k k n c (by rfl) (by rfl) w.heap.size 0 (rowC k (fun _ => 0)) 5 HG.out (rowC k (fun i => F (p + i))) (by rw [rowC_len]; have := HK.out; exact (Nat.min_eq_right this).symm) (fun _ => ⟨rfl, _, rfl, HBD.out⟩) (by rw [rowC_len, rowC_len]; omega) (rowC_one _ _) w.heap.size w HB2.out.drew (Nat.le_refl _) ?_; intro w4 hg4 hb4; have e0 : w4.cell? ⟨r, 0, none⟩ = some (.slice (some ⟨b, off, none⟩) n c) := cell_belowB hb4 HL.out (HR.out.cell 0); have f0 : w4.frozen? ⟨r, 0, none⟩ = false := by have := hb4.frozen (p := ⟨r, 0, none⟩) HL.out; rw [this]; exact HR.out.free 0))
    all_goals
      go_wp2_with fail
      go_ret
      exact ⟨rfl, take_fin HR.out HB.out HN.out HPN.out HK.out HNC.out HCM.out HLO.out hg4.out hb4 (.inl rfl) rfl rfl⟩
  · subst hkc
    obtain rfl : n = k := by have := HK.out; have := HNC.out; omega
    clear kn knn nc
    have kn : (n : Int) ≤ (n : Int) := Int.le_refl _
    have knn : decide (n < n) = false := by simp
    go_wp2_with fail
    go_region_law
      ((refine step_copy_splice rfl (.tmp 27) (.tmp 31) 31 31 rfl 5 Tryd.underlying31 HSZ.out (some ⟨w.heap.size, 0, none⟩) (some ⟨b, off, none⟩) n n n n (by rfl) (by rfl) w.heap.size 0 (rowC n (fun _ => 0)) 5 HG.out (rowC n (fun i => F (p + i))) (by rw [rowC_len]; have := HK.out; exact (Nat.min_eq_right this).symm) (fun _ => ⟨rfl, _, rfl, HBD.out⟩) (by rw [rowC_len, rowC_len]; omega) (rowC_one _ _) w.heap.size w HB2.out.drew (Nat.le_refl _) ?_; intro w4 hg4 hb4; have e0 : w4.cell? ⟨r, 0, none⟩ = some (.slice (some ⟨b, off, none⟩) n n) := cell_belowB hb4 HL.out (HR.out.cell 0); have f0 : w4.frozen? ⟨r, 0, none⟩ = false := by have := hb4.frozen (p := ⟨r, 0, none⟩) HL.out; rw [this]; exact HR.out.free 0))
    all_goals
      go_wp2_with fail
      go_ret
      exact ⟨rfl, take_fin HR.out HB.out HN.out HPN.out HK.out HNC.out HCM.out HLO.out hg4.out hb4 (.inr ⟨rfl, rfl⟩) (by omega) (by omega)⟩

set_option maxRecDepth 100000 in
set_option maxHeartbeats 2000000 in
theorem take_bad (r N p k : Nat) (F : Nat → Nat) (bad : Bool) (w : World) (h : Rd w r N p F bad) (hk : N - p < k) (hk8 : k ≤ 100000) (hk1 : 1 ≤ k) :
    Calls Tryd.prog 122 #[.pointer (some ⟨r, 0, none⟩), .int .i64 (k : Int)] w fun e w' => e = .returned (.slice (some ⟨w.heap.size, 0, none⟩) k k) ∧ Row w' w.heap.size k (fun _ => 0) ∧ Rd w' r N N F true ∧ Own r w w' := by
  obtain ⟨i0, hi, hz0, hz1, hz2⟩ := info_parts info_u8
  obtain ⟨hpN, o, c, hR, hB, hno, hnc, hcm, hlo⟩ := h
  have hrl := hR.lt
  have HPN := Lib.hid hpN
  have HK8 := Lib.hid hk8
  have HNO := Lib.hid hno
  have HCM := Lib.hid hcm
  obtain ⟨n, hn⟩ : ∃ x, N - p = x := ⟨_, rfl⟩
  rw [hn] at hR hB hk hnc hlo
  have HLO := Lib.hid hlo
  have HN := Lib.hid hn
  have HR := Lib.hid hR
  have HB := Lib.hid hB
  have HK := Lib.hid hk
  have HNC := Lib.hid hnc
  have hsz : ((Tryd.prog.info? 5).map (·.size)) = some 1 := by rw [hi]; exact congrArg some hz1
  have HSZ := Lib.hid hsz
  have hmx : max (0 : Int) (k : Int) = (k : Int) := by omega
  have k0 : (0 : Int) ≤ (k : Int) := by omega
  have k1 : (1 : Int) ≤ (k : Int) := by omega
  have HK1 := Lib.hid hk1
  have kb : (k : Int) ≤ 100000 := by omega
  have hc0 : w.cell? ⟨r, 0, none⟩ = some (.slice o n c) := hR.cell 0
  have hc1 : w.cell? ⟨r, 1, none⟩ = some (.bool bad) := hR.cell 1
  clear hpN hB hno hcm hn hR hk hnc hk8 hsz hk1 hlo
  go_enter Tryd.func122, Tryd.ntmps122
  go_wp2_with (at_make; refine wpList_make_full _ rfl _ _ 31 rfl w.heap.size 5 i0 (.int .u8 0) 1 Tryd.underlying31 hi hz0 hz1 .i64 .i64 (k : Int) (k : Int) k rfl rfl rfl rfl ?c1 ?c2 (Nat.le_refl _) ?_)
  case c1 => rw [hz2]; omega
  case c2 => unfold maxLen; omega
  intro w2 hown2 hg2
  have hR2 : Row w2 w.heap.size k (fun _ => 0) := Row.made hown2
  have hb2 : Below w.heap.size w w2 := below_grw hg2 (Nat.le_refl _)
  have d0 : w2.cell? ⟨r, 0, none⟩ = some (.slice o n c) := cell_below hb2 hc0
  have d1 : w2.cell? ⟨r, 1, none⟩ = some (.bool bad) := cell_below hb2 hc1
  have z0 : w2.frozen? ⟨r, 0, none⟩ = false := (HR.out.below hb2 hrl).free 0
  have z1 : w2.frozen? ⟨r, 1, none⟩ = false := (HR.out.below hb2 hrl).free 1
  have HR2 := Lib.hid hR2
  have HB2 := Lib.hid hb2
  clear hown2 hg2 hR2 hb2 hi hz0 hz1 hz2 hmx hc0 hc1
  have kn : (n : Int) < (k : Int) := by have := HK.out; omega
  have knn : n < k := HK.out
  have hne : w.heap.size ≠ r := by omega
  have hRw : Row ((w2.setCell ⟨r, 1, none⟩ (.bool true)).setCell ⟨r, 0, none⟩ (.slice none 0 0)) w.heap.size k (fun _ => 0) := HR2.out.own (((Own.refl r w2).set 1 _).set 0 _) hne
  have hBr : Blk ((w2.setCell ⟨r, 1, none⟩ (.bool true)).setCell ⟨r, 0, none⟩ (.slice none 0 0)) r #[.slice none 0 0, .bool true] 209 := by
    have h := ((HR.out.below HB2.out hrl).set 1 (.bool true)).set 0 (.slice none 0 0)
    simpa using h
  have HG : Hid (((w2.setCell ⟨r, 1, none⟩ (.bool true)).setCell ⟨r, 0, none⟩ (.slice none 0 0)).drew.heap[w.heap.size]? = some (.cells (rowC k (fun _ => 0)).toArray 5 (0, 0))) := Lib.hid hRw
  have HBR := Lib.hid hBr
  have HL := Lib.hid hrl
  have HW : Hid (Own r w ((w2.setCell ⟨r, 1, none⟩ (.bool true)).setCell ⟨r, 0, none⟩ (.slice none 0 0))) := Lib.hid ((Own.of_below HB2.out).trans (((Own.refl r w2).set 1 _).set 0 _))
  have hgi : goInt 0 = .int .i64 0 := rfl
  clear hRw hBr hrl hne
  go_wp2_with fail
  go_region_law
      ((refine step_copy_splice rfl (.tmp 27) (.tmp 31) 31 31 rfl 5 Tryd.underlying31 HSZ.out (some ⟨w.heap.size, 0, none⟩) none k k 0 0 (by rfl) (by rfl) w.heap.size 0 (rowC k (fun _ => 0)) 5 HG.out [] (by simp) (fun h => absurd h (by simp)) (by simp) (fun v h => by cases h) w.heap.size ((w2.setCell ⟨r, 1, none⟩ (.bool true)).setCell ⟨r, 0, none⟩ (.slice none 0 0)) ⟨rfl, rfl, rfl, Nat.le_refl _, fun _ _ => rfl⟩ (Nat.le_refl _) ?_; intro w4 hg4 hb4; have e0 : w4.cell? ⟨r, 0, none⟩ = some (.slice none 0 0) := cell_belowB hb4 HL.out (HBR.out.cell 0); have f0 : w4.frozen? ⟨r, 0, none⟩ = false := by have := hb4.frozen (p := ⟨r, 0, none⟩) HL.out; rw [this]; exact HBR.out.free 0))
  all_goals
    go_wp2_with fail
    go_ret
    exact ⟨rfl, take_fin2 HBR.out HL.out HW.out hg4.out hb4⟩
end Go.Proofs.YtkaddilgegimjaaDoor
