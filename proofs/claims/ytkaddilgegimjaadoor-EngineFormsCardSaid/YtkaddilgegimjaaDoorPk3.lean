/- packed.Reader, in one. -/
import Derived.Test.YtkaddilgegimjaaDoorPk2
import Derived.Test.YtkaddilgegimjaaDoorEn9
namespace Go.Proofs.YtkaddilgegimjaaDoor
set_option linter.unusedVariables false
set_option linter.unusedSimpArgs false
open Go.RowKit

/-- Where a reader stands behind k bytes more; whether something lacked; what they are. -/
def nxt (N p k : Nat) : Nat := if k ≤ N - p then p + k else N
def bd (N p k : Nat) (bad : Bool) : Bool := if k ≤ N - p then bad else true
def gotF (F : Nat → Nat) (N p k : Nat) : Nat → Nat := fun i => if k ≤ N - p then F (p + i) else 0
def vl (F : Nat → Nat) (N p k : Nat) : Nat := beX (gotF F N p k) 0 k
theorem gotF_lt {F : Nat → Nat} {N p k : Nat} (hF : ∀ i, i < N → F i < 256) (hp : p ≤ N) : ∀ i, i < k → gotF F N p k i < 256 := fun i hi => by
  unfold gotF
  by_cases h : k ≤ N - p
  · rw [if_pos h]; exact hF _ (by omega)
  · rw [if_neg h]; decide
theorem Rd.bytes {w : World} {r N p : Nat} {F : Nat → Nat} {bad : Bool} (h : Rd w r N p F bad) : p ≤ N := h.1

theorem zero_fin {w w4 : World} {r N p n c : Nat} {F : Nat → Nat} {bad : Bool} {o o' : Option Addr} (hR : Blk w r #[.slice o n c, .bool bad] 209) (hB : Bytes w o n (fun i => F (p + i))) (hN : N - p = n) (hpN : p ≤ N) (hno : o = none → c = 0) (hnc : n ≤ c) (hcm : c ≤ maxLen) (hlo : ∀ a, o = some a → 0 < n → a.block < r)
    (hg4 : w4.heap[w.heap.size]? = some (.cells (splice ([] : List Value) 0 []).toArray 5 (0, 0))) (hb4 : Below w.heap.size w w4) (ho : o' = o) :
    Row (w4.setCell ⟨r, 0, none⟩ (.slice o' n c)) w.heap.size 0 (fun _ => 0) ∧ Rd (w4.setCell ⟨r, 0, none⟩ (.slice o' n c)) r N p F bad ∧ Own r w (w4.setCell ⟨r, 0, none⟩ (.slice o' n c)) := by
  subst ho
  have hl := hR.lt
  have hrow : Row w4 w.heap.size 0 (fun _ => 0) := hg4
  have hR4 := hR.below hb4 hl
  have hO4 : Own r w4 (w4.setCell ⟨r, 0, none⟩ (.slice o' n c)) := (Own.refl r w4).set 0 _
  refine ⟨hrow.own hO4 (by omega), ⟨hpN, o', c, ?_, ?_, hno, by omega, hcm, by rw [hN]; exact hlo⟩, (Own.of_below hb4).trans hO4⟩
  · have := hR4.set 0 (.slice o' n c)
    rw [hN]
    simpa using this
  · rw [hN]
    refine Bytes.set_apart (fun i hi => ?_) hR4 no_u8_rd
    obtain ⟨h1, b', off', e, hc⟩ := hB i hi
    exact ⟨h1, b', off', e, cell_below hb4 hc⟩

set_option maxRecDepth 100000 in
set_option maxHeartbeats 2000000 in
theorem take_zero (r N p : Nat) (F : Nat → Nat) (bad : Bool) (w : World) (h : Rd w r N p F bad) :
    Calls Tryd.prog 122 #[.pointer (some ⟨r, 0, none⟩), .int .i64 0] w fun e w' => e = .returned (.slice (some ⟨w.heap.size, 0, none⟩) 0 0) ∧ Row w' w.heap.size 0 (fun _ => 0) ∧ Rd w' r N p F bad ∧ Own r w w' := by
  obtain ⟨i0, hi, hz0, hz1, hz2⟩ := info_parts info_u8
  obtain ⟨hpN, o, c, hR, hB, hno, hnc, hcm, hlo⟩ := h
  have hsz : ((Tryd.prog.info? 5).map (·.size)) = some 1 := by rw [hi]; exact congrArg some hz1
  have HSZ := Lib.hid hsz
  obtain ⟨n, hn⟩ : ∃ x, N - p = x := ⟨_, rfl⟩
  rw [hn] at hR hB hnc hlo
  have HLO := Lib.hid hlo
  clear hlo
  have hrl := hR.lt
  have hc0 : w.cell? ⟨r, 0, none⟩ = some (.slice o n c) := hR.cell 0
  have HRw := Lib.hid hR
  have HB := Lib.hid hB
  have HN := Lib.hid hn
  have HPN := Lib.hid hpN
  have HNO := Lib.hid hno
  have HNC := Lib.hid hnc
  have HCM := Lib.hid hcm
  have n0 : (0 : Int) ≤ (n : Int) := by omega
  have nc : (n : Int) ≤ (c : Int) := by omega
  have hgi : goInt 0 = .int .i64 0 := rfl
  clear hpN hR hB hno hnc hcm hsz hn
  go_enter Tryd.func122, Tryd.ntmps122
  go_wp2_with (at_make; refine wpList_make_full _ rfl _ _ 31 rfl w.heap.size 5 i0 (.int .u8 0) 1 Tryd.underlying31 hi hz0 hz1 .i64 .i64 (0 : Int) (0 : Int) 0 rfl rfl rfl rfl ?c1 ?c2 (Nat.le_refl _) ?_)
  case c1 => rw [hz2]; omega
  case c2 => unfold maxLen; omega
  intro w2 hown2 hg2
  have hR2 : Row w2 w.heap.size 0 (fun _ => 0) := Row.made hown2
  have hb2 : Below w.heap.size w w2 := below_grw hg2 (Nat.le_refl _)
  have d0 : w2.cell? ⟨r, 0, none⟩ = some (.slice o n c) := cell_below hb2 hc0
  have z0 : w2.frozen? ⟨r, 0, none⟩ = false := (HRw.out.below hb2 hrl).free 0
  have HG : Hid (w2.drew.heap[w.heap.size]? = some (.cells ([] : List Value).toArray 5 (0, 0))) := Lib.hid hR2
  have HB2 := Lib.hid hb2
  have HL := Lib.hid hrl
  clear hown2 hg2 hR2 hb2 hi hz0 hz1 hz2 hc0 hrl
  cases o with
  | none =>
    obtain rfl := HNO.out rfl
    obtain rfl : n = 0 := by have := HNC.out; omega
    go_wp2_with fail
    go_region_law
      ((refine step_copy_splice rfl (.tmp 27) (.tmp 31) 31 31 rfl 5 Tryd.underlying31 HSZ.out (some ⟨w.heap.size, 0, none⟩) none 0 0 0 0 (by rfl) (by rfl) w.heap.size 0 [] 5 HG.out [] (by simp) (fun h => absurd h (by simp)) (by simp) (fun v h => by cases h) w.heap.size w HB2.out.drew (Nat.le_refl _) ?_; intro w4 hg4 hb4; have e0 : w4.cell? ⟨r, 0, none⟩ = some (.slice none 0 0) := cell_belowB hb4 HL.out (HRw.out.cell 0); have f0 : w4.frozen? ⟨r, 0, none⟩ = false := by have := hb4.frozen (p := ⟨r, 0, none⟩) HL.out; rw [this]; exact HRw.out.free 0))
    all_goals
      go_wp2_with fail
      go_ret
      exact ⟨rfl, zero_fin HRw.out HB.out HN.out HPN.out (fun _ => rfl) HNC.out HCM.out HLO.out hg4.out hb4 rfl⟩
  | some ad =>
    go_wp2_with fail
    go_region_law
      ((refine step_copy_splice rfl (.tmp 27) (.tmp 31) 31 31 rfl 5 Tryd.underlying31 HSZ.out (some ⟨w.heap.size, 0, none⟩) (some ad) 0 0 n c (by rfl) (by rfl) w.heap.size 0 [] 5 HG.out [] (by simp) (fun h => absurd h (by simp)) (by simp) (fun v h => by cases h) w.heap.size w HB2.out.drew (Nat.le_refl _) ?_; intro w4 hg4 hb4; have e0 : w4.cell? ⟨r, 0, none⟩ = some (.slice (some ad) n c) := cell_belowB hb4 HL.out (HRw.out.cell 0); have f0 : w4.frozen? ⟨r, 0, none⟩ = false := by have := hb4.frozen (p := ⟨r, 0, none⟩) HL.out; rw [this]; exact HRw.out.free 0))
    all_goals
      go_wp2_with fail
      go_ret
      exact ⟨rfl, zero_fin HRw.out HB.out HN.out HPN.out (fun h => by cases h) HNC.out HCM.out HLO.out hg4.out hb4 rfl⟩

/-- Take, whatever is asked for. -/
theorem take_any (r N p k : Nat) (F : Nat → Nat) (bad : Bool) (w : World) (h : Rd w r N p F bad) (hk8 : k ≤ 100000) :
    Calls Tryd.prog 122 #[.pointer (some ⟨r, 0, none⟩), .int .i64 (k : Int)] w fun e w' => e = .returned (.slice (some ⟨w.heap.size, 0, none⟩) k k) ∧ Row w' w.heap.size k (gotF F N p k) ∧ Rd w' r N (nxt N p k) F (bd N p k bad) ∧ Own r w w' := by
  by_cases hk : k ≤ N - p
  · have e1 : gotF F N p k = fun i => F (p + i) := by funext i; unfold gotF; rw [if_pos hk]
    have e2 : nxt N p k = p + k := if_pos hk
    have e3 : bd N p k bad = bad := if_pos hk
    rw [e1, e2, e3]
    by_cases h0 : k = 0
    · subst h0
      exact (take_zero r N p F bad w h).mono fun e w' ⟨a, b, c⟩ => ⟨a, Row.cong b fun i hi => absurd hi (Nat.not_lt_zero _), c⟩
    · exact take_ok r N p k F bad w h hk hk8 (by omega)
  · have e1 : gotF F N p k = fun _ => 0 := by funext i; unfold gotF; rw [if_neg hk]
    have e2 : nxt N p k = N := if_neg hk
    have e3 : bd N p k bad = true := if_neg hk
    rw [e1, e2, e3]
    exact take_bad r N p k F bad w h (by omega) hk8 (by omega)
theorem rnum_any (r N p s : Nat) (F : Nat → Nat) (bad : Bool) (w : World) (h : Rd w r N p F bad) (hF : ∀ i, i < N → F i < 256) (h1 : 1 ≤ s) (h8 : s ≤ 8) :
    Calls Tryd.prog 99 #[.pointer (some ⟨r, 0, none⟩), .int .i64 (s : Int)] w fun e w' => e = .returned (.int .u64 (vl F N p s : Nat)) ∧ Rd w' r N (nxt N p s) F (bd N p s bad) ∧ Own r w w' :=
  rnum_of r s (gotF F N p s) _ w h1 h8 (gotF_lt hF h.bytes) ((take_any r N p s F bad w h (by omega)).mono fun _ _ ⟨a, b, c⟩ => ⟨a, b, c⟩)
theorem vl_lt {F : Nat → Nat} {N p s : Nat} (hF : ∀ i, i < N → F i < 256) (hp : p ≤ N) : vl F N p s < 256 ^ s := beX_lt s fun i hi => by rw [Nat.zero_add]; exact gotF_lt hF hp i hi
theorem Own.trans' {r : Nat} {w w1 w2 : World} (h : Own r w w1) (k : Own r w1 w2) : Own r w w2 := h.trans k
set_option maxRecDepth 100000 in
set_option maxHeartbeats 1000000 in
theorem rbytes_any (r N p : Nat) (F : Nat → Nat) (bad : Bool) (w : World) (h : Rd w r N p F bad) (hF : ∀ i, i < N → F i < 256) :
    Calls Tryd.prog 100 #[.pointer (some ⟨r, 0, none⟩)] w fun e w' => ∃ g, e = .returned (.slice (some ⟨g, 0, none⟩) (vl F N p 1) (vl F N p 1)) ∧ w.heap.size ≤ g ∧ Row w' g (vl F N p 1) (gotF F N (nxt N p 1) (vl F N p 1)) ∧ Rd w' r N (nxt N (nxt N p 1) (vl F N p 1)) F (bd N (nxt N p 1) (vl F N p 1) (bd N p 1 bad)) ∧ Own r w w' := by
  have hv : vl F N p 1 < 256 := by have := vl_lt (s := 1) hF h.bytes; simpa using this
  have C := Lib.hid (rnum_any r N p 1 F bad w h hF (by omega) (by omega))
  have HF := Lib.hid hF
  obtain ⟨L, hL⟩ : ∃ x, vl F N p 1 = x := ⟨_, rfl⟩
  rw [hL] at hv C ⊢
  have l1 : (L : Int) < 256 := by omega
  have HV := Lib.hid hv
  clear hL hv h hF
  go_enter Tryd.func100, Tryd.ntmps100
  go_wp2_with fail
  refine C.out.mono ?_
  rintro e w2 ⟨rfl, hR2, hO2⟩
  have hs := hO2.size
  have C2 := Lib.hid (take_any r N (nxt N p 1) L F (bd N p 1 bad) w2 hR2 (by have := HV.out; omega))
  have HO2 := Lib.hid hO2
  have HS := Lib.hid hs
  clear hR2 hO2 C hs
  go_wp2_with fail
  refine C2.out.mono ?_
  rintro e w3 ⟨rfl, hRw, hR3, hO3⟩
  have HRw := Lib.hid hRw
  have HR3 := Lib.hid hR3
  have HO3 := Lib.hid hO3
  clear hRw hR3 hO3 C2
  go_wp2_with fail
  go_ret
  exact ⟨_, rfl, HS.out, HRw.out, HR3.out, HO2.out.trans HO3.out⟩
set_option maxRecDepth 100000 in
set_option maxHeartbeats 1000000 in
theorem rdone_any (r N p : Nat) (F : Nat → Nat) (bad : Bool) (w : World) (h : Rd w r N p F bad) :
    Calls Tryd.prog 101 #[.pointer (some ⟨r, 0, none⟩)] w fun e w' => e = .returned (.bool (!bad && decide (p = N))) ∧ w = w' := by
  obtain ⟨hpN, o, c, hR, _⟩ := h
  obtain ⟨n, hn⟩ : ∃ x, N - p = x := ⟨_, rfl⟩
  rw [hn] at hR
  have c0 : w.cell? ⟨r, 0, none⟩ = some (.slice o n c) := hR.cell 0
  have c1 : w.cell? ⟨r, 1, none⟩ = some (.bool bad) := hR.cell 1
  have e1 : decide (p = N) = decide (n = 0) := by
    rw [decide_eq_decide]; omega
  rw [e1]
  clear hR hpN hn e1
  cases bad
  · by_cases hz : n = 0
    · subst hz
      go_enter Tryd.func101, Tryd.ntmps101
      go_wp2_with fail
      go_ret
      exact ⟨rfl, rfl⟩
    · have h0 : ((n : Int) == 0) = false := by rw [beq_eq_false_iff_ne]; omega
      have h1 : decide (n = 0) = false := by simp; exact hz
      rw [h1]
      clear h1
      go_enter Tryd.func101, Tryd.ntmps101
      go_wp2_with fail
      go_ret
      exact ⟨rfl, rfl⟩
  · go_enter Tryd.func101, Tryd.ntmps101
    go_wp2_with fail
    go_ret
    exact ⟨rfl, rfl⟩
/-- Mark of two bytes. -/
def markB (F : Nat → Nat) (N p : Nat) (s : ByteArray) (bad : Bool) : Bool := bd N p s.size bad || !(strF s.size (gotF F N p s.size)).toList == s.toList
end Go.Proofs.YtkaddilgegimjaaDoor
