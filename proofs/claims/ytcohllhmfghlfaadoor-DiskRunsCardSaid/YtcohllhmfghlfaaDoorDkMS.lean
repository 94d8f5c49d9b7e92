/- The document's disk: All. The document's disk: Read refused. The document's disk: Put and Tamper refused. The document's disk as values: what is there, and in which blocks it may lie. The document's disk: with a sector's bytes, as values. The document's disk: what stays where stores go elsewhere. The document's disk: Sync. -/
import Derived.Test.YtcohllhmfghlfaaDoorDkL
namespace Go.Proofs.YtcohllhmfghlfaaDoor
set_option linter.unusedVariables false
set_option linter.unusedSimpArgs false
open Go.RowKit

set_option maxRecDepth 100000 in
set_option maxHeartbeats 4000000 in
theorem rall_any (oa : Option Addr) (n ca : Nat) (ow : Option Addr) (nw cw ar : Nat) (dn : Bool) (S : Nat → Nat → Nat) (w : World) (hS : LBs w oa n (fun _ => 64) S) (hn : n < 100000) :
    Calls Tryd.prog 27 #[.agg (rdV oa n ca ow nw cw ar dn)] w fun e w' => ∃ a, e = .returned a ∧ JG w a (64 * n) (allF S) w' := by
  obtain ⟨w1, hw1⟩ : ∃ y, w.alloc (.cells (rdV oa n ca ow nw cw ar dn) 47) = y := ⟨_, rfl⟩
  have hb1 : Below w.heap.size w w1 := by rw [← hw1]; exact (Below.refl _ _).alloc (Nat.le_refl _) _
  have hk1 : Blk w1 w.heap.size (rdV oa n ca ow nw cw ar dn) 47 := by rw [← hw1]; exact Blk.new _ _ _
  have c0 : w1.cell? ⟨w.heap.size, 0, none⟩ = some (.slice oa n ca) := by rw [Blk.cell hk1]; rfl
  have H0 := Lib.hid (show Below w.heap.size w w1 ∧ LBs w oa n (fun _ => 64) S ∧ n < 100000 ∧ w1.cell? ⟨w.heap.size, 0, none⟩ = some (.slice oa n ca) ∧ w.heap.size < w1.heap.size from ⟨hb1, hS, hn, c0, Blk.lt hk1⟩)
  have n0 : (n : Int) ≤ 9223372036854775807 := by omega
  unfold rdV at hw1 ⊢
  clear hS hb1 hk1 hn c0
  go_enter Tryd.func27, Tryd.ntmps27
  go_wp2_with fail
  go_loopw [3, 4] (fun a x wr => ∃ j : Nat, j ≤ n ∧ x = .int .i64 (j : Int) ∧ JG w1 a (64 * j) (allF S) wr) (fun a x _ => n - (intOf x).toNat)
  case atStart => exact ⟨0, Nat.zero_le _, rfl, Grow.nil _ _ _, Below.refl _ _⟩
  case round =>
    obtain ⟨j, hj, rfl, hJ⟩ := hrel
    have HJ := Lib.hid hJ
    have cr : wr.cell? ⟨w.heap.size, 0, none⟩ = some (.slice oa n ca) := cell_below hJ.o H0.out.2.2.2.1
    clear hJ
    by_cases hlt : j < n
    · as_aux_lemma =>
      have i1 : (j : Int) < (n : Int) := by omega
      have i0 : (0 : Int) ≤ (j : Int) := by omega
      have k4 : IntKind.i64.wrap ((j : Int) + 1) = ((j + 1 : Nat) : Int) := by have := H0.out.2.2.1; rw [IntWalk.i64_in _ (by omega)]; omega
      obtain ⟨b, off, od, cp, rfl, hc, hl, hB, hno, hm⟩ := H0.out.2.1 j hlt
      have hbw := H0.out.1.trans (HJ.out.o.mono (Nat.le_of_lt H0.out.2.2.2.2))
      have cs : wr.cell? ⟨b, off + j, none⟩ = some (.slice od 64 cp) := cell_below hbw hc
      have HF := Lib.hid (show Bytes wr od 64 (S j) ∧ (od = none → 64 = 0) ∧ j < n from ⟨hB.later hbw, hno, hlt⟩)
      clear hlt hj hc hl hB hno hm hbw
      go_wp2_with (first
        | (at_builtin; refine wpList_appO rfl (.tmp 12) (.tmp 17) rfl w1.heap.size _ (64 * j) 64 cp od (allF S) (S j) wr rfl HJ.out.g rfl HF.out.2.1 HF.out.1 (by have := H0.out.2.2.1; have := HF.out.2.2; omega) HJ.out.o.size ?_
           intro a3 w3 hG3 hg3 _
           have HJ3 := Lib.hid (HJ.out.grew hg3 hG3)
           clear hG3 hg3))
      go_wp2_with fail
      go_roundw
      case rel => exact ⟨j + 1, HF.out.2.2, by first | rfl | go_num, ⟨HJ3.out.g.congr allF_cat, HJ3.out.o⟩⟩
      case measure => have := HF.out; simp [intOf]; omega
    · obtain rfl : j = n := by omega
      have i1 : ¬ (j : Int) < (j : Int) := by omega
      clear hlt hj
      go_wp2_with fail
      go_ret
      have hb := H0.out.1.trans (HJ.out.o.mono (Nat.le_of_lt H0.out.2.2.2.2))
      exact ⟨_, rfl, ⟨owns_low HJ.out.g (Nat.le_of_lt H0.out.2.2.2.2), hb⟩⟩
end Go.Proofs.YtcohllhmfghlfaaDoor
namespace Go.Proofs.YtcohllhmfghlfaaDoor
set_option linter.unusedVariables false
set_option linter.unusedSimpArgs false
open Go.RowKit

set_option maxRecDepth 100000 in
set_option maxHeartbeats 4000000 in
theorem rread_bad (oa : Option Addr) (n ca : Nat) (ow : Option Addr) (nw cw ar : Nat) (dn : Bool) (x : Int) (w : World) (hn : n < 100000) (hx : ¬ (0 ≤ x ∧ x < (n : Int))) :
    Calls Tryd.prog 26 #[.agg (rdV oa n ca ow nw cw ar dn), .int .i64 x] w fun e w' => e = .returned (.tuple #[.slice none 0 0, .int .i64 1]) ∧ Below w.heap.size w w' := by
  obtain ⟨w1, hw1⟩ : ∃ y, w.alloc (.cells (rdV oa n ca ow nw cw ar dn) 47) = y := ⟨_, rfl⟩
  have hb1 : Below w.heap.size w w1 := by rw [← hw1]; exact (Below.refl _ _).alloc (Nat.le_refl _) _
  have hk1 : Blk w1 w.heap.size (rdV oa n ca ow nw cw ar dn) 47 := by rw [← hw1]; exact Blk.new _ _ _
  have c0 : w1.cell? ⟨w.heap.size, 0, none⟩ = some (.slice oa n ca) := by rw [Blk.cell hk1]; rfl
  have c3 : w1.cell? ⟨w.heap.size, 3, none⟩ = some (.bool dn) := by rw [Blk.cell hk1]; rfl
  have H0 := Lib.hid hb1
  have n0 : (n : Int) ≤ 9223372036854775807 := by omega
  unfold rdV at hw1 ⊢
  clear hb1 hk1
  by_cases h0 : x < 0
  · have i4 : decide (x < 0) = true := decide_eq_true h0
    clear hx c0 c3
    go_enter Tryd.func26, Tryd.ntmps26
    go_wp2_with fail
    refine bodyPost_ret (results_tmp2 rfl _ _ _) rfl ?_
    exact ⟨rfl, H0.out⟩
  · have i4 : decide (x < 0) = false := decide_eq_false h0
    have i3 : (n : Int) ≤ x := by omega
    have i5 : decide ((n : Int) ≤ x) = true := decide_eq_true i3
    clear hx c3
    go_enter Tryd.func26, Tryd.ntmps26
    go_wp2_with fail
    refine bodyPost_ret (results_tmp2 rfl _ _ _) rfl ?_
    exact ⟨rfl, H0.out⟩
set_option maxRecDepth 100000 in
set_option maxHeartbeats 4000000 in
theorem rread_down (oa : Option Addr) (n ca : Nat) (ow : Option Addr) (nw cw ar i : Nat) (w : World) (hn : n < 100000) (hi : i < n) :
    Calls Tryd.prog 26 #[.agg (rdV oa n ca ow nw cw ar true), .int .i64 (i : Int)] w fun e w' => e = .returned (.tuple #[.slice none 0 0, .int .i64 23]) ∧ Below w.heap.size w w' := by
  obtain ⟨w1, hw1⟩ : ∃ y, w.alloc (.cells (rdV oa n ca ow nw cw ar true) 47) = y := ⟨_, rfl⟩
  have hb1 : Below w.heap.size w w1 := by rw [← hw1]; exact (Below.refl _ _).alloc (Nat.le_refl _) _
  have hk1 : Blk w1 w.heap.size (rdV oa n ca ow nw cw ar true) 47 := by rw [← hw1]; exact Blk.new _ _ _
  have c0 : w1.cell? ⟨w.heap.size, 0, none⟩ = some (.slice oa n ca) := by rw [Blk.cell hk1]; rfl
  have c3 : w1.cell? ⟨w.heap.size, 3, none⟩ = some (.bool true) := by rw [Blk.cell hk1]; rfl
  have H0 := Lib.hid hb1
  have n0 : (n : Int) ≤ 9223372036854775807 := by omega
  unfold rdV at hw1 ⊢
  clear hb1 hk1
  · have i2 : ¬ (i : Int) < 0 := by omega
    have i3 : ¬ (n : Int) ≤ (i : Int) := by omega
    have i4 : decide ((i : Int) < 0) = false := decide_eq_false i2
    have i5 : decide ((n : Int) ≤ (i : Int)) = false := decide_eq_false i3
    have i6 : (i : Int) < (n : Int) := by omega
    clear hn hi
    go_enter Tryd.func26, Tryd.ntmps26
    go_wp2_with fail
    refine bodyPost_ret (results_tmp2 rfl _ _ _) rfl ?_
    exact ⟨rfl, H0.out⟩
end Go.Proofs.YtcohllhmfghlfaaDoor
namespace Go.Proofs.YtcohllhmfghlfaaDoor
set_option linter.unusedVariables false
set_option linter.unusedSimpArgs false
open Go.RowKit

set_option maxRecDepth 100000 in
set_option maxHeartbeats 4000000 in
theorem rput_bad (oa : Option Addr) (n ca : Nat) (ow : Option Addr) (nw cw ar : Nat) (dn : Bool) (x : Int) (ob : Option Addr) (l cb : Nat) (w : World) (hn : n < 100000) (hl : l ≤ maxLen) (hx : ¬ ((0 ≤ x ∧ x < (n : Int)) ∧ l = 64)) :
    Calls Tryd.prog 25 #[.agg (rdV oa n ca ow nw cw ar dn), .int .i64 x, .slice ob l cb] w fun e w' => e = .returned (.tuple #[.agg (rdV oa n ca ow nw cw ar dn), .int .i64 1]) ∧ Below w.heap.size w w' := by
  have hz := rd_zero
  have n0 : (n : Int) ≤ 9223372036854775807 := by omega
  have l0 : (l : Int) ≤ 9223372036854775807 := by unfold maxLen at hl; omega
  unfold rdV at hz ⊢
  by_cases h0 : x < 0
  · have i4 : decide (x < 0) = true := decide_eq_true h0
    clear hx
    go_enter Tryd.func25, Tryd.ntmps25
    go_wp2_with fail
    refine bodyPost_ret (v := .tuple #[.agg #[.slice oa n ca, .slice ow nw cw, .int .i64 (ar : Int), .bool dn], .int .i64 1]) ?_ rfl ⟨rfl, (((Below.refl _ _).alloc (Nat.le_refl _) _).alloc (by simp) _)⟩
    have h9 := Blk.new (w.alloc (.cells #[.slice oa n ca, .slice ow nw cw, .int .i64 (ar : Int), .bool dn] 47)) #[.slice oa n ca, .slice ow nw cw, .int .i64 (ar : Int), .bool dn] 47
    rw [World.size_alloc] at h9
    exact results_cell_tmp Tryd.results25 _ _ (w.heap.size + 1) 47 #[.slice oa n ca, .slice ow nw cw, .int .i64 (ar : Int), .bool dn] (0, 0) _ rfl h9 Tryd.underlying47 rfl (by kernel_rfl)
  have i4 : decide (x < 0) = false := decide_eq_false h0
  by_cases h1 : (n : Int) ≤ x
  · have i5 : decide ((n : Int) ≤ x) = true := decide_eq_true h1
    clear hx
    go_enter Tryd.func25, Tryd.ntmps25
    go_wp2_with fail
    refine bodyPost_ret (v := .tuple #[.agg #[.slice oa n ca, .slice ow nw cw, .int .i64 (ar : Int), .bool dn], .int .i64 1]) ?_ rfl ⟨rfl, (((Below.refl _ _).alloc (Nat.le_refl _) _).alloc (by simp) _)⟩
    have h9 := Blk.new (w.alloc (.cells #[.slice oa n ca, .slice ow nw cw, .int .i64 (ar : Int), .bool dn] 47)) #[.slice oa n ca, .slice ow nw cw, .int .i64 (ar : Int), .bool dn] 47
    rw [World.size_alloc] at h9
    exact results_cell_tmp Tryd.results25 _ _ (w.heap.size + 1) 47 #[.slice oa n ca, .slice ow nw cw, .int .i64 (ar : Int), .bool dn] (0, 0) _ rfl h9 Tryd.underlying47 rfl (by kernel_rfl)
  · have i5 : decide ((n : Int) ≤ x) = false := decide_eq_false h1
    have h64 : ¬ l = 64 := fun e => hx ⟨by omega, e⟩
    have h65 : decide ((l : Int) = 64) = false := decide_eq_false (by omega)
    have h66 : ((l : Int) == 64) = false := beq_false_of_ne (by omega)
    have h67 : (l == 64) = false := beq_false_of_ne h64
    have h68 : ((l : Int) != 64) = true := by rw [bne, h66]; rfl
    clear hx
    go_enter Tryd.func25, Tryd.ntmps25
    go_wp2_with fail
    refine bodyPost_ret (v := .tuple #[.agg #[.slice oa n ca, .slice ow nw cw, .int .i64 (ar : Int), .bool dn], .int .i64 1]) ?_ rfl ⟨rfl, (((Below.refl _ _).alloc (Nat.le_refl _) _).alloc (by simp) _)⟩
    have h9 := Blk.new (w.alloc (.cells #[.slice oa n ca, .slice ow nw cw, .int .i64 (ar : Int), .bool dn] 47)) #[.slice oa n ca, .slice ow nw cw, .int .i64 (ar : Int), .bool dn] 47
    rw [World.size_alloc] at h9
    exact results_cell_tmp Tryd.results25 _ _ (w.heap.size + 1) 47 #[.slice oa n ca, .slice ow nw cw, .int .i64 (ar : Int), .bool dn] (0, 0) _ rfl h9 Tryd.underlying47 rfl (by kernel_rfl)
set_option maxRecDepth 100000 in
set_option maxHeartbeats 4000000 in
theorem rtam_bad (oa : Option Addr) (n ca : Nat) (ow : Option Addr) (nw cw ar : Nat) (dn : Bool) (x : Int) (ob : Option Addr) (l cb : Nat) (w : World) (hn : n < 100000) (hl : l ≤ maxLen) (hx : ¬ ((0 ≤ x ∧ x < (n : Int)) ∧ l = 64)) :
    Calls Tryd.prog 24 #[.agg (rdV oa n ca ow nw cw ar dn), .int .i64 x, .slice ob l cb] w fun e w' => e = .returned (.tuple #[.agg (rdV oa n ca ow nw cw ar dn), .int .i64 1]) ∧ Below w.heap.size w w' := by
  have hz := rd_zero
  have n0 : (n : Int) ≤ 9223372036854775807 := by omega
  have l0 : (l : Int) ≤ 9223372036854775807 := by unfold maxLen at hl; omega
  unfold rdV at hz ⊢
  by_cases h0 : x < 0
  · have i4 : decide (x < 0) = true := decide_eq_true h0
    clear hx
    go_enter Tryd.func24, Tryd.ntmps24
    go_wp2_with fail
    refine bodyPost_ret (v := .tuple #[.agg #[.slice oa n ca, .slice ow nw cw, .int .i64 (ar : Int), .bool dn], .int .i64 1]) ?_ rfl ⟨rfl, (((Below.refl _ _).alloc (Nat.le_refl _) _).alloc (by simp) _)⟩
    have h9 := Blk.new (w.alloc (.cells #[.slice oa n ca, .slice ow nw cw, .int .i64 (ar : Int), .bool dn] 47)) #[.slice oa n ca, .slice ow nw cw, .int .i64 (ar : Int), .bool dn] 47
    rw [World.size_alloc] at h9
    exact results_cell_tmp Tryd.results24 _ _ (w.heap.size + 1) 47 #[.slice oa n ca, .slice ow nw cw, .int .i64 (ar : Int), .bool dn] (0, 0) _ rfl h9 Tryd.underlying47 rfl (by kernel_rfl)
  have i4 : decide (x < 0) = false := decide_eq_false h0
  by_cases h1 : (n : Int) ≤ x
  · have i5 : decide ((n : Int) ≤ x) = true := decide_eq_true h1
    clear hx
    go_enter Tryd.func24, Tryd.ntmps24
    go_wp2_with fail
    refine bodyPost_ret (v := .tuple #[.agg #[.slice oa n ca, .slice ow nw cw, .int .i64 (ar : Int), .bool dn], .int .i64 1]) ?_ rfl ⟨rfl, (((Below.refl _ _).alloc (Nat.le_refl _) _).alloc (by simp) _)⟩
    have h9 := Blk.new (w.alloc (.cells #[.slice oa n ca, .slice ow nw cw, .int .i64 (ar : Int), .bool dn] 47)) #[.slice oa n ca, .slice ow nw cw, .int .i64 (ar : Int), .bool dn] 47
    rw [World.size_alloc] at h9
    exact results_cell_tmp Tryd.results24 _ _ (w.heap.size + 1) 47 #[.slice oa n ca, .slice ow nw cw, .int .i64 (ar : Int), .bool dn] (0, 0) _ rfl h9 Tryd.underlying47 rfl (by kernel_rfl)
  · have i5 : decide ((n : Int) ≤ x) = false := decide_eq_false h1
    have h64 : ¬ l = 64 := fun e => hx ⟨by omega, e⟩
    have h65 : decide ((l : Int) = 64) = false := decide_eq_false (by omega)
    have h66 : ((l : Int) == 64) = false := beq_false_of_ne (by omega)
    have h67 : (l == 64) = false := beq_false_of_ne h64
    have h68 : ((l : Int) != 64) = true := by rw [bne, h66]; rfl
    clear hx
    go_enter Tryd.func24, Tryd.ntmps24
    go_wp2_with fail
    refine bodyPost_ret (v := .tuple #[.agg #[.slice oa n ca, .slice ow nw cw, .int .i64 (ar : Int), .bool dn], .int .i64 1]) ?_ rfl ⟨rfl, (((Below.refl _ _).alloc (Nat.le_refl _) _).alloc (by simp) _)⟩
    have h9 := Blk.new (w.alloc (.cells #[.slice oa n ca, .slice ow nw cw, .int .i64 (ar : Int), .bool dn] 47)) #[.slice oa n ca, .slice ow nw cw, .int .i64 (ar : Int), .bool dn] 47
    rw [World.size_alloc] at h9
    exact results_cell_tmp Tryd.results24 _ _ (w.heap.size + 1) 47 #[.slice oa n ca, .slice ow nw cw, .int .i64 (ar : Int), .bool dn] (0, 0) _ rfl h9 Tryd.underlying47 rfl (by kernel_rfl)
end Go.Proofs.YtcohllhmfghlfaaDoor
namespace Go.Proofs.YtcohllhmfghlfaaDoor
set_option linter.unusedVariables false
set_option linter.unusedSimpArgs false
open Go.RowKit

/-- Structs of k cells, one behind the other, in blocks that may be. -/
def LV (w : World) (P : Nat → Prop) (oa : Option Addr) (n k : Nat) (C : Nat → List Value) : Prop :=
  ∀ i j, i < n → j < k → ∃ b off v, oa = some ⟨b, off, none⟩ ∧ P b ∧ w.cell? ⟨b, off + i * k + j, none⟩ = some v ∧ (C i)[j]? = some v
theorem LV.later {w w' : World} {P : Nat → Prop} {oa : Option Addr} {n k : Nat} {C : Nat → List Value} (h : LV w P oa n k C) (hb : Below w.heap.size w w') : LV w' P oa n k C := fun i j hi hj => by
  obtain ⟨b, off, v, h1, h2, h3, h4⟩ := h i j hi hj
  exact ⟨b, off, v, h1, h2, cell_below hb h3, h4⟩
theorem LV.nil (w : World) (P : Nat → Prop) (oa : Option Addr) (k : Nat) (C : Nat → List Value) : LV w P oa 0 k C := fun i j hi => absurd hi (Nat.not_lt_zero _)
theorem LV.congr {w : World} {P : Nat → Prop} {oa : Option Addr} {n k : Nat} {C D : Nat → List Value} (h : LV w P oa n k C) (he : ∀ i, i < n → C i = D i) : LV w P oa n k D := fun i j hi hj => by
  rw [← he i hi]; exact h i j hi hj
theorem LV.news {w : World} {P : Nat → Prop} {b off n k : Nat} {C : Nat → List Value} (h : LV w P (some ⟨b, off, none⟩) n k C) (hk : ∀ i, i < n → (C i).length = k) (h0 : 0 < k) : ∀ j u, (rws n C)[j]? = some u → w.cell? ((⟨b, off, none⟩ : Addr).add j) = some u := fun j u hu => by
  have hl : (rws n C).length = n * k := rws_len hk
  have hj : j < n * k := by
    rcases Nat.lt_or_ge j (n * k) with h' | h'
    · exact h'
    · rw [List.getElem?_eq_none (by omega)] at hu; cases hu
  have hi : j / k < n := Nat.div_lt_of_lt_mul (by rw [Nat.mul_comm]; exact hj)
  have hr : j % k < k := Nat.mod_lt _ h0
  have he : j / k * k + j % k = j := by rw [Nat.mul_comm]; exact Nat.div_add_mod j k
  obtain ⟨b', off', v, h1, _, h3, h4⟩ := h (j / k) (j % k) hi hr
  cases h1
  have h5 := rws_get hk hi hr
  rw [he, hu] at h5
  rw [Addr.add_mid]
  rw [Nat.add_assoc, he] at h3
  rw [h3, ← h4, ← h5]
/-- Bytes of a sector, in blocks that may be. -/
def RBp (w : World) (P : Nat → Prop) (f : Nat → Nat) (v : Value) : Prop := ∃ od c, v = .slice od 64 c ∧ 64 ≤ c ∧ c ≤ maxLen ∧ Bytes w od 64 f ∧ ∀ a, od = some a → P a.block
theorem RBp.later {w w' : World} {P : Nat → Prop} {f : Nat → Nat} {v : Value} (h : RBp w P f v) (hb : Below w.heap.size w w') : RBp w' P f v := by
  obtain ⟨od, c, h1, h2, h3, h4, h5⟩ := h
  exact ⟨od, c, h1, h2, h3, h4.later hb, h5⟩
def slC (V : Nat → Value) : Nat → List Value := fun i => [V i]
def wrC (A : Nat → Nat) (V : Nat → Value) : Nat → List Value := fun j => [.int .i64 (A j : Nat), V j]
def RSf (w : World) (P : Nat → Prop) (oa : Option Addr) (n : Nat) (S : Nat → Nat → Nat) : Prop := ∃ V, LV w P oa n 1 (slC V) ∧ ∀ i, i < n → RBp w P (S i) (V i)
def RWt (w : World) (P : Nat → Prop) (ow : Option Addr) (nw : Nat) (A : Nat → Nat) (D : Nat → Nat → Nat) : Prop := ∃ V, LV w P ow nw 2 (wrC A V) ∧ ∀ j, j < nw → RBp w P (D j) (V j)
theorem RSf.later {w w' : World} {P : Nat → Prop} {oa : Option Addr} {n : Nat} {S : Nat → Nat → Nat} (h : RSf w P oa n S) (hb : Below w.heap.size w w') : RSf w' P oa n S := by
  obtain ⟨V, h1, h2⟩ := h
  exact ⟨V, h1.later hb, fun i hi => (h2 i hi).later hb⟩
theorem RWt.later {w w' : World} {P : Nat → Prop} {oa : Option Addr} {n : Nat} {A : Nat → Nat} {D : Nat → Nat → Nat} (h : RWt w P oa n A D) (hb : Below w.heap.size w w') : RWt w' P oa n A D := by
  obtain ⟨V, h1, h2⟩ := h
  exact ⟨V, h1.later hb, fun i hi => (h2 i hi).later hb⟩
theorem RSf.lbs {w : World} {P : Nat → Prop} {oa : Option Addr} {n : Nat} {S : Nat → Nat → Nat} (h : RSf w P oa n S) : LBs w oa n (fun _ => 64) S := fun i hi => by
  obtain ⟨V, h1, h2⟩ := h
  obtain ⟨b, off, v, e1, _, e3, e4⟩ := h1 i 0 hi (by decide)
  obtain ⟨od, c, f1, f2, f3, f4, _⟩ := h2 i hi
  have e5 : V i = v := by simpa [slC] using e4
  rw [← e5, f1, Nat.mul_one, Nat.add_zero] at e3
  exact ⟨b, off, od, c, e1, e3, f2, f4, fun e => (by subst e; obtain ⟨_, _, _, e9, _⟩ := f4 0 (by decide); cases e9), f3⟩
theorem RWt.rw {w : World} {P : Nat → Prop} {oa : Option Addr} {n : Nat} {A : Nat → Nat} {D : Nat → Nat → Nat} (h : RWt w P oa n A D) : RW w oa n A D := fun j hj => by
  obtain ⟨V, h1, h2⟩ := h
  obtain ⟨b, off, v, e1, _, e3, e4⟩ := h1 j 0 hj (by decide)
  obtain ⟨b', off', v', d1, _, d3, d4⟩ := h1 j 1 hj (by decide)
  obtain ⟨od, c, f1, f2, f3, f4, _⟩ := h2 j hj
  rw [e1] at d1; cases d1
  have e5 : .int .i64 (A j : Nat) = v := by simpa [wrC] using e4
  have e6 : V j = v' := by simpa [wrC] using d4
  rw [← e5, Nat.add_zero] at e3
  rw [← e6, f1] at d3
  exact ⟨b, off, od, c, e1, e3, d3, f2, f3, f4⟩
theorem slC_len (V : Nat → Value) : ∀ i, (slC V i).length = 1 := fun _ => rfl
theorem wrC_len (A : Nat → Nat) (V : Nat → Value) : ∀ i, (wrC A V i).length = 2 := fun _ => rfl
/-- An owned row's structs. -/
theorem owns_lv {w : World} {P : Nat → Prop} {base : Nat} {e : TypeId} {k : Nat} {v : Value} {n : Nat} {C : Nat → List Value} (h : w.ownsRow base e k v n (rws n C)) (hk : ∀ i, i < n → (C i).length = k) (hP : ∀ q, base ≤ q → P q) :
    ∃ oa cap, v = .slice oa n cap ∧ n ≤ cap ∧ cap ≤ maxLen ∧ (oa = none → n = 0) ∧ LV w P oa n k C := by
  obtain ⟨oa, cap, h1, h2, h3, h4, h5⟩ := rws_cells h hk
  refine ⟨oa, cap, h1, h2, h3, fun e0 => ?_, fun i j hi hj => ?_⟩
  · rcases h.2 with ⟨_, h0⟩ | ⟨g, cp, cur, e1, _⟩
    · exact h0
    · rw [h1, e0] at e1; cases e1
  · obtain ⟨b, off, e1, e2, e3⟩ := h5 i j hi hj
    obtain ⟨g, e4, e5, _⟩ := h4 _ e1
    have hl := hk i hi
    refine ⟨b, off, (C i)[j], e1, hP b (by cases e4; exact e5), by rw [e3, List.getElem?_eq_getElem], by rw [List.getElem?_eq_getElem]⟩
theorem owns_some {w : World} {base : Nat} {e : TypeId} {k n : Nat} {v : Value} {xs : List Value} (h : w.ownsRow base e k v n xs) (h0 : 0 < n) : ∃ g cap cur, v = .slice (some ⟨g, 0, none⟩) n cap ∧ base ≤ g ∧ Blk w g cur e ∧ n ≤ cap ∧ cap ≤ maxLen ∧ cur.size = cap * k := by
  rcases h.2 with ⟨_, e0⟩ | ⟨g, cap, cur, h1, h2, h3, h4, h5, h6, _⟩
  · omega
  · exact ⟨g, cap, cur, h1, h2, h3, h4, h5, h6⟩
theorem owns_set {w : World} {base : Nat} {e : TypeId} {k g n cap i : Nat} {u : Value} {xs : List Value} (h : w.ownsRow base e k (.slice (some ⟨g, 0, none⟩) n cap) n xs) : (w.setCell ⟨g, i, none⟩ u).ownsRow base e k (.slice (some ⟨g, 0, none⟩) n cap) n (xs.set i u) := by
  refine ⟨by rw [List.length_set]; exact h.1, .inr ?_⟩
  rcases h.2 with ⟨e0, _⟩ | ⟨g', cap', cur, e0, hb, hh, hnc, hm, hsz, hcur⟩
  · cases e0
  · cases e0
    refine ⟨g, cap, cur.setIfInBounds i u, rfl, hb, Blk.set (C := cur) hh i _, hnc, hm, by rw [Array.size_setIfInBounds]; exact hsz, ?_⟩
    rw [Array.toList_setIfInBounds, List.take_set, hcur]
/-- The cells, others behind them. -/
def catC (n : Nat) (C D : Nat → List Value) : Nat → List Value := fun i => if i < n then C i else D (i - n)
theorem rws_cat (n m : Nat) (C D : Nat → List Value) : rws (n + m) (catC n C D) = rws n C ++ rws m D := by
  induction m with
  | zero => rw [rws_zero, List.append_nil, Nat.add_zero]; exact rws_congr fun i hi => by unfold catC; rw [if_pos hi]
  | succ m ih => rw [← Nat.add_assoc, rws_succ, rws_succ, ih, ← List.append_assoc]; congr 1; unfold catC; rw [if_neg (by omega), Nat.add_sub_cancel_left]
theorem rws_ones {C : Nat → List Value} : ∀ {n : Nat}, (∀ i, i < n → ∀ v ∈ C i, v.oneCell' = true) → ∀ v ∈ rws n C, v.oneCell' = true
  | 0, _, v, hv => by rw [rws_zero] at hv; cases hv
  | n + 1, h, v, hv => by
    rw [rws_succ] at hv
    rcases List.mem_append.1 hv with h1 | h1
    · exact rws_ones (fun i hi => h i (by omega)) v h1
    · exact h n (by omega) v h1

theorem info_vv : (Tryd.prog.info? 22).map (fun i => (i.zero, i.size, i.bytes)) = some (some (.slice none 0 0), 1, 24) := by kernel_rfl
theorem appNil_vv {w : World} {base n c : Nat} {v : Value} {xs : List Value} (ty : TypeId) (hown : w.ownsRow base 22 1 v n xs) :
    (Builtin.append_ #[44, 44] ty #[v, .slice none 0 c]).run Tryd.prog w = .ok v w := by
  obtain ⟨i0, hi, _, _, _⟩ := info_parts info_vv
  rcases hown.2 with ⟨rfl, rfl⟩ | ⟨g, cap, cur, rfl, _, _, hnc, _⟩
  · simp [Builtin.append_, run_underlying Tryd.underlying44, sizeOf, typeInfo, hi, Builtin.lenOf, Builtin.firstCells]
  · simp [Builtin.append_, run_underlying Tryd.underlying44, sizeOf, typeInfo, hi, Builtin.lenOf, Builtin.firstCells, hnc, storeCells]
/-- Others that came in, appended to a list of our own. -/
theorem app_vv {ops : Array Oper} {rest : List Oper} {o : Oper} {a : Act} {Q : Exit → Act → World → Prop} (hgd : o.guard = none) (s x : Operand)
    (ho : o.op = .call { callee := .builtin .append, args := #[s, x], argTypes := #[44, 44] })
    (base : Nat) (v : Value) (n q cq : Nat) (C D : Nat → List Value) (P : Nat → Prop) (oa : Option Addr) (W : World) (hs : a.eval s = v) (h : W.ownsRow base 22 1 v n (rws n C)) (hx : a.eval x = .slice oa q cq)
    (hA : LV W P oa q 1 D) (hD : ∀ i, i < q → (D i).length = 1 ∧ ∀ v ∈ D i, v.oneCell' = true) (hno : oa = none → q = 0) (hn : n + q < 100000000000) (hbase : base ≤ W.heap.size)
    (hk : ∀ v' w', w'.ownsRow base 22 1 v' (n + q) (rws (n + q) (catC n C D)) → Below base W w' → wpList Tryd.prog ops Q rest (a.put o.dst v') w') :
    wpList Tryd.prog ops Q (o :: rest) a W := by
  obtain ⟨i0, hi, hz0, hz1, hz2⟩ := info_parts info_vv
  cases oa with
  | none =>
    obtain rfl := hno rfl
    refine wpList_plain hgd fun K hK => ?_
    have hr := appNil_vv (c := cq) o.type h
    unfold Oper.wp execOp
    simp only [ho, resolve, invoke, builtin, Sem.run_bind, Sem.run_pure, Result.andThen_ok, List.map_toArray, List.map_cons, List.map_nil, hs, hx, hr]
    refine hK _ _ (hk _ _ ?_ (Below.refl _ _))
    rw [rws_cat, rws_zero, List.append_nil]; exact h
  | some ad =>
    by_cases h0 : q = 0
    · subst h0
      refine wpList_append_own_at _ hgd s x 44 ho base 22 i0 (.slice none 0 0) 1 24 Tryd.underlying44 hi hz0 hz1 hz2 rfl (by decide) v n (rws n C) hs h ad 0 cq [] hx rfl
        (fun j u hu => by simp at hu) (fun u hu => by cases hu) (by unfold maxLen; omega) (by omega) hbase ?_
      intro v' w' hown' hg _ hob
      refine hk v' w' ?_ (below_gr (fun j hj => (World.ownsRow.lt h j hj).1) hbase hg)
      rw [rws_cat]; exact hown'
    · obtain ⟨b, off, _, e1, _⟩ := hA 0 0 (by omega) (by decide)
      cases e1
      refine wpList_append_own_at _ hgd s x 44 ho base 22 i0 (.slice none 0 0) 1 24 Tryd.underlying44 hi hz0 hz1 hz2 rfl (by decide) v n (rws n C) hs h ⟨b, off, none⟩ q cq (rws q D) hx (rws_len fun i hi => (hD i hi).1)
        (hA.news (fun i hi => (hD i hi).1) (by decide)) (rws_ones fun i hi => (hD i hi).2) (by unfold maxLen; omega) (by omega) hbase ?_
      intro v' w' hown' hg _ hob
      refine hk v' w' ?_ (below_gr (fun j hj => (World.ownsRow.lt h j hj).1) hbase hg)
      rw [rws_cat]; exact hown'
/-- One more, appended to a list without room: in a new block. -/
theorem full_vv {ops : Array Oper} {rest : List Oper} {o : Oper} {a : Act} {Q : Exit → Act → World → Prop} (hgd : o.guard = none) (s x : Operand)
    (ho : o.op = .call { callee := .builtin .append, args := #[s, x], argTypes := #[44, 44] })
    (n : Nat) (C : Nat → List Value) (c : List Value) (P : Nat → Prop) (oa : Option Addr) (W : World) (hs : a.eval s = .slice oa n n) (hx : a.eval x = .slice (some ⟨W.heap.size, 0, none⟩) 1 1)
    (hA : LV W P oa n 1 C) (hC : ∀ i, i < n → (C i).length = 1) (hc : c.length = 1) (hno : oa = none → n = 0) (hn : n < 100000000000) (hP : ∀ q, W.heap.size ≤ q → P q)
    (hk : ∀ g cp w', n + 1 ≤ cp → cp ≤ maxLen → LV w' P (some ⟨g, 0, none⟩) (n + 1) 1 (addC C n c) → Below W.heap.size W w' → wpList Tryd.prog ops Q rest (a.put o.dst (.slice (some ⟨g, 0, none⟩) (n + 1) cp)) w') :
    wpList Tryd.prog ops Q (o :: rest) a (W.alloc (.cells c.toArray 22)) := by
  obtain ⟨i0, hi, hz0, hz1, hz2⟩ := info_parts info_vv
  obtain ⟨W1, hW1⟩ : ∃ y, W.alloc (.cells c.toArray 22) = y := ⟨_, rfl⟩
  have hb1 : Below W.heap.size W W1 := by rw [← hW1]; exact (Below.refl _ _).alloc (Nat.le_refl _) _
  have hnews : ∀ j u, c[j]? = some u → W1.cell? ((⟨W.heap.size, 0, none⟩ : Addr).add j) = some u := fun j u hu => by
    rw [← hW1]; exact news_lit j u hu
  rw [hW1]
  have hall : ∀ i, i < n + 1 → (addC C n c i).length = 1 := fun i hi' => by
    unfold addC
    by_cases e : i = n
    · rw [if_pos e]; exact hc
    · rw [if_neg e]; exact hC i (by omega)
  have fin : ∀ (Z : Array Value) cp, n + 1 ≤ cp → cp ≤ maxLen → wpList Tryd.prog ops Q rest (a.put o.dst (.slice (some ⟨W1.heap.size, 0, none⟩) (n + 1) cp)) (W1.drew.alloc (.cells ((rws n C).toArray ++ c.toArray ++ Z) 22)) := fun Z cp h1 h2 => by
    refine hk W1.heap.size cp _ h1 h2 (fun i j hi' hj => ?_) ((hb1.drew).alloc hb1.size _)
    have hlt : i * 1 + j < (n + 1) * 1 := Nat.lt_of_lt_of_le (by omega) (show i * 1 + 1 ≤ (n + 1) * 1 by rw [← Nat.succ_mul]; exact Nat.mul_le_mul_right _ hi')
    have hl2 : (rws (n + 1) (addC C n c)).length = (n + 1) * 1 := rws_len hall
    have hcell : (W1.drew.alloc (.cells ((rws n C).toArray ++ c.toArray ++ Z) 22)).cell? ⟨W1.heap.size, 0 + i * 1 + j, none⟩ = (addC C n c i)[j]? := by
      have e9 := World.cell?_alloc_mark W1.drew ((rws n C).toArray ++ c.toArray ++ Z) 22 (0, 0) (0 + i * 1 + j)
      refine Eq.trans e9 ?_
      rw [Nat.zero_add, ← rws_get hall hi' hj, rws_add, Array.getElem?_append_left (by rw [rws_add] at hl2; simp at hl2 ⊢; omega)]
      simp
    have hj2 := hall i hi'
    exact ⟨W1.heap.size, 0, (addC C n c i)[j], rfl, hP _ hb1.size, by rw [hcell, List.getElem?_eq_getElem], by rw [List.getElem?_eq_getElem]⟩
  refine wpList_plain hgd fun K hK => ?_
  cases oa with
  | none =>
    obtain rfl := hno rfl
    have hr := run_append_nil (P := Tryd.prog) W1 44 o.type 22 i0 (.slice none 0 0) Tryd.underlying44 hi hz0 ⟨W.heap.size, 0, none⟩ 1 1 c (by rw [hc, hz1]) hnews (by decide) (by decide) (by rw [hz2]; decide)
    have hge := grownCap_ge W1 1 0 22
    have hle := grownCap_le_maxLen W1 1 0 22 (by unfold maxLen; omega)
    unfold Oper.wp execOp
    simp only [ho, resolve, invoke, builtin, Sem.run_bind, Sem.run_pure, Result.andThen_ok, List.map_toArray, List.map_cons, List.map_nil, hs, hx, hr]
    have := fin (Builtin.zeroCells (Value.cells (.slice none 0 0)) (grownCap W1 1 0 22 - 1)) _ hge hle
    rw [rws_zero] at this
    refine hK _ _ ?_
    simpa using this
  | some ad =>
    by_cases h0 : n = 0
    · subst h0
      have hr := run_append_grow (P := Tryd.prog) W1 44 o.type 22 i0 (.slice none 0 0) Tryd.underlying44 hi hz0 ad 0 0 [] (by simp) (fun j u hu => by simp at hu) ⟨W.heap.size, 0, none⟩ 1 1 c (by rw [hc, hz1]) hnews (by omega) (by omega) (growslice_fits (by omega) (by rw [hz2]; omega))
      have hge := grownCap_ge W1 (0 + 1) 0 22
      have hle := grownCap_le_maxLen W1 (0 + 1) 0 22 (by unfold maxLen; omega)
      unfold Oper.wp execOp
      simp only [ho, resolve, invoke, builtin, Sem.run_bind, Sem.run_pure, Result.andThen_ok, List.map_toArray, List.map_cons, List.map_nil, hs, hx, hr]
      exact hK _ _ (fin _ _ hge hle)
    · obtain ⟨b, off, _, e1, _⟩ := hA 0 0 (by omega) (by decide)
      cases e1
      have hr := run_append_grow (P := Tryd.prog) W1 44 o.type 22 i0 (.slice none 0 0) Tryd.underlying44 hi hz0 ⟨b, off, none⟩ n n (rws n C) (by rw [rws_len hC, hz1]) ((hA.later hb1).news hC (by decide)) ⟨W.heap.size, 0, none⟩ 1 1 c (by rw [hc, hz1]) hnews (by omega) (by omega) (growslice_fits (by omega) (by rw [hz2]; omega))
      have hge := grownCap_ge W1 (n + 1) n 22
      have hle := grownCap_le_maxLen W1 (n + 1) n 22 (by unfold maxLen; omega)
      unfold Oper.wp execOp
      simp only [ho, resolve, invoke, builtin, Sem.run_bind, Sem.run_pure, Result.andThen_ok, List.map_toArray, List.map_cons, List.map_nil, hs, hx, hr]
      exact hK _ _ (fin _ _ hge hle)

theorem info_ww : (Tryd.prog.info? 83).map (fun i => (i.zero, i.size, i.bytes)) = some (some (.agg #[.int .i64 0, .slice none 0 0]), 2, 32) := by kernel_rfl
theorem appNil_ww {w : World} {base n c : Nat} {v : Value} {xs : List Value} (ty : TypeId) (hown : w.ownsRow base 83 2 v n xs) :
    (Builtin.append_ #[45, 45] ty #[v, .slice none 0 c]).run Tryd.prog w = .ok v w := by
  obtain ⟨i0, hi, _, _, _⟩ := info_parts info_ww
  rcases hown.2 with ⟨rfl, rfl⟩ | ⟨g, cap, cur, rfl, _, _, hnc, _⟩
  · simp [Builtin.append_, run_underlying Tryd.underlying45, sizeOf, typeInfo, hi, Builtin.lenOf, Builtin.firstCells]
  · simp [Builtin.append_, run_underlying Tryd.underlying45, sizeOf, typeInfo, hi, Builtin.lenOf, Builtin.firstCells, hnc, storeCells]
/-- Others that came in, appended to a list of our own. -/
theorem app_ww {ops : Array Oper} {rest : List Oper} {o : Oper} {a : Act} {Q : Exit → Act → World → Prop} (hgd : o.guard = none) (s x : Operand)
    (ho : o.op = .call { callee := .builtin .append, args := #[s, x], argTypes := #[45, 45] })
    (base : Nat) (v : Value) (n q cq : Nat) (C D : Nat → List Value) (P : Nat → Prop) (oa : Option Addr) (W : World) (hs : a.eval s = v) (h : W.ownsRow base 83 2 v n (rws n C)) (hx : a.eval x = .slice oa q cq)
    (hA : LV W P oa q 2 D) (hD : ∀ i, i < q → (D i).length = 2 ∧ ∀ v ∈ D i, v.oneCell' = true) (hno : oa = none → q = 0) (hn : n + q < 100000000000) (hbase : base ≤ W.heap.size)
    (hk : ∀ v' w', w'.ownsRow base 83 2 v' (n + q) (rws (n + q) (catC n C D)) → Below base W w' → wpList Tryd.prog ops Q rest (a.put o.dst v') w') :
    wpList Tryd.prog ops Q (o :: rest) a W := by
  obtain ⟨i0, hi, hz0, hz1, hz2⟩ := info_parts info_ww
  cases oa with
  | none =>
    obtain rfl := hno rfl
    refine wpList_plain hgd fun K hK => ?_
    have hr := appNil_ww (c := cq) o.type h
    unfold Oper.wp execOp
    simp only [ho, resolve, invoke, builtin, Sem.run_bind, Sem.run_pure, Result.andThen_ok, List.map_toArray, List.map_cons, List.map_nil, hs, hx, hr]
    refine hK _ _ (hk _ _ ?_ (Below.refl _ _))
    rw [rws_cat, rws_zero, List.append_nil]; exact h
  | some ad =>
    by_cases h0 : q = 0
    · subst h0
      refine wpList_append_own_at _ hgd s x 45 ho base 83 i0 (.agg #[.int .i64 0, .slice none 0 0]) 2 32 Tryd.underlying45 hi hz0 hz1 hz2 rfl (by decide) v n (rws n C) hs h ad 0 cq [] hx rfl
        (fun j u hu => by simp at hu) (fun u hu => by cases hu) (by unfold maxLen; omega) (by omega) hbase ?_
      intro v' w' hown' hg _ hob
      refine hk v' w' ?_ (below_gr (fun j hj => (World.ownsRow.lt h j hj).1) hbase hg)
      rw [rws_cat]; exact hown'
    · obtain ⟨b, off, _, e1, _⟩ := hA 0 0 (by omega) (by decide)
      cases e1
      refine wpList_append_own_at _ hgd s x 45 ho base 83 i0 (.agg #[.int .i64 0, .slice none 0 0]) 2 32 Tryd.underlying45 hi hz0 hz1 hz2 rfl (by decide) v n (rws n C) hs h ⟨b, off, none⟩ q cq (rws q D) hx (rws_len fun i hi => (hD i hi).1)
        (hA.news (fun i hi => (hD i hi).1) (by decide)) (rws_ones fun i hi => (hD i hi).2) (by unfold maxLen; omega) (by omega) hbase ?_
      intro v' w' hown' hg _ hob
      refine hk v' w' ?_ (below_gr (fun j hj => (World.ownsRow.lt h j hj).1) hbase hg)
      rw [rws_cat]; exact hown'
/-- One more, appended to a list without room: in a new block. -/
theorem full_ww {ops : Array Oper} {rest : List Oper} {o : Oper} {a : Act} {Q : Exit → Act → World → Prop} (hgd : o.guard = none) (s x : Operand)
    (ho : o.op = .call { callee := .builtin .append, args := #[s, x], argTypes := #[45, 45] })
    (n : Nat) (C : Nat → List Value) (c : List Value) (P : Nat → Prop) (oa : Option Addr) (W : World) (hs : a.eval s = .slice oa n n) (hx : a.eval x = .slice (some ⟨W.heap.size, 0, none⟩) 1 1)
    (hA : LV W P oa n 2 C) (hC : ∀ i, i < n → (C i).length = 2) (hc : c.length = 2) (hno : oa = none → n = 0) (hn : n < 100000000000) (hP : ∀ q, W.heap.size ≤ q → P q)
    (hk : ∀ g cp w', n + 1 ≤ cp → cp ≤ maxLen → LV w' P (some ⟨g, 0, none⟩) (n + 1) 2 (addC C n c) → Below W.heap.size W w' → wpList Tryd.prog ops Q rest (a.put o.dst (.slice (some ⟨g, 0, none⟩) (n + 1) cp)) w') :
    wpList Tryd.prog ops Q (o :: rest) a (W.alloc (.cells c.toArray 83)) := by
  obtain ⟨i0, hi, hz0, hz1, hz2⟩ := info_parts info_ww
  obtain ⟨W1, hW1⟩ : ∃ y, W.alloc (.cells c.toArray 83) = y := ⟨_, rfl⟩
  have hb1 : Below W.heap.size W W1 := by rw [← hW1]; exact (Below.refl _ _).alloc (Nat.le_refl _) _
  have hnews : ∀ j u, c[j]? = some u → W1.cell? ((⟨W.heap.size, 0, none⟩ : Addr).add j) = some u := fun j u hu => by
    rw [← hW1]; exact news_lit j u hu
  rw [hW1]
  have hall : ∀ i, i < n + 1 → (addC C n c i).length = 2 := fun i hi' => by
    unfold addC
    by_cases e : i = n
    · rw [if_pos e]; exact hc
    · rw [if_neg e]; exact hC i (by omega)
  have fin : ∀ (Z : Array Value) cp, n + 1 ≤ cp → cp ≤ maxLen → wpList Tryd.prog ops Q rest (a.put o.dst (.slice (some ⟨W1.heap.size, 0, none⟩) (n + 1) cp)) (W1.drew.alloc (.cells ((rws n C).toArray ++ c.toArray ++ Z) 83)) := fun Z cp h1 h2 => by
    refine hk W1.heap.size cp _ h1 h2 (fun i j hi' hj => ?_) ((hb1.drew).alloc hb1.size _)
    have hlt : i * 2 + j < (n + 1) * 2 := Nat.lt_of_lt_of_le (by omega) (show i * 2 + 2 ≤ (n + 1) * 2 by rw [← Nat.succ_mul]; exact Nat.mul_le_mul_right _ hi')
    have hl2 : (rws (n + 1) (addC C n c)).length = (n + 1) * 2 := rws_len hall
    have hcell : (W1.drew.alloc (.cells ((rws n C).toArray ++ c.toArray ++ Z) 83)).cell? ⟨W1.heap.size, 0 + i * 2 + j, none⟩ = (addC C n c i)[j]? := by
      have e9 := World.cell?_alloc_mark W1.drew ((rws n C).toArray ++ c.toArray ++ Z) 83 (0, 0) (0 + i * 2 + j)
      refine Eq.trans e9 ?_
      rw [Nat.zero_add, ← rws_get hall hi' hj, rws_add, Array.getElem?_append_left (by rw [rws_add] at hl2; simp at hl2 ⊢; omega)]
      simp
    have hj2 := hall i hi'
    exact ⟨W1.heap.size, 0, (addC C n c i)[j], rfl, hP _ hb1.size, by rw [hcell, List.getElem?_eq_getElem], by rw [List.getElem?_eq_getElem]⟩
  refine wpList_plain hgd fun K hK => ?_
  cases oa with
  | none =>
    obtain rfl := hno rfl
    have hr := run_append_nil (P := Tryd.prog) W1 45 o.type 83 i0 (.agg #[.int .i64 0, .slice none 0 0]) Tryd.underlying45 hi hz0 ⟨W.heap.size, 0, none⟩ 1 1 c (by rw [hc, hz1]) hnews (by decide) (by decide) (by rw [hz2]; decide)
    have hge := grownCap_ge W1 1 0 83
    have hle := grownCap_le_maxLen W1 1 0 83 (by unfold maxLen; omega)
    unfold Oper.wp execOp
    simp only [ho, resolve, invoke, builtin, Sem.run_bind, Sem.run_pure, Result.andThen_ok, List.map_toArray, List.map_cons, List.map_nil, hs, hx, hr]
    have := fin (Builtin.zeroCells (Value.cells (.agg #[.int .i64 0, .slice none 0 0])) (grownCap W1 1 0 83 - 1)) _ hge hle
    rw [rws_zero] at this
    refine hK _ _ ?_
    simpa using this
  | some ad =>
    by_cases h0 : n = 0
    · subst h0
      have hr := run_append_grow (P := Tryd.prog) W1 45 o.type 83 i0 (.agg #[.int .i64 0, .slice none 0 0]) Tryd.underlying45 hi hz0 ad 0 0 [] (by simp) (fun j u hu => by simp at hu) ⟨W.heap.size, 0, none⟩ 1 1 c (by rw [hc, hz1]) hnews (by omega) (by omega) (growslice_fits (by omega) (by rw [hz2]; omega))
      have hge := grownCap_ge W1 (0 + 1) 0 83
      have hle := grownCap_le_maxLen W1 (0 + 1) 0 83 (by unfold maxLen; omega)
      unfold Oper.wp execOp
      simp only [ho, resolve, invoke, builtin, Sem.run_bind, Sem.run_pure, Result.andThen_ok, List.map_toArray, List.map_cons, List.map_nil, hs, hx, hr]
      exact hK _ _ (fin _ _ hge hle)
    · obtain ⟨b, off, _, e1, _⟩ := hA 0 0 (by omega) (by decide)
      cases e1
      have hr := run_append_grow (P := Tryd.prog) W1 45 o.type 83 i0 (.agg #[.int .i64 0, .slice none 0 0]) Tryd.underlying45 hi hz0 ⟨b, off, none⟩ n n (rws n C) (by rw [rws_len hC, hz1]) ((hA.later hb1).news hC (by decide)) ⟨W.heap.size, 0, none⟩ 1 1 c (by rw [hc, hz1]) hnews (by omega) (by omega) (growslice_fits (by omega) (by rw [hz2]; omega))
      have hge := grownCap_ge W1 (n + 1) n 83
      have hle := grownCap_le_maxLen W1 (n + 1) n 83 (by unfold maxLen; omega)
      unfold Oper.wp execOp
      simp only [ho, resolve, invoke, builtin, Sem.run_bind, Sem.run_pure, Result.andThen_ok, List.map_toArray, List.map_cons, List.map_nil, hs, hx, hr]
      exact hK _ _ (fin _ _ hge hle)
end Go.Proofs.YtcohllhmfghlfaaDoor
namespace Go.Proofs.YtcohllhmfghlfaaDoor
set_option linter.unusedVariables false
set_option linter.unusedSimpArgs false
open Go.RowKit

set_option maxRecDepth 100000 in
set_option maxHeartbeats 4000000 in
theorem rwith_any (P : Nat → Prop) (oa : Option Addr) (n ca i cb : Nat) (ob : Option Addr) (V : Nat → Value) (w : World) (hP : ∀ q, w.heap.size ≤ q → P q) (hL : LV w P oa n 1 (slC V)) (hV : ∀ j, j < n → (V j).oneCell' = true) (hn : n < 100000) (hi : i < n) :
    Calls Tryd.prog 41 #[.slice oa n ca, .int .i64 (i : Int), .slice ob 64 cb] w fun e w' => ∃ oa' c', e = .returned (.slice oa' n c') ∧ n ≤ c' ∧ c' ≤ maxLen ∧ (oa' = none → n = 0) ∧ LV w' P oa' n 1 (slC (fun j => if j = i then .slice ob 64 cb else V j)) ∧ Below w.heap.size w w' := by
  have HL := Lib.hid hL
  have HP := Lib.hid hP
  have HV := Lib.hid (show ∀ j, j < n → (slC V j).length = 1 ∧ ∀ v ∈ slC V j, v.oneCell' = true from fun j hj => ⟨rfl, fun v hv => by unfold slC at hv; simp at hv; subst hv; exact hV j hj⟩)
  have n0 : (n : Int) ≤ 9223372036854775807 := by omega
  have i1 : (i : Int) < (n : Int) := by omega
  have i0 : (0 : Int) ≤ (i : Int) := by omega
  have HI := Lib.hid (show i < n ∧ n < 100000 from ⟨hi, hn⟩)
  have hno : oa = none → n = 0 := fun e => by
    obtain ⟨_, _, _, e1, _⟩ := hL i 0 hi (by decide)
    rw [e] at e1; cases e1
  have HN := Lib.hid hno
  clear hL hno hn hi hP hV
  go_enter Tryd.func41, Tryd.ntmps41
  go_wp2_with (first
    | (at_builtin; refine app_vv rfl (.tmp 8) (.tmp 9) rfl w.heap.size (.slice none 0 0) 0 n ca (fun _ => []) (slC V) P oa w rfl (World.ownsRow_nil _ _ _ _) rfl HL.out HV.out HN.out (by have := HI.out; omega) (Nat.le_refl _) ?_
       intro v' w' hR hb
       have HR := Lib.hid hR
       have HB := Lib.hid hb
       clear hR hb
       refine Hid.out ?_))
  refine Lib.hid ?_
  rw [Nat.zero_add] at HR
  obtain ⟨g, c, cur, rfl, hg, hk, hc1, hc2, hsz⟩ := owns_some HR.out (Nat.lt_of_le_of_lt (Nat.zero_le _) HI.out.1)
  have hf := Blk.free hk i
  obtain ⟨u, hu⟩ : ∃ u, w'.cell? ⟨g, i, none⟩ = some u := ⟨cur[i]'(by have := HI.out; omega), by rw [Blk.cell hk, Array.getElem?_eq_getElem]⟩
  have HGG := Lib.hid (show w.heap.size ≤ g ∧ n ≤ c ∧ c ≤ maxLen from ⟨hg, hc1, hc2⟩)
  clear hg hk hc1 hc2 hsz
  go_wp2_with fail
  go_ret
  have h1 := owns_set (i := i) (u := .slice ob 64 cb) HR.out
  have e0 : ∀ j, j < n → catC 0 (fun _ => []) (slC V) j = slC V j := fun j _ => by unfold catC; rw [if_neg (Nat.not_lt_zero _), Nat.sub_zero]
  have e9 := rws_set (k := 1) (C := slC V) (n := n) (i := i) (j := 0) (v := .slice ob 64 cb) (fun _ _ => rfl) HI.out.1 (by decide)
  rw [show i * 1 + 0 = i by omega] at e9
  rw [rws_congr e0, e9] at h1
  have e1 : ∀ j, j < n → (if j = i then (slC V i).set 0 (.slice ob 64 cb) else slC V j) = slC (fun j => if j = i then .slice ob 64 cb else V j) j := fun j _ => by
    unfold slC
    by_cases e : j = i
    · simp [e]
    · simp [e]
  rw [rws_congr e1] at h1
  obtain ⟨oa', c', e2, h2, h3, h4, h5⟩ := owns_lv h1 (fun _ _ => rfl) HP.out
  cases e2
  exact ⟨_, _, rfl, h2, h3, h4, h5, HB.out.trans (((Own.refl _ _).set _ _).below HGG.out.1 HB.out.size)⟩
end Go.Proofs.YtcohllhmfghlfaaDoor
namespace Go.Proofs.YtcohllhmfghlfaaDoor
set_option linter.unusedVariables false
set_option linter.unusedSimpArgs false
open Go.RowKit

theorem rd_one (oa : Option Addr) (n ca : Nat) (ow : Option Addr) (nw cw ar : Nat) (dn : Bool) : (rdV oa n ca ow nw cw ar dn).all (fun x => x.oneCell') = true := by kernel_rfl
theorem slC_one {V : Nat → Value} {w : World} {P : Nat → Prop} {n : Nat} {S : Nat → Nat → Nat} (h : ∀ i, i < n → RBp w P (S i) (V i)) : ∀ j, j < n → (V j).oneCell' = true := fun j hj => by
  obtain ⟨od, c, e, _⟩ := h j hj; rw [e]; rfl
theorem LV.own {w w' : World} {b : Nat} {P : Nat → Prop} {oa : Option Addr} {n k : Nat} {C : Nat → List Value} (h : LV w P oa n k C) (hO : Own b w w') (hb : ∀ q, P q → q ≠ b) : LV w' P oa n k C := fun i j hi hj => by
  obtain ⟨b', off, v, h1, h2, h3, h4⟩ := h i j hi hj
  exact ⟨b', off, v, h1, h2, hO.cell h3 (hb _ h2), h4⟩
theorem RBp.own {w w' : World} {b : Nat} {P : Nat → Prop} {f : Nat → Nat} {v : Value} (h : RBp w P f v) (hO : Own b w w') (hb : ∀ q, P q → q ≠ b) : RBp w' P f v := by
  obtain ⟨od, c, h1, h2, h3, h4, h5⟩ := h
  exact ⟨od, c, h1, h2, h3, h4.own hO (fun a ha _ => hb _ (h5 a ha)), h5⟩
theorem RSf.own {w w' : World} {b : Nat} {P : Nat → Prop} {oa : Option Addr} {n : Nat} {S : Nat → Nat → Nat} (h : RSf w P oa n S) (hO : Own b w w') (hb : ∀ q, P q → q ≠ b) : RSf w' P oa n S := by
  obtain ⟨V, h1, h2⟩ := h
  exact ⟨V, h1.own hO hb, fun i hi => (h2 i hi).own hO hb⟩
theorem RWt.own {w w' : World} {b : Nat} {P : Nat → Prop} {oa : Option Addr} {n : Nat} {A : Nat → Nat} {D : Nat → Nat → Nat} (h : RWt w P oa n A D) (hO : Own b w w') (hb : ∀ q, P q → q ≠ b) : RWt w' P oa n A D := by
  obtain ⟨V, h1, h2⟩ := h
  exact ⟨V, h1.own hO hb, fun i hi => (h2 i hi).own hO hb⟩
theorem LV.weak {w : World} {P Q : Nat → Prop} {oa : Option Addr} {n k : Nat} {C : Nat → List Value} (h : LV w P oa n k C) (hq : ∀ q, q < w.heap.size → P q → Q q) : LV w Q oa n k C := fun i j hi hj => by
  obtain ⟨b', off, v, h1, h2, h3, h4⟩ := h i j hi hj
  exact ⟨b', off, v, h1, hq _ (World.block_lt_of_cell? _ _ h3) h2, h3, h4⟩
theorem RBp.weak {w : World} {P Q : Nat → Prop} {f : Nat → Nat} {v : Value} (h : RBp w P f v) (hq : ∀ q, q < w.heap.size → P q → Q q) : RBp w Q f v := by
  obtain ⟨od, c, h1, h2, h3, h4, h5⟩ := h
  exact ⟨od, c, h1, h2, h3, h4, fun a ha => hq _ (h4.lt a ha (by decide)) (h5 a ha)⟩
theorem RSf.weak {w : World} {P Q : Nat → Prop} {oa : Option Addr} {n : Nat} {S : Nat → Nat → Nat} (h : RSf w P oa n S) (hq : ∀ q, q < w.heap.size → P q → Q q) : RSf w Q oa n S := by
  obtain ⟨V, h1, h2⟩ := h
  exact ⟨V, h1.weak hq, fun i hi => (h2 i hi).weak hq⟩
theorem RWt.weak {w : World} {P Q : Nat → Prop} {oa : Option Addr} {n : Nat} {A : Nat → Nat} {D : Nat → Nat → Nat} (h : RWt w P oa n A D) (hq : ∀ q, q < w.heap.size → P q → Q q) : RWt w Q oa n A D := by
  obtain ⟨V, h1, h2⟩ := h
  exact ⟨V, h1.weak hq, fun i hi => (h2 i hi).weak hq⟩
theorem RSf.congr {w : World} {P : Nat → Prop} {oa : Option Addr} {n : Nat} {S S' : Nat → Nat → Nat} (h : RSf w P oa n S) (he : ∀ i, i < n → S i = S' i) : RSf w P oa n S' := by
  obtain ⟨V, h1, h2⟩ := h
  exact ⟨V, h1, fun i hi => by rw [← he i hi]; exact h2 i hi⟩
theorem RWt.congr {w : World} {P : Nat → Prop} {oa : Option Addr} {n : Nat} {A A' : Nat → Nat} {D D' : Nat → Nat → Nat} (h : RWt w P oa n A D) (he : ∀ i, i < n → A i = A' i ∧ D i = D' i) : RWt w P oa n A' D' := by
  obtain ⟨V, h1, h2⟩ := h
  exact ⟨V, h1.congr fun i hi => by unfold wrC; rw [(he i hi).1], fun i hi => by rw [← (he i hi).2]; exact h2 i hi⟩
/-- What the document's disk keeps while writes are settled. -/
structure SG (w : World) (P : Nat → Prop) (bd br : Nat) (oa : Option Addr) (n ca : Nat) (ow : Option Addr) (nw cw ar : Nat) (dn : Bool) (S : Nat → Nat → Nat) (wr : World) : Prop where
  b : Below w.heap.size w wr
  d : Blk wr bd (rdV oa n ca ow nw cw ar dn) 47
  z : Blk wr br (rdV none 0 0 none 0 0 0 false) 47
  s : RSf wr P oa n S
  c : n ≤ ca ∧ ca ≤ maxLen ∧ (oa = none → n = 0)
theorem SG.later {w wr w' : World} {P : Nat → Prop} {bd br : Nat} {oa : Option Addr} {n ca : Nat} {ow : Option Addr} {nw cw ar : Nat} {dn : Bool} {S : Nat → Nat → Nat} (h : SG w P bd br oa n ca ow nw cw ar dn S wr) (hb : Below wr.heap.size wr w') : SG w P bd br oa n ca ow nw cw ar dn S w' :=
  ⟨h.b.trans (hb.mono h.b.size), Blk.below h.d hb (Blk.lt h.d), Blk.below h.z hb (Blk.lt h.z), h.s.later hb, h.c⟩
theorem SG.cells {w wr : World} {P : Nat → Prop} {bd br : Nat} {oa : Option Addr} {n ca : Nat} {ow : Option Addr} {nw cw ar : Nat} {dn : Bool} {S : Nat → Nat → Nat} (h : SG w P bd br oa n ca ow nw cw ar dn S wr) :
    wr.cell? ⟨bd, 0, none⟩ = some (.slice oa n ca) ∧ wr.cell? ⟨bd, 1, none⟩ = some (.slice ow nw cw) ∧ wr.cell? ⟨bd, 3, none⟩ = some (.bool dn) ∧ ∀ k, wr.frozen? ⟨bd, k, none⟩ = false :=
  ⟨by rw [Blk.cell h.d]; rfl, by rw [Blk.cell h.d]; rfl, by rw [Blk.cell h.d]; rfl, Blk.free h.d⟩
end Go.Proofs.YtcohllhmfghlfaaDoor
namespace Go.Proofs.YtcohllhmfghlfaaDoor
set_option linter.unusedVariables false
set_option linter.unusedSimpArgs false
open Go.RowKit

def allW (_ : Nat) : Bool := true
theorem SG.put {w wr : World} {P : Nat → Prop} {bd br : Nat} {oa oa' : Option Addr} {n ca ca' : Nat} {ow : Option Addr} {nw cw ar : Nat} {dn : Bool} {S S' : Nat → Nat → Nat} (h : SG w P bd br oa n ca ow nw cw ar dn S wr) (hw : w.heap.size ≤ bd) (hne : bd ≠ br) (hP : ∀ q, P q → q ≠ bd)
    (hs : RSf wr P oa' n S') (hc : n ≤ ca' ∧ ca' ≤ maxLen ∧ (oa' = none → n = 0)) : SG w P bd br oa' n ca' ow nw cw ar dn S' (wr.setCell ⟨bd, 0, none⟩ (.slice oa' n ca')) := by
  have hO : Own bd wr (wr.setCell ⟨bd, 0, none⟩ (.slice oa' n ca')) := (Own.refl _ _).set _ _
  exact ⟨h.b.trans (hO.below hw h.b.size), Blk.set h.d 0 _, hO.blk h.z (Ne.symm hne), hs.own hO hP, hc⟩
/-- The sectors, one more write settled. -/
theorem settle_one {w w' : World} {P : Nat → Prop} {oa' : Option Addr} {n : Nat} {U : Nat → Value} {S : Nat → Nat → Nat} {A : Nat → Nat} {D : Nat → Nat → Nat} {kp : Nat → Bool} {k a : Nat} {v : Value} (hL : LV w' P oa' n 1 (slC (fun j => if j = a then v else U j))) (hU : ∀ i, i < n → RBp w P (stF S A D kp k i) (U i)) (hb : Below w.heap.size w w') (ha : A k = a) (hv : RBp w P (D k) v) (hk : kp k = true) : RSf w' P oa' n (stF S A D kp (k + 1)) := by
  refine ⟨_, hL, fun i hi => ?_⟩
  show RBp w' P ((if kp k = true then updF (stF S A D kp k) (A k) (D k) else stF S A D kp k) i) (if i = a then v else U i)
  rw [if_pos hk, ha]
  unfold updF
  by_cases e : i = a
  · rw [if_pos e, if_pos e]; exact hv.later hb
  · rw [if_neg e, if_neg e]; exact (hU i hi).later hb
set_option maxRecDepth 100000 in
set_option maxHeartbeats 8000000 in
theorem rsync_up (P : Nat → Prop) (oa : Option Addr) (n ca : Nat) (ow : Option Addr) (nw cw ar : Nat) (dn : Bool) (S : Nat → Nat → Nat) (A : Nat → Nat) (D : Nat → Nat → Nat) (w : World) (hP : ∀ q, w.heap.size ≤ q → P q) (hS : RSf w P oa n S) (hW : RWt w P ow nw A D) (hn : n < 100000) (hnw : nw < 100000000)
    (hca : n ≤ ca ∧ ca ≤ maxLen ∧ (oa = none → n = 0)) (hA : ∀ j, j < nw → A j < n) (har : ar < 9223372036854775808) (hu : (dn || decide (ar = 1)) = false) :
    Calls Tryd.prog 22 #[.agg (rdV oa n ca ow nw cw ar dn)] w fun e w' => ∃ oa' ca', e = .returned (.tuple #[.agg (rdV oa' n ca' none 0 0 (ar - 1) false), .int .i64 0]) ∧ RSf w' P oa' n (stF S A D allW nw) ∧ (n ≤ ca' ∧ ca' ≤ maxLen ∧ (oa' = none → n = 0)) ∧ Below w.heap.size w w' := by
  obtain ⟨bd, hbd⟩ : ∃ y, w.heap.size = y := ⟨_, rfl⟩
  obtain ⟨w1, hw1⟩ : ∃ y, w.alloc (.cells (rdV oa n ca ow nw cw ar dn) 47) = y := ⟨_, rfl⟩
  obtain ⟨br, hbr⟩ : ∃ y, bd + 1 = y := ⟨_, rfl⟩
  obtain ⟨w2, hw2⟩ : ∃ y, w1.alloc (.cells (rdV none 0 0 none 0 0 0 false) 47) = y := ⟨_, rfl⟩
  have hb1 : Below w.heap.size w w1 := by rw [← hw1]; exact (Below.refl _ _).alloc (Nat.le_refl _) _
  have hb2 : Below w1.heap.size w1 w2 := by rw [← hw2]; exact (Below.refl _ _).alloc (Nat.le_refl _) _
  have hk1 : Blk w1 bd (rdV oa n ca ow nw cw ar dn) 47 := by rw [← hw1, ← hbd]; exact Blk.new _ _ _
  have hs1 : w1.heap.size = br := by rw [← hw1, ← hbr, ← hbd]; simp
  have hk2 : Blk w2 br (rdV none 0 0 none 0 0 0 false) 47 := by rw [← hw2, ← hs1]; exact Blk.new _ _ _
  have hk3 : Blk w2 bd (rdV oa n ca ow nw cw ar dn) 47 := Blk.below hk1 hb2 (Blk.lt hk1)
  have hb3 : Below w.heap.size w w2 := hb1.trans (hb2.mono hb1.size)
  have HP := Lib.hid hP
  have HPQ : Hid (∀ q, w2.heap.size ≤ q → P q ∧ q ≠ bd ∧ q ≠ br) := Lib.hid fun q hq => by
    have := Blk.lt hk2; have := Blk.lt hk3; have := hb3.size
    exact ⟨hP q (by omega), by omega, by omega⟩
  have hq : ∀ q, q < w.heap.size → P q → P q ∧ q ≠ bd ∧ q ≠ br := fun q h1 h2 => ⟨h2, by omega, by omega⟩
  have HS := Lib.hid ((hS.weak hq).later hb3)
  have HWA := Lib.hid ((hW.weak hq).later hb3)
  have HB := Lib.hid hb3
  have HI := Lib.hid (show n < 100000 ∧ nw < 100000000 ∧ (n ≤ ca ∧ ca ≤ maxLen ∧ (oa = none → n = 0)) ∧ (∀ j, j < nw → A j < n) ∧ ar < 9223372036854775808 ∧ w.heap.size ≤ bd ∧ bd < br from ⟨hn, hnw, hca, hA, har, by omega, by omega⟩)
  have HK2 := Lib.hid hk2
  have HK3 := Lib.hid hk3
  have HU := Lib.hid hu
  have n1 : (nw : Int) ≤ 9223372036854775807 := by omega
  have hz := rd_zero w1
  have c0 : w2.cell? ⟨bd, 0, none⟩ = some (.slice oa n ca) := by rw [Blk.cell hk3]; rfl
  have c1 : w2.cell? ⟨bd, 1, none⟩ = some (.slice ow nw cw) := by rw [Blk.cell hk3]; rfl
  have c2 : w2.cell? ⟨bd, 2, none⟩ = some (.int .i64 (ar : Nat)) := by rw [Blk.cell hk3]; rfl
  have c3 : w2.cell? ⟨bd, 3, none⟩ = some (.bool dn) := by rw [Blk.cell hk3]; rfl
  clear hP hS hW hq hb1 hb2 hk1 hk2 hk3 hb3 hn hnw hca hA har hu
  go_enter Tryd.func22, Tryd.ntmps22
  go_wp2_with fail
  refine (rstep_any oa n ca ow nw cw ar dn w2 HI.out.2.2.2.2.1).mono ?_
  rintro e w3 ⟨rfl, hb⟩
  rw [HU.out]
  have HG0 := Lib.hid (show SG w (fun q => P q ∧ q ≠ bd ∧ q ≠ br) bd br oa n ca ow nw cw ar dn S w3 from ⟨HB.out.trans (hb.mono HB.out.size), Blk.below HK3.out hb (Blk.lt HK3.out), Blk.below HK2.out hb (Blk.lt HK2.out), HS.out.later hb, HI.out.2.2.1⟩)
  have HWB := Lib.hid (HWA.out.later hb)
  have HTH := Lib.hid (Blk.thereAll HG0.out.d 4 (by show 4 ≤ 4; exact Nat.le_refl _))
  have HB3 := Lib.hid hb
  clear hb
  go_wp2_with (first
    | (refine wpList_store_mid rfl 47 (.tmp 1) (.tmp 6) rfl bd 0 (rdV oa n ca ow nw cw (ar - 1) false) rfl rfl HTH.out info_rd (rd_one _ _ _ _ _ _ _ _) ?_
       obtain ⟨w4, hw4⟩ : ∃ y, w3.setCells bd 0 (rdV oa n ca ow nw cw (ar - 1) false).toList = y := ⟨_, rfl⟩
       have hO : Own bd w3 w4 := (by rw [← hw4]; exact Own.setCells _ _ _)
       have HG := Lib.hid (show SG w (fun q => P q ∧ q ≠ bd ∧ q ≠ br) bd br oa n ca ow nw cw (ar - 1) false S w4 from ⟨HG0.out.b.trans (hO.below HI.out.2.2.2.2.2.1 HG0.out.b.size), by rw [← hw4]; exact Blk.whole HG0.out.d rfl, hO.blk HG0.out.z (Nat.ne_of_gt HI.out.2.2.2.2.2.2), HG0.out.s.own hO (fun q h => h.2.1), HG0.out.c⟩)
       have HWC := Lib.hid (HWB.out.own hO (fun q h => h.2.1))
       have hcs := HG.out.cells
       have HOS := Lib.hid hO.size
       rw [hw4]
       clear hw4 hO HG0 HWB HTH
       refine Hid.out ?_))
  refine Lib.hid ?_
  obtain ⟨d0, d1, d3, _⟩ := hcs
  clear c0 c1 c2 c3
  go_wp2_with fail
  clear d0 d1 d3
  go_loopw [4] (fun x wr => ∃ (k : Nat) (oa' : Option Addr) (ca' : Nat), k ≤ nw ∧ x = .int .i64 (k : Int) ∧ SG w (fun q => P q ∧ q ≠ bd ∧ q ≠ br) bd br oa' n ca' ow nw cw (ar - 1) false (stF S A D allW k) wr ∧ RWt wr (fun q => P q ∧ q ≠ bd ∧ q ≠ br) ow nw A D ∧ w2.heap.size ≤ wr.heap.size) (fun x _ => nw - (intOf x).toNat)
  case atStart => exact ⟨0, oa, ca, Nat.zero_le _, rfl, HG.out, HWC.out, Nat.le_trans HB3.out.size HOS.out⟩
  case round =>
    obtain ⟨k, oa', ca', hk, rfl, hG, hWk, hsz⟩ := hrel
    have HGK := Lib.hid hG
    have HWK := Lib.hid hWk
    have HSZ := Lib.hid hsz
    obtain ⟨d0, d1, d3, df⟩ := hG.cells
    clear hG hWk hsz
    by_cases hlt : k < nw
    · as_aux_lemma =>
      have k1 : (k : Int) < (nw : Int) := by omega
      have k0 : (0 : Int) ≤ (k : Int) := by omega
      have k4 : IntKind.i64.wrap ((k : Int) + 1) = ((k + 1 : Nat) : Int) := by have := HI.out.2.1; rw [IntWalk.i64_in _ (by omega)]; omega
      obtain ⟨V, hV1, hV2⟩ := HWK.out
      obtain ⟨U, hU1, hU2⟩ := HGK.out.s
      obtain ⟨b, off, v0, e1, _, e3, e4⟩ := hV1 k 0 hlt (by decide)
      obtain ⟨b', off', v1, e5, _, e7, e8⟩ := hV1 k 1 hlt (by decide)
      rw [e1] at e5
      cases e5
      obtain ⟨od, c, f1, f2, f3, f4, f5⟩ := hV2 k hlt
      have g0 : v0 = .int .i64 (A k : Nat) := by simpa [wrC] using e4.symm
      have g1 : v1 = .slice od 64 c := by rw [← f1]; simpa [wrC] using e8.symm
      obtain ⟨a, ha⟩ : ∃ a, A k = a := ⟨_, rfl⟩
      subst e1 g0 g1
      rw [ha, Nat.add_zero] at e3
      have HA := Lib.hid (show A k = a ∧ k < nw ∧ k + 1 ≤ nw from ⟨ha, hlt, hlt⟩)
      have HX := Lib.hid (show RBp wr (fun q => P q ∧ q ≠ bd ∧ q ≠ br) (D k) (.slice od 64 c) from ⟨od, c, rfl, f2, f3, f4, f5⟩)
      have HU1 := Lib.hid hU1
      have HU2 := Lib.hid hU2
      have HAN := Lib.hid (show a < n by rw [← ha]; exact HI.out.2.2.2.1 k hlt)
      clear hV1 hV2 hU1 hU2 e4 e8 f1 f2 f3 f4 f5 ha hlt hk
      go_upto_region 7 with fail
      have q0 : wr.drew.cell? ⟨bd, 0, none⟩ = some (.slice oa' n ca') := d0
      have q1 : wr.drew.cell? ⟨bd, 1, none⟩ = some (.slice (some ⟨b, off, none⟩) nw cw) := d1
      have q2 : wr.drew.cell? ⟨b, off + k * 2, none⟩ = some (.int .i64 (a : Int)) := e3
      have q3 : wr.drew.cell? ⟨b, off + k * 2 + 1, none⟩ = some (.slice od 64 c) := e7
      have hbd := (Below.refl wr.heap.size wr).drew
      have HGD := Lib.hid (HGK.out.later hbd)
      have HWD := Lib.hid (HWK.out.later hbd)
      have HXD := Lib.hid (HX.out.later hbd)
      have HU1D := Lib.hid (HU1.out.later hbd)
      have HU2D : Hid (∀ i, i < n → RBp wr.drew (fun q => P q ∧ q ≠ bd ∧ q ≠ br) (stF S A D allW k i) (U i)) := Lib.hid fun i hi => (HU2.out i hi).later hbd
      have HSD : Hid (w2.heap.size ≤ wr.drew.heap.size) := HSZ
      clear d0 d1 d3 e3 e7 df hbd HGK HWK HX HU1 HU2 HSZ
      refine still_tail 14 (by kernel_rfl) (by kernel_rfl) ?_
      simp only [List.take_succ_cons, List.take_zero, List.drop_succ_cons, List.drop_zero]
      generalize wr.drew = WR at *
      repeat still_step
      refine wpStill_nil ?_
      go_wp2_with fail
      clear q0 q1 q2 q3
      refine (rwith_any (fun q => P q ∧ q ≠ bd ∧ q ≠ br) oa' n ca' a c od U WR (fun q hq => HPQ.out q (Nat.le_trans HSD.out hq)) HU1D.out (slC_one HU2D.out) HI.out.1 HAN.out).mono ?_
      rintro e w5 ⟨o5, c5, rfl, h51, h52, h53, h54, h55⟩
      have HG5 := Lib.hid (HGD.out.later h55)
      have HS5 := Lib.hid (settle_one (kp := allW) h54 HU2D.out h55 HA.out.1 HXD.out rfl)
      have HW5 := Lib.hid (HWD.out.later h55)
      have HC5 := Lib.hid (show (n ≤ c5 ∧ c5 ≤ maxLen ∧ (o5 = none → n = 0)) ∧ w2.heap.size ≤ w5.heap.size from ⟨⟨h51, h52, h53⟩, Nat.le_trans HSD.out h55.size⟩)
      obtain ⟨s0, _, _, sf⟩ := HG5.out.cells
      have sf0 := sf 0
      clear h51 h52 h53 h54 h55 sf
      go_wp2_with fail
      have hO : Own bd w5 (w5.setCell ⟨bd, 0, none⟩ (.slice o5 n c5)) := (Own.refl _ _).set _ _
      have HG6 := Lib.hid (HG5.out.put HI.out.2.2.2.2.2.1 (Nat.ne_of_lt HI.out.2.2.2.2.2.2) (fun q h => h.2.1) HS5.out HC5.out.1)
      have HW6 := Lib.hid (HW5.out.own hO (fun q h => h.2.1))
      have HS6 := Lib.hid (Nat.le_trans HC5.out.2 hO.size)
      clear hO
      go_roundw
      case rel => exact ⟨k + 1, o5, c5, HA.out.2.2, by first | rfl | go_num, HG6.out, HW6.out, HS6.out⟩
      case measure => have := HA.out; simp [intOf]; omega
    · obtain rfl : k = nw := by omega
      have k1 : ¬ (k : Int) < (k : Int) := by omega
      clear hlt hk
      have hO1 : Own bd wr (wr.setCell ⟨bd, 1, none⟩ (.slice none 0 0)) := (Own.refl _ _).set _ _
      have hz1 := hO1.blk HGK.out.z (Nat.ne_of_gt HI.out.2.2.2.2.2.2)
      have HTK := Lib.hid (Blk.thereAll hz1 4 (by show 4 ≤ 4; exact Nat.le_refl _))
      have HZ1 := Lib.hid hz1
      have HO1 := Lib.hid hO1
      have HLT := Lib.hid (show w.heap.size ≤ bd ∧ w.heap.size ≤ br from ⟨HI.out.2.2.2.2.2.1, Nat.le_trans HI.out.2.2.2.2.2.1 (Nat.le_of_lt HI.out.2.2.2.2.2.2)⟩)
      obtain ⟨e2, e3⟩ : wr.cell? ⟨bd, 2, none⟩ = some (.int .i64 ((ar - 1 : Nat) : Int)) ∧ wr.frozen? ⟨bd, 1, none⟩ = false := ⟨by rw [Blk.cell HGK.out.d]; rfl, df 1⟩
      clear df hO1 hz1
      go_wp2_with (first
        | (refine wpList_store_mid rfl 47 (.tmp 2) (.tmp 34) rfl br 0 (rdV oa' n ca' none 0 0 (ar - 1) false) rfl rfl HTK.out info_rd (rd_one _ _ _ _ _ _ _ _) ?_))
      have h9 := Blk.whole HZ1.out (D := rdV oa' n ca' none 0 0 (ar - 1) false) rfl
      have hO2 : Own br _ ((wr.setCell ⟨bd, 1, none⟩ (.slice none 0 0)).setCells br 0 (rdV oa' n ca' none 0 0 (ar - 1) false).toList) := Own.setCells _ _ _
      refine bodyPost_ret (results_cell_tmp Tryd.results22 _ _ br 47 (rdV oa' n ca' none 0 0 (ar - 1) false) (0, 0) _ rfl h9 Tryd.underlying47 rfl info_rd) rfl ?_
      have hb := HGK.out.b.trans (HO1.out.below HLT.out.1 HGK.out.b.size)
      have hs := ((HGK.out.s.own HO1.out (fun q h => h.2.1)).own hO2 (fun q h => h.2.2)).weak (Q := P) (fun q _ h => h.1)
      have hb2 := hb.trans (hO2.below HLT.out.2 hb.size)
      rw [hbd] at hb2
      exact ⟨oa', ca', rfl, hs, HGK.out.c, hb2⟩
end Go.Proofs.YtcohllhmfghlfaaDoor
