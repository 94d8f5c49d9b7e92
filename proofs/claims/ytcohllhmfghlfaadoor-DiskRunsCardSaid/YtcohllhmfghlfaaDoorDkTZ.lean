/- The document's disk: Put, and steps that find it down. The document's disk: Put. The document's disk: Tamper. The document's disk: Crash. The document's disk: New. The law's state: a disk, and the document's, side by side; each step of both. The law's steps, the document's side; what both read. -/
import Derived.Test.YtcohllhmfghlfaaDoorDkMS
namespace Go.Proofs.YtcohllhmfghlfaaDoor
set_option linter.unusedVariables false
set_option linter.unusedSimpArgs false
open Go.RowKit

set_option maxRecDepth 100000 in
set_option maxHeartbeats 8000000 in
theorem rsync_down (oa : Option Addr) (n ca : Nat) (ow : Option Addr) (nw cw ar : Nat) (dn : Bool) (w : World) (har : ar < 9223372036854775808) (hu : (dn || decide (ar = 1)) = true) :
    Calls Tryd.prog 22 #[.agg (rdV oa n ca ow nw cw ar dn)] w fun e w' => e = .returned (.tuple #[.agg (rdV oa n ca ow nw cw (ar - 1) true), .int .i64 23]) ∧ Below w.heap.size w w' := by
  have HAR := Lib.hid har
  obtain ⟨bd, hbd⟩ : ∃ y, w.heap.size = y := ⟨_, rfl⟩
  obtain ⟨w1, hw1⟩ : ∃ y, w.alloc (.cells (rdV oa n ca ow nw cw ar dn) 47) = y := ⟨_, rfl⟩
  obtain ⟨br, hbr⟩ : ∃ y, bd + 1 = y := ⟨_, rfl⟩
  obtain ⟨w2, hw2⟩ : ∃ y, w1.alloc (.cells (rdV none 0 0 none 0 0 0 false) 47) = y := ⟨_, rfl⟩
  have hb1 : Below w.heap.size w w1 := by rw [← hw1]; exact (Below.refl _ _).alloc (Nat.le_refl _) _
  have hb2 : Below w1.heap.size w1 w2 := by rw [← hw2]; exact (Below.refl _ _).alloc (Nat.le_refl _) _
  have hk1 : Blk w1 bd (rdV oa n ca ow nw cw ar dn) 47 := by rw [← hw1, ← hbd]; exact Blk.new _ _ _
  have hs1 : w1.heap.size = br := by rw [← hw1, ← hbr, ← hbd]; simp
  have hk2 : Blk w2 br (rdV none 0 0 none 0 0 0 false) 47 := by rw [← hw2, ← hs1]; exact Blk.new _ _ _
  have hk3 : Blk w2 bd (rdV oa n ca ow nw cw ar dn) 47 := Blk.below hk1 hb2 (Blk.lt hk1)
  have hb3 : Below w.heap.size w w2 := hb1.trans (hb2.mono hb1.size)
  have HB := Lib.hid hb3
  have HK2 := Lib.hid hk2
  have HK3 := Lib.hid hk3
  have HU := Lib.hid hu
  have HLT := Lib.hid (show w.heap.size ≤ bd ∧ w.heap.size ≤ br ∧ bd < br from ⟨by omega, by omega, by omega⟩)
  have hz := rd_zero w1
  have c0 : w2.cell? ⟨bd, 0, none⟩ = some (.slice oa n ca) := by rw [Blk.cell hk3]; rfl
  have c1 : w2.cell? ⟨bd, 1, none⟩ = some (.slice ow nw cw) := by rw [Blk.cell hk3]; rfl
  have c2 : w2.cell? ⟨bd, 2, none⟩ = some (.int .i64 (ar : Nat)) := by rw [Blk.cell hk3]; rfl
  have c3 : w2.cell? ⟨bd, 3, none⟩ = some (.bool dn) := by rw [Blk.cell hk3]; rfl
  clear hb1 hb2 hk1 hk2 hk3 hb3 har hu
  go_enter Tryd.func22, Tryd.ntmps22
  go_wp2_with fail
  refine (rstep_any oa n ca ow nw cw ar dn w2 HAR.out).mono ?_
  rintro e w3 ⟨rfl, hb⟩
  rw [HU.out]
  have HB3 := Lib.hid (HB.out.trans (hb.mono HB.out.size))
  have HD3 := Lib.hid (Blk.below HK3.out hb (Blk.lt HK3.out))
  have HR3 := Lib.hid (Blk.below HK2.out hb (Blk.lt HK2.out))
  clear hb
  go_wp2_with (first
    | (refine wpList_store_mid rfl 47 (.tmp 1) (.tmp 6) rfl bd 0 (rdV oa n ca ow nw cw (ar - 1) true) rfl rfl (Blk.thereAll HD3.out 4 (by show 4 ≤ 4; exact Nat.le_refl _)) info_rd (rd_one _ _ _ _ _ _ _ _) ?_
       obtain ⟨w4, hw4⟩ : ∃ y, w3.setCells bd 0 (rdV oa n ca ow nw cw (ar - 1) true).toList = y := ⟨_, rfl⟩
       have hO : Own bd w3 w4 := (by rw [← hw4]; exact Own.setCells _ _ _)
       have HD4 := Lib.hid (show Blk w4 bd (rdV oa n ca ow nw cw (ar - 1) true) 47 from (by rw [← hw4]; exact Blk.whole HD3.out rfl))
       have HR4 := Lib.hid (hO.blk HR3.out (Nat.ne_of_gt HLT.out.2.2))
       have HB4 := Lib.hid (HB3.out.trans (hO.below HLT.out.1 HB3.out.size))
       rw [hw4]
       clear hw4 hO HD3 HR3 HB3
       refine Hid.out ?_))
  refine Lib.hid ?_
  clear c0 c1 c2 c3
  obtain ⟨c0, c1, c2, c3⟩ : w4.cell? ⟨bd, 0, none⟩ = some (.slice oa n ca) ∧ w4.cell? ⟨bd, 1, none⟩ = some (.slice ow nw cw) ∧ w4.cell? ⟨bd, 2, none⟩ = some (.int .i64 ((ar - 1 : Nat) : Int)) ∧ w4.cell? ⟨bd, 3, none⟩ = some (.bool true) := ⟨by rw [Blk.cell HD4.out]; rfl, by rw [Blk.cell HD4.out]; rfl, by rw [Blk.cell HD4.out]; rfl, by rw [Blk.cell HD4.out]; rfl⟩
  go_wp2_with (first
    | (refine wpList_store_mid rfl 47 (.tmp 2) (.tmp 9) rfl br 0 (rdV oa n ca ow nw cw (ar - 1) true) rfl rfl (Blk.thereAll HR4.out 4 (by show 4 ≤ 4; exact Nat.le_refl _)) info_rd (rd_one _ _ _ _ _ _ _ _) ?_))
  have h9 := Blk.whole HR4.out (D := rdV oa n ca ow nw cw (ar - 1) true) rfl
  have hO2 : Own br _ (w4.setCells br 0 (rdV oa n ca ow nw cw (ar - 1) true).toList) := Own.setCells _ _ _
  refine bodyPost_ret (results_cell_tmp Tryd.results22 _ _ br 47 (rdV oa n ca ow nw cw (ar - 1) true) (0, 0) _ rfl h9 Tryd.underlying47 rfl info_rd) rfl ?_
  have hb2 := HB4.out.trans (hO2.below HLT.out.2.1 HB4.out.size)
  exact ⟨rfl, by first | exact hb2 | (rw [hbd] at hb2; exact hb2)⟩
set_option maxRecDepth 100000 in
set_option maxHeartbeats 8000000 in
theorem rput_down (oa : Option Addr) (n ca : Nat) (ow : Option Addr) (nw cw ar i : Nat) (dn : Bool) (ob : Option Addr) (cb : Nat) (w : World) (hn : n < 100000) (hi : i < n) (har : ar < 9223372036854775808) (hu : (dn || decide (ar = 1)) = true) :
    Calls Tryd.prog 25 #[.agg (rdV oa n ca ow nw cw ar dn), .int .i64 (i : Int), .slice ob 64 cb] w fun e w' => e = .returned (.tuple #[.agg (rdV oa n ca ow nw cw (ar - 1) true), .int .i64 23]) ∧ Below w.heap.size w w' := by
  have HAR := Lib.hid har
  obtain ⟨bd, hbd⟩ : ∃ y, w.heap.size = y := ⟨_, rfl⟩
  obtain ⟨w1, hw1⟩ : ∃ y, w.alloc (.cells (rdV oa n ca ow nw cw ar dn) 47) = y := ⟨_, rfl⟩
  obtain ⟨br, hbr⟩ : ∃ y, bd + 1 = y := ⟨_, rfl⟩
  obtain ⟨w2, hw2⟩ : ∃ y, w1.alloc (.cells (rdV none 0 0 none 0 0 0 false) 47) = y := ⟨_, rfl⟩
  have hb1 : Below w.heap.size w w1 := by rw [← hw1]; exact (Below.refl _ _).alloc (Nat.le_refl _) _
  have hb2 : Below w1.heap.size w1 w2 := by rw [← hw2]; exact (Below.refl _ _).alloc (Nat.le_refl _) _
  have hk1 : Blk w1 bd (rdV oa n ca ow nw cw ar dn) 47 := by rw [← hw1, ← hbd]; exact Blk.new _ _ _
  have hs1 : w1.heap.size = br := by rw [← hw1, ← hbr, ← hbd]; simp
  have hk2 : Blk w2 br (rdV none 0 0 none 0 0 0 false) 47 := by rw [← hw2, ← hs1]; exact Blk.new _ _ _
  have hk3 : Blk w2 bd (rdV oa n ca ow nw cw ar dn) 47 := Blk.below hk1 hb2 (Blk.lt hk1)
  have hb3 : Below w.heap.size w w2 := hb1.trans (hb2.mono hb1.size)
  have HB := Lib.hid hb3
  have HK2 := Lib.hid hk2
  have HK3 := Lib.hid hk3
  have HU := Lib.hid hu
  have HLT := Lib.hid (show w.heap.size ≤ bd ∧ w.heap.size ≤ br ∧ bd < br from ⟨by omega, by omega, by omega⟩)
  have hz := rd_zero w1
  have c0 : w2.cell? ⟨bd, 0, none⟩ = some (.slice oa n ca) := by rw [Blk.cell hk3]; rfl
  have c1 : w2.cell? ⟨bd, 1, none⟩ = some (.slice ow nw cw) := by rw [Blk.cell hk3]; rfl
  have c2 : w2.cell? ⟨bd, 2, none⟩ = some (.int .i64 (ar : Nat)) := by rw [Blk.cell hk3]; rfl
  have c3 : w2.cell? ⟨bd, 3, none⟩ = some (.bool dn) := by rw [Blk.cell hk3]; rfl
  have i1 : (i : Int) < (n : Int) := by omega
  have i0 : (0 : Int) ≤ (i : Int) := by omega
  have i2 : ¬ (i : Int) < 0 := by omega
  have i3 : ¬ (n : Int) ≤ (i : Int) := by omega
  have i4 : decide ((i : Int) < 0) = false := decide_eq_false i2
  have i5 : decide ((n : Int) ≤ (i : Int)) = false := decide_eq_false i3
  have n0 : (n : Int) ≤ 9223372036854775807 := by omega
  clear hb1 hb2 hk1 hk2 hk3 hb3 har hu hn hi
  go_enter Tryd.func25, Tryd.ntmps25
  go_wp2_with fail
  refine (rstep_any oa n ca ow nw cw ar dn w2 HAR.out).mono ?_
  rintro e w3 ⟨rfl, hb⟩
  rw [HU.out]
  have HB3 := Lib.hid (HB.out.trans (hb.mono HB.out.size))
  have HD3 := Lib.hid (Blk.below HK3.out hb (Blk.lt HK3.out))
  have HR3 := Lib.hid (Blk.below HK2.out hb (Blk.lt HK2.out))
  clear hb
  go_wp2_with (first
    | (refine wpList_store_mid rfl 47 (.tmp 3) (.tmp 24) rfl bd 0 (rdV oa n ca ow nw cw (ar - 1) true) rfl rfl (Blk.thereAll HD3.out 4 (by show 4 ≤ 4; exact Nat.le_refl _)) info_rd (rd_one _ _ _ _ _ _ _ _) ?_
       obtain ⟨w4, hw4⟩ : ∃ y, w3.setCells bd 0 (rdV oa n ca ow nw cw (ar - 1) true).toList = y := ⟨_, rfl⟩
       have hO : Own bd w3 w4 := (by rw [← hw4]; exact Own.setCells _ _ _)
       have HD4 := Lib.hid (show Blk w4 bd (rdV oa n ca ow nw cw (ar - 1) true) 47 from (by rw [← hw4]; exact Blk.whole HD3.out rfl))
       have HR4 := Lib.hid (hO.blk HR3.out (Nat.ne_of_gt HLT.out.2.2))
       have HB4 := Lib.hid (HB3.out.trans (hO.below HLT.out.1 HB3.out.size))
       rw [hw4]
       clear hw4 hO HD3 HR3 HB3
       refine Hid.out ?_))
  refine Lib.hid ?_
  clear c0 c1 c2 c3
  obtain ⟨c0, c1, c2, c3⟩ : w4.cell? ⟨bd, 0, none⟩ = some (.slice oa n ca) ∧ w4.cell? ⟨bd, 1, none⟩ = some (.slice ow nw cw) ∧ w4.cell? ⟨bd, 2, none⟩ = some (.int .i64 ((ar - 1 : Nat) : Int)) ∧ w4.cell? ⟨bd, 3, none⟩ = some (.bool true) := ⟨by rw [Blk.cell HD4.out]; rfl, by rw [Blk.cell HD4.out]; rfl, by rw [Blk.cell HD4.out]; rfl, by rw [Blk.cell HD4.out]; rfl⟩
  go_wp2_with (first
    | (refine wpList_store_mid rfl 47 (.tmp 6) (.tmp 27) rfl br 0 (rdV oa n ca ow nw cw (ar - 1) true) rfl rfl (Blk.thereAll HR4.out 4 (by show 4 ≤ 4; exact Nat.le_refl _)) info_rd (rd_one _ _ _ _ _ _ _ _) ?_))
  have h9 := Blk.whole HR4.out (D := rdV oa n ca ow nw cw (ar - 1) true) rfl
  have hO2 : Own br _ (w4.setCells br 0 (rdV oa n ca ow nw cw (ar - 1) true).toList) := Own.setCells _ _ _
  refine bodyPost_ret (results_cell_tmp Tryd.results25 _ _ br 47 (rdV oa n ca ow nw cw (ar - 1) true) (0, 0) _ rfl h9 Tryd.underlying47 rfl info_rd) rfl ?_
  have hb2 := HB4.out.trans (hO2.below HLT.out.2.1 HB4.out.size)
  exact ⟨rfl, by first | exact hb2 | (rw [hbd] at hb2; exact hb2)⟩
end Go.Proofs.YtcohllhmfghlfaaDoor
namespace Go.Proofs.YtcohllhmfghlfaaDoor
set_option linter.unusedVariables false
set_option linter.unusedSimpArgs false
open Go.RowKit

/-- One more write waits. -/
theorem wait_one {w w' : World} {P : Nat → Prop} {g nw i : Nat} {A : Nat → Nat} {D : Nat → Nat → Nat} {V : Nat → Value} {F : Nat → Nat} {v : Value} (hL : LV w' P (some ⟨g, 0, none⟩) (nw + 1) 2 (addC (wrC A V) nw [.int .i64 (i : Nat), v])) (hV : ∀ j, j < nw → RBp w P (D j) (V j)) (hv : RBp w P F v) (hb : Below w.heap.size w w') :
    RWt w' P (some ⟨g, 0, none⟩) (nw + 1) (fun j => if j = nw then i else A j) (fun j => if j = nw then F else D j) := by
  refine ⟨fun j => if j = nw then v else V j, hL.congr fun j hj => ?_, fun j hj => ?_⟩
  · unfold addC wrC
    by_cases e : j = nw
    · simp [e]
    · simp [e]
  · by_cases e : j = nw
    · simp only [if_pos e]; exact hv.later hb
    · simp only [if_neg e]; exact (hV j (by omega)).later hb
set_option maxRecDepth 100000 in
set_option maxHeartbeats 8000000 in
theorem rput_up (P : Nat → Prop) (oa : Option Addr) (n ca : Nat) (ow : Option Addr) (nw cw ar i : Nat) (dn : Bool) (S : Nat → Nat → Nat) (A : Nat → Nat) (D : Nat → Nat → Nat) (F : Nat → Nat) (ob : Option Addr) (cb : Nat) (w : World) (hP : ∀ q, w.heap.size ≤ q → P q) (hS : RSf w P oa n S) (hW : RWt w P ow nw A D) (hF : RBp w P F (.slice ob 64 cb)) (hn : n < 100000) (hnw : nw < 100000000)
    (hcw : nw ≤ cw ∧ cw ≤ maxLen ∧ (ow = none → nw = 0)) (hi : i < n) (har : ar < 9223372036854775808) (hu : (dn || decide (ar = 1)) = false) :
    Calls Tryd.prog 25 #[.agg (rdV oa n ca ow nw cw ar dn), .int .i64 (i : Int), .slice ob 64 cb] w fun e w' => ∃ ow' cw', e = .returned (.tuple #[.agg (rdV oa n ca ow' (nw + 1) cw' (ar - 1) false), .int .i64 0]) ∧ RSf w' P oa n S ∧ RWt w' P ow' (nw + 1) (fun j => if j = nw then i else A j) (fun j => if j = nw then F else D j) ∧ (nw + 1 ≤ cw' ∧ cw' ≤ maxLen ∧ (ow' = none → nw + 1 = 0)) ∧ Below w.heap.size w w' := by
  obtain ⟨bd, hbd⟩ : ∃ y, w.heap.size = y := ⟨_, rfl⟩
  obtain ⟨w1, hw1⟩ : ∃ y, w.alloc (.cells (rdV oa n ca ow nw cw ar dn) 47) = y := ⟨_, rfl⟩
  obtain ⟨br, hbr⟩ : ∃ y, bd + 1 = y := ⟨_, rfl⟩
  obtain ⟨w2, hw2⟩ : ∃ y, w1.alloc (.cells (rdV none 0 0 none 0 0 0 false) 47) = y := ⟨_, rfl⟩
  have hb1 : Below w.heap.size w w1 := by rw [← hw1]; exact (Below.refl _ _).alloc (Nat.le_refl _) _
  have hb2 : Below w1.heap.size w1 w2 := by rw [← hw2]; exact (Below.refl _ _).alloc (Nat.le_refl _) _
  have hk1 : Blk w1 bd (rdV oa n ca ow nw cw ar dn) 47 := by rw [← hw1, ← hbd]; exact Blk.new _ _ _
  have hs1 : w1.heap.size = br := by rw [← hw1, ← hbr, ← hbd]; simp
  have hk2 : Blk w2 br (rdV none 0 0 none 0 0 0 false) 47 := by rw [← hw2, ← hs1]; exact Blk.new _ _ _
  have hk3 : Blk w2 bd (rdV oa n ca ow nw cw ar dn) 47 := Blk.below hk1 hb2 (Blk.lt hk1)
  have hb3 : Below w.heap.size w w2 := hb1.trans (hb2.mono hb1.size)
  have HB := Lib.hid hb3
  have HK2 := Lib.hid hk2
  have HK3 := Lib.hid hk3
  have HU := Lib.hid hu
  have HLT := Lib.hid (show w.heap.size ≤ bd ∧ w.heap.size ≤ br ∧ bd < br from ⟨by omega, by omega, by omega⟩)
  have hz := rd_zero w1
  have c0 : w2.cell? ⟨bd, 0, none⟩ = some (.slice oa n ca) := by rw [Blk.cell hk3]; rfl
  have c1 : w2.cell? ⟨bd, 1, none⟩ = some (.slice ow nw cw) := by rw [Blk.cell hk3]; rfl
  have c2 : w2.cell? ⟨bd, 2, none⟩ = some (.int .i64 (ar : Nat)) := by rw [Blk.cell hk3]; rfl
  have c3 : w2.cell? ⟨bd, 3, none⟩ = some (.bool dn) := by rw [Blk.cell hk3]; rfl
  have HPQ : Hid (∀ q, w2.heap.size ≤ q → P q ∧ q ≠ bd ∧ q ≠ br) := Lib.hid fun q hq => by
    have := Blk.lt hk2; have := Blk.lt hk3; have := hb3.size
    exact ⟨hP q (by omega), by omega, by omega⟩
  have hq : ∀ q, q < w.heap.size → P q → P q ∧ q ≠ bd ∧ q ≠ br := fun q h1 h2 => ⟨h2, by omega, by omega⟩
  have HS := Lib.hid ((hS.weak hq).later hb3)
  have HWA := Lib.hid ((hW.weak hq).later hb3)
  have HFF := Lib.hid ((hF.weak hq).later hb3)
  have HI := Lib.hid (show n < 100000 ∧ nw < 100000000 ∧ (nw ≤ cw ∧ cw ≤ maxLen ∧ (ow = none → nw = 0)) ∧ ar < 9223372036854775808 from ⟨hn, hnw, hcw, har⟩)
  have i1 : (i : Int) < (n : Int) := by omega
  have i0 : (0 : Int) ≤ (i : Int) := by omega
  have i2 : ¬ (i : Int) < 0 := by omega
  have i3 : ¬ (n : Int) ≤ (i : Int) := by omega
  have i4 : decide ((i : Int) < 0) = false := decide_eq_false i2
  have i5 : decide ((n : Int) ≤ (i : Int)) = false := decide_eq_false i3
  have n0 : (n : Int) ≤ 9223372036854775807 := by omega
  clear hb1 hb2 hk1 hk2 hk3 hb3 har hu hn hi hP hS hW hF hq
  go_enter Tryd.func25, Tryd.ntmps25
  go_wp2_with fail
  refine (rstep_any oa n ca ow nw cw ar dn w2 HI.out.2.2.2).mono ?_
  rintro e w3 ⟨rfl, hb⟩
  rw [HU.out]
  have HB3 := Lib.hid (HB.out.trans (hb.mono HB.out.size))
  have HD3 := Lib.hid (Blk.below HK3.out hb (Blk.lt HK3.out))
  have HR3 := Lib.hid (Blk.below HK2.out hb (Blk.lt HK2.out))
  have HS3 := Lib.hid (HS.out.later hb)
  have HW3 := Lib.hid (HWA.out.later hb)
  have HF3 := Lib.hid (HFF.out.later hb)
  have HZ3 := Lib.hid hb.size
  clear hb
  go_wp2_with (first
    | (refine wpList_store_mid rfl 47 (.tmp 3) (.tmp 24) rfl bd 0 (rdV oa n ca ow nw cw (ar - 1) false) rfl rfl (Blk.thereAll HD3.out 4 (by show 4 ≤ 4; exact Nat.le_refl _)) info_rd (rd_one _ _ _ _ _ _ _ _) ?_
       obtain ⟨w4, hw4⟩ : ∃ y, w3.setCells bd 0 (rdV oa n ca ow nw cw (ar - 1) false).toList = y := ⟨_, rfl⟩
       have hO : Own bd w3 w4 := (by rw [← hw4]; exact Own.setCells _ _ _)
       have HD4 := Lib.hid (show Blk w4 bd (rdV oa n ca ow nw cw (ar - 1) false) 47 from (by rw [← hw4]; exact Blk.whole HD3.out rfl))
       have HR4 := Lib.hid (hO.blk HR3.out (Nat.ne_of_gt HLT.out.2.2))
       have HB4 := Lib.hid (HB3.out.trans (hO.below HLT.out.1 HB3.out.size))
       have HS4 := Lib.hid (HS3.out.own hO (fun q h => h.2.1))
       have HW4 := Lib.hid (HW3.out.own hO (fun q h => h.2.1))
       have HF4 := Lib.hid (HF3.out.own hO (fun q h => h.2.1))
       have HZ4 := Lib.hid (Nat.le_trans HZ3.out hO.size)
       rw [hw4]
       clear hw4 hO HD3 HR3 HB3 HS3 HW3 HF3 HZ3
       refine Hid.out ?_))
  refine Lib.hid ?_
  clear c0 c1 c2 c3
  obtain ⟨c0, c1, c2, c3⟩ : w4.cell? ⟨bd, 0, none⟩ = some (.slice oa n ca) ∧ w4.cell? ⟨bd, 1, none⟩ = some (.slice ow nw cw) ∧ w4.cell? ⟨bd, 2, none⟩ = some (.int .i64 ((ar - 1 : Nat) : Int)) ∧ w4.cell? ⟨bd, 3, none⟩ = some (.bool false) := ⟨by rw [Blk.cell HD4.out]; rfl, by rw [Blk.cell HD4.out]; rfl, by rw [Blk.cell HD4.out]; rfl, by rw [Blk.cell HD4.out]; rfl⟩
  have n1 : (nw : Int) ≤ 9223372036854775807 := by have := HI.out; omega
  have n2 : (nw : Int) ≤ (cw : Int) := by omega
  have n3 : nw ≤ cw := hcw.1
  clear hcw
  obtain ⟨V, hV1, hV2⟩ := HW4.out
  have HV1 := Lib.hid hV1
  have HV2 := Lib.hid hV2
  clear hV1 hV2
  go_wp2_with (first | (at_builtin; refine full_ww rfl (.tmp 36) (.tmp 40) rfl nw (wrC A V) [.int .i64 (i : Int), .slice ob 64 cb] (fun q => P q ∧ q ≠ bd ∧ q ≠ br) ow w4 rfl rfl HV1.out (fun _ _ => rfl) rfl HI.out.2.2.1.2.2 (by have := HI.out; omega) (fun q hq => HPQ.out q (Nat.le_trans HZ4.out hq)) ?_
                        intro g5 c5 w5 h51 h52 h53 h54
                        have HW5 := Lib.hid (wait_one (i := i) h53 HV2.out HF4.out h54)
                        have HD5 := Lib.hid (Blk.below HD4.out h54 (Blk.lt HD4.out))
                        have HR5 := Lib.hid (Blk.below HR4.out h54 (Blk.lt HR4.out))
                        have HB5 := Lib.hid (HB4.out.trans (h54.mono HB4.out.size))
                        have HS5 := Lib.hid (HS4.out.later h54)
                        have HC5 := Lib.hid (show nw + 1 ≤ c5 ∧ c5 ≤ maxLen from ⟨h51, h52⟩)
                        have k1 : w5.cell? ⟨bd, 1, none⟩ = some (.slice ow nw cw) := (by rw [Blk.cell HD5.out]; rfl)
                        have k2 := Blk.free HD5.out 1
                        clear h51 h52 h53 h54
                        refine Hid.out ?_))
  refine Lib.hid ?_
  clear c0 c1 c2 c3
  have hO : Own bd w5 (w5.setCell ⟨bd, 1, none⟩ (.slice (some ⟨g5, 0, none⟩) (nw + 1) c5)) := (Own.refl _ _).set _ _
  obtain ⟨w6, hw6⟩ : ∃ y, w5.setCell ⟨bd, 1, none⟩ (.slice (some ⟨g5, 0, none⟩) (nw + 1) c5) = y := ⟨_, rfl⟩
  have HD6 := Lib.hid (show Blk w6 bd (rdV oa n ca (some ⟨g5, 0, none⟩) (nw + 1) c5 (ar - 1) false) 47 from (by rw [← hw6]; exact Blk.set HD5.out 1 _))
  rw [hw6] at hO
  have HW6 := Lib.hid (HW5.out.own hO (fun q h => h.2.1))
  have HS6 := Lib.hid (HS5.out.own hO (fun q h => h.2.1))
  have HR6 := Lib.hid (hO.blk HR5.out (Nat.ne_of_gt HLT.out.2.2))
  have HB6 := Lib.hid (HB5.out.trans (hO.below HLT.out.1 HB5.out.size))
  obtain ⟨c0, c1, c2, c3⟩ : w6.cell? ⟨bd, 0, none⟩ = some (.slice oa n ca) ∧ w6.cell? ⟨bd, 1, none⟩ = some (.slice (some ⟨g5, 0, none⟩) (nw + 1) c5) ∧ w6.cell? ⟨bd, 2, none⟩ = some (.int .i64 ((ar - 1 : Nat) : Int)) ∧ w6.cell? ⟨bd, 3, none⟩ = some (.bool false) := ⟨by rw [Blk.cell HD6.out]; rfl, by rw [Blk.cell HD6.out]; rfl, by rw [Blk.cell HD6.out]; rfl, by rw [Blk.cell HD6.out]; rfl⟩
  clear hO
  go_wp2_with (first
    | (refine wpList_store_mid rfl 47 (.tmp 6) (.tmp 43) rfl br 0 (rdV oa n ca (some ⟨g5, 0, none⟩) (nw + 1) c5 (ar - 1) false) rfl rfl (Blk.thereAll HR6.out 4 (by show 4 ≤ 4; exact Nat.le_refl _)) info_rd (rd_one _ _ _ _ _ _ _ _) ?_))
  have h9 := Blk.whole HR6.out (D := rdV oa n ca (some ⟨g5, 0, none⟩) (nw + 1) c5 (ar - 1) false) rfl
  have hO2 : Own br _ (w6.setCells br 0 (rdV oa n ca (some ⟨g5, 0, none⟩) (nw + 1) c5 (ar - 1) false).toList) := Own.setCells _ _ _
  refine bodyPost_ret (results_cell_tmp Tryd.results25 _ _ br 47 (rdV oa n ca (some ⟨g5, 0, none⟩) (nw + 1) c5 (ar - 1) false) (0, 0) _ rfl h9 Tryd.underlying47 rfl info_rd) rfl ?_
  have hb2 := HB6.out.trans (hO2.below HLT.out.2.1 HB6.out.size)
  have hs := (HS6.out.own hO2 (fun q h => h.2.2)).weak (Q := P) (fun q _ h => h.1)
  have hw := (HW6.out.own hO2 (fun q h => h.2.2)).weak (Q := P) (fun q _ h => h.1)
  exact ⟨_, c5, rfl, hs, hw, ⟨HC5.out.1, HC5.out.2, fun e => by cases e⟩, by first | exact hb2 | (rw [hbd] at hb2; exact hb2)⟩
end Go.Proofs.YtcohllhmfghlfaaDoor
namespace Go.Proofs.YtcohllhmfghlfaaDoor
set_option linter.unusedVariables false
set_option linter.unusedSimpArgs false
open Go.RowKit

theorem LV.lit {w : World} {P : Nat → Prop} {l : List Value} {t : TypeId} (hP : P w.heap.size) : LV (w.alloc (.cells l.toArray t)) P (some ⟨w.heap.size, 0, none⟩) 1 l.length (fun _ => l) := fun i j hi hj => by
  obtain rfl : i = 0 := by omega
  refine ⟨w.heap.size, 0, l[j], rfl, hP, ?_, by rw [List.getElem?_eq_getElem]⟩
  rw [show 0 + 0 * l.length + j = j by omega, cell_new rfl, List.getElem?_toArray, List.getElem?_eq_getElem]
/-- A write that is kept, behind those that were. -/
theorem keep_one {w : World} {B i k m : Nat} {l' : Value} {A : Nat → Nat} {V : Nat → Value} {c : List Value} (hm : (flI A i k).1 = m) (hn : A k ≠ i) (hc : wrC A V k = c) (h : w.ownsRow B 83 2 l' (m + 1) (rws (m + 1) (catC m (fun t => wrC A V ((flI A i k).2 t)) (fun _ => c)))) :
    w.ownsRow B 83 2 l' (flI A i (k + 1)).1 (rws (flI A i (k + 1)).1 (fun t => wrC A V ((flI A i (k + 1)).2 t))) := by
  rw [flI_miss hn]
  show w.ownsRow B 83 2 l' ((flI A i k).1 + 1) (rws ((flI A i k).1 + 1) (fun t => wrC A V (if t = (flI A i k).1 then k else (flI A i k).2 t)))
  rw [hm]
  rw [← rws_congr (C := catC m (fun t => wrC A V ((flI A i k).2 t)) (fun _ => c)) (fun t ht => ?_)]
  · exact h
  · unfold catC
    by_cases e : t = m
    · rw [if_neg (by omega), if_pos e, hc]
    · rw [if_pos (by omega), if_neg e]
set_option maxRecDepth 100000 in
set_option maxHeartbeats 8000000 in
theorem rtam_ok (P : Nat → Prop) (oa : Option Addr) (n ca : Nat) (ow : Option Addr) (nw cw ar i : Nat) (dn : Bool) (S : Nat → Nat → Nat) (A : Nat → Nat) (D : Nat → Nat → Nat) (F : Nat → Nat) (ob : Option Addr) (cb : Nat) (w : World) (hP : ∀ q, w.heap.size ≤ q → P q) (hS : RSf w P oa n S) (hW : RWt w P ow nw A D) (hF : RBp w P F (.slice ob 64 cb)) (hn : n < 100000) (hnw : nw < 100000000)
    (hi : i < n) (har : ar < 9223372036854775808) :
    Calls Tryd.prog 24 #[.agg (rdV oa n ca ow nw cw ar dn), .int .i64 (i : Int), .slice ob 64 cb] w fun e w' => ∃ oa' ca' ow' cw', e = .returned (.tuple #[.agg (rdV oa' n ca' ow' (flI A i nw).1 cw' ar dn), .int .i64 0]) ∧ RSf w' P oa' n (updF S i F) ∧ RWt w' P ow' (flI A i nw).1 (fun t => A ((flI A i nw).2 t)) (fun t => D ((flI A i nw).2 t)) ∧ (n ≤ ca' ∧ ca' ≤ maxLen ∧ (oa' = none → n = 0)) ∧ ((flI A i nw).1 ≤ cw' ∧ cw' ≤ maxLen ∧ (ow' = none → (flI A i nw).1 = 0)) ∧ Below w.heap.size w w' := by
  have hu : True := trivial
  obtain ⟨bd, hbd⟩ : ∃ y, w.heap.size = y := ⟨_, rfl⟩
  obtain ⟨w1, hw1⟩ : ∃ y, w.alloc (.cells (rdV oa n ca ow nw cw ar dn) 47) = y := ⟨_, rfl⟩
  obtain ⟨br, hbr⟩ : ∃ y, bd + 1 = y := ⟨_, rfl⟩
  obtain ⟨w2, hw2⟩ : ∃ y, w1.alloc (.cells (rdV none 0 0 none 0 0 0 false) 47) = y := ⟨_, rfl⟩
  have hb1 : Below w.heap.size w w1 := by rw [← hw1]; exact (Below.refl _ _).alloc (Nat.le_refl _) _
  have hb2 : Below w1.heap.size w1 w2 := by rw [← hw2]; exact (Below.refl _ _).alloc (Nat.le_refl _) _
  have hk1 : Blk w1 bd (rdV oa n ca ow nw cw ar dn) 47 := by rw [← hw1, ← hbd]; exact Blk.new _ _ _
  have hs1 : w1.heap.size = br := by rw [← hw1, ← hbr, ← hbd]; simp
  have hk2 : Blk w2 br (rdV none 0 0 none 0 0 0 false) 47 := by rw [← hw2, ← hs1]; exact Blk.new _ _ _
  have hk3 : Blk w2 bd (rdV oa n ca ow nw cw ar dn) 47 := Blk.below hk1 hb2 (Blk.lt hk1)
  have hb3 : Below w.heap.size w w2 := hb1.trans (hb2.mono hb1.size)
  have HB := Lib.hid hb3
  have HK2 := Lib.hid hk2
  have HK3 := Lib.hid hk3
  have HU := Lib.hid hu
  have HLT := Lib.hid (show w.heap.size ≤ bd ∧ w.heap.size ≤ br ∧ bd < br from ⟨by omega, by omega, by omega⟩)
  have hz := rd_zero w1
  have c0 : w2.cell? ⟨bd, 0, none⟩ = some (.slice oa n ca) := by rw [Blk.cell hk3]; rfl
  have c1 : w2.cell? ⟨bd, 1, none⟩ = some (.slice ow nw cw) := by rw [Blk.cell hk3]; rfl
  have c2 : w2.cell? ⟨bd, 2, none⟩ = some (.int .i64 (ar : Nat)) := by rw [Blk.cell hk3]; rfl
  have c3 : w2.cell? ⟨bd, 3, none⟩ = some (.bool dn) := by rw [Blk.cell hk3]; rfl
  have HPQ : Hid (∀ q, w2.heap.size ≤ q → P q ∧ q ≠ bd ∧ q ≠ br) := Lib.hid fun q hq => by
    have := Blk.lt hk2; have := Blk.lt hk3; have := hb3.size
    exact ⟨hP q (by omega), by omega, by omega⟩
  have hq : ∀ q, q < w.heap.size → P q → P q ∧ q ≠ bd ∧ q ≠ br := fun q h1 h2 => ⟨h2, by omega, by omega⟩
  have HS := Lib.hid ((hS.weak hq).later hb3)
  have HWA := Lib.hid ((hW.weak hq).later hb3)
  have HFF := Lib.hid ((hF.weak hq).later hb3)
  have HI := Lib.hid (show n < 100000 ∧ nw < 100000000 ∧ i < n ∧ ar < 9223372036854775808 from ⟨hn, hnw, hi, har⟩)
  have i1 : (i : Int) < (n : Int) := by omega
  have i0 : (0 : Int) ≤ (i : Int) := by omega
  have i2 : ¬ (i : Int) < 0 := by omega
  have i3 : ¬ (n : Int) ≤ (i : Int) := by omega
  have i4 : decide ((i : Int) < 0) = false := decide_eq_false i2
  have i5 : decide ((n : Int) ≤ (i : Int)) = false := decide_eq_false i3
  have n0 : (n : Int) ≤ 9223372036854775807 := by omega
  have n1 : (nw : Int) ≤ 9223372036854775807 := by omega
  obtain ⟨V, hV1, hV2⟩ := HWA.out
  have HV1 := Lib.hid hV1
  have HV2 := Lib.hid hV2
  clear hb1 hb2 hk1 hk2 hk3 hb3 har hu hn hi hP hS hW hF hq hnw hV1 hV2
  go_enter Tryd.func24, Tryd.ntmps24
  go_wp2_with fail
  clear c0 c1 c2 c3
  go_loopw [8, 9] (fun l x wr => ∃ k : Nat, k ≤ nw ∧ x = .int .i64 (k : Int) ∧ wr.ownsRow w2.heap.size 83 2 l (flI A i k).1 (rws (flI A i k).1 (fun t => wrC A V ((flI A i k).2 t))) ∧ Below w2.heap.size w2 wr) (fun l x _ => nw - (intOf x).toNat)
  case atStart => exact ⟨0, Nat.zero_le _, rfl, World.ownsRow_nil _ _ _ _, Below.refl _ _⟩
  case round =>
    obtain ⟨k, hk, rfl, hl, hb⟩ := hrel
    have HL := Lib.hid hl
    have HBK := Lib.hid hb
    have hdk := Blk.below HK3.out hb (Blk.lt HK3.out)
    have HDK := Lib.hid hdk
    obtain ⟨c0, c1, c2, c3⟩ : wr.cell? ⟨bd, 0, none⟩ = some (.slice oa n ca) ∧ wr.cell? ⟨bd, 1, none⟩ = some (.slice ow nw cw) ∧ wr.cell? ⟨bd, 2, none⟩ = some (.int .i64 (ar : Int)) ∧ wr.cell? ⟨bd, 3, none⟩ = some (.bool dn) := ⟨by rw [Blk.cell hdk]; rfl, by rw [Blk.cell hdk]; rfl, by rw [Blk.cell hdk]; rfl, by rw [Blk.cell hdk]; rfl⟩
    clear hl
    by_cases hlt : k < nw
    · as_aux_lemma =>
      have k1 : (k : Int) < (nw : Int) := by omega
      have k0 : (0 : Int) ≤ (k : Int) := by omega
      have k4 : IntKind.i64.wrap ((k : Int) + 1) = ((k + 1 : Nat) : Int) := by have := HI.out.2.1; rw [IntWalk.i64_in _ (by omega)]; omega
      obtain ⟨b, off, v0, e1, _, e3, e4⟩ := HV1.out k 0 hlt (by decide)
      obtain ⟨b', off', v1, e5, _, e7, e8⟩ := HV1.out k 1 hlt (by decide)
      rw [e1] at e5
      cases e5
      obtain ⟨od, c, f1, f2, f3, f4, f5⟩ := HV2.out k hlt
      have g0 : v0 = .int .i64 (A k : Nat) := by simpa [wrC] using e4.symm
      have g1 : v1 = .slice od 64 c := by rw [← f1]; simpa [wrC] using e8.symm
      have hwc : wrC A V k = [.int .i64 (A k : Nat), .slice od 64 c] := by unfold wrC; rw [f1]
      obtain ⟨a, ha⟩ : ∃ a, A k = a := ⟨_, rfl⟩
      subst e1 g0 g1
      rw [ha, Nat.add_zero] at e3
      rw [ha] at hwc
      have a3 := cell_below hb e3
      have a7 := cell_below hb e7
      obtain ⟨m, hm⟩ : ∃ m, (flI A i k).1 = m := ⟨_, rfl⟩
      have hmk := flI_le (A := A) (i := i) k
      have HA := Lib.hid (show A k = a ∧ k < nw ∧ k + 1 ≤ nw ∧ wrC A V k = [.int .i64 (a : Int), .slice od 64 c] ∧ (flI A i k).1 = m ∧ m < 100000000 from ⟨ha, hlt, hlt, hwc, hm, by have := HI.out; omega⟩)
      rw [hm] at HL
      clear e4 e8 e3 e7 f1 f2 f3 f4 f5 ha hlt hk hb hwc hm hmk hdk
      by_cases he : a = i
      · have e1 : ((a : Int) == (i : Int)) = true := by rw [he]; exact beq_self_eq_true _
        have e2 : ((a : Int) != (i : Int)) = false := by rw [bne, e1]; rfl
        have e3 : (a == i) = true := by rw [he]; exact beq_self_eq_true _
        have e4 : (a != i) = false := by rw [bne, e3]; rfl
        have e5 : decide ((a : Int) = (i : Int)) = true := decide_eq_true (by rw [he])
        have HE := Lib.hid (show flI A i (k + 1) = flI A i k from flI_hit (HA.out.1.trans he))
        clear he
        go_wp2_with fail
        go_roundw
        case rel => exact ⟨k + 1, HA.out.2.2.1, by first | rfl | go_num, by rw [HE.out, HA.out.2.2.2.2.1]; exact HL.out, HBK.out⟩
        case measure => have := HA.out; simp [intOf]; omega
      · have e1 : ((a : Int) == (i : Int)) = false := beq_false_of_ne (by omega)
        have e2 : ((a : Int) != (i : Int)) = true := by rw [bne, e1]; rfl
        have e3 : (a == i) = false := beq_false_of_ne he
        have e4 : (a != i) = true := by rw [bne, e3]; rfl
        have e5 : decide ((a : Int) = (i : Int)) = false := decide_eq_false (by omega)
        have HE := Lib.hid (show A k ≠ i from fun h => he (HA.out.1.symm.trans h))
        clear he
        go_wp2_with (first
          | (at_builtin; refine app_ww rfl (.tmp 40) (.tmp 46) rfl w2.heap.size _ m 1 1 (fun t => wrC A V ((flI A i k).2 t)) (fun _ => [.int .i64 (a : Int), .slice od 64 c]) (fun _ => True) (some ⟨wr.heap.size, 0, none⟩) _ rfl (World.ownsRow.alloc HL.out _) rfl (LV.lit (l := [.int .i64 (a : Int), .slice od 64 c]) trivial) (fun _ _ => ⟨rfl, fun v hv => by simp at hv; rcases hv with rfl | rfl <;> rfl⟩) (fun e => by cases e) (by have := HA.out; omega) (by have := HBK.out.size; simp; omega) ?_
             intro v5 w5 h5 hb5
             have H5 := Lib.hid (keep_one HA.out.2.2.2.2.1 HE.out HA.out.2.2.2.1 h5)
             have HB5 := Lib.hid (HBK.out.trans (((Below.refl wr.heap.size wr).alloc (Nat.le_refl _) (.cells #[.int .i64 (a : Int), .slice od 64 c] 83)).mono HBK.out.size |>.trans hb5))
             clear h5 hb5
             refine Hid.out ?_))
        refine Lib.hid ?_
        go_wp2_with fail
        go_roundw
        case rel => exact ⟨k + 1, HA.out.2.2.1, by first | rfl | go_num, H5.out, HB5.out⟩
        case measure => have := HA.out; simp [intOf]; omega
    · obtain rfl : k = nw := by omega
      have k1 : ¬ (k : Int) < (k : Int) := by omega
      obtain ⟨m, hm⟩ : ∃ m, (flI A i k).1 = m := ⟨_, rfl⟩
      have hmk := flI_le (A := A) (i := i) k
      rw [hm] at HL hmk
      obtain ⟨ow', cw', rfl, hm1, hm2, hm3, hm4⟩ := owns_lv (P := fun q => P q ∧ q ≠ bd ∧ q ≠ br) HL.out (fun _ _ => rfl) HPQ.out
      have HM := Lib.hid (show (flI A i k).1 = m ∧ m ≤ cw' ∧ cw' ≤ maxLen ∧ (ow' = none → m = 0) ∧ m ≤ k from ⟨hm, hm1, hm2, hm3, hmk⟩)
      have hO1 : Own bd wr (wr.setCell ⟨bd, 1, none⟩ (.slice ow' m cw')) := (Own.refl _ _).set _ _
      obtain ⟨w3, hw3⟩ : ∃ y, wr.setCell ⟨bd, 1, none⟩ (.slice ow' m cw') = y := ⟨_, rfl⟩
      have HD3 := Lib.hid (show Blk w3 bd (rdV oa n ca ow' m cw' ar dn) 47 from (by rw [← hw3]; exact Blk.set hdk 1 _))
      rw [hw3] at hO1
      have hb03 : Below w.heap.size w w3 := (HB.out.trans (hb.mono HB.out.size)).trans (hO1.below HLT.out.1 (Nat.le_trans HB.out.size hb.size))
      have HB3 := Lib.hid hb03
      have HR3 := Lib.hid (hO1.blk (Blk.below HK2.out hb (Blk.lt HK2.out)) (Nat.ne_of_gt HLT.out.2.2))
      obtain ⟨U, hU1, hU2⟩ := (HS.out.later hb).own hO1 (fun q h => h.2.1)
      have HU1 := Lib.hid hU1
      have HU2 := Lib.hid hU2
      have HW3 := Lib.hid (show LV w3 (fun q => P q ∧ q ≠ bd ∧ q ≠ br) ow' m 2 (fun t => wrC A V ((flI A i k).2 t)) ∧ ∀ j, j < k → RBp w3 (fun q => P q ∧ q ≠ bd ∧ q ≠ br) (D j) (V j) from ⟨hm4.own hO1 (fun q h => h.2.1), fun j hj => ((HV2.out j hj).later hb).own hO1 (fun q h => h.2.1)⟩)
      have HF3 := Lib.hid ((HFF.out.later hb).own hO1 (fun q h => h.2.1))
      have HZ3 := Lib.hid (show w2.heap.size ≤ w3.heap.size from Nat.le_trans hb.size hO1.size)
      have q1 := Blk.free hdk 1
      have d0 : w3.cell? ⟨bd, 0, none⟩ = some (.slice oa n ca) := by rw [Blk.cell HD3.out]; rfl
      clear hlt hk hb hO1 hb03 hU1 hU2 hm hm1 hm2 hm3 hm4 hmk hdk c0 c2 c3
      go_wp2_with fail
      refine (rwith_any (fun q => P q ∧ q ≠ bd ∧ q ≠ br) oa n ca i cb ob U w3 (fun q hq => HPQ.out q (Nat.le_trans HZ3.out hq)) HU1.out (slC_one HU2.out) HI.out.1 HI.out.2.2.1).mono ?_
      rintro e w5 ⟨o5, c5, rfl, h51, h52, h53, h54, h55⟩
      have hO2 : Own bd w5 (w5.setCell ⟨bd, 0, none⟩ (.slice o5 n c5)) := (Own.refl _ _).set _ _
      have HD5 := Lib.hid (Blk.below HD3.out h55 (Blk.lt HD3.out))
      obtain ⟨w6, hw6⟩ : ∃ y, w5.setCell ⟨bd, 0, none⟩ (.slice o5 n c5) = y := ⟨_, rfl⟩
      have HD6 := Lib.hid (show Blk w6 bd (rdV o5 n c5 ow' m cw' ar dn) 47 from (by rw [← hw6]; exact Blk.set HD5.out 0 _))
      rw [hw6] at hO2
      have hb35 := h55.mono (Nat.le_refl _)
      have hb06 : Below w.heap.size w w6 := (HB3.out.trans (h55.mono HB3.out.size)).trans (hO2.below HLT.out.1 (Nat.le_trans HB3.out.size h55.size))
      have HB6 := Lib.hid hb06
      have HR6 := Lib.hid (hO2.blk (Blk.below HR3.out h55 (Blk.lt HR3.out)) (Nat.ne_of_gt HLT.out.2.2))
      have HS6 : Hid (RSf w6 (fun q => P q ∧ q ≠ bd ∧ q ≠ br) o5 n (updF S i F)) := Lib.hid (by
        refine ⟨_, h54.own hO2 (fun q h => h.2.1), fun j hj => ?_⟩
        by_cases e : j = i
        · unfold updF
          simp only [if_pos e]
          exact (HF3.out.later h55).own hO2 (fun q h => h.2.1)
        · unfold updF
          simp only [if_neg e]
          exact ((HU2.out j hj).later h55).own hO2 (fun q h => h.2.1))
      have HW6 := Lib.hid (show LV w6 (fun q => P q ∧ q ≠ bd ∧ q ≠ br) ow' m 2 (fun t => wrC A V ((flI A i k).2 t)) ∧ ∀ j, j < k → RBp w6 (fun q => P q ∧ q ≠ bd ∧ q ≠ br) (D j) (V j) from ⟨(HW3.out.1.later h55).own hO2 (fun q h => h.2.1), fun j hj => ((HW3.out.2 j hj).later h55).own hO2 (fun q h => h.2.1)⟩)
      have q2 := Blk.free HD5.out 0
      have q3 : w5.cell? ⟨bd, 0, none⟩ = some (.slice oa n ca) := by rw [Blk.cell HD5.out]; rfl
      obtain ⟨c0, c1, c2, c3⟩ : w6.cell? ⟨bd, 0, none⟩ = some (.slice o5 n c5) ∧ w6.cell? ⟨bd, 1, none⟩ = some (.slice ow' m cw') ∧ w6.cell? ⟨bd, 2, none⟩ = some (.int .i64 (ar : Int)) ∧ w6.cell? ⟨bd, 3, none⟩ = some (.bool dn) := ⟨by rw [Blk.cell HD6.out]; rfl, by rw [Blk.cell HD6.out]; rfl, by rw [Blk.cell HD6.out]; rfl, by rw [Blk.cell HD6.out]; rfl⟩
      have HC5 := Lib.hid (show n ≤ c5 ∧ c5 ≤ maxLen ∧ (o5 = none → n = 0) from ⟨h51, h52, h53⟩)
      clear h51 h52 h53 h54 h55 hO2 hb35 hb06 d0 q1
      go_wp2_with (first
        | (refine wpList_store_mid rfl 47 (.tmp 6) (.tmp 56) rfl br 0 (rdV o5 n c5 ow' m cw' ar dn) rfl rfl (Blk.thereAll HR6.out 4 (by show 4 ≤ 4; exact Nat.le_refl _)) info_rd (rd_one _ _ _ _ _ _ _ _) ?_))
      have h9 := Blk.whole HR6.out (D := rdV o5 n c5 ow' m cw' ar dn) rfl
      have hO3 : Own br _ (w6.setCells br 0 (rdV o5 n c5 ow' m cw' ar dn).toList) := Own.setCells _ _ _
      refine bodyPost_ret (results_cell_tmp Tryd.results24 _ _ br 47 (rdV o5 n c5 ow' m cw' ar dn) (0, 0) _ rfl h9 Tryd.underlying47 rfl info_rd) rfl ?_
      have hb2 := HB6.out.trans (hO3.below HLT.out.2.1 HB6.out.size)
      have hs := (HS6.out.own hO3 (fun q h => h.2.2)).weak (Q := P) (fun q _ h => h.1)
      have hw : RWt (w6.setCells br 0 (rdV o5 n c5 ow' m cw' ar dn).toList) P ow' (flI A i k).1 (fun t => A ((flI A i k).2 t)) (fun t => D ((flI A i k).2 t)) := by
        rw [HM.out.1]
        refine ⟨fun t => V ((flI A i k).2 t), (HW6.out.1.own hO3 (fun q h => h.2.2)).weak (fun q _ h => h.1), fun j hj => ?_⟩
        exact ((HW6.out.2 _ (flI_lt k j (Nat.le_refl _) (Nat.lt_of_lt_of_le hj HM.out.2.2.2.2))).own hO3 (fun q h => h.2.2)).weak (fun q _ h => h.1)
      exact ⟨o5, c5, ow', cw', by rw [HM.out.1]; rfl, hs, hw, HC5.out, by rw [HM.out.1]; exact ⟨HM.out.2.1, HM.out.2.2.1, HM.out.2.2.2.1⟩, by first | exact hb2 | (rw [hbd] at hb2; exact hb2)⟩
end Go.Proofs.YtcohllhmfghlfaaDoor
namespace Go.Proofs.YtcohllhmfghlfaaDoor
set_option linter.unusedVariables false
set_option linter.unusedSimpArgs false
open Go.RowKit

theorem stF_stay {S : Nat → Nat → Nat} {A : Nat → Nat} {D : Nat → Nat → Nat} {kp : Nat → Bool} {k : Nat} : ∀ m, k ≤ m → (∀ j, k ≤ j → j < m → kp j = false) → stF S A D kp m = stF S A D kp k
  | 0, h, _ => by obtain rfl : k = 0 := by omega
                  rfl
  | m + 1, h, hk => by
    by_cases e : k = m + 1
    · rw [e]
    · show (if kp m = true then updF (stF S A D kp m) (A m) (D m) else stF S A D kp m) = _
      rw [hk m (by omega) (Nat.lt_succ_self _), if_neg (by decide)]
      exact stF_stay m (by omega) (fun j h1 h2 => hk j h1 (by omega))
set_option maxRecDepth 100000 in
set_option maxHeartbeats 8000000 in
theorem rcrash_any (P : Nat → Prop) (oa : Option Addr) (n ca : Nat) (ow : Option Addr) (nw cw ar nk ck : Nat) (dn : Bool) (S : Nat → Nat → Nat) (A : Nat → Nat) (D : Nat → Nat → Nat) (ok : Option Addr) (f : Nat → Bool) (w : World) (hP : ∀ q, w.heap.size ≤ q → P q) (hS : RSf w P oa n S) (hW : RWt w P ow nw A D) (hB : Bools w ok nk f) (hnk : nk ≤ maxLen) (hn : n < 100000) (hnw : nw < 100000000)
    (hca : n ≤ ca ∧ ca ≤ maxLen ∧ (oa = none → n = 0)) (hA : ∀ j, j < nw → A j < n) :
    Calls Tryd.prog 23 #[.agg (rdV oa n ca ow nw cw ar dn), .slice ok nk ck] w fun e w' => ∃ oa' ca', e = .returned (.agg (rdV oa' n ca' none 0 0 0 false)) ∧ RSf w' P oa' n (stF S A D (keepP nk f) nw) ∧ (n ≤ ca' ∧ ca' ≤ maxLen ∧ (oa' = none → n = 0)) ∧ Below w.heap.size w w' := by
  have hu : True := trivial
  obtain ⟨bd, hbd⟩ : ∃ y, w.heap.size = y := ⟨_, rfl⟩
  obtain ⟨w1, hw1⟩ : ∃ y, w.alloc (.cells (rdV oa n ca ow nw cw ar dn) 47) = y := ⟨_, rfl⟩
  obtain ⟨br, hbr⟩ : ∃ y, bd + 1 = y := ⟨_, rfl⟩
  obtain ⟨w2, hw2⟩ : ∃ y, w1.alloc (.cells (rdV none 0 0 none 0 0 0 false) 47) = y := ⟨_, rfl⟩
  have hb1 : Below w.heap.size w w1 := by rw [← hw1]; exact (Below.refl _ _).alloc (Nat.le_refl _) _
  have hb2 : Below w1.heap.size w1 w2 := by rw [← hw2]; exact (Below.refl _ _).alloc (Nat.le_refl _) _
  have hk1 : Blk w1 bd (rdV oa n ca ow nw cw ar dn) 47 := by rw [← hw1, ← hbd]; exact Blk.new _ _ _
  have hs1 : w1.heap.size = br := by rw [← hw1, ← hbr, ← hbd]; simp
  have hk2 : Blk w2 br (rdV none 0 0 none 0 0 0 false) 47 := by rw [← hw2, ← hs1]; exact Blk.new _ _ _
  have hk3 : Blk w2 bd (rdV oa n ca ow nw cw ar dn) 47 := Blk.below hk1 hb2 (Blk.lt hk1)
  have hb3 : Below w.heap.size w w2 := hb1.trans (hb2.mono hb1.size)
  have HB := Lib.hid hb3
  have HK2 := Lib.hid hk2
  have HK3 := Lib.hid hk3
  have HU := Lib.hid hu
  have HLT := Lib.hid (show w.heap.size ≤ bd ∧ w.heap.size ≤ br ∧ bd < br from ⟨by omega, by omega, by omega⟩)
  have hz := rd_zero w1
  have c0 : w2.cell? ⟨bd, 0, none⟩ = some (.slice oa n ca) := by rw [Blk.cell hk3]; rfl
  have c1 : w2.cell? ⟨bd, 1, none⟩ = some (.slice ow nw cw) := by rw [Blk.cell hk3]; rfl
  have c2 : w2.cell? ⟨bd, 2, none⟩ = some (.int .i64 (ar : Nat)) := by rw [Blk.cell hk3]; rfl
  have c3 : w2.cell? ⟨bd, 3, none⟩ = some (.bool dn) := by rw [Blk.cell hk3]; rfl
  obtain ⟨bo, hbo⟩ : ∃ y, br + 1 = y := ⟨_, rfl⟩
  obtain ⟨w3, hw3⟩ : ∃ y, w2.alloc (.cells (rdV oa n ca none 0 0 0 false) 47) = y := ⟨_, rfl⟩
  have hs2 : w2.heap.size = bo := by rw [← hw2, ← hbo, ← hs1]; simp
  have hk4 : Blk w3 bo (rdV oa n ca none 0 0 0 false) 47 := by rw [← hw3, ← hs2]; exact Blk.new _ _ _
  have hb4 : Below w2.heap.size w2 w3 := by rw [← hw3]; exact (Below.refl _ _).alloc (Nat.le_refl _) _
  have hb5 : Below w.heap.size w w3 := hb3.trans (hb4.mono hb3.size)
  have HPQ : Hid (∀ q, w3.heap.size ≤ q → P q ∧ q ≠ bo ∧ q ≠ br) := Lib.hid fun q hq => by
    have := Blk.lt hk4; have := hb5.size
    exact ⟨hP q (by omega), by omega, by omega⟩
  have hq : ∀ q, q < w.heap.size → P q → P q ∧ q ≠ bo ∧ q ≠ br := fun q h1 h2 => ⟨h2, by omega, by omega⟩
  have HWA := Lib.hid ((hW.weak hq).later hb5)
  have HG := Lib.hid (show SG w (fun q => P q ∧ q ≠ bo ∧ q ≠ br) bo br oa n ca none 0 0 0 false S w3 from ⟨hb5, hk4, Blk.below hk2 hb4 (Blk.lt hk2), (hS.weak hq).later hb5, hca⟩)
  have HD := Lib.hid (Blk.below hk3 hb4 (Blk.lt hk3))
  have HKB := Lib.hid hB
  have HI := Lib.hid (show n < 100000 ∧ nw < 100000000 ∧ (∀ j, j < nw → A j < n) ∧ nk ≤ maxLen ∧ w.heap.size ≤ bo ∧ br < bo ∧ bd < bo from ⟨hn, hnw, hA, hnk, by omega, by omega, by omega⟩)
  have n1 : (nw : Int) ≤ 9223372036854775807 := by omega
  have n2 : (nk : Int) ≤ 9223372036854775807 := by unfold maxLen at hnk; omega
  clear hb1 hb2 hk1 hk2 hk3 hb3 hu hn hP hS hW hq hnw hk4 hb4 hb5 hca hA hB hnk
  go_enter Tryd.func23, Tryd.ntmps23
  go_wp2_with fail
  rw [show w2.alloc (.cells #[.slice oa n ca, .slice none 0 0, .int .i64 0, .bool false] 47) = w3 from hw3]
  clear c0 c1 c2 c3
  go_loopw [6] (fun x wr => ∃ (k : Nat) (oa' : Option Addr) (ca' : Nat), k ≤ nw ∧ x = .int .i64 (k : Int) ∧ SG w (fun q => P q ∧ q ≠ bo ∧ q ≠ br) bo br oa' n ca' none 0 0 0 false (stF S A D (keepP nk f) k) wr ∧ RWt wr (fun q => P q ∧ q ≠ bo ∧ q ≠ br) ow nw A D ∧ Blk wr bd (rdV oa n ca ow nw cw ar dn) 47 ∧ w3.heap.size ≤ wr.heap.size) (fun x _ => nw - (intOf x).toNat)
  case atStart => exact ⟨0, oa, ca, Nat.zero_le _, rfl, HG.out, HWA.out, HD.out, Nat.le_refl _⟩
  case round =>
    obtain ⟨k, oa', ca', hk, rfl, hG, hWk, hD, hsz⟩ := hrel
    have hB := HKB.out.later hG.b
    have HGK := Lib.hid hG
    have HWK := Lib.hid hWk
    have HDK := Lib.hid hD
    have HSZ := Lib.hid hsz
    have d1 : wr.cell? ⟨bd, 1, none⟩ = some (.slice ow nw cw) := by rw [Blk.cell hD]; rfl
    obtain ⟨e0, _, _, df⟩ := hG.cells
    have k0 : (0 : Int) ≤ (k : Int) := by omega
    by_cases hlt : k < nw
    · have k1 : (k : Int) < (nw : Int) := by omega
      have k2 : decide ((k : Int) < (nw : Int)) = true := decide_eq_true k1
      by_cases hlk : k < nk
      · as_aux_lemma =>
        have k3 : (k : Int) < (nk : Int) := by omega
        have k4 : IntKind.i64.wrap ((k : Int) + 1) = ((k + 1 : Nat) : Int) := by have := HI.out.2.1; rw [IntWalk.i64_in _ (by omega)]; omega
        obtain ⟨b0, o0, rfl, cb⟩ := hB k hlk
        obtain ⟨y, hy⟩ : ∃ y, f k = y := ⟨_, rfl⟩
        rw [hy] at cb
        have HKF := Lib.hid (show keepP nk f k = y ∧ k < nw ∧ k + 1 ≤ nw from ⟨by unfold keepP; simp [hlk, hy], hlt, hlt⟩)
        cases y with
        | false =>
          have HE : Hid (stF S A D (keepP nk f) (k + 1) = stF S A D (keepP nk f) k) := Lib.hid (by
            show (if keepP nk f k = true then _ else _) = _
            rw [HKF.out.1, if_neg (by decide)])
          clear hG hWk hD hB hsz hlt hlk hk hy df
          go_wp2_with fail
          go_roundw
          case rel => exact ⟨k + 1, oa', ca', HKF.out.2.2, by first | rfl | go_num, by rw [HE.out]; exact HGK.out, HWK.out, HDK.out, HSZ.out⟩
          case measure => have := HKF.out; simp [intOf]; omega
        | true =>
          obtain ⟨V, hV1, hV2⟩ := HWK.out
          obtain ⟨U, hU1, hU2⟩ := HGK.out.s
          obtain ⟨b, off, v0, e1, _, e3, e4⟩ := hV1 k 0 hlt (by decide)
          obtain ⟨b', off', v1, e5, _, e7, e8⟩ := hV1 k 1 hlt (by decide)
          rw [e1] at e5
          cases e5
          obtain ⟨od, c, f1, f2, f3, f4, f5⟩ := hV2 k hlt
          have g0 : v0 = .int .i64 (A k : Nat) := by simpa [wrC] using e4.symm
          have g1 : v1 = .slice od 64 c := by rw [← f1]; simpa [wrC] using e8.symm
          obtain ⟨a, ha⟩ : ∃ a, A k = a := ⟨_, rfl⟩
          subst e1 g0 g1
          rw [ha, Nat.add_zero] at e3
          have HA := Lib.hid (show A k = a ∧ k < nw ∧ k + 1 ≤ nw from ⟨ha, hlt, hlt⟩)
          have HX := Lib.hid (show RBp wr (fun q => P q ∧ q ≠ bo ∧ q ≠ br) (D k) (.slice od 64 c) from ⟨od, c, rfl, f2, f3, f4, f5⟩)
          have HU1 := Lib.hid hU1
          have HU2 := Lib.hid hU2
          have HAN := Lib.hid (show a < n by rw [← ha]; exact HI.out.2.2.1 k hlt)
          clear hV1 hV2 hU1 hU2 e4 e8 f1 f2 f3 f4 f5 ha hlt hk hG hWk hD hB hsz hlk hy df
          go_upto_region 6 with fail
          have q0 : wr.drew.cell? ⟨bo, 0, none⟩ = some (.slice oa' n ca') := e0
          have q1 : wr.drew.cell? ⟨bd, 1, none⟩ = some (.slice (some ⟨b, off, none⟩) nw cw) := d1
          have q2 : wr.drew.cell? ⟨b, off + k * 2, none⟩ = some (.int .i64 (a : Int)) := e3
          have q3 : wr.drew.cell? ⟨b, off + k * 2 + 1, none⟩ = some (.slice od 64 c) := e7
          have hbd := (Below.refl wr.heap.size wr).drew
          have HGD := Lib.hid (HGK.out.later hbd)
          have HWD := Lib.hid (HWK.out.later hbd)
          have HXD := Lib.hid (HX.out.later hbd)
          have HDD := Lib.hid (Blk.below HDK.out hbd (Blk.lt HDK.out))
          have HU1D := Lib.hid (HU1.out.later hbd)
          have HU2D : Hid (∀ i, i < n → RBp wr.drew (fun q => P q ∧ q ≠ bo ∧ q ≠ br) (stF S A D (keepP nk f) k i) (U i)) := Lib.hid fun i hi => (HU2.out i hi).later hbd
          have HSD : Hid (w3.heap.size ≤ wr.drew.heap.size) := HSZ
          clear d1 e0 e3 e7 hbd HGK HWK HX HU1 HU2 HSZ HDK cb
          refine still_tail 14 (by kernel_rfl) (by kernel_rfl) ?_
          simp only [List.take_succ_cons, List.take_zero, List.drop_succ_cons, List.drop_zero]
          generalize wr.drew = WR at *
          repeat still_step
          refine wpStill_nil ?_
          go_wp2_with fail
          clear q0 q1 q2 q3
          refine (rwith_any (fun q => P q ∧ q ≠ bo ∧ q ≠ br) oa' n ca' a c od U WR (fun q hq => HPQ.out q (Nat.le_trans HSD.out hq)) HU1D.out (slC_one HU2D.out) HI.out.1 HAN.out).mono ?_
          rintro e w5 ⟨o5, c5, rfl, h51, h52, h53, h54, h55⟩
          have HG5 := Lib.hid (HGD.out.later h55)
          have HS5 := Lib.hid (settle_one (kp := keepP nk f) h54 HU2D.out h55 HA.out.1 HXD.out HKF.out.1)
          have HW5 := Lib.hid (HWD.out.later h55)
          have HD5 := Lib.hid (Blk.below HDD.out h55 (Blk.lt HDD.out))
          have HC5 := Lib.hid (show (n ≤ c5 ∧ c5 ≤ maxLen ∧ (o5 = none → n = 0)) ∧ w3.heap.size ≤ w5.heap.size from ⟨⟨h51, h52, h53⟩, Nat.le_trans HSD.out h55.size⟩)
          obtain ⟨s0, _, _, sf⟩ := HG5.out.cells
          have sf0 := sf 0
          clear h51 h52 h53 h54 h55 sf
          go_wp2_with fail
          have hO : Own bo w5 (w5.setCell ⟨bo, 0, none⟩ (.slice o5 n c5)) := (Own.refl _ _).set _ _
          have HG6 := Lib.hid (HG5.out.put HI.out.2.2.2.2.1 (Nat.ne_of_gt HI.out.2.2.2.2.2.1) (fun q h => h.2.1) HS5.out HC5.out.1)
          have HW6 := Lib.hid (HW5.out.own hO (fun q h => h.2.1))
          have HD6 := Lib.hid (hO.blk HD5.out (Nat.ne_of_lt HI.out.2.2.2.2.2.2))
          have HS6 := Lib.hid (Nat.le_trans HC5.out.2 hO.size)
          clear hO
          go_roundw
          case rel => exact ⟨k + 1, o5, c5, HA.out.2.2, by first | rfl | go_num, HG6.out, HW6.out, HD6.out, HS6.out⟩
          case measure => have := HA.out; simp [intOf]; omega
      · as_aux_lemma =>
        have k3 : ¬ (k : Int) < (nk : Int) := by omega
        have k5 : decide ((k : Int) < (nk : Int)) = false := decide_eq_false k3
        have HST : Hid (stF S A D (keepP nk f) nw = stF S A D (keepP nk f) k) := Lib.hid (stF_stay nw (Nat.le_of_lt hlt) (fun j h1 h2 => by unfold keepP; rw [decide_eq_false (by omega), Bool.false_and]))
        obtain ⟨p0, p1, p2, p3⟩ : wr.cell? ⟨bo, 0, none⟩ = some (.slice oa' n ca') ∧ wr.cell? ⟨bo, 1, none⟩ = some (.slice none 0 0) ∧ wr.cell? ⟨bo, 2, none⟩ = some (.int .i64 0) ∧ wr.cell? ⟨bo, 3, none⟩ = some (.bool false) := ⟨by rw [Blk.cell HGK.out.d]; rfl, by rw [Blk.cell HGK.out.d]; rfl, by rw [Blk.cell HGK.out.d]; rfl, by rw [Blk.cell HGK.out.d]; rfl⟩
        clear hG hWk hD hB hsz hlt hlk hk df e0
        have HBRW := Lib.hid (show w.heap.size ≤ br by have := HLT.out; omega)
        go_wp2_with (first
          | (refine wpList_store_mid rfl 47 (.tmp 4) (.tmp 43) rfl br 0 (rdV oa' n ca' none 0 0 0 false) rfl rfl (Blk.thereAll HGK.out.z 4 (by show 4 ≤ 4; exact Nat.le_refl _)) info_rd (rd_one _ _ _ _ _ _ _ _) ?_))
        have h9 := Blk.whole HGK.out.z (D := rdV oa' n ca' none 0 0 0 false) rfl
        have hO2 : Own br _ (wr.setCells br 0 (rdV oa' n ca' none 0 0 0 false).toList) := Own.setCells _ _ _
        refine bodyPost_ret (results_cell_row Tryd.results23 _ _ br 47 (rdV oa' n ca' none 0 0 0 false) (0, 0) _ rfl h9 Tryd.underlying47 rfl info_rd) rfl ?_
        have hb2 := HGK.out.b.trans (hO2.below HBRW.out HGK.out.b.size)
        have hs := (HGK.out.s.own hO2 (fun q h => h.2.2)).weak (Q := P) (fun q _ h => h.1)
        exact ⟨oa', ca', rfl, by first | exact hs | (rw [HST.out]; exact hs), HGK.out.c, by first | exact hb2 | (rw [hbd] at hb2; exact hb2)⟩
    · as_aux_lemma =>
      obtain rfl : k = nw := by omega
      have k1 : ¬ (k : Int) < (k : Int) := by omega
      have HST : Hid (stF S A D (keepP nk f) k = stF S A D (keepP nk f) k) := Lib.hid rfl
      obtain ⟨p0, p1, p2, p3⟩ : wr.cell? ⟨bo, 0, none⟩ = some (.slice oa' n ca') ∧ wr.cell? ⟨bo, 1, none⟩ = some (.slice none 0 0) ∧ wr.cell? ⟨bo, 2, none⟩ = some (.int .i64 0) ∧ wr.cell? ⟨bo, 3, none⟩ = some (.bool false) := ⟨by rw [Blk.cell HGK.out.d]; rfl, by rw [Blk.cell HGK.out.d]; rfl, by rw [Blk.cell HGK.out.d]; rfl, by rw [Blk.cell HGK.out.d]; rfl⟩
      clear hG hWk hD hB hsz hlt hk df e0
      have HBRW := Lib.hid (show w.heap.size ≤ br by have := HLT.out; omega)
      go_wp2_with (first
        | (refine wpList_store_mid rfl 47 (.tmp 4) (.tmp 43) rfl br 0 (rdV oa' n ca' none 0 0 0 false) rfl rfl (Blk.thereAll HGK.out.z 4 (by show 4 ≤ 4; exact Nat.le_refl _)) info_rd (rd_one _ _ _ _ _ _ _ _) ?_))
      have h9 := Blk.whole HGK.out.z (D := rdV oa' n ca' none 0 0 0 false) rfl
      have hO2 : Own br _ (wr.setCells br 0 (rdV oa' n ca' none 0 0 0 false).toList) := Own.setCells _ _ _
      refine bodyPost_ret (results_cell_row Tryd.results23 _ _ br 47 (rdV oa' n ca' none 0 0 0 false) (0, 0) _ rfl h9 Tryd.underlying47 rfl info_rd) rfl ?_
      have hb2 := HGK.out.b.trans (hO2.below HBRW.out HGK.out.b.size)
      have hs := (HGK.out.s.own hO2 (fun q h => h.2.2)).weak (Q := P) (fun q _ h => h.1)
      exact ⟨oa', ca', rfl, by first | exact hs | (rw [HST.out]; exact hs), HGK.out.c, by first | exact hb2 | (rw [hbd] at hb2; exact hb2)⟩
end Go.Proofs.YtcohllhmfghlfaaDoor
namespace Go.Proofs.YtcohllhmfghlfaaDoor
set_option linter.unusedVariables false
set_option linter.unusedSimpArgs false
open Go.RowKit

theorem bs1v_run (od : Option Addr) (l cp : Nat) (w : World) : (Instr.buildSlice 44 1 #[(0, .slice od l cp)]).run Tryd.prog w = .ok (.slice (some ⟨w.heap.size, 0, none⟩) 1 1) (w.alloc (.cells #[.slice od l cp] 22)) := by kernel_rfl
theorem step_bs1 {ops : Array Oper} {o : Oper} {a : Act} {w : World} {K : Act → World → Prop} {Q : Exit → Act → World → Prop} {E : Prop} (hgd : o.guard = none) (x : Operand) (ho : o.op = .buildSlice 44 1 #[(0, x)]) (od : Option Addr) (l cp : Nat) (hx : a.eval x = .slice od l cp)
    (h : K (a.put o.dst (.slice (some ⟨w.heap.size, 0, none⟩) 1 1)) (w.alloc (.cells #[.slice od l cp] 22))) : if Region.wanted o (yielded ops a.tmps) = true then Oper.wp Tryd.prog o a w K Q else E := by
  have hw : Region.wanted o (yielded ops a.tmps) = true := by simp [Region.wanted, hgd]
  rw [if_pos hw]
  have e : (#[(((0 : Nat), x) : Nat × Operand)].map fun (i, x) => (i, a.eval x)) = #[(0, .slice od l cp)] := by simp [hx]
  unfold Oper.wp execOp
  simp only [ho, e, bs1v_run, Sem.run_bind, Result.andThen_ok]
  exact h
theorem step_vv {ops : Array Oper} {o : Oper} {a : Act} {W : World} {K : Act → World → Prop} {Q : Exit → Act → World → Prop} {E : Prop} (hgd : o.guard = none) (s x : Operand) (ho : o.op = .call { callee := .builtin .append, args := #[s, x], argTypes := #[44, 44] })
    (base : Nat) (v : Value) (n q cq : Nat) (C D : Nat → List Value) (P : Nat → Prop) (oa : Option Addr) (W0 : World) (hs : a.eval s = v) (h : W.ownsRow base 22 1 v n (rws n C)) (hx : a.eval x = .slice oa q cq)
    (hA : LV W P oa q 1 D) (hD : ∀ i, i < q → (D i).length = 1 ∧ ∀ v ∈ D i, v.oneCell' = true) (hno : oa = none → q = 0) (hn : n + q < 100000000000) (hbase : base ≤ W.heap.size)
    (hk : ∀ v' w', w'.ownsRow base 22 1 v' (n + q) (rws (n + q) (catC n C D)) → W.grownBy w' v.ownBlock → (v'.ownBlock = v.ownBlock ∨ v'.ownBlock = some W.heap.size) → K (a.put o.dst v') w') :
    if Region.wanted o (yielded ops a.tmps) = true then Oper.wp Tryd.prog o a W K Q else E := by
  have hw : Region.wanted o (yielded ops a.tmps) = true := by simp [Region.wanted, hgd]
  rw [if_pos hw]
  obtain ⟨i0, hi, hz0, hz1, hz2⟩ := info_parts info_vv
  cases oa with
  | none =>
    obtain rfl := hno rfl
    have hr := appNil_vv (c := cq) o.type h
    unfold Oper.wp execOp
    simp only [ho, resolve, invoke, builtin, Sem.run_bind, Sem.run_pure, Result.andThen_ok, List.map_toArray, List.map_cons, List.map_nil, hs, hx, hr]
    refine hk _ _ ?_ ⟨rfl, rfl, rfl, Nat.le_refl _, fun _ _ _ => rfl⟩ (.inl rfl)
    rw [rws_cat, rws_zero, List.append_nil]; exact h
  | some ad =>
    have fin : ∀ (ys : List Value), ys.length = q * 1 → (∀ j u, ys[j]? = some u → W.cell? (ad.add j) = some u) → (∀ u ∈ ys, u.oneCell' = true) → rws q D = ys → Oper.wp Tryd.prog o a W K Q := fun ys h1 h2 h3 h4 => by
      obtain ⟨v', w', hr, g2, g3, g4, g5⟩ := run_append_own_at (P := Tryd.prog) W base 44 o.type 22 i0 (.slice none 0 0) 1 24 Tryd.underlying44 hi hz0 hz1 hz2 rfl (by decide) v n (rws n C) h ad q cq ys h1 h2 h3 (by unfold maxLen; omega) (by omega) hbase
      unfold Oper.wp execOp
      simp only [ho, resolve, invoke, builtin, Sem.run_bind, Sem.run_pure, Result.andThen_ok, List.map_toArray, List.map_cons, List.map_nil, hs, hx, hr]
      exact hk v' w' (by rw [rws_cat, h4]; exact g2) g3 g5
    by_cases h0 : q = 0
    · subst h0
      exact fin [] rfl (fun j u hu => by simp at hu) (fun u hu => by cases hu) rfl
    · obtain ⟨b, off, _, e1, _⟩ := hA 0 0 (by omega) (by decide)
      cases e1
      exact fin (rws q D) (rws_len fun i hi => (hD i hi).1) (hA.news (fun i hi => (hD i hi).1) (by decide)) (rws_ones fun i hi => (hD i hi).2) rfl
/-- A list of n rows of noughts of the call's own, in the struct's cell. -/
structure NG (w : World) (P : Nat → Prop) (bd br : Nat) (v : Value) (n : Nat) (V : Nat → Value) (wr : World) : Prop where
  b : Below w.heap.size w wr
  d : Blk wr bd #[v, .slice none 0 0, .int .i64 0, .bool false] 47
  z : Blk wr br (rdV none 0 0 none 0 0 0 false) 47
  o : wr.ownsRow (bd + 1) 22 1 v n (rws n (slC V))
  r : ∀ i, i < n → RBp wr (fun q => P q ∧ v.ownBlock ≠ some q ∧ q ≠ bd ∧ q ≠ br) (fun _ => 0) (V i)
theorem ng_step {w WR X2 X3 : World} {P : Nat → Prop} {bd br n g : Nat} {v v' : Value} {V : Nat → Value} (hw : w.heap.size ≤ br ∧ br < bd ∧ bd < WR.heap.size) (h : NG w P bd br v n V WR) (hP : ∀ q, w.heap.size ≤ q → P q) (hb : Below WR.heap.size WR X2) (hr : Row X2 g 64 (fun _ => 0)) (hg : WR.heap.size ≤ g)
    (ho : X3.ownsRow (bd + 1) 22 1 v' (n + 1) (rws (n + 1) (catC n (slC V) (fun _ => [.slice (some ⟨g, 0, none⟩) 64 64])))) (hg3 : X2.grownBy X3 v.ownBlock) (hob : v'.ownBlock = v.ownBlock ∨ v'.ownBlock = some X2.heap.size) :
    ∃ oa c, v' = .slice oa (n + 1) c ∧ X3.cell? ⟨bd, 0, none⟩ = some v ∧ X3.frozen? ⟨bd, 0, none⟩ = false ∧ ∃ V', NG w P bd br (.slice oa (n + 1) c) (n + 1) V' (X3.setCell ⟨bd, 0, none⟩ (.slice oa (n + 1) c)) := by
  have h2 := owns_later h.o hb
  have hl := World.ownsRow.lt h.o
  have hs2 := hb.size
  have hO := own_of_grown hg3
  have hB3 : Below (bd + 1) X2 X3 := below_gr (fun j hj => (hl j hj).1) (by omega) hg3
  have hd3 := Blk.below (Blk.below h.d hb (Blk.lt h.d)) hB3 (Nat.lt_succ_self _)
  have hz3 := Blk.below (Blk.below h.z hb (Blk.lt h.z)) hB3 (by omega)
  obtain ⟨oa, c, rfl, hc1, hc2, hc3, hL⟩ := owns_lv (P := fun _ => True) ho (fun i _ => by unfold catC slC; split <;> rfl) (fun _ _ => trivial)
  have hlt := Row.lt hr
  have hO2 : Own bd X3 (X3.setCell ⟨bd, 0, none⟩ (.slice oa (n + 1) c)) := (Own.refl _ _).set _ _
  have hnv : ∀ q, q < X2.heap.size → v.ownBlock ≠ some q → q ≠ v.ownBlock.getD X2.heap.size := fun q h1 h2 => ne_own h1 h2
  have hv' : ∀ q, q < X2.heap.size → v.ownBlock ≠ some q → (Value.slice oa (n + 1) c).ownBlock ≠ some q := fun q h1 h2 e => by
    rcases hob with e2 | e2
    · rw [e2] at e; exact h2 e
    · rw [e2] at e; have := Option.some.inj e; omega
  have key : ∀ v0, RBp X2 (fun q => P q ∧ v.ownBlock ≠ some q ∧ q ≠ bd ∧ q ≠ br) (fun _ => 0) v0 → RBp (X3.setCell ⟨bd, 0, none⟩ (.slice oa (n + 1) c)) (fun q => P q ∧ (Value.slice oa (n + 1) c).ownBlock ≠ some q ∧ q ≠ bd ∧ q ≠ br) (fun _ => 0) v0 := fun v0 hr => by
    have r1 := hr.weak (Q := fun q => (P q ∧ v.ownBlock ≠ some q ∧ q ≠ bd ∧ q ≠ br) ∧ q < X2.heap.size) (fun q h1 h2 => ⟨h2, h1⟩)
    have r2 := (r1.own hO (fun q hq => hnv q hq.2 hq.1.2.1)).own hO2 (fun q hq => hq.1.2.2.1)
    exact r2.weak (fun q _ hq => ⟨hq.1.1, hv' q hq.2 hq.1.2.1, hq.1.2.2⟩)
  refine ⟨oa, c, rfl, by rw [Blk.cell hd3]; rfl, Blk.free hd3 0, fun j => if j < n then V j else .slice (some ⟨g, 0, none⟩) 64 64, ⟨?_, ?_, hO2.blk hz3 (by omega), ?_, fun i hi => ?_⟩⟩
  · exact ((h.b.trans (hb.mono h.b.size)).trans (hB3.mono (by omega))).trans (hO2.below (by omega) (by have := h.b.size; have := hB3.size; omega))
  · exact Blk.set hd3 0 _
  · have e : rws (n + 1) (catC n (slC V) (fun _ => [.slice (some ⟨g, 0, none⟩) 64 64])) = rws (n + 1) (slC (fun j => if j < n then V j else .slice (some ⟨g, 0, none⟩) 64 64)) := rws_congr fun i hi => by
      unfold catC slC
      by_cases e : i < n
      · simp [e]
      · simp [e]
    rw [← e]
    refine ⟨ho.1, ?_⟩
    rcases ho.2 with e | ⟨q, cap, cur, e, hq, hh, r⟩
    · exact .inl e
    · refine .inr ⟨q, cap, cur, e, hq, ?_, r⟩
      rw [hO2.block q (lt_of_block hh) (by omega)]; exact hh
  · by_cases e : i < n
    · simp only [if_pos e]; exact key _ ((h.r i e).later hb)
    · simp only [if_neg e]
      refine key _ ⟨some ⟨g, 0, none⟩, 64, rfl, Nat.le_refl _, by unfold maxLen; omega, hr.bytes (fun _ _ => by decide), fun a ha => ?_⟩
      cases ha
      refine ⟨hP g (by omega), fun e2 => ?_, by show g ≠ bd; omega, by show g ≠ br; omega⟩
      have := (hl g e2).2
      omega
set_option maxRecDepth 100000 in
set_option maxHeartbeats 8000000 in
theorem rnew_any (P : Nat → Prop) (n : Nat) (w : World) (hP : ∀ q, w.heap.size ≤ q → P q) (hn : n < 100000) :
    Calls Tryd.prog 21 #[.int .i64 (n : Int)] w fun e w' => ∃ oa' ca', e = .returned (.agg (rdV oa' n ca' none 0 0 0 false)) ∧ RSf w' P oa' n (fun _ _ => 0) ∧ (n ≤ ca' ∧ ca' ≤ maxLen ∧ (oa' = none → n = 0)) ∧ Below w.heap.size w w' := by
  obtain ⟨br, hbr⟩ : ∃ y, w.heap.size = y := ⟨_, rfl⟩
  obtain ⟨w1, hw1⟩ : ∃ y, w.alloc (.cells (rdV none 0 0 none 0 0 0 false) 47) = y := ⟨_, rfl⟩
  obtain ⟨bd, hbd⟩ : ∃ y, br + 1 = y := ⟨_, rfl⟩
  obtain ⟨w2, hw2⟩ : ∃ y, w1.alloc (.cells (rdV none 0 0 none 0 0 0 false) 47) = y := ⟨_, rfl⟩
  have hb1 : Below w.heap.size w w1 := by rw [← hw1]; exact (Below.refl _ _).alloc (Nat.le_refl _) _
  have hb2 : Below w1.heap.size w1 w2 := by rw [← hw2]; exact (Below.refl _ _).alloc (Nat.le_refl _) _
  have hk1 : Blk w1 br (rdV none 0 0 none 0 0 0 false) 47 := by rw [← hw1, ← hbr]; exact Blk.new _ _ _
  have hs1 : w1.heap.size = bd := by rw [← hw1, ← hbd, ← hbr]; simp
  have hk2 : Blk w2 bd (rdV none 0 0 none 0 0 0 false) 47 := by rw [← hw2, ← hs1]; exact Blk.new _ _ _
  have hk3 : Blk w2 br (rdV none 0 0 none 0 0 0 false) 47 := Blk.below hk1 hb2 (Blk.lt hk1)
  have hb3 : Below w.heap.size w w2 := hb1.trans (hb2.mono hb1.size)
  have HB := Lib.hid (show NG w P bd br (.slice none 0 0) 0 (fun _ => .slice none 0 0) w2 from ⟨hb3, hk2, hk3, World.ownsRow_nil _ _ _ _, fun i hi => absurd hi (Nat.not_lt_zero _)⟩)
  have HLT := Lib.hid (show w.heap.size ≤ br ∧ br < bd ∧ bd < w2.heap.size from ⟨by omega, by omega, Blk.lt hk2⟩)
  have HPP := Lib.hid hP
  have HI := Lib.hid hn
  have n0 : (n : Int) ≤ 9223372036854775807 := by omega
  have hrw : ((w.alloc (.cells #[.slice none 0 0, .slice none 0 0, .int .i64 0, .bool false] 47)).alloc (.cells #[.slice none 0 0, .slice none 0 0, .int .i64 0, .bool false] 47)) = w2 := by rw [← hw2, ← hw1]; rfl
  have HRW := Lib.hid hrw
  clear hb1 hb2 hk1 hk2 hk3 hb3 hP hw1 hw2 hs1 hrw hn
  go_enter Tryd.func21, Tryd.ntmps21
  go_wp2_with fail
  rw [HRW.out]
  go_loopw [4] (fun x wr => ∃ (k : Nat) (v : Value) (V : Nat → Value), k ≤ n ∧ x = .int .i64 (k : Int) ∧ NG w P bd br v k V wr ∧ w2.heap.size ≤ wr.heap.size) (fun x _ => n - (intOf x).toNat)
  case atStart => exact ⟨0, _, _, Nat.zero_le _, rfl, HB.out, Nat.le_refl _⟩
  case round =>
    obtain ⟨k, v, V, hk, rfl, hG, hsz⟩ := hrel
    by_cases hlt : k < n
    · as_aux_lemma =>
      have k1 : (k : Int) < (n : Int) := by omega
      have k4 : IntKind.i64.wrap ((k : Int) + 1) = ((k + 1 : Nat) : Int) := by have := HI.out; rw [IntWalk.i64_in _ (by omega)]; omega
      have hbw := (Below.refl wr.heap.size wr).drew
      have HG : Hid (NG w P bd br v k V wr.drew) := Lib.hid ⟨hG.b.drew, hG.d, hG.z, hG.o, fun i hi => (hG.r i hi).later hbw⟩
      have HK := Lib.hid (show k < n ∧ k + 1 ≤ n ∧ bd + 1 ≤ wr.drew.heap.size ∧ w2.heap.size ≤ wr.drew.heap.size ∧ bd ≤ wr.drew.heap.size from ⟨hlt, hlt, Blk.lt hG.d, hsz, Nat.le_of_lt (Blk.lt hG.d)⟩)
      have HN := Lib.hid (show wr.drew.ownsRow (bd + 1) 22 1 v k (rws k (slC V)) from hG.o)
      have HC : Hid (∀ A', Below wr.drew.heap.size wr.drew A' → A'.cell? ⟨bd, 0, none⟩ = some v) := Lib.hid fun A' hA => by
        rw [Blk.cell (Blk.below HG.out.d hA (Blk.lt HG.out.d))]; rfl
      clear hG hsz hlt hk hbw
      go_upto_region 5 with fail
      refine wp_region_held_drew (S := (Below bd wr.drew)) (by kernel_rfl) ?_ (fun hHeld => ?_)
      · (try dsimp only)
        (first | exact Below.refl _ _ | assumption)
      generalize wr.drew = WR at *
      refine wpAnyH_take (i := 0) (oi := { dst := some 11, op := Go.Op.fieldAddr 47 (Go.Operand.tmp 3) 0, type := 0, pos := "ref.go:29", after := #[], guard := none }) (v := ?_) rfl (by kernel_rfl) (by kernel_rfl) (by kernel_rfl) (fun _ _ _ h => h) (Or.inl ⟨by rfl, ?_⟩) (by assumption) ?_
      rotate_left
      · intro wS hSw
        (try dsimp only at hSw)
        go_simp
        (try with_reducible rfl)
      (try simp only [Act.put, List.setIfInBounds_toArray, List.set_cons_zero, List.set_cons_succ])
      refine wpAnyH_ready (rs := [1, 2]) (by kernel_rfl) (by simp) ?_
      refine AllReadyH.cons (o := { dst := some 12, op := Go.Op.load 44 (Go.Operand.tmp 11), type := 44, pos := "ref.go:29", after := #[{ on := 0, ground := Go.Ground.data }], guard := none }) rfl (fun K hK => ?_) ?_
      · skip
        go_simp
        (have c0 := HC.out _ (Below.refl _ _); go_simp)
        (try go_wp2_with fail)
        refine hK.out _ _ ?_ (fun hHeld => ?_)
        · (try dsimp only)
          (first | exact Below.refl _ _ | assumption)
        clear hK K
        (try simp only [Act.put, List.setIfInBounds_toArray, List.set_cons_zero, List.set_cons_succ])
        refine wpAnyH_ready (rs := [2]) (by kernel_rfl) (by simp) ?_
        refine AllReadyH.cons (o := { dst := some 13, op := Go.Op.makeSlice 22 (Go.Operand.const (Go.Value.int Go.IntKind.i64 64)) (Go.Operand.const (Go.Value.int Go.IntKind.i64 64)), type := 22, pos := "ref.go:29", after := #[], guard := none }) rfl (fun K hK => ?_) AllReadyH.nil
        (refine step_make rfl (.const (.int .i64 64)) (.const (.int .i64 64)) rfl 64 rfl rfl (by decide) ?_; obtain ⟨X1, hX1⟩ : ∃ q, WR.alloc (.cells (rowC 64 (fun _ => 0)).toArray 5) = q := ⟨_, rfl⟩; have HB1 : Hid (Below WR.heap.size WR X1) := Lib.hid (by rw [← hX1]; exact (Below.refl _ _).alloc (Nat.le_refl _) _); have K1 : Hid (Row X1 WR.heap.size 64 (fun _ => 0)) := Lib.hid (by rw [← hX1]; exact Blk.new _ _ _); have hkp := HB1.out.mono HK.out.2.2.2.2; rw [hX1]; clear hX1; skip)
        refine hK.out _ _ ?_ (fun hHeld => ?_)
        · (try dsimp only)
          (first | exact Below.refl _ _ | assumption)
        clear hK K
        (try simp only [Act.put, List.setIfInBounds_toArray, List.set_cons_zero, List.set_cons_succ])
        refine wpAnyH_ready (rs := [3]) (by kernel_rfl) (by simp) ?_
        refine AllReadyH.cons (o := { dst := some 14, op := Go.Op.buildSlice 44 1 #[(0, Go.Operand.tmp 13)], type := 44, pos := "ref.go:29", after := #[{ on := 2, ground := Go.Ground.data }], guard := none }) rfl (fun K hK => ?_) AllReadyH.nil
        (refine step_bs1 rfl (.tmp 13) rfl (some ⟨WR.heap.size, 0, none⟩) 64 64 rfl ?_; obtain ⟨X2, hX2⟩ : ∃ q, X1.alloc (.cells #[.slice (some ⟨WR.heap.size, 0, none⟩) 64 64] 22) = q := ⟨_, rfl⟩; have hb2 : Below X1.heap.size X1 X2 := (by rw [← hX2]; exact (Below.refl _ _).alloc (Nat.le_refl _) _); have hL2 : LV X2 (fun _ => True) (some ⟨X1.heap.size, 0, none⟩) 1 1 (fun _ => [.slice (some ⟨WR.heap.size, 0, none⟩) 64 64]) := (by rw [← hX2]; exact LV.lit (l := [.slice (some ⟨WR.heap.size, 0, none⟩) 64 64]) trivial); have HB3 := Lib.hid (HB1.out.trans (hb2.mono HB1.out.size)); have K2 := Lib.hid (K1.out.later hb2); have H2 := Lib.hid (owns_later HN.out HB3.out); have HL2 := Lib.hid hL2; have hkp2 := HB3.out.mono HK.out.2.2.2.2; rw [hX2]; clear hX2 hb2 hL2; skip)
        refine hK.out _ _ ?_ (fun hHeld => ?_)
        · (try dsimp only)
          (first | exact Below.refl _ _ | assumption)
        clear hK K
        (try simp only [Act.put, List.setIfInBounds_toArray, List.set_cons_zero, List.set_cons_succ])
        refine wpAnyH_ready (rs := [4]) (by kernel_rfl) (by simp) ?_
        refine AllReadyH.cons (o := { dst := some 15, op := Go.Op.call { callee := Go.Callee.builtin Go.Builtin.append, args := #[Go.Operand.tmp 12, Go.Operand.tmp 14], argTypes := #[44, 44] }, type := 44, pos := "ref.go:29", after := #[{ on := 1, ground := Go.Ground.data }, { on := 3, ground := Go.Ground.data }], guard := none }) rfl (fun K hK => ?_) AllReadyH.nil
        (refine step_vv rfl (.tmp 12) (.tmp 14) rfl (bd + 1) v k 1 1 (slC V) (fun _ => [.slice (some ⟨WR.heap.size, 0, none⟩) 64 64]) (fun _ => True) (some ⟨X1.heap.size, 0, none⟩) X2 rfl H2.out rfl HL2.out (fun _ _ => ⟨rfl, fun u hu => by simp at hu; subst hu; rfl⟩) (fun e => by cases e) (by have := HI.out; have := HK.out; omega) (Nat.le_trans HK.out.2.2.1 HB3.out.size) ?_; intro v' X3 hown3 hg3 hob3; obtain ⟨o5, c5, rfl, q0, q1, V', hNG⟩ := ng_step ⟨HLT.out.1, HLT.out.2.1, HK.out.2.2.1⟩ HG.out HPP.out HB3.out K2.out (Nat.le_refl _) hown3 hg3 hob3; have HNG := Lib.hid hNG; have hb6 : Below bd WR X3 := hkp2.trans ((below_gr (base := bd + 1) (fun j hj => (World.ownsRow.lt H2.out j hj).1) (Nat.le_trans HK.out.2.2.1 HB3.out.size) hg3).mono (Nat.le_succ _)); have HB6 := Lib.hid (show Below bd WR (X3.setCell ⟨bd, 0, none⟩ (.slice o5 (k + 1) c5)) ∧ w2.heap.size ≤ (X3.setCell ⟨bd, 0, none⟩ (.slice o5 (k + 1) c5)).heap.size from ⟨hb6.trans (((Own.refl bd X3).set 0 _).below (Nat.le_refl _) (Nat.le_of_lt (Blk.lt hNG.d |> fun h => by simpa using h))), by have h8 := HK.out.2.2.2.1; have h9 := HB3.out.size; have h10 := hg3.size; simp; omega⟩); clear hNG hown3 hg3 hob3; skip)
        refine hK.out _ _ ?_ (fun hHeld => ?_)
        · (try dsimp only)
          (first | exact Below.refl _ _ | assumption)
        clear hK K
        (try simp only [Act.put, List.setIfInBounds_toArray, List.set_cons_zero, List.set_cons_succ])
        refine wpAnyH_take (i := 5) (oi := { dst := some 16, op := Go.Op.fieldAddr 47 (Go.Operand.tmp 3) 0, type := 0, pos := "ref.go:29", after := #[{ on := 0, ground := Go.Ground.phase }, { on := 1, ground := Go.Ground.phase }, { on := 2, ground := Go.Ground.phase }, { on := 3, ground := Go.Ground.phase }, { on := 4, ground := Go.Ground.phase }], guard := none }) (v := ?_) rfl (by kernel_rfl) (by kernel_rfl) (by kernel_rfl) (fun _ _ _ h => h) (Or.inl ⟨by rfl, ?_⟩) (by assumption) ?_
        rotate_left
        · intro wS hSw
          (try dsimp only at hSw)
          go_simp
          (try with_reducible rfl)
        (try simp only [Act.put, List.setIfInBounds_toArray, List.set_cons_zero, List.set_cons_succ])
        refine wpAnyH_ready (rs := [6]) (by kernel_rfl) (by simp) ?_
        refine AllReadyH.cons (o := { dst := none, op := Go.Op.store 44 (Go.Operand.tmp 16) (Go.Operand.tmp 15), type := 0, pos := "ref.go:29", after := #[{ on := 5, ground := Go.Ground.data }, { on := 4, ground := Go.Ground.data }, { on := 4, ground := Go.Ground.chain }, { on := 0, ground := Go.Ground.phase }, { on := 1, ground := Go.Ground.phase }, { on := 2, ground := Go.Ground.phase }, { on := 3, ground := Go.Ground.phase }, { on := 4, ground := Go.Ground.phase }], guard := none }) rfl (fun K hK => ?_) AllReadyH.nil
        go_simp
        (have hkp6 := HB6.out.1; skip)
        (try go_wp2_with fail)
        refine hK.out _ _ ?_ (fun hHeld => ?_)
        · (try dsimp only)
          (first | exact Below.refl _ _ | assumption)
        clear hK K
        (try simp only [Act.put, List.setIfInBounds_toArray, List.set_cons_zero, List.set_cons_succ])
        refine wpAnyH_done (by kernel_rfl) ?_ _
        clear HC HN HG K2 H2 HL2 q0 q1
        (try clear c0)
        go_wp2_with fail
        go_roundw
        case rel => exact ⟨k + 1, _, V', HK.out.2.1, by first | rfl | go_num, HNG.out, HB6.out.2⟩
        case measure => have := HK.out; simp [intOf]; omega
      refine AllReadyH.cons (o := { dst := some 13, op := Go.Op.makeSlice 22 (Go.Operand.const (Go.Value.int Go.IntKind.i64 64)) (Go.Operand.const (Go.Value.int Go.IntKind.i64 64)), type := 22, pos := "ref.go:29", after := #[], guard := none }) rfl (fun K hK => ?_) AllReadyH.nil
      (refine step_make rfl (.const (.int .i64 64)) (.const (.int .i64 64)) rfl 64 rfl rfl (by decide) ?_; obtain ⟨X1, hX1⟩ : ∃ q, WR.alloc (.cells (rowC 64 (fun _ => 0)).toArray 5) = q := ⟨_, rfl⟩; have HB1 : Hid (Below WR.heap.size WR X1) := Lib.hid (by rw [← hX1]; exact (Below.refl _ _).alloc (Nat.le_refl _) _); have K1 : Hid (Row X1 WR.heap.size 64 (fun _ => 0)) := Lib.hid (by rw [← hX1]; exact Blk.new _ _ _); have hkp := HB1.out.mono HK.out.2.2.2.2; rw [hX1]; clear hX1; skip)
      refine hK.out _ _ ?_ (fun hHeld => ?_)
      · (try dsimp only)
        (first | exact Below.refl _ _ | assumption)
      clear hK K
      (try simp only [Act.put, List.setIfInBounds_toArray, List.set_cons_zero, List.set_cons_succ])
      refine wpAnyH_ready (rs := [1, 3]) (by kernel_rfl) (by simp) ?_
      refine AllReadyH.cons (o := { dst := some 12, op := Go.Op.load 44 (Go.Operand.tmp 11), type := 44, pos := "ref.go:29", after := #[{ on := 0, ground := Go.Ground.data }], guard := none }) rfl (fun K hK => ?_) ?_
      · skip
        go_simp
        (have c0 := HC.out _ HB1.out; go_simp)
        (try go_wp2_with fail)
        refine hK.out _ _ ?_ (fun hHeld => ?_)
        · (try dsimp only)
          (first | exact Below.refl _ _ | assumption)
        clear hK K
        (try simp only [Act.put, List.setIfInBounds_toArray, List.set_cons_zero, List.set_cons_succ])
        refine wpAnyH_ready (rs := [3]) (by kernel_rfl) (by simp) ?_
        refine AllReadyH.cons (o := { dst := some 14, op := Go.Op.buildSlice 44 1 #[(0, Go.Operand.tmp 13)], type := 44, pos := "ref.go:29", after := #[{ on := 2, ground := Go.Ground.data }], guard := none }) rfl (fun K hK => ?_) AllReadyH.nil
        (refine step_bs1 rfl (.tmp 13) rfl (some ⟨WR.heap.size, 0, none⟩) 64 64 rfl ?_; obtain ⟨X2, hX2⟩ : ∃ q, X1.alloc (.cells #[.slice (some ⟨WR.heap.size, 0, none⟩) 64 64] 22) = q := ⟨_, rfl⟩; have hb2 : Below X1.heap.size X1 X2 := (by rw [← hX2]; exact (Below.refl _ _).alloc (Nat.le_refl _) _); have hL2 : LV X2 (fun _ => True) (some ⟨X1.heap.size, 0, none⟩) 1 1 (fun _ => [.slice (some ⟨WR.heap.size, 0, none⟩) 64 64]) := (by rw [← hX2]; exact LV.lit (l := [.slice (some ⟨WR.heap.size, 0, none⟩) 64 64]) trivial); have HB3 := Lib.hid (HB1.out.trans (hb2.mono HB1.out.size)); have K2 := Lib.hid (K1.out.later hb2); have H2 := Lib.hid (owns_later HN.out HB3.out); have HL2 := Lib.hid hL2; have hkp2 := HB3.out.mono HK.out.2.2.2.2; rw [hX2]; clear hX2 hb2 hL2; skip)
        refine hK.out _ _ ?_ (fun hHeld => ?_)
        · (try dsimp only)
          (first | exact Below.refl _ _ | assumption)
        clear hK K
        (try simp only [Act.put, List.setIfInBounds_toArray, List.set_cons_zero, List.set_cons_succ])
        refine wpAnyH_ready (rs := [4]) (by kernel_rfl) (by simp) ?_
        refine AllReadyH.cons (o := { dst := some 15, op := Go.Op.call { callee := Go.Callee.builtin Go.Builtin.append, args := #[Go.Operand.tmp 12, Go.Operand.tmp 14], argTypes := #[44, 44] }, type := 44, pos := "ref.go:29", after := #[{ on := 1, ground := Go.Ground.data }, { on := 3, ground := Go.Ground.data }], guard := none }) rfl (fun K hK => ?_) AllReadyH.nil
        (refine step_vv rfl (.tmp 12) (.tmp 14) rfl (bd + 1) v k 1 1 (slC V) (fun _ => [.slice (some ⟨WR.heap.size, 0, none⟩) 64 64]) (fun _ => True) (some ⟨X1.heap.size, 0, none⟩) X2 rfl H2.out rfl HL2.out (fun _ _ => ⟨rfl, fun u hu => by simp at hu; subst hu; rfl⟩) (fun e => by cases e) (by have := HI.out; have := HK.out; omega) (Nat.le_trans HK.out.2.2.1 HB3.out.size) ?_; intro v' X3 hown3 hg3 hob3; obtain ⟨o5, c5, rfl, q0, q1, V', hNG⟩ := ng_step ⟨HLT.out.1, HLT.out.2.1, HK.out.2.2.1⟩ HG.out HPP.out HB3.out K2.out (Nat.le_refl _) hown3 hg3 hob3; have HNG := Lib.hid hNG; have hb6 : Below bd WR X3 := hkp2.trans ((below_gr (base := bd + 1) (fun j hj => (World.ownsRow.lt H2.out j hj).1) (Nat.le_trans HK.out.2.2.1 HB3.out.size) hg3).mono (Nat.le_succ _)); have HB6 := Lib.hid (show Below bd WR (X3.setCell ⟨bd, 0, none⟩ (.slice o5 (k + 1) c5)) ∧ w2.heap.size ≤ (X3.setCell ⟨bd, 0, none⟩ (.slice o5 (k + 1) c5)).heap.size from ⟨hb6.trans (((Own.refl bd X3).set 0 _).below (Nat.le_refl _) (Nat.le_of_lt (Blk.lt hNG.d |> fun h => by simpa using h))), by have h8 := HK.out.2.2.2.1; have h9 := HB3.out.size; have h10 := hg3.size; simp; omega⟩); clear hNG hown3 hg3 hob3; skip)
        refine hK.out _ _ ?_ (fun hHeld => ?_)
        · (try dsimp only)
          (first | exact Below.refl _ _ | assumption)
        clear hK K
        (try simp only [Act.put, List.setIfInBounds_toArray, List.set_cons_zero, List.set_cons_succ])
        refine wpAnyH_take (i := 5) (oi := { dst := some 16, op := Go.Op.fieldAddr 47 (Go.Operand.tmp 3) 0, type := 0, pos := "ref.go:29", after := #[{ on := 0, ground := Go.Ground.phase }, { on := 1, ground := Go.Ground.phase }, { on := 2, ground := Go.Ground.phase }, { on := 3, ground := Go.Ground.phase }, { on := 4, ground := Go.Ground.phase }], guard := none }) (v := ?_) rfl (by kernel_rfl) (by kernel_rfl) (by kernel_rfl) (fun _ _ _ h => h) (Or.inl ⟨by rfl, ?_⟩) (by assumption) ?_
        rotate_left
        · intro wS hSw
          (try dsimp only at hSw)
          go_simp
          (try with_reducible rfl)
        (try simp only [Act.put, List.setIfInBounds_toArray, List.set_cons_zero, List.set_cons_succ])
        refine wpAnyH_ready (rs := [6]) (by kernel_rfl) (by simp) ?_
        refine AllReadyH.cons (o := { dst := none, op := Go.Op.store 44 (Go.Operand.tmp 16) (Go.Operand.tmp 15), type := 0, pos := "ref.go:29", after := #[{ on := 5, ground := Go.Ground.data }, { on := 4, ground := Go.Ground.data }, { on := 4, ground := Go.Ground.chain }, { on := 0, ground := Go.Ground.phase }, { on := 1, ground := Go.Ground.phase }, { on := 2, ground := Go.Ground.phase }, { on := 3, ground := Go.Ground.phase }, { on := 4, ground := Go.Ground.phase }], guard := none }) rfl (fun K hK => ?_) AllReadyH.nil
        go_simp
        (have hkp6 := HB6.out.1; skip)
        (try go_wp2_with fail)
        refine hK.out _ _ ?_ (fun hHeld => ?_)
        · (try dsimp only)
          (first | exact Below.refl _ _ | assumption)
        clear hK K
        (try simp only [Act.put, List.setIfInBounds_toArray, List.set_cons_zero, List.set_cons_succ])
        refine wpAnyH_done (by kernel_rfl) ?_ _
        clear HC HN HG K2 H2 HL2 q0 q1
        (try clear c0)
        go_wp2_with fail
        go_roundw
        case rel => exact ⟨k + 1, _, V', HK.out.2.1, by first | rfl | go_num, HNG.out, HB6.out.2⟩
        case measure => have := HK.out; simp [intOf]; omega
      refine AllReadyH.cons (o := { dst := some 14, op := Go.Op.buildSlice 44 1 #[(0, Go.Operand.tmp 13)], type := 44, pos := "ref.go:29", after := #[{ on := 2, ground := Go.Ground.data }], guard := none }) rfl (fun K hK => ?_) AllReadyH.nil
      (refine step_bs1 rfl (.tmp 13) rfl (some ⟨WR.heap.size, 0, none⟩) 64 64 rfl ?_; obtain ⟨X2, hX2⟩ : ∃ q, X1.alloc (.cells #[.slice (some ⟨WR.heap.size, 0, none⟩) 64 64] 22) = q := ⟨_, rfl⟩; have hb2 : Below X1.heap.size X1 X2 := (by rw [← hX2]; exact (Below.refl _ _).alloc (Nat.le_refl _) _); have hL2 : LV X2 (fun _ => True) (some ⟨X1.heap.size, 0, none⟩) 1 1 (fun _ => [.slice (some ⟨WR.heap.size, 0, none⟩) 64 64]) := (by rw [← hX2]; exact LV.lit (l := [.slice (some ⟨WR.heap.size, 0, none⟩) 64 64]) trivial); have HB3 := Lib.hid (HB1.out.trans (hb2.mono HB1.out.size)); have K2 := Lib.hid (K1.out.later hb2); have H2 := Lib.hid (owns_later HN.out HB3.out); have HL2 := Lib.hid hL2; have hkp2 := HB3.out.mono HK.out.2.2.2.2; rw [hX2]; clear hX2 hb2 hL2; skip)
      refine hK.out _ _ ?_ (fun hHeld => ?_)
      · (try dsimp only)
        (first | exact Below.refl _ _ | assumption)
      clear hK K
      (try simp only [Act.put, List.setIfInBounds_toArray, List.set_cons_zero, List.set_cons_succ])
      refine wpAnyH_ready (rs := [1]) (by kernel_rfl) (by simp) ?_
      refine AllReadyH.cons (o := { dst := some 12, op := Go.Op.load 44 (Go.Operand.tmp 11), type := 44, pos := "ref.go:29", after := #[{ on := 0, ground := Go.Ground.data }], guard := none }) rfl (fun K hK => ?_) AllReadyH.nil
      go_simp
      (have c0 := HC.out _ HB3.out; go_simp)
      (try go_wp2_with fail)
      refine hK.out _ _ ?_ (fun hHeld => ?_)
      · (try dsimp only)
        (first | exact Below.refl _ _ | assumption)
      clear hK K
      (try simp only [Act.put, List.setIfInBounds_toArray, List.set_cons_zero, List.set_cons_succ])
      refine wpAnyH_ready (rs := [4]) (by kernel_rfl) (by simp) ?_
      refine AllReadyH.cons (o := { dst := some 15, op := Go.Op.call { callee := Go.Callee.builtin Go.Builtin.append, args := #[Go.Operand.tmp 12, Go.Operand.tmp 14], argTypes := #[44, 44] }, type := 44, pos := "ref.go:29", after := #[{ on := 1, ground := Go.Ground.data }, { on := 3, ground := Go.Ground.data }], guard := none }) rfl (fun K hK => ?_) AllReadyH.nil
      (refine step_vv rfl (.tmp 12) (.tmp 14) rfl (bd + 1) v k 1 1 (slC V) (fun _ => [.slice (some ⟨WR.heap.size, 0, none⟩) 64 64]) (fun _ => True) (some ⟨X1.heap.size, 0, none⟩) X2 rfl H2.out rfl HL2.out (fun _ _ => ⟨rfl, fun u hu => by simp at hu; subst hu; rfl⟩) (fun e => by cases e) (by have := HI.out; have := HK.out; omega) (Nat.le_trans HK.out.2.2.1 HB3.out.size) ?_; intro v' X3 hown3 hg3 hob3; obtain ⟨o5, c5, rfl, q0, q1, V', hNG⟩ := ng_step ⟨HLT.out.1, HLT.out.2.1, HK.out.2.2.1⟩ HG.out HPP.out HB3.out K2.out (Nat.le_refl _) hown3 hg3 hob3; have HNG := Lib.hid hNG; have hb6 : Below bd WR X3 := hkp2.trans ((below_gr (base := bd + 1) (fun j hj => (World.ownsRow.lt H2.out j hj).1) (Nat.le_trans HK.out.2.2.1 HB3.out.size) hg3).mono (Nat.le_succ _)); have HB6 := Lib.hid (show Below bd WR (X3.setCell ⟨bd, 0, none⟩ (.slice o5 (k + 1) c5)) ∧ w2.heap.size ≤ (X3.setCell ⟨bd, 0, none⟩ (.slice o5 (k + 1) c5)).heap.size from ⟨hb6.trans (((Own.refl bd X3).set 0 _).below (Nat.le_refl _) (Nat.le_of_lt (Blk.lt hNG.d |> fun h => by simpa using h))), by have h8 := HK.out.2.2.2.1; have h9 := HB3.out.size; have h10 := hg3.size; simp; omega⟩); clear hNG hown3 hg3 hob3; skip)
      refine hK.out _ _ ?_ (fun hHeld => ?_)
      · (try dsimp only)
        (first | exact Below.refl _ _ | assumption)
      clear hK K
      (try simp only [Act.put, List.setIfInBounds_toArray, List.set_cons_zero, List.set_cons_succ])
      refine wpAnyH_take (i := 5) (oi := { dst := some 16, op := Go.Op.fieldAddr 47 (Go.Operand.tmp 3) 0, type := 0, pos := "ref.go:29", after := #[{ on := 0, ground := Go.Ground.phase }, { on := 1, ground := Go.Ground.phase }, { on := 2, ground := Go.Ground.phase }, { on := 3, ground := Go.Ground.phase }, { on := 4, ground := Go.Ground.phase }], guard := none }) (v := ?_) rfl (by kernel_rfl) (by kernel_rfl) (by kernel_rfl) (fun _ _ _ h => h) (Or.inl ⟨by rfl, ?_⟩) (by assumption) ?_
      rotate_left
      · intro wS hSw
        (try dsimp only at hSw)
        go_simp
        (try with_reducible rfl)
      (try simp only [Act.put, List.setIfInBounds_toArray, List.set_cons_zero, List.set_cons_succ])
      refine wpAnyH_ready (rs := [6]) (by kernel_rfl) (by simp) ?_
      refine AllReadyH.cons (o := { dst := none, op := Go.Op.store 44 (Go.Operand.tmp 16) (Go.Operand.tmp 15), type := 0, pos := "ref.go:29", after := #[{ on := 5, ground := Go.Ground.data }, { on := 4, ground := Go.Ground.data }, { on := 4, ground := Go.Ground.chain }, { on := 0, ground := Go.Ground.phase }, { on := 1, ground := Go.Ground.phase }, { on := 2, ground := Go.Ground.phase }, { on := 3, ground := Go.Ground.phase }, { on := 4, ground := Go.Ground.phase }], guard := none }) rfl (fun K hK => ?_) AllReadyH.nil
      go_simp
      (have hkp6 := HB6.out.1; skip)
      (try go_wp2_with fail)
      refine hK.out _ _ ?_ (fun hHeld => ?_)
      · (try dsimp only)
        (first | exact Below.refl _ _ | assumption)
      clear hK K
      (try simp only [Act.put, List.setIfInBounds_toArray, List.set_cons_zero, List.set_cons_succ])
      refine wpAnyH_done (by kernel_rfl) ?_ _
      clear HC HN HG K2 H2 HL2 q0 q1
      (try clear c0)
      go_wp2_with fail
      go_roundw
      case rel => exact ⟨k + 1, _, V', HK.out.2.1, by first | rfl | go_num, HNG.out, HB6.out.2⟩
      case measure => have := HK.out; simp [intOf]; omega
    · as_aux_lemma =>
      obtain rfl : k = n := by omega
      have k1 : ¬ (k : Int) < (k : Int) := by omega
      obtain ⟨oa, ca, rfl, h1, h2, h3, hL⟩ := owns_lv (P := fun q => bd + 1 ≤ q) hG.o (fun i _ => rfl) (fun _ h => h)
      have HG := Lib.hid hG
      have HL := Lib.hid (show LV wr (fun q => P q ∧ q ≠ br) oa k 1 (slC V) from hL.weak (fun q _ hq => by have := HLT.out; exact ⟨HPP.out q (by omega), by omega⟩))
      have HC := Lib.hid (show k ≤ ca ∧ ca ≤ maxLen ∧ (oa = none → k = 0) from ⟨h1, h2, h3⟩)
      obtain ⟨p0, p1, p2, p3⟩ : wr.cell? ⟨bd, 0, none⟩ = some (.slice oa k ca) ∧ wr.cell? ⟨bd, 1, none⟩ = some (.slice none 0 0) ∧ wr.cell? ⟨bd, 2, none⟩ = some (.int .i64 0) ∧ wr.cell? ⟨bd, 3, none⟩ = some (.bool false) := ⟨by rw [Blk.cell HG.out.d]; rfl, by rw [Blk.cell HG.out.d]; rfl, by rw [Blk.cell HG.out.d]; rfl, by rw [Blk.cell HG.out.d]; rfl⟩
      clear hG hlt hk hsz h1 h2 h3 hL
      go_wp2_with (first
        | (refine wpList_store_mid rfl 47 (.tmp 2) (.tmp 17) rfl br 0 (rdV oa k ca none 0 0 0 false) rfl rfl (Blk.thereAll HG.out.z 4 (by show 4 ≤ 4; exact Nat.le_refl _)) info_rd (rd_one _ _ _ _ _ _ _ _) ?_))
      have h9 := Blk.whole HG.out.z (D := rdV oa k ca none 0 0 0 false) rfl
      have hO2 : Own br _ (wr.setCells br 0 (rdV oa k ca none 0 0 0 false).toList) := Own.setCells _ _ _
      refine bodyPost_ret (results_cell_row Tryd.results21 _ _ br 47 (rdV oa k ca none 0 0 0 false) (0, 0) _ rfl h9 Tryd.underlying47 rfl info_rd) rfl ?_
      have hb2 := HG.out.b.trans (hO2.below HLT.out.1 HG.out.b.size)
      have hs : RSf (wr.setCells br 0 (rdV oa k ca none 0 0 0 false).toList) P oa k (fun _ _ => 0) := ⟨V, (HL.out.own hO2 (fun q h => h.2)).weak (fun q _ h => h.1), fun i hi => ((HG.out.r i hi).own hO2 (fun q h => h.2.2.2)).weak (fun q _ h => h.1)⟩
      exact ⟨oa, ca, rfl, hs, HC.out, by first | exact hb2 | (rw [hbr] at hb2; exact hb2)⟩
end Go.Proofs.YtcohllhmfghlfaaDoor
namespace Go.Proofs.YtcohllhmfghlfaaDoor
set_option linter.unusedVariables false
set_option linter.unusedSimpArgs false
open Go.RowKit

/-- Blocks that are none of the disk's, nor the struct's. -/
def Ap (d sb xb : Nat) (v : Value) (q : Nat) : Prop := q ≠ d ∧ q ≠ sb ∧ v.ownBlock ≠ some q ∧ q ≠ xb
theorem LV.keep {w w' : World} {P : Nat → Prop} {oa : Option Addr} {n k : Nat} {C : Nat → List Value} (h : LV w P oa n k C) (hk : ∀ q, q < w.heap.size → P q → w'.heap[q]? = w.heap[q]?) : LV w' P oa n k C := fun i j hi hj => by
  obtain ⟨b, off, v, h1, h2, h3, h4⟩ := h i j hi hj
  refine ⟨b, off, v, h1, h2, ?_, h4⟩
  rw [World.cell?_of_block (hk b (World.block_lt_of_cell? _ _ h3) h2)]; exact h3
theorem RBp.keep {w w' : World} {P : Nat → Prop} {f : Nat → Nat} {v : Value} (h : RBp w P f v) (hk : ∀ q, q < w.heap.size → P q → w'.heap[q]? = w.heap[q]?) : RBp w' P f v := by
  obtain ⟨od, c, h1, h2, h3, h4, h5⟩ := h
  refine ⟨od, c, h1, h2, h3, fun k hk' => ?_, h5⟩
  obtain ⟨g1, b, off, g2, g3⟩ := h4 k hk'
  refine ⟨g1, b, off, g2, ?_⟩
  rw [World.cell?_of_block (hk b (World.block_lt_of_cell? _ _ g3) (h5 _ g2))]; exact g3
theorem RSf.keep {w w' : World} {P : Nat → Prop} {oa : Option Addr} {n : Nat} {S : Nat → Nat → Nat} (h : RSf w P oa n S) (hk : ∀ q, q < w.heap.size → P q → w'.heap[q]? = w.heap[q]?) : RSf w' P oa n S := by
  obtain ⟨V, h1, h2⟩ := h
  exact ⟨V, h1.keep hk, fun i hi => (h2 i hi).keep hk⟩
theorem RWt.keep {w w' : World} {P : Nat → Prop} {oa : Option Addr} {n : Nat} {A : Nat → Nat} {D : Nat → Nat → Nat} (h : RWt w P oa n A D) (hk : ∀ q, q < w.heap.size → P q → w'.heap[q]? = w.heap[q]?) : RWt w' P oa n A D := by
  obtain ⟨V, h1, h2⟩ := h
  exact ⟨V, h1.keep hk, fun i hi => (h2 i hi).keep hk⟩
/-- The document's disk, in a struct's block. -/
structure RX (A : World) (P : Nat → Prop) (xb : Nat) (t : DS) (oa : Option Addr) (ca : Nat) (ow : Option Addr) (cw : Nat) : Prop where
  x : Blk A xb (rdV oa t.n ca ow t.nw cw t.ar t.dn) 47
  s : RSf A P oa t.n t.S
  w : RWt A P ow t.nw t.A t.D
  ca : t.n ≤ ca ∧ ca ≤ maxLen ∧ (oa = none → t.n = 0)
  cw : t.nw ≤ cw ∧ cw ≤ maxLen ∧ (ow = none → t.nw = 0)
  nx : ∀ q, P q → q ≠ xb
  ok : t.n < 100000 ∧ t.nw < 100000000 ∧ (∀ j, j < t.nw → t.A j < t.n) ∧ t.ar < 9223372036854775808
theorem RX.later {A A' : World} {P : Nat → Prop} {xb : Nat} {t : DS} {oa : Option Addr} {ca : Nat} {ow : Option Addr} {cw : Nat} (h : RX A P xb t oa ca ow cw) (hb : Below A.heap.size A A') : RX A' P xb t oa ca ow cw :=
  ⟨Blk.below h.x hb (Blk.lt h.x), h.s.later hb, h.w.later hb, h.ca, h.cw, h.nx, h.ok⟩
structure LS (w : World) (xb d sb : Nat) (v : Value) (s t : DS) (A : World) : Prop where
  dx : DX w d sb v s A
  rx : ∃ oa ca ow cw, RX A (Ap d sb xb v) xb t oa ca ow cw
  ax : xb ≠ d ∧ xb ≠ sb ∧ v.ownBlock ≠ some xb
  hx : w.heap.size ≤ xb
theorem LS.later {w A A' : World} {xb d sb : Nat} {v : Value} {s t : DS} (h : LS w xb d sb v s t A) (hb : Below A.heap.size A A') : LS w xb d sb v s t A' := by
  obtain ⟨oa, ca, ow, cw, hr⟩ := h.rx
  exact ⟨h.dx.later hb, ⟨oa, ca, ow, cw, hr.later hb⟩, h.ax, h.hx⟩
theorem LS.fresh {w A : World} {xb d sb : Nat} {v : Value} {s t : DS} (h : LS w xb d sb v s t A) : ∀ q, A.heap.size ≤ q → Ap d sb xb v q := fun q hq => by
  obtain ⟨oa, ca, ow, cw, hr⟩ := h.rx
  have h1 := Blk.lt hr.x
  obtain ⟨h2, h3, h4⟩ := h.dx.1.lt
  exact ⟨by omega, by omega, fun e => by have := (h4 _ e).2; omega, by omega⟩
theorem LS.dn {w A A' : World} {xb d sb : Nat} {v v' : Value} {s s' t : DS} (h : LS w xb d sb v s t A) (hn : Dn A A' w.heap.size d sb v v' s') : LS w xb d sb v' s' t A' := by
  obtain ⟨oa, ca, ow, cw, hr⟩ := h.rx
  have hk : ∀ q, q < A.heap.size → Ap d sb xb v q → A'.heap[q]? = A.heap[q]? := fun q h1 h2 => hn.ot.block q h1 h2.1 h2.2.1 h2.2.2.1
  have hq : ∀ q, q < A.heap.size → v.ownBlock ≠ some q → v'.ownBlock ≠ some q := fun q h1 h2 e => by
    rcases hn.nx q e with e2 | e2
    · exact h2 e2
    · omega
  have hk' : ∀ q, q < A'.heap.size → (Ap d sb xb v q ∧ q < A.heap.size) → Ap d sb xb v' q := fun q _ h2 => ⟨h2.1.1, h2.1.2.1, hq q h2.2 h2.1.2.2.1, h2.1.2.2.2⟩
  have hw : ∀ q, q < A.heap.size → Ap d sb xb v q → (Ap d sb xb v q ∧ q < A.heap.size) := fun q h1 h2 => ⟨h2, h1⟩
  have hk2 : ∀ q, q < A.heap.size → (Ap d sb xb v q ∧ q < A.heap.size) → A'.heap[q]? = A.heap[q]? := fun q h1 h2 => hk q h1 h2.1
  exact ⟨h.dx.dn hn, ⟨oa, ca, ow, cw, ⟨hn.ot.blk hr.x h.ax.1 h.ax.2.1 h.ax.2.2, ((hr.s.weak hw).keep hk2).weak hk', ((hr.w.weak hw).keep hk2).weak hk', hr.ca, hr.cw, fun q hq => hq.2.2.2, hr.ok⟩⟩, ⟨h.ax.1, h.ax.2.1, hq _ (Blk.lt hr.x) h.ax.2.2⟩, h.hx⟩
/-- What the document's steps give. -/
def RRet (A A' : World) (P : Nat → Prop) (t : DS) (C : Array Value) : Prop := ∃ oa ca ow cw, C = rdV oa t.n ca ow t.nw cw t.ar t.dn ∧ RSf A' P oa t.n t.S ∧ RWt A' P ow t.nw t.A t.D ∧ (t.n ≤ ca ∧ ca ≤ maxLen ∧ (oa = none → t.n = 0)) ∧ (t.nw ≤ cw ∧ cw ≤ maxLen ∧ (ow = none → t.nw = 0)) ∧ Below A.heap.size A A'
theorem RRet.lit {A A' : World} {P : Nat → Prop} {t : DS} {C : Array Value} (h : RRet A A' P t C) : (Tryd.prog.info? 47).map (·.size) = some C.size ∧ C.all (fun x => x.oneCell') = true ∧ C.size = 4 := by
  obtain ⟨oa, ca, ow, cw, rfl, _⟩ := h
  exact ⟨info_rd, rd_one _ _ _ _ _ _ _ _, rfl⟩
theorem LS.ref {w A A' : World} {xb d sb : Nat} {v : Value} {s t : DS} {C : Array Value} (h : LS w xb d sb v s t A) (hr : RRet A A' (Ap d sb xb v) s C) : LS w xb d sb v s s (A'.setCells xb 0 C.toList) := by
  obtain ⟨oa0, ca0, ow0, cw0, hx⟩ := h.rx
  obtain ⟨oa, ca, ow, cw, rfl, hs, hw, hca, hcw, hb⟩ := hr
  have hO : Own xb A' (A'.setCells xb 0 (rdV oa s.n ca ow s.nw cw s.ar s.dn).toList) := Own.setCells _ _ _
  have hlt := Blk.lt hx.x
  have hd := h.dx.later hb
  have hd2 : DX w d sb v s (A'.setCells xb 0 (rdV oa s.n ca ow s.nw cw s.ar s.dn).toList) := ⟨hd.1.own hO h.ax.1 h.ax.2.1 h.ax.2.2, hd.2.trans (hO.below h.hx hd.2.size)⟩
  have hn0 := hd.1.n0
  exact ⟨hd2, ⟨oa, ca, ow, cw, ⟨Blk.whole (Blk.below hx.x hb hlt) rfl, hs.own hO (fun q hq => hq.2.2.2), hw.own hO (fun q hq => hq.2.2.2), hca, hcw, fun q hq => hq.2.2.2, ⟨by omega, hd.1.nb, fun j hj => (hd.1.D8 j hj).1, hd.1.ab⟩⟩⟩, h.ax, h.hx⟩
theorem LS.old {w A : World} {xb d sb : Nat} {v : Value} {s t : DS} (h : LS w xb d sb v s t A) : ∀ q, q < w.heap.size → Ap d sb xb v q := fun q hq => by
  have h1 := h.hx
  have h2 := h.dx.1.bd
  have h3 := h.dx.1.bs
  have h4 := h.dx.1.lt
  exact ⟨by omega, by omega, fun e => by have := (h4.2.2 _ e).1; omega, by omega⟩
theorem LS.cells {w A : World} {xb d sb : Nat} {v : Value} {s t : DS} (h : LS w xb d sb v s t A) : ∃ oa ca ow cw, RX A (Ap d sb xb v) xb t oa ca ow cw ∧ A.cell? ⟨xb, 0, none⟩ = some (.slice oa t.n ca) ∧ A.cell? ⟨xb, 1, none⟩ = some (.slice ow t.nw cw) ∧ A.cell? ⟨xb, 2, none⟩ = some (.int .i64 (t.ar : Nat)) ∧ A.cell? ⟨xb, 3, none⟩ = some (.bool t.dn) := by
  obtain ⟨oa, ca, ow, cw, hx⟩ := h.rx
  exact ⟨oa, ca, ow, cw, hx, by rw [Blk.cell hx.x]; rfl, by rw [Blk.cell hx.x]; rfl, by rw [Blk.cell hx.x]; rfl, by rw [Blk.cell hx.x]; rfl⟩
/-- What lies apart stays, and lies apart. -/
def Kp (A A' : World) (xb d sb : Nat) (v : Value) (d' sb' : Nat) (v' : Value) : Prop := ∀ c, c < A.heap.size → Ap d sb xb v c → A'.heap[c]? = A.heap[c]? ∧ Ap d' sb' xb v' c
theorem Kp.trans {A A1 A2 : World} {xb d sb d1 sb1 d2 sb2 : Nat} {v v1 v2 : Value} (h : Kp A A1 xb d sb v d1 sb1 v1) (k : Kp A1 A2 xb d1 sb1 v1 d2 sb2 v2) (hs : A.heap.size ≤ A1.heap.size) : Kp A A2 xb d sb v d2 sb2 v2 := fun c h1 h2 => by
  obtain ⟨a1, a2⟩ := h c h1 h2
  obtain ⟨b1, b2⟩ := k c (by omega) a2
  exact ⟨b1.trans a1, b2⟩
theorem Kp.of_below {A A' : World} {xb d sb : Nat} {v : Value} (hb : Below A.heap.size A A') : Kp A A' xb d sb v d sb v := fun c h1 h2 => ⟨hb.block c h1, h2⟩
theorem Kp.of_dn {A A' : World} {B xb d sb : Nat} {v v' : Value} {s' : DS} (hn : Dn A A' B d sb v v' s') : Kp A A' xb d sb v d sb v' := fun c h1 h2 => ⟨hn.ot.block c h1 h2.1 h2.2.1 h2.2.2.1, h2.1, h2.2.1, fun e => by
  rcases hn.nx c e with e2 | e2
  · exact h2.2.2.1 e2
  · omega, h2.2.2.2⟩
theorem Kp.blk {A A' : World} {xb d sb d' sb' c : Nat} {v v' : Value} {C : Array Value} {T : TypeId} (h : Kp A A' xb d sb v d' sb' v') (hc : Blk A c C T ∧ Ap d sb xb v c) : Blk A' c C T ∧ Ap d' sb' xb v' c := by
  obtain ⟨a1, a2⟩ := h c (Blk.lt hc.1) hc.2
  refine ⟨?_, a2⟩
  have := hc.1
  unfold Blk at this ⊢
  rw [a1]; exact this
theorem Kp.store {A A' : World} {xb d sb : Nat} {v : Value} (hb : Below A.heap.size A A') (vs : List Value) : Kp A (A'.setCells xb 0 vs) xb d sb v d sb v := fun c h1 h2 =>
  ⟨((Own.setCells (b := xb) vs 0 A').block c (Nat.lt_of_lt_of_le h1 hb.size) h2.2.2.2).trans (hb.block c h1), h2⟩
/-- Bytes that lie apart. -/
def BA (A : World) (d sb xb : Nat) (v : Value) (ob : Option Addr) (l : Nat) (F : Nat → Nat) : Prop := Bytes A ob l F ∧ (ob = none → l = 0) ∧ 0 < l ∧ ∀ a, ob = some a → Ap d sb xb v a.block
theorem BA.later {A A' : World} {d sb xb : Nat} {v : Value} {ob : Option Addr} {l : Nat} {F : Nat → Nat} (h : BA A d sb xb v ob l F) (hb : Below A.heap.size A A') : BA A' d sb xb v ob l F := ⟨h.1.later hb, h.2⟩
theorem Kp.ba {A A' : World} {d sb xb d' sb' : Nat} {v v' : Value} {ob : Option Addr} {l : Nat} {F : Nat → Nat} (h : Kp A A' xb d sb v d' sb' v') (hB : BA A d sb xb v ob l F) : BA A' d' sb' xb v' ob l F := by
  refine ⟨fun k hk => ?_, hB.2.1, hB.2.2.1, fun a ha => ?_⟩
  · obtain ⟨g1, b, off, g2, g3⟩ := hB.1 k hk
    refine ⟨g1, b, off, g2, ?_⟩
    rw [World.cell?_of_block (h b (World.block_lt_of_cell? _ _ g3) (hB.2.2.2 _ g2)).1]; exact g3
  · exact (h _ (hB.1.lt a ha hB.2.2.1) (hB.2.2.2 a ha)).2
theorem num_er {v : Value} {k : Nat} (h : Er v k) (A : World) (hg : Handle A) : Calls Tryd.prog 12 #[v] A fun e A' => e = .returned (.int .i64 (k : Nat)) ∧ Below A.heap.size A A' := by
  rcases h with ⟨rfl, rfl⟩ | ⟨rfl, _⟩
  · exact num_nil A
  · exact num_err _ A hg
instance okR_dec (s : DS) (x : Int) (l : Nat) : Decidable ((0 ≤ x ∧ x < (s.n : Int)) ∧ l = 64) := inferInstance
def wrK (s : DS) (x : Int) (l : Nat) : Nat := if (0 ≤ x ∧ x < (s.n : Int)) ∧ l = 64 then (if (stepS s).dn = true then 23 else 0) else 1
def wrS (s : DS) (x : Int) (l : Nat) (F : Nat → Nat) : DS := if (0 ≤ x ∧ x < (s.n : Int)) ∧ l = 64 then (if (stepS s).dn = true then stepS s else putS (stepS s) x.toNat F) else s
def tmK (s : DS) (x : Int) (l : Nat) : Nat := if (0 ≤ x ∧ x < (s.n : Int)) ∧ l = 64 then 0 else 1
def tmS (s : DS) (x : Int) (l : Nat) (F : Nat → Nat) : DS := if (0 ≤ x ∧ x < (s.n : Int)) ∧ l = 64 then tamS s x.toNat F else s
def syK (s : DS) : Nat := if (stepS s).dn = true then 23 else 0
def syS (s : DS) : DS := if (stepS s).dn = true then stepS s else setS (stepS s) allK
def rdK (s : DS) (x : Int) : Nat := if 0 ≤ x ∧ x < (s.n : Int) then (if s.dn = true then 23 else 0) else 1
def rdS (s : DS) (x : Int) : ByteArray := if (0 ≤ x ∧ x < (s.n : Int)) ∧ s.dn = false then strF 64 (curF s.S s.A s.D s.nw x.toNat) else ⟨#[]⟩
theorem er_if {b : Bool} : Er (if b = true then .iface 60 (.int .i64 23) else .nilIface) (if b = true then 23 else 0) := by
  cases b with
  | true => exact .inr ⟨rfl, by decide⟩
  | false => exact .inl ⟨rfl, rfl⟩
theorem pwrite {w A : World} {xb d sb : Nat} {v : Value} {s t : DS} (h : LS w xb d sb v s t A) (x : Int) (hx : x ≤ 9223372036854775807) (ob : Option Addr) (l cb : Nat) (F : Nat → Nat) (hB : BA A d sb xb v ob l F) (hl : l ≤ 200) (hnw : s.nw + 1 < 100000000) :
    Calls Tryd.prog 10 #[.pointer (some ⟨d, 0, none⟩), .int .i64 x, .slice ob l cb] A fun e A' => ∃ ev v', e = .returned ev ∧ Er ev (wrK s x l) ∧ LS w xb d sb v' (wrS s x l F) t A' ∧ Kp A A' xb d sb v d sb v' := by
  by_cases hc : (0 ≤ x ∧ x < (s.n : Int)) ∧ l = 64
  · obtain ⟨i, rfl⟩ := Int.eq_ofNat_of_zero_le hc.1.1
    obtain ⟨_, rfl⟩ := hc
    obtain ⟨_, pb, po, rfl, _⟩ := hB.1 0 (by decide)
    obtain ⟨q1, q2, q3, _⟩ := hB.2.2.2 _ rfl
    refine (write_any h.dx.1 i pb po cb F (by omega) hB.1 hnw ⟨q1, q2, q3⟩).mono ?_
    rintro e A' ⟨rfl, v', hn⟩
    have e1 : wrK s (i : Int) 64 = (if (stepS s).dn = true then 23 else 0) := if_pos (by omega)
    have e2 : wrS s (i : Int) 64 F = (if (stepS s).dn = true then stepS s else putS (stepS s) i F) := if_pos (by omega)
    rw [e1, e2]
    exact ⟨_, v', rfl, er_if, h.dn hn, Kp.of_dn hn⟩
  · refine (write_bad h.dx.1 x hx ob l cb (by unfold maxLen; omega) hc).mono ?_
    rintro e A' ⟨rfl, hb⟩
    have e1 : wrK s x l = 1 := if_neg hc
    have e2 : wrS s x l F = s := if_neg hc
    rw [e1, e2]
    exact ⟨_, v, rfl, .inr ⟨rfl, by decide⟩, h.later hb, Kp.of_below hb⟩
theorem ptamper {w A : World} {xb d sb : Nat} {v : Value} {s t : DS} (h : LS w xb d sb v s t A) (x : Int) (hx : x ≤ 9223372036854775807) (ob : Option Addr) (l cb : Nat) (F : Nat → Nat) (hB : BA A d sb xb v ob l F) (hl : l ≤ 200) :
    Calls Tryd.prog 17 #[.pointer (some ⟨d, 0, none⟩), .int .i64 x, .slice ob l cb] A fun e A' => ∃ ev v', e = .returned ev ∧ Er ev (tmK s x l) ∧ LS w xb d sb v' (tmS s x l F) t A' ∧ Kp A A' xb d sb v d sb v' := by
  by_cases hc : (0 ≤ x ∧ x < (s.n : Int)) ∧ l = 64
  · obtain ⟨i, rfl⟩ := Int.eq_ofNat_of_zero_le hc.1.1
    obtain ⟨_, rfl⟩ := hc
    obtain ⟨_, pb, po, rfl, _⟩ := hB.1 0 (by decide)
    obtain ⟨_, q2, _, _⟩ := hB.2.2.2 _ rfl
    refine (tamper_any h.dx.1 i pb po cb F (by omega) hB.1 q2).mono ?_
    rintro e A' ⟨rfl, v', hn⟩
    have e1 : tmK s (i : Int) 64 = 0 := if_pos (by omega)
    have e2 : tmS s (i : Int) 64 F = tamS s i F := if_pos (by omega)
    rw [e1, e2]
    exact ⟨_, v', rfl, .inl ⟨rfl, rfl⟩, h.dn hn, Kp.of_dn hn⟩
  · refine (tamper_bad h.dx.1 x hx ob l cb (by unfold maxLen; omega) hc).mono ?_
    rintro e A' ⟨rfl, hb⟩
    have e1 : tmK s x l = 1 := if_neg hc
    have e2 : tmS s x l F = s := if_neg hc
    rw [e1, e2]
    exact ⟨_, v, rfl, .inr ⟨rfl, by decide⟩, h.later hb, Kp.of_below hb⟩
theorem psync {w A : World} {xb d sb : Nat} {v : Value} {s t : DS} (h : LS w xb d sb v s t A) :
    Calls Tryd.prog 9 #[.pointer (some ⟨d, 0, none⟩)] A fun e A' => ∃ ev v', e = .returned ev ∧ Er ev (syK s) ∧ LS w xb d sb v' (syS s) t A' ∧ Kp A A' xb d sb v d sb v' := by
  refine (sync_any h.dx.1).mono ?_
  rintro e A' ⟨rfl, v', hn⟩
  exact ⟨_, v', rfl, er_if, h.dn hn, Kp.of_dn hn⟩
theorem parm_ok {w A : World} {xb d sb : Nat} {v : Value} {s t : DS} (h : LS w xb d sb v s t A) (k : Nat) (hk : k < 9223372036854775808) :
    Calls Tryd.prog 8 #[.pointer (some ⟨d, 0, none⟩), .int .i64 (k : Int)] A fun e A' => e = .returned .nilIface ∧ LS w xb d sb v { s with ar := k } t A' ∧ Kp A A' xb d sb v d sb v := by
  refine (arm_any h.dx.1 k hk).mono ?_
  rintro e A' ⟨rfl, hn⟩
  exact ⟨rfl, h.dn hn, Kp.of_dn hn⟩
theorem pcrash {w A : World} {xb d sb nk ck : Nat} {v : Value} {s t : DS} {ok : Option Addr} {f : Nat → Bool} (h : LS w xb d sb v s t A) (hB : Bools w ok nk f) (hnk : nk ≤ maxLen) :
    Calls Tryd.prog 14 #[.pointer (some ⟨d, 0, none⟩), .slice ok nk ck] A fun e A' => (∃ x, e = .returned x) ∧ LS w xb d sb (.slice none 0 0) (crashS s (keepP nk f)) t A' ∧ Kp A A' xb d sb v d sb (.slice none 0 0) := by
  refine (crash_any h.dx.1 nk ck ok f (hB.later h.dx.2) (fun a ha h0 => by
    obtain ⟨b, off, h2, h3⟩ := hB 0 h0
    rw [h2] at ha; cases ha
    exact World.block_lt_of_cell? _ _ h3) hnk).mono ?_
  rintro e A' ⟨hx, hn⟩
  exact ⟨hx, h.dn hn, Kp.of_dn hn⟩
/-- A disk goes on as a clone; the old one crashes. -/
theorem pclone {w A : World} {xb d sb : Nat} {v : Value} {s t : DS} (h : LS w xb d sb v s t A) :
    Calls Tryd.prog 20 #[.pointer (some ⟨d, 0, none⟩)] A fun e A' => ∃ d2, e = .returned (.pointer (some ⟨d2, 0, none⟩)) ∧ Calls Tryd.prog 14 #[.pointer (some ⟨d, 0, none⟩), .slice none 0 0] A' fun e2 A2 => (∃ x, e2 = .returned x) ∧ ∃ sb2 v2 c2 X2, LS w xb d2 sb2 v2 { s with c := c2, X := X2 } t A2 ∧ Kp A A2 xb d sb v d2 sb2 v2 := by
  refine (dclone_any h.dx.1).mono ?_
  rintro e A' ⟨d2, sb2, v2, c2, X2, rfl, hk, hb⟩
  refine ⟨d2, rfl, ?_⟩
  have h' := h.later hb
  refine (crash_any h'.dx.1 0 0 none (fun _ => false) (fun k hk => absurd hk (Nat.not_lt_zero _)) (fun a ha => by cases ha) (by unfold maxLen; omega)).mono ?_
  rintro e2 A2 ⟨hx, hn⟩
  refine ⟨hx, sb2, v2, c2, X2, ?_⟩
  have hl := h.dx.1.lt
  have hl2 := hk.lt
  obtain ⟨oa, ca, ow, cw, hr0⟩ := h.rx
  have hxl := Blk.lt hr0.x
  have hkeep : ∀ q, A.heap.size ≤ q → q < A'.heap.size → A2.heap[q]? = A'.heap[q]? := fun q h1 h2 => hn.ot.block q h2 (by omega) (by omega) (fun e => by have := (hl.2.2 _ e).2; omega)
  have hb2 := h'.dx.dn hn
  have hd2 : DK A2 A.heap.size d2 sb2 v2 { s with c := c2, X := X2 } := by
    refine ⟨?_, ?_, ⟨hk.wt.1, ?_⟩, hk.bd, hk.bs, hk.ne, hk.nv, hk.n0, hk.S8, hk.D8, hk.ab, hk.nb⟩
    · have := hk.me; unfold Blk at this ⊢; rw [hkeep d2 hk.bd hl2.1]; exact this
    · have := hk.sf; unfold Blk at this ⊢; rw [hkeep sb2 hk.bs hl2.2.1]; exact this
    · rcases hk.wt.2 with e | ⟨g, cap, cur, e, hg, hh, r⟩
      · exact .inl e
      · exact .inr ⟨g, cap, cur, e, hg, by rw [hkeep g hg (lt_of_block hh)]; exact hh, r⟩
  have hs := h.dx.2.size
  have hdx : DX w d2 sb2 v2 { s with c := c2, X := X2 } A2 := ⟨⟨hd2.me, hd2.sf, owns_low hd2.wt hs, Nat.le_trans hs hd2.bd, Nat.le_trans hs hd2.bs, hd2.ne, hd2.nv, hd2.n0, hd2.S8, hd2.D8, hd2.ab, hd2.nb⟩, hb2.2⟩
  have hP : ∀ q, q < A.heap.size → Ap d sb xb v q → (Ap d sb xb v q ∧ q < A.heap.size) := fun q h1 h2 => ⟨h2, h1⟩
  have hK : ∀ q, q < A'.heap.size → (Ap d sb xb v q ∧ q < A.heap.size) → A2.heap[q]? = A'.heap[q]? := fun q h1 h2 => hn.ot.block q h1 h2.1.1 h2.1.2.1 h2.1.2.2.1
  have hQ : ∀ q, q < A2.heap.size → (Ap d sb xb v q ∧ q < A.heap.size) → Ap d2 sb2 xb v2 q := fun q _ h2 => by
    have := hk.bd; have := hk.bs
    exact ⟨by omega, by omega, fun e => by have := (hl2.2.2 _ e).1; omega, h2.1.2.2.2⟩
  have hx2 : xb ≠ d2 ∧ xb ≠ sb2 ∧ v2.ownBlock ≠ some xb := by
    have := hk.bd; have := hk.bs
    exact ⟨by omega, by omega, fun e => by have := (hl2.2.2 _ e).1; omega⟩
  refine ⟨⟨hdx, ⟨oa, ca, ow, cw, ⟨hn.ot.blk (Blk.below hr0.x hb hxl) h.ax.1 h.ax.2.1 h.ax.2.2, ((hr0.s.weak hP).later hb |>.keep hK).weak hQ, ((hr0.w.weak hP).later hb |>.keep hK).weak hQ, hr0.ca, hr0.cw, fun q hq => hq.2.2.2, hr0.ok⟩⟩, hx2, h.hx⟩, fun c h1 h2 => ?_⟩
  have hc2 := hl2.2.2
  exact ⟨(hn.ot.block c (Nat.lt_of_lt_of_le h1 hb.size) h2.1 h2.2.1 h2.2.2.1).trans (hb.block c h1), by have := hk.bd; omega, by have := hk.bs; omega, fun e => by have := (hc2 _ e).1; omega, h2.2.2.2⟩
end Go.Proofs.YtcohllhmfghlfaaDoor
namespace Go.Proofs.YtcohllhmfghlfaaDoor
set_option linter.unusedVariables false
set_option linter.unusedSimpArgs false
open Go.RowKit

theorem BA.box {A : World} {d sb xb : Nat} {v : Value} {ob : Option Addr} {cb : Nat} {F : Nat → Nat} (h : BA A d sb xb v ob 64 F) (hc : 64 ≤ cb ∧ cb ≤ maxLen) : RBp A (Ap d sb xb v) F (.slice ob 64 cb) := ⟨ob, cb, rfl, hc.1, hc.2, h.1, h.2.2.2⟩
theorem rwrite {w A : World} {xb d sb : Nat} {v : Value} {s t : DS} {oa : Option Addr} {ca : Nat} {ow : Option Addr} {cw : Nat} (h : LS w xb d sb v s t A) (hr : RX A (Ap d sb xb v) xb t oa ca ow cw) (x : Int) (ob : Option Addr) (l cb : Nat) (F : Nat → Nat) (hB : BA A d sb xb v ob l F) (hl : l ≤ cb ∧ cb ≤ maxLen) :
    Calls Tryd.prog 25 #[.agg #[.slice oa t.n ca, .slice ow t.nw cw, .int .i64 (t.ar : Nat), .bool t.dn], .int .i64 x, .slice ob l cb] A fun e A' => ∃ C, e = .returned (.tuple #[.agg C, .int .i64 (wrK t x l : Nat)]) ∧ RRet A A' (Ap d sb xb v) (wrS t x l F) C := by
  by_cases hc : (0 ≤ x ∧ x < (t.n : Int)) ∧ l = 64
  · obtain ⟨i, rfl⟩ := Int.eq_ofNat_of_zero_le hc.1.1
    obtain ⟨hi, rfl⟩ := hc
    have e1 : wrK t (i : Int) 64 = (if (stepS t).dn = true then 23 else 0) := if_pos ⟨hi, rfl⟩
    have e2 : wrS t (i : Int) 64 F = (if (stepS t).dn = true then stepS t else putS (stepS t) i F) := if_pos ⟨hi, rfl⟩
    rw [e1, e2]
    cases hu : (stepS t).dn with
    | true =>
      rw [if_pos rfl, if_pos rfl]
      refine (rput_down oa t.n ca ow t.nw cw t.ar i t.dn ob cb A hr.ok.1 (by omega) hr.ok.2.2.2 hu).mono ?_
      rintro e A' ⟨rfl, hb⟩
      refine ⟨_, rfl, oa, ca, ow, cw, ?_, hr.s.later hb, hr.w.later hb, hr.ca, hr.cw, hb⟩
      show rdV oa t.n ca ow t.nw cw (t.ar - 1) true = rdV oa t.n ca ow t.nw cw (t.ar - 1) (stepS t).dn
      rw [hu]
    | false =>
      rw [if_neg (by decide), if_neg (by decide)]
      refine (rput_up (Ap d sb xb v) oa t.n ca ow t.nw cw t.ar i t.dn t.S t.A t.D F ob cb A h.fresh hr.s hr.w (hB.box hl) hr.ok.1 hr.ok.2.1 hr.cw (by omega) hr.ok.2.2.2 hu).mono ?_
      rintro e A' ⟨ow', cw', rfl, h1, h2, h3, hb⟩
      refine ⟨_, rfl, oa, ca, ow', cw', ?_, h1, h2, hr.ca, h3, hb⟩
      show rdV oa t.n ca ow' (t.nw + 1) cw' (t.ar - 1) false = rdV oa t.n ca ow' (t.nw + 1) cw' (t.ar - 1) (stepS t).dn
      rw [hu]
  · have e1 : wrK t x l = 1 := if_neg hc
    have e2 : wrS t x l F = t := if_neg hc
    rw [e1, e2]
    refine (rput_bad oa t.n ca ow t.nw cw t.ar t.dn x ob l cb A hr.ok.1 (by omega) hc).mono ?_
    rintro e A' ⟨rfl, hb⟩
    exact ⟨_, rfl, oa, ca, ow, cw, rfl, hr.s.later hb, hr.w.later hb, hr.ca, hr.cw, hb⟩
theorem rtamper {w A : World} {xb d sb : Nat} {v : Value} {s t : DS} {oa : Option Addr} {ca : Nat} {ow : Option Addr} {cw : Nat} (h : LS w xb d sb v s t A) (hr : RX A (Ap d sb xb v) xb t oa ca ow cw) (x : Int) (ob : Option Addr) (l cb : Nat) (F : Nat → Nat) (hB : BA A d sb xb v ob l F) (hl : l ≤ cb ∧ cb ≤ maxLen) :
    Calls Tryd.prog 24 #[.agg #[.slice oa t.n ca, .slice ow t.nw cw, .int .i64 (t.ar : Nat), .bool t.dn], .int .i64 x, .slice ob l cb] A fun e A' => ∃ C, e = .returned (.tuple #[.agg C, .int .i64 (tmK t x l : Nat)]) ∧ RRet A A' (Ap d sb xb v) (tmS t x l F) C := by
  by_cases hc : (0 ≤ x ∧ x < (t.n : Int)) ∧ l = 64
  · obtain ⟨i, rfl⟩ := Int.eq_ofNat_of_zero_le hc.1.1
    obtain ⟨hi, rfl⟩ := hc
    have e1 : tmK t (i : Int) 64 = 0 := if_pos ⟨hi, rfl⟩
    have e2 : tmS t (i : Int) 64 F = tamS t i F := if_pos ⟨hi, rfl⟩
    rw [e1, e2]
    refine (rtam_ok (Ap d sb xb v) oa t.n ca ow t.nw cw t.ar i t.dn t.S t.A t.D F ob cb A h.fresh hr.s hr.w (hB.box hl) hr.ok.1 hr.ok.2.1 (by omega) hr.ok.2.2.2).mono ?_
    rintro e A' ⟨oa', ca', ow', cw', rfl, h1, h2, h3, h4, hb⟩
    exact ⟨_, rfl, oa', ca', ow', cw', rfl, h1, h2, h3, h4, hb⟩
  · have e1 : tmK t x l = 1 := if_neg hc
    have e2 : tmS t x l F = t := if_neg hc
    rw [e1, e2]
    refine (rtam_bad oa t.n ca ow t.nw cw t.ar t.dn x ob l cb A hr.ok.1 (by omega) hc).mono ?_
    rintro e A' ⟨rfl, hb⟩
    exact ⟨_, rfl, oa, ca, ow, cw, rfl, hr.s.later hb, hr.w.later hb, hr.ca, hr.cw, hb⟩
theorem rsync {w A : World} {xb d sb : Nat} {v : Value} {s t : DS} {oa : Option Addr} {ca : Nat} {ow : Option Addr} {cw : Nat} (h : LS w xb d sb v s t A) (hr : RX A (Ap d sb xb v) xb t oa ca ow cw) :
    Calls Tryd.prog 22 #[.agg #[.slice oa t.n ca, .slice ow t.nw cw, .int .i64 (t.ar : Nat), .bool t.dn]] A fun e A' => ∃ C, e = .returned (.tuple #[.agg C, .int .i64 (syK t : Nat)]) ∧ RRet A A' (Ap d sb xb v) (syS t) C := by
  unfold syK syS
  cases hu : (stepS t).dn with
  | true =>
    rw [if_pos rfl, if_pos rfl]
    refine (rsync_down oa t.n ca ow t.nw cw t.ar t.dn A hr.ok.2.2.2 hu).mono ?_
    rintro e A' ⟨rfl, hb⟩
    refine ⟨_, rfl, oa, ca, ow, cw, ?_, hr.s.later hb, hr.w.later hb, hr.ca, hr.cw, hb⟩
    show rdV oa t.n ca ow t.nw cw (t.ar - 1) true = rdV oa t.n ca ow t.nw cw (t.ar - 1) (stepS t).dn
    rw [hu]
  | false =>
    rw [if_neg (by decide), if_neg (by decide)]
    refine (rsync_up (Ap d sb xb v) oa t.n ca ow t.nw cw t.ar t.dn t.S t.A t.D A h.fresh hr.s hr.w hr.ok.1 hr.ok.2.1 hr.ca hr.ok.2.2.1 hr.ok.2.2.2 hu).mono ?_
    rintro e A' ⟨oa', ca', rfl, h1, h2, hb⟩
    refine ⟨_, rfl, oa', ca', none, 0, ?_, h1, ⟨fun _ => .slice none 0 0, LV.nil _ _ _ _ _, fun j hj => absurd hj (Nat.not_lt_zero _)⟩, h2, ⟨Nat.le_refl _, by unfold maxLen; omega, fun _ => rfl⟩, hb⟩
    show rdV oa' t.n ca' none 0 0 (t.ar - 1) false = rdV oa' t.n ca' none 0 0 (t.ar - 1) (stepS t).dn
    rw [hu]
theorem rcrash {w A : World} {xb d sb nk ck : Nat} {v : Value} {s t : DS} {oa : Option Addr} {ca : Nat} {ow : Option Addr} {cw : Nat} {ok : Option Addr} {f : Nat → Bool} (h : LS w xb d sb v s t A) (hr : RX A (Ap d sb xb v) xb t oa ca ow cw) (hB : Bools w ok nk f) (hnk : nk ≤ maxLen) :
    Calls Tryd.prog 23 #[.agg #[.slice oa t.n ca, .slice ow t.nw cw, .int .i64 (t.ar : Nat), .bool t.dn], .slice ok nk ck] A fun e A' => ∃ C, e = .returned (.agg C) ∧ RRet A A' (Ap d sb xb v) (crashS t (keepP nk f)) C := by
  refine (rcrash_any (Ap d sb xb v) oa t.n ca ow t.nw cw t.ar nk ck t.dn t.S t.A t.D ok f A h.fresh hr.s hr.w (hB.later h.dx.2) hnk hr.ok.1 hr.ok.2.1 hr.ca hr.ok.2.2.1).mono ?_
  rintro e A' ⟨oa', ca', rfl, h1, h2, hb⟩
  exact ⟨_, rfl, oa', ca', none, 0, rfl, h1, ⟨fun _ => .slice none 0 0, LV.nil _ _ _ _ _, fun j hj => absurd hj (Nat.not_lt_zero _)⟩, h2, ⟨Nat.le_refl _, by unfold maxLen; omega, fun _ => rfl⟩, hb⟩
theorem pread {w A : World} {xb d sb : Nat} {v : Value} {s t : DS} (h : LS w xb d sb v s t A) (x : Int) (hx : x ≤ 9223372036854775807) :
    Calls Tryd.prog 16 #[.pointer (some ⟨d, 0, none⟩), .int .i64 x] A fun e A' => ∃ oc m cc ev, e = .returned (.tuple #[.slice oc m cc, ev]) ∧ CV A' oc m (rdS s x) ∧ Er ev (rdK s x) ∧ Below A.heap.size A A' := by
  by_cases hc : 0 ≤ x ∧ x < (s.n : Int)
  · obtain ⟨i, rfl⟩ := Int.eq_ofNat_of_zero_le hc.1
    have e1 : rdK s (i : Int) = (if s.dn = true then 23 else 0) := if_pos hc
    rw [e1]
    refine (read_any (i := i) h.dx.1 (by omega)).mono ?_
    rintro e A' ⟨hb, (⟨hd, rfl⟩ | ⟨hd, od, c, rfl, _, _, _, hB⟩)⟩
    · have e2 : rdS s (i : Int) = ⟨#[]⟩ := if_neg (fun h => by rw [hd] at h; cases h.2)
      rw [e2, hd, if_pos rfl]
      exact ⟨none, 0, 0, _, rfl, CV.none _, .inr ⟨rfl, by decide⟩, hb⟩
    · have e2 : rdS s (i : Int) = strF 64 (curF s.S s.A s.D s.nw i) := if_pos ⟨hc, hd⟩
      rw [e2, hd, if_neg (by decide)]
      exact ⟨od, 64, c, _, rfl, ⟨_, hB, fun e => (by subst e; obtain ⟨_, _, _, e9, _⟩ := hB 0 (by decide); cases e9), rfl⟩, .inl ⟨rfl, rfl⟩, hb⟩
  · have e1 : rdK s x = 1 := if_neg hc
    have e2 : rdS s x = ⟨#[]⟩ := if_neg (fun h => hc h.1)
    rw [e1, e2]
    refine (read_bad h.dx.1 x hx hc).mono ?_
    rintro e A' ⟨rfl, hb⟩
    exact ⟨none, 0, 0, _, rfl, CV.none _, .inr ⟨rfl, by decide⟩, hb⟩
theorem rread {w A : World} {xb d sb : Nat} {v : Value} {s t : DS} {oa : Option Addr} {ca : Nat} {ow : Option Addr} {cw : Nat} (_ : LS w xb d sb v s t A) (hr : RX A (Ap d sb xb v) xb t oa ca ow cw) (x : Int) :
    Calls Tryd.prog 26 #[.agg #[.slice oa t.n ca, .slice ow t.nw cw, .int .i64 (t.ar : Nat), .bool t.dn], .int .i64 x] A fun e A' => ∃ oc m cc, e = .returned (.tuple #[.slice oc m cc, .int .i64 (rdK t x : Nat)]) ∧ CV A' oc m (rdS t x) ∧ Below A.heap.size A A' := by
  by_cases hc : 0 ≤ x ∧ x < (t.n : Int)
  · obtain ⟨i, rfl⟩ := Int.eq_ofNat_of_zero_le hc.1
    have e1 : rdK t (i : Int) = (if t.dn = true then 23 else 0) := if_pos hc
    rw [e1]
    cases hd : t.dn with
    | true =>
      have e2 : rdS t (i : Int) = ⟨#[]⟩ := if_neg (fun h => by rw [hd] at h; cases h.2)
      rw [e2, if_pos rfl]
      refine (rread_down oa t.n ca ow t.nw cw t.ar i A hr.ok.1 (by omega)).mono ?_
      rintro e A' ⟨rfl, hb⟩
      exact ⟨none, 0, 0, rfl, CV.none _, hb⟩
    | false =>
      have e2 : rdS t (i : Int) = strF 64 (curF t.S t.A t.D t.nw i) := if_pos ⟨hc, hd⟩
      rw [e2, if_neg (by decide)]
      refine (rread_any oa t.n ca ow t.nw cw t.ar i t.S t.A t.D A hr.s.lbs hr.w.rw hr.ok.1 hr.ok.2.1 (by omega)).mono ?_
      rintro e A' ⟨u, rfl, ⟨od, c, rfl, _, _, hB⟩, hb⟩
      exact ⟨od, 64, c, rfl, ⟨_, hB, fun e => (by subst e; obtain ⟨_, _, _, e9, _⟩ := hB 0 (by decide); cases e9), rfl⟩, hb⟩
  · have e1 : rdK t x = 1 := if_neg hc
    have e2 : rdS t x = ⟨#[]⟩ := if_neg (fun h => hc h.1)
    rw [e1, e2]
    refine (rread_bad oa t.n ca ow t.nw cw t.ar t.dn x A hr.ok.1 hc).mono ?_
    rintro e A' ⟨rfl, hb⟩
    exact ⟨none, 0, 0, rfl, CV.none _, hb⟩
theorem JG.cv {w A : World} {a : Value} {n : Nat} {f : Nat → Nat} (h : JG w a n f A) (hf : ∀ i, i < n → f i < 256) : ∃ o c, a = .slice o n c ∧ CV A o n (strF n f) ∧ Below w.heap.size w A := by
  obtain ⟨o, c, hv, hB, _, hno⟩ := h.g.bytesC hf
  exact ⟨o, c, hv, ⟨f, hB, hno, rfl⟩, h.o⟩
theorem allF_lt {S : Nat → Nat → Nat} {n : Nat} (h : ∀ i, i < n → ∀ k, k < 64 → S i k < 256) : ∀ k, k < 64 * n → allF S k < 256 := fun k hk => h _ (by omega) _ (Nat.mod_lt _ (by decide))
theorem psafe {w A : World} {xb d sb : Nat} {v : Value} {s t : DS} (h : LS w xb d sb v s t A) :
    Calls Tryd.prog 19 #[.pointer (some ⟨d, 0, none⟩)] A fun e A' => ∃ oc cc, e = .returned (.slice oc (64 * s.n) cc) ∧ CV A' oc (64 * s.n) (strF (64 * s.n) (allF s.S)) ∧ Below A.heap.size A A' := by
  refine (safe_any h.dx.1).mono ?_
  rintro e A' ⟨a, rfl, hj⟩
  obtain ⟨o, c, rfl, h1, h2⟩ := hj.cv (allF_lt h.dx.1.S8)
  exact ⟨o, c, rfl, h1, h2⟩
theorem rall {w A : World} {xb d sb : Nat} {v : Value} {s t : DS} {oa : Option Addr} {ca : Nat} {ow : Option Addr} {cw : Nat} (hr : RX A (Ap d sb xb v) xb t oa ca ow cw) (hS : ∀ i, i < t.n → ∀ k, k < 64 → t.S i k < 256) :
    Calls Tryd.prog 27 #[.agg #[.slice oa t.n ca, .slice ow t.nw cw, .int .i64 (t.ar : Nat), .bool t.dn]] A fun e A' => ∃ oc cc, e = .returned (.slice oc (64 * t.n) cc) ∧ CV A' oc (64 * t.n) (strF (64 * t.n) (allF t.S)) ∧ Below A.heap.size A A' := by
  refine (rall_any oa t.n ca ow t.nw cw t.ar t.dn t.S A hr.s.lbs hr.ok.1).mono ?_
  rintro e A' ⟨a, rfl, hj⟩
  obtain ⟨o, c, rfl, h1, h2⟩ := hj.cv (allF_lt hS)
  exact ⟨o, c, rfl, h1, h2⟩
set_option maxRecDepth 100000 in
set_option maxHeartbeats 2000000 in
theorem new_bad (n : Int) (w : World) (h : n < 1 ∨ 2048 < n) :
    Calls Tryd.prog 6 #[.int .i64 n] w fun e w' => e = .returned (.tuple #[.pointer none, .iface 60 (.int .i64 1)]) ∧ Below w.heap.size w w' := by
  rcases (show n < 1 ∨ (¬ n < 1 ∧ 2048 < n) by omega) with h1 | ⟨h1, h2⟩
  · have q3 : decide (n < 1) = true := decide_eq_true h1
    go_enter Tryd.func6, Tryd.ntmps6
    go_wp2_with fail
    go_ret2
    exact ⟨rfl, Below.refl _ _⟩
  · have q3 : decide (n < 1) = false := decide_eq_false h1
    have q4 : decide (2048 < n) = true := decide_eq_true h2
    go_enter Tryd.func6, Tryd.ntmps6
    go_wp2_with fail
    go_ret2
    exact ⟨rfl, Below.refl _ _⟩
end Go.Proofs.YtcohllhmfghlfaaDoor
