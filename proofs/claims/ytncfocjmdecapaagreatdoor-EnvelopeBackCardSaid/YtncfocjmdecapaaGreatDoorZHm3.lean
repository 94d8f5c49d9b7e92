/- A sum with a key: written into, summed. -/
import Derived.Test.YtncfocjmdecapaaGreatDoorZB0
import Derived.Test.YtncfocjmdecapaaGreatDoorZS1
import Derived.Test.YtncfocjmdecapaaGreatDoorZS2
import Derived.Test.YtncfocjmdecapaaGreatDoorZSh4
import Derived.Test.YtncfocjmdecapaaGreatDoorZA0
import Derived.Test.YtncfocjmdecapaaGreatDoorZS5
import Derived.Test.YtncfocjmdecapaaGreatDoorZSh7
import Derived.Test.YtncfocjmdecapaaGreatDoorZS8
import Derived.Test.YtncfocjmdecapaaGreatDoorZHm1
import Derived.Test.YtncfocjmdecapaaGreatDoorZHm2
namespace Go.Proofs.YtncfocjmdecapaaGreatDoor
set_option linter.unusedVariables false
set_option linter.unusedSimpArgs false
open Go.RowKit
theorem KH.cell0 {w : World} {k gi go m : Nat} {W G : Nat → Nat} (h : KH w k gi go W m G) : w.cell? ⟨k, 0, none⟩ = some (.pointer (some ⟨gi, 0, none⟩)) := by
  rw [Blk.cell h.kb]; rfl
theorem KH.cell1 {w : World} {k gi go m : Nat} {W G : Nat → Nat} (h : KH w k gi go W m G) : w.cell? ⟨k, 1, none⟩ = some (.pointer (some ⟨go, 0, none⟩)) := by
  rw [Blk.cell h.kb]; rfl
set_option maxRecDepth 100000 in
theorem kwrite_any (k gi go m l cap : Nat) (oa : Option Addr) (W G E : Nat → Nat) (w : World) (h : KH w k gi go W m G) (hb : Bytes w oa l E) (hlc : l ≤ cap) (hne : ∀ a, oa = some a → 0 < l → a.block ≠ gi) (hn : m + l < 900000000000) (hg : GV w) :
    Calls Tryz.prog 42 #[.pointer (some ⟨k, 0, none⟩), .slice oa l cap] w fun e w' => e = .returned (.tuple #[]) ∧ KH w' k gi go W (m + l) (catF m G E) ∧ Own gi w w' := by
  have hc0 := h.cell0
  have H := Lib.hid h
  have HW : Hid (Calls Tryz.prog 63 #[.pointer (some ⟨gi, 0, none⟩), .slice oa l cap] w fun e w' => e = .returned (.tuple #[]) ∧ KH w' k gi go W (m + l) (catF m G E) ∧ Own gi w w') := Lib.hid (by
    refine (write_any gi (64 + m) l cap oa (catF 64 (xoK W 54) G) E w h.hi hb hlc hne (by omega) hg).mono ?_
    rintro e w' ⟨rfl, hS, hO⟩
    refine ⟨rfl, ⟨hO.blk h.kb h.ne.1, ?_, h.ho.own hO h.ne.2.2.symm, h.ne⟩, hO⟩
    rw [← Nat.add_assoc]
    refine hS.congr fun i hi => ?_
    by_cases e1 : i < 64
    · rw [catF_lo (by omega), catF_lo e1, catF_lo e1]
    · by_cases e2 : i < 64 + m
      · rw [catF_lo e2, catF_hi e1, catF_hi e1, catF_lo (by omega)]
      · rw [catF_hi e2, catF_hi e1, catF_hi (by omega)]; congr 1; omega)
  clear h hb hlc hne hn hg
  go_enter Tryz.func42, Tryz.ntmps42
  go_wp2_with fail
  refine HW.out.mono ?_
  rintro e w' ⟨rfl, hK, hO⟩
  have HR := Lib.hid (And.intro hK hO)
  clear hK hO HW
  go_wp2_with fail
  refine bodyPost_end (v := .tuple #[]) (by simp [results, Tryz.results42, go_sem]) rfl ?_
  exact ⟨rfl, HR.out⟩
set_option maxRecDepth 100000 in
set_option maxHeartbeats 2000000 in
theorem ksum_any (k gi go m : Nat) (W G : Nat → Nat) (w : World) (h : KH w k gi go W m G) (hn : m < 800000000000) (hg : GV w) :
    Calls Tryz.prog 43 #[.pointer (some ⟨k, 0, none⟩)] w fun e w' => e = .returned (.agg (rowC 32 (hmK W m G)).toArray) ∧ Below w.heap.size w w' := by
  have hz := zero32_run
  obtain ⟨wa, hwa⟩ : ∃ q, w.alloc (.cells zero32 22) = q := ⟨_, rfl⟩
  obtain ⟨D, hD⟩ : ∃ D, shaN (64 + m) (catF 64 (xoK W 54) G) = D := ⟨_, rfl⟩
  obtain ⟨M, hM⟩ : ∃ D, hmK W m G = D := ⟨_, rfl⟩
  obtain ⟨CD, hCD⟩ : ∃ C, (rowC 32 D).toArray = C := ⟨_, rfl⟩
  obtain ⟨CM, hCM⟩ : ∃ C, (rowC 32 M).toArray = C := ⟨_, rfl⟩
  have H1 : Hid (RB 22 32 w.heap.size (fun _ => 0) wa ∧ Below w.heap.size w wa ∧ GV wa ∧ KH wa k gi go W m G) := Lib.hid (by
    have hba : Below w.heap.size w wa := by rw [← hwa]; exact (Below.refl _ _).alloc (Nat.le_refl _) _
    exact ⟨by rw [← hwa]; exact Blk.new w _ _, hba, hg.later hba, h.later hba⟩)
  have HS1 : Hid (∀ w', KH w' k gi go W m G → GV w' → Calls Tryz.prog 64 #[.pointer (some ⟨gi, 0, none⟩)] w' fun e w'' => e = .returned (.agg CD) ∧ Below w'.heap.size w' w'') := Lib.hid fun w' h h' => by
    rw [← hCD, ← hD]; exact hsum_any gi (64 + m) _ w' h.hi (by omega) h'
  have HS2 : Hid (∀ g w', HS w' g (64 + 32) (catF 64 (xoK W 92) D) → GV w' → Calls Tryz.prog 64 #[.pointer (some ⟨g, 0, none⟩)] w' fun e w'' => e = .returned (.agg CM) ∧ Below w'.heap.size w' w'') := Lib.hid fun g w' h h' => by
    rw [← hCM, ← hM]; unfold hmK; rw [hD]; exact hsum_any g (64 + 32) _ w' h (by omega) h'
  have HI : Hid ((Tryz.prog.info? 22).map (·.size) = some CD.size) := Lib.hid (hCD ▸ info27 _)
  have HI1 : Hid (CD.all (·.oneCell') = true) := Lib.hid (hCD ▸ one32 _)
  have HJ : Hid ((Tryz.prog.info? 22).map (·.size) = some CM.size) := Lib.hid (hCM ▸ info27 _)
  have HJ1 : Hid (CM.all (·.oneCell') = true) := Lib.hid (hCM ▸ one32 _)
  have HCD := Lib.hid hCD
  have HCM := Lib.hid hCM
  have HD8 : Hid (∀ i, D i < 256) := Lib.hid (hD ▸ shaN_b _ _)
  rw [hM, hCM]
  have hc0 := H1.out.2.2.2.cell0
  clear h hn hg hD hM hCD hCM
  go_enter Tryz.func43, Tryz.ntmps43
  go_wp2_with fail
  clear hc0 hwa
  refine (HS1.out _ H1.out.2.2.2 H1.out.2.2.1).mono ?_
  rintro e w1 ⟨rfl, hb1⟩
  obtain ⟨g1, hg1⟩ : ∃ g, w1.heap.size = g := ⟨_, rfl⟩
  obtain ⟨wb, hwb⟩ : ∃ q, w1.alloc (.cells zero32 22) = q := ⟨_, rfl⟩
  obtain ⟨w2, hw2⟩ : ∃ q, wb.setCells g1 0 CD.toList = q := ⟨_, rfl⟩
  have hl := lay32 w1 D HCD.out
  rw [hg1, hwb, hw2] at hl
  have HTH := Lib.hid hl.2.2
  have H2 : Hid (RB 22 32 w.heap.size (fun _ => 0) w2 ∧ Below w.heap.size w w2 ∧ GV w2 ∧ KH w2 k gi go W m G ∧ RB 22 32 g1 D w2 ∧ w.heap.size < g1) := Lib.hid (by
    obtain ⟨a1, a2, a3, a4⟩ := H1.out
    have h3 : Below wa.heap.size wa w2 := hb1.trans (hl.2.1.mono (by rw [← hg1]; exact hb1.size))
    have := hb1.size
    have hlt := Blk.lt a1
    exact ⟨Blk.below a1 h3 hlt, a2.trans (h3.mono a2.size), a3.later h3, a4.later h3, hl.1, by omega⟩)
  clear hl hb1 H1
  have hc1 := H2.out.2.2.2.1.cell1
  go_wp2_with (first | (refine wpList_store_mid rfl 22 (.tmp 3) (.tmp 12) rfl g1 0 CD rfl rfl HTH.out HI.out HI1.out ?_; rw [hw2]))
  clear hw2 hwb hg1 HTH hz hc1
  refine (hclone_any go 64 _ _ H2.out.2.2.2.1.ho H2.out.2.2.1).mono ?_
  rintro e w3 ⟨gc, rfl, hcl, hb3, hgc⟩
  have H3 : Hid (RB 22 32 w.heap.size (fun _ => 0) w3 ∧ Below w.heap.size w w3 ∧ GV w3 ∧ HS w3 gc 64 (xoK W 92) ∧ RB 22 32 g1 D w3 ∧ w.heap.size < g1 ∧ g1 < gc) := Lib.hid (by
    obtain ⟨a1, a2, a3, a4, a5, a6⟩ := H2.out
    have hlt := Blk.lt a5
    exact ⟨Blk.below a1 hb3 (Blk.lt a1), a2.trans (hb3.mono a2.size), a3.later hb3, hcl, Blk.below a5 hb3 hlt, a6, by omega⟩)
  clear hcl hb3 hgc H2
  go_wp2_with fail
  refine (write_any gc 64 32 32 (some ⟨g1, 0, none⟩) (xoK W 92) D _ H3.out.2.2.2.1 (RB.bytes H3.out.2.2.2.2.1 fun i _ => HD8.out i) (Nat.le_refl _) (fun a ha _ => by cases ha; have := H3.out.2.2.2.2.2.2; show g1 ≠ gc; omega) (by decide) H3.out.2.2.1).mono ?_
  rintro e w4 ⟨rfl, hS, hO⟩
  have H4 : Hid (RB 22 32 w.heap.size (fun _ => 0) w4 ∧ Below w.heap.size w w4 ∧ GV w4 ∧ HS w4 gc (64 + 32) (catF 64 (xoK W 92) D)) := Lib.hid (by
    obtain ⟨a1, a2, a3, a4, a5, a6, a7⟩ := H3.out
    exact ⟨hO.blk a1 (by omega), a2.trans (hO.below (by omega) a2.size), a3.own hO a4.1.1 a4.1.2, hS⟩)
  clear hS hO H3
  go_wp2_with fail
  refine (HS2.out _ _ H4.out.2.2.2 H4.out.2.2.1).mono ?_
  rintro e w5 ⟨rfl, hb5⟩
  have H5 : Hid (RB 22 32 w.heap.size (fun _ => 0) w5 ∧ Below w.heap.size w w5) := Lib.hid (by
    obtain ⟨a1, a2, a3, a4⟩ := H4.out
    exact ⟨Blk.below a1 hb5 (Blk.lt a1), a2.trans (hb5.mono a2.size)⟩)
  clear hb5 H4
  have HX : Hid (Blk (w5.setCells w.heap.size 0 CM.toList) w.heap.size CM 22 ∧ w5.there w.heap.size 0 CM.size) := Lib.hid (by
    rw [← HCM.out]; exact ⟨Blk.setCells H5.out.1 (rowC 32 M) (by rw [rowC_size, rowC_len]), Blk.there H5.out.1 (by rw [rowC_size, rowC_size]; exact Nat.le_refl _)⟩)
  have HO : Hid (Below w.heap.size w (w5.setCells w.heap.size 0 CM.toList)) := Lib.hid (H5.out.2.trans ((Own.setCells _ 0 w5).below (Nat.le_refl _) H5.out.2.size))
  go_wp2_with (first | (refine wpList_store_mid rfl 22 (.tmp 2) (.tmp 22) rfl w.heap.size 0 CM rfl rfl HX.out.2 HJ.out HJ1.out ?_))
  refine bodyPost_ret (v := .agg CM) ?_ rfl ⟨rfl, HO.out⟩
  exact results_cell_row Tryz.results43 _ _ w.heap.size 22 CM (0, 0) _ rfl HX.out.1 Tryz.underlying22 rfl HJ.out
/-- The sum with a key. -/
def hmN (n : Nat) (K : Nat → Nat) (m : Nat) (G : Nat → Nat) : Nat → Nat := hmK (whK n K) m G
set_option maxRecDepth 100000 in
set_option maxHeartbeats 2000000 in
theorem mac_any (oa ob : Option Addr) (n cn m cm : Nat) (K G : Nat → Nat) (w : World) (hb : Bytes w oa n K) (hnc : n ≤ cn) (hno : oa = none → n = 0) (hn : n < 800000000000) (hb2 : Bytes w ob m G) (hmc : m ≤ cm) (hm : m < 800000000000) (hg : GV w) :
    Calls Tryz.prog 24 #[.slice oa n cn, .slice ob m cm] w fun e w' => e = .returned (.agg (rowC 32 (hmN n K m G)).toArray) ∧ Below w.heap.size w w' := by
  have hz := zero32_run
  obtain ⟨wa, hwa⟩ : ∃ q, w.alloc (.cells zero32 22) = q := ⟨_, rfl⟩
  obtain ⟨W, hW⟩ : ∃ D, whK n K = D := ⟨_, rfl⟩
  obtain ⟨M, hM⟩ : ∃ D, hmK W m G = D := ⟨_, rfl⟩
  obtain ⟨CM, hCM⟩ : ∃ C, (rowC 32 M).toArray = C := ⟨_, rfl⟩
  have H1 : Hid (RB 22 32 w.heap.size (fun _ => 0) wa ∧ Below w.heap.size w wa ∧ GV wa ∧ Bytes wa oa n K ∧ Bytes wa ob m G ∧ w.heap.size < wa.heap.size) := Lib.hid (by
    have hba : Below w.heap.size w wa := by rw [← hwa]; exact (Below.refl _ _).alloc (Nat.le_refl _) _
    exact ⟨by rw [← hwa]; exact Blk.new w _ _, hba, hg.later hba, hb.later hba, hb2.later hba, by rw [← hwa]; simp⟩)
  have HB2 : Hid (∀ a, ob = some a → 0 < m → a.block < w.heap.size) := Lib.hid hb2.lt
  have HNM : Hid (n ≤ cn ∧ n < 800000000000 ∧ m ≤ cm ∧ m < 800000000000) := Lib.hid ⟨hnc, hn, hmc, hm⟩
  have HNO := Lib.hid hno
  have HS1 : Hid (∀ k gi go w', KH w' k gi go W m G → GV w' → Calls Tryz.prog 43 #[.pointer (some ⟨k, 0, none⟩)] w' fun e w'' => e = .returned (.agg CM) ∧ Below w'.heap.size w' w'') := Lib.hid fun k gi go w' h h' => by
    rw [← hCM, ← hM]; exact ksum_any k gi go m W G w' h (by omega) h'
  have HJ : Hid ((Tryz.prog.info? 22).map (·.size) = some CM.size) := Lib.hid (hCM ▸ info27 _)
  have HJ1 : Hid (CM.all (·.oneCell') = true) := Lib.hid (hCM ▸ one32 _)
  have HCM := Lib.hid hCM
  have HW := Lib.hid hW
  unfold hmN
  rw [hW, hM, hCM]
  clear hb hb2 hnc hn hno hmc hm hg hW hM hCM
  go_enter Tryz.func24, Tryz.ntmps24
  go_wp2_with fail
  clear hwa hz
  refine (hmnew_any oa n cn K _ H1.out.2.2.2.1 HNM.out.1 HNM.out.2.1 HNO.out H1.out.2.2.1).mono ?_
  rintro e w1 ⟨k, gi, go, rfl, hK, hb1, hk1, hk2, hk3⟩
  have H2 : Hid (RB 22 32 w.heap.size (fun _ => 0) w1 ∧ Below w.heap.size w w1 ∧ GV w1 ∧ KH w1 k gi go W 0 G ∧ Bytes w1 ob m G ∧ w.heap.size < gi) := Lib.hid (by
    obtain ⟨a1, a2, a3, a4, a5, a6⟩ := H1.out
    exact ⟨Blk.below a1 hb1 a6, a2.trans (hb1.mono a2.size), a3.later hb1, HW.out ▸ hK G, a5.later hb1, by omega⟩)
  clear hK hb1 hk1 hk2 hk3 H1
  go_wp2_with fail
  refine (kwrite_any k gi go 0 m cm ob W G G _ H2.out.2.2.2.1 H2.out.2.2.2.2.1 HNM.out.2.2.1 (fun a ha hm => by have := HB2.out a ha hm; have := H2.out.2.2.2.2.2; omega) (by have := HNM.out; omega) H2.out.2.2.1).mono ?_
  rintro e w2 ⟨rfl, hK, hO⟩
  have H3 : Hid (RB 22 32 w.heap.size (fun _ => 0) w2 ∧ Below w.heap.size w w2 ∧ GV w2 ∧ KH w2 k gi go W m G) := Lib.hid (by
    obtain ⟨a1, a2, a3, a4, a5, a6⟩ := H2.out
    rw [Nat.zero_add] at hK
    exact ⟨hO.blk a1 (by omega), a2.trans (hO.below (by omega) a2.size), a3.own hO a4.hi.1.1 a4.hi.1.2, hK.congr fun i _ => by rw [catF_hi (Nat.not_lt_zero _), Nat.sub_zero]⟩)
  clear hK hO H2
  go_wp2_with fail
  refine (HS1.out _ _ _ _ H3.out.2.2.2 H3.out.2.2.1).mono ?_
  rintro e w5 ⟨rfl, hb5⟩
  have H5 : Hid (RB 22 32 w.heap.size (fun _ => 0) w5 ∧ Below w.heap.size w w5) := Lib.hid (by
    obtain ⟨a1, a2, a3, a4⟩ := H3.out
    exact ⟨Blk.below a1 hb5 (Blk.lt a1), a2.trans (hb5.mono a2.size)⟩)
  clear hb5 H3
  have HX : Hid (Blk (w5.setCells w.heap.size 0 CM.toList) w.heap.size CM 22 ∧ w5.there w.heap.size 0 CM.size) := Lib.hid (by
    rw [← HCM.out]; exact ⟨Blk.setCells H5.out.1 (rowC 32 M) (by rw [rowC_size, rowC_len]), Blk.there H5.out.1 (by rw [rowC_size, rowC_size]; exact Nat.le_refl _)⟩)
  have HO : Hid (Below w.heap.size w (w5.setCells w.heap.size 0 CM.toList)) := Lib.hid (H5.out.2.trans ((Own.setCells _ 0 w5).below (Nat.le_refl _) H5.out.2.size))
  go_wp2_with (first | (refine wpList_store_mid rfl 22 (.tmp 4) (.tmp 12) rfl w.heap.size 0 CM rfl rfl HX.out.2 HJ.out HJ1.out ?_))
  refine bodyPost_ret (v := .agg CM) ?_ rfl ⟨rfl, HO.out⟩
  exact results_cell_row Tryz.results24 _ _ w.heap.size 22 CM (0, 0) _ rfl HX.out.1 Tryz.underlying22 rfl HJ.out
end Go.Proofs.YtncfocjmdecapaaGreatDoor
