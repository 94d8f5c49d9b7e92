/- What the law is sure of. -/
import Derived.Test.YtcdeamokkbondaaDoorWi7
import Derived.Test.YtcdeamokkbondaaDoorNum31
namespace Go.Proofs.YtcdeamokkbondaaDoor
set_option linter.unusedVariables false
set_option linter.unusedSimpArgs false
open Go.RowKit

def sL : Nat → Nat := fun i => if i = 0 then 1 else 0
def sG : Nat → Nat → Nat := fun _ _ => 97
theorem s_wl : wl sL 2 = 6 := by decide
theorem s_fits : Fits 6 (wf 2 sL sG 2) := by decide
theorem s_head : wf 2 sL sG 2 0 = 2 := by decide
theorem s_str : strF 6 (wf 2 sL sG 2) = ⟨#[2, 0, 1, 97, 0, 0]⟩ := by decide
theorem conv97 (w : World) : (convert 23 23 (.slice (some ⟨w.heap.size, 0, none⟩) 1 1)).run Tryd.prog (w.alloc (.cells #[.int .u8 97] 5)) = .ok (.slice (some ⟨w.heap.size, 0, none⟩) 1 1) (w.alloc (.cells #[.int .u8 97] 5 (1, 2))) :=
  Joins.run_convert_bytes_const_at w 23 5 #[.int .u8 97] 1 1 w.heap.size rfl Tryd.underlying23 Tryd.underlying5
theorem s_rows (w1 : World) (g : Nat) (hB : w1.cell? ⟨g, 0, none⟩ = some (.int .u8 97)) : LBs (w1.alloc (.cells #[.slice (some ⟨g, 0, none⟩) 1 1, .slice none 0 0] 23)) (some ⟨w1.heap.size, 0, none⟩) 2 sL sG := fun i hi => by
  have hal : Below w1.heap.size w1 (w1.alloc (.cells #[.slice (some ⟨g, 0, none⟩) 1 1, .slice none 0 0] 23)) := (Below.refl _ _).alloc (Nat.le_refl _) _
  rcases (by omega : i = 0 ∨ i = 1) with rfl | rfl
  · refine ⟨w1.heap.size, 0, some ⟨g, 0, none⟩, 1, rfl, World.cell?_alloc_mark w1 #[.slice (some ⟨g, 0, none⟩) 1 1, .slice none 0 0] 23 (0, 0) 0, by decide, fun k hk => ⟨by show 97 < 256; omega, g, 0, rfl, ?_⟩, (fun e => by cases e), by unfold maxLen; omega⟩
    have hk0 : k = 0 := by have h : k < 1 := hk; omega
    subst hk0
    exact cell_below hal hB
  · exact ⟨w1.heap.size, 0, none, 0, rfl, World.cell?_alloc_mark w1 #[.slice (some ⟨g, 0, none⟩) 1 1, .slice none 0 0] 23 (0, 0) 1, by decide, fun k hk => absurd hk (Nat.not_lt_zero _), fun _ => rfl, by unfold maxLen; omega⟩
set_option maxRecDepth 100000 in
set_option maxHeartbeats 4000000 in
theorem wire_sure (w : World) (hg : Handle w) : Calls Tryd.prog 7 #[] w fun e w' => e = .returned (.bool true) ∧ Below w.heap.size w w' := by
  have HG := Lib.hid hg
  have hcv := conv97 w
  obtain ⟨w1, hw1⟩ : ∃ z, w.alloc (.cells #[.int .u8 97] 5 (1, 2)) = z := ⟨_, rfl⟩
  have hb1 : Below w.heap.size w w1 := by rw [← hw1]; exact (Below.refl _ _).alloc (Nat.le_refl _) _
  have hc1 : w1.cell? ⟨w.heap.size, 0, none⟩ = some (.int .u8 97) := by rw [← hw1]; exact World.cell?_alloc_mark w #[.int .u8 97] 5 (1, 2) 0
  have H1 := Lib.hid hb1
  have HC1 := Lib.hid hc1
  rw [hw1] at hcv
  clear hg hb1 hc1
  go_enter Tryd.func7, Tryd.ntmps7
  go_wp2_with fail
  clear hcv hw1
  refine (enc_any (some ⟨w1.heap.size, 0, none⟩) 2 2 sL sG _ (s_rows w1 w.heap.size HC1.out) (by unfold maxLen; omega) (fun i hi => by unfold sL; split <;> omega)).mono ?_
  rintro e w2 ⟨hb2, he2⟩
  rw [s_wl] at he2
  rcases he2 with ⟨_, _, o, c, rfl, hB2, hc2, hm2⟩ | ⟨hbad, _⟩
  case inr => exfalso; omega
  have H2 : Hid (Below w.heap.size w w2 ∧ Bytes w2 (some o) 6 (wf 2 sL sG 2) ∧ 6 ≤ c ∧ c ≤ maxLen) := Lib.hid (by
    have hal : Below w1.heap.size w1 (w1.alloc (.cells #[.slice (some ⟨w.heap.size, 0, none⟩) 1 1, .slice none 0 0] 23)) := (Below.refl _ _).alloc (Nat.le_refl _) _
    exact ⟨H1.out.trans ((hal.trans (hb2.mono hal.size)).mono H1.out.size), hB2, hc2, hm2⟩)
  clear hb2 hB2 hc2 hm2 H1 HC1
  go_wp2_with fail
  refine (dec_any (some o) 6 c (wf 2 sL sG 2) w2 H2.out.2.1 H2.out.2.2.1 H2.out.2.2.2).mono ?_
  rintro e w3 ⟨hb3, he3⟩
  rw [s_head] at he3
  rcases he3 with ⟨_, oa, c3, rfl, _, _, _, _⟩ | ⟨hbad, _⟩ | ⟨_, hbad, _⟩
  case inr.inl => exfalso; omega
  case inr.inr => exact absurd s_fits hbad
  have H3 : Hid (Below w.heap.size w w3 ∧ Bytes w3 (some o) 6 (wf 2 sL sG 2)) := Lib.hid ⟨H2.out.1.trans (hb3.mono H2.out.1.size), H2.out.2.1.later hb3⟩
  clear hb3 H2
  go_wp2_with fail
  refine (num_any 258 w3 (by omega)).mono ?_
  rintro e w4 ⟨hb4, a4, c4, rfl, hB4, _, _, _⟩
  have H4 : Hid (Below w.heap.size w w4 ∧ Bytes w4 (some o) 6 (wf 2 sL sG 2) ∧ Bytes w4 (some a4) 8 (numB 258 8)) := Lib.hid ⟨H3.out.1.trans (hb4.mono H3.out.1.size), H3.out.2.later hb4, hB4⟩
  clear hb4 hB4 H3
  go_wp2_with fail
  refine (read_any (some a4) 8 c4 (numB 258 8) w4 H4.out.2.2 (by unfold maxLen; omega)).mono ?_
  rintro e w5 ⟨hb5, he5⟩
  rw [rd_num (by omega)] at he5
  rcases he5 with ⟨_, rfl⟩ | ⟨hbad, _⟩
  case inr => exact absurd rfl hbad
  have H5 : Hid (Below w.heap.size w w5 ∧ Bytes w5 (some o) 6 (wf 2 sL sG 2)) := Lib.hid ⟨H4.out.1.trans (hb5.mono H4.out.1.size), H4.out.2.1.later hb5⟩
  clear hb5 H4
  go_wp2_with fail
  refine (read_any none 0 0 (fun _ => 0) w5 (fun k hk => absurd hk (Nat.not_lt_zero _)) (by unfold maxLen; omega)).mono ?_
  rintro e w6 ⟨hb6, he6⟩
  rcases he6 with ⟨hbad, _⟩ | ⟨_, rfl⟩
  case inl => exfalso; omega
  have H6 : Hid (Below w.heap.size w w6 ∧ Bytes w6 (some o) 6 (wf 2 sL sG 2) ∧ Handle w6) := Lib.hid (by
    have h := H5.out.1.trans (hb6.mono H5.out.1.size)
    exact ⟨h, H5.out.2.later hb6, HG.out.later h⟩)
  clear hb6 H5
  go_wp2_with (refine wpList_valueG (by kernel_rfl) (exec_convO (x := .tmp 41) rfl rfl (conv_any H6.out.2.1 (fun e => by cases e))) ?_; rw [s_str])
  refine (num_err 4 w6 H6.out.2.2).mono ?_
  rintro e w7 ⟨rfl, hb7⟩
  go_wp2_with fail
  go_ret
  exact ⟨rfl, H6.out.1.trans (hb7.mono H6.out.1.size)⟩
end Go.Proofs.YtcdeamokkbondaaDoor
