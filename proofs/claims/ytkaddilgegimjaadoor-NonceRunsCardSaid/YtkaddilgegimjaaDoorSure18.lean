/- What layer 18's laws ask of whatever input. -/
import Derived.Test.YtkaddilgegimjaaDoorNb
import Derived.Laws.BytesArg
namespace Go.Proofs.YtkaddilgegimjaaDoor
set_option linter.unusedVariables false
set_option linter.unusedSimpArgs false
open Go.RowKit

theorem row_cells18 {w : World} {base : Nat} {e : TypeId} {v : Value} {n : Nat} {xs : List Value} (h : w.ownsRow base e 1 v n xs) (hn : 0 < n) :
    ∃ g cap, v = .slice (some ⟨g, 0, none⟩) n cap ∧ base ≤ g ∧ ∀ i, i < n → w.cell? ⟨g, i, none⟩ = xs[i]? := by
  rcases h.2 with ⟨_, h0⟩ | ⟨g, cap, cur, hv, hb, hh, hnc, _, hsz, hcur⟩
  · omega
  · refine ⟨g, cap, hv, hb, fun i hi => ?_⟩
    have h1 : w.cell? ⟨g, i, none⟩ = cur[i]? := by simp [World.cell?, hh]
    rw [h1, ← hcur, List.getElem?_take_of_lt (by omega)]
    simp

set_option maxHeartbeats 1000000 in
theorem sure_any (w : World) (h : Handle w) :
    Calls Tryd.prog 25 #[] w fun e w' => e = .returned (.bool true) ∧ Below w.heap.size w w' := by
  go_enter Tryd.func25, Tryd.ntmps25
  go_wp2_with fail
  refine (new_any _ _ _ (by decide) (by decide)).mono ?_
  rintro e w1 ⟨rfl, hC1, hB1⟩
  go_wp2_with fail
  refine (take_short _ _ _ _ hC1).mono ?_
  rintro e w' ⟨rfl, rfl⟩
  go_wp2_with fail
  refine (ext_more _ _ _ _ _ hC1 (by decide) (by decide)).mono ?_
  rintro e w2 ⟨rfl, hC2, hO2⟩
  rw [show extI 3 10 = 10 from rfl] at hC2 ⊢
  go_wp2_with fail
  refine (take_next _ _ _ _ _ hC2 (by decide) (by decide)).mono ?_
  rintro e w3 ⟨rfl, hC3, hO3⟩
  rw [show (3 : Int) + 1 = 4 from rfl] at hC3
  go_wp2_with fail
  refine (ext_full _ _ _ _ hC3).mono ?_
  rintro e w' ⟨rfl, rfl⟩
  have hb3 : Below w.heap.size w w3 := hB1.trans ((hO2.below (Nat.le_refl _) hB1.size).trans (hO3.below (Nat.le_refl _) (Nat.le_trans hB1.size hO2.size)))
  have h3 := h.later hb3
  go_wp2_with fail
  refine (num_err 2 _ h3).mono ?_
  rintro e w4 ⟨rfl, hb4⟩
  have h4 := h3.later hb4
  go_wp2_with fail
  refine (num_err 8 _ h4).mono ?_
  rintro e w5 ⟨rfl, hb5⟩
  have hC5 : Ctr w5 w.heap.size 4 10 10 := Blk.below (Blk.below hC3 hb4 hC3.lt) hb5 (Nat.lt_of_lt_of_le hC3.lt hb4.size)
  go_wp2_with fail
  refine (left_any _ _ _ _ _ hC5 (by decide)).mono ?_
  rintro e w' ⟨rfl, rfl⟩
  rw [show (10 : Int) - 4 = 6 from rfl]
  go_wp2_with fail
  refine (nb_any _ _ _ (by decide) (by decide)).mono ?_
  rintro e w6 ⟨v, rfl, hown, hb6⟩
  obtain ⟨g, cap, hv, hg, hcell⟩ := row_cells18 hown (by decide)
  have hconv : (convert 31 9 (.slice (some ⟨g, 0, none⟩) 12 cap)).run Tryd.prog w6 = .ok (.string ⟨#[0, 0, 0, 1, 0, 0, 0, 0, 0, 0, 0, 2]⟩) w6 :=
    run_convert_bytes_arg w6 31 5 Tryd.underlying31 Tryd.underlying5 g 0 12 cap [0, 0, 0, 1, 0, 0, 0, 0, 0, 0, 0, 2] rfl (fun i hi => by
      rw [Nat.zero_add, hcell i hi]
      match i, hi with
      | 0, _ => rfl | 1, _ => rfl | 2, _ => rfl | 3, _ => rfl | 4, _ => rfl | 5, _ => rfl | 6, _ => rfl | 7, _ => rfl | 8, _ => rfl | 9, _ => rfl | 10, _ => rfl | 11, _ => rfl) 9 Tryd.underlying9
  rw [hv]
  clear hown hcell hv
  go_wp2_with fail
  go_ret
  exact ⟨rfl, hb3.trans ((hb4.mono hb3.size).trans ((hb5.mono (Nat.le_trans hb3.size hb4.size)).trans (hb6.mono (Nat.le_trans hb3.size (Nat.le_trans hb4.size hb5.size)))))⟩

end Go.Proofs.YtkaddilgegimjaaDoor
