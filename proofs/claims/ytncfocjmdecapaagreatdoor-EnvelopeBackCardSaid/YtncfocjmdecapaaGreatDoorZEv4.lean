/- What was sealed is opened; a bit of a tag, turned. Plain. -/
import Derived.Test.YtncfocjmdecapaaGreatDoorZB0
import Derived.Test.YtncfocjmdecapaaGreatDoorZS1
import Derived.Test.YtncfocjmdecapaaGreatDoorZS2
import Derived.Test.YtncfocjmdecapaaGreatDoorZSh4
import Derived.Test.YtncfocjmdecapaaGreatDoorZA0
import Derived.Test.YtncfocjmdecapaaGreatDoorZS5
import Derived.Test.YtncfocjmdecapaaGreatDoorZSh7
import Derived.Test.YtncfocjmdecapaaGreatDoorZS8
import Derived.Test.YtncfocjmdecapaaGreatDoorZHm2
import Derived.Test.YtncfocjmdecapaaGreatDoorZR0
import Derived.Test.YtncfocjmdecapaaGreatDoorZK0
import Derived.Test.YtncfocjmdecapaaGreatDoorZK4
import Derived.Test.YtncfocjmdecapaaGreatDoorZKr5
import Derived.Test.YtncfocjmdecapaaGreatDoorZF1
import Derived.Test.YtncfocjmdecapaaGreatDoorZF2
import Derived.Test.YtncfocjmdecapaaGreatDoorZB16
import Derived.Test.YtncfocjmdecapaaGreatDoorZAe1
import Derived.Test.YtncfocjmdecapaaGreatDoorZAe2
import Derived.Test.YtncfocjmdecapaaGreatDoorZC0
import Derived.Test.YtncfocjmdecapaaGreatDoorZV1
import Derived.Test.YtncfocjmdecapaaGreatDoorZK6
import Derived.Test.YtncfocjmdecapaaGreatDoorZEv2
import Derived.Test.YtncfocjmdecapaaGreatDoorZEv3
namespace Go.Proofs.YtncfocjmdecapaaGreatDoor
set_option linter.unusedVariables false
set_option linter.unusedSimpArgs false
open Go.RowKit
theorem ctrB_congr {f g : Nat → Nat} (h : ∀ i, i < 12 → f i = g i) (c : Nat) : ctrB f c = ctrB g c := by
  funext i
  unfold ctrB
  by_cases e : i < 12
  · rw [if_pos e, if_pos e, h i e]
  · rw [if_neg e, if_neg e]
theorem cW_congr {f g : Nat → Nat} (h : ∀ i, i < 12 → f i = g i) (W : Nat → Nat) (c : Nat) : cW W f c = cW W g c := by unfold cW; rw [ctrB_congr h]
theorem cph_nn {f g : Nat → Nat} (h : ∀ i, i < 12 → f i = g i) (W p : Nat → Nat) : cphF W f p = cphF W g p := by
  funext i; unfold cphF; rw [cW_congr h]
theorem tg_nn {f g : Nat → Nat} (h : ∀ i, i < 12 → f i = g i) (W a : Nat → Nat) (an : Nat) (c : Nat → Nat) (cn : Nat) : tgF W f a an c cn = tgF W g a an c cn := by unfold tgF; rw [cW_congr h]
/-- What was sealed is opened. -/
theorem box_tag (W nn p : Nat → Nat) (n : Nat) (a : Nat → Nat) (an : Nat) : eqF (tgF W nn a an (boxF W nn p n a an) n) (fun i => boxF W nn p n a an (n + i)) = true := by
  refine eqF_iff.2 fun i _ => ?_
  rw [tgF_congr (d := cphF W nn p) (fun j hj => by unfold boxF catF; rw [if_pos hj])]
  show _ = boxF W nn p n a an (n + i)
  unfold boxF catF
  rw [if_neg (by omega), Nat.add_sub_cancel_left]
theorem box_open (W nn p : Nat → Nat) (n : Nat) (a : Nat → Nat) (an : Nat) (i : Nat) (hi : i < n) : cphF W nn (boxF W nn p n a an) i = p i := by
  rw [cphF_congr (q := cphF W nn p) (by unfold boxF catF; rw [if_pos hi]), cphF_back]
/-- A byte of the tag, another one. -/
theorem box_flip (W nn p : Nat → Nat) (n : Nat) (a : Nat → Nat) (an j Y : Nat) (hj : j < 16) (hY : Y ≠ boxF W nn p n a an (n + j)) : eqF (tgF W nn a an (upd (boxF W nn p n a an) (n + j) Y) n) (fun i => upd (boxF W nn p n a an) (n + j) Y (n + i)) = false := by
  cases h : eqF (tgF W nn a an (upd (boxF W nn p n a an) (n + j) Y) n) (fun i => upd (boxF W nn p n a an) (n + j) Y (n + i)) with
  | false => rfl
  | true =>
    have h1 := eqF_iff.1 h j hj
    rw [tgF_congr (d := cphF W nn p) (fun i hi => by unfold upd; rw [if_neg (by omega)]; unfold boxF catF; rw [if_pos hi])] at h1
    have h3 : upd (boxF W nn p n a an) (n + j) Y (n + j) = Y := by unfold upd; rw [if_pos rfl]
    have h4 : boxF W nn p n a an (n + j) = tgF W nn a an (cphF W nn p) n j := by unfold boxF catF; rw [if_neg (by omega), Nat.add_sub_cancel_left]
    exact absurd ((h3.symm.trans h1.symm).trans h4.symm) hY
/-- A ring's box behind its number. -/
theorem ring_behind (K : Nat → Nat) (m : Nat) (G : Nat → Nat) : (fun i => rbF K m G (12 + i)) = boxF (ekW K sR 0) (rnF K m G) G m beR 9 := by
  funext i
  unfold rbF catF
  rw [if_neg (by omega), Nat.add_sub_cancel_left]
theorem ring_first (K : Nat → Nat) (m : Nat) (G : Nat → Nat) : ∀ i, i < 12 → rbF K m G i = rnF K m G i := fun i hi => by
  unfold rbF catF
  rw [if_pos hi]
theorem rt_ok (K : Nat → Nat) (m : Nat) (G : Nat → Nat) : rtB K (rbF K m G) m = true := by
  unfold rtB
  rw [tg_nn (ring_first K m G), ring_behind]
  have h : (fun i => rbF K m G (12 + (m + i))) = fun i => boxF (ekW K sR 0) (rnF K m G) G m beR 9 (m + i) := by
    funext i
    exact congrFun (ring_behind K m G) (m + i)
  rw [h]
  exact box_tag _ _ _ _ _ _
theorem rd_ok (K : Nat → Nat) (m : Nat) (G : Nat → Nat) (i : Nat) (hi : i < m) : rdF K (rbF K m G) i = G i := by
  unfold rdF
  rw [cph_nn (ring_first K m G), ring_behind]
  exact box_open _ _ _ _ _ _ _ hi
theorem rt_flip (K : Nat → Nat) (m : Nat) (G : Nat → Nat) (j Y : Nat) (hj : j < 16) (hY : Y ≠ rbF K m G (12 + (m + j))) : rtB K (upd (rbF K m G) (12 + (m + j)) Y) m = false := by
  have hf : ∀ i, i < 12 → upd (rbF K m G) (12 + (m + j)) Y i = rnF K m G i := fun i hi => by
    unfold upd
    rw [if_neg (by omega)]; exact ring_first K m G i hi
  have hb : ∀ i, upd (rbF K m G) (12 + (m + j)) Y (12 + i) = upd (boxF (ekW K sR 0) (rnF K m G) G m beR 9) (m + j) Y i := fun i => by
    unfold upd
    by_cases e : i = m + j
    · rw [if_pos e, if_pos (by omega)]
    · rw [if_neg e, if_neg (by omega)]; exact congrFun (ring_behind K m G) i
  unfold rtB
  rw [tg_nn hf, show (fun i => upd (rbF K m G) (12 + (m + j)) Y (12 + i)) = upd (boxF (ekW K sR 0) (rnF K m G) G m beR 9) (m + j) Y from funext hb, show (fun i => upd (rbF K m G) (12 + (m + j)) Y (12 + (m + i))) = fun i => upd (boxF (ekW K sR 0) (rnF K m G) G m beR 9) (m + j) Y (m + i) from funext fun i => hb (m + i)]
  refine box_flip _ _ _ _ _ _ j Y hj fun e => hY ?_
  rw [e]; exact (congrFun (ring_behind K m G) (m + j)).symm
theorem IsRing.congr {m : Nat} {B D : Nat → Nat} (h : IsRing m B) (he : ∀ i, i < m → D i = B i) : IsRing m D := by
  obtain ⟨h0, h1, h2, h3, h4, h5⟩ := h
  exact ⟨h0, by rw [he 0 (by omega)]; exact h1, by rw [he 1 (by omega)]; exact h2, by rw [he 2 (by omega)]; exact h3, by rw [he 2 (by omega)]; exact h4, by rw [he 2 (by omega)]; exact h5⟩
theorem enc_isring (n : Nat) (S : Nat → Nat → Nat) (h : 1 ≤ n ∧ n ≤ 16) : IsRing (3 + 32 * n) (encF n S) := ⟨by omega, rfl, rfl, by show 1 ≤ n; exact h.1, by show n ≤ 16; exact h.2, by show 3 + 32 * n = 3 + 32 * n; rfl⟩
theorem grow_cell {w : World} {base g n cp i : Nat} {f : Nat → Nat} (h : Grow w base (.slice (some ⟨g, 0, none⟩) n cp) n f) (hi : i < n) : w.cell? ⟨g, i, none⟩ = some (.int .u8 (f i : Nat)) ∧ w.frozen? ⟨g, i, none⟩ = false := by
  rcases h.2 with ⟨e, _⟩ | ⟨g', cap', cur, e, _, h3, h4, h5, h6, h7⟩
  · cases e
  · cases e
    have hC : Blk w g cur 5 := h3
    refine ⟨?_, Blk.free hC _⟩
    rw [Blk.cell hC]
    have h8 : (cur.toList.take (n * 1))[i]? = (rowC n f)[i]? := by rw [h7]
    rw [rowC_get f hi, List.getElem?_take, if_pos (by omega)] at h8
    simpa using h8
theorem grow_put {w : World} {base g n cp i Y : Nat} {f : Nat → Nat} (h : Grow w base (.slice (some ⟨g, 0, none⟩) n cp) n f) (hi : i < n) (hY : Y < 256) (hf : ∀ k, k < n → f k < 256) : Bytes (w.setCell ⟨g, i, none⟩ (.int .u8 (Y : Int))) (some ⟨g, 0, none⟩) n (upd f i Y) := fun k hk => by
  refine ⟨?_, g, 0, rfl, ?_⟩
  · unfold upd; split
    · exact hY
    · exact hf k hk
  have hck := (grow_cell h hk).1
  have hci := (grow_cell h hi).1
  rcases h.2 with ⟨e, _⟩ | ⟨g', cap', cur, e, _, h3, _⟩
  · cases e
  · cases e
    have hC : Blk w g cur 5 := h3
    have hl : i < cur.size := by
      rw [Blk.cell hC] at hci
      rcases Nat.lt_or_ge i cur.size with h | h
      · exact h
      · rw [Array.getElem?_eq_none h] at hci; cases hci
    have hC3 := Blk.set hC i (.int .u8 (Y : Int))
    rw [Nat.zero_add, Blk.cell hC3 k, Array.getElem?_setIfInBounds]
    by_cases e : i = k
    · subst e; simp [hl, upd]
    · rw [if_neg e, ← Blk.cell hC, hck]
      unfold upd; rw [if_neg (fun h => e h.symm)]
end Go.Proofs.YtncfocjmdecapaaGreatDoor
