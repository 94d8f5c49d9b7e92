/- Blocks: sums, and blocks as words, and words as blocks. -/
import Derived.Test.YtbighpacggbllaaDoorB16
import Derived.Test.YtbighpacggbllaaDoorAe0
import Derived.Test.YtbighpacggbllaaDoorGh0
import Derived.Test.YtbighpacggbllaaDoorSetC
import Derived.Lib.Hide
import Derived.IntWalk
import Derived.RegionTactic
import Derived.Laws.BitsLemmas
import Derived.Laws.BitsAllLaws
import Derived.Outline
namespace Go.Proofs.YtbighpacggbllaaDoor
set_option linter.unusedVariables false
set_option linter.unusedSimpArgs false
open Go.RowKit

/-- Behind k rounds of a sum. -/
def AI (w0 : World) (f g : Nat → Nat) (k : Nat) (wr : World) : Prop := B16 wr w0.heap.size (fun i => if i < k then f i ^^^ g i else f i) ∧ B16 wr (w0.heap.size + 1) g ∧ B16 wr (w0.heap.size + 1 + 1) (fun _ => 0) ∧ Below w0.heap.size w0 wr
theorem AI.drew {w0 wr : World} {f g : Nat → Nat} {k : Nat} (h : AI w0 f g k wr) : AI w0 f g k wr.drew := ⟨h.1, h.2.1, h.2.2.1, h.2.2.2.drew⟩
theorem AI.next {w0 wr : World} {f g : Nat → Nat} {k : Nat} (h : AI w0 f g k wr) (hk : k < 16) : AI w0 f g (k + 1) (wr.setCell ⟨w0.heap.size, k, none⟩ (.int .u8 ((f k ^^^ g k : Nat) : Int))) := by
  obtain ⟨h1, h2, h3, h4⟩ := h
  refine ⟨B16.congr (h1.set k (f k ^^^ g k)) fun i _ => ?_, Blk.set_other h2 (by simp) _, Blk.set_other h3 (by simp; omega) _, h4.setCell (Nat.le_refl _) _⟩
  unfold upd
  by_cases e : i = k
  · subst e; rw [if_pos rfl, if_pos (by omega)]
  · rw [if_neg e]
    show (if i < k then f i ^^^ g i else f i) = (if i < k + 1 then f i ^^^ g i else f i)
    by_cases h5 : i < k
    · rw [if_pos h5, if_pos (by omega)]
    · rw [if_neg h5, if_neg (by omega)]

set_option maxRecDepth 100000 in
set_option maxHeartbeats 4000000 in
theorem gadd_any (f g : Nat → Nat) (w : World) (hf : ∀ i, i < 16 → f i < 256) (hg : ∀ i, i < 16 → g i < 256) :
    Calls Tryd.prog 25 #[.agg (rowC 16 f).toArray, .agg (rowC 16 g).toArray] w fun e w' => e = .returned (.agg (rowC 16 (addF f g)).toArray) ∧ Below w.heap.size w w' := by
  have hz := zero16_run
  have HF := Lib.hid hf
  have HG := Lib.hid hg
  clear hf hg
  obtain ⟨C, hC⟩ : ∃ C, (rowC 16 f).toArray = C := ⟨_, rfl⟩
  obtain ⟨D, hD⟩ : ∃ C, (rowC 16 g).toArray = C := ⟨_, rfl⟩
  rw [hC, hD]
  have HC := Lib.hid hC
  have HD := Lib.hid hD
  clear hC hD
  have HT := Lib.hid (show AI w f g 0 (((w.alloc (.cells C 43)).alloc (.cells D 43)).alloc (.cells zero16 43)) by
    rw [← HC.out, ← HD.out]
    refine ⟨?_, ?_, ?_, (((Below.refl _ _).alloc (Nat.le_refl _) _).alloc (by simp) _).alloc (by simp; omega) _⟩
    · exact B16.congr (((Blk.new w _ 43).alloc _).alloc _) fun i _ => (if_neg (Nat.not_lt_zero i)).symm
    · have := (Blk.new (w.alloc (.cells (rowC 16 f).toArray 43)) (rowC 16 g).toArray 43).alloc (.cells zero16 43)
      unfold B16; simpa using this
    · have := Blk.new ((w.alloc (.cells (rowC 16 f).toArray 43)).alloc (.cells (rowC 16 g).toArray 43)) zero16 43
      show Blk _ _ zero16 _; simpa using this)
  go_enter Tryd.func25, Tryd.ntmps25
  go_wp2_with fail
  clear hz
  go_loopw [6] (fun i wr => ∃ k : Nat, k ≤ 16 ∧ i = .int .i64 (k : Int) ∧ AI w f g k wr) (fun i _ => 16 - (intOf i).toNat)
  case atStart => exact ⟨0, Nat.zero_le _, rfl, HT.out⟩
  case round =>
    obtain ⟨k, hk, rfl, hT⟩ := hrel
    by_cases hlt : k < 16
    · obtain ⟨hX, hY, hZ, hO⟩ := hT
      have cx : wr.cell? ⟨w.heap.size, k, none⟩ = some (.int .u8 (f k : Nat)) := by
        have := hX.cell hlt; rw [if_neg (Nat.lt_irrefl _)] at this; exact this
      have zx : wr.frozen? ⟨w.heap.size, k, none⟩ = false := Blk.free hX k
      have cy : wr.cell? ⟨w.heap.size + 1, k, none⟩ = some (.int .u8 (g k : Nat)) := hY.cell hlt
      have e1 : bits .xor .u8 (f k : Int) (g k : Int) = ((f k ^^^ g k : Nat) : Int) := u8_xor_nat _ _ (HF.out k hlt) (HG.out k hlt)
      have HN := Lib.hid (AI.next ⟨hX, hY, hZ, hO⟩ hlt)
      have k0 : (0 : Int) ≤ (k : Int) := by omega
      have k1 : (k : Int) < 16 := by omega
      clear hX hY hZ hO
      generalize f k ^^^ g k = r at *
      generalize f k = p at *
      generalize g k = q at *
      go_wp2_with fail
      go_region
      all_goals
        go_wp2_with fail
        go_roundw
        case rel => exact ⟨k + 1, by omega, by go_num, by first | exact HN.out | exact HN.out.drew⟩
        case measure => simp [intOf]; omega
    · obtain rfl : k = 16 := by omega
      obtain ⟨hX, hY, hZ, hO⟩ := hT
      have hX' : B16 wr w.heap.size (addF f g) := hX.congr fun i hi => if_pos hi
      obtain ⟨E, hE⟩ : ∃ E, (rowC 16 (addF f g)).toArray = E := ⟨_, rfl⟩
      have HX : Hid (Blk wr w.heap.size E 43) := Lib.hid (hE ▸ hX')
      have HTh : Hid (wr.there (w.heap.size + 1 + 1) 0 E.size) := Lib.hid (hE ▸ hZ.there (addF f g))
      have HI : Hid ((Tryd.prog.info? 43).map (·.size) = some E.size) := Lib.hid (hE ▸ info16 (addF f g))
      have HON : Hid (E.all (·.oneCell') = true) := Lib.hid (hE ▸ one16 (addF f g))
      have HN : Hid (Blk (wr.setCells (w.heap.size + 1 + 1) 0 E.toList) (w.heap.size + 1 + 1) E 43) := Lib.hid (hE ▸ hZ.store (addF f g))
      have HOw : Hid (Own (w.heap.size + 1 + 1) wr (wr.setCells (w.heap.size + 1 + 1) 0 E.toList)) := Lib.hid (Own.setCells _ _ _)
      have HO := Lib.hid hO
      have HE := Lib.hid hE
      clear hX hY hZ hO hX' hE hlt hk HT
      go_wp2_with (first
        | (refine wpList_load_row rfl 43 (.tmp 2) rfl w.heap.size rfl 43 E (0, 0) _ HX.out Tryd.underlying43 rfl HI.out ?_)
        | (refine wpList_store_mid rfl 43 (.tmp 4) (.tmp 18) rfl (w.heap.size + 1 + 1) 0 E rfl rfl HTh.out HI.out HON.out ?_))
      refine bodyPost_ret (v := .agg E) ?_ rfl ⟨by rw [HE.out], ?_⟩
      · exact results_cell_row Tryd.results25 _ _ (w.heap.size + 1 + 1) 43 E (0, 0) _ rfl HN.out Tryd.underlying43 rfl HI.out
      · exact HO.out.trans (HOw.out.below (by omega) HO.out.size)
end Go.Proofs.YtbighpacggbllaaDoor
