/- A disk: all sectors' bytes, as they are safe. -/
import Derived.Test.YtcohllhmfghlfaaDoorDk9
import Derived.Test.YtcohllhmfghlfaaDoorApo
namespace Go.Proofs.YtcohllhmfghlfaaDoor
set_option linter.unusedVariables false
set_option linter.unusedSimpArgs false
open Go.RowKit

def allF (S : Nat → Nat → Nat) (k : Nat) : Nat := S (k / 64) (k % 64)
theorem allF_cat {S : Nat → Nat → Nat} {j : Nat} : ∀ k, k < 64 * j + 64 → catF (64 * j) (allF S) (S j) k = allF S k := fun k hk => by
  unfold catF
  by_cases h : k < 64 * j
  · rw [if_pos h]
  · rw [if_neg h]
    unfold allF
    rw [show k / 64 = j by omega, show k % 64 = k - 64 * j by omega]
set_option maxRecDepth 100000 in
set_option maxHeartbeats 4000000 in
theorem safe_any {w : World} {B d sb : Nat} {v : Value} {s : DS} (h : DK w B d sb v s) :
    Calls Tryd.prog 19 #[.pointer (some ⟨d, 0, none⟩)] w fun e w' => ∃ a, e = .returned a ∧ JG w a (64 * s.n) (allF s.S) w' := by
  have hz := zS_run
  obtain ⟨c0, _⟩ := h.c0
  have hn := h.n0.2
  have n0 : (s.n : Int) ≤ 9223372036854775807 := by omega
  have HD := Lib.hid h
  clear h
  go_enter Tryd.func19, Tryd.ntmps19
  go_wp2_with fail
  clear c0
  go_loopw [3, 5, 14] (fun a p x wr => ∃ j : Nat, j ≤ s.n ∧ x = .int .i64 (j : Int) ∧ JG w a (64 * j) (allF s.S) wr) (fun a p x _ => s.n - (intOf x).toNat)
  case atStart => exact ⟨0, Nat.zero_le _, rfl, Grow.nil _ _ _, Below.refl _ _⟩
  case round =>
    obtain ⟨j, hj, rfl, hJ⟩ := hrel
    have HJ := Lib.hid hJ
    clear hJ
    by_cases hlt : j < s.n
    · as_aux_lemma =>
      have i1 : (j : Int) < (s.n : Int) := by omega
      have i0 : (0 : Int) ≤ (j : Int) := by omega
      have k4 : IntKind.i64.wrap ((j : Int) + 1) = ((j + 1 : Nat) : Int) := by rw [IntWalk.i64_in _ (by omega)]; omega
      obtain ⟨F, hF⟩ : ∃ x, s.S j = x := ⟨_, rfl⟩
      have hrg := (HD.out.later HJ.out.o).secRange hlt
      rw [hF] at hrg
      have HRG := Lib.hid hrg
      have HF := Lib.hid (show s.S j = F ∧ (∀ k, k < 64 → F k < 256) ∧ j < s.n ∧ s.n ≤ 2048 from ⟨hF, by rw [← hF]; exact HD.out.S8 j hlt, hlt, hn⟩)
      have hl0 := laidBk wr zS (rowC 64 F).toArray 68 (by rw [zS_size, List.size_toArray, rowC_len])
      obtain ⟨w2, hw2⟩ : ∃ x, (wr.alloc (.cells zS 68)).setCells wr.heap.size 0 (rowC 64 F).toArray.toList = x := ⟨_, rfl⟩
      rw [hw2] at hl0
      obtain ⟨g, hg⟩ : ∃ x, wr.heap.size = x := ⟨_, rfl⟩
      have HTH := Lib.hid hl0.2.2
      have HG := Lib.hid hg
      have H2 := Lib.hid (show Blk w2 g (rowC 64 F).toArray 68 ∧ Below wr.heap.size wr w2 from ⟨by rw [← hg]; exact hl0.1, hl0.2.1⟩)
      have HJ2 := Lib.hid (show JG w u3 (64 * j) (allF s.S) w2 from HJ.out.later hl0.2.1)
      rw [hg] at HTH hw2
      have HIW : Hid ((Tryd.prog.info? 68).map (·.size) = some (rowC 64 F).toArray.size) := Lib.hid (by rw [List.size_toArray]; exact info_sector)
      have HON : Hid ((rowC 64 F).toArray.all (·.oneCell') = true) := Lib.hid (all_oneCell_toArray (rowC_one _ _))
      clear hlt hj hF hrg hl0 hg HJ
      go_wp2_with (first
        | (refine wpList_load_mid rfl 68 (.tmp 16) rfl sb (j * 64) rfl (rowC 64 F) _ HRG.out Tryd.underlying68 rfl info_sector ?_)
        | ((try rw [HG.out]); refine wpList_store_mid rfl 68 (.tmp 5) (.tmp 17) rfl g 0 (rowC 64 F).toArray rfl rfl HTH.out HIW.out HON.out ?_; rw [hw2])
        | (refine wpList_appO rfl (.tmp 18) (.tmp 19) rfl w.heap.size _ (64 * j) 64 64 (some ⟨g, 0, none⟩) (allF s.S) F w2 rfl HJ2.out.g rfl (fun e => by cases e) (Blk.bytes64 H2.out.1 HF.out.2.1) (by have := HF.out; omega) HJ2.out.o.size ?_
           intro a3 w3 hG3 hg3 _
           have HJ3 := Lib.hid (HJ2.out.grew hg3 hG3)
           clear hG3 hg3))
      go_roundw
      case rel => exact ⟨j + 1, HF.out.2.2.1, by first | rfl | go_num, ⟨by
        have h9 := HJ3.out.g
        rw [← HF.out.1] at h9
        exact h9.congr allF_cat, HJ3.out.o⟩⟩
      case measure => have := HF.out; simp [intOf]; omega
    · obtain rfl : j = s.n := by omega
      have i1 : ¬ (s.n : Int) < (s.n : Int) := by omega
      clear hlt hj
      go_wp2_with fail
      go_ret
      exact ⟨_, rfl, HJ.out⟩
end Go.Proofs.YtcohllhmfghlfaaDoor
