/- The document's digits. -/
import Derived.Test.YtmhofofidmbgfaaDoorRc3
namespace Go.Proofs.YtmhofofidmbgfaaDoor
set_option linter.unusedVariables false
set_option linter.unusedSimpArgs false
open Go.RowKit

theorem hexD_digN {c : Nat} (h : digN c < 16) : hexD (digN c) = c := by
  unfold digN at *
  unfold hexD
  split at h
  · rename_i h1; rw [if_pos h1]; split <;> omega
  · rename_i h1
    split at h
    · rename_i h2; rw [if_neg h1, if_pos h2]; split <;> omega
    · omega

set_option maxHeartbeats 4000000 in
set_option maxRecDepth 100000 in
theorem rdig_any (c : Nat) (w : World) :
    Calls Tryd.prog 69 #[.int .u8 (c : Int)] w fun e w' => e = .returned (.int .i64 (dgI c)) ∧ w' = w := by
  go_enter Tryd.func69, Tryd.ntmps69
  go_wp2_with fail
  go_loopw [3] (fun y wr => ∃ i : Nat, i ≤ 16 ∧ y = .int .i64 (i : Int) ∧ (∀ j, j < i → hexD j ≠ c) ∧ wr = w) (fun y _ => 16 - (intOf y).toNat)
  case atStart => exact ⟨0, Nat.zero_le _, rfl, fun j hj => by omega, by first | rfl | trivial⟩
  case round =>
    obtain ⟨i, hi, rfl, hne, rfl⟩ := hrel
    by_cases hlt : i < 16
    · have i0 : (i : Int) < 16 := by omega
      by_cases hc : hexD i = c
      · have hd : digN c = i := by rw [← hc]; exact digN_hexD i hlt
        have HD : Hid (dgI c = (i : Int)) := Lib.hid (by unfold dgI; rw [hd, if_pos hlt])
        have q : ((hexD i : Int) == (c : Int)) = true := by rw [beq_iff_eq]; omega
        clear hne hc hd
        go_wp2_with (refine wpList_value rfl (exec_dig (y := .tmp 8) rfl rfl hlt) ?_)
        go_ret
        exact ⟨by rw [HD.out]; rfl, rfl⟩
      · have q : ((hexD i : Int) == (c : Int)) = false := by rw [beq_eq_false_iff_ne]; omega
        have HNE := Lib.hid (show ∀ j, j < i + 1 → hexD j ≠ c from fun j hj => by
          by_cases e : j < i
          · exact hne j e
          · rw [show j = i by omega]; exact hc)
        clear hne hc
        go_wp2_with (refine wpList_value rfl (exec_dig (y := .tmp 8) rfl rfl hlt) ?_)
        go_roundw
        case rel => exact ⟨i + 1, by omega, by go_num, HNE.out, by first | rfl | trivial⟩
        case measure => simp [intOf]; omega
    · obtain rfl : i = 16 := by omega
      have HD : Hid (dgI c = -1) := Lib.hid (by
        unfold dgI
        by_cases h : digN c < 16
        · exact absurd (hexD_digN h) (hne _ h)
        · rw [if_neg h])
      clear hne
      go_wp2_with fail
      go_ret
      exact ⟨by rw [HD.out]; rfl, rfl⟩

set_option maxHeartbeats 8000000 in
set_option maxRecDepth 100000 in
theorem runhex_any (t : ByteArray) (w : World) (hs : t.size < 1000000000) :
    Calls Tryd.prog 52 #[.string t] w fun e w' => Below w.heap.size w w' ∧
      (((∀ k, k < t.size / 2 → digN (byteF t (2 * k)) < 16 ∧ digN (byteF t (2 * k + 1)) < 16) ∧ ∃ o c, e = .returned (.tuple #[.slice o (t.size / 2) c, .bool (t.size % 2 == 0)]) ∧ t.size / 2 ≤ c ∧ (o = none → t.size / 2 = 0) ∧ (∀ a, o = some a → w.heap.size ≤ a.block) ∧ Bytes w' o (t.size / 2) (unhF t)) ∨
       ((∃ k, k < t.size / 2 ∧ ¬ (digN (byteF t (2 * k)) < 16 ∧ digN (byteF t (2 * k + 1)) < 16)) ∧ e = .returned (.tuple #[.slice none 0 0, .bool false]))) := by
  obtain ⟨N, hN⟩ : ∃ y, t.size / 2 = y := ⟨_, rfl⟩
  have HN := Lib.hid (show t.size / 2 = N ∧ t.size < 1000000000 from ⟨hN, hs⟩)
  obtain ⟨r, er⟩ : ∃ y, t.size % 2 = y := ⟨_, rfl⟩
  have HRR := Lib.hid er
  rw [hN, er]
  clear hN hs er
  go_enter Tryd.func52, Tryd.ntmps52
  go_wp2_with fail
  go_loopw [4, 5] (fun x y wr => ∃ i : Nat, i ≤ N ∧ y = .int .i64 ((2 * i : Nat) : Int) ∧ (∀ k, k < i → digN (byteF t (2 * k)) < 16 ∧ digN (byteF t (2 * k + 1)) < 16) ∧ Grow wr w.heap.size x i (unhF t) ∧ Below w.heap.size w wr) (fun _ y _ => 2 * N - (intOf y).toNat)
  case atStart => exact ⟨0, Nat.zero_le _, rfl, fun k hk => by omega, Grow.nil _ _ _, Below.refl _ _⟩
  case round =>
    obtain ⟨i, hi, rfl, hok, hG, hW⟩ := hrel
    by_cases hlt : i < N
    · obtain ⟨k, hk⟩ : ∃ y, 2 * i = y := ⟨_, rfl⟩
      have hb : k + 1 < t.size := by have := HN.out; omega
      have hb2 := HN.out.2
      have k1 : IntKind.i64.wrap ((k : Int) + 1) = ((k + 1 : Nat) : Int) := by rw [IntWalk.i64_in _ (by omega)]; omega
      have k2 : IntKind.i64.wrap ((k : Int) + 2) = ((k + 2 : Nat) : Int) := by rw [IntWalk.i64_in _ (by omega)]; omega
      have k3 : ((k + 1 : Nat) : Int) < (t.size : Int) := by omega
      have HK := Lib.hid hk
      have HOK := Lib.hid hok
      have hG1 : Grow wr.drew w.heap.size u4 i (unhF t) := hG.drew
      have hW1 : Below w.heap.size w wr.drew := hW.drew
      have h256a : byteF t k < 256 := byteF_lt _ _
      have h256b : byteF t (k + 1) < 256 := byteF_lt _ _
      rw [hk]
      clear hk hok hG hW
      go_upto_region 5 with fail
      refine still_lit (by kernel_rfl) (by kernel_rfl) ?_
      generalize wr.drew = W0 at *
      iterate 2 still_step
      refine wpStill_value rfl (exec_strIdx (x := .tmp 15) (y := .tmp 16) rfl rfl rfl (by omega)) ?_
      (try simp only [Act.put, List.setIfInBounds_toArray, List.set_cons_zero, List.set_cons_succ])
      refine wpStill_step (fun K hK => ?_)
      go_simp
      with_reducible refine ⟨_, rdig_any _ W0, hK _ ?_⟩
      clear hK K
      iterate 3 still_step
      refine wpStill_value rfl (exec_strIdx (x := .tmp 19) (y := .tmp 21) rfl rfl rfl hb) ?_
      (try simp only [Act.put, List.setIfInBounds_toArray, List.set_cons_zero, List.set_cons_succ])
      refine wpStill_step (fun K hK => ?_)
      go_simp
      with_reducible refine ⟨_, rdig_any _ W0, hK _ ?_⟩
      clear hK K
      iterate 2 still_step
      refine wpStill_nil ?_
      have HU : Hid (unhF t i = 16 * digN (byteF t k) + digN (byteF t (k + 1))) := Lib.hid (by unfold unhF; rw [HK.out])
      have HDD : Hid (∀ (h : digN (byteF t k) < 16 ∧ digN (byteF t (k + 1)) < 16), digN (byteF t (2 * i)) < 16 ∧ digN (byteF t (2 * i + 1)) < 16) := Lib.hid fun h => by rw [HK.out]; exact h
      have HDN : Hid (∀ (h : ¬ (digN (byteF t k) < 16 ∧ digN (byteF t (k + 1)) < 16)), ¬ (digN (byteF t (2 * i)) < 16 ∧ digN (byteF t (2 * i + 1)) < 16)) := Lib.hid fun h => by rw [HK.out]; exact h
      have hDa : dgI (byteF t k) = if digN (byteF t k) < 16 then ((digN (byteF t k) : Nat) : Int) else -1 := rfl
      have hDb : dgI (byteF t (k + 1)) = if digN (byteF t (k + 1)) < 16 then ((digN (byteF t (k + 1)) : Nat) : Int) else -1 := rfl
      rw [hDa, hDb]
      have HG1 := Lib.hid hG1
      have HW1 := Lib.hid hW1
      generalize digN (byteF t k) = da at *
      generalize digN (byteF t (k + 1)) = db at *
      clear hDa hDb h256a h256b hG1 hW1
      by_cases hda : da < 16
      · rw [if_pos hda]
        by_cases hdb : db < 16
        · rw [if_pos hdb]
          obtain ⟨ta, hta⟩ : ∃ y, 16 * da = y := ⟨_, rfl⟩
          obtain ⟨tv, htv⟩ : ∃ y, ta + db = y := ⟨_, rfl⟩
          have s1 : IntKind.i64.wrap (16 * (da : Int)) = (ta : Int) := by rw [IntWalk.i64_in _ (by omega)]; omega
          have s2 : IntKind.i64.wrap ((ta : Int) + (db : Int)) = (tv : Int) := by rw [IntWalk.i64_in _ (by omega)]; omega
          have s5 : decide ((da : Int) < 0) = false := decide_eq_false (by omega)
          have s6 : decide ((db : Int) < 0) = false := decide_eq_false (by omega)
          have s7 : (tv : Int) % 256 = (tv : Int) := by omega
          have htv256 : tv < 256 := by omega
          have HU2 : Hid (unhF t i = tv) := Lib.hid (by rw [HU.out]; omega)
          have HL0 : Hid (w.heap.size ≤ W0.heap.size ∧ i < 1000000000) := Lib.hid ⟨HW1.out.size, by have := HN.out; omega⟩
          have HD2 := Lib.hid (HDD.out ⟨hda, hdb⟩)
          clear hta htv HU HDD HDN
          go_wp2_with (first
            | (refine wpList_appO rfl (.tmp 30) (.tmp 36) rfl w.heap.size u4 i 1 1 (some ⟨W0.heap.size, 0, none⟩) (unhF t) (fun _ => tv) (W0.alloc (.cells #[.int .u8 (tv : Int)] 5)) rfl (HG1.out.later ((Below.refl _ _).alloc (Nat.le_refl _) _)) rfl (fun e => by cases e) (one_byte htv256) (by have := HL0.out; omega) (Nat.le_trans HL0.out.1 (by simp)) ?_
               refine Hid.out ?_))
          refine Lib.hid ?_
          intro v2 w2 hG2 hg2 ho2
          have HG2 : Hid (Grow w2 w.heap.size v2 (i + 1) (unhF t)) := Lib.hid (hG2.congr fun j hj => by
            unfold catF
            by_cases e : j < i
            · rw [if_pos e]
            · rw [if_neg e, show j = i by omega]; exact HU2.out.symm)
          have HW2 : Hid (Below w.heap.size w w2) := Lib.hid (HW1.out.trans (((Below.refl _ W0).alloc HL0.out.1 _).trans (grow_bel (HG1.out.later ((Below.refl _ _).alloc (Nat.le_refl _) _)) (Nat.le_trans HL0.out.1 (by simp)) hg2)))
          have HOK2 : Hid (∀ j, j < i + 1 → digN (byteF t (2 * j)) < 16 ∧ digN (byteF t (2 * j + 1)) < 16) := Lib.hid fun j hj => by
            by_cases e : j < i
            · exact HOK.out j e
            · rw [show j = i by omega]; exact HD2.out
          clear hG2 hg2 ho2
          go_wp2_with fail
          go_roundw
          case rel => exact ⟨i + 1, by omega, by have := HK.out; congr 1; omega, HOK2.out, HG2.out, HW2.out⟩
          case measure => have := HK.out; simp [intOf]; omega
        · rw [if_neg hdb]
          have s5 : decide ((da : Int) < 0) = false := decide_eq_false (by omega)
          have HB := Lib.hid (HDN.out (fun h => hdb h.2))
          clear HU HDD HDN
          go_wp2_with fail
          go_ret2
          exact ⟨HW1.out, .inr ⟨⟨i, hlt, HB.out⟩, rfl⟩⟩
      · rw [if_neg hda]
        generalize (if db < 16 then ((db : Nat) : Int) else -1) = D at *
        have HB := Lib.hid (HDN.out (fun h => hda h.1))
        clear HU HDD HDN
        go_wp2_with fail
        go_ret2
        exact ⟨HW1.out, .inr ⟨⟨i, hlt, HB.out⟩, rfl⟩⟩
    · obtain rfl : N = i := by omega
      have hb : ¬ (((2 * N : Nat) : Int) + 1 < (t.size : Int)) := by have := HN.out; omega
      have hb2 := HN.out.2
      have hFB : ∀ k, k < N → unhF t k < 256 := fun k hk => by have := hok k hk; unfold unhF; omega
      obtain ⟨oa, cp, hv, hB, hnc, hno⟩ := hG.bytesC hFB
      have hbk : ∀ a, oa = some a → w.heap.size ≤ a.block := fun a ha => hG.block a.block (by rw [hv, ha]; rfl)
      have HR := Lib.hid (And.intro hW (And.intro hok (And.intro hB (And.intro hnc (And.intro hno hbk)))))
      subst hv
      obtain ⟨k, hk⟩ : ∃ y, 2 * N = y := ⟨_, rfl⟩
      rw [hk] at hb ⊢
      have k1 : IntKind.i64.wrap ((k : Int) + 1) = ((k + 1 : Nat) : Int) := by have := HN.out; rw [IntWalk.i64_in _ (by omega)]; omega
      have k3 : decide (((k + 1 : Nat) : Int) < (t.size : Int)) = false := decide_eq_false (by omega)
      have k4 : ¬ ((k + 1 : Nat) : Int) < (t.size : Int) := by omega
      have er := HRR.out
      have d1 : (t.size : Int).tmod 2 = (r : Int) := by rw [Int.tmod_eq_emod_of_nonneg (by omega)]; omega
      have d2 : (t.size : Int) % 2 = (r : Int) := by omega
      clear hok hG hW hFB hB hnc hno hk er
      by_cases hr : r = 0
      · subst hr
        go_wp2_with fail
        go_ret2
        exact ⟨HR.out.1, .inl ⟨HR.out.2.1, oa, cp, rfl, HR.out.2.2.2.1, HR.out.2.2.2.2.1, HR.out.2.2.2.2.2, HR.out.2.2.1⟩⟩
      · have hr1 : r = 1 := by have := HRR.out; omega
        subst hr1
        go_wp2_with fail
        go_ret2
        exact ⟨HR.out.1, .inl ⟨HR.out.2.1, oa, cp, rfl, HR.out.2.2.2.1, HR.out.2.2.2.2.1, HR.out.2.2.2.2.2, HR.out.2.2.1⟩⟩
end Go.Proofs.YtmhofofidmbgfaaDoor
