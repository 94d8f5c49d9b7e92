/- sharecode.pairs, as it goes. -/
import Derived.Test.YtmhofofidmbgfaaDoorSc6
import Derived.Deep.DeepCutAuto
import Derived.LoopNIn
import Derived.LoopIn
namespace Go.Proofs.YtmhofofidmbgfaaDoor
set_option linter.unusedVariables false
set_option linter.unusedSimpArgs false
open Go.RowKit

theorem or16 (a b : Nat) (ha : a < 16) (hb : b < 16) : bits .or .i64 ((16 * a : Nat) : Int) (b : Int) = ((16 * a + b : Nat) : Int) := by
  have h : (List.range 16).all (fun a => (List.range 16).all (fun b => bits .or .i64 ((16 * a : Nat) : Int) (b : Int) == ((16 * a + b : Nat) : Int))) = true := by kernel_rfl
  exact beq_iff_eq.1 (List.all_eq_true.1 (List.all_eq_true.1 h a (List.mem_range.2 ha)) b (List.mem_range.2 hb))
set_option maxHeartbeats 4000000 in
set_option maxRecDepth 100000 in
theorem pairs_seq (t : ByteArray) (Bn N : Nat) (hN : t.size / 2 = N) (hs : t.size < 1000000000) :
    Seq Tryd.prog 67 #[.pointer (some ⟨Bn, 0, none⟩)] (fun i => #[.int .i64 (toldI t i)]) N (fun _ A B => B = A.drew) (fun _ A => A.cell? ⟨Bn, 0, none⟩ = some (.string t)) := by
  intro l J J' Jx W hG hJd hJxd hR hY h0
  have HG : Hid (∀ i A, J i A → A.cell? ⟨Bn, 0, none⟩ = some (.string t)) := Lib.hid hG
  have HR : Hid (∀ i A B, i < N → J i A → B = A.drew → J' i B) := Lib.hid hR
  have HY := Lib.hid hY
  have HN := Lib.hid (show t.size / 2 = N ∧ t.size < 1000000000 from ⟨hN, hs⟩)
  clear hG hJd hJxd hR hY hN hs
  go_enter Tryd.func67, Tryd.ntmps67
  go_wp2_with fail
  go_loopw [3] (fun y wr => ∃ i : Nat, i ≤ N ∧ y = .int .i64 ((2 * i : Nat) : Int) ∧ J i wr) (fun y _ => 2 * N - (intOf y).toNat)
  case atStart => exact ⟨0, Nat.zero_le _, rfl, h0⟩
  case round =>
    obtain ⟨i, hi, rfl, hJ⟩ := hrel
    have c0 := HG.out i wr hJ
    by_cases hlt : i < N
    · obtain ⟨k, hk⟩ : ∃ y, 2 * i = y := ⟨_, rfl⟩
      have hb : k + 1 < t.size := by have := HN.out; omega
      have hb2 := HN.out.2
      have k1 : IntKind.i64.wrap ((k : Int) + 1) = ((k + 1 : Nat) : Int) := by rw [IntWalk.i64_in _ (by omega)]; omega
      have k2 : IntKind.i64.wrap ((k : Int) + 2) = ((k + 2 : Nat) : Int) := by rw [IntWalk.i64_in _ (by omega)]; omega
      have k3 : ((k + 1 : Nat) : Int) < (t.size : Int) := by omega
      have HK := Lib.hid hk
      have HJ := Lib.hid hJ
      have h256a : byteF t k < 256 := byteF_lt _ _
      have h256b : byteF t (k + 1) < 256 := byteF_lt _ _
      rw [hk]
      clear hJ hk h0
      go_upto_region 3 with fail
      replace c0 : wr.drew.cell? ⟨Bn, 0, none⟩ = some (.string t) := c0
      have hJ' : J' i wr.drew := HR.out i wr wr.drew hlt HJ.out rfl
      have HJ' := Lib.hid hJ'
      clear hJ' HJ
      refine still_lit (by kernel_rfl) (by kernel_rfl) ?_
      generalize wr.drew = W0 at *
      iterate 2 still_step
      refine wpStill_value rfl (exec_strIdx (x := .tmp 14) (y := .tmp 15) rfl rfl rfl (by omega)) ?_
      (try simp only [Act.put, List.setIfInBounds_toArray, List.set_cons_zero, List.set_cons_succ])
      refine wpStill_step (fun K hK => ?_)
      go_simp
      with_reducible refine ⟨_, ixb_any _ h256a W0, hK _ ?_⟩
      clear hK K
      iterate 3 still_step
      refine wpStill_value rfl (exec_strIdx (x := .tmp 18) (y := .tmp 20) rfl rfl rfl hb) ?_
      (try simp only [Act.put, List.setIfInBounds_toArray, List.set_cons_zero, List.set_cons_succ])
      refine wpStill_step (fun K hK => ?_)
      go_simp
      with_reducible refine ⟨_, ixb_any _ h256b W0, hK _ ?_⟩
      clear hK K
      iterate 2 still_step
      refine wpStill_nil ?_
      obtain ⟨fn, tmps, assign, body, hy, hRd⟩ := HY.out i W0 hlt HJ'.out
      have HRD := Lib.hid hRd
      clear hRd
      have hT : toldI t i = if digN (byteF t k) < 16 ∧ digN (byteF t (k + 1)) < 16 then ((16 * digN (byteF t k) + digN (byteF t (k + 1)) : Nat) : Int) else -1 := by
        unfold toldI; rw [HK.out]
      have hDa : dgI (byteF t k) = if digN (byteF t k) < 16 then ((digN (byteF t k) : Nat) : Int) else -1 := rfl
      have hDb : dgI (byteF t (k + 1)) = if digN (byteF t (k + 1)) < 16 then ((digN (byteF t (k + 1)) : Nat) : Int) else -1 := rfl
      rw [hT] at hy
      rw [hDa, hDb]
      generalize digN (byteF t k) = da at *
      generalize digN (byteF t (k + 1)) = db at *
      clear hT hDa hDb h256a h256b
      by_cases hda : da < 16
      · rw [if_pos hda]
        by_cases hdb : db < 16
        · rw [if_pos ⟨hda, hdb⟩] at hy
          rw [if_pos hdb]
          have s1 : IntKind.i64.wrap ((da : Int) * 16) = ((16 * da : Nat) : Int) := by rw [IntWalk.i64_in _ (by omega)]; omega
          have s2 : bits .or .i64 ((16 * da : Nat) : Int) (db : Int) = ((16 * da + db : Nat) : Int) := or16 da db hda hdb
          have s3 : ¬ (da : Int) < 0 := by omega
          have s4 : ¬ (db : Int) < 0 := by omega
          have s5 : decide ((da : Int) < 0) = false := decide_eq_false s3
          have s6 : decide ((db : Int) < 0) = false := decide_eq_false s4
          generalize 16 * da + db = tv at *
          generalize 16 * da = ta at *
          go_upto_region 7 with fail
          refine (wpIn_wide (n := 0)).1 ?_
          gi_wp2
          refine ⟨rfl, ?_⟩
          refine HRD.out.mono ?_
          rintro e W' (⟨rfl, hJ2⟩ | ⟨rfl, hJx⟩)
          · gi_wp2
            clear hy
            go_wp2_with fail
            go_roundw
            case rel => exact ⟨i + 1, by omega, by have := HK.out; congr 1; omega, hJ2⟩
            case measure => have := HK.out; simp [intOf]; omega
          · gi_wp2
            clear hy
            go_wp2_with fail
            refine bodyPost_ret (results_none rfl _ _ _) rfl ?_
            exact ⟨⟨_, rfl⟩, .inr hJx⟩
        · rw [if_neg (fun h => hdb h.2)] at hy
          rw [if_neg hdb]
          have s3 : ¬ (da : Int) < 0 := by omega
          have s5 : decide ((da : Int) < 0) = false := decide_eq_false s3
          have s1 : IntKind.i64.wrap ((da : Int) * 16) = ((16 * da : Nat) : Int) := by rw [IntWalk.i64_in _ (by omega)]; omega
          generalize 16 * da = ta at *
          obtain ⟨O, hO⟩ : ∃ y, bits .or .i64 (ta : Int) (-1) = y := ⟨_, rfl⟩
          go_upto_region 7 with fail
          refine (wpIn_wide (n := 0)).1 ?_
          gi_wp2
          refine ⟨rfl, ?_⟩
          refine HRD.out.mono ?_
          rintro e W' (⟨rfl, hJ2⟩ | ⟨rfl, hJx⟩)
          · gi_wp2
            clear hy
            go_wp2_with fail
            go_roundw
            case rel => exact ⟨i + 1, by omega, by have := HK.out; congr 1; omega, hJ2⟩
            case measure => have := HK.out; simp [intOf]; omega
          · gi_wp2
            clear hy
            go_wp2_with fail
            refine bodyPost_ret (results_none rfl _ _ _) rfl ?_
            exact ⟨⟨_, rfl⟩, .inr hJx⟩
      · rw [if_neg (fun h => hda h.1)] at hy
        rw [if_neg hda]
        generalize (if db < 16 then ((db : Nat) : Int) else -1) = D at *
        have s1 : IntKind.i64.wrap ((-1 : Int) * 16) = -16 := by decide
        obtain ⟨O, hO⟩ : ∃ y, bits .or .i64 (-16) D = y := ⟨_, rfl⟩
        go_upto_region 7 with fail
        refine (wpIn_wide (n := 0)).1 ?_
        gi_wp2
        refine ⟨rfl, ?_⟩
        refine HRD.out.mono ?_
        rintro e W' (⟨rfl, hJ2⟩ | ⟨rfl, hJx⟩)
        · gi_wp2
          clear hy
          go_wp2_with fail
          go_roundw
          case rel => exact ⟨i + 1, by omega, by have := HK.out; congr 1; omega, hJ2⟩
          case measure => have := HK.out; simp [intOf]; omega
        · gi_wp2
          clear hy
          go_wp2_with fail
          refine bodyPost_ret (results_none rfl _ _ _) rfl ?_
          exact ⟨⟨_, rfl⟩, .inr hJx⟩
    · obtain rfl : N = i := by omega
      have hb : ¬ (((2 * N : Nat) : Int) + 1 < (t.size : Int)) := by have := HN.out; omega
      have hb2 := HN.out.2
      obtain ⟨k, hk⟩ : ∃ y, 2 * N = y := ⟨_, rfl⟩
      rw [hk] at hb ⊢
      have k1 : IntKind.i64.wrap ((k : Int) + 1) = ((k + 1 : Nat) : Int) := by have := HN.out; rw [IntWalk.i64_in _ (by omega)]; omega
      have k3 : decide (((k + 1 : Nat) : Int) < (t.size : Int)) = false := decide_eq_false (by omega)
      have k4 : ¬ ((k + 1 : Nat) : Int) < (t.size : Int) := by omega
      have HJ := Lib.hid hJ
      clear hk hJ h0
      go_wp2_with fail
      go_end0
      exact ⟨⟨_, rfl⟩, .inl HJ.out⟩
end Go.Proofs.YtmhofofidmbgfaaDoor
