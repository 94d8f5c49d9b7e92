/- Part of the proof: what stands here serves the walks of the functions that the statement calls. -/
import Derived.Test.YtncfocjmdecapaaGreatDoorY15
namespace Go.Proofs.YtncfocjmdecapaaGreatDoor
set_option linter.unusedVariables false
set_option linter.unusedSimpArgs false
open Go.RowKit
def chF (f : Nat → Nat) (n k : Nat) : Nat → Nat := fun i => if 16 * k + i < n then f (16 * k + i) else 0
def thrF (h f : Nat → Nat) (n : Nat) (s : Nat → Nat) : Nat → Nat → Nat
 | 0 => s
 | k + 1 => mulF (addF (thrF h f n s k) (chF f n k)) h
theorem chF_lt {f : Nat → Nat} {n k : Nat} (hf : ∀ i, i < n → f i < 256) (i : Nat) : chF f n k i < 256 := by
 unfold chF; split
 ·exact hf _ (by assumption)
 ·decide
theorem thrF_lt {h f s : Nat → Nat} {n : Nat} (hs : ∀ i, i < 16 → s i < 256) : ∀ k i, i < 16 → thrF h f n s k i < 256
 | 0, i, hi => hs i hi
 | _ + 1, i, _ => blkF_lt _ _ i
theorem addF_lt {f g : Nat → Nat} (hf : ∀ i, i < 16 → f i < 256) (hg : ∀ i, i < 16 → g i < 256) (i : Nat) (hi : i < 16) : addF f g i < 256 :=
 Nat.xor_lt_two_pow (n := 8) (hf i hi) (hg i hi)
set_option maxRecDepth 100000
set_option maxHeartbeats 4000000
def lenOf : Value → Nat | .slice _ m _ => m | _ => 0
def Rest (w0 : World) (v : Value) (n k : Nat) (f : Nat → Nat) : Prop := ∃ oa m c, v = .slice oa m c ∧ m = n - 16 * k ∧ m ≤ c ∧ c ≤ maxLen ∧ Bytes w0 oa m (fun i => f (16 * k + i))
def TI (w0 : World) (h f s : Nat → Nat) (n k : Nat) (v : Value) (wr : World) : Prop := Rest w0 v n k f ∧ B16 wr w0.heap.size (thrF h f n s k) ∧ B16 wr (w0.heap.size + 1) h ∧ B16 wr (w0.heap.size + 1 + 1) (fun _ => 0) ∧ Below w0.heap.size w0 wr
theorem through_any (s y f : Nat → Nat) (oa : Option Addr) (n cap : Nat) (w : World) (hs : ∀ i, i < 16 → s i < 256) (hh : ∀ i, i < 16 → y i < 256) (hb : Bytes w oa n f) (hnc : n ≤ cap) (hcm : cap ≤ maxLen) :
  Calls Tryz.prog 82 #[.agg (rowC 16 s).toArray, .agg (rowC 16 y).toArray, .slice oa n cap] w fun e w' => e = .returned (.agg (rowC 16 (thrF y f n s ((n + 15) / 16))).toArray) ∧ Below w.heap.size w w' := by
 have hz := zero16_run
 obtain ⟨C, hC⟩ := zX ((rowC 16 s).toArray)
 obtain ⟨D, hD⟩ := zX ((rowC 16 y).toArray)
 have hf : ∀ i, i < n → f i < 256 := fun i hi => (hb i hi).1
 have HT := zh (show TI w y f s n 0 (.slice oa n cap) (((w.alloc (.cells C 82)).alloc (.cells D 82)).alloc (.cells zero16 82)) by
  rw [← hC, ← hD]
  refine ⟨⟨oa, n, cap, rfl, rfl, hnc, hcm, ?_⟩, ((Blk.new w _ 82).alloc _).alloc _, ?_, ?_, ((zA).alloc (by simp) _).alloc (by simp; omega) _⟩
  ·simpa using hb
  ·have := (Blk.new (w.alloc (.cells (rowC 16 s).toArray 82)) (rowC 16 y).toArray 82).alloc (.cells zero16 82)
   unfold B16; simpa using this
  ·have := Blk.new ((w.alloc (.cells (rowC 16 s).toArray 82)).alloc (.cells (rowC 16 y).toArray 82)) zero16 82
   show Blk _ _ zero16 _; simpa using this)
 have HD3 := zh hD
 have HS := zh hs
 have HH := zh hh
 have HF := zh hf
 rw [hC, hD]
 clear hs hh hb hf hC hD hnc hcm
 go_enter Tryz.func82, Tryz.ntmps82
 go_wp2_with fail
 go_loopw [2] (fun v wr => ∃ k : Nat, k ≤ (n + 15) / 16 ∧ TI w y f s n k v wr) (fun v _ => lenOf v)
 case atStart => exact ⟨0, Nat.zero_le _, HT.out⟩
 case round =>
  obtain ⟨k, hk, ⟨oa', m, c, rfl, hm, hmc, hcm, hby⟩, hX, hY, hZ, hO⟩ := hrel
  have HM := zh hm
  clear hm
  by_cases hlt : 0 < m
  ·obtain ⟨_, b, off, rfl, _⟩ := hby 0 hlt
   have m0 : (0 : Int) < (m : Int) := by omega
   obtain ⟨q, hq⟩ := zX (Nat.min m 16)
   have hq1 : q ≤ m := by rw [← hq]; exact Nat.min_le_left _ _
   have hq2 : q ≤ 16 := by rw [← hq]; exact Nat.min_le_right _ _
   have hq0 : 0 < q := by
    rcases Nat.le_total m 16 with h1 | h1
    ·rw [← hq, show Nat.min m 16 = m from Nat.min_eq_left h1]; exact hlt
    ·rw [← hq, show Nat.min m 16 = 16 from Nat.min_eq_right h1]; decide
   have hq3 : q = m ∧ m ≤ 16 ∨ q = 16 ∧ 16 ≤ m := by
    rw [← hq]
    rcases Nat.le_total m 16 with h1 | h1
    ·left; exact ⟨Nat.min_eq_left h1, h1⟩
    ·right; exact ⟨Nat.min_eq_right h1, h1⟩
   have hmn : m = n - 16 * k := HM.out
   have HRN : Hid (∀ v c', (v = .slice (some ⟨b, off + q, none⟩) (m - q) c' ∧ m - q ≤ c' ∧ c' ≤ maxLen) ∨ (v = .slice (some ⟨b, off, none⟩) (m - q) 0 ∧ m - q = 0) → Rest w v n (k + 1) f) := zh fun v c' hv => by
    rcases hv with ⟨rfl, h1, h2⟩ | ⟨rfl, h1⟩
    ·refine ⟨_, _, _, rfl, by omega, h1, h2, fun i hi => ?_⟩
     obtain ⟨g1, b', o', e, g2⟩ := hby (q + i) (by omega)
     cases e
     have hq16 : 16 * k + (q + i) = 16 * (k + 1) + i := by omega
     dsimp only at g1 g2 ⊢
     rw [hq16] at g1 g2
     exact ⟨g1, b, off + q, rfl, by rw [Nat.add_assoc]; exact g2⟩
    ·exact ⟨_, _, _, rfl, by omega, by omega, by unfold maxLen; omega, fun i hi => absurd hi (by omega)⟩
   have HQ3 := zh hq3
   have HK1 : Hid (k + 1 ≤ (n + 15) / 16) := zh (by omega)
   have HMS : Hid (m - q < m) := zh (by omega)
   have HEQ : Hid (∀ i, i < 16 → (i < q ↔ 16 * k + i < n)) := zh (by omega)
   clear hq3 hmn
   obtain ⟨cs, hcs⟩ := zX (rowC q (fun i => f (16 * k + i)))
   have hcl : cs.length = q := by rw [← hcs]; exact rowC_len _ _
   have HCL := zh hcl
   have HSR : Hid (∀ w', Below wr.heap.size wr w' → ∀ j v, cs[j]? = some v → w'.cell? ((Addr.mk b off none).add j) = some v) := zh fun w' hb' j v hv => by
    have hj : j < q := by
     rcases Nat.lt_or_ge j q with h1 | h1
     ·exact h1
     ·rw [List.getElem?_eq_none (by omega)] at hv; cases hv
    rw [← hcs, rowC_get _ hj] at hv
    cases hv
    obtain ⟨_, b1, o1, e1, hc1⟩ := hby j (by omega)
    cases e1
    have ha : (Addr.mk b off none).add j = ⟨b, off + j, none⟩ := by
     unfold Addr.add; split
     ·rename_i hk0; subst hk0; rfl
     ·rfl
    rw [ha]
    exact cell_below (hO.trans (hb'.mono hO.size)) hc1
   obtain ⟨wa, hwa⟩ := zX (wr.alloc (.cells zero16 82))
   have hba : Below wr.heap.size wr wa := by rw [← hwa]; exact zA
   have HG : Hid (wa.heap[wr.heap.size]? = some (.cells (rowC 16 (fun _ => 0)).toArray 82 (0, 0))) := zh (by rw [← hwa]; exact Blk.new wr zero16 82)
   have HN : Hid (cs.length = Nat.min m 16) := zh (by rw [hcl, hq])
   have HP : Hid (0 < cs.length → some (Addr.mk wr.heap.size 0 none) = some (Addr.mk wr.heap.size 0 none) ∧ ∃ ad, some (Addr.mk b off none) = some ad ∧ ∀ j v, cs[j]? = some v → wa.cell? (ad.add j) = some v) := zh fun _ => ⟨rfl, _, rfl, HSR.out wa hba⟩
   have HFi : Hid (0 + cs.length ≤ (rowC 16 (fun _ => 0)).length) := zh (by rw [hcl, rowC_len]; omega)
   have HBA := zh hba
   have HQ := zh hq
   have HC1 : Hid (∀ v ∈ cs, v.oneCell' = true) := zh (hcs ▸ rowC_one _ _)
   have HCS := zh hcs
   have HX := zh hX
   have HY := zh hY
   have HZ := zh hZ
   have HO := zh hO
   have HB := zh hby
   clear hcl hcs hq hby hX hY hZ hO hba HSR
   go_wp2_with (first | (with_reducible refine wpList_copy_splice rfl (.tmp 12) (.tmp 13) 24 24 rfl 5 Tryz.underlying24 (by kernel_rfl) (some ⟨wr.heap.size, 0, none⟩) (some ⟨b, off, none⟩) 16 16 m c rfl rfl wr.heap.size 0 (rowC 16 (fun _ => 0)) 82 ?_ cs ?_ ?_ ?_ HC1.out wr.heap.size wr ?_ (Nat.le_refl _) ?_; exact HG.out; exact HN.out; exact HP.out; exact HFi.out; exact HBA.out; intro w4 HG4 HB4; have HB5 := zh HB4; clear HB4 HG HP HBA hwa; rw [HCL.out]))
   all_goals
    first
    | (have HRZ := zh (HRN.out (.slice (some ⟨b, off, none⟩) (m - q) 0) 0 (Or.inr ⟨rfl, by omega⟩)); have HMZ : Hid (lenOf (.slice (some ⟨b, off, none⟩) (m - q) 0) < m) := zh HMS.out; generalize Value.slice (some ⟨b, off, none⟩) (m - q) 0 = v2 at HRZ HMZ ⊢)
    | (have HRZ := zh (HRN.out (.slice (some ⟨b, off + q, none⟩) (m - q) (c - q)) (c - q) (Or.inl ⟨rfl, by omega, by omega⟩)); have HMZ : Hid (lenOf (.slice (some ⟨b, off + q, none⟩) (m - q) (c - q)) < m) := zh HMS.out; generalize Value.slice (some ⟨b, off + q, none⟩) (m - q) (c - q) = v2 at HRZ HMZ ⊢)
   all_goals
    have hX := HX.out
    have hY := HY.out
    have hE : Blk w4 wr.heap.size (rowC 16 (chF f n k)).toArray 82 := by
     have := HG4.out
     rw [← HCS.out, splice16 _ q hq2] at this
     have e : rowC 16 (fun i => if i < q then f (16 * k + i) else 0) = rowC 16 (chF f n k) := rowC_congr fun i hi => by
      show (if i < q then f (16 * k + i) else 0) = if 16 * k + i < n then f (16 * k + i) else 0
      by_cases h1 : i < q
      ·rw [if_pos h1, if_pos ((HEQ.out i hi).1 h1)]
      ·rw [if_neg h1, if_neg (fun h2 => h1 ((HEQ.out i hi).2 h2))]
     rw [e] at this; exact this
    have hX4 : Blk w4 w.heap.size (rowC 16 (thrF y f n s k)).toArray 82 := Blk.below HX.out HB5.out (Blk.lt HX.out)
    have hY4 : Blk w4 (w.heap.size + 1) (rowC 16 y).toArray 82 := Blk.below HY.out HB5.out (Blk.lt HY.out)
    have hZ4 : B16 w4 (w.heap.size + 1 + 1) (fun _ => 0) := Blk.below HZ.out HB5.out (Blk.lt HZ.out)
    have hO4 : Below w.heap.size w w4 := HO.out.trans (HB5.out.mono HO.out.size)
    have hxs : w.heap.size < wr.heap.size := Blk.lt HX.out
    obtain ⟨F3, hF3⟩ := zX ((rowC 16 (thrF y f n s k)).toArray)
    obtain ⟨E, hE3⟩ := zX ((rowC 16 (chF f n k)).toArray)
    obtain ⟨A3, hA3⟩ := zX ((rowC 16 (addF (thrF y f n s k) (chF f n k))).toArray)
    obtain ⟨M, hM3⟩ := zX ((rowC 16 (thrF y f n s (k + 1))).toArray)
    have htl : ∀ i, i < 16 → thrF y f n s k i < 256 := fun i hi => thrF_lt HS.out k i hi
    have hcl2 : ∀ i, i < 16 → chF f n k i < 256 := fun i _ => chF_lt HF.out i
    have HADD : Hid (∀ w, Calls Tryz.prog 58 #[.agg F3, .agg E] w fun e w' => e = .returned (.agg A3) ∧ Below w.heap.size w w') := zh fun w => by
     rw [← hF3, ← hE3, ← hA3]; exact gadd_any _ _ w htl hcl2
    have HMUL : Hid (∀ w, Calls Tryz.prog 83 #[.agg A3, .agg D] w fun e w' => e = .returned (.agg M) ∧ Below w.heap.size w w') := zh fun w => by
     rw [← HD3.out, ← hA3, ← hM3]; exact gmul_any _ _ w (addF_lt htl hcl2) HH.out
    have HIF : Hid ((Tryz.prog.info? 82).map (·.size) = some F3.size) := zh (hF3 ▸ info16 _)
    have HIE : Hid ((Tryz.prog.info? 82).map (·.size) = some E.size) := zh (hE3 ▸ info16 _)
    have HID : Hid ((Tryz.prog.info? 82).map (·.size) = some D.size) := zh (HD3.out ▸ info16 _)
    have HM5 : Hid (∃ f, M = (rowC 16 f).toArray) := zh ⟨_, hM3.symm⟩
    have HF5 : Hid (∃ f, F3 = (rowC 16 f).toArray) := zh ⟨_, hF3.symm⟩
    have HNE : Hid (∀ p ∈ [(wr.heap.size, E), (w.heap.size + 1, D)], p.1 ≠ w.heap.size) := zh (by
     intro p hp
     rcases List.mem_cons.1 hp with rfl | hp
     ·exact Nat.ne_of_gt hxs
     ·rcases List.mem_cons.1 hp with rfl | hp
      ·exact Nat.succ_ne_self _
      ·cases hp)
    have HNZ : Hid (w.heap.size + 1 + 1 ≠ w.heap.size) := zh (by omega)
    have HM6 : Hid (M = (rowC 16 (thrF y f n s (k + 1))).toArray) := zh hM3.symm
    have HD6 : Hid (D = (rowC 16 y).toArray) := zh HD3.out.symm
    rw [hF3] at hX4
    rw [hE3] at hE
    rw [HD3.out] at hY4
    have hS_0 : SL [(wr.heap.size, E), (w.heap.size + 1, D)] w4.drew := SL.cons hE.drew (SL.cons hY4.drew (SL.nil _))
    have hX_0 : Blk w4.drew w.heap.size F3 82 := hX4.drew
    have hZ_0 : Blk w4.drew (w.heap.size + 1 + 1) (rowC 16 (fun _ => 0)).toArray 82 := hZ4.drew
    have hO_0 : Below w.heap.size w w4.drew := hO4.drew
    clear hX hY hE hX4 hY4 hZ4 hO4 hF3 hE3 hA3 hM3 htl hcl2 HG4 HB5 HX HY HZ HO HB HCS HC1 HQ HRN HEQ HQ3
    refine wp_region_held_drew (S := (SL [(wr.heap.size, E), ((w.heap.size + 1), D)])) (by kernel_rfl) ?_ (fun hHeld => ?_)
    ·(try dsimp only)
     first | assumption | (apply SL.drew; assumption)
    generalize w4.drew = w5 at *
    refine wT 1 ?_ rfl ?_ ?_
    rotate_left
    ·intro wS hSw
     refine exec_load16 (x := .tmp 7) ?_ ?_ (ld16 hSw.h0 HIE.out) <;> rfl
    (try simp only [Act.put, zS])
    refine wT 3 ?_ rfl ?_ ?_
    rotate_left
    ·intro wS hSw
     refine exec_load16 (x := .tmp 4) ?_ ?_ (ld16 hSw.tl.h0 HID.out) <;> rfl
    (try simp only [Act.put, zS])
    refine wR [0] ?_
    refine aN rfl fun K hK => ?_
    refine step_load16 rfl (.tmp 3) rfl w.heap.size rfl F3 hX_0 HIF.out ?_
    refine hK.out _ _ ?_ fun hHeld => ?_
    ·(try dsimp only)
     first | assumption | (apply SL.drew; assumption)
    clear hK K
    (try simp only [Act.put, zS])
    refine wR [2] ?_
    refine aN rfl fun K hK => ?_
    go_simp
    (refine (HADD.out _).mono ?_; rintro e v_1 ⟨rfl, hb_1⟩; have hS_1 := SL.later hS_0 hb_1; have hX_1 := Blk.below hX_0 hb_1 (Blk.lt hX_0); have hZ_1 := Blk.below hZ_0 hb_1 (Blk.lt hZ_0); have hO_1 := Below.trans hO_0 (hb_1.mono hO_0.size); clear hS_0 hX_0 hZ_0 hO_0; clear hb_1; skip)
    (try go_wp2_with fail)
    refine hK.out _ _ ?_ fun hHeld => ?_
    ·(try dsimp only)
     first | assumption | (apply SL.drew; assumption)
    clear hK K
    (try simp only [Act.put, zS])
    refine wR [4] ?_
    refine aN rfl fun K hK => ?_
    go_simp
    (refine (HMUL.out _).mono ?_; rintro e v_2 ⟨rfl, hb_2⟩; have hS_2 := SL.later hS_1 hb_2; have hX_2 := Blk.below hX_1 hb_2 (Blk.lt hX_1); have hZ_2 := Blk.below hZ_1 hb_2 (Blk.lt hZ_1); have hO_2 := Below.trans hO_1 (hb_2.mono hO_1.size); clear hS_1 hX_1 hZ_1 hO_1; clear hb_2; skip)
    (try go_wp2_with fail)
    refine hK.out _ _ ?_ fun hHeld => ?_
    ·(try dsimp only)
     first | assumption | (apply SL.drew; assumption)
    clear hK K
    (try simp only [Act.put, zS])
    refine wR [5] ?_
    refine aN rfl fun K hK => ?_
    (refine step_store16 rfl (.tmp 3) (.tmp 22) rfl w.heap.size rfl M F3 rfl hX_2 HM5.out HF5.out ?_; have hX_3 := Blk.store16 hX_2 HM5.out HF5.out; have hS_3 := SL.set hS_2 HNE.out M.toList; have hZ_3 := (Own.setCells M.toList 0 v_2).blk hZ_2 HNZ.out; have hO_3 := Below.set16 (g := w.heap.size) hO_2 (Nat.le_refl _) hO_2.size M.toList; obtain ⟨v_3, hw_3⟩ := zX (v_2.setCells w.heap.size 0 M.toList); rw [hw_3] at hX_3 hS_3 hZ_3 hO_3 ⊢; clear hX_2 hS_2 hZ_2 hO_2 hw_3; skip)
    refine hK.out _ _ ?_ fun hHeld => ?_
    ·(try dsimp only)
     first | assumption | (apply SL.drew; assumption)
    clear hK K
    (try simp only [Act.put, zS])
    refine wpAnyH_done (by kernel_rfl) ?_ _
    have HX9 := zh hX_3
    have HZ9 := zh hZ_3
    have HS9 := zh hS_3
    have HO9 := zh hO_3
    clear hX_3 hZ_3 hS_3 hO_3
    go_wp2_with fail
    go_roundw
    case rel => exact ⟨k + 1, HK1.out, HRZ.out, (by have q9 := HX9.out; rw [HM6.out] at q9; exact q9), (by have q9 := HS9.out.tl.h0; rw [HD6.out] at q9; exact q9), HZ9.out, HO9.out⟩
    case measure => exact HMZ.out
  ·obtain rfl : m = 0 := by omega
   have hmn : 0 = n - 16 * k := HM.out
   obtain rfl : k = (n + 15) / 16 := by omega
   obtain ⟨F3, hF3⟩ := zX ((rowC 16 (thrF y f n s ((n + 15) / 16))).toArray)
   have HX : Hid (Blk wr w.heap.size F3 82) := zh (hF3 ▸ hX)
   have HTh : Hid (wr.there (w.heap.size + 1 + 1) 0 F3.size) := zh (hF3 ▸ hZ.there _)
   have HI : Hid ((Tryz.prog.info? 82).map (·.size) = some F3.size) := zh (hF3 ▸ info16 _)
   have HON : Hid (F3.all (·.oneCell') = true) := zh (hF3 ▸ one16 _)
   have HN : Hid (Blk (wr.setCells (w.heap.size + 1 + 1) 0 F3.toList) (w.heap.size + 1 + 1) F3 82) := zh (hF3 ▸ hZ.store _)
   have HB2 : Hid (Below w.heap.size w (wr.setCells (w.heap.size + 1 + 1) 0 F3.toList)) := zh (Below.set16 hO (by omega) hO.size F3.toList)
   have HF3 := zh hF3
   have HHI := zh hk
   clear hX hY hZ hO hF3 hmn hby HM hk HHI hlt
   go_wp2_with (first
    | (refine wpList_load_row rfl 82 (.tmp 3) rfl w.heap.size rfl 82 F3 (0, 0) _ HX.out Tryz.underlying82 rfl HI.out ?_)
    | (refine wpList_store_mid rfl 82 (.tmp 6) (.tmp 23) rfl (w.heap.size + 1 + 1) 0 F3 rfl rfl HTh.out HI.out HON.out ?_))
   refine bodyPost_ret (v := .agg F3) ?_ rfl ⟨by rw [HF3.out], HB2.out⟩
   exact results_cell_row Tryz.results82 _ _ (w.heap.size + 1 + 1) 82 F3 (0, 0) _ rfl HN.out Tryz.underlying82 rfl HI.out
def twoF (h f : Nat → Nat) (n : Nat) (g : Nat → Nat) (m : Nat) : Nat → Nat := thrF h g m (thrF h f n (fun _ => 0) ((n + 15) / 16)) ((m + 15) / 16)
def hashF (h f : Nat → Nat) (n : Nat) (g : Nat → Nat) (m : Nat) : Nat → Nat := mulF (addF (twoF h f n g m) (blkF (n * 8) (m * 8))) h
def HR1 (w0 : World) (D F : Array Value) (v : Value) (wr : World) : Prop := ∃ g, v = .pointer (some ⟨g, 0, none⟩) ∧ w0.heap.size + 1 < g ∧ Blk wr g F 82 ∧ Blk wr w0.heap.size D 82 ∧ Blk wr (w0.heap.size + 1) zero16 82 ∧ Below w0.heap.size w0 wr
def HI1 (w0 : World) (D F : Array Value) (a b g z k : Nat) (wr : World) : Prop := Blk wr g F 82 ∧ Blk wr w0.heap.size D 82 ∧ Blk wr (w0.heap.size + 1) zero16 82 ∧ B16 wr z (fun i => if i % 8 < k then blkF a b i else 0) ∧ Below w0.heap.size w0 wr
theorem hash_anyG (y f g : Nat → Nat) (oa ob : Option Addr) (n m cn cm : Nat) (w : World) (hy : ∀ i, i < 16 → y i < 256) (ha : Bytes w oa n f) (hb : Bytes w ob m g) (hnc : n ≤ cn) (hmc : m ≤ cm) (hcn : cn ≤ maxLen) (hcm : cm ≤ maxLen) (hn : n < 1000000) (hm : m < 1000000) :
  Calls Tryz.prog 59 #[.agg (rowC 16 y).toArray, .slice oa n cn, .slice ob m cm] w fun e w' => e = .returned (.agg (rowC 16 (hashF y f n g m)).toArray) ∧ Below w.heap.size w w' := by
 have hz := zero16_run
 obtain ⟨D, hD⟩ := zX ((rowC 16 y).toArray)
 obtain ⟨T1, hT1⟩ := zX ((rowC 16 (thrF y f n (fun _ => 0) ((n + 15) / 16))).toArray)
 obtain ⟨T2, hT2⟩ := zX ((rowC 16 (twoF y f n g m)).toArray)
 have hl0 : ∀ i, i < 16 → (fun _ => 0 : Nat → Nat) i < 256 := fun _ _ => Nat.zero_lt_succ _
 have HTH1 : Hid (∀ w', Below w.heap.size w w' → Calls Tryz.prog 82 #[.agg zero16, .agg D, .slice oa n cn] w' fun e w'' => e = .returned (.agg T1) ∧ Below w'.heap.size w' w'') := zh fun w' hb' => by
  rw [← hD, ← hT1]; exact through_any (fun _ => 0) y f oa n cn w' hl0 hy (ha.later hb') hnc hcn
 have HTH2 : Hid (∀ w', Below w.heap.size w w' → Calls Tryz.prog 82 #[.agg T1, .agg D, .slice ob m cm] w' fun e w'' => e = .returned (.agg T2) ∧ Below w'.heap.size w' w'') := zh fun w' hb' => by
  rw [← hD, ← hT1, ← hT2]; exact through_any _ y g ob m cm w' (thrF_lt hl0 _) hy (hb.later hb') hmc hcm
 have HID : Hid ((Tryz.prog.info? 82).map (·.size) = some D.size) := zh (hD ▸ info16 _)
 have HFC : Hid (∃ f, T2 = (rowC 16 f).toArray) := zh ⟨_, hT2.symm⟩
 have HZC : Hid (∃ f, zero16 = (rowC 16 f).toArray) := zh ⟨_, rfl⟩
 have HD := zh hD
 have HT := zh hT2
 have HY := zh hy
 have n0 : (0 : Int) ≤ (n : Int) := by omega
 have n1 : (n : Int) < 1000000 := by omega
 have m0 : (0 : Int) ≤ (m : Int) := by omega
 have m1 : (m : Int) < 1000000 := by omega
 rw [hD]
 clear hy ha hb hD hT1 hT2 hnc hmc hcn hcm hl0
 go_enter Tryz.func59, Tryz.ntmps59
 go_upto_region 1 with fail
 obtain ⟨w0, hw0⟩ := zX ((w.alloc (.cells D 82)).alloc (.cells zero16 82))
 have B0 : Blk w0 w.heap.size D 82 := by rw [← hw0]; exact (Blk.new w _ 82).alloc _
 have B1 : Blk w0 (w.heap.size + 1) zero16 82 := by rw [← hw0]; simpa using Blk.new (w.alloc (.cells D 82)) zero16 82
 have O : Below w.heap.size w w0 := by rw [← hw0]; exact (zA).alloc (by simp) _
 rw [hw0]
 clear hw0
 go_cut [7] (HR1 w D T2)
 case first =>
  have hS_0 : SL [(w.heap.size, D)] w0.drew := SL.cons B0.drew (SL.nil _)
  have hZ_0 : Blk w0.drew (w.heap.size + 1) zero16 82 := B1.drew
  have hO_0 : Below w.heap.size w w0.drew := O.drew
  clear B0 B1 O
  refine wp_region_held_drew (S := (SL [(w.heap.size, D)])) (by kernel_rfl) ?_ (fun hHeld => ?_)
  ·(try dsimp only)
   first | assumption | (apply SL.drew; assumption)
  generalize w0.drew = W0 at *
  refine wT 0 ?_ rfl ?_ ?_
  rotate_left
  ·intro wS hSw
   refine exec_build (C := zero16) (parts := #[]) (ps := #[]) ?_ ?_ build_none <;> first | rfl | simp
  (try simp only [Act.put, zS])
  refine wT 1 ?_ rfl ?_ ?_
  rotate_left
  ·intro wS hSw
   refine exec_load16 (x := .tmp 3) ?_ ?_ (ld16 hSw.h0 HID.out) <;> rfl
  (try simp only [Act.put, zS])
  refine wT 2 ?_ rfl ?_ ?_
  rotate_left
  ·intro wS hSw
   (try dsimp only at hSw)
   go_simp
   (try with_reducible rfl)
  (try simp only [Act.put, zS])
  refine wT 4 ?_ rfl ?_ ?_
  rotate_left
  ·intro wS hSw
   refine exec_load16 (x := .tmp 3) ?_ ?_ (ld16 hSw.h0 HID.out) <;> rfl
  (try simp only [Act.put, zS])
  refine wT 5 ?_ rfl ?_ ?_
  rotate_left
  ·intro wS hSw
   (try dsimp only at hSw)
   go_simp
   (try with_reducible rfl)
  (try simp only [Act.put, zS])
  refine wR [3, 7] ?_
  refine aC rfl (fun K hK => ?_) ?_
  ·skip
   go_simp
   (refine (HTH1.out _ hO_0).mono ?_; rintro e v_1 ⟨rfl, hb_1⟩; have hS_1 := SL.later hS_0 hb_1; have hZ_1 := Blk.below hZ_0 hb_1 (Blk.lt hZ_0); have hO_1 := Below.trans hO_0 (hb_1.mono hO_0.size); clear hS_0 hZ_0 hO_0; clear hb_1; skip)
   (try go_wp2_with fail)
   refine hK.out _ _ ?_ fun hHeld => ?_
   ·(try dsimp only)
    first | assumption | (apply SL.drew; assumption)
   clear hK K
   (try simp only [Act.put, zS])
   refine wR [6, 7] ?_
   refine aC rfl (fun K hK => ?_) ?_
   ·skip
    go_simp
    (refine (HTH2.out _ hO_1).mono ?_; rintro e v_2 ⟨rfl, hb_2⟩; have hS_2 := SL.later hS_1 hb_2; have hZ_2 := Blk.below hZ_1 hb_2 (Blk.lt hZ_1); have hO_2 := Below.trans hO_1 (hb_2.mono hO_1.size); clear hS_1 hZ_1 hO_1; clear hb_2; skip)
    (try go_wp2_with fail)
    refine hK.out _ _ ?_ fun hHeld => ?_
    ·(try dsimp only)
     first | assumption | (apply SL.drew; assumption)
    clear hK K
    (try simp only [Act.put, zS])
    refine wR [7] ?_
    refine aN rfl fun K hK => ?_
    go_simp
    (obtain ⟨v_3, hw_3⟩ := zX (v_2.alloc (.cells zero16 82)); rw [hw_3]; have hb_3 : Below v_2.heap.size v_2 v_3 := (by rw [← hw_3]; exact zA); have hS_3 := SL.later hS_2 hb_3; have hZ_3 := Blk.below hZ_2 hb_3 (Blk.lt hZ_2); have hO_3 := Below.trans hO_2 (hb_3.mono hO_2.size); have hG_3 : Blk v_3 v_2.heap.size zero16 82 := (by rw [← hw_3]; exact Blk.new _ _ _); have HGL := zh (show w.heap.size + 1 < v_2.heap.size from Blk.lt hZ_2); clear hS_2 hZ_2 hO_2; clear hb_3 hw_3; skip)
    (try go_wp2_with fail)
    refine hK.out _ _ ?_ fun hHeld => ?_
    ·(try dsimp only)
     first | assumption | (apply SL.drew; assumption)
    clear hK K
    (try simp only [Act.put, zS])
    refine wR [8] ?_
    refine aN rfl fun K hK => ?_
    (refine step_store16 rfl (.tmp 7) (.tmp 18) rfl v_2.heap.size rfl T2 zero16 rfl hG_3 HFC.out HZC.out ?_; have hG_4 := Blk.store16 hG_3 HFC.out HZC.out; have hS_4 := SL.set hS_3 (zh (show ∀ p ∈ [(w.heap.size, D)], p.1 ≠ v_2.heap.size by have h7 := HGL.out; intro p hp; rcases List.mem_cons.1 hp with rfl | hp; (show w.heap.size ≠ _; omega); cases hp)).out T2.toList; have hZ_4 := (Own.setCells T2.toList 0 v_3).blk hZ_3 (zh (show w.heap.size + 1 ≠ v_2.heap.size by have h7 := HGL.out; omega)).out; have hO_4 := Below.set16 (g := v_2.heap.size) hO_3 (by have h7 := HGL.out; omega) hO_3.size T2.toList; obtain ⟨v_4, hw_4⟩ := zX (v_3.setCells v_2.heap.size 0 T2.toList); rw [hw_4] at hG_4 hS_4 hZ_4 hO_4 ⊢; clear hG_3 hS_3 hZ_3 hO_3 hw_4; skip)
    refine hK.out _ _ ?_ fun hHeld => ?_
    ·(try dsimp only)
     first | assumption | (apply SL.drew; assumption)
    clear hK K
    (try simp only [Act.put, zS])
    refine wpAnyH_done (by kernel_rfl) ?_ _
    go_wp2_with fail
    go_meet
    exact ⟨_, rfl, HGL.out, hG_4, hS_4.h0, hZ_4, hO_4⟩
   refine aN rfl fun K hK => ?_
   go_simp
   (obtain ⟨v_5, hw_5⟩ := zX (v_1.alloc (.cells zero16 82)); rw [hw_5]; have hb_5 : Below v_1.heap.size v_1 v_5 := (by rw [← hw_5]; exact zA); have hS_5 := SL.later hS_1 hb_5; have hZ_5 := Blk.below hZ_1 hb_5 (Blk.lt hZ_1); have hO_5 := Below.trans hO_1 (hb_5.mono hO_1.size); have hG_5 : Blk v_5 v_1.heap.size zero16 82 := (by rw [← hw_5]; exact Blk.new _ _ _); have HGL := zh (show w.heap.size + 1 < v_1.heap.size from Blk.lt hZ_1); clear hS_1 hZ_1 hO_1; clear hb_5 hw_5; skip)
   (try go_wp2_with fail)
   refine hK.out _ _ ?_ fun hHeld => ?_
   ·(try dsimp only)
    first | assumption | (apply SL.drew; assumption)
   clear hK K
   (try simp only [Act.put, zS])
   refine wR [6] ?_
   refine aN rfl fun K hK => ?_
   go_simp
   (refine (HTH2.out _ hO_5).mono ?_; rintro e v_6 ⟨rfl, hb_6⟩; have hS_6 := SL.later hS_5 hb_6; have hZ_6 := Blk.below hZ_5 hb_6 (Blk.lt hZ_5); have hG_6 := Blk.below hG_5 hb_6 (Blk.lt hG_5); have hO_6 := Below.trans hO_5 (hb_6.mono hO_5.size); clear hS_5 hZ_5 hG_5 hO_5; clear hb_6; skip)
   (try go_wp2_with fail)
   refine hK.out _ _ ?_ fun hHeld => ?_
   ·(try dsimp only)
    first | assumption | (apply SL.drew; assumption)
   clear hK K
   (try simp only [Act.put, zS])
   refine wR [8] ?_
   refine aN rfl fun K hK => ?_
   (refine step_store16 rfl (.tmp 7) (.tmp 18) rfl v_1.heap.size rfl T2 zero16 rfl hG_6 HFC.out HZC.out ?_; have hG_7 := Blk.store16 hG_6 HFC.out HZC.out; have hS_7 := SL.set hS_6 (zh (show ∀ p ∈ [(w.heap.size, D)], p.1 ≠ v_1.heap.size by have h7 := HGL.out; intro p hp; rcases List.mem_cons.1 hp with rfl | hp; (show w.heap.size ≠ _; omega); cases hp)).out T2.toList; have hZ_7 := (Own.setCells T2.toList 0 v_6).blk hZ_6 (zh (show w.heap.size + 1 ≠ v_1.heap.size by have h7 := HGL.out; omega)).out; have hO_7 := Below.set16 (g := v_1.heap.size) hO_6 (by have h7 := HGL.out; omega) hO_6.size T2.toList; obtain ⟨v_7, hw_7⟩ := zX (v_6.setCells v_1.heap.size 0 T2.toList); rw [hw_7] at hG_7 hS_7 hZ_7 hO_7 ⊢; clear hG_6 hS_6 hZ_6 hO_6 hw_7; skip)
   refine hK.out _ _ ?_ fun hHeld => ?_
   ·(try dsimp only)
    first | assumption | (apply SL.drew; assumption)
   clear hK K
   (try simp only [Act.put, zS])
   refine wpAnyH_done (by kernel_rfl) ?_ _
   go_wp2_with fail
   go_meet
   exact ⟨_, rfl, HGL.out, hG_7, hS_7.h0, hZ_7, hO_7⟩
  refine aN rfl fun K hK => ?_
  go_simp
  (obtain ⟨v_8, hw_8⟩ := zX (W0.alloc (.cells zero16 82)); rw [hw_8]; have hb_8 : Below W0.heap.size W0 v_8 := (by rw [← hw_8]; exact zA); have hS_8 := SL.later hS_0 hb_8; have hZ_8 := Blk.below hZ_0 hb_8 (Blk.lt hZ_0); have hO_8 := Below.trans hO_0 (hb_8.mono hO_0.size); have hG_8 : Blk v_8 W0.heap.size zero16 82 := (by rw [← hw_8]; exact Blk.new _ _ _); have HGL := zh (show w.heap.size + 1 < W0.heap.size from Blk.lt hZ_0); clear hS_0 hZ_0 hO_0; clear hb_8 hw_8; skip)
  (try go_wp2_with fail)
  refine hK.out _ _ ?_ fun hHeld => ?_
  ·(try dsimp only)
   first | assumption | (apply SL.drew; assumption)
  clear hK K
  (try simp only [Act.put, zS])
  refine wR [3] ?_
  refine aN rfl fun K hK => ?_
  go_simp
  (refine (HTH1.out _ hO_8).mono ?_; rintro e v_9 ⟨rfl, hb_9⟩; have hS_9 := SL.later hS_8 hb_9; have hZ_9 := Blk.below hZ_8 hb_9 (Blk.lt hZ_8); have hG_9 := Blk.below hG_8 hb_9 (Blk.lt hG_8); have hO_9 := Below.trans hO_8 (hb_9.mono hO_8.size); clear hS_8 hZ_8 hG_8 hO_8; clear hb_9; skip)
  (try go_wp2_with fail)
  refine hK.out _ _ ?_ fun hHeld => ?_
  ·(try dsimp only)
   first | assumption | (apply SL.drew; assumption)
  clear hK K
  (try simp only [Act.put, zS])
  refine wR [6] ?_
  refine aN rfl fun K hK => ?_
  go_simp
  (refine (HTH2.out _ hO_9).mono ?_; rintro e v_10 ⟨rfl, hb_10⟩; have hS_10 := SL.later hS_9 hb_10; have hZ_10 := Blk.below hZ_9 hb_10 (Blk.lt hZ_9); have hG_10 := Blk.below hG_9 hb_10 (Blk.lt hG_9); have hO_10 := Below.trans hO_9 (hb_10.mono hO_9.size); clear hS_9 hZ_9 hG_9 hO_9; clear hb_10; skip)
  (try go_wp2_with fail)
  refine hK.out _ _ ?_ fun hHeld => ?_
  ·(try dsimp only)
   first | assumption | (apply SL.drew; assumption)
  clear hK K
  (try simp only [Act.put, zS])
  refine wR [8] ?_
  refine aN rfl fun K hK => ?_
  (refine step_store16 rfl (.tmp 7) (.tmp 18) rfl W0.heap.size rfl T2 zero16 rfl hG_10 HFC.out HZC.out ?_; have hG_11 := Blk.store16 hG_10 HFC.out HZC.out; have hS_11 := SL.set hS_10 (zh (show ∀ p ∈ [(w.heap.size, D)], p.1 ≠ W0.heap.size by have h7 := HGL.out; intro p hp; rcases List.mem_cons.1 hp with rfl | hp; (show w.heap.size ≠ _; omega); cases hp)).out T2.toList; have hZ_11 := (Own.setCells T2.toList 0 v_10).blk hZ_10 (zh (show w.heap.size + 1 ≠ W0.heap.size by have h7 := HGL.out; omega)).out; have hO_11 := Below.set16 (g := W0.heap.size) hO_10 (by have h7 := HGL.out; omega) hO_10.size T2.toList; obtain ⟨v_11, hw_11⟩ := zX (v_10.setCells W0.heap.size 0 T2.toList); rw [hw_11] at hG_11 hS_11 hZ_11 hO_11 ⊢; clear hG_10 hS_10 hZ_10 hO_10 hw_11; skip)
  refine hK.out _ _ ?_ fun hHeld => ?_
  ·(try dsimp only)
   first | assumption | (apply SL.drew; assumption)
  clear hK K
  (try simp only [Act.put, zS])
  refine wpAnyH_done (by kernel_rfl) ?_ _
  go_wp2_with fail
  go_meet
  exact ⟨_, rfl, HGL.out, hG_11, hS_11.h0, hZ_11, hO_11⟩
 case rest =>
  obtain ⟨q, rfl, hq, hF, hDD, hZ, hO⟩ := hcut
  have HT1 : Hid (∀ wz, wc.alloc (.cells zero16 82) = wz → HI1 w D T2 (n * 8) (m * 8) q wc.heap.size 0 wz) := zh fun wz e => by
   rw [← e]
   refine ⟨hF.alloc _, hDD.alloc _, hZ.alloc _, ?_, hO.alloc hO.size _⟩
   refine B16.congr (f := fun _ => 0) ?_ fun i _ => (if_neg (Nat.not_lt_zero _)).symm
   exact Blk.new wc zero16 82
  have HQ := zh hq
  have HQZ : Hid (q < wc.heap.size) := zh (Blk.lt hF)
  clear hF hDD hZ hO hq
  go_wp2_with fail
  clear hz
  go_loopw [27] (fun i wr => ∃ k : Nat, k ≤ 8 ∧ i = .int .i64 (k : Int) ∧ HI1 w D T2 (n * 8) (m * 8) q wc.heap.size k wr) (fun i _ => 8 - (intOf i).toNat)
  case atStart => exact ⟨0, Nat.zero_le _, rfl, HT1.out _ rfl⟩
  case round =>
   obtain ⟨k, hk, rfl, hT⟩ := hrel
   by_cases hlt : k < 8
   ·obtain ⟨hF, hDD, hZ, hL, hO⟩ := hT
    have z0 : wr.cell? ⟨wc.heap.size, k, none⟩ = some (.int .u8 0) := by
     have := hL.cell (show k < 16 by omega); rw [if_neg (by omega)] at this; exact this
    have z1 : wr.cell? ⟨wc.heap.size, 8 + k, none⟩ = some (.int .u8 0) := by
     have := hL.cell (show 8 + k < 16 by omega); rw [if_neg (by omega)] at this; exact this
    have f0 : wr.frozen? ⟨wc.heap.size, k, none⟩ = false := Blk.free hL _
    have f1 : wr.frozen? ⟨wc.heap.size, 8 + k, none⟩ = false := Blk.free hL _
    have n1' : IntKind.u8.wrap ((n : Int) * 8 / (2 : Int) ^ (56 - 8 * k)) = ((numB (n * 8) 8 k : Nat) : Int) := by
     have := numB_shift (n * 8) k hlt
     rw [show ((n * 8 : Nat) : Int) = (n : Int) * 8 by omega] at this; exact this
    have n2' : IntKind.u8.wrap ((m : Int) * 8 / (2 : Int) ^ (56 - 8 * k)) = ((numB (m * 8) 8 k : Nat) : Int) := by
     have := numB_shift (m * 8) k hlt
     rw [show ((m * 8 : Nat) : Int) = (m : Int) * 8 by omega] at this; exact this
    have k0 : (0 : Int) ≤ (k : Int) := by omega
    have k1 : (k : Int) < 8 := by omega
    have hq1 := HQ.out
    have hq2 := HQZ.out
    have HN := zh (show HI1 w D T2 (n * 8) (m * 8) q wc.heap.size (k + 1) ((wr.setCell ⟨wc.heap.size, k, none⟩ (.int .u8 (numB (n * 8) 8 k : Nat))).setCell ⟨wc.heap.size, 8 + k, none⟩ (.int .u8 (numB (m * 8) 8 k : Nat))) by
     refine ⟨Blk.set_other (Blk.set_other hF (by simp; omega) _) (by simp; omega) _, Blk.set_other (Blk.set_other hDD (by simp; omega) _) (by simp; omega) _, Blk.set_other (Blk.set_other hZ (by simp; omega) _) (by simp; omega) _, B16.congr ((hL.set k (numB (n * 8) 8 k)).set (8 + k) (numB (m * 8) 8 k)) fun i hi => ?_, (hO.setCell (by simp; omega) _).setCell (by simp; omega) _⟩
     unfold upd
     by_cases e : i = 8 + k
     ·subst e; rw [if_pos rfl]
      show _ = if (8 + k) % 8 < k + 1 then blkF (n * 8) (m * 8) (8 + k) else 0
      rw [if_pos (by omega)]; unfold blkF; rw [if_neg (by omega), show 8 + k - 8 = k by omega]
     ·rw [if_neg e]
      by_cases e' : i = k
      ·subst e'; rw [if_pos rfl]
       show _ = if i % 8 < i + 1 then blkF (n * 8) (m * 8) i else 0
       rw [if_pos (by omega)]; unfold blkF; rw [if_pos hlt]
      ·rw [if_neg e']
       show (if i % 8 < k then blkF (n * 8) (m * 8) i else 0) = if i % 8 < k + 1 then blkF (n * 8) (m * 8) i else 0
       by_cases h5 : i % 8 < k
       ·rw [if_pos h5, if_pos (by omega)]
       ·rw [if_neg h5, if_neg (by omega)])
    clear hF hDD hZ hL hO hq1 hq2
    generalize (n : Int) * 8 = a8 at *
    generalize (m : Int) * 8 = b8 at *
    generalize numB (n * 8) 8 k = u at *
    generalize numB (m * 8) 8 k = v at *
    rcases (show k = 0 ∨ k = 1 ∨ k = 2 ∨ k = 3 ∨ k = 4 ∨ k = 5 ∨ k = 6 ∨ k = 7 by omega) with rfl | rfl | rfl | rfl | rfl | rfl | rfl | rfl
    all_goals
     simp at z0 z1 f0 f1
     simp at n1' n2'
     go_wp2_with fail
     go_roundw
     case rel => first | exact ⟨1, by omega, rfl, HN.out⟩ | exact ⟨2, by omega, rfl, HN.out⟩ | exact ⟨3, by omega, rfl, HN.out⟩ | exact ⟨4, by omega, rfl, HN.out⟩ | exact ⟨5, by omega, rfl, HN.out⟩ | exact ⟨6, by omega, rfl, HN.out⟩ | exact ⟨7, by omega, rfl, HN.out⟩ | exact ⟨8, by omega, rfl, HN.out⟩
     case measure => simp [intOf]
   ·obtain rfl : k = 8 := by omega
    obtain ⟨hF, hDD, hZ, hL, hO⟩ := hT
    have hL' : B16 wr wc.heap.size (blkF (n * 8) (m * 8)) := hL.congr fun i hi => if_pos (Nat.mod_lt _ (by decide))
    obtain ⟨E, hE⟩ := zX ((rowC 16 (blkF (n * 8) (m * 8))).toArray)
    obtain ⟨A3, hA3⟩ := zX ((rowC 16 (addF (twoF y f n g m) (blkF (n * 8) (m * 8)))).toArray)
    obtain ⟨M, hM3⟩ := zX ((rowC 16 (hashF y f n g m)).toArray)
    have htl : ∀ i, i < 16 → twoF y f n g m i < 256 := thrF_lt (thrF_lt (fun _ _ => Nat.zero_lt_succ _) _) _
    have hcl2 : ∀ i, i < 16 → blkF (n * 8) (m * 8) i < 256 := fun i _ => blkF_lt _ _ i
    have HADD : Hid (∀ w, Calls Tryz.prog 58 #[.agg T2, .agg E] w fun e w' => e = .returned (.agg A3) ∧ Below w.heap.size w w') := zh fun w => by
     rw [← HT.out, ← hE, ← hA3]; exact gadd_any _ _ w htl hcl2
    have HMUL : Hid (∀ w, Calls Tryz.prog 83 #[.agg A3, .agg D] w fun e w' => e = .returned (.agg M) ∧ Below w.heap.size w w') := zh fun w => by
     rw [← HD.out, ← hA3, ← hM3]; exact gmul_any _ _ w (addF_lt htl hcl2) HY.out
    have HIT : Hid ((Tryz.prog.info? 82).map (·.size) = some T2.size) := zh (HT.out ▸ info16 _)
    have HIE : Hid ((Tryz.prog.info? 82).map (·.size) = some E.size) := zh (hE ▸ info16 _)
    have HIM : Hid ((Tryz.prog.info? 82).map (·.size) = some M.size) := zh (hM3 ▸ info16 _)
    have HM5 : Hid (∃ f, M = (rowC 16 f).toArray) := zh ⟨_, hM3.symm⟩
    have HM6 := zh hM3
    have hq1 := HQ.out
    have hq2 := HQZ.out
    have HNE : Hid (∀ p ∈ [(q, T2), (wc.heap.size, E), (w.heap.size, D)], p.1 ≠ w.heap.size + 1) := zh (by
     intro p hp
     rcases List.mem_cons.1 hp with rfl | hp
     ·show q ≠ _; omega
     ·rcases List.mem_cons.1 hp with rfl | hp
      ·show wc.heap.size ≠ _; omega
      ·rcases List.mem_cons.1 hp with rfl | hp
       ·show w.heap.size ≠ _; omega
       ·cases hp)
    have hL2 : Blk wr wc.heap.size E 82 := hE ▸ hL'
    have hS : SL [(q, T2), (wc.heap.size, E), (w.heap.size, D)] wr := SL.cons hF (SL.cons hL2 (SL.cons hDD (SL.nil _)))
    clear hF hDD hL hL' hL2 hE hA3 hM3 htl hcl2 hq1 hq2 HT1 hlt hk HTH1 HTH2
    have HS0 := zh hS
    have HZ0 := zh hZ
    have HO0 := zh hO
    clear hS hZ hO
    go_wp2_with fail
    have hS_0 := HS0.out.drew
    have hZ_0 := Blk.drew HZ0.out
    have hO_0 := HO0.out.drew
    clear HS0 HZ0 HO0
    refine wp_region_held_drew (S := (SL [(q, T2), (wc.heap.size, E), (w.heap.size, D)])) (by kernel_rfl) ?_ (fun hHeld => ?_)
    ·(try dsimp only)
     first | assumption | (apply SL.drew; assumption)
    generalize wr.drew = w5 at *
    refine wT 0 ?_ rfl ?_ ?_
    rotate_left
    ·intro wS hSw
     refine exec_load16 (x := .tmp 7) ?_ ?_ (ld16 hSw.h0 HIT.out) <;> rfl
    (try simp only [Act.put, zS])
    refine wT 1 ?_ rfl ?_ ?_
    rotate_left
    ·intro wS hSw
     refine exec_load16 (x := .tmp 10) ?_ ?_ (ld16 hSw.tl.h0 HIE.out) <;> rfl
    (try simp only [Act.put, zS])
    refine wT 3 ?_ rfl ?_ ?_
    rotate_left
    ·intro wS hSw
     refine exec_load16 (x := .tmp 3) ?_ ?_ (ld16 hSw.tl.tl.h0 HID.out) <;> rfl
    (try simp only [Act.put, zS])
    refine wR [2] ?_
    refine aN rfl fun K hK => ?_
    go_simp
    (refine (HADD.out _).mono ?_; rintro e v_12 ⟨rfl, hb_12⟩; have hS_12 := SL.later hS_0 hb_12; have hZ_12 := Blk.below hZ_0 hb_12 (Blk.lt hZ_0); have hO_12 := Below.trans hO_0 (hb_12.mono hO_0.size); clear hS_0 hZ_0 hO_0; clear hb_12; skip)
    (try go_wp2_with fail)
    refine hK.out _ _ ?_ fun hHeld => ?_
    ·(try dsimp only)
     first | assumption | (apply SL.drew; assumption)
    clear hK K
    (try simp only [Act.put, zS])
    refine wR [4] ?_
    refine aN rfl fun K hK => ?_
    go_simp
    (refine (HMUL.out _).mono ?_; rintro e v_13 ⟨rfl, hb_13⟩; have hS_13 := SL.later hS_12 hb_13; have hZ_13 := Blk.below hZ_12 hb_13 (Blk.lt hZ_12); have hO_13 := Below.trans hO_12 (hb_13.mono hO_12.size); clear hS_12 hZ_12 hO_12; clear hb_13; skip)
    (try go_wp2_with fail)
    refine hK.out _ _ ?_ fun hHeld => ?_
    ·(try dsimp only)
     first | assumption | (apply SL.drew; assumption)
    clear hK K
    (try simp only [Act.put, zS])
    refine wR [5] ?_
    refine aN rfl fun K hK => ?_
    (refine step_store16 rfl (.tmp 6) (.tmp 52) rfl (w.heap.size + 1) rfl M zero16 rfl hZ_13 HM5.out HZC.out ?_; have hZ_14 := Blk.store16 hZ_13 HM5.out HZC.out; have hS_14 := SL.set hS_13 HNE.out M.toList; have hO_14 := Below.set16 (g := (w.heap.size + 1)) hO_13 (by omega) hO_13.size M.toList; obtain ⟨v_14, hw_14⟩ := zX ((v_13.setCells (w.heap.size + 1) 0 M.toList)); rw [hw_14] at hZ_14 hS_14 hO_14 ⊢; clear hZ_13 hS_13 hO_13 hw_14; skip)
    refine hK.out _ _ ?_ fun hHeld => ?_
    ·(try dsimp only)
     first | assumption | (apply SL.drew; assumption)
    clear hK K
    (try simp only [Act.put, zS])
    refine wpAnyH_done (by kernel_rfl) ?_ _
    have HX9 := zh hZ_14
    have HO9 := zh hO_14
    clear hS_14 hZ_14 hO_14
    go_wp2_with fail
    refine bodyPost_ret (v := .agg M) ?_ rfl ⟨by rw [HM6.out], HO9.out⟩
    exact results_cell_row Tryz.results59 _ _ (w.heap.size + 1) 82 M (0, 0) _ rfl HX9.out Tryz.underlying82 rfl HIM.out
end Go.Proofs.YtncfocjmdecapaaGreatDoor
