/- A row of bytes through the product, block by block: linear. The field of blocks: products of two words, put together by whatever way; a product is nought just if a factor is. Bytes, block by block, through the product. -/
import Derived.ProofKit
import Derived.Laws.CopyOwn
import Derived.Test.YtncfocjmdecapaaGreatDoorZB0
import Derived.Test.YtncfocjmdecapaaGreatDoorZS1
import Derived.Test.YtncfocjmdecapaaGreatDoorZS2
import Derived.Test.YtncfocjmdecapaaGreatDoorZSh4
import Derived.Test.YtncfocjmdecapaaGreatDoorZA0
import Derived.Test.YtncfocjmdecapaaGreatDoorZS5
import Derived.Test.YtncfocjmdecapaaGreatDoorZSh7
import Derived.Test.YtncfocjmdecapaaGreatDoorZS8
import Derived.Test.YtncfocjmdecapaaGreatDoorZHm2
import Derived.Test.YtncfocjmdecapaaGreatDoorZAs
import Derived.Test.YtncfocjmdecapaaGreatDoorZR0
import Derived.Test.YtncfocjmdecapaaGreatDoorZB16
import Derived.Test.YtncfocjmdecapaaGreatDoorZQ0
import Derived.Test.YtncfocjmdecapaaGreatDoorZGh5
namespace Go.Proofs.YtncfocjmdecapaaGreatDoor
set_option linter.unusedVariables false
set_option linter.unusedSimpArgs false
open Go.RowKit
/-- The k-th block of a row of n bytes, filled up with zeros. -/
def chF (f : Nat → Nat) (n k : Nat) : Nat → Nat := fun i => if 16 * k + i < n then f (16 * k + i) else 0
/-- The sum behind k blocks. -/
def thrF (h f : Nat → Nat) (n : Nat) (s : Nat → Nat) : Nat → Nat → Nat
  | 0 => s
  | k + 1 => mulF (addF (thrF h f n s k) (chF f n k)) h
theorem chF_lt {f : Nat → Nat} {n k : Nat} (hf : ∀ i, i < n → f i < 256) (i : Nat) : chF f n k i < 256 := by
  unfold chF; split
  · exact hf _ (by assumption)
  · decide
theorem thrF_lt {h f s : Nat → Nat} {n : Nat} (hs : ∀ i, i < 16 → s i < 256) : ∀ k i, i < 16 → thrF h f n s k i < 256
  | 0, i, hi => hs i hi
  | _ + 1, i, _ => blkF_lt _ _ i
theorem addF_lt {f g : Nat → Nat} (hf : ∀ i, i < 16 → f i < 256) (hg : ∀ i, i < 16 → g i < 256) (i : Nat) (hi : i < 16) : addF f g i < 256 :=
  Nat.xor_lt_two_pow (n := 8) (hf i hi) (hg i hi)
end Go.Proofs.YtncfocjmdecapaaGreatDoor
namespace Go.Proofs.YtncfocjmdecapaaGreatDoor
set_option linter.unusedVariables false
set_option linter.unusedSimpArgs false
open Go.RowKit
theorem mulF_lt (f g : Nat → Nat) (i : Nat) : mulF f g i < 256 := blkF_lt _ _ _
end Go.Proofs.YtncfocjmdecapaaGreatDoor
namespace Go.Proofs.YtncfocjmdecapaaGreatDoor
set_option linter.unusedVariables false
set_option linter.unusedSimpArgs false
open Go.RowKit
def lenOf : Value → Nat | .slice _ m _ => m | _ => 0
/-- What is left of a row behind k blocks. -/
def Rest (w0 : World) (v : Value) (n k : Nat) (f : Nat → Nat) : Prop := ∃ oa m c, v = .slice oa m c ∧ m = n - 16 * k ∧ m ≤ c ∧ c ≤ maxLen ∧ Bytes w0 oa m (fun i => f (16 * k + i))
/-- Behind k blocks. -/
def TI (w0 : World) (h f s : Nat → Nat) (n k : Nat) (v : Value) (wr : World) : Prop := Rest w0 v n k f ∧ B16 wr w0.heap.size (thrF h f n s k) ∧ B16 wr (w0.heap.size + 1) h ∧ B16 wr (w0.heap.size + 1 + 1) (fun _ => 0) ∧ Below w0.heap.size w0 wr
set_option maxRecDepth 100000 in
set_option maxHeartbeats 4000000 in
theorem through_any (s y f : Nat → Nat) (oa : Option Addr) (n cap : Nat) (w : World) (hs : ∀ i, i < 16 → s i < 256) (hh : ∀ i, i < 16 → y i < 256) (hb : Bytes w oa n f) (hnc : n ≤ cap) (hcm : cap ≤ maxLen) :
    Calls Tryz.prog 82 #[.agg (rowC 16 s).toArray, .agg (rowC 16 y).toArray, .slice oa n cap] w fun e w' => e = .returned (.agg (rowC 16 (thrF y f n s ((n + 15) / 16))).toArray) ∧ Below w.heap.size w w' := by
  have hz := zero16_run
  obtain ⟨C, hC⟩ : ∃ C, (rowC 16 s).toArray = C := ⟨_, rfl⟩
  obtain ⟨D, hD⟩ : ∃ C, (rowC 16 y).toArray = C := ⟨_, rfl⟩
  have hf : ∀ i, i < n → f i < 256 := fun i hi => (hb i hi).1
  have HT := Lib.hid (show TI w y f s n 0 (.slice oa n cap) (((w.alloc (.cells C 82)).alloc (.cells D 82)).alloc (.cells zero16 82)) by
    rw [← hC, ← hD]
    refine ⟨⟨oa, n, cap, rfl, rfl, hnc, hcm, ?_⟩, ((Blk.new w _ 82).alloc _).alloc _, ?_, ?_, (((Below.refl _ _).alloc (Nat.le_refl _) _).alloc (by simp) _).alloc (by simp; omega) _⟩
    · simpa using hb
    · have := (Blk.new (w.alloc (.cells (rowC 16 s).toArray 82)) (rowC 16 y).toArray 82).alloc (.cells zero16 82)
      unfold B16; simpa using this
    · have := Blk.new ((w.alloc (.cells (rowC 16 s).toArray 82)).alloc (.cells (rowC 16 y).toArray 82)) zero16 82
      show Blk _ _ zero16 _; simpa using this)
  have HD3 := Lib.hid hD
  have HS := Lib.hid hs
  have HH := Lib.hid hh
  have HF := Lib.hid hf
  rw [hC, hD]
  clear hs hh hb hf hC hD hnc hcm
  go_enter Tryz.func82, Tryz.ntmps82
  go_wp2_with fail
  go_loopw [2] (fun v wr => ∃ k : Nat, k ≤ (n + 15) / 16 ∧ TI w y f s n k v wr) (fun v _ => lenOf v)
  case atStart => exact ⟨0, Nat.zero_le _, HT.out⟩
  case round =>
    obtain ⟨k, hk, ⟨oa', m, c, rfl, hm, hmc, hcm, hby⟩, hX, hY, hZ, hO⟩ := hrel
    have HM := Lib.hid hm
    clear hm
    by_cases hlt : 0 < m
    · obtain ⟨_, b, off, rfl, _⟩ := hby 0 hlt
      have m0 : (0 : Int) < (m : Int) := by omega
      obtain ⟨q, hq⟩ : ∃ q, Nat.min m 16 = q := ⟨_, rfl⟩
      have hq1 : q ≤ m := by rw [← hq]; exact Nat.min_le_left _ _
      have hq2 : q ≤ 16 := by rw [← hq]; exact Nat.min_le_right _ _
      have hq0 : 0 < q := by
        rcases Nat.le_total m 16 with h1 | h1
        · rw [← hq, show Nat.min m 16 = m from Nat.min_eq_left h1]; exact hlt
        · rw [← hq, show Nat.min m 16 = 16 from Nat.min_eq_right h1]; decide
      have hq3 : q = m ∧ m ≤ 16 ∨ q = 16 ∧ 16 ≤ m := by
        rw [← hq]
        rcases Nat.le_total m 16 with h1 | h1
        · left; exact ⟨Nat.min_eq_left h1, h1⟩
        · right; exact ⟨Nat.min_eq_right h1, h1⟩
      have hmn : m = n - 16 * k := HM.out
      have HRN : Hid (∀ v c', (v = .slice (some ⟨b, off + q, none⟩) (m - q) c' ∧ m - q ≤ c' ∧ c' ≤ maxLen) ∨ (v = .slice (some ⟨b, off, none⟩) (m - q) 0 ∧ m - q = 0) → Rest w v n (k + 1) f) := Lib.hid fun v c' hv => by
        rcases hv with ⟨rfl, h1, h2⟩ | ⟨rfl, h1⟩
        · refine ⟨_, _, _, rfl, by omega, h1, h2, fun i hi => ?_⟩
          obtain ⟨g1, b', o', e, g2⟩ := hby (q + i) (by omega)
          cases e
          have hq16 : 16 * k + (q + i) = 16 * (k + 1) + i := by omega
          dsimp only at g1 g2 ⊢
          rw [hq16] at g1 g2
          exact ⟨g1, b, off + q, rfl, by rw [Nat.add_assoc]; exact g2⟩
        · exact ⟨_, _, _, rfl, by omega, by omega, by unfold maxLen; omega, fun i hi => absurd hi (by omega)⟩
      have HQ3 := Lib.hid hq3
      have HK1 : Hid (k + 1 ≤ (n + 15) / 16) := Lib.hid (by omega)
      have HMS : Hid (m - q < m) := Lib.hid (by omega)
      have HEQ : Hid (∀ i, i < 16 → (i < q ↔ 16 * k + i < n)) := Lib.hid (by omega)
      clear hq3 hmn
      obtain ⟨cs, hcs⟩ : ∃ cs, rowC q (fun i => f (16 * k + i)) = cs := ⟨_, rfl⟩
      have hcl : cs.length = q := by rw [← hcs]; exact rowC_len _ _
      have HCL := Lib.hid hcl
      have HSR : Hid (∀ w', Below wr.heap.size wr w' → ∀ j v, cs[j]? = some v → w'.cell? ((Addr.mk b off none).add j) = some v) := Lib.hid fun w' hb' j v hv => by
        have hj : j < q := by
          rcases Nat.lt_or_ge j q with h1 | h1
          · exact h1
          · rw [List.getElem?_eq_none (by omega)] at hv; cases hv
        rw [← hcs, rowC_get _ hj] at hv
        cases hv
        obtain ⟨_, b1, o1, e1, hc1⟩ := hby j (by omega)
        cases e1
        have ha : (Addr.mk b off none).add j = ⟨b, off + j, none⟩ := by
          unfold Addr.add; split
          · rename_i hk0; subst hk0; rfl
          · rfl
        rw [ha]
        exact cell_below (hO.trans (hb'.mono hO.size)) hc1
      obtain ⟨wa, hwa⟩ : ∃ x, wr.alloc (.cells zero16 82) = x := ⟨_, rfl⟩
      have hba : Below wr.heap.size wr wa := by rw [← hwa]; exact (Below.refl _ _).alloc (Nat.le_refl _) _
      have HG : Hid (wa.heap[wr.heap.size]? = some (.cells (rowC 16 (fun _ => 0)).toArray 82 (0, 0))) := Lib.hid (by rw [← hwa]; exact Blk.new wr zero16 82)
      have HN : Hid (cs.length = Nat.min m 16) := Lib.hid (by rw [hcl, hq])
      have HP : Hid (0 < cs.length → some (Addr.mk wr.heap.size 0 none) = some (Addr.mk wr.heap.size 0 none) ∧ ∃ ad, some (Addr.mk b off none) = some ad ∧ ∀ j v, cs[j]? = some v → wa.cell? (ad.add j) = some v) := Lib.hid fun _ => ⟨rfl, _, rfl, HSR.out wa hba⟩
      have HFi : Hid (0 + cs.length ≤ (rowC 16 (fun _ => 0)).length) := Lib.hid (by rw [hcl, rowC_len]; omega)
      have HBA := Lib.hid hba
      have HQ := Lib.hid hq
      have HC1 : Hid (∀ v ∈ cs, v.oneCell' = true) := Lib.hid (hcs ▸ rowC_one _ _)
      have HCS := Lib.hid hcs
      have HX := Lib.hid hX
      have HY := Lib.hid hY
      have HZ := Lib.hid hZ
      have HO := Lib.hid hO
      have HB := Lib.hid hby
      clear hcl hcs hq hby hX hY hZ hO hba HSR
      go_wp2_with (first | (with_reducible refine wpList_copy_splice rfl (.tmp 12) (.tmp 13) 24 24 rfl 5 Tryz.underlying24 (by kernel_rfl) (some ⟨wr.heap.size, 0, none⟩) (some ⟨b, off, none⟩) 16 16 m c rfl rfl wr.heap.size 0 (rowC 16 (fun _ => 0)) 82 ?_ cs ?_ ?_ ?_ HC1.out wr.heap.size wr ?_ (Nat.le_refl _) ?_; exact HG.out; exact HN.out; exact HP.out; exact HFi.out; exact HBA.out; intro w4 HG4 HB4; have HB5 := Lib.hid HB4; clear HB4 HG HP HBA hwa; rw [HCL.out]))
      all_goals
        first
        | (have HRZ := Lib.hid (HRN.out (.slice (some ⟨b, off, none⟩) (m - q) 0) 0 (Or.inr ⟨rfl, by omega⟩)); have HMZ : Hid (lenOf (.slice (some ⟨b, off, none⟩) (m - q) 0) < m) := Lib.hid HMS.out; generalize Value.slice (some ⟨b, off, none⟩) (m - q) 0 = v2 at HRZ HMZ ⊢)
        | (have HRZ := Lib.hid (HRN.out (.slice (some ⟨b, off + q, none⟩) (m - q) (c - q)) (c - q) (Or.inl ⟨rfl, by omega, by omega⟩)); have HMZ : Hid (lenOf (.slice (some ⟨b, off + q, none⟩) (m - q) (c - q)) < m) := Lib.hid HMS.out; generalize Value.slice (some ⟨b, off + q, none⟩) (m - q) (c - q) = v2 at HRZ HMZ ⊢)
      all_goals
        have hX := HX.out
        have hY := HY.out
        have hE : Blk w4 wr.heap.size (rowC 16 (chF f n k)).toArray 82 := by
          have := HG4.out
          rw [← HCS.out, splice16 _ q hq2] at this
          have e : rowC 16 (fun i => if i < q then f (16 * k + i) else 0) = rowC 16 (chF f n k) := rowC_congr fun i hi => by
            show (if i < q then f (16 * k + i) else 0) = if 16 * k + i < n then f (16 * k + i) else 0
            by_cases h1 : i < q
            · rw [if_pos h1, if_pos ((HEQ.out i hi).1 h1)]
            · rw [if_neg h1, if_neg (fun h2 => h1 ((HEQ.out i hi).2 h2))]
          rw [e] at this; exact this
        have hX4 : Blk w4 w.heap.size (rowC 16 (thrF y f n s k)).toArray 82 := Blk.below HX.out HB5.out (Blk.lt HX.out)
        have hY4 : Blk w4 (w.heap.size + 1) (rowC 16 y).toArray 82 := Blk.below HY.out HB5.out (Blk.lt HY.out)
        have hZ4 : B16 w4 (w.heap.size + 1 + 1) (fun _ => 0) := Blk.below HZ.out HB5.out (Blk.lt HZ.out)
        have hO4 : Below w.heap.size w w4 := HO.out.trans (HB5.out.mono HO.out.size)
        have hxs : w.heap.size < wr.heap.size := Blk.lt HX.out
        obtain ⟨F3, hF3⟩ : ∃ x, (rowC 16 (thrF y f n s k)).toArray = x := ⟨_, rfl⟩
        obtain ⟨E, hE3⟩ : ∃ x, (rowC 16 (chF f n k)).toArray = x := ⟨_, rfl⟩
        obtain ⟨A3, hA3⟩ : ∃ x, (rowC 16 (addF (thrF y f n s k) (chF f n k))).toArray = x := ⟨_, rfl⟩
        obtain ⟨M, hM3⟩ : ∃ x, (rowC 16 (thrF y f n s (k + 1))).toArray = x := ⟨_, rfl⟩
        have htl : ∀ i, i < 16 → thrF y f n s k i < 256 := fun i hi => thrF_lt HS.out k i hi
        have hcl2 : ∀ i, i < 16 → chF f n k i < 256 := fun i _ => chF_lt HF.out i
        have HADD : Hid (∀ w, Calls Tryz.prog 58 #[.agg F3, .agg E] w fun e w' => e = .returned (.agg A3) ∧ Below w.heap.size w w') := Lib.hid fun w => by
          rw [← hF3, ← hE3, ← hA3]; exact gadd_any _ _ w htl hcl2
        have HMUL : Hid (∀ w, Calls Tryz.prog 83 #[.agg A3, .agg D] w fun e w' => e = .returned (.agg M) ∧ Below w.heap.size w w') := Lib.hid fun w => by
          rw [← HD3.out, ← hA3, ← hM3]; exact gmul_any _ _ w (addF_lt htl hcl2) HH.out
        have HIF : Hid ((Tryz.prog.info? 82).map (·.size) = some F3.size) := Lib.hid (hF3 ▸ info16 _)
        have HIE : Hid ((Tryz.prog.info? 82).map (·.size) = some E.size) := Lib.hid (hE3 ▸ info16 _)
        have HID : Hid ((Tryz.prog.info? 82).map (·.size) = some D.size) := Lib.hid (HD3.out ▸ info16 _)
        have HM5 : Hid (∃ f, M = (rowC 16 f).toArray) := Lib.hid ⟨_, hM3.symm⟩
        have HF5 : Hid (∃ f, F3 = (rowC 16 f).toArray) := Lib.hid ⟨_, hF3.symm⟩
        have HNE : Hid (∀ p ∈ [(wr.heap.size, E), (w.heap.size + 1, D)], p.1 ≠ w.heap.size) := Lib.hid (by
          intro p hp
          rcases List.mem_cons.1 hp with rfl | hp
          · exact Nat.ne_of_gt hxs
          · rcases List.mem_cons.1 hp with rfl | hp
            · exact Nat.succ_ne_self _
            · cases hp)
        have HNZ : Hid (w.heap.size + 1 + 1 ≠ w.heap.size) := Lib.hid (by omega)
        have HM6 : Hid (M = (rowC 16 (thrF y f n s (k + 1))).toArray) := Lib.hid hM3.symm
        have HD6 : Hid (D = (rowC 16 y).toArray) := Lib.hid HD3.out.symm
        rw [hF3] at hX4
        rw [hE3] at hE
        rw [HD3.out] at hY4
        have hS_0 : SL [(wr.heap.size, E), (w.heap.size + 1, D)] w4.drew := SL.cons hE.drew (SL.cons hY4.drew (SL.nil _))
        have hX_0 : Blk w4.drew w.heap.size F3 82 := hX4.drew
        have hZ_0 : Blk w4.drew (w.heap.size + 1 + 1) (rowC 16 (fun _ => 0)).toArray 82 := hZ4.drew
        have hO_0 : Below w.heap.size w w4.drew := hO4.drew
        clear hX hY hE hX4 hY4 hZ4 hO4 hF3 hE3 hA3 hM3 htl hcl2 HG4 HB5 HX HY HZ HO HB HCS HC1 HQ HRN HEQ HQ3
        refine wp_region_held_drew (S := (SL [(wr.heap.size, E), ((w.heap.size + 1), D)])) (by kernel_rfl) ?_ (fun hHeld => ?_)
        · (try dsimp only)
          first | assumption | (apply SL.drew; assumption)
        generalize w4.drew = w5 at *
        refine wpAnyH_take (i := 1) (oi := { dst := some 19, op := Go.Op.load 82 (Go.Operand.tmp 7), type := 82, pos := "ghash.go:79", after := #[], guard := none }) (v := ?_) rfl (by kernel_rfl) (by kernel_rfl) (by kernel_rfl) (fun _ _ _ h => h) (Or.inl ⟨by rfl, ?_⟩) (by assumption) ?_
        rotate_left
        · intro wS hSw
          refine exec_load16 (x := .tmp 7) ?_ ?_ (ld16 hSw.h0 HIE.out) <;> rfl
        (try simp only [Act.put, List.setIfInBounds_toArray, List.set_cons_zero, List.set_cons_succ])
        refine wpAnyH_take (i := 3) (oi := { dst := some 21, op := Go.Op.load 82 (Go.Operand.tmp 4), type := 82, pos := "ghash.go:79", after := #[], guard := none }) (v := ?_) rfl (by kernel_rfl) (by kernel_rfl) (by kernel_rfl) (fun _ _ _ h => h) (Or.inl ⟨by rfl, ?_⟩) (by assumption) ?_
        rotate_left
        · intro wS hSw
          refine exec_load16 (x := .tmp 4) ?_ ?_ (ld16 hSw.tl.h0 HID.out) <;> rfl
        (try simp only [Act.put, List.setIfInBounds_toArray, List.set_cons_zero, List.set_cons_succ])
        refine wpAnyH_ready (rs := [0]) (by kernel_rfl) (by simp) ?_
        refine AllReadyH.cons (o := { dst := some 18, op := Go.Op.load 82 (Go.Operand.tmp 3), type := 82, pos := "ghash.go:79", after := #[], guard := none }) rfl (fun K hK => ?_) AllReadyH.nil
        refine step_load16 rfl (.tmp 3) rfl w.heap.size rfl F3 hX_0 HIF.out ?_
        refine hK.out _ _ ?_ (fun hHeld => ?_)
        · (try dsimp only)
          first | assumption | (apply SL.drew; assumption)
        clear hK K
        (try simp only [Act.put, List.setIfInBounds_toArray, List.set_cons_zero, List.set_cons_succ])
        refine wpAnyH_ready (rs := [2]) (by kernel_rfl) (by simp) ?_
        refine AllReadyH.cons (o := { dst := some 20, op := Go.Op.call { callee := Go.Callee.value (Go.Operand.func 58), args := #[Go.Operand.tmp 18, Go.Operand.tmp 19], argTypes := #[82, 82] }, type := 82, pos := "ghash.go:79", after := #[{ on := 0, ground := Go.Ground.data }, { on := 1, ground := Go.Ground.data }], guard := none }) rfl (fun K hK => ?_) AllReadyH.nil
        go_simp
        (refine (HADD.out _).mono ?_; rintro e v_1 ⟨rfl, hb_1⟩; have hS_1 := SL.later hS_0 hb_1; have hX_1 := Blk.below hX_0 hb_1 (Blk.lt hX_0); have hZ_1 := Blk.below hZ_0 hb_1 (Blk.lt hZ_0); have hO_1 := Below.trans hO_0 (hb_1.mono hO_0.size); clear hS_0 hX_0 hZ_0 hO_0; clear hb_1; skip)
        (try go_wp2_with fail)
        refine hK.out _ _ ?_ (fun hHeld => ?_)
        · (try dsimp only)
          first | assumption | (apply SL.drew; assumption)
        clear hK K
        (try simp only [Act.put, List.setIfInBounds_toArray, List.set_cons_zero, List.set_cons_succ])
        refine wpAnyH_ready (rs := [4]) (by kernel_rfl) (by simp) ?_
        refine AllReadyH.cons (o := { dst := some 22, op := Go.Op.call { callee := Go.Callee.value (Go.Operand.func 83), args := #[Go.Operand.tmp 20, Go.Operand.tmp 21], argTypes := #[82, 82] }, type := 82, pos := "ghash.go:79", after := #[{ on := 2, ground := Go.Ground.data }, { on := 3, ground := Go.Ground.data }, { on := 2, ground := Go.Ground.chain }], guard := none }) rfl (fun K hK => ?_) AllReadyH.nil
        go_simp
        (refine (HMUL.out _).mono ?_; rintro e v_2 ⟨rfl, hb_2⟩; have hS_2 := SL.later hS_1 hb_2; have hX_2 := Blk.below hX_1 hb_2 (Blk.lt hX_1); have hZ_2 := Blk.below hZ_1 hb_2 (Blk.lt hZ_1); have hO_2 := Below.trans hO_1 (hb_2.mono hO_1.size); clear hS_1 hX_1 hZ_1 hO_1; clear hb_2; skip)
        (try go_wp2_with fail)
        refine hK.out _ _ ?_ (fun hHeld => ?_)
        · (try dsimp only)
          first | assumption | (apply SL.drew; assumption)
        clear hK K
        (try simp only [Act.put, List.setIfInBounds_toArray, List.set_cons_zero, List.set_cons_succ])
        refine wpAnyH_ready (rs := [5]) (by kernel_rfl) (by simp) ?_
        refine AllReadyH.cons (o := { dst := none, op := Go.Op.store 82 (Go.Operand.tmp 3) (Go.Operand.tmp 22), type := 0, pos := "ghash.go:79", after := #[{ on := 4, ground := Go.Ground.data }, { on := 4, ground := Go.Ground.chain }, { on := 0, ground := Go.Ground.phase }, { on := 1, ground := Go.Ground.phase }, { on := 2, ground := Go.Ground.phase }, { on := 3, ground := Go.Ground.phase }, { on := 4, ground := Go.Ground.phase }], guard := none }) rfl (fun K hK => ?_) AllReadyH.nil
        (refine step_store16 rfl (.tmp 3) (.tmp 22) rfl w.heap.size rfl M F3 rfl hX_2 HM5.out HF5.out ?_; have hX_3 := Blk.store16 hX_2 HM5.out HF5.out; have hS_3 := SL.set hS_2 HNE.out M.toList; have hZ_3 := (Own.setCells M.toList 0 v_2).blk hZ_2 HNZ.out; have hO_3 := Below.set16 (g := w.heap.size) hO_2 (Nat.le_refl _) hO_2.size M.toList; obtain ⟨v_3, hw_3⟩ : ∃ q, (v_2.setCells w.heap.size 0 M.toList) = q := ⟨_, rfl⟩; rw [hw_3] at hX_3 hS_3 hZ_3 hO_3 ⊢; clear hX_2 hS_2 hZ_2 hO_2 hw_3; skip)
        refine hK.out _ _ ?_ (fun hHeld => ?_)
        · (try dsimp only)
          first | assumption | (apply SL.drew; assumption)
        clear hK K
        (try simp only [Act.put, List.setIfInBounds_toArray, List.set_cons_zero, List.set_cons_succ])
        refine wpAnyH_done (by kernel_rfl) ?_ _
        have HX9 := Lib.hid hX_3
        have HZ9 := Lib.hid hZ_3
        have HS9 := Lib.hid hS_3
        have HO9 := Lib.hid hO_3
        clear hX_3 hZ_3 hS_3 hO_3
        go_wp2_with fail
        go_roundw
        case rel => exact ⟨k + 1, HK1.out, HRZ.out, (by have q9 := HX9.out; rw [HM6.out] at q9; exact q9), (by have q9 := HS9.out.tl.h0; rw [HD6.out] at q9; exact q9), HZ9.out, HO9.out⟩
        case measure => exact HMZ.out
    · obtain rfl : m = 0 := by omega
      have hmn : 0 = n - 16 * k := HM.out
      obtain rfl : k = (n + 15) / 16 := by omega
      obtain ⟨F3, hF3⟩ : ∃ x, (rowC 16 (thrF y f n s ((n + 15) / 16))).toArray = x := ⟨_, rfl⟩
      have HX : Hid (Blk wr w.heap.size F3 82) := Lib.hid (hF3 ▸ hX)
      have HTh : Hid (wr.there (w.heap.size + 1 + 1) 0 F3.size) := Lib.hid (hF3 ▸ hZ.there _)
      have HI : Hid ((Tryz.prog.info? 82).map (·.size) = some F3.size) := Lib.hid (hF3 ▸ info16 _)
      have HON : Hid (F3.all (·.oneCell') = true) := Lib.hid (hF3 ▸ one16 _)
      have HN : Hid (Blk (wr.setCells (w.heap.size + 1 + 1) 0 F3.toList) (w.heap.size + 1 + 1) F3 82) := Lib.hid (hF3 ▸ hZ.store _)
      have HB2 : Hid (Below w.heap.size w (wr.setCells (w.heap.size + 1 + 1) 0 F3.toList)) := Lib.hid (Below.set16 hO (by omega) hO.size F3.toList)
      have HF3 := Lib.hid hF3
      have HHI := Lib.hid hk
      clear hX hY hZ hO hF3 hmn hby HM hk HHI hlt
      go_wp2_with (first
        | (refine wpList_load_row rfl 82 (.tmp 3) rfl w.heap.size rfl 82 F3 (0, 0) _ HX.out Tryz.underlying82 rfl HI.out ?_)
        | (refine wpList_store_mid rfl 82 (.tmp 6) (.tmp 23) rfl (w.heap.size + 1 + 1) 0 F3 rfl rfl HTh.out HI.out HON.out ?_))
      refine bodyPost_ret (v := .agg F3) ?_ rfl ⟨by rw [HF3.out], HB2.out⟩
      exact results_cell_row Tryz.results82 _ _ (w.heap.size + 1 + 1) 82 F3 (0, 0) _ rfl HN.out Tryz.underlying82 rfl HI.out
end Go.Proofs.YtncfocjmdecapaaGreatDoor
