/- Rings sealed and opened. -/
import Derived.Test.YtncfocjmdecapaaGreatDoorZB0
import Derived.Test.YtncfocjmdecapaaGreatDoorZS1
import Derived.Test.YtncfocjmdecapaaGreatDoorZS2
import Derived.Test.YtncfocjmdecapaaGreatDoorZSh4
import Derived.Test.YtncfocjmdecapaaGreatDoorZA0
import Derived.Test.YtncfocjmdecapaaGreatDoorZS5
import Derived.Test.YtncfocjmdecapaaGreatDoorZSh7
import Derived.Test.YtncfocjmdecapaaGreatDoorZS8
import Derived.Test.YtncfocjmdecapaaGreatDoorZHm2
import Derived.Test.YtncfocjmdecapaaGreatDoorZHm3
import Derived.Test.YtncfocjmdecapaaGreatDoorZAs
import Derived.Test.YtncfocjmdecapaaGreatDoorZR0
import Derived.Test.YtncfocjmdecapaaGreatDoorZK0
import Derived.Test.YtncfocjmdecapaaGreatDoorZK1
import Derived.Test.YtncfocjmdecapaaGreatDoorZK4
import Derived.Test.YtncfocjmdecapaaGreatDoorZKr5
import Derived.Test.YtncfocjmdecapaaGreatDoorZF1
import Derived.Test.YtncfocjmdecapaaGreatDoorZF2
import Derived.Test.YtncfocjmdecapaaGreatDoorZB16
import Derived.Test.YtncfocjmdecapaaGreatDoorZAe2
import Derived.Test.YtncfocjmdecapaaGreatDoorZAe4
import Derived.Test.YtncfocjmdecapaaGreatDoorZAe5
import Derived.Test.YtncfocjmdecapaaGreatDoorZC0
import Derived.Test.YtncfocjmdecapaaGreatDoorZC2
import Derived.Test.YtncfocjmdecapaaGreatDoorZGc5
import Derived.Test.YtncfocjmdecapaaGreatDoorZC6
import Derived.Test.YtncfocjmdecapaaGreatDoorZV1
import Derived.Test.YtncfocjmdecapaaGreatDoorZK6
namespace Go.Proofs.YtncfocjmdecapaaGreatDoor
set_option linter.unusedVariables false
set_option linter.unusedSimpArgs false
open Go.RowKit
/-- What is sealed beside a ring. -/
def beR : Nat → Nat := fun i => [99, 111, 114, 101, 47, 114, 105, 110, 103].getD i 0
def sR : ByteArray := ⟨#[114, 105, 110, 103]⟩
def sN : ByteArray := ⟨#[114, 105, 110, 103, 45, 110, 111, 110, 99, 101]⟩
theorem beR_lt : ∀ i, i < 9 → beR i < 256 := fun i hi => by
  have : ∀ k : Fin 9, beR k.1 < 256 := by decide
  exact this ⟨i, hi⟩
theorem bs_br (w : World) : Blk (w.alloc (.cells #[.int .u8 99, .int .u8 111, .int .u8 114, .int .u8 101, .int .u8 47, .int .u8 114, .int .u8 105, .int .u8 110, .int .u8 103] 5)) w.heap.size (rowC 9 beR).toArray 5 := Blk.new w _ _
/-- A ring's number: the first bytes of a sum. -/
def rnF (K : Nat → Nat) (m : Nat) (G : Nat → Nat) : Nat → Nat := hmN 32 (exF 32 K (sN.size + 5) (kiF sN 0)) m G
/-- A ring, sealed. -/
def rbF (K : Nat → Nat) (m : Nat) (G : Nat → Nat) : Nat → Nat := catF 12 (rnF K m G) (boxF (ekW K sR 0) (rnF K m G) G m beR 9)
/-- append of bytes onto a row that is full: in a new block. -/
theorem wpList_fullB {ops : Array Oper} {rest : List Oper} {o : Oper} {a : Act} {Q : Exit → Act → World → Prop} (hgd : o.guard = none) (s x : Operand)
    (ho : o.op = .call { callee := .builtin .append, args := #[s, x], argTypes := #[24, 24] })
    (b off n m cp : Nat) (ad : Addr) (f g : Nat → Nat) (W : World) (hs : a.eval s = .slice (some ⟨b, off, none⟩) n n) (hF : Bytes W (some ⟨b, off, none⟩) n f) (hx : a.eval x = .slice (some ad) m cp)
    (hB : Bytes W (some ad) m g) (hm : 0 < m) (hn : n + m < 100000000000000)
    (h : ∀ v' w', Grow w' W.heap.size v' (n + m) (catF n f g) → Below W.heap.size W w' → wpList Tryz.prog ops Q rest (a.put o.dst v') w') :
    wpList Tryz.prog ops Q (o :: rest) a W := by
  obtain ⟨i0, hi, hz0, hz1, hz2⟩ := info_parts info_u8
  obtain ⟨v', w', hr, hown, hg⟩ := run_append_arg_grows (P := Tryz.prog) W 24 o.type 5 i0 (.int .u8 0) 1 1 Tryz.underlying24 hi hz0 hz1 hz2 rfl (by decide) ⟨b, off, none⟩ n n (rowC n f) (by rw [rowC_len, Nat.mul_one]) hF.newsA ad m cp (rowC m g) (by rw [rowC_len, Nat.mul_one]) hB.newsA (by omega) (by unfold maxLen; omega) (by omega)
  refine wpList_plain hgd fun K hK => ?_
  unfold Oper.wp execOp
  simp only [ho, resolve, invoke, builtin, Sem.run_bind, Sem.run_pure, Result.andThen_ok, List.map_toArray, List.map_cons, List.map_nil, hs, hx, hr]
  exact hK _ _ (h v' w' (by unfold Grow; rw [rowC_cat]; exact hown) ((Below.refl W.heap.size W).grown hg (Nat.le_refl _) (fun q hq => by cases hq)))
theorem enc_lt {n : Nat} {S : Nat → Nat → Nat} (hn : n < 256) (hS : ∀ i j, i < n → j < 32 → S i j < 256) : ∀ i, i < 3 + 32 * n → encF n S i < 256 := fun i hi => by
  unfold encF
  by_cases e0 : i = 0
  · rw [if_pos e0]; decide
  · rw [if_neg e0]
    by_cases e1 : i = 1
    · rw [if_pos e1]; decide
    · rw [if_neg e1]
      by_cases e2 : i = 2
      · rw [if_pos e2]; exact hn
      · rw [if_neg e2]; exact hS _ _ (by omega) (Nat.mod_lt _ (by decide))
set_option maxRecDepth 100000 in
set_option maxHeartbeats 4000000 in
theorem esealring_ok (oa ot : Option Addr) (cn n cs : Nat) (K : Nat → Nat) (N : Nat → Nat) (S : Nat → Nat → Nat) (w : World) (hb : Bytes w oa 32 K) (hT : TL w ot n N S) (h : OkT n N) (hS : ∀ i j, i < n → j < 32 → S i j < 256) (hnc : 32 ≤ cn) (hg : GV w) :
    Calls Tryz.prog 7 #[.slice oa 32 cn, .agg #[.slice ot n cs]] w fun e w' => ∃ v B, e = .returned (.tuple #[v, .nilIface]) ∧ Grow w' B v (12 + (3 + 32 * n + 16)) (rbF K (3 + 32 * n) (encF n S)) ∧ w.heap.size ≤ B ∧ Below w.heap.size w w' := by
  obtain ⟨w0, hw0⟩ : ∃ q, w.alloc (.cells #[.slice ot n cs] 32) = q := ⟨_, rfl⟩
  have hb0 : Below w.heap.size w w0 := by rw [← hw0]; exact (Below.refl _ _).alloc (Nat.le_refl _) _
  have hB0 : Blk w0 w.heap.size #[.slice ot n cs] 32 := by rw [← hw0]; exact Blk.new _ _ _
  have c0 : w0.cell? ⟨w.heap.size, 0, none⟩ = some (.slice ot n cs) := by rw [Blk.cell hB0]; rfl
  have HEN := Lib.hid (encode_any n cs ot N S w0 (hT.later hb0) (fun i hi => by have := h.2.2 i hi; have := h.2.1; omega) hS (by have := h.2.1; omega))
  have HOK := Lib.hid h
  have HS := Lib.hid hS
  have HB0 := Lib.hid hb0
  have HKB := Lib.hid hb
  have HNC := Lib.hid hnc
  have HG := Lib.hid hg
  obtain ⟨m, hm⟩ : ∃ q, 3 + 32 * n = q := ⟨_, rfl⟩
  obtain ⟨G, hGG⟩ : ∃ q, encF n S = q := ⟨_, rfl⟩
  rw [hm, hGG]
  clear hb0 hB0 hb hT h hS hnc hg
  go_enter Tryz.func7, Tryz.ntmps7
  go_wp2_with fail
  refine HEN.out.mono ?_
  rintro e w1 ⟨hb1, ⟨_, h1⟩ | ⟨_, v, rfl, hGb⟩⟩
  · exact absurd HOK.out h1
  have hml : m ≤ 515 ∧ 35 ≤ m := by have := HOK.out.2.1; have := HOK.out.1; omega
  obtain ⟨op, cp, rfl, hBp, hcp, hcm, hno⟩ := hGb.bytesM (fun i hi => enc_lt (by have := HOK.out.2.1; omega) HS.out i hi)
  have hfr : ∀ y, op = some y → w0.heap.size ≤ y.block ∧ y.block < w1.heap.size := fun y hy => by
    have h2 := hBp.lt y hy (by omega)
    exact ⟨by subst hy; exact hGb.block y.block rfl, h2⟩
  rw [hm, hGG] at hBp
  rw [hm] at hcp hno ⊢
  have HP := Lib.hid (And.intro hBp (And.intro hcp (And.intro hcm (And.intro hml hfr))))
  have HB1 := Lib.hid (HB0.out.trans (hb1.mono HB0.out.size))
  have HOP : Hid (op = none → m = 0) := Lib.hid hno
  clear hb1 hGb hBp hcp hcm hml hfr hno HEN c0 HS HOK
  go_wp2_with fail
  refine (key_any oa cn K sN 0 w1 (HKB.out.later HB1.out) HNC.out (by decide) (by decide) (by decide) (HG.out.later HB1.out)).mono ?_
  rintro e w1k ⟨ok, rfl, hBk, hbk⟩
  have HB1k := Lib.hid (HB1.out.trans (hbk.mono HB1.out.size))
  have HBK := Lib.hid hBk
  have HPk := Lib.hid (HP.out.1.later hbk)
  have HFR : Hid (∀ y, op = some y → y.block < w1k.heap.size) := Lib.hid fun y hy => Nat.lt_of_lt_of_le (HP.out.2.2.2.2 y hy).2 hbk.size
  clear hBk hbk
  go_wp2_with fail
  refine (mac_any ok op 32 32 m cp (exF 32 K (sN.size + 5) (kiF sN 0)) G w1k HBK.out (Nat.le_refl _) (fun e => by obtain ⟨_, b, off, e2, _⟩ := HBK.out 0 (by decide); rw [e] at e2; cases e2) (by decide) HPk.out HP.out.2.1 (by have := HP.out.2.2.2.1; omega) (HG.out.later HB1k.out)).mono ?_
  rintro e w2 ⟨rfl, hb2⟩
  obtain ⟨M, hM⟩ : ∃ q, rnF K m G = q := ⟨_, rfl⟩
  have hM' : hmN 32 (exF 32 K (sN.size + 5) (kiF sN 0)) m G = M := hM
  rw [hM']
  obtain ⟨C, hC⟩ : ∃ q, (rowC 32 M).toArray = q := ⟨_, rfl⟩
  rw [hC]
  have HCC := Lib.hid hC
  have HMM := Lib.hid hM
  have HIC : Hid ((Tryz.prog.info? 22).map (·.size) = some C.size) := Lib.hid (by rw [← hC, List.size_toArray, rowC_len]; exact info_a32)
  have HZC : Hid (C.size = 32) := Lib.hid (by rw [← hC, List.size_toArray, rowC_len])
  have HOC : Hid (C.all (·.oneCell') = true) := Lib.hid (by rw [← hC]; exact all_oneCell_toArray (rowC_one _ _))
  have HML : Hid (∀ i, M i < 256) := Lib.hid fun i => by rw [← hM']; exact hmN_lt _ _ _ _ i
  have HB2 := Lib.hid (HB1k.out.trans (hb2.mono HB1k.out.size))
  have HSZ2 := Lib.hid hb2
  clear hM hM' hC hb2
  obtain ⟨b9, hqb9⟩ : ∃ y, w2.heap.size = y := ⟨_, rfl⟩
  obtain ⟨wz, hwz⟩ : ∃ y, w2.alloc (.cells zeroA 22) = y := ⟨_, rfl⟩
  have hbz : Below w2.heap.size w2 wz := by rw [← hwz]; exact (Below.refl _ _).alloc (Nat.le_refl _) _
  have hXz : Blk wz b9 zeroA 22 := by rw [← hwz, ← hqb9]; exact Blk.new _ _ _
  have HTZb9 : Hid (wz.there b9 0 C.size) := Lib.hid (hXz.there (by rw [zeroA_size, HZC.out]; exact Nat.le_refl _))
  obtain ⟨w3, hw5⟩ : ∃ y, wz.setCells b9 0 C.toList = y := ⟨_, rfl⟩
  have hOz : Own b9 wz w3 := by rw [← hw5]; exact Own.setCells _ _ _
  have HBw3 : Hid (Below w2.heap.size w2 w3) := Lib.hid (hbz.trans (hOz.below (by omega) hbz.size))
  have HNw3 : Hid (Blk w3 b9 C 22) := Lib.hid (by rw [← hw5]; exact Blk.setCells hXz C.toList (by rw [zeroA_size, Array.length_toList]; exact HZC.out))
  have HWw3 := Lib.hid hw5
  clear hbz hXz hOz hw5
  have HB3 := Lib.hid (HB2.out.trans (HBw3.out.mono HB2.out.size))
  have HBM : Hid (Bytes w3 (some ⟨b9, 0, none⟩) 12 M) := Lib.hid (by
    have h9 := HNw3.out
    rw [← HCC.out] at h9
    have h8 := be_bytes h9 (fun i _ => HML.out i)
    exact fun k hk => h8 k (by omega))
  have HP3 := Lib.hid ((HPk.out.later HSZ2.out).later HBw3.out)
  go_wp2_with (first | (refine wpList_zero rfl rfl zero_a32 ?_; rw [hwz, hqb9]; (try simp only [Act.put, List.setIfInBounds_toArray, List.set_cons_zero, List.set_cons_succ])) | (refine wpList_store_mid rfl 22 (.tmp 9) (.tmp 36) rfl b9 0 C rfl rfl HTZb9.out HIC.out HOC.out ?_; rw [HWw3.out]))
  refine (sealer_any oa cn K sR 0 w3 (HKB.out.later HB3.out) HNC.out (by decide) (by decide) (by decide) (HG.out.later HB3.out)).mono ?_
  rintro e w4 ⟨g, kb, bx, rfl, hGS⟩
  have HGS := Lib.hid hGS
  clear hGS
  obtain ⟨w5, hww5⟩ : ∃ q, w4.alloc (.cells #[.int .u8 99, .int .u8 111, .int .u8 114, .int .u8 101, .int .u8 47, .int .u8 114, .int .u8 105, .int .u8 110, .int .u8 103] 5) = q := ⟨_, rfl⟩
  obtain ⟨g5, hgg5⟩ : ∃ q, w4.heap.size = q := ⟨_, rfl⟩
  obtain ⟨w6, hww6⟩ : ∃ q, w5.freeze ⟨g5, 9, none⟩ 1 = q := ⟨_, rfl⟩
  have hB3 : Blk w5 g5 (rowC 9 beR).toArray 5 := by rw [← hww5, ← hgg5]; exact bs_br w4
  have HSH : Hid (Shp w5 g5 9) := Lib.hid (Shp.blk hB3)
  have HA : Hid (Bytes w6 (some ⟨g5, 0, none⟩) 9 beR) := Lib.hid (by rw [← hww6]; exact (be_bytes hB3 beR_lt).frz _ _)
  have hb23 : Below w4.heap.size w4 w5 := by rw [← hww5]; exact (Below.refl _ _).alloc (Nat.le_refl _) _
  have hb24 : Below w4.heap.size w4 w6 := hb23.trans (by rw [← hww6]; exact (Own.frz _ _ _ _).below (Nat.le_of_eq hgg5) hb23.size)
  have hlt := HGS.out.1.lt
  have hs4 := HGS.out.2.1.size
  have HK6 : Hid (KG w6 g kb bx (ekW K sR 0)) := Lib.hid (HGS.out.1.below hb24)
  have HM6 : Hid (Bytes w6 (some ⟨b9, 0, none⟩) 12 M) := Lib.hid ((HBM.out.later HGS.out.2.1).later hb24)
  have HP6 : Hid (Bytes w6 op m G) := Lib.hid ((HP3.out.later HGS.out.2.1).later hb24)
  have HB6 : Hid (Below w.heap.size w w6) := Lib.hid ((HB3.out.trans (HGS.out.2.1.mono HB3.out.size)).trans (hb24.mono (Nat.le_trans HB3.out.size hs4)))
  have h9lt := Blk.lt HNw3.out
  have HNE : Hid (b9 ≠ bx ∧ g5 ≠ bx ∧ w.heap.size ≤ bx ∧ (∀ y, op = some y → y.block ≠ bx)) := Lib.hid ⟨by have := HGS.out.2.2.1; omega, by omega, by have := HGS.out.2.2.1; have := HB3.out.size; omega, fun y hy => by have := HFR.out y hy; have := HSZ2.out.size; have := HBw3.out.size; have := HGS.out.2.2.1; omega⟩
  clear hB3 hb23 hb24 hlt hs4 h9lt
  go_wp2_with (first | (refine wpList_convB rfl (.tmp 50) rfl g5 9 9 9 rfl HSH.out ?_; rw [hww6]))
  refine (seal_any g kb bx (ekW K sR 0) M G beR m 9 (some ⟨b9, 0, none⟩) op (some ⟨g5, 0, none⟩) 12 cp 9 w6 HK6.out HM6.out (fun y hy => by cases hy; exact HNE.out.1) HP6.out (fun y hy _ => HNE.out.2.2.2 y hy) HA.out (fun y hy _ => by cases hy; exact HNE.out.2.1) HP.out.2.1 HP.out.2.2.1 (Nat.le_refl _) (by unfold maxLen; omega) (by have := HP.out.2.2.2.1; omega) (by decide)).mono ?_
  rintro e w7 ⟨v, rfl, hG, _, hO⟩
  have hMlt : ∀ i, i < 12 → M i < 256 := fun i _ => HML.out i
  obtain ⟨ob, cb, rfl, hBb, hcb, _, hnob⟩ := hG.bytesM (boxF_lt hMlt (fun i hi => (HP6.out i hi).1))
  obtain ⟨ad, rfl⟩ : ∃ ad, ob = some ad := by
    cases ob with
    | none => exact absurd (hnob rfl) (by omega)
    | some ad => exact ⟨ad, rfl⟩
  have HBB := Lib.hid hBb
  have HB7 : Hid (Below w.heap.size w w7) := Lib.hid (HB6.out.trans (hO.below HNE.out.2.2.1 HB6.out.size))
  have HM7 : Hid (Bytes w7 (some ⟨b9, 0, none⟩) 12 M) := Lib.hid (HM6.out.own hO (fun y hy _ => by cases hy; exact HNE.out.1))
  clear hG hO hBb hcb hnob hMlt
  go_wp2_with (first | (refine wpList_fullB rfl (.tmp 58) (.tmp 59) rfl b9 0 12 (m + 16) cb ad M (boxF (ekW K sR 0) M G m beR 9) w7 rfl HM7.out rfl HBB.out (by omega) (by have := HP.out.2.2.2.1; omega) ?_; intro v9 w9 hG9 hb9; have HG9 := Lib.hid hG9; have HB9 := Lib.hid (HB7.out.trans (hb9.mono HB7.out.size)); clear hG9 hb9))
  refine bodyPost_ret (v := .tuple #[v9, .nilIface]) ?_ rfl ⟨v9, _, rfl, by unfold rbF; rw [HMM.out]; exact HG9.out, HB7.out.size, HB9.out⟩
  exact results_tmp2 (t := 4) (u := 5) Tryz.results7 _ _ _
end Go.Proofs.YtncfocjmdecapaaGreatDoor
