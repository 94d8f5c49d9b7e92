/- What the law of chains is sure of. -/
import Derived.Test.YtmabhjifldafaaaDoorCh5
import Derived.Test.YtmabhjifldafaaaDoorLw34
import Derived.Test.YtmabhjifldafaaaDoorApg
import Derived.Test.YtmabhjifldafaaaDoorFrz
import Derived.Test.YtmabhjifldafaaaDoorWiG
namespace Go.Proofs.YtmabhjifldafaaaDoor
set_option linter.unusedVariables false
set_option linter.unusedSimpArgs false
open Go.RowKit

/-- The handle's cell, and the tables. -/
def CG (w : World) : Prop := Handle w ∧ GV w
theorem CG.later {w w' : World} (h : CG w) (hb : Below w.heap.size w w') : CG w' := ⟨h.1.later hb, h.2.later hb⟩
theorem dec_encN {k : Nat} {S : Nat → Nat} (hk : k < 18446744073709551616) : dhN 40 (hdB k S) = k := by
  show rdN (hdB k S) 8 = k
  rw [rdN_ext (F := hdB k S) (G := numB k 8) (k := 8) (fun i hi => if_pos hi)]; exact rd_num hk
theorem dec_encS {k : Nat} {S : Nat → Nat} (i : Nat) : dhS 40 (hdB k S) i = S i := by
  show catF 8 (numB k 8) S (8 + i) = S i
  unfold catF; rw [if_neg (by omega), show 8 + i - 8 = i by omega]
theorem dec_enc {k : Nat} {S : Nat → Nat} (hk : k < 18446744073709551616) : hdL (dhN 40 (hdB k S)) (dhS 40 (hdB k S)) = hdL k S := by
  rw [dec_encN hk]; exact hdL_congr fun i _ => dec_encS i
theorem LBs.frz {W : World} {oa : Option Addr} {n : Nat} {L : Nat → Nat} {G : Nat → Nat → Nat} (h : LBs W oa n L G) (p : Addr) (k : Nat) : LBs (W.freeze p k) oa n L G := fun i hi => by
  obtain ⟨b, off, od, cp, h1, h2, h3, h4, h5⟩ := h i hi
  exact ⟨b, off, od, cp, h1, by rw [cell_freeze]; exact h2, h3, h4.frz p k, h5⟩
theorem lbs_one {w' : World} {g b : Nat} {x : Nat} {cp : Nat} (h1 : Blk w' g #[.slice (some ⟨b, 0, none⟩) 1 cp] 33) (hc : 1 ≤ cp) (hm : cp ≤ maxLen) (h2 : Bytes w' (some ⟨b, 0, none⟩) 1 (fun _ => x)) : LBs w' (some ⟨g, 0, none⟩) 1 (fun _ => 1) (fun _ _ => x) := fun i hi => by
  obtain rfl : i = 0 := by omega
  exact ⟨g, 0, _, cp, rfl, by rw [Blk.cell h1]; rfl, hc, h2, (fun e => by cases e), hm⟩
set_option maxRecDepth 100000 in
set_option maxHeartbeats 16000000 in
theorem chain_sure (w : World) (hg : CG w) : Calls Tryd.prog 34 #[] w fun e w' => e = .returned (.bool true) ∧ Below w.heap.size w w' := by
  have hz := zero_h1
  have HIZ : Hid ((Tryd.prog.info? 65).map (·.size) = some zeroH.size) := Lib.hid (by rw [zeroH_size]; exact info_h1)
  obtain ⟨wA0, hwA0⟩ : ∃ x, w.alloc (.cells #[.int .u8 107] 5) = x := ⟨_, rfl⟩
  obtain ⟨wA, hwA⟩ : ∃ x, wA0.freeze ⟨w.heap.size, 1, none⟩ 1 = x := ⟨_, rfl⟩
  obtain ⟨wB0, hwB0⟩ : ∃ x, wA.alloc (.cells #[.int .u8 97] 5) = x := ⟨_, rfl⟩
  obtain ⟨wB, hwB⟩ : ∃ x, wB0.freeze ⟨wA.heap.size, 1, none⟩ 1 = x := ⟨_, rfl⟩
  have hbA0 : Below w.heap.size w wA0 := by rw [← hwA0]; exact (Below.refl _ _).alloc (Nat.le_refl _) _
  have hbA : Below w.heap.size w wA := hbA0.trans (by rw [← hwA]; exact (Own.frz _ _ _ _).below (Nat.le_refl _) hbA0.size)
  have hbB0 : Below wA.heap.size wA wB0 := by rw [← hwB0]; exact (Below.refl _ _).alloc (Nat.le_refl _) _
  have hbB : Below wA.heap.size wA wB := hbB0.trans (by rw [← hwB]; exact (Own.frz _ _ _ _).below (Nat.le_refl _) hbB0.size)
  have hB1 : Bytes wA (some ⟨w.heap.size, 0, none⟩) 1 (fun _ => 107) := by rw [← hwA, ← hwA0]; exact (one_byte (by decide)).frz _ _
  have hB2 : Bytes wB (some ⟨wA.heap.size, 0, none⟩) 1 (fun _ => 97) := by rw [← hwB, ← hwB0]; exact (one_byte (by decide)).frz _ _
  have HSA : Hid (Shp wA0 w.heap.size 1) := Lib.hid (by rw [← hwA0]; exact Shp.blk (Blk.new _ #[.int .u8 107] _))
  have HSB : Hid (Shp wB0 wA.heap.size 1) := Lib.hid (by rw [← hwB0]; exact Shp.blk (Blk.new _ #[.int .u8 97] _))
  have H0 : Hid (Bytes wB (some ⟨w.heap.size, 0, none⟩) 1 (fun _ => 107) ∧ Bytes wB (some ⟨wA.heap.size, 0, none⟩) 1 (fun _ => 97) ∧ CG wB ∧ Below w.heap.size w wB) := Lib.hid ⟨hB1.later hbB, hB2, hg.later (hbA.trans (hbB.mono hbA.size)), hbA.trans (hbB.mono hbA.size)⟩
  obtain ⟨N, hN⟩ : ∃ x, nx 1 (fun _ => 107) (fun _ => 0) 1 (fun _ => 97) = x := ⟨_, rfl⟩
  obtain ⟨CH, hCH⟩ : ∃ C, (hdL 1 N).toArray = C := ⟨_, rfl⟩
  obtain ⟨CN, hCN⟩ : ∃ C, (rowC 32 N).toArray = C := ⟨_, rfl⟩
  have HIH : Hid ((Tryd.prog.info? 65).map (·.size) = some CH.size) := Lib.hid (by rw [← hCH, hd_size]; exact info_h1)
  have HIO : Hid (CH.all (·.oneCell') = true) := Lib.hid (by rw [← hCH]; exact hd_one _ _)
  have HIS : Hid (CH.size = zeroH.size) := Lib.hid (by rw [← hCH, hd_size, zeroH_size])
  have HN8 : Hid (∀ i, i < 32 → N i < 256) := Lib.hid fun i _ => by rw [← hN]; exact nx_lt _ _ _ _ _ _
  have hzh : (hdL 0 (fun _ => 0)).toArray = zeroH := rfl
  have hNX := next_any (some ⟨w.heap.size, 0, none⟩) 1 1 (fun _ => 107) 0 (fun _ => 0) (some ⟨wA.heap.size, 0, none⟩) 1 1 (fun _ => 97) wB H0.out.1 (Nat.le_refl _) (fun e => by cases e) (by decide) (by decide) (fun _ _ => by decide) H0.out.2.1 (fun e => by cases e) (by decide) H0.out.2.2.1.2
  rw [show nxN 0 = 1 from if_neg (by decide), show nxS 1 (fun _ => 107) 0 (fun _ => 0) 1 (fun _ => 97) = N from by rw [← hN]; exact if_neg (by decide), show nxE 0 = 0 from if_neg (by decide), hzh, hCH] at hNX
  have HNX := Lib.hid hNX
  have HEN : Hid (∀ w', Calls Tryd.prog 46 #[.agg CH] w' fun e w'' => ∃ o c, e = .returned (.slice o 40 c) ∧ Bytes w'' o 40 (hdB 1 N) ∧ 40 ≤ c ∧ c ≤ maxLen ∧ o ≠ none ∧ Below w'.heap.size w' w'') := Lib.hid fun w' => by rw [← hCH]; exact enc_h 1 N w' (by decide) HN8.out
  have HDE : Hid (∀ w' o c, Bytes w' o 40 (hdB 1 N) → 40 ≤ c → c ≤ maxLen → Calls Tryd.prog 43 #[.slice o 40 c] w' fun e w'' => e = .returned (.tuple #[.agg CH, .nilIface]) ∧ Below w'.heap.size w' w'') := Lib.hid fun w' o c h1 h2 h3 => by
    have h := dec_h o 40 c (hdB 1 N) w' h1 h2 h3
    rw [dec_enc (by decide), hCH] at h
    exact h.mono fun e w'' ⟨v, h1, h2, h3⟩ => ⟨by rw [h1, h2.nil rfl], h3⟩
  have HD0 : Hid (∀ w', Calls Tryd.prog 43 #[.slice none 0 0] w' fun e w'' => e = .returned (.tuple #[.agg zeroH, .iface 118 (.int .i64 4)]) ∧ Below w'.heap.size w' w'') := Lib.hid fun w' => by
    have h := dec_h none 0 0 (fun _ => 0) w' (fun k hk => absurd hk (Nat.not_lt_zero _)) (Nat.le_refl _) (by unfold maxLen; omega)
    rw [show dhN 0 (fun _ => 0) = 0 from rfl, show dhS 0 (fun _ => 0) = fun _ => 0 from rfl, hzh] at h
    exact h.mono fun e w'' ⟨v, h1, h2, h3⟩ => ⟨by rw [h1, h2.some (by decide)]; rfl, h3⟩
  have HCH := Lib.hid hCH
  have HCN := Lib.hid hCN
  have HNE := Lib.hid hN
  clear hbA hbB hbA0 hbB0 hB1 hB2 hg hNX hzh hN hCH hCN
  go_enter Tryd.func34, Tryd.ntmps34
  go_wp2_with (first | (refine wpList_value rfl (exec_buildM (C := zeroH) rfl rfl build_z1) ?_) | (refine wpList_convB rfl (.tmp 8) rfl w.heap.size 1 1 1 rfl HSA.out ?_; rw [hwA]) | (refine wpList_convB rfl (.tmp 11) rfl wA.heap.size 1 1 1 rfl HSB.out ?_; rw [hwB]))
  clear hwA0 hwB0
  refine HNX.out.mono ?_
  rintro e w1 ⟨v1, rfl, hv1, hb1⟩
  obtain rfl := hv1.nil rfl
  have K0 : Hid (CG wB ∧ Below w.heap.size w wB) := Lib.hid ⟨H0.out.2.2.1, H0.out.2.2.2⟩
  have K1 : Hid (CG w1 ∧ Below w.heap.size w w1) := Lib.hid ⟨(K0.out.1).later hb1, (K0.out.2).trans (hb1.mono (K0.out.2).size)⟩
  clear K0
  clear hb1
  have hl1 := laidHd w1 zeroH CH 65 HIS.out
  obtain ⟨w2, hn1⟩ : ∃ x, (w1.alloc (.cells zeroH 65)).setCells w1.heap.size 0 CH.toList = x := ⟨_, rfl⟩
  rw [hn1] at hl1
  have HTH1 := Lib.hid hl1.2.2
  obtain ⟨g1, hg1⟩ : ∃ x, w1.heap.size = x := ⟨_, rfl⟩
  have K2 : Hid (CG w2 ∧ Below w.heap.size w w2 ∧ Blk w2 g1 CH 65) := Lib.hid ⟨(K1.out.1).later hl1.2.1, (K1.out.2).trans (hl1.2.1.mono (K1.out.2).size), hg1 ▸ hl1.1⟩
  clear K1
  clear hl1
  rw [hg1] at HTH1 hn1
  have HG1 := Lib.hid hg1
  go_wp2_with (first | ((try rw [HG1.out]); refine wpList_store_mid rfl 65 (.tmp 1) (.tmp 14) rfl g1 0 CH rfl rfl HTH1.out HIH.out HIO.out ?_; rw [hn1]) | (refine wpList_load_row rfl 65 (.tmp 1) rfl g1 rfl 65 CH (0, 0) _ (K2.out.2.2) Tryd.underlying65 rfl HIH.out ?_))
  refine (HEN.out _).mono ?_
  rintro e w3 ⟨o3, c3, rfl, hB3, hc3, hm3, ho3, hb3⟩
  have K3 : Hid (CG w3 ∧ Below w.heap.size w w3 ∧ Blk w3 g1 CH 65) := Lib.hid ⟨(K2.out.1).later hb3, (K2.out.2.1).trans (hb3.mono (K2.out.2.1).size), Blk.below (K2.out.2.2) hb3 (Blk.lt (K2.out.2.2))⟩
  clear K2
  clear hb3
  have HB3 := Lib.hid hB3
  have HC3 : Hid (40 ≤ c3 ∧ c3 ≤ maxLen) := Lib.hid ⟨hc3, hm3⟩
  clear hB3 hc3 ho3 hm3 HTH1 hn1 HG1 hg1
  go_wp2_with fail
  refine (HDE.out _ _ _ HB3.out HC3.out.1 HC3.out.2).mono ?_
  rintro e w4 ⟨rfl, hb4⟩
  have K4 : Hid (CG w4 ∧ Below w.heap.size w w4 ∧ Blk w4 g1 CH 65) := Lib.hid ⟨(K3.out.1).later hb4, (K3.out.2.1).trans (hb4.mono (K3.out.2.1).size), Blk.below (K3.out.2.2) hb4 (Blk.lt (K3.out.2.2))⟩
  clear K3
  clear hb4
  have hl2 := laidHd w4 zeroH CH 65 HIS.out
  obtain ⟨w5, hn2⟩ : ∃ x, (w4.alloc (.cells zeroH 65)).setCells w4.heap.size 0 CH.toList = x := ⟨_, rfl⟩
  rw [hn2] at hl2
  have HTH2 := Lib.hid hl2.2.2
  obtain ⟨g2, hg2⟩ : ∃ x, w4.heap.size = x := ⟨_, rfl⟩
  have K5 : Hid (CG w5 ∧ Below w.heap.size w w5 ∧ Blk w5 g1 CH 65 ∧ Blk w5 g2 CH 65) := Lib.hid ⟨(K4.out.1).later hl2.2.1, (K4.out.2.1).trans (hl2.2.1.mono (K4.out.2.1).size), Blk.below (K4.out.2.2) hl2.2.1 (Blk.lt (K4.out.2.2)), hg2 ▸ hl2.1⟩
  clear K4
  clear hl2
  rw [hg2] at HTH2 hn2
  have HG2 := Lib.hid hg2
  go_wp2_with (first | ((try rw [HG2.out]); refine wpList_store_mid rfl 65 (.tmp 3) (.tmp 20) rfl g2 0 CH rfl rfl HTH2.out HIH.out HIO.out ?_; rw [hn2]))
  refine (HD0.out _).mono ?_
  rintro e w6 ⟨rfl, hb6⟩
  clear HTH2 hn2 HG2 hg2
  have K6 : Hid (CG w6 ∧ Below w.heap.size w w6 ∧ Blk w6 g1 CH 65 ∧ Blk w6 g2 CH 65) := Lib.hid ⟨(K5.out.1).later hb6, (K5.out.2.1).trans (hb6.mono (K5.out.2.1).size), Blk.below (K5.out.2.2.1) hb6 (Blk.lt (K5.out.2.2.1)), Blk.below (K5.out.2.2.2) hb6 (Blk.lt (K5.out.2.2.2))⟩
  clear K5
  clear hb6
  have hl3 := laidHd w6 zeroH zeroH 65 rfl
  obtain ⟨w7, hn3⟩ : ∃ x, (w6.alloc (.cells zeroH 65)).setCells w6.heap.size 0 zeroH.toList = x := ⟨_, rfl⟩
  rw [hn3] at hl3
  have HTH3 := Lib.hid hl3.2.2
  obtain ⟨g3, hg3⟩ : ∃ x, w6.heap.size = x := ⟨_, rfl⟩
  have K7 : Hid (CG w7 ∧ Below w.heap.size w w7 ∧ Blk w7 g1 CH 65 ∧ Blk w7 g2 CH 65 ∧ Blk w7 g3 zeroH 65) := Lib.hid ⟨(K6.out.1).later hl3.2.1, (K6.out.2.1).trans (hl3.2.1.mono (K6.out.2.1).size), Blk.below (K6.out.2.2.1) hl3.2.1 (Blk.lt (K6.out.2.2.1)), Blk.below (K6.out.2.2.2) hl3.2.1 (Blk.lt (K6.out.2.2.2)), hg3 ▸ hl3.1⟩
  clear K6
  clear hl3
  rw [hg3] at HTH3 hn3
  have HG3 := Lib.hid hg3
  go_wp2_with (first | ((try rw [HG3.out]); refine wpList_store_mid rfl 65 (.tmp 5) (.tmp 24) rfl g3 0 zeroH rfl rfl HTH3.out HIZ.out zeroH_one ?_; rw [hn3]))
  clear HTH3 hn3 HG3 hg3 hwA hwB hz
  have HB1 : Hid (Blk w7 g1 CH 65) := Lib.hid (K7.out.2.2.1)
  have HB2 : Hid (Blk w7 g2 CH 65) := Lib.hid (K7.out.2.2.2.1)
  have HO : Hid (Below w.heap.size w w7) := Lib.hid (K7.out.2.1)
  have HCG : Hid (∀ w', Below w7.heap.size w7 w' → CG w') := Lib.hid fun w' h => (K7.out.1).later h
  have HC1 : Hid (w7.cell? ⟨g1, 0, none⟩ = some (.int .u64 1)) := Lib.hid (hd_cell0 (n := 1) (S := N) (by rw [HCH.out]; exact HB1.out))
  have HRG : Hid (∀ w', Below w7.heap.size w7 w' → w'.rangeAt g1 1 (rowC 32 N)) := Lib.hid fun w' h => Bytes.range ((hd_bytes (T := 65) (n := 1) (S := N) (by rw [HCH.out]; exact HB1.out) HN8.out).later h)
  have HI3 : Hid ((Tryd.prog.info? 63).map (·.size) = some (rowC 32 N).length) := Lib.hid (by rw [rowC_len]; kernel_rfl)
  have HEN2 : Hid (∀ w, (Op.equalIn 10000 63 (.agg (rowC 32 N).toArray) (.agg CN)).run Tryd.prog w = .ok true w) := Lib.hid fun w => by rw [← HCN.out]; have := eq32 N N w; rw [eqS_refl] at this; exact this
  have HEH : Hid (∀ w, (Op.equalIn 10000 65 (.agg CH) (.agg CH)).run Tryd.prog w = .ok true w) := Lib.hid fun w => by rw [← HCH.out]; have := eq_h1 1 1 N N w; rw [eqS_refl] at this; exact this
  have HEZ : Hid (∀ w, (Op.equalIn 10000 65 (.agg zeroH) (.agg zeroH)).run Tryd.prog w = .ok true w) := Lib.hid fun w => by have := eq_h1 0 0 (fun _ => 0) (fun _ => 0) w; rw [eqS_refl] at this; exact this
  have HMC : Hid (∀ w' g o c, Bytes w' (some ⟨g, 0, none⟩) 1 (fun _ => 107) → Bytes w' o (32 + 1) (catF 32 (fun _ => 0) (fun _ => 97)) → 32 + 1 ≤ c → CG w' → Calls Tryd.prog 40 #[.slice (some ⟨g, 0, none⟩) 1 1, .slice o (32 + 1) c] w' fun e w'' => e = .returned (.agg CN) ∧ Below w'.heap.size w' w'') := Lib.hid fun w' g o c h1 h2 h3 h4 => by
    have h := mac_any (some ⟨g, 0, none⟩) o 1 1 (32 + 1) c (fun _ => 107) _ w' h1 (Nat.le_refl _) (fun e => by cases e) (by decide) h2 h3 (by decide) h4.2
    rw [show hmN 1 (fun _ => 107) (32 + 1) (catF 32 (fun _ => 0) (fun _ => 97)) = N from HNE.out, HCN.out] at h; exact h
  have HVE : Hid (∀ w' g b, Bytes w' (some ⟨g, 0, none⟩) 1 (fun _ => 107) → LBs w' (some ⟨b, 0, none⟩) 1 (fun _ => 1) (fun _ _ => 97) → CG w' → Calls Tryd.prog 37 #[.slice (some ⟨g, 0, none⟩) 1 1, .slice (some ⟨b, 0, none⟩) 1 1, .agg CH] w' fun e w'' => e = .returned (.bool true) ∧ Below w'.heap.size w' w'') := Lib.hid fun w' g b h1 h2 h3 => by
    have h := verify_any (some ⟨g, 0, none⟩) 1 1 (fun _ => 107) (some ⟨b, 0, none⟩) 1 1 (fun _ => 1) (fun _ _ => 97) 1 N w' h1 (Nat.le_refl _) (fun e => by cases e) (by decide) h2 (by decide) (fun i _ => by show 1 ≤ 100000; decide) h3.2
    rw [show hs 1 (fun _ => 107) (fun _ => 1) (fun _ _ => 97) 1 = N from HNE.out, HCH.out, eqS_refl] at h; exact h
  have HOF : Hid (∀ w', CG w' → Calls Tryd.prog 36 #[.slice none 0 0, .slice none 0 0] w' fun e w'' => e = .returned (.agg zeroH) ∧ Below w'.heap.size w' w'') := Lib.hid fun w' h3 => 
    of_any none 0 0 (fun _ => 0) none 0 0 (fun _ => 0) (fun _ _ => 0) w' (fun k hk => absurd hk (Nat.not_lt_zero _)) (Nat.le_refl _) (fun _ => rfl) (by decide) (LBs.zero _ _ _ _) (Nat.zero_le _) (fun i hi => absurd hi (Nat.not_lt_zero _)) h3.2
  have hS_0 : Below w7.heap.size w7 w7.drew := (Below.refl _ _).drew
  clear K7
  refine wp_region_held_drew (S := (Below w7.heap.size w7)) (by kernel_rfl) ?_ (fun hHeld => ?_)
  · (try dsimp only)
    first | assumption
  generalize w7.drew = W0 at *
  refine wpAnyH_take (i := 0) (oi := { dst := some 26, op := Go.Op.move (Go.Operand.tmp 2), type := 41, pos := "law.go:55", after := #[], guard := none }) (v := ?_) rfl (by kernel_rfl) (by kernel_rfl) (by kernel_rfl) (fun _ _ _ h => h) (Or.inl ⟨by rfl, ?_⟩) (by assumption) ?_
  rotate_left
  · intro wS hSw
    (try dsimp only at hSw)
    go_simp
    (try with_reducible rfl)
  (try simp only [Act.put, List.setIfInBounds_toArray, List.set_cons_zero, List.set_cons_succ])
  refine wpAnyH_take (i := 1) (oi := { dst := some 27, op := Go.Op.binOp Go.BinOp.eql 41 (Go.Operand.tmp 26) (Go.Operand.const Go.Value.nilIface) 41, type := 4, pos := "law.go:55", after := #[{ on := 0, ground := Go.Ground.data }], guard := none }) (v := ?_) rfl (by kernel_rfl) (by kernel_rfl) (by kernel_rfl) (fun _ _ _ h => h) (Or.inl ⟨by rfl, ?_⟩) (by assumption) ?_
  rotate_left
  · intro wS hSw
    (try dsimp only at hSw)
    go_simp
    (try with_reducible rfl)
  (try simp only [Act.put, List.setIfInBounds_toArray, List.set_cons_zero, List.set_cons_succ])
  refine wpAnyH_take (i := 2) (oi := { dst := some 28, op := Go.Op.move (Go.Operand.tmp 27), type := 4, pos := "law.go:55", after := #[{ on := 1, ground := Go.Ground.data }], guard := none }) (v := ?_) rfl (by kernel_rfl) (by kernel_rfl) (by kernel_rfl) (fun _ _ _ h => h) (Or.inl ⟨by rfl, ?_⟩) (by assumption) ?_
  rotate_left
  · intro wS hSw
    (try dsimp only at hSw)
    go_simp
    (try with_reducible rfl)
  (try simp only [Act.put, List.setIfInBounds_toArray, List.set_cons_zero, List.set_cons_succ])
  refine wpAnyH_take (i := 3) (oi := { dst := some 29, op := Go.Op.move (Go.Operand.tmp 4), type := 41, pos := "law.go:55", after := #[{ on := 2, ground := Go.Ground.guard }], guard := some (2, true) }) (v := ?_) rfl (by kernel_rfl) (by kernel_rfl) (by kernel_rfl) (fun _ _ _ h => h) (Or.inl ⟨by rfl, ?_⟩) (by assumption) ?_
  rotate_left
  · intro wS hSw
    (try dsimp only at hSw)
    go_simp
    (try with_reducible rfl)
  (try simp only [Act.put, List.setIfInBounds_toArray, List.set_cons_zero, List.set_cons_succ])
  refine wpAnyH_take (i := 4) (oi := { dst := some 30, op := Go.Op.binOp Go.BinOp.eql 41 (Go.Operand.tmp 29) (Go.Operand.const Go.Value.nilIface) 41, type := 4, pos := "law.go:55", after := #[{ on := 3, ground := Go.Ground.data }, { on := 2, ground := Go.Ground.guard }], guard := some (2, true) }) (v := ?_) rfl (by kernel_rfl) (by kernel_rfl) (by kernel_rfl) (fun _ _ _ h => h) (Or.inl ⟨by rfl, ?_⟩) (by assumption) ?_
  rotate_left
  · intro wS hSw
    (try dsimp only at hSw)
    go_simp
    (try with_reducible rfl)
  (try simp only [Act.put, List.setIfInBounds_toArray, List.set_cons_zero, List.set_cons_succ])
  refine wpAnyH_take (i := 5) (oi := { dst := some 31, op := Go.Op.pick (Go.Operand.tmp 28) (Go.Operand.tmp 30) (Go.Operand.const (Go.Value.bool false)), type := 4, pos := "law.go:55", after := #[{ on := 2, ground := Go.Ground.data }, { on := 4, ground := Go.Ground.data }], guard := none }) (v := ?_) rfl (by kernel_rfl) (by kernel_rfl) (by kernel_rfl) (fun _ _ _ h => h) (Or.inl ⟨by rfl, ?_⟩) (by assumption) ?_
  rotate_left
  · intro wS hSw
    (try dsimp only at hSw)
    go_simp
    (try with_reducible rfl)
  (try simp only [Act.put, List.setIfInBounds_toArray, List.set_cons_zero, List.set_cons_succ])
  refine wpAnyH_take (i := 6) (oi := { dst := some 32, op := Go.Op.move (Go.Operand.tmp 31), type := 4, pos := "law.go:55", after := #[{ on := 5, ground := Go.Ground.data }, { on := 2, ground := Go.Ground.chain }], guard := none }) (v := ?_) rfl (by kernel_rfl) (by kernel_rfl) (by kernel_rfl) (fun _ _ _ h => h) (Or.inl ⟨by rfl, ?_⟩) (by assumption) ?_
  rotate_left
  · intro wS hSw
    (try dsimp only at hSw)
    go_simp
    (try with_reducible rfl)
  (try simp only [Act.put, List.setIfInBounds_toArray, List.set_cons_zero, List.set_cons_succ])
  refine wpAnyH_take (i := 7) (oi := { dst := some 33, op := Go.Op.fieldAddr 65 (Go.Operand.tmp 1) 0, type := 0, pos := "law.go:55", after := #[{ on := 6, ground := Go.Ground.guard }], guard := some (6, true) }) (v := ?_) rfl (by kernel_rfl) (by kernel_rfl) (by kernel_rfl) (fun _ _ _ h => h) (Or.inl ⟨by rfl, ?_⟩) (by assumption) ?_
  rotate_left
  · intro wS hSw
    (try dsimp only at hSw)
    go_simp
    (try with_reducible rfl)
  (try simp only [Act.put, List.setIfInBounds_toArray, List.set_cons_zero, List.set_cons_succ])
  refine wpAnyH_take (i := 8) (oi := { dst := some 34, op := Go.Op.load 62 (Go.Operand.tmp 33), type := 62, pos := "law.go:55", after := #[{ on := 7, ground := Go.Ground.data }, { on := 6, ground := Go.Ground.guard }], guard := some (6, true) }) (v := ?_) rfl (by kernel_rfl) (by kernel_rfl) (by kernel_rfl) (fun _ _ _ h => h) (Or.inl ⟨by rfl, ?_⟩) (by assumption) ?_
  rotate_left
  · intro wS hSw
    (have h0 := cell_below hSw HC1.out; go_simp; (try with_reducible rfl))
  (try simp only [Act.put, List.setIfInBounds_toArray, List.set_cons_zero, List.set_cons_succ])
  refine wpAnyH_take (i := 9) (oi := { dst := some 35, op := Go.Op.binOp Go.BinOp.eql 62 (Go.Operand.tmp 34) (Go.Operand.const (Go.Value.int Go.IntKind.u64 1)) 62, type := 4, pos := "law.go:55", after := #[{ on := 8, ground := Go.Ground.data }, { on := 6, ground := Go.Ground.guard }], guard := some (6, true) }) (v := ?_) rfl (by kernel_rfl) (by kernel_rfl) (by kernel_rfl) (fun _ _ _ h => h) (Or.inl ⟨by rfl, ?_⟩) (by assumption) ?_
  rotate_left
  · intro wS hSw
    (try dsimp only at hSw)
    go_simp
    (try with_reducible rfl)
  (try simp only [Act.put, List.setIfInBounds_toArray, List.set_cons_zero, List.set_cons_succ])
  refine wpAnyH_take (i := 10) (oi := { dst := some 36, op := Go.Op.pick (Go.Operand.tmp 32) (Go.Operand.tmp 35) (Go.Operand.const (Go.Value.bool false)), type := 4, pos := "law.go:55", after := #[{ on := 6, ground := Go.Ground.data }, { on := 9, ground := Go.Ground.data }], guard := none }) (v := ?_) rfl (by kernel_rfl) (by kernel_rfl) (by kernel_rfl) (fun _ _ _ h => h) (Or.inl ⟨by rfl, ?_⟩) (by assumption) ?_
  rotate_left
  · intro wS hSw
    (try dsimp only at hSw)
    go_simp
    (try with_reducible rfl)
  (try simp only [Act.put, List.setIfInBounds_toArray, List.set_cons_zero, List.set_cons_succ])
  refine wpAnyH_take (i := 11) (oi := { dst := some 37, op := Go.Op.move (Go.Operand.tmp 36), type := 4, pos := "law.go:55", after := #[{ on := 10, ground := Go.Ground.data }, { on := 6, ground := Go.Ground.chain }], guard := none }) (v := ?_) rfl (by kernel_rfl) (by kernel_rfl) (by kernel_rfl) (fun _ _ _ h => h) (Or.inl ⟨by rfl, ?_⟩) (by assumption) ?_
  rotate_left
  · intro wS hSw
    (try dsimp only at hSw)
    go_simp
    (try with_reducible rfl)
  (try simp only [Act.put, List.setIfInBounds_toArray, List.set_cons_zero, List.set_cons_succ])
  refine wpAnyH_take (i := 12) (oi := { dst := some 38, op := Go.Op.fieldAddr 65 (Go.Operand.tmp 1) 1, type := 0, pos := "law.go:55", after := #[{ on := 11, ground := Go.Ground.guard }], guard := some (11, true) }) (v := ?_) rfl (by kernel_rfl) (by kernel_rfl) (by kernel_rfl) (fun _ _ _ h => h) (Or.inl ⟨by rfl, ?_⟩) (by assumption) ?_
  rotate_left
  · intro wS hSw
    (try dsimp only at hSw)
    go_simp
    (try with_reducible rfl)
  (try simp only [Act.put, List.setIfInBounds_toArray, List.set_cons_zero, List.set_cons_succ])
  refine wpAnyH_take (i := 13) (oi := { dst := some 39, op := Go.Op.load 63 (Go.Operand.tmp 38), type := 63, pos := "law.go:55", after := #[{ on := 12, ground := Go.Ground.data }, { on := 11, ground := Go.Ground.guard }], guard := some (11, true) }) (v := ?_) rfl (by kernel_rfl) (by kernel_rfl) (by kernel_rfl) (fun _ _ _ h => h) (Or.inl ⟨by rfl, ?_⟩) (by assumption) ?_
  rotate_left
  · intro wS hSw
    refine exec_loadM (x := .tmp 38) (b := g1) (f := 1) (cs := rowC 32 N) ?_ ?_ (HRG.out _ hSw) Tryd.underlying63 rfl HI3.out <;> rfl
  (try simp only [Act.put, List.setIfInBounds_toArray, List.set_cons_zero, List.set_cons_succ])
  apply join_lem
  · intro key0
    refine wpAnyH_ready (rs := [14, 16, 17]) (by kernel_rfl) (by simp) ?_
    refine AllReadyH.cons (o := { dst := some 40, op := Go.Op.buildSlice 33 1 #[(0, Go.Operand.const (Go.Value.int Go.IntKind.u8 107))], type := 33, pos := "law.go:55", after := #[{ on := 11, ground := Go.Ground.guard }], guard := some (11, true) }) rfl (fun K hK => ?_) ?_
    · skip
      go_simp
      (obtain ⟨v_1, hy⟩ : ∃ q, W0.alloc (.cells #[.int .u8 107] 5) = q := ⟨_, rfl⟩; rw [hy]; have hb : Below W0.heap.size W0 v_1 := (by rw [← hy]; exact (Below.refl _ _).alloc (Nat.le_refl _) _); have hS_1 := hS_0.trans (hb.mono hS_0.size); have hb14_1 : Bytes v_1 (some ⟨W0.heap.size, 0, none⟩) 1 (fun _ => 107) := (by rw [← hy]; exact one_byte (by decide)); have hq14_1 : Shp v_1 W0.heap.size 1 := (by rw [← hy]; exact Shp.blk (Blk.new _ #[.int .u8 107] _)); have hl14 : w7.heap.size ≤ W0.heap.size := hS_0.size; (try clear hb); (try clear hy); (try clear hS_0); obtain ⟨g14, hg⟩ : ∃ q, W0.heap.size = q := ⟨_, rfl⟩; rw [hg] at hb14_1 hq14_1 hl14 ⊢; clear hg; skip)
      (try go_wp2_with fail)
      refine hK.out _ _ ?_ (fun hHeld => ?_)
      · (try dsimp only)
        first | assumption
      clear hK K
      (try simp only [Act.put, List.setIfInBounds_toArray, List.set_cons_zero, List.set_cons_succ])
      refine wpAnyH_ready (rs := [15, 16, 17]) (by kernel_rfl) (by simp) ?_
      refine AllReadyH.cons (o := { dst := some 41, op := Go.Op.convert 33 33 (Go.Operand.tmp 40), type := 33, pos := "law.go:55", after := #[{ on := 14, ground := Go.Ground.data }, { on := 11, ground := Go.Ground.guard }], guard := some (11, true) }) rfl (fun K hK => ?_) ?_
      · skip
        (refine step_convB (by kernel_rfl) (.tmp 40) rfl g14 1 1 1 rfl hq14_1 ?_; obtain ⟨v_2, hy⟩ : ∃ q, v_1.freeze ⟨g14, 1, none⟩ 1 = q := ⟨_, rfl⟩; rw [hy]; have hO : Own g14 v_1 v_2 := (by rw [← hy]; exact Own.frz _ _ _ _); have hS_2 := hS_1.trans (hO.below hl14 hS_1.size); have hb14_2 := hb14_1.frz ⟨g14, 1, none⟩ 1; rw [hy] at hb14_2; (try clear hO); (try clear hy); (try clear hl14); (try clear hb14_1); (try clear hq14_1); (try clear hS_1); skip)
        refine hK.out _ _ ?_ (fun hHeld => ?_)
        · (try dsimp only)
          first | assumption
        clear hK K
        (try simp only [Act.put, List.setIfInBounds_toArray, List.set_cons_zero, List.set_cons_succ])
        refine wpAnyH_ready (rs := [16, 17]) (by kernel_rfl) (by simp) ?_
        refine AllReadyH.cons (o := { dst := some 42, op := Go.Op.makeSlice 33 (Go.Operand.const (Go.Value.int Go.IntKind.i64 32)) (Go.Operand.const (Go.Value.int Go.IntKind.i64 32)), type := 33, pos := "law.go:55", after := #[{ on := 11, ground := Go.Ground.guard }], guard := some (11, true) }) rfl (fun K hK => ?_) ?_
        · skip
          (refine step_makeG (by kernel_rfl) (.const (.int .i64 32)) (.const (.int .i64 32)) rfl 32 rfl rfl (by decide) ?_; obtain ⟨v_3, hy⟩ : ∃ q, v_2.alloc (.cells (rowC 32 (fun _ => 0)).toArray 5) = q := ⟨_, rfl⟩; rw [hy]; have hb : Below v_2.heap.size v_2 v_3 := (by rw [← hy]; exact (Below.refl _ _).alloc (Nat.le_refl _) _); have hS_3 := hS_2.trans (hb.mono hS_2.size); have hb14_3 := hb14_2.later hb; have hG_3 : Grow v_3 w7.heap.size (.slice (some ⟨v_2.heap.size, 0, none⟩) 32 32) 32 (fun _ => 0) := (Grow.of_row (by rw [← hy]; exact row_new v_2 32 (fun _ => 0)) (by decide)).base hS_2.size; have hne : v_2.heap.size ≠ g14 := Nat.ne_of_gt (hb14_2.lt _ rfl (by decide)); (try clear hb); (try clear hy); (try clear hb14_2); (try clear hS_2); obtain ⟨g16, hg⟩ : ∃ q, v_2.heap.size = q := ⟨_, rfl⟩; rw [hg] at hG_3 hne ⊢; clear hg; skip)
          refine hK.out _ _ ?_ (fun hHeld => ?_)
          · (try dsimp only)
            first | assumption
          clear hK K
          (try simp only [Act.put, List.setIfInBounds_toArray, List.set_cons_zero, List.set_cons_succ])
          refine wpAnyH_ready (rs := [17]) (by kernel_rfl) (by simp) ?_
          refine AllReadyH.cons (o := { dst := some 43, op := Go.Op.buildSlice 33 1 #[(0, Go.Operand.const (Go.Value.int Go.IntKind.u8 97))], type := 33, pos := "law.go:55", after := #[{ on := 11, ground := Go.Ground.guard }], guard := some (11, true) }) rfl (fun K hK => ?_) AllReadyH.nil
          go_simp
          (obtain ⟨v_4, hy⟩ : ∃ q, v_3.alloc (.cells #[.int .u8 97] 5) = q := ⟨_, rfl⟩; rw [hy]; have hb : Below v_3.heap.size v_3 v_4 := (by rw [← hy]; exact (Below.refl _ _).alloc (Nat.le_refl _) _); have hS_4 := hS_3.trans (hb.mono hS_3.size); have hb14_4 := hb14_3.later hb; have hG_4 := hG_3.later hb; have hb17_4 : Bytes v_4 (some ⟨v_3.heap.size, 0, none⟩) 1 (fun _ => 97) := (by rw [← hy]; exact one_byte (by decide)); (try clear hb); (try clear hy); (try clear hb14_3); (try clear hG_3); (try clear hS_3); obtain ⟨g17, hg⟩ : ∃ q, v_3.heap.size = q := ⟨_, rfl⟩; rw [hg] at hb17_4 ⊢; clear hg; skip)
          (try go_wp2_with fail)
          refine hK.out _ _ ?_ (fun hHeld => ?_)
          · (try dsimp only)
            first | assumption
          clear hK K
          (try simp only [Act.put, List.setIfInBounds_toArray, List.set_cons_zero, List.set_cons_succ])
          refine wpAnyH_ready (rs := [18]) (by kernel_rfl) (by simp) ?_
          refine AllReadyH.cons (o := { dst := some 44, op := Go.Op.call { callee := Go.Callee.builtin Go.Builtin.append, args := #[Go.Operand.tmp 42, Go.Operand.tmp 43], argTypes := #[33, 33] }, type := 33, pos := "law.go:55", after := #[{ on := 16, ground := Go.Ground.data }, { on := 17, ground := Go.Ground.data }, { on := 11, ground := Go.Ground.chain }, { on := 11, ground := Go.Ground.guard }], guard := some (11, true) }) rfl (fun K hK => ?_) AllReadyH.nil
          (refine step_appG (by kernel_rfl) (.tmp 42) (.tmp 43) rfl w7.heap.size (.slice (some ⟨g16, 0, none⟩) 32 32) 32 1 1 (some ⟨g17, 0, none⟩) (fun _ => 0) (fun _ => 97) v_4 rfl hG_4 rfl (fun e => by cases e) hb17_4 (by decide) hS_4.size ?_; intro v9 v_5 hG9 hg9 hob9; have hS_5 := hS_4.trans (grow_bel hG_4 hS_4.size hg9); have hO : Own g16 v_4 v_5 := own_of_grown hg9; have hb14_5 := hb14_4.own hO (fun a ha _ => (by cases ha; exact hne.symm)); obtain ⟨o18, c18, hv9, hb18_5, hc18, hn18⟩ := hG9.bytesC (catF_b (n := 32) (m := 1) (fun _ _ => by decide) (fun _ _ => by decide)); subst hv9; (try clear hG9); (try clear hg9); (try clear hob9); (try clear hO); (try clear hn18); (try clear hne); (try clear hb14_4); (try clear hG_4); (try clear hb17_4); (try clear hS_4); skip)
          refine hK.out _ _ ?_ (fun hHeld => ?_)
          · (try dsimp only)
            first | assumption
          clear hK K
          (try simp only [Act.put, List.setIfInBounds_toArray, List.set_cons_zero, List.set_cons_succ])
          (try clear hHeld)
          (try clear hne)
          (try clear hl14)
          revert hS_5
          revert hb18_5
          revert hb14_5
          revert hc18
          revert c18
          revert o18
          revert g17
          revert g16
          revert g14
          revert v_5
          exact key0
        refine AllReadyH.cons (o := { dst := some 43, op := Go.Op.buildSlice 33 1 #[(0, Go.Operand.const (Go.Value.int Go.IntKind.u8 97))], type := 33, pos := "law.go:55", after := #[{ on := 11, ground := Go.Ground.guard }], guard := some (11, true) }) rfl (fun K hK => ?_) AllReadyH.nil
        go_simp
        (obtain ⟨v_6, hy⟩ : ∃ q, v_2.alloc (.cells #[.int .u8 97] 5) = q := ⟨_, rfl⟩; rw [hy]; have hb : Below v_2.heap.size v_2 v_6 := (by rw [← hy]; exact (Below.refl _ _).alloc (Nat.le_refl _) _); have hS_6 := hS_2.trans (hb.mono hS_2.size); have hb14_6 := hb14_2.later hb; have hb17_6 : Bytes v_6 (some ⟨v_2.heap.size, 0, none⟩) 1 (fun _ => 97) := (by rw [← hy]; exact one_byte (by decide)); (try clear hb); (try clear hy); (try clear hb14_2); (try clear hS_2); obtain ⟨g17, hg⟩ : ∃ q, v_2.heap.size = q := ⟨_, rfl⟩; rw [hg] at hb17_6 ⊢; clear hg; skip)
        (try go_wp2_with fail)
        refine hK.out _ _ ?_ (fun hHeld => ?_)
        · (try dsimp only)
          first | assumption
        clear hK K
        (try simp only [Act.put, List.setIfInBounds_toArray, List.set_cons_zero, List.set_cons_succ])
        refine wpAnyH_ready (rs := [16]) (by kernel_rfl) (by simp) ?_
        refine AllReadyH.cons (o := { dst := some 42, op := Go.Op.makeSlice 33 (Go.Operand.const (Go.Value.int Go.IntKind.i64 32)) (Go.Operand.const (Go.Value.int Go.IntKind.i64 32)), type := 33, pos := "law.go:55", after := #[{ on := 11, ground := Go.Ground.guard }], guard := some (11, true) }) rfl (fun K hK => ?_) AllReadyH.nil
        (refine step_makeG (by kernel_rfl) (.const (.int .i64 32)) (.const (.int .i64 32)) rfl 32 rfl rfl (by decide) ?_; obtain ⟨v_7, hy⟩ : ∃ q, v_6.alloc (.cells (rowC 32 (fun _ => 0)).toArray 5) = q := ⟨_, rfl⟩; rw [hy]; have hb : Below v_6.heap.size v_6 v_7 := (by rw [← hy]; exact (Below.refl _ _).alloc (Nat.le_refl _) _); have hS_7 := hS_6.trans (hb.mono hS_6.size); have hb14_7 := hb14_6.later hb; have hb17_7 := hb17_6.later hb; have hG_7 : Grow v_7 w7.heap.size (.slice (some ⟨v_6.heap.size, 0, none⟩) 32 32) 32 (fun _ => 0) := (Grow.of_row (by rw [← hy]; exact row_new v_6 32 (fun _ => 0)) (by decide)).base hS_6.size; have hne : v_6.heap.size ≠ g14 := Nat.ne_of_gt (hb14_6.lt _ rfl (by decide)); (try clear hb); (try clear hy); (try clear hb14_6); (try clear hb17_6); (try clear hS_6); obtain ⟨g16, hg⟩ : ∃ q, v_6.heap.size = q := ⟨_, rfl⟩; rw [hg] at hG_7 hne ⊢; clear hg; skip)
        refine hK.out _ _ ?_ (fun hHeld => ?_)
        · (try dsimp only)
          first | assumption
        clear hK K
        (try simp only [Act.put, List.setIfInBounds_toArray, List.set_cons_zero, List.set_cons_succ])
        refine wpAnyH_ready (rs := [18]) (by kernel_rfl) (by simp) ?_
        refine AllReadyH.cons (o := { dst := some 44, op := Go.Op.call { callee := Go.Callee.builtin Go.Builtin.append, args := #[Go.Operand.tmp 42, Go.Operand.tmp 43], argTypes := #[33, 33] }, type := 33, pos := "law.go:55", after := #[{ on := 16, ground := Go.Ground.data }, { on := 17, ground := Go.Ground.data }, { on := 11, ground := Go.Ground.chain }, { on := 11, ground := Go.Ground.guard }], guard := some (11, true) }) rfl (fun K hK => ?_) AllReadyH.nil
        (refine step_appG (by kernel_rfl) (.tmp 42) (.tmp 43) rfl w7.heap.size (.slice (some ⟨g16, 0, none⟩) 32 32) 32 1 1 (some ⟨g17, 0, none⟩) (fun _ => 0) (fun _ => 97) v_7 rfl hG_7 rfl (fun e => by cases e) hb17_7 (by decide) hS_7.size ?_; intro v9 v_8 hG9 hg9 hob9; have hS_8 := hS_7.trans (grow_bel hG_7 hS_7.size hg9); have hO : Own g16 v_7 v_8 := own_of_grown hg9; have hb14_8 := hb14_7.own hO (fun a ha _ => (by cases ha; exact hne.symm)); obtain ⟨o18, c18, hv9, hb18_8, hc18, hn18⟩ := hG9.bytesC (catF_b (n := 32) (m := 1) (fun _ _ => by decide) (fun _ _ => by decide)); subst hv9; (try clear hG9); (try clear hg9); (try clear hob9); (try clear hO); (try clear hn18); (try clear hne); (try clear hb14_7); (try clear hb17_7); (try clear hG_7); (try clear hS_7); skip)
        refine hK.out _ _ ?_ (fun hHeld => ?_)
        · (try dsimp only)
          first | assumption
        clear hK K
        (try simp only [Act.put, List.setIfInBounds_toArray, List.set_cons_zero, List.set_cons_succ])
        (try clear hHeld)
        (try clear hne)
        (try clear hl14)
        revert hS_8
        revert hb18_8
        revert hb14_8
        revert hc18
        revert c18
        revert o18
        revert g17
        revert g16
        revert g14
        revert v_8
        exact key0
      refine AllReadyH.cons (o := { dst := some 42, op := Go.Op.makeSlice 33 (Go.Operand.const (Go.Value.int Go.IntKind.i64 32)) (Go.Operand.const (Go.Value.int Go.IntKind.i64 32)), type := 33, pos := "law.go:55", after := #[{ on := 11, ground := Go.Ground.guard }], guard := some (11, true) }) rfl (fun K hK => ?_) ?_
      · skip
        (refine step_makeG (by kernel_rfl) (.const (.int .i64 32)) (.const (.int .i64 32)) rfl 32 rfl rfl (by decide) ?_; obtain ⟨v_9, hy⟩ : ∃ q, v_1.alloc (.cells (rowC 32 (fun _ => 0)).toArray 5) = q := ⟨_, rfl⟩; rw [hy]; have hb : Below v_1.heap.size v_1 v_9 := (by rw [← hy]; exact (Below.refl _ _).alloc (Nat.le_refl _) _); have hS_9 := hS_1.trans (hb.mono hS_1.size); have hb14_9 := hb14_1.later hb; have hq14_9 := hq14_1.later hb; have hG_9 : Grow v_9 w7.heap.size (.slice (some ⟨v_1.heap.size, 0, none⟩) 32 32) 32 (fun _ => 0) := (Grow.of_row (by rw [← hy]; exact row_new v_1 32 (fun _ => 0)) (by decide)).base hS_1.size; have hne : v_1.heap.size ≠ g14 := Nat.ne_of_gt (hb14_1.lt _ rfl (by decide)); (try clear hb); (try clear hy); (try clear hb14_1); (try clear hq14_1); (try clear hS_1); obtain ⟨g16, hg⟩ : ∃ q, v_1.heap.size = q := ⟨_, rfl⟩; rw [hg] at hG_9 hne ⊢; clear hg; skip)
        refine hK.out _ _ ?_ (fun hHeld => ?_)
        · (try dsimp only)
          first | assumption
        clear hK K
        (try simp only [Act.put, List.setIfInBounds_toArray, List.set_cons_zero, List.set_cons_succ])
        refine wpAnyH_ready (rs := [15, 17]) (by kernel_rfl) (by simp) ?_
        refine AllReadyH.cons (o := { dst := some 41, op := Go.Op.convert 33 33 (Go.Operand.tmp 40), type := 33, pos := "law.go:55", after := #[{ on := 14, ground := Go.Ground.data }, { on := 11, ground := Go.Ground.guard }], guard := some (11, true) }) rfl (fun K hK => ?_) ?_
        · skip
          (refine step_convB (by kernel_rfl) (.tmp 40) rfl g14 1 1 1 rfl hq14_9 ?_; obtain ⟨v_10, hy⟩ : ∃ q, v_9.freeze ⟨g14, 1, none⟩ 1 = q := ⟨_, rfl⟩; rw [hy]; have hO : Own g14 v_9 v_10 := (by rw [← hy]; exact Own.frz _ _ _ _); have hS_10 := hS_9.trans (hO.below hl14 hS_9.size); have hb14_10 := hb14_9.frz ⟨g14, 1, none⟩ 1; rw [hy] at hb14_10; have hG_10 := hG_9.ownN hO (fun k hk => (by cases hk; exact hne)); (try clear hO); (try clear hy); (try clear hl14); (try clear hb14_9); (try clear hq14_9); (try clear hG_9); (try clear hS_9); skip)
          refine hK.out _ _ ?_ (fun hHeld => ?_)
          · (try dsimp only)
            first | assumption
          clear hK K
          (try simp only [Act.put, List.setIfInBounds_toArray, List.set_cons_zero, List.set_cons_succ])
          refine wpAnyH_ready (rs := [17]) (by kernel_rfl) (by simp) ?_
          refine AllReadyH.cons (o := { dst := some 43, op := Go.Op.buildSlice 33 1 #[(0, Go.Operand.const (Go.Value.int Go.IntKind.u8 97))], type := 33, pos := "law.go:55", after := #[{ on := 11, ground := Go.Ground.guard }], guard := some (11, true) }) rfl (fun K hK => ?_) AllReadyH.nil
          go_simp
          (obtain ⟨v_11, hy⟩ : ∃ q, v_10.alloc (.cells #[.int .u8 97] 5) = q := ⟨_, rfl⟩; rw [hy]; have hb : Below v_10.heap.size v_10 v_11 := (by rw [← hy]; exact (Below.refl _ _).alloc (Nat.le_refl _) _); have hS_11 := hS_10.trans (hb.mono hS_10.size); have hb14_11 := hb14_10.later hb; have hG_11 := hG_10.later hb; have hb17_11 : Bytes v_11 (some ⟨v_10.heap.size, 0, none⟩) 1 (fun _ => 97) := (by rw [← hy]; exact one_byte (by decide)); (try clear hb); (try clear hy); (try clear hb14_10); (try clear hG_10); (try clear hS_10); obtain ⟨g17, hg⟩ : ∃ q, v_10.heap.size = q := ⟨_, rfl⟩; rw [hg] at hb17_11 ⊢; clear hg; skip)
          (try go_wp2_with fail)
          refine hK.out _ _ ?_ (fun hHeld => ?_)
          · (try dsimp only)
            first | assumption
          clear hK K
          (try simp only [Act.put, List.setIfInBounds_toArray, List.set_cons_zero, List.set_cons_succ])
          refine wpAnyH_ready (rs := [18]) (by kernel_rfl) (by simp) ?_
          refine AllReadyH.cons (o := { dst := some 44, op := Go.Op.call { callee := Go.Callee.builtin Go.Builtin.append, args := #[Go.Operand.tmp 42, Go.Operand.tmp 43], argTypes := #[33, 33] }, type := 33, pos := "law.go:55", after := #[{ on := 16, ground := Go.Ground.data }, { on := 17, ground := Go.Ground.data }, { on := 11, ground := Go.Ground.chain }, { on := 11, ground := Go.Ground.guard }], guard := some (11, true) }) rfl (fun K hK => ?_) AllReadyH.nil
          (refine step_appG (by kernel_rfl) (.tmp 42) (.tmp 43) rfl w7.heap.size (.slice (some ⟨g16, 0, none⟩) 32 32) 32 1 1 (some ⟨g17, 0, none⟩) (fun _ => 0) (fun _ => 97) v_11 rfl hG_11 rfl (fun e => by cases e) hb17_11 (by decide) hS_11.size ?_; intro v9 v_12 hG9 hg9 hob9; have hS_12 := hS_11.trans (grow_bel hG_11 hS_11.size hg9); have hO : Own g16 v_11 v_12 := own_of_grown hg9; have hb14_12 := hb14_11.own hO (fun a ha _ => (by cases ha; exact hne.symm)); obtain ⟨o18, c18, hv9, hb18_12, hc18, hn18⟩ := hG9.bytesC (catF_b (n := 32) (m := 1) (fun _ _ => by decide) (fun _ _ => by decide)); subst hv9; (try clear hG9); (try clear hg9); (try clear hob9); (try clear hO); (try clear hn18); (try clear hne); (try clear hb14_11); (try clear hG_11); (try clear hb17_11); (try clear hS_11); skip)
          refine hK.out _ _ ?_ (fun hHeld => ?_)
          · (try dsimp only)
            first | assumption
          clear hK K
          (try simp only [Act.put, List.setIfInBounds_toArray, List.set_cons_zero, List.set_cons_succ])
          (try clear hHeld)
          (try clear hne)
          (try clear hl14)
          revert hS_12
          revert hb18_12
          revert hb14_12
          revert hc18
          revert c18
          revert o18
          revert g17
          revert g16
          revert g14
          revert v_12
          exact key0
        refine AllReadyH.cons (o := { dst := some 43, op := Go.Op.buildSlice 33 1 #[(0, Go.Operand.const (Go.Value.int Go.IntKind.u8 97))], type := 33, pos := "law.go:55", after := #[{ on := 11, ground := Go.Ground.guard }], guard := some (11, true) }) rfl (fun K hK => ?_) AllReadyH.nil
        go_simp
        (obtain ⟨v_13, hy⟩ : ∃ q, v_9.alloc (.cells #[.int .u8 97] 5) = q := ⟨_, rfl⟩; rw [hy]; have hb : Below v_9.heap.size v_9 v_13 := (by rw [← hy]; exact (Below.refl _ _).alloc (Nat.le_refl _) _); have hS_13 := hS_9.trans (hb.mono hS_9.size); have hb14_13 := hb14_9.later hb; have hq14_13 := hq14_9.later hb; have hG_13 := hG_9.later hb; have hb17_13 : Bytes v_13 (some ⟨v_9.heap.size, 0, none⟩) 1 (fun _ => 97) := (by rw [← hy]; exact one_byte (by decide)); (try clear hb); (try clear hy); (try clear hb14_9); (try clear hq14_9); (try clear hG_9); (try clear hS_9); obtain ⟨g17, hg⟩ : ∃ q, v_9.heap.size = q := ⟨_, rfl⟩; rw [hg] at hb17_13 ⊢; clear hg; skip)
        (try go_wp2_with fail)
        refine hK.out _ _ ?_ (fun hHeld => ?_)
        · (try dsimp only)
          first | assumption
        clear hK K
        (try simp only [Act.put, List.setIfInBounds_toArray, List.set_cons_zero, List.set_cons_succ])
        refine wpAnyH_ready (rs := [15, 18]) (by kernel_rfl) (by simp) ?_
        refine AllReadyH.cons (o := { dst := some 41, op := Go.Op.convert 33 33 (Go.Operand.tmp 40), type := 33, pos := "law.go:55", after := #[{ on := 14, ground := Go.Ground.data }, { on := 11, ground := Go.Ground.guard }], guard := some (11, true) }) rfl (fun K hK => ?_) ?_
        · skip
          (refine step_convB (by kernel_rfl) (.tmp 40) rfl g14 1 1 1 rfl hq14_13 ?_; obtain ⟨v_14, hy⟩ : ∃ q, v_13.freeze ⟨g14, 1, none⟩ 1 = q := ⟨_, rfl⟩; rw [hy]; have hO : Own g14 v_13 v_14 := (by rw [← hy]; exact Own.frz _ _ _ _); have hS_14 := hS_13.trans (hO.below hl14 hS_13.size); have hb14_14 := hb14_13.frz ⟨g14, 1, none⟩ 1; rw [hy] at hb14_14; have hG_14 := hG_13.ownN hO (fun k hk => (by cases hk; exact hne)); have hb17_14 := hb17_13.frz ⟨g14, 1, none⟩ 1; rw [hy] at hb17_14; (try clear hO); (try clear hy); (try clear hl14); (try clear hb14_13); (try clear hq14_13); (try clear hG_13); (try clear hb17_13); (try clear hS_13); skip)
          refine hK.out _ _ ?_ (fun hHeld => ?_)
          · (try dsimp only)
            first | assumption
          clear hK K
          (try simp only [Act.put, List.setIfInBounds_toArray, List.set_cons_zero, List.set_cons_succ])
          refine wpAnyH_ready (rs := [18]) (by kernel_rfl) (by simp) ?_
          refine AllReadyH.cons (o := { dst := some 44, op := Go.Op.call { callee := Go.Callee.builtin Go.Builtin.append, args := #[Go.Operand.tmp 42, Go.Operand.tmp 43], argTypes := #[33, 33] }, type := 33, pos := "law.go:55", after := #[{ on := 16, ground := Go.Ground.data }, { on := 17, ground := Go.Ground.data }, { on := 11, ground := Go.Ground.chain }, { on := 11, ground := Go.Ground.guard }], guard := some (11, true) }) rfl (fun K hK => ?_) AllReadyH.nil
          (refine step_appG (by kernel_rfl) (.tmp 42) (.tmp 43) rfl w7.heap.size (.slice (some ⟨g16, 0, none⟩) 32 32) 32 1 1 (some ⟨g17, 0, none⟩) (fun _ => 0) (fun _ => 97) v_14 rfl hG_14 rfl (fun e => by cases e) hb17_14 (by decide) hS_14.size ?_; intro v9 v_15 hG9 hg9 hob9; have hS_15 := hS_14.trans (grow_bel hG_14 hS_14.size hg9); have hO : Own g16 v_14 v_15 := own_of_grown hg9; have hb14_15 := hb14_14.own hO (fun a ha _ => (by cases ha; exact hne.symm)); obtain ⟨o18, c18, hv9, hb18_15, hc18, hn18⟩ := hG9.bytesC (catF_b (n := 32) (m := 1) (fun _ _ => by decide) (fun _ _ => by decide)); subst hv9; (try clear hG9); (try clear hg9); (try clear hob9); (try clear hO); (try clear hn18); (try clear hne); (try clear hb14_14); (try clear hG_14); (try clear hb17_14); (try clear hS_14); skip)
          refine hK.out _ _ ?_ (fun hHeld => ?_)
          · (try dsimp only)
            first | assumption
          clear hK K
          (try simp only [Act.put, List.setIfInBounds_toArray, List.set_cons_zero, List.set_cons_succ])
          (try clear hHeld)
          (try clear hne)
          (try clear hl14)
          revert hS_15
          revert hb18_15
          revert hb14_15
          revert hc18
          revert c18
          revert o18
          revert g17
          revert g16
          revert g14
          revert v_15
          exact key0
        refine AllReadyH.cons (o := { dst := some 44, op := Go.Op.call { callee := Go.Callee.builtin Go.Builtin.append, args := #[Go.Operand.tmp 42, Go.Operand.tmp 43], argTypes := #[33, 33] }, type := 33, pos := "law.go:55", after := #[{ on := 16, ground := Go.Ground.data }, { on := 17, ground := Go.Ground.data }, { on := 11, ground := Go.Ground.chain }, { on := 11, ground := Go.Ground.guard }], guard := some (11, true) }) rfl (fun K hK => ?_) AllReadyH.nil
        (refine step_appG (by kernel_rfl) (.tmp 42) (.tmp 43) rfl w7.heap.size (.slice (some ⟨g16, 0, none⟩) 32 32) 32 1 1 (some ⟨g17, 0, none⟩) (fun _ => 0) (fun _ => 97) v_13 rfl hG_13 rfl (fun e => by cases e) hb17_13 (by decide) hS_13.size ?_; intro v9 v_16 hG9 hg9 hob9; have hS_16 := hS_13.trans (grow_bel hG_13 hS_13.size hg9); have hO : Own g16 v_13 v_16 := own_of_grown hg9; have hb14_16 := hb14_13.own hO (fun a ha _ => (by cases ha; exact hne.symm)); have hq14_16 := hq14_13.own hO hne.symm; obtain ⟨o18, c18, hv9, hb18_16, hc18, hn18⟩ := hG9.bytesC (catF_b (n := 32) (m := 1) (fun _ _ => by decide) (fun _ _ => by decide)); subst hv9; (try clear hG9); (try clear hg9); (try clear hob9); (try clear hO); (try clear hn18); (try clear hne); (try clear hb14_13); (try clear hq14_13); (try clear hG_13); (try clear hb17_13); (try clear hS_13); skip)
        refine hK.out _ _ ?_ (fun hHeld => ?_)
        · (try dsimp only)
          first | assumption
        clear hK K
        (try simp only [Act.put, List.setIfInBounds_toArray, List.set_cons_zero, List.set_cons_succ])
        refine wpAnyH_ready (rs := [15]) (by kernel_rfl) (by simp) ?_
        refine AllReadyH.cons (o := { dst := some 41, op := Go.Op.convert 33 33 (Go.Operand.tmp 40), type := 33, pos := "law.go:55", after := #[{ on := 14, ground := Go.Ground.data }, { on := 11, ground := Go.Ground.guard }], guard := some (11, true) }) rfl (fun K hK => ?_) AllReadyH.nil
        (refine step_convB (by kernel_rfl) (.tmp 40) rfl g14 1 1 1 rfl hq14_16 ?_; obtain ⟨v_17, hy⟩ : ∃ q, v_16.freeze ⟨g14, 1, none⟩ 1 = q := ⟨_, rfl⟩; rw [hy]; have hO : Own g14 v_16 v_17 := (by rw [← hy]; exact Own.frz _ _ _ _); have hS_17 := hS_16.trans (hO.below hl14 hS_16.size); have hb14_17 := hb14_16.frz ⟨g14, 1, none⟩ 1; rw [hy] at hb14_17; have hb18_17 := hb18_16.frz ⟨g14, 1, none⟩ 1; rw [hy] at hb18_17; (try clear hO); (try clear hy); (try clear hl14); (try clear hb14_16); (try clear hq14_16); (try clear hb18_16); (try clear hS_16); skip)
        refine hK.out _ _ ?_ (fun hHeld => ?_)
        · (try dsimp only)
          first | assumption
        clear hK K
        (try simp only [Act.put, List.setIfInBounds_toArray, List.set_cons_zero, List.set_cons_succ])
        (try clear hHeld)
        (try clear hne)
        (try clear hl14)
        revert hS_17
        revert hb18_17
        revert hb14_17
        revert hc18
        revert c18
        revert o18
        revert g17
        revert g16
        revert g14
        revert v_17
        exact key0
      refine AllReadyH.cons (o := { dst := some 43, op := Go.Op.buildSlice 33 1 #[(0, Go.Operand.const (Go.Value.int Go.IntKind.u8 97))], type := 33, pos := "law.go:55", after := #[{ on := 11, ground := Go.Ground.guard }], guard := some (11, true) }) rfl (fun K hK => ?_) AllReadyH.nil
      go_simp
      (obtain ⟨v_18, hy⟩ : ∃ q, v_1.alloc (.cells #[.int .u8 97] 5) = q := ⟨_, rfl⟩; rw [hy]; have hb : Below v_1.heap.size v_1 v_18 := (by rw [← hy]; exact (Below.refl _ _).alloc (Nat.le_refl _) _); have hS_18 := hS_1.trans (hb.mono hS_1.size); have hb14_18 := hb14_1.later hb; have hq14_18 := hq14_1.later hb; have hb17_18 : Bytes v_18 (some ⟨v_1.heap.size, 0, none⟩) 1 (fun _ => 97) := (by rw [← hy]; exact one_byte (by decide)); (try clear hb); (try clear hy); (try clear hb14_1); (try clear hq14_1); (try clear hS_1); obtain ⟨g17, hg⟩ : ∃ q, v_1.heap.size = q := ⟨_, rfl⟩; rw [hg] at hb17_18 ⊢; clear hg; skip)
      (try go_wp2_with fail)
      refine hK.out _ _ ?_ (fun hHeld => ?_)
      · (try dsimp only)
        first | assumption
      clear hK K
      (try simp only [Act.put, List.setIfInBounds_toArray, List.set_cons_zero, List.set_cons_succ])
      refine wpAnyH_ready (rs := [15, 16]) (by kernel_rfl) (by simp) ?_
      refine AllReadyH.cons (o := { dst := some 41, op := Go.Op.convert 33 33 (Go.Operand.tmp 40), type := 33, pos := "law.go:55", after := #[{ on := 14, ground := Go.Ground.data }, { on := 11, ground := Go.Ground.guard }], guard := some (11, true) }) rfl (fun K hK => ?_) ?_
      · skip
        (refine step_convB (by kernel_rfl) (.tmp 40) rfl g14 1 1 1 rfl hq14_18 ?_; obtain ⟨v_19, hy⟩ : ∃ q, v_18.freeze ⟨g14, 1, none⟩ 1 = q := ⟨_, rfl⟩; rw [hy]; have hO : Own g14 v_18 v_19 := (by rw [← hy]; exact Own.frz _ _ _ _); have hS_19 := hS_18.trans (hO.below hl14 hS_18.size); have hb14_19 := hb14_18.frz ⟨g14, 1, none⟩ 1; rw [hy] at hb14_19; have hb17_19 := hb17_18.frz ⟨g14, 1, none⟩ 1; rw [hy] at hb17_19; (try clear hO); (try clear hy); (try clear hl14); (try clear hb14_18); (try clear hq14_18); (try clear hb17_18); (try clear hS_18); skip)
        refine hK.out _ _ ?_ (fun hHeld => ?_)
        · (try dsimp only)
          first | assumption
        clear hK K
        (try simp only [Act.put, List.setIfInBounds_toArray, List.set_cons_zero, List.set_cons_succ])
        refine wpAnyH_ready (rs := [16]) (by kernel_rfl) (by simp) ?_
        refine AllReadyH.cons (o := { dst := some 42, op := Go.Op.makeSlice 33 (Go.Operand.const (Go.Value.int Go.IntKind.i64 32)) (Go.Operand.const (Go.Value.int Go.IntKind.i64 32)), type := 33, pos := "law.go:55", after := #[{ on := 11, ground := Go.Ground.guard }], guard := some (11, true) }) rfl (fun K hK => ?_) AllReadyH.nil
        (refine step_makeG (by kernel_rfl) (.const (.int .i64 32)) (.const (.int .i64 32)) rfl 32 rfl rfl (by decide) ?_; obtain ⟨v_20, hy⟩ : ∃ q, v_19.alloc (.cells (rowC 32 (fun _ => 0)).toArray 5) = q := ⟨_, rfl⟩; rw [hy]; have hb : Below v_19.heap.size v_19 v_20 := (by rw [← hy]; exact (Below.refl _ _).alloc (Nat.le_refl _) _); have hS_20 := hS_19.trans (hb.mono hS_19.size); have hb14_20 := hb14_19.later hb; have hb17_20 := hb17_19.later hb; have hG_20 : Grow v_20 w7.heap.size (.slice (some ⟨v_19.heap.size, 0, none⟩) 32 32) 32 (fun _ => 0) := (Grow.of_row (by rw [← hy]; exact row_new v_19 32 (fun _ => 0)) (by decide)).base hS_19.size; have hne : v_19.heap.size ≠ g14 := Nat.ne_of_gt (hb14_19.lt _ rfl (by decide)); (try clear hb); (try clear hy); (try clear hb14_19); (try clear hb17_19); (try clear hS_19); obtain ⟨g16, hg⟩ : ∃ q, v_19.heap.size = q := ⟨_, rfl⟩; rw [hg] at hG_20 hne ⊢; clear hg; skip)
        refine hK.out _ _ ?_ (fun hHeld => ?_)
        · (try dsimp only)
          first | assumption
        clear hK K
        (try simp only [Act.put, List.setIfInBounds_toArray, List.set_cons_zero, List.set_cons_succ])
        refine wpAnyH_ready (rs := [18]) (by kernel_rfl) (by simp) ?_
        refine AllReadyH.cons (o := { dst := some 44, op := Go.Op.call { callee := Go.Callee.builtin Go.Builtin.append, args := #[Go.Operand.tmp 42, Go.Operand.tmp 43], argTypes := #[33, 33] }, type := 33, pos := "law.go:55", after := #[{ on := 16, ground := Go.Ground.data }, { on := 17, ground := Go.Ground.data }, { on := 11, ground := Go.Ground.chain }, { on := 11, ground := Go.Ground.guard }], guard := some (11, true) }) rfl (fun K hK => ?_) AllReadyH.nil
        (refine step_appG (by kernel_rfl) (.tmp 42) (.tmp 43) rfl w7.heap.size (.slice (some ⟨g16, 0, none⟩) 32 32) 32 1 1 (some ⟨g17, 0, none⟩) (fun _ => 0) (fun _ => 97) v_20 rfl hG_20 rfl (fun e => by cases e) hb17_20 (by decide) hS_20.size ?_; intro v9 v_21 hG9 hg9 hob9; have hS_21 := hS_20.trans (grow_bel hG_20 hS_20.size hg9); have hO : Own g16 v_20 v_21 := own_of_grown hg9; have hb14_21 := hb14_20.own hO (fun a ha _ => (by cases ha; exact hne.symm)); obtain ⟨o18, c18, hv9, hb18_21, hc18, hn18⟩ := hG9.bytesC (catF_b (n := 32) (m := 1) (fun _ _ => by decide) (fun _ _ => by decide)); subst hv9; (try clear hG9); (try clear hg9); (try clear hob9); (try clear hO); (try clear hn18); (try clear hne); (try clear hb14_20); (try clear hb17_20); (try clear hG_20); (try clear hS_20); skip)
        refine hK.out _ _ ?_ (fun hHeld => ?_)
        · (try dsimp only)
          first | assumption
        clear hK K
        (try simp only [Act.put, List.setIfInBounds_toArray, List.set_cons_zero, List.set_cons_succ])
        (try clear hHeld)
        (try clear hne)
        (try clear hl14)
        revert hS_21
        revert hb18_21
        revert hb14_21
        revert hc18
        revert c18
        revert o18
        revert g17
        revert g16
        revert g14
        revert v_21
        exact key0
      refine AllReadyH.cons (o := { dst := some 42, op := Go.Op.makeSlice 33 (Go.Operand.const (Go.Value.int Go.IntKind.i64 32)) (Go.Operand.const (Go.Value.int Go.IntKind.i64 32)), type := 33, pos := "law.go:55", after := #[{ on := 11, ground := Go.Ground.guard }], guard := some (11, true) }) rfl (fun K hK => ?_) AllReadyH.nil
      (refine step_makeG (by kernel_rfl) (.const (.int .i64 32)) (.const (.int .i64 32)) rfl 32 rfl rfl (by decide) ?_; obtain ⟨v_22, hy⟩ : ∃ q, v_18.alloc (.cells (rowC 32 (fun _ => 0)).toArray 5) = q := ⟨_, rfl⟩; rw [hy]; have hb : Below v_18.heap.size v_18 v_22 := (by rw [← hy]; exact (Below.refl _ _).alloc (Nat.le_refl _) _); have hS_22 := hS_18.trans (hb.mono hS_18.size); have hb14_22 := hb14_18.later hb; have hq14_22 := hq14_18.later hb; have hb17_22 := hb17_18.later hb; have hG_22 : Grow v_22 w7.heap.size (.slice (some ⟨v_18.heap.size, 0, none⟩) 32 32) 32 (fun _ => 0) := (Grow.of_row (by rw [← hy]; exact row_new v_18 32 (fun _ => 0)) (by decide)).base hS_18.size; have hne : v_18.heap.size ≠ g14 := Nat.ne_of_gt (hb14_18.lt _ rfl (by decide)); (try clear hb); (try clear hy); (try clear hb14_18); (try clear hq14_18); (try clear hb17_18); (try clear hS_18); obtain ⟨g16, hg⟩ : ∃ q, v_18.heap.size = q := ⟨_, rfl⟩; rw [hg] at hG_22 hne ⊢; clear hg; skip)
      refine hK.out _ _ ?_ (fun hHeld => ?_)
      · (try dsimp only)
        first | assumption
      clear hK K
      (try simp only [Act.put, List.setIfInBounds_toArray, List.set_cons_zero, List.set_cons_succ])
      refine wpAnyH_ready (rs := [15, 18]) (by kernel_rfl) (by simp) ?_
      refine AllReadyH.cons (o := { dst := some 41, op := Go.Op.convert 33 33 (Go.Operand.tmp 40), type := 33, pos := "law.go:55", after := #[{ on := 14, ground := Go.Ground.data }, { on := 11, ground := Go.Ground.guard }], guard := some (11, true) }) rfl (fun K hK => ?_) ?_
      · skip
        (refine step_convB (by kernel_rfl) (.tmp 40) rfl g14 1 1 1 rfl hq14_22 ?_; obtain ⟨v_23, hy⟩ : ∃ q, v_22.freeze ⟨g14, 1, none⟩ 1 = q := ⟨_, rfl⟩; rw [hy]; have hO : Own g14 v_22 v_23 := (by rw [← hy]; exact Own.frz _ _ _ _); have hS_23 := hS_22.trans (hO.below hl14 hS_22.size); have hb14_23 := hb14_22.frz ⟨g14, 1, none⟩ 1; rw [hy] at hb14_23; have hb17_23 := hb17_22.frz ⟨g14, 1, none⟩ 1; rw [hy] at hb17_23; have hG_23 := hG_22.ownN hO (fun k hk => (by cases hk; exact hne)); (try clear hO); (try clear hy); (try clear hl14); (try clear hb14_22); (try clear hq14_22); (try clear hb17_22); (try clear hG_22); (try clear hS_22); skip)
        refine hK.out _ _ ?_ (fun hHeld => ?_)
        · (try dsimp only)
          first | assumption
        clear hK K
        (try simp only [Act.put, List.setIfInBounds_toArray, List.set_cons_zero, List.set_cons_succ])
        refine wpAnyH_ready (rs := [18]) (by kernel_rfl) (by simp) ?_
        refine AllReadyH.cons (o := { dst := some 44, op := Go.Op.call { callee := Go.Callee.builtin Go.Builtin.append, args := #[Go.Operand.tmp 42, Go.Operand.tmp 43], argTypes := #[33, 33] }, type := 33, pos := "law.go:55", after := #[{ on := 16, ground := Go.Ground.data }, { on := 17, ground := Go.Ground.data }, { on := 11, ground := Go.Ground.chain }, { on := 11, ground := Go.Ground.guard }], guard := some (11, true) }) rfl (fun K hK => ?_) AllReadyH.nil
        (refine step_appG (by kernel_rfl) (.tmp 42) (.tmp 43) rfl w7.heap.size (.slice (some ⟨g16, 0, none⟩) 32 32) 32 1 1 (some ⟨g17, 0, none⟩) (fun _ => 0) (fun _ => 97) v_23 rfl hG_23 rfl (fun e => by cases e) hb17_23 (by decide) hS_23.size ?_; intro v9 v_24 hG9 hg9 hob9; have hS_24 := hS_23.trans (grow_bel hG_23 hS_23.size hg9); have hO : Own g16 v_23 v_24 := own_of_grown hg9; have hb14_24 := hb14_23.own hO (fun a ha _ => (by cases ha; exact hne.symm)); obtain ⟨o18, c18, hv9, hb18_24, hc18, hn18⟩ := hG9.bytesC (catF_b (n := 32) (m := 1) (fun _ _ => by decide) (fun _ _ => by decide)); subst hv9; (try clear hG9); (try clear hg9); (try clear hob9); (try clear hO); (try clear hn18); (try clear hne); (try clear hb14_23); (try clear hb17_23); (try clear hG_23); (try clear hS_23); skip)
        refine hK.out _ _ ?_ (fun hHeld => ?_)
        · (try dsimp only)
          first | assumption
        clear hK K
        (try simp only [Act.put, List.setIfInBounds_toArray, List.set_cons_zero, List.set_cons_succ])
        (try clear hHeld)
        (try clear hne)
        (try clear hl14)
        revert hS_24
        revert hb18_24
        revert hb14_24
        revert hc18
        revert c18
        revert o18
        revert g17
        revert g16
        revert g14
        revert v_24
        exact key0
      refine AllReadyH.cons (o := { dst := some 44, op := Go.Op.call { callee := Go.Callee.builtin Go.Builtin.append, args := #[Go.Operand.tmp 42, Go.Operand.tmp 43], argTypes := #[33, 33] }, type := 33, pos := "law.go:55", after := #[{ on := 16, ground := Go.Ground.data }, { on := 17, ground := Go.Ground.data }, { on := 11, ground := Go.Ground.chain }, { on := 11, ground := Go.Ground.guard }], guard := some (11, true) }) rfl (fun K hK => ?_) AllReadyH.nil
      (refine step_appG (by kernel_rfl) (.tmp 42) (.tmp 43) rfl w7.heap.size (.slice (some ⟨g16, 0, none⟩) 32 32) 32 1 1 (some ⟨g17, 0, none⟩) (fun _ => 0) (fun _ => 97) v_22 rfl hG_22 rfl (fun e => by cases e) hb17_22 (by decide) hS_22.size ?_; intro v9 v_25 hG9 hg9 hob9; have hS_25 := hS_22.trans (grow_bel hG_22 hS_22.size hg9); have hO : Own g16 v_22 v_25 := own_of_grown hg9; have hb14_25 := hb14_22.own hO (fun a ha _ => (by cases ha; exact hne.symm)); have hq14_25 := hq14_22.own hO hne.symm; obtain ⟨o18, c18, hv9, hb18_25, hc18, hn18⟩ := hG9.bytesC (catF_b (n := 32) (m := 1) (fun _ _ => by decide) (fun _ _ => by decide)); subst hv9; (try clear hG9); (try clear hg9); (try clear hob9); (try clear hO); (try clear hn18); (try clear hne); (try clear hb14_22); (try clear hq14_22); (try clear hb17_22); (try clear hG_22); (try clear hS_22); skip)
      refine hK.out _ _ ?_ (fun hHeld => ?_)
      · (try dsimp only)
        first | assumption
      clear hK K
      (try simp only [Act.put, List.setIfInBounds_toArray, List.set_cons_zero, List.set_cons_succ])
      refine wpAnyH_ready (rs := [15]) (by kernel_rfl) (by simp) ?_
      refine AllReadyH.cons (o := { dst := some 41, op := Go.Op.convert 33 33 (Go.Operand.tmp 40), type := 33, pos := "law.go:55", after := #[{ on := 14, ground := Go.Ground.data }, { on := 11, ground := Go.Ground.guard }], guard := some (11, true) }) rfl (fun K hK => ?_) AllReadyH.nil
      (refine step_convB (by kernel_rfl) (.tmp 40) rfl g14 1 1 1 rfl hq14_25 ?_; obtain ⟨v_26, hy⟩ : ∃ q, v_25.freeze ⟨g14, 1, none⟩ 1 = q := ⟨_, rfl⟩; rw [hy]; have hO : Own g14 v_25 v_26 := (by rw [← hy]; exact Own.frz _ _ _ _); have hS_26 := hS_25.trans (hO.below hl14 hS_25.size); have hb14_26 := hb14_25.frz ⟨g14, 1, none⟩ 1; rw [hy] at hb14_26; have hb18_26 := hb18_25.frz ⟨g14, 1, none⟩ 1; rw [hy] at hb18_26; (try clear hO); (try clear hy); (try clear hl14); (try clear hb14_25); (try clear hq14_25); (try clear hb18_25); (try clear hS_25); skip)
      refine hK.out _ _ ?_ (fun hHeld => ?_)
      · (try dsimp only)
        first | assumption
      clear hK K
      (try simp only [Act.put, List.setIfInBounds_toArray, List.set_cons_zero, List.set_cons_succ])
      (try clear hHeld)
      (try clear hne)
      (try clear hl14)
      revert hS_26
      revert hb18_26
      revert hb14_26
      revert hc18
      revert c18
      revert o18
      revert g17
      revert g16
      revert g14
      revert v_26
      exact key0
    refine AllReadyH.cons (o := { dst := some 42, op := Go.Op.makeSlice 33 (Go.Operand.const (Go.Value.int Go.IntKind.i64 32)) (Go.Operand.const (Go.Value.int Go.IntKind.i64 32)), type := 33, pos := "law.go:55", after := #[{ on := 11, ground := Go.Ground.guard }], guard := some (11, true) }) rfl (fun K hK => ?_) ?_
    · skip
      (refine step_makeG (by kernel_rfl) (.const (.int .i64 32)) (.const (.int .i64 32)) rfl 32 rfl rfl (by decide) ?_; obtain ⟨v_27, hy⟩ : ∃ q, W0.alloc (.cells (rowC 32 (fun _ => 0)).toArray 5) = q := ⟨_, rfl⟩; rw [hy]; have hb : Below W0.heap.size W0 v_27 := (by rw [← hy]; exact (Below.refl _ _).alloc (Nat.le_refl _) _); have hS_27 := hS_0.trans (hb.mono hS_0.size); have hG_27 : Grow v_27 w7.heap.size (.slice (some ⟨W0.heap.size, 0, none⟩) 32 32) 32 (fun _ => 0) := (Grow.of_row (by rw [← hy]; exact row_new W0 32 (fun _ => 0)) (by decide)).base hS_0.size; (try clear hb); (try clear hy); (try clear hS_0); obtain ⟨g16, hg⟩ : ∃ q, W0.heap.size = q := ⟨_, rfl⟩; rw [hg] at hG_27 ⊢; clear hg; skip)
      refine hK.out _ _ ?_ (fun hHeld => ?_)
      · (try dsimp only)
        first | assumption
      clear hK K
      (try simp only [Act.put, List.setIfInBounds_toArray, List.set_cons_zero, List.set_cons_succ])
      refine wpAnyH_ready (rs := [14, 17]) (by kernel_rfl) (by simp) ?_
      refine AllReadyH.cons (o := { dst := some 40, op := Go.Op.buildSlice 33 1 #[(0, Go.Operand.const (Go.Value.int Go.IntKind.u8 107))], type := 33, pos := "law.go:55", after := #[{ on := 11, ground := Go.Ground.guard }], guard := some (11, true) }) rfl (fun K hK => ?_) ?_
      · skip
        go_simp
        (obtain ⟨v_28, hy⟩ : ∃ q, v_27.alloc (.cells #[.int .u8 107] 5) = q := ⟨_, rfl⟩; rw [hy]; have hb : Below v_27.heap.size v_27 v_28 := (by rw [← hy]; exact (Below.refl _ _).alloc (Nat.le_refl _) _); have hS_28 := hS_27.trans (hb.mono hS_27.size); have hG_28 := hG_27.later hb; have hb14_28 : Bytes v_28 (some ⟨v_27.heap.size, 0, none⟩) 1 (fun _ => 107) := (by rw [← hy]; exact one_byte (by decide)); have hq14_28 : Shp v_28 v_27.heap.size 1 := (by rw [← hy]; exact Shp.blk (Blk.new _ #[.int .u8 107] _)); have hl14 : w7.heap.size ≤ v_27.heap.size := hS_27.size; have hne : g16 ≠ v_27.heap.size := Nat.ne_of_lt (hG_27.lt g16 rfl).2; (try clear hb); (try clear hy); (try clear hG_27); (try clear hS_27); obtain ⟨g14, hg⟩ : ∃ q, v_27.heap.size = q := ⟨_, rfl⟩; rw [hg] at hb14_28 hq14_28 hl14 hne ⊢; clear hg; skip)
        (try go_wp2_with fail)
        refine hK.out _ _ ?_ (fun hHeld => ?_)
        · (try dsimp only)
          first | assumption
        clear hK K
        (try simp only [Act.put, List.setIfInBounds_toArray, List.set_cons_zero, List.set_cons_succ])
        refine wpAnyH_ready (rs := [15, 17]) (by kernel_rfl) (by simp) ?_
        refine AllReadyH.cons (o := { dst := some 41, op := Go.Op.convert 33 33 (Go.Operand.tmp 40), type := 33, pos := "law.go:55", after := #[{ on := 14, ground := Go.Ground.data }, { on := 11, ground := Go.Ground.guard }], guard := some (11, true) }) rfl (fun K hK => ?_) ?_
        · skip
          (refine step_convB (by kernel_rfl) (.tmp 40) rfl g14 1 1 1 rfl hq14_28 ?_; obtain ⟨v_29, hy⟩ : ∃ q, v_28.freeze ⟨g14, 1, none⟩ 1 = q := ⟨_, rfl⟩; rw [hy]; have hO : Own g14 v_28 v_29 := (by rw [← hy]; exact Own.frz _ _ _ _); have hS_29 := hS_28.trans (hO.below hl14 hS_28.size); have hG_29 := hG_28.ownN hO (fun k hk => (by cases hk; exact hne)); have hb14_29 := hb14_28.frz ⟨g14, 1, none⟩ 1; rw [hy] at hb14_29; (try clear hO); (try clear hy); (try clear hl14); (try clear hG_28); (try clear hb14_28); (try clear hq14_28); (try clear hS_28); skip)
          refine hK.out _ _ ?_ (fun hHeld => ?_)
          · (try dsimp only)
            first | assumption
          clear hK K
          (try simp only [Act.put, List.setIfInBounds_toArray, List.set_cons_zero, List.set_cons_succ])
          refine wpAnyH_ready (rs := [17]) (by kernel_rfl) (by simp) ?_
          refine AllReadyH.cons (o := { dst := some 43, op := Go.Op.buildSlice 33 1 #[(0, Go.Operand.const (Go.Value.int Go.IntKind.u8 97))], type := 33, pos := "law.go:55", after := #[{ on := 11, ground := Go.Ground.guard }], guard := some (11, true) }) rfl (fun K hK => ?_) AllReadyH.nil
          go_simp
          (obtain ⟨v_30, hy⟩ : ∃ q, v_29.alloc (.cells #[.int .u8 97] 5) = q := ⟨_, rfl⟩; rw [hy]; have hb : Below v_29.heap.size v_29 v_30 := (by rw [← hy]; exact (Below.refl _ _).alloc (Nat.le_refl _) _); have hS_30 := hS_29.trans (hb.mono hS_29.size); have hG_30 := hG_29.later hb; have hb14_30 := hb14_29.later hb; have hb17_30 : Bytes v_30 (some ⟨v_29.heap.size, 0, none⟩) 1 (fun _ => 97) := (by rw [← hy]; exact one_byte (by decide)); (try clear hb); (try clear hy); (try clear hG_29); (try clear hb14_29); (try clear hS_29); obtain ⟨g17, hg⟩ : ∃ q, v_29.heap.size = q := ⟨_, rfl⟩; rw [hg] at hb17_30 ⊢; clear hg; skip)
          (try go_wp2_with fail)
          refine hK.out _ _ ?_ (fun hHeld => ?_)
          · (try dsimp only)
            first | assumption
          clear hK K
          (try simp only [Act.put, List.setIfInBounds_toArray, List.set_cons_zero, List.set_cons_succ])
          refine wpAnyH_ready (rs := [18]) (by kernel_rfl) (by simp) ?_
          refine AllReadyH.cons (o := { dst := some 44, op := Go.Op.call { callee := Go.Callee.builtin Go.Builtin.append, args := #[Go.Operand.tmp 42, Go.Operand.tmp 43], argTypes := #[33, 33] }, type := 33, pos := "law.go:55", after := #[{ on := 16, ground := Go.Ground.data }, { on := 17, ground := Go.Ground.data }, { on := 11, ground := Go.Ground.chain }, { on := 11, ground := Go.Ground.guard }], guard := some (11, true) }) rfl (fun K hK => ?_) AllReadyH.nil
          (refine step_appG (by kernel_rfl) (.tmp 42) (.tmp 43) rfl w7.heap.size (.slice (some ⟨g16, 0, none⟩) 32 32) 32 1 1 (some ⟨g17, 0, none⟩) (fun _ => 0) (fun _ => 97) v_30 rfl hG_30 rfl (fun e => by cases e) hb17_30 (by decide) hS_30.size ?_; intro v9 v_31 hG9 hg9 hob9; have hS_31 := hS_30.trans (grow_bel hG_30 hS_30.size hg9); have hO : Own g16 v_30 v_31 := own_of_grown hg9; have hb14_31 := hb14_30.own hO (fun a ha _ => (by cases ha; exact hne.symm)); obtain ⟨o18, c18, hv9, hb18_31, hc18, hn18⟩ := hG9.bytesC (catF_b (n := 32) (m := 1) (fun _ _ => by decide) (fun _ _ => by decide)); subst hv9; (try clear hG9); (try clear hg9); (try clear hob9); (try clear hO); (try clear hn18); (try clear hne); (try clear hG_30); (try clear hb14_30); (try clear hb17_30); (try clear hS_30); skip)
          refine hK.out _ _ ?_ (fun hHeld => ?_)
          · (try dsimp only)
            first | assumption
          clear hK K
          (try simp only [Act.put, List.setIfInBounds_toArray, List.set_cons_zero, List.set_cons_succ])
          (try clear hHeld)
          (try clear hne)
          (try clear hl14)
          revert hS_31
          revert hb18_31
          revert hb14_31
          revert hc18
          revert c18
          revert o18
          revert g17
          revert g16
          revert g14
          revert v_31
          exact key0
        refine AllReadyH.cons (o := { dst := some 43, op := Go.Op.buildSlice 33 1 #[(0, Go.Operand.const (Go.Value.int Go.IntKind.u8 97))], type := 33, pos := "law.go:55", after := #[{ on := 11, ground := Go.Ground.guard }], guard := some (11, true) }) rfl (fun K hK => ?_) AllReadyH.nil
        go_simp
        (obtain ⟨v_32, hy⟩ : ∃ q, v_28.alloc (.cells #[.int .u8 97] 5) = q := ⟨_, rfl⟩; rw [hy]; have hb : Below v_28.heap.size v_28 v_32 := (by rw [← hy]; exact (Below.refl _ _).alloc (Nat.le_refl _) _); have hS_32 := hS_28.trans (hb.mono hS_28.size); have hG_32 := hG_28.later hb; have hb14_32 := hb14_28.later hb; have hq14_32 := hq14_28.later hb; have hb17_32 : Bytes v_32 (some ⟨v_28.heap.size, 0, none⟩) 1 (fun _ => 97) := (by rw [← hy]; exact one_byte (by decide)); (try clear hb); (try clear hy); (try clear hG_28); (try clear hb14_28); (try clear hq14_28); (try clear hS_28); obtain ⟨g17, hg⟩ : ∃ q, v_28.heap.size = q := ⟨_, rfl⟩; rw [hg] at hb17_32 ⊢; clear hg; skip)
        (try go_wp2_with fail)
        refine hK.out _ _ ?_ (fun hHeld => ?_)
        · (try dsimp only)
          first | assumption
        clear hK K
        (try simp only [Act.put, List.setIfInBounds_toArray, List.set_cons_zero, List.set_cons_succ])
        refine wpAnyH_ready (rs := [15, 18]) (by kernel_rfl) (by simp) ?_
        refine AllReadyH.cons (o := { dst := some 41, op := Go.Op.convert 33 33 (Go.Operand.tmp 40), type := 33, pos := "law.go:55", after := #[{ on := 14, ground := Go.Ground.data }, { on := 11, ground := Go.Ground.guard }], guard := some (11, true) }) rfl (fun K hK => ?_) ?_
        · skip
          (refine step_convB (by kernel_rfl) (.tmp 40) rfl g14 1 1 1 rfl hq14_32 ?_; obtain ⟨v_33, hy⟩ : ∃ q, v_32.freeze ⟨g14, 1, none⟩ 1 = q := ⟨_, rfl⟩; rw [hy]; have hO : Own g14 v_32 v_33 := (by rw [← hy]; exact Own.frz _ _ _ _); have hS_33 := hS_32.trans (hO.below hl14 hS_32.size); have hG_33 := hG_32.ownN hO (fun k hk => (by cases hk; exact hne)); have hb14_33 := hb14_32.frz ⟨g14, 1, none⟩ 1; rw [hy] at hb14_33; have hb17_33 := hb17_32.frz ⟨g14, 1, none⟩ 1; rw [hy] at hb17_33; (try clear hO); (try clear hy); (try clear hl14); (try clear hG_32); (try clear hb14_32); (try clear hq14_32); (try clear hb17_32); (try clear hS_32); skip)
          refine hK.out _ _ ?_ (fun hHeld => ?_)
          · (try dsimp only)
            first | assumption
          clear hK K
          (try simp only [Act.put, List.setIfInBounds_toArray, List.set_cons_zero, List.set_cons_succ])
          refine wpAnyH_ready (rs := [18]) (by kernel_rfl) (by simp) ?_
          refine AllReadyH.cons (o := { dst := some 44, op := Go.Op.call { callee := Go.Callee.builtin Go.Builtin.append, args := #[Go.Operand.tmp 42, Go.Operand.tmp 43], argTypes := #[33, 33] }, type := 33, pos := "law.go:55", after := #[{ on := 16, ground := Go.Ground.data }, { on := 17, ground := Go.Ground.data }, { on := 11, ground := Go.Ground.chain }, { on := 11, ground := Go.Ground.guard }], guard := some (11, true) }) rfl (fun K hK => ?_) AllReadyH.nil
          (refine step_appG (by kernel_rfl) (.tmp 42) (.tmp 43) rfl w7.heap.size (.slice (some ⟨g16, 0, none⟩) 32 32) 32 1 1 (some ⟨g17, 0, none⟩) (fun _ => 0) (fun _ => 97) v_33 rfl hG_33 rfl (fun e => by cases e) hb17_33 (by decide) hS_33.size ?_; intro v9 v_34 hG9 hg9 hob9; have hS_34 := hS_33.trans (grow_bel hG_33 hS_33.size hg9); have hO : Own g16 v_33 v_34 := own_of_grown hg9; have hb14_34 := hb14_33.own hO (fun a ha _ => (by cases ha; exact hne.symm)); obtain ⟨o18, c18, hv9, hb18_34, hc18, hn18⟩ := hG9.bytesC (catF_b (n := 32) (m := 1) (fun _ _ => by decide) (fun _ _ => by decide)); subst hv9; (try clear hG9); (try clear hg9); (try clear hob9); (try clear hO); (try clear hn18); (try clear hne); (try clear hG_33); (try clear hb14_33); (try clear hb17_33); (try clear hS_33); skip)
          refine hK.out _ _ ?_ (fun hHeld => ?_)
          · (try dsimp only)
            first | assumption
          clear hK K
          (try simp only [Act.put, List.setIfInBounds_toArray, List.set_cons_zero, List.set_cons_succ])
          (try clear hHeld)
          (try clear hne)
          (try clear hl14)
          revert hS_34
          revert hb18_34
          revert hb14_34
          revert hc18
          revert c18
          revert o18
          revert g17
          revert g16
          revert g14
          revert v_34
          exact key0
        refine AllReadyH.cons (o := { dst := some 44, op := Go.Op.call { callee := Go.Callee.builtin Go.Builtin.append, args := #[Go.Operand.tmp 42, Go.Operand.tmp 43], argTypes := #[33, 33] }, type := 33, pos := "law.go:55", after := #[{ on := 16, ground := Go.Ground.data }, { on := 17, ground := Go.Ground.data }, { on := 11, ground := Go.Ground.chain }, { on := 11, ground := Go.Ground.guard }], guard := some (11, true) }) rfl (fun K hK => ?_) AllReadyH.nil
        (refine step_appG (by kernel_rfl) (.tmp 42) (.tmp 43) rfl w7.heap.size (.slice (some ⟨g16, 0, none⟩) 32 32) 32 1 1 (some ⟨g17, 0, none⟩) (fun _ => 0) (fun _ => 97) v_32 rfl hG_32 rfl (fun e => by cases e) hb17_32 (by decide) hS_32.size ?_; intro v9 v_35 hG9 hg9 hob9; have hS_35 := hS_32.trans (grow_bel hG_32 hS_32.size hg9); have hO : Own g16 v_32 v_35 := own_of_grown hg9; have hb14_35 := hb14_32.own hO (fun a ha _ => (by cases ha; exact hne.symm)); have hq14_35 := hq14_32.own hO hne.symm; obtain ⟨o18, c18, hv9, hb18_35, hc18, hn18⟩ := hG9.bytesC (catF_b (n := 32) (m := 1) (fun _ _ => by decide) (fun _ _ => by decide)); subst hv9; (try clear hG9); (try clear hg9); (try clear hob9); (try clear hO); (try clear hn18); (try clear hne); (try clear hG_32); (try clear hb14_32); (try clear hq14_32); (try clear hb17_32); (try clear hS_32); skip)
        refine hK.out _ _ ?_ (fun hHeld => ?_)
        · (try dsimp only)
          first | assumption
        clear hK K
        (try simp only [Act.put, List.setIfInBounds_toArray, List.set_cons_zero, List.set_cons_succ])
        refine wpAnyH_ready (rs := [15]) (by kernel_rfl) (by simp) ?_
        refine AllReadyH.cons (o := { dst := some 41, op := Go.Op.convert 33 33 (Go.Operand.tmp 40), type := 33, pos := "law.go:55", after := #[{ on := 14, ground := Go.Ground.data }, { on := 11, ground := Go.Ground.guard }], guard := some (11, true) }) rfl (fun K hK => ?_) AllReadyH.nil
        (refine step_convB (by kernel_rfl) (.tmp 40) rfl g14 1 1 1 rfl hq14_35 ?_; obtain ⟨v_36, hy⟩ : ∃ q, v_35.freeze ⟨g14, 1, none⟩ 1 = q := ⟨_, rfl⟩; rw [hy]; have hO : Own g14 v_35 v_36 := (by rw [← hy]; exact Own.frz _ _ _ _); have hS_36 := hS_35.trans (hO.below hl14 hS_35.size); have hb14_36 := hb14_35.frz ⟨g14, 1, none⟩ 1; rw [hy] at hb14_36; have hb18_36 := hb18_35.frz ⟨g14, 1, none⟩ 1; rw [hy] at hb18_36; (try clear hO); (try clear hy); (try clear hl14); (try clear hb14_35); (try clear hq14_35); (try clear hb18_35); (try clear hS_35); skip)
        refine hK.out _ _ ?_ (fun hHeld => ?_)
        · (try dsimp only)
          first | assumption
        clear hK K
        (try simp only [Act.put, List.setIfInBounds_toArray, List.set_cons_zero, List.set_cons_succ])
        (try clear hHeld)
        (try clear hne)
        (try clear hl14)
        revert hS_36
        revert hb18_36
        revert hb14_36
        revert hc18
        revert c18
        revert o18
        revert g17
        revert g16
        revert g14
        revert v_36
        exact key0
      refine AllReadyH.cons (o := { dst := some 43, op := Go.Op.buildSlice 33 1 #[(0, Go.Operand.const (Go.Value.int Go.IntKind.u8 97))], type := 33, pos := "law.go:55", after := #[{ on := 11, ground := Go.Ground.guard }], guard := some (11, true) }) rfl (fun K hK => ?_) AllReadyH.nil
      go_simp
      (obtain ⟨v_37, hy⟩ : ∃ q, v_27.alloc (.cells #[.int .u8 97] 5) = q := ⟨_, rfl⟩; rw [hy]; have hb : Below v_27.heap.size v_27 v_37 := (by rw [← hy]; exact (Below.refl _ _).alloc (Nat.le_refl _) _); have hS_37 := hS_27.trans (hb.mono hS_27.size); have hG_37 := hG_27.later hb; have hb17_37 : Bytes v_37 (some ⟨v_27.heap.size, 0, none⟩) 1 (fun _ => 97) := (by rw [← hy]; exact one_byte (by decide)); (try clear hb); (try clear hy); (try clear hG_27); (try clear hS_27); obtain ⟨g17, hg⟩ : ∃ q, v_27.heap.size = q := ⟨_, rfl⟩; rw [hg] at hb17_37 ⊢; clear hg; skip)
      (try go_wp2_with fail)
      refine hK.out _ _ ?_ (fun hHeld => ?_)
      · (try dsimp only)
        first | assumption
      clear hK K
      (try simp only [Act.put, List.setIfInBounds_toArray, List.set_cons_zero, List.set_cons_succ])
      refine wpAnyH_ready (rs := [14, 18]) (by kernel_rfl) (by simp) ?_
      refine AllReadyH.cons (o := { dst := some 40, op := Go.Op.buildSlice 33 1 #[(0, Go.Operand.const (Go.Value.int Go.IntKind.u8 107))], type := 33, pos := "law.go:55", after := #[{ on := 11, ground := Go.Ground.guard }], guard := some (11, true) }) rfl (fun K hK => ?_) ?_
      · skip
        go_simp
        (obtain ⟨v_38, hy⟩ : ∃ q, v_37.alloc (.cells #[.int .u8 107] 5) = q := ⟨_, rfl⟩; rw [hy]; have hb : Below v_37.heap.size v_37 v_38 := (by rw [← hy]; exact (Below.refl _ _).alloc (Nat.le_refl _) _); have hS_38 := hS_37.trans (hb.mono hS_37.size); have hG_38 := hG_37.later hb; have hb17_38 := hb17_37.later hb; have hb14_38 : Bytes v_38 (some ⟨v_37.heap.size, 0, none⟩) 1 (fun _ => 107) := (by rw [← hy]; exact one_byte (by decide)); have hq14_38 : Shp v_38 v_37.heap.size 1 := (by rw [← hy]; exact Shp.blk (Blk.new _ #[.int .u8 107] _)); have hl14 : w7.heap.size ≤ v_37.heap.size := hS_37.size; have hne : g16 ≠ v_37.heap.size := Nat.ne_of_lt (hG_37.lt g16 rfl).2; (try clear hb); (try clear hy); (try clear hG_37); (try clear hb17_37); (try clear hS_37); obtain ⟨g14, hg⟩ : ∃ q, v_37.heap.size = q := ⟨_, rfl⟩; rw [hg] at hb14_38 hq14_38 hl14 hne ⊢; clear hg; skip)
        (try go_wp2_with fail)
        refine hK.out _ _ ?_ (fun hHeld => ?_)
        · (try dsimp only)
          first | assumption
        clear hK K
        (try simp only [Act.put, List.setIfInBounds_toArray, List.set_cons_zero, List.set_cons_succ])
        refine wpAnyH_ready (rs := [15, 18]) (by kernel_rfl) (by simp) ?_
        refine AllReadyH.cons (o := { dst := some 41, op := Go.Op.convert 33 33 (Go.Operand.tmp 40), type := 33, pos := "law.go:55", after := #[{ on := 14, ground := Go.Ground.data }, { on := 11, ground := Go.Ground.guard }], guard := some (11, true) }) rfl (fun K hK => ?_) ?_
        · skip
          (refine step_convB (by kernel_rfl) (.tmp 40) rfl g14 1 1 1 rfl hq14_38 ?_; obtain ⟨v_39, hy⟩ : ∃ q, v_38.freeze ⟨g14, 1, none⟩ 1 = q := ⟨_, rfl⟩; rw [hy]; have hO : Own g14 v_38 v_39 := (by rw [← hy]; exact Own.frz _ _ _ _); have hS_39 := hS_38.trans (hO.below hl14 hS_38.size); have hG_39 := hG_38.ownN hO (fun k hk => (by cases hk; exact hne)); have hb17_39 := hb17_38.frz ⟨g14, 1, none⟩ 1; rw [hy] at hb17_39; have hb14_39 := hb14_38.frz ⟨g14, 1, none⟩ 1; rw [hy] at hb14_39; (try clear hO); (try clear hy); (try clear hl14); (try clear hG_38); (try clear hb17_38); (try clear hb14_38); (try clear hq14_38); (try clear hS_38); skip)
          refine hK.out _ _ ?_ (fun hHeld => ?_)
          · (try dsimp only)
            first | assumption
          clear hK K
          (try simp only [Act.put, List.setIfInBounds_toArray, List.set_cons_zero, List.set_cons_succ])
          refine wpAnyH_ready (rs := [18]) (by kernel_rfl) (by simp) ?_
          refine AllReadyH.cons (o := { dst := some 44, op := Go.Op.call { callee := Go.Callee.builtin Go.Builtin.append, args := #[Go.Operand.tmp 42, Go.Operand.tmp 43], argTypes := #[33, 33] }, type := 33, pos := "law.go:55", after := #[{ on := 16, ground := Go.Ground.data }, { on := 17, ground := Go.Ground.data }, { on := 11, ground := Go.Ground.chain }, { on := 11, ground := Go.Ground.guard }], guard := some (11, true) }) rfl (fun K hK => ?_) AllReadyH.nil
          (refine step_appG (by kernel_rfl) (.tmp 42) (.tmp 43) rfl w7.heap.size (.slice (some ⟨g16, 0, none⟩) 32 32) 32 1 1 (some ⟨g17, 0, none⟩) (fun _ => 0) (fun _ => 97) v_39 rfl hG_39 rfl (fun e => by cases e) hb17_39 (by decide) hS_39.size ?_; intro v9 v_40 hG9 hg9 hob9; have hS_40 := hS_39.trans (grow_bel hG_39 hS_39.size hg9); have hO : Own g16 v_39 v_40 := own_of_grown hg9; have hb14_40 := hb14_39.own hO (fun a ha _ => (by cases ha; exact hne.symm)); obtain ⟨o18, c18, hv9, hb18_40, hc18, hn18⟩ := hG9.bytesC (catF_b (n := 32) (m := 1) (fun _ _ => by decide) (fun _ _ => by decide)); subst hv9; (try clear hG9); (try clear hg9); (try clear hob9); (try clear hO); (try clear hn18); (try clear hne); (try clear hG_39); (try clear hb17_39); (try clear hb14_39); (try clear hS_39); skip)
          refine hK.out _ _ ?_ (fun hHeld => ?_)
          · (try dsimp only)
            first | assumption
          clear hK K
          (try simp only [Act.put, List.setIfInBounds_toArray, List.set_cons_zero, List.set_cons_succ])
          (try clear hHeld)
          (try clear hne)
          (try clear hl14)
          revert hS_40
          revert hb18_40
          revert hb14_40
          revert hc18
          revert c18
          revert o18
          revert g17
          revert g16
          revert g14
          revert v_40
          exact key0
        refine AllReadyH.cons (o := { dst := some 44, op := Go.Op.call { callee := Go.Callee.builtin Go.Builtin.append, args := #[Go.Operand.tmp 42, Go.Operand.tmp 43], argTypes := #[33, 33] }, type := 33, pos := "law.go:55", after := #[{ on := 16, ground := Go.Ground.data }, { on := 17, ground := Go.Ground.data }, { on := 11, ground := Go.Ground.chain }, { on := 11, ground := Go.Ground.guard }], guard := some (11, true) }) rfl (fun K hK => ?_) AllReadyH.nil
        (refine step_appG (by kernel_rfl) (.tmp 42) (.tmp 43) rfl w7.heap.size (.slice (some ⟨g16, 0, none⟩) 32 32) 32 1 1 (some ⟨g17, 0, none⟩) (fun _ => 0) (fun _ => 97) v_38 rfl hG_38 rfl (fun e => by cases e) hb17_38 (by decide) hS_38.size ?_; intro v9 v_41 hG9 hg9 hob9; have hS_41 := hS_38.trans (grow_bel hG_38 hS_38.size hg9); have hO : Own g16 v_38 v_41 := own_of_grown hg9; have hb14_41 := hb14_38.own hO (fun a ha _ => (by cases ha; exact hne.symm)); have hq14_41 := hq14_38.own hO hne.symm; obtain ⟨o18, c18, hv9, hb18_41, hc18, hn18⟩ := hG9.bytesC (catF_b (n := 32) (m := 1) (fun _ _ => by decide) (fun _ _ => by decide)); subst hv9; (try clear hG9); (try clear hg9); (try clear hob9); (try clear hO); (try clear hn18); (try clear hne); (try clear hG_38); (try clear hb17_38); (try clear hb14_38); (try clear hq14_38); (try clear hS_38); skip)
        refine hK.out _ _ ?_ (fun hHeld => ?_)
        · (try dsimp only)
          first | assumption
        clear hK K
        (try simp only [Act.put, List.setIfInBounds_toArray, List.set_cons_zero, List.set_cons_succ])
        refine wpAnyH_ready (rs := [15]) (by kernel_rfl) (by simp) ?_
        refine AllReadyH.cons (o := { dst := some 41, op := Go.Op.convert 33 33 (Go.Operand.tmp 40), type := 33, pos := "law.go:55", after := #[{ on := 14, ground := Go.Ground.data }, { on := 11, ground := Go.Ground.guard }], guard := some (11, true) }) rfl (fun K hK => ?_) AllReadyH.nil
        (refine step_convB (by kernel_rfl) (.tmp 40) rfl g14 1 1 1 rfl hq14_41 ?_; obtain ⟨v_42, hy⟩ : ∃ q, v_41.freeze ⟨g14, 1, none⟩ 1 = q := ⟨_, rfl⟩; rw [hy]; have hO : Own g14 v_41 v_42 := (by rw [← hy]; exact Own.frz _ _ _ _); have hS_42 := hS_41.trans (hO.below hl14 hS_41.size); have hb14_42 := hb14_41.frz ⟨g14, 1, none⟩ 1; rw [hy] at hb14_42; have hb18_42 := hb18_41.frz ⟨g14, 1, none⟩ 1; rw [hy] at hb18_42; (try clear hO); (try clear hy); (try clear hl14); (try clear hb14_41); (try clear hq14_41); (try clear hb18_41); (try clear hS_41); skip)
        refine hK.out _ _ ?_ (fun hHeld => ?_)
        · (try dsimp only)
          first | assumption
        clear hK K
        (try simp only [Act.put, List.setIfInBounds_toArray, List.set_cons_zero, List.set_cons_succ])
        (try clear hHeld)
        (try clear hne)
        (try clear hl14)
        revert hS_42
        revert hb18_42
        revert hb14_42
        revert hc18
        revert c18
        revert o18
        revert g17
        revert g16
        revert g14
        revert v_42
        exact key0
      refine AllReadyH.cons (o := { dst := some 44, op := Go.Op.call { callee := Go.Callee.builtin Go.Builtin.append, args := #[Go.Operand.tmp 42, Go.Operand.tmp 43], argTypes := #[33, 33] }, type := 33, pos := "law.go:55", after := #[{ on := 16, ground := Go.Ground.data }, { on := 17, ground := Go.Ground.data }, { on := 11, ground := Go.Ground.chain }, { on := 11, ground := Go.Ground.guard }], guard := some (11, true) }) rfl (fun K hK => ?_) AllReadyH.nil
      (refine step_appG (by kernel_rfl) (.tmp 42) (.tmp 43) rfl w7.heap.size (.slice (some ⟨g16, 0, none⟩) 32 32) 32 1 1 (some ⟨g17, 0, none⟩) (fun _ => 0) (fun _ => 97) v_37 rfl hG_37 rfl (fun e => by cases e) hb17_37 (by decide) hS_37.size ?_; intro v9 v_43 hG9 hg9 hob9; have hS_43 := hS_37.trans (grow_bel hG_37 hS_37.size hg9); have hO : Own g16 v_37 v_43 := own_of_grown hg9; obtain ⟨o18, c18, hv9, hb18_43, hc18, hn18⟩ := hG9.bytesC (catF_b (n := 32) (m := 1) (fun _ _ => by decide) (fun _ _ => by decide)); subst hv9; (try clear hG9); (try clear hg9); (try clear hob9); (try clear hO); (try clear hn18); (try clear hG_37); (try clear hb17_37); (try clear hS_37); skip)
      refine hK.out _ _ ?_ (fun hHeld => ?_)
      · (try dsimp only)
        first | assumption
      clear hK K
      (try simp only [Act.put, List.setIfInBounds_toArray, List.set_cons_zero, List.set_cons_succ])
      refine wpAnyH_ready (rs := [14]) (by kernel_rfl) (by simp) ?_
      refine AllReadyH.cons (o := { dst := some 40, op := Go.Op.buildSlice 33 1 #[(0, Go.Operand.const (Go.Value.int Go.IntKind.u8 107))], type := 33, pos := "law.go:55", after := #[{ on := 11, ground := Go.Ground.guard }], guard := some (11, true) }) rfl (fun K hK => ?_) AllReadyH.nil
      go_simp
      (obtain ⟨v_44, hy⟩ : ∃ q, v_43.alloc (.cells #[.int .u8 107] 5) = q := ⟨_, rfl⟩; rw [hy]; have hb : Below v_43.heap.size v_43 v_44 := (by rw [← hy]; exact (Below.refl _ _).alloc (Nat.le_refl _) _); have hS_44 := hS_43.trans (hb.mono hS_43.size); have hb18_44 := hb18_43.later hb; have hb14_44 : Bytes v_44 (some ⟨v_43.heap.size, 0, none⟩) 1 (fun _ => 107) := (by rw [← hy]; exact one_byte (by decide)); have hq14_44 : Shp v_44 v_43.heap.size 1 := (by rw [← hy]; exact Shp.blk (Blk.new _ #[.int .u8 107] _)); have hl14 : w7.heap.size ≤ v_43.heap.size := hS_43.size; (try clear hb); (try clear hy); (try clear hb18_43); (try clear hS_43); obtain ⟨g14, hg⟩ : ∃ q, v_43.heap.size = q := ⟨_, rfl⟩; rw [hg] at hb14_44 hq14_44 hl14 ⊢; clear hg; skip)
      (try go_wp2_with fail)
      refine hK.out _ _ ?_ (fun hHeld => ?_)
      · (try dsimp only)
        first | assumption
      clear hK K
      (try simp only [Act.put, List.setIfInBounds_toArray, List.set_cons_zero, List.set_cons_succ])
      refine wpAnyH_ready (rs := [15]) (by kernel_rfl) (by simp) ?_
      refine AllReadyH.cons (o := { dst := some 41, op := Go.Op.convert 33 33 (Go.Operand.tmp 40), type := 33, pos := "law.go:55", after := #[{ on := 14, ground := Go.Ground.data }, { on := 11, ground := Go.Ground.guard }], guard := some (11, true) }) rfl (fun K hK => ?_) AllReadyH.nil
      (refine step_convB (by kernel_rfl) (.tmp 40) rfl g14 1 1 1 rfl hq14_44 ?_; obtain ⟨v_45, hy⟩ : ∃ q, v_44.freeze ⟨g14, 1, none⟩ 1 = q := ⟨_, rfl⟩; rw [hy]; have hO : Own g14 v_44 v_45 := (by rw [← hy]; exact Own.frz _ _ _ _); have hS_45 := hS_44.trans (hO.below hl14 hS_44.size); have hb18_45 := hb18_44.frz ⟨g14, 1, none⟩ 1; rw [hy] at hb18_45; have hb14_45 := hb14_44.frz ⟨g14, 1, none⟩ 1; rw [hy] at hb14_45; (try clear hO); (try clear hy); (try clear hl14); (try clear hb18_44); (try clear hb14_44); (try clear hq14_44); (try clear hS_44); skip)
      refine hK.out _ _ ?_ (fun hHeld => ?_)
      · (try dsimp only)
        first | assumption
      clear hK K
      (try simp only [Act.put, List.setIfInBounds_toArray, List.set_cons_zero, List.set_cons_succ])
      (try clear hHeld)
      (try clear hne)
      (try clear hl14)
      revert hS_45
      revert hb18_45
      revert hb14_45
      revert hc18
      revert c18
      revert o18
      revert g17
      revert g16
      revert g14
      revert v_45
      exact key0
    refine AllReadyH.cons (o := { dst := some 43, op := Go.Op.buildSlice 33 1 #[(0, Go.Operand.const (Go.Value.int Go.IntKind.u8 97))], type := 33, pos := "law.go:55", after := #[{ on := 11, ground := Go.Ground.guard }], guard := some (11, true) }) rfl (fun K hK => ?_) AllReadyH.nil
    go_simp
    (obtain ⟨v_46, hy⟩ : ∃ q, W0.alloc (.cells #[.int .u8 97] 5) = q := ⟨_, rfl⟩; rw [hy]; have hb : Below W0.heap.size W0 v_46 := (by rw [← hy]; exact (Below.refl _ _).alloc (Nat.le_refl _) _); have hS_46 := hS_0.trans (hb.mono hS_0.size); have hb17_46 : Bytes v_46 (some ⟨W0.heap.size, 0, none⟩) 1 (fun _ => 97) := (by rw [← hy]; exact one_byte (by decide)); (try clear hb); (try clear hy); (try clear hS_0); obtain ⟨g17, hg⟩ : ∃ q, W0.heap.size = q := ⟨_, rfl⟩; rw [hg] at hb17_46 ⊢; clear hg; skip)
    (try go_wp2_with fail)
    refine hK.out _ _ ?_ (fun hHeld => ?_)
    · (try dsimp only)
      first | assumption
    clear hK K
    (try simp only [Act.put, List.setIfInBounds_toArray, List.set_cons_zero, List.set_cons_succ])
    refine wpAnyH_ready (rs := [14, 16]) (by kernel_rfl) (by simp) ?_
    refine AllReadyH.cons (o := { dst := some 40, op := Go.Op.buildSlice 33 1 #[(0, Go.Operand.const (Go.Value.int Go.IntKind.u8 107))], type := 33, pos := "law.go:55", after := #[{ on := 11, ground := Go.Ground.guard }], guard := some (11, true) }) rfl (fun K hK => ?_) ?_
    · skip
      go_simp
      (obtain ⟨v_47, hy⟩ : ∃ q, v_46.alloc (.cells #[.int .u8 107] 5) = q := ⟨_, rfl⟩; rw [hy]; have hb : Below v_46.heap.size v_46 v_47 := (by rw [← hy]; exact (Below.refl _ _).alloc (Nat.le_refl _) _); have hS_47 := hS_46.trans (hb.mono hS_46.size); have hb17_47 := hb17_46.later hb; have hb14_47 : Bytes v_47 (some ⟨v_46.heap.size, 0, none⟩) 1 (fun _ => 107) := (by rw [← hy]; exact one_byte (by decide)); have hq14_47 : Shp v_47 v_46.heap.size 1 := (by rw [← hy]; exact Shp.blk (Blk.new _ #[.int .u8 107] _)); have hl14 : w7.heap.size ≤ v_46.heap.size := hS_46.size; (try clear hb); (try clear hy); (try clear hb17_46); (try clear hS_46); obtain ⟨g14, hg⟩ : ∃ q, v_46.heap.size = q := ⟨_, rfl⟩; rw [hg] at hb14_47 hq14_47 hl14 ⊢; clear hg; skip)
      (try go_wp2_with fail)
      refine hK.out _ _ ?_ (fun hHeld => ?_)
      · (try dsimp only)
        first | assumption
      clear hK K
      (try simp only [Act.put, List.setIfInBounds_toArray, List.set_cons_zero, List.set_cons_succ])
      refine wpAnyH_ready (rs := [15, 16]) (by kernel_rfl) (by simp) ?_
      refine AllReadyH.cons (o := { dst := some 41, op := Go.Op.convert 33 33 (Go.Operand.tmp 40), type := 33, pos := "law.go:55", after := #[{ on := 14, ground := Go.Ground.data }, { on := 11, ground := Go.Ground.guard }], guard := some (11, true) }) rfl (fun K hK => ?_) ?_
      · skip
        (refine step_convB (by kernel_rfl) (.tmp 40) rfl g14 1 1 1 rfl hq14_47 ?_; obtain ⟨v_48, hy⟩ : ∃ q, v_47.freeze ⟨g14, 1, none⟩ 1 = q := ⟨_, rfl⟩; rw [hy]; have hO : Own g14 v_47 v_48 := (by rw [← hy]; exact Own.frz _ _ _ _); have hS_48 := hS_47.trans (hO.below hl14 hS_47.size); have hb17_48 := hb17_47.frz ⟨g14, 1, none⟩ 1; rw [hy] at hb17_48; have hb14_48 := hb14_47.frz ⟨g14, 1, none⟩ 1; rw [hy] at hb14_48; (try clear hO); (try clear hy); (try clear hl14); (try clear hb17_47); (try clear hb14_47); (try clear hq14_47); (try clear hS_47); skip)
        refine hK.out _ _ ?_ (fun hHeld => ?_)
        · (try dsimp only)
          first | assumption
        clear hK K
        (try simp only [Act.put, List.setIfInBounds_toArray, List.set_cons_zero, List.set_cons_succ])
        refine wpAnyH_ready (rs := [16]) (by kernel_rfl) (by simp) ?_
        refine AllReadyH.cons (o := { dst := some 42, op := Go.Op.makeSlice 33 (Go.Operand.const (Go.Value.int Go.IntKind.i64 32)) (Go.Operand.const (Go.Value.int Go.IntKind.i64 32)), type := 33, pos := "law.go:55", after := #[{ on := 11, ground := Go.Ground.guard }], guard := some (11, true) }) rfl (fun K hK => ?_) AllReadyH.nil
        (refine step_makeG (by kernel_rfl) (.const (.int .i64 32)) (.const (.int .i64 32)) rfl 32 rfl rfl (by decide) ?_; obtain ⟨v_49, hy⟩ : ∃ q, v_48.alloc (.cells (rowC 32 (fun _ => 0)).toArray 5) = q := ⟨_, rfl⟩; rw [hy]; have hb : Below v_48.heap.size v_48 v_49 := (by rw [← hy]; exact (Below.refl _ _).alloc (Nat.le_refl _) _); have hS_49 := hS_48.trans (hb.mono hS_48.size); have hb17_49 := hb17_48.later hb; have hb14_49 := hb14_48.later hb; have hG_49 : Grow v_49 w7.heap.size (.slice (some ⟨v_48.heap.size, 0, none⟩) 32 32) 32 (fun _ => 0) := (Grow.of_row (by rw [← hy]; exact row_new v_48 32 (fun _ => 0)) (by decide)).base hS_48.size; have hne : v_48.heap.size ≠ g14 := Nat.ne_of_gt (hb14_48.lt _ rfl (by decide)); (try clear hb); (try clear hy); (try clear hb17_48); (try clear hb14_48); (try clear hS_48); obtain ⟨g16, hg⟩ : ∃ q, v_48.heap.size = q := ⟨_, rfl⟩; rw [hg] at hG_49 hne ⊢; clear hg; skip)
        refine hK.out _ _ ?_ (fun hHeld => ?_)
        · (try dsimp only)
          first | assumption
        clear hK K
        (try simp only [Act.put, List.setIfInBounds_toArray, List.set_cons_zero, List.set_cons_succ])
        refine wpAnyH_ready (rs := [18]) (by kernel_rfl) (by simp) ?_
        refine AllReadyH.cons (o := { dst := some 44, op := Go.Op.call { callee := Go.Callee.builtin Go.Builtin.append, args := #[Go.Operand.tmp 42, Go.Operand.tmp 43], argTypes := #[33, 33] }, type := 33, pos := "law.go:55", after := #[{ on := 16, ground := Go.Ground.data }, { on := 17, ground := Go.Ground.data }, { on := 11, ground := Go.Ground.chain }, { on := 11, ground := Go.Ground.guard }], guard := some (11, true) }) rfl (fun K hK => ?_) AllReadyH.nil
        (refine step_appG (by kernel_rfl) (.tmp 42) (.tmp 43) rfl w7.heap.size (.slice (some ⟨g16, 0, none⟩) 32 32) 32 1 1 (some ⟨g17, 0, none⟩) (fun _ => 0) (fun _ => 97) v_49 rfl hG_49 rfl (fun e => by cases e) hb17_49 (by decide) hS_49.size ?_; intro v9 v_50 hG9 hg9 hob9; have hS_50 := hS_49.trans (grow_bel hG_49 hS_49.size hg9); have hO : Own g16 v_49 v_50 := own_of_grown hg9; have hb14_50 := hb14_49.own hO (fun a ha _ => (by cases ha; exact hne.symm)); obtain ⟨o18, c18, hv9, hb18_50, hc18, hn18⟩ := hG9.bytesC (catF_b (n := 32) (m := 1) (fun _ _ => by decide) (fun _ _ => by decide)); subst hv9; (try clear hG9); (try clear hg9); (try clear hob9); (try clear hO); (try clear hn18); (try clear hne); (try clear hb17_49); (try clear hb14_49); (try clear hG_49); (try clear hS_49); skip)
        refine hK.out _ _ ?_ (fun hHeld => ?_)
        · (try dsimp only)
          first | assumption
        clear hK K
        (try simp only [Act.put, List.setIfInBounds_toArray, List.set_cons_zero, List.set_cons_succ])
        (try clear hHeld)
        (try clear hne)
        (try clear hl14)
        revert hS_50
        revert hb18_50
        revert hb14_50
        revert hc18
        revert c18
        revert o18
        revert g17
        revert g16
        revert g14
        revert v_50
        exact key0
      refine AllReadyH.cons (o := { dst := some 42, op := Go.Op.makeSlice 33 (Go.Operand.const (Go.Value.int Go.IntKind.i64 32)) (Go.Operand.const (Go.Value.int Go.IntKind.i64 32)), type := 33, pos := "law.go:55", after := #[{ on := 11, ground := Go.Ground.guard }], guard := some (11, true) }) rfl (fun K hK => ?_) AllReadyH.nil
      (refine step_makeG (by kernel_rfl) (.const (.int .i64 32)) (.const (.int .i64 32)) rfl 32 rfl rfl (by decide) ?_; obtain ⟨v_51, hy⟩ : ∃ q, v_47.alloc (.cells (rowC 32 (fun _ => 0)).toArray 5) = q := ⟨_, rfl⟩; rw [hy]; have hb : Below v_47.heap.size v_47 v_51 := (by rw [← hy]; exact (Below.refl _ _).alloc (Nat.le_refl _) _); have hS_51 := hS_47.trans (hb.mono hS_47.size); have hb17_51 := hb17_47.later hb; have hb14_51 := hb14_47.later hb; have hq14_51 := hq14_47.later hb; have hG_51 : Grow v_51 w7.heap.size (.slice (some ⟨v_47.heap.size, 0, none⟩) 32 32) 32 (fun _ => 0) := (Grow.of_row (by rw [← hy]; exact row_new v_47 32 (fun _ => 0)) (by decide)).base hS_47.size; have hne : v_47.heap.size ≠ g14 := Nat.ne_of_gt (hb14_47.lt _ rfl (by decide)); (try clear hb); (try clear hy); (try clear hb17_47); (try clear hb14_47); (try clear hq14_47); (try clear hS_47); obtain ⟨g16, hg⟩ : ∃ q, v_47.heap.size = q := ⟨_, rfl⟩; rw [hg] at hG_51 hne ⊢; clear hg; skip)
      refine hK.out _ _ ?_ (fun hHeld => ?_)
      · (try dsimp only)
        first | assumption
      clear hK K
      (try simp only [Act.put, List.setIfInBounds_toArray, List.set_cons_zero, List.set_cons_succ])
      refine wpAnyH_ready (rs := [15, 18]) (by kernel_rfl) (by simp) ?_
      refine AllReadyH.cons (o := { dst := some 41, op := Go.Op.convert 33 33 (Go.Operand.tmp 40), type := 33, pos := "law.go:55", after := #[{ on := 14, ground := Go.Ground.data }, { on := 11, ground := Go.Ground.guard }], guard := some (11, true) }) rfl (fun K hK => ?_) ?_
      · skip
        (refine step_convB (by kernel_rfl) (.tmp 40) rfl g14 1 1 1 rfl hq14_51 ?_; obtain ⟨v_52, hy⟩ : ∃ q, v_51.freeze ⟨g14, 1, none⟩ 1 = q := ⟨_, rfl⟩; rw [hy]; have hO : Own g14 v_51 v_52 := (by rw [← hy]; exact Own.frz _ _ _ _); have hS_52 := hS_51.trans (hO.below hl14 hS_51.size); have hb17_52 := hb17_51.frz ⟨g14, 1, none⟩ 1; rw [hy] at hb17_52; have hb14_52 := hb14_51.frz ⟨g14, 1, none⟩ 1; rw [hy] at hb14_52; have hG_52 := hG_51.ownN hO (fun k hk => (by cases hk; exact hne)); (try clear hO); (try clear hy); (try clear hl14); (try clear hb17_51); (try clear hb14_51); (try clear hq14_51); (try clear hG_51); (try clear hS_51); skip)
        refine hK.out _ _ ?_ (fun hHeld => ?_)
        · (try dsimp only)
          first | assumption
        clear hK K
        (try simp only [Act.put, List.setIfInBounds_toArray, List.set_cons_zero, List.set_cons_succ])
        refine wpAnyH_ready (rs := [18]) (by kernel_rfl) (by simp) ?_
        refine AllReadyH.cons (o := { dst := some 44, op := Go.Op.call { callee := Go.Callee.builtin Go.Builtin.append, args := #[Go.Operand.tmp 42, Go.Operand.tmp 43], argTypes := #[33, 33] }, type := 33, pos := "law.go:55", after := #[{ on := 16, ground := Go.Ground.data }, { on := 17, ground := Go.Ground.data }, { on := 11, ground := Go.Ground.chain }, { on := 11, ground := Go.Ground.guard }], guard := some (11, true) }) rfl (fun K hK => ?_) AllReadyH.nil
        (refine step_appG (by kernel_rfl) (.tmp 42) (.tmp 43) rfl w7.heap.size (.slice (some ⟨g16, 0, none⟩) 32 32) 32 1 1 (some ⟨g17, 0, none⟩) (fun _ => 0) (fun _ => 97) v_52 rfl hG_52 rfl (fun e => by cases e) hb17_52 (by decide) hS_52.size ?_; intro v9 v_53 hG9 hg9 hob9; have hS_53 := hS_52.trans (grow_bel hG_52 hS_52.size hg9); have hO : Own g16 v_52 v_53 := own_of_grown hg9; have hb14_53 := hb14_52.own hO (fun a ha _ => (by cases ha; exact hne.symm)); obtain ⟨o18, c18, hv9, hb18_53, hc18, hn18⟩ := hG9.bytesC (catF_b (n := 32) (m := 1) (fun _ _ => by decide) (fun _ _ => by decide)); subst hv9; (try clear hG9); (try clear hg9); (try clear hob9); (try clear hO); (try clear hn18); (try clear hne); (try clear hb17_52); (try clear hb14_52); (try clear hG_52); (try clear hS_52); skip)
        refine hK.out _ _ ?_ (fun hHeld => ?_)
        · (try dsimp only)
          first | assumption
        clear hK K
        (try simp only [Act.put, List.setIfInBounds_toArray, List.set_cons_zero, List.set_cons_succ])
        (try clear hHeld)
        (try clear hne)
        (try clear hl14)
        revert hS_53
        revert hb18_53
        revert hb14_53
        revert hc18
        revert c18
        revert o18
        revert g17
        revert g16
        revert g14
        revert v_53
        exact key0
      refine AllReadyH.cons (o := { dst := some 44, op := Go.Op.call { callee := Go.Callee.builtin Go.Builtin.append, args := #[Go.Operand.tmp 42, Go.Operand.tmp 43], argTypes := #[33, 33] }, type := 33, pos := "law.go:55", after := #[{ on := 16, ground := Go.Ground.data }, { on := 17, ground := Go.Ground.data }, { on := 11, ground := Go.Ground.chain }, { on := 11, ground := Go.Ground.guard }], guard := some (11, true) }) rfl (fun K hK => ?_) AllReadyH.nil
      (refine step_appG (by kernel_rfl) (.tmp 42) (.tmp 43) rfl w7.heap.size (.slice (some ⟨g16, 0, none⟩) 32 32) 32 1 1 (some ⟨g17, 0, none⟩) (fun _ => 0) (fun _ => 97) v_51 rfl hG_51 rfl (fun e => by cases e) hb17_51 (by decide) hS_51.size ?_; intro v9 v_54 hG9 hg9 hob9; have hS_54 := hS_51.trans (grow_bel hG_51 hS_51.size hg9); have hO : Own g16 v_51 v_54 := own_of_grown hg9; have hb14_54 := hb14_51.own hO (fun a ha _ => (by cases ha; exact hne.symm)); have hq14_54 := hq14_51.own hO hne.symm; obtain ⟨o18, c18, hv9, hb18_54, hc18, hn18⟩ := hG9.bytesC (catF_b (n := 32) (m := 1) (fun _ _ => by decide) (fun _ _ => by decide)); subst hv9; (try clear hG9); (try clear hg9); (try clear hob9); (try clear hO); (try clear hn18); (try clear hne); (try clear hb17_51); (try clear hb14_51); (try clear hq14_51); (try clear hG_51); (try clear hS_51); skip)
      refine hK.out _ _ ?_ (fun hHeld => ?_)
      · (try dsimp only)
        first | assumption
      clear hK K
      (try simp only [Act.put, List.setIfInBounds_toArray, List.set_cons_zero, List.set_cons_succ])
      refine wpAnyH_ready (rs := [15]) (by kernel_rfl) (by simp) ?_
      refine AllReadyH.cons (o := { dst := some 41, op := Go.Op.convert 33 33 (Go.Operand.tmp 40), type := 33, pos := "law.go:55", after := #[{ on := 14, ground := Go.Ground.data }, { on := 11, ground := Go.Ground.guard }], guard := some (11, true) }) rfl (fun K hK => ?_) AllReadyH.nil
      (refine step_convB (by kernel_rfl) (.tmp 40) rfl g14 1 1 1 rfl hq14_54 ?_; obtain ⟨v_55, hy⟩ : ∃ q, v_54.freeze ⟨g14, 1, none⟩ 1 = q := ⟨_, rfl⟩; rw [hy]; have hO : Own g14 v_54 v_55 := (by rw [← hy]; exact Own.frz _ _ _ _); have hS_55 := hS_54.trans (hO.below hl14 hS_54.size); have hb14_55 := hb14_54.frz ⟨g14, 1, none⟩ 1; rw [hy] at hb14_55; have hb18_55 := hb18_54.frz ⟨g14, 1, none⟩ 1; rw [hy] at hb18_55; (try clear hO); (try clear hy); (try clear hl14); (try clear hb14_54); (try clear hq14_54); (try clear hb18_54); (try clear hS_54); skip)
      refine hK.out _ _ ?_ (fun hHeld => ?_)
      · (try dsimp only)
        first | assumption
      clear hK K
      (try simp only [Act.put, List.setIfInBounds_toArray, List.set_cons_zero, List.set_cons_succ])
      (try clear hHeld)
      (try clear hne)
      (try clear hl14)
      revert hS_55
      revert hb18_55
      revert hb14_55
      revert hc18
      revert c18
      revert o18
      revert g17
      revert g16
      revert g14
      revert v_55
      exact key0
    refine AllReadyH.cons (o := { dst := some 42, op := Go.Op.makeSlice 33 (Go.Operand.const (Go.Value.int Go.IntKind.i64 32)) (Go.Operand.const (Go.Value.int Go.IntKind.i64 32)), type := 33, pos := "law.go:55", after := #[{ on := 11, ground := Go.Ground.guard }], guard := some (11, true) }) rfl (fun K hK => ?_) AllReadyH.nil
    (refine step_makeG (by kernel_rfl) (.const (.int .i64 32)) (.const (.int .i64 32)) rfl 32 rfl rfl (by decide) ?_; obtain ⟨v_56, hy⟩ : ∃ q, v_46.alloc (.cells (rowC 32 (fun _ => 0)).toArray 5) = q := ⟨_, rfl⟩; rw [hy]; have hb : Below v_46.heap.size v_46 v_56 := (by rw [← hy]; exact (Below.refl _ _).alloc (Nat.le_refl _) _); have hS_56 := hS_46.trans (hb.mono hS_46.size); have hb17_56 := hb17_46.later hb; have hG_56 : Grow v_56 w7.heap.size (.slice (some ⟨v_46.heap.size, 0, none⟩) 32 32) 32 (fun _ => 0) := (Grow.of_row (by rw [← hy]; exact row_new v_46 32 (fun _ => 0)) (by decide)).base hS_46.size; (try clear hb); (try clear hy); (try clear hb17_46); (try clear hS_46); obtain ⟨g16, hg⟩ : ∃ q, v_46.heap.size = q := ⟨_, rfl⟩; rw [hg] at hG_56 ⊢; clear hg; skip)
    refine hK.out _ _ ?_ (fun hHeld => ?_)
    · (try dsimp only)
      first | assumption
    clear hK K
    (try simp only [Act.put, List.setIfInBounds_toArray, List.set_cons_zero, List.set_cons_succ])
    refine wpAnyH_ready (rs := [14, 18]) (by kernel_rfl) (by simp) ?_
    refine AllReadyH.cons (o := { dst := some 40, op := Go.Op.buildSlice 33 1 #[(0, Go.Operand.const (Go.Value.int Go.IntKind.u8 107))], type := 33, pos := "law.go:55", after := #[{ on := 11, ground := Go.Ground.guard }], guard := some (11, true) }) rfl (fun K hK => ?_) ?_
    · skip
      go_simp
      (obtain ⟨v_57, hy⟩ : ∃ q, v_56.alloc (.cells #[.int .u8 107] 5) = q := ⟨_, rfl⟩; rw [hy]; have hb : Below v_56.heap.size v_56 v_57 := (by rw [← hy]; exact (Below.refl _ _).alloc (Nat.le_refl _) _); have hS_57 := hS_56.trans (hb.mono hS_56.size); have hb17_57 := hb17_56.later hb; have hG_57 := hG_56.later hb; have hb14_57 : Bytes v_57 (some ⟨v_56.heap.size, 0, none⟩) 1 (fun _ => 107) := (by rw [← hy]; exact one_byte (by decide)); have hq14_57 : Shp v_57 v_56.heap.size 1 := (by rw [← hy]; exact Shp.blk (Blk.new _ #[.int .u8 107] _)); have hl14 : w7.heap.size ≤ v_56.heap.size := hS_56.size; have hne : g16 ≠ v_56.heap.size := Nat.ne_of_lt (hG_56.lt g16 rfl).2; (try clear hb); (try clear hy); (try clear hb17_56); (try clear hG_56); (try clear hS_56); obtain ⟨g14, hg⟩ : ∃ q, v_56.heap.size = q := ⟨_, rfl⟩; rw [hg] at hb14_57 hq14_57 hl14 hne ⊢; clear hg; skip)
      (try go_wp2_with fail)
      refine hK.out _ _ ?_ (fun hHeld => ?_)
      · (try dsimp only)
        first | assumption
      clear hK K
      (try simp only [Act.put, List.setIfInBounds_toArray, List.set_cons_zero, List.set_cons_succ])
      refine wpAnyH_ready (rs := [15, 18]) (by kernel_rfl) (by simp) ?_
      refine AllReadyH.cons (o := { dst := some 41, op := Go.Op.convert 33 33 (Go.Operand.tmp 40), type := 33, pos := "law.go:55", after := #[{ on := 14, ground := Go.Ground.data }, { on := 11, ground := Go.Ground.guard }], guard := some (11, true) }) rfl (fun K hK => ?_) ?_
      · skip
        (refine step_convB (by kernel_rfl) (.tmp 40) rfl g14 1 1 1 rfl hq14_57 ?_; obtain ⟨v_58, hy⟩ : ∃ q, v_57.freeze ⟨g14, 1, none⟩ 1 = q := ⟨_, rfl⟩; rw [hy]; have hO : Own g14 v_57 v_58 := (by rw [← hy]; exact Own.frz _ _ _ _); have hS_58 := hS_57.trans (hO.below hl14 hS_57.size); have hb17_58 := hb17_57.frz ⟨g14, 1, none⟩ 1; rw [hy] at hb17_58; have hG_58 := hG_57.ownN hO (fun k hk => (by cases hk; exact hne)); have hb14_58 := hb14_57.frz ⟨g14, 1, none⟩ 1; rw [hy] at hb14_58; (try clear hO); (try clear hy); (try clear hl14); (try clear hb17_57); (try clear hG_57); (try clear hb14_57); (try clear hq14_57); (try clear hS_57); skip)
        refine hK.out _ _ ?_ (fun hHeld => ?_)
        · (try dsimp only)
          first | assumption
        clear hK K
        (try simp only [Act.put, List.setIfInBounds_toArray, List.set_cons_zero, List.set_cons_succ])
        refine wpAnyH_ready (rs := [18]) (by kernel_rfl) (by simp) ?_
        refine AllReadyH.cons (o := { dst := some 44, op := Go.Op.call { callee := Go.Callee.builtin Go.Builtin.append, args := #[Go.Operand.tmp 42, Go.Operand.tmp 43], argTypes := #[33, 33] }, type := 33, pos := "law.go:55", after := #[{ on := 16, ground := Go.Ground.data }, { on := 17, ground := Go.Ground.data }, { on := 11, ground := Go.Ground.chain }, { on := 11, ground := Go.Ground.guard }], guard := some (11, true) }) rfl (fun K hK => ?_) AllReadyH.nil
        (refine step_appG (by kernel_rfl) (.tmp 42) (.tmp 43) rfl w7.heap.size (.slice (some ⟨g16, 0, none⟩) 32 32) 32 1 1 (some ⟨g17, 0, none⟩) (fun _ => 0) (fun _ => 97) v_58 rfl hG_58 rfl (fun e => by cases e) hb17_58 (by decide) hS_58.size ?_; intro v9 v_59 hG9 hg9 hob9; have hS_59 := hS_58.trans (grow_bel hG_58 hS_58.size hg9); have hO : Own g16 v_58 v_59 := own_of_grown hg9; have hb14_59 := hb14_58.own hO (fun a ha _ => (by cases ha; exact hne.symm)); obtain ⟨o18, c18, hv9, hb18_59, hc18, hn18⟩ := hG9.bytesC (catF_b (n := 32) (m := 1) (fun _ _ => by decide) (fun _ _ => by decide)); subst hv9; (try clear hG9); (try clear hg9); (try clear hob9); (try clear hO); (try clear hn18); (try clear hne); (try clear hb17_58); (try clear hG_58); (try clear hb14_58); (try clear hS_58); skip)
        refine hK.out _ _ ?_ (fun hHeld => ?_)
        · (try dsimp only)
          first | assumption
        clear hK K
        (try simp only [Act.put, List.setIfInBounds_toArray, List.set_cons_zero, List.set_cons_succ])
        (try clear hHeld)
        (try clear hne)
        (try clear hl14)
        revert hS_59
        revert hb18_59
        revert hb14_59
        revert hc18
        revert c18
        revert o18
        revert g17
        revert g16
        revert g14
        revert v_59
        exact key0
      refine AllReadyH.cons (o := { dst := some 44, op := Go.Op.call { callee := Go.Callee.builtin Go.Builtin.append, args := #[Go.Operand.tmp 42, Go.Operand.tmp 43], argTypes := #[33, 33] }, type := 33, pos := "law.go:55", after := #[{ on := 16, ground := Go.Ground.data }, { on := 17, ground := Go.Ground.data }, { on := 11, ground := Go.Ground.chain }, { on := 11, ground := Go.Ground.guard }], guard := some (11, true) }) rfl (fun K hK => ?_) AllReadyH.nil
      (refine step_appG (by kernel_rfl) (.tmp 42) (.tmp 43) rfl w7.heap.size (.slice (some ⟨g16, 0, none⟩) 32 32) 32 1 1 (some ⟨g17, 0, none⟩) (fun _ => 0) (fun _ => 97) v_57 rfl hG_57 rfl (fun e => by cases e) hb17_57 (by decide) hS_57.size ?_; intro v9 v_60 hG9 hg9 hob9; have hS_60 := hS_57.trans (grow_bel hG_57 hS_57.size hg9); have hO : Own g16 v_57 v_60 := own_of_grown hg9; have hb14_60 := hb14_57.own hO (fun a ha _ => (by cases ha; exact hne.symm)); have hq14_60 := hq14_57.own hO hne.symm; obtain ⟨o18, c18, hv9, hb18_60, hc18, hn18⟩ := hG9.bytesC (catF_b (n := 32) (m := 1) (fun _ _ => by decide) (fun _ _ => by decide)); subst hv9; (try clear hG9); (try clear hg9); (try clear hob9); (try clear hO); (try clear hn18); (try clear hne); (try clear hb17_57); (try clear hG_57); (try clear hb14_57); (try clear hq14_57); (try clear hS_57); skip)
      refine hK.out _ _ ?_ (fun hHeld => ?_)
      · (try dsimp only)
        first | assumption
      clear hK K
      (try simp only [Act.put, List.setIfInBounds_toArray, List.set_cons_zero, List.set_cons_succ])
      refine wpAnyH_ready (rs := [15]) (by kernel_rfl) (by simp) ?_
      refine AllReadyH.cons (o := { dst := some 41, op := Go.Op.convert 33 33 (Go.Operand.tmp 40), type := 33, pos := "law.go:55", after := #[{ on := 14, ground := Go.Ground.data }, { on := 11, ground := Go.Ground.guard }], guard := some (11, true) }) rfl (fun K hK => ?_) AllReadyH.nil
      (refine step_convB (by kernel_rfl) (.tmp 40) rfl g14 1 1 1 rfl hq14_60 ?_; obtain ⟨v_61, hy⟩ : ∃ q, v_60.freeze ⟨g14, 1, none⟩ 1 = q := ⟨_, rfl⟩; rw [hy]; have hO : Own g14 v_60 v_61 := (by rw [← hy]; exact Own.frz _ _ _ _); have hS_61 := hS_60.trans (hO.below hl14 hS_60.size); have hb14_61 := hb14_60.frz ⟨g14, 1, none⟩ 1; rw [hy] at hb14_61; have hb18_61 := hb18_60.frz ⟨g14, 1, none⟩ 1; rw [hy] at hb18_61; (try clear hO); (try clear hy); (try clear hl14); (try clear hb14_60); (try clear hq14_60); (try clear hb18_60); (try clear hS_60); skip)
      refine hK.out _ _ ?_ (fun hHeld => ?_)
      · (try dsimp only)
        first | assumption
      clear hK K
      (try simp only [Act.put, List.setIfInBounds_toArray, List.set_cons_zero, List.set_cons_succ])
      (try clear hHeld)
      (try clear hne)
      (try clear hl14)
      revert hS_61
      revert hb18_61
      revert hb14_61
      revert hc18
      revert c18
      revert o18
      revert g17
      revert g16
      revert g14
      revert v_61
      exact key0
    refine AllReadyH.cons (o := { dst := some 44, op := Go.Op.call { callee := Go.Callee.builtin Go.Builtin.append, args := #[Go.Operand.tmp 42, Go.Operand.tmp 43], argTypes := #[33, 33] }, type := 33, pos := "law.go:55", after := #[{ on := 16, ground := Go.Ground.data }, { on := 17, ground := Go.Ground.data }, { on := 11, ground := Go.Ground.chain }, { on := 11, ground := Go.Ground.guard }], guard := some (11, true) }) rfl (fun K hK => ?_) AllReadyH.nil
    (refine step_appG (by kernel_rfl) (.tmp 42) (.tmp 43) rfl w7.heap.size (.slice (some ⟨g16, 0, none⟩) 32 32) 32 1 1 (some ⟨g17, 0, none⟩) (fun _ => 0) (fun _ => 97) v_56 rfl hG_56 rfl (fun e => by cases e) hb17_56 (by decide) hS_56.size ?_; intro v9 v_62 hG9 hg9 hob9; have hS_62 := hS_56.trans (grow_bel hG_56 hS_56.size hg9); have hO : Own g16 v_56 v_62 := own_of_grown hg9; obtain ⟨o18, c18, hv9, hb18_62, hc18, hn18⟩ := hG9.bytesC (catF_b (n := 32) (m := 1) (fun _ _ => by decide) (fun _ _ => by decide)); subst hv9; (try clear hG9); (try clear hg9); (try clear hob9); (try clear hO); (try clear hn18); (try clear hb17_56); (try clear hG_56); (try clear hS_56); skip)
    refine hK.out _ _ ?_ (fun hHeld => ?_)
    · (try dsimp only)
      first | assumption
    clear hK K
    (try simp only [Act.put, List.setIfInBounds_toArray, List.set_cons_zero, List.set_cons_succ])
    refine wpAnyH_ready (rs := [14]) (by kernel_rfl) (by simp) ?_
    refine AllReadyH.cons (o := { dst := some 40, op := Go.Op.buildSlice 33 1 #[(0, Go.Operand.const (Go.Value.int Go.IntKind.u8 107))], type := 33, pos := "law.go:55", after := #[{ on := 11, ground := Go.Ground.guard }], guard := some (11, true) }) rfl (fun K hK => ?_) AllReadyH.nil
    go_simp
    (obtain ⟨v_63, hy⟩ : ∃ q, v_62.alloc (.cells #[.int .u8 107] 5) = q := ⟨_, rfl⟩; rw [hy]; have hb : Below v_62.heap.size v_62 v_63 := (by rw [← hy]; exact (Below.refl _ _).alloc (Nat.le_refl _) _); have hS_63 := hS_62.trans (hb.mono hS_62.size); have hb18_63 := hb18_62.later hb; have hb14_63 : Bytes v_63 (some ⟨v_62.heap.size, 0, none⟩) 1 (fun _ => 107) := (by rw [← hy]; exact one_byte (by decide)); have hq14_63 : Shp v_63 v_62.heap.size 1 := (by rw [← hy]; exact Shp.blk (Blk.new _ #[.int .u8 107] _)); have hl14 : w7.heap.size ≤ v_62.heap.size := hS_62.size; (try clear hb); (try clear hy); (try clear hb18_62); (try clear hS_62); obtain ⟨g14, hg⟩ : ∃ q, v_62.heap.size = q := ⟨_, rfl⟩; rw [hg] at hb14_63 hq14_63 hl14 ⊢; clear hg; skip)
    (try go_wp2_with fail)
    refine hK.out _ _ ?_ (fun hHeld => ?_)
    · (try dsimp only)
      first | assumption
    clear hK K
    (try simp only [Act.put, List.setIfInBounds_toArray, List.set_cons_zero, List.set_cons_succ])
    refine wpAnyH_ready (rs := [15]) (by kernel_rfl) (by simp) ?_
    refine AllReadyH.cons (o := { dst := some 41, op := Go.Op.convert 33 33 (Go.Operand.tmp 40), type := 33, pos := "law.go:55", after := #[{ on := 14, ground := Go.Ground.data }, { on := 11, ground := Go.Ground.guard }], guard := some (11, true) }) rfl (fun K hK => ?_) AllReadyH.nil
    (refine step_convB (by kernel_rfl) (.tmp 40) rfl g14 1 1 1 rfl hq14_63 ?_; obtain ⟨v_64, hy⟩ : ∃ q, v_63.freeze ⟨g14, 1, none⟩ 1 = q := ⟨_, rfl⟩; rw [hy]; have hO : Own g14 v_63 v_64 := (by rw [← hy]; exact Own.frz _ _ _ _); have hS_64 := hS_63.trans (hO.below hl14 hS_63.size); have hb18_64 := hb18_63.frz ⟨g14, 1, none⟩ 1; rw [hy] at hb18_64; have hb14_64 := hb14_63.frz ⟨g14, 1, none⟩ 1; rw [hy] at hb14_64; (try clear hO); (try clear hy); (try clear hl14); (try clear hb18_63); (try clear hb14_63); (try clear hq14_63); (try clear hS_63); skip)
    refine hK.out _ _ ?_ (fun hHeld => ?_)
    · (try dsimp only)
      first | assumption
    clear hK K
    (try simp only [Act.put, List.setIfInBounds_toArray, List.set_cons_zero, List.set_cons_succ])
    (try clear hHeld)
    (try clear hne)
    (try clear hl14)
    revert hS_64
    revert hb18_64
    revert hb14_64
    revert hc18
    revert c18
    revert o18
    revert g17
    revert g16
    revert g14
    revert v_64
    exact key0
  · intro W_J0 g14 g16 g17 o18 c18 hc18 hb14_J0 hb18_J0 hS_J0
    refine wpAnyH_ready (rs := [19]) (by kernel_rfl) (by simp) ?_
    refine AllReadyH.cons (o := { dst := some 45, op := Go.Op.call { callee := Go.Callee.value (Go.Operand.func 40), args := #[Go.Operand.tmp 41, Go.Operand.tmp 44], argTypes := #[33, 33] }, type := 63, pos := "law.go:55", after := #[{ on := 15, ground := Go.Ground.data }, { on := 18, ground := Go.Ground.data }, { on := 18, ground := Go.Ground.chain }, { on := 11, ground := Go.Ground.guard }], guard := some (11, true) }) rfl (fun K hK => ?_) AllReadyH.nil
    go_simp
    (refine (HMC.out _ _ _ _ hb14_J0 hb18_J0 hc18 (HCG.out _ hS_J0)).mono ?_; rintro e v_65 ⟨rfl, hb⟩; have hS_65 := hS_J0.trans (hb.mono hS_J0.size); (try clear hb); (try clear hb14_J0); (try clear hb18_J0); (try clear hS_J0); skip)
    (try go_wp2_with fail)
    refine hK.out _ _ ?_ (fun hHeld => ?_)
    · (try dsimp only)
      first | assumption
    clear hK K
    (try simp only [Act.put, List.setIfInBounds_toArray, List.set_cons_zero, List.set_cons_succ])
    refine wpAnyH_take (i := 20) (oi := { dst := some 46, op := Go.Op.binOp Go.BinOp.eql 63 (Go.Operand.tmp 39) (Go.Operand.tmp 45) 63, type := 4, pos := "law.go:55", after := #[{ on := 13, ground := Go.Ground.data }, { on := 19, ground := Go.Ground.data }, { on := 11, ground := Go.Ground.guard }], guard := some (11, true) }) (v := ?_) rfl (by kernel_rfl) (by kernel_rfl) (by kernel_rfl) (fun _ _ _ h => h) (Or.inl ⟨by rfl, ?_⟩) (by assumption) ?_
    rotate_left
    · intro wS hSw
      refine exec_eql32 (r := 63) (x := .tmp 39) (y := .tmp 45) ?_ ?_ ?_ HEN2.out <;> rfl
    (try simp only [Act.put, List.setIfInBounds_toArray, List.set_cons_zero, List.set_cons_succ])
    refine wpAnyH_take (i := 21) (oi := { dst := some 47, op := Go.Op.pick (Go.Operand.tmp 37) (Go.Operand.tmp 46) (Go.Operand.const (Go.Value.bool false)), type := 4, pos := "law.go:55", after := #[{ on := 11, ground := Go.Ground.data }, { on := 20, ground := Go.Ground.data }], guard := none }) (v := ?_) rfl (by kernel_rfl) (by kernel_rfl) (by kernel_rfl) (fun _ _ _ h => h) (Or.inl ⟨by rfl, ?_⟩) (by assumption) ?_
    rotate_left
    · intro wS hSw
      (try dsimp only at hSw)
      go_simp
      (try with_reducible rfl)
    (try simp only [Act.put, List.setIfInBounds_toArray, List.set_cons_zero, List.set_cons_succ])
    refine wpAnyH_take (i := 22) (oi := { dst := some 48, op := Go.Op.move (Go.Operand.tmp 47), type := 4, pos := "law.go:55", after := #[{ on := 21, ground := Go.Ground.data }, { on := 19, ground := Go.Ground.chain }], guard := none }) (v := ?_) rfl (by kernel_rfl) (by kernel_rfl) (by kernel_rfl) (fun _ _ _ h => h) (Or.inl ⟨by rfl, ?_⟩) (by assumption) ?_
    rotate_left
    · intro wS hSw
      (try dsimp only at hSw)
      go_simp
      (try with_reducible rfl)
    (try simp only [Act.put, List.setIfInBounds_toArray, List.set_cons_zero, List.set_cons_succ])
    refine wpAnyH_take (i := 23) (oi := { dst := some 49, op := Go.Op.load 65 (Go.Operand.tmp 3), type := 65, pos := "law.go:55", after := #[{ on := 22, ground := Go.Ground.guard }], guard := some (22, true) }) (v := ?_) rfl (by kernel_rfl) (by kernel_rfl) (by kernel_rfl) (fun _ _ _ h => h) (Or.inl ⟨by rfl, ?_⟩) (by assumption) ?_
    rotate_left
    · intro wS hSw
      refine exec_loadB (x := .tmp 3) (g := g2) (t := 65) ?_ ?_ (Blk.below HB2.out hSw (Blk.lt HB2.out)) Tryd.underlying65 rfl HIH.out <;> rfl
    (try simp only [Act.put, List.setIfInBounds_toArray, List.set_cons_zero, List.set_cons_succ])
    refine wpAnyH_take (i := 24) (oi := { dst := some 50, op := Go.Op.load 65 (Go.Operand.tmp 1), type := 65, pos := "law.go:55", after := #[{ on := 22, ground := Go.Ground.guard }], guard := some (22, true) }) (v := ?_) rfl (by kernel_rfl) (by kernel_rfl) (by kernel_rfl) (fun _ _ _ h => h) (Or.inl ⟨by rfl, ?_⟩) (by assumption) ?_
    rotate_left
    · intro wS hSw
      refine exec_loadB (x := .tmp 1) (g := g1) (t := 65) ?_ ?_ (Blk.below HB1.out hSw (Blk.lt HB1.out)) Tryd.underlying65 rfl HIH.out <;> rfl
    (try simp only [Act.put, List.setIfInBounds_toArray, List.set_cons_zero, List.set_cons_succ])
    refine wpAnyH_take (i := 25) (oi := { dst := some 51, op := Go.Op.binOp Go.BinOp.eql 65 (Go.Operand.tmp 49) (Go.Operand.tmp 50) 65, type := 4, pos := "law.go:55", after := #[{ on := 23, ground := Go.Ground.data }, { on := 24, ground := Go.Ground.data }, { on := 22, ground := Go.Ground.guard }], guard := some (22, true) }) (v := ?_) rfl (by kernel_rfl) (by kernel_rfl) (by kernel_rfl) (fun _ _ _ h => h) (Or.inl ⟨by rfl, ?_⟩) (by assumption) ?_
    rotate_left
    · intro wS hSw
      refine exec_eqlM (r := 65) (x := .tmp 49) (y := .tmp 50) guard_h1 ?_ ?_ ?_ HEH.out <;> rfl
    (try simp only [Act.put, List.setIfInBounds_toArray, List.set_cons_zero, List.set_cons_succ])
    refine wpAnyH_take (i := 26) (oi := { dst := some 52, op := Go.Op.pick (Go.Operand.tmp 48) (Go.Operand.tmp 51) (Go.Operand.const (Go.Value.bool false)), type := 4, pos := "law.go:55", after := #[{ on := 22, ground := Go.Ground.data }, { on := 25, ground := Go.Ground.data }], guard := none }) (v := ?_) rfl (by kernel_rfl) (by kernel_rfl) (by kernel_rfl) (fun _ _ _ h => h) (Or.inl ⟨by rfl, ?_⟩) (by assumption) ?_
    rotate_left
    · intro wS hSw
      (try dsimp only at hSw)
      go_simp
      (try with_reducible rfl)
    (try simp only [Act.put, List.setIfInBounds_toArray, List.set_cons_zero, List.set_cons_succ])
    refine wpAnyH_take (i := 27) (oi := { dst := some 53, op := Go.Op.move (Go.Operand.tmp 52), type := 4, pos := "law.go:55", after := #[{ on := 26, ground := Go.Ground.data }, { on := 22, ground := Go.Ground.chain }], guard := none }) (v := ?_) rfl (by kernel_rfl) (by kernel_rfl) (by kernel_rfl) (fun _ _ _ h => h) (Or.inl ⟨by rfl, ?_⟩) (by assumption) ?_
    rotate_left
    · intro wS hSw
      (try dsimp only at hSw)
      go_simp
      (try with_reducible rfl)
    (try simp only [Act.put, List.setIfInBounds_toArray, List.set_cons_zero, List.set_cons_succ])
    refine wpAnyH_take (i := 28) (oi := { dst := some 54, op := Go.Op.move (Go.Operand.tmp 6), type := 41, pos := "law.go:55", after := #[{ on := 27, ground := Go.Ground.guard }], guard := some (27, true) }) (v := ?_) rfl (by kernel_rfl) (by kernel_rfl) (by kernel_rfl) (fun _ _ _ h => h) (Or.inl ⟨by rfl, ?_⟩) (by assumption) ?_
    rotate_left
    · intro wS hSw
      (try dsimp only at hSw)
      go_simp
      (try with_reducible rfl)
    (try simp only [Act.put, List.setIfInBounds_toArray, List.set_cons_zero, List.set_cons_succ])
    refine wpAnyH_ready (rs := [29]) (by kernel_rfl) (by simp) ?_
    refine AllReadyH.cons (o := { dst := some 55, op := Go.Op.call { callee := Go.Callee.value (Go.Operand.func 45), args := #[Go.Operand.tmp 54], argTypes := #[41] }, type := 3, pos := "law.go:55", after := #[{ on := 28, ground := Go.Ground.data }, { on := 27, ground := Go.Ground.chain }, { on := 27, ground := Go.Ground.guard }], guard := some (27, true) }) rfl (fun K hK => ?_) AllReadyH.nil
    go_simp
    (refine (num_err34 4 _ (HCG.out _ hS_65).1).mono ?_; rintro e v_66 ⟨rfl, hb⟩; have hS_66 := hS_65.trans (hb.mono hS_65.size); (try clear hb); (try clear hS_65); skip)
    (try go_wp2_with fail)
    refine hK.out _ _ ?_ (fun hHeld => ?_)
    · (try dsimp only)
      first | assumption
    clear hK K
    (try simp only [Act.put, List.setIfInBounds_toArray, List.set_cons_zero, List.set_cons_succ])
    refine wpAnyH_take (i := 30) (oi := { dst := some 56, op := Go.Op.binOp Go.BinOp.eql 3 (Go.Operand.tmp 55) (Go.Operand.const (Go.Value.int Go.IntKind.i64 4)) 3, type := 4, pos := "law.go:55", after := #[{ on := 29, ground := Go.Ground.data }, { on := 27, ground := Go.Ground.guard }], guard := some (27, true) }) (v := ?_) rfl (by kernel_rfl) (by kernel_rfl) (by kernel_rfl) (fun _ _ _ h => h) (Or.inl ⟨by rfl, ?_⟩) (by assumption) ?_
    rotate_left
    · intro wS hSw
      (try dsimp only at hSw)
      go_simp
      (try with_reducible rfl)
    (try simp only [Act.put, List.setIfInBounds_toArray, List.set_cons_zero, List.set_cons_succ])
    refine wpAnyH_take (i := 31) (oi := { dst := some 57, op := Go.Op.pick (Go.Operand.tmp 53) (Go.Operand.tmp 56) (Go.Operand.const (Go.Value.bool false)), type := 4, pos := "law.go:55", after := #[{ on := 27, ground := Go.Ground.data }, { on := 30, ground := Go.Ground.data }], guard := none }) (v := ?_) rfl (by kernel_rfl) (by kernel_rfl) (by kernel_rfl) (fun _ _ _ h => h) (Or.inl ⟨by rfl, ?_⟩) (by assumption) ?_
    rotate_left
    · intro wS hSw
      (try dsimp only at hSw)
      go_simp
      (try with_reducible rfl)
    (try simp only [Act.put, List.setIfInBounds_toArray, List.set_cons_zero, List.set_cons_succ])
    refine wpAnyH_take (i := 32) (oi := { dst := some 58, op := Go.Op.move (Go.Operand.tmp 57), type := 4, pos := "law.go:55", after := #[{ on := 31, ground := Go.Ground.data }, { on := 29, ground := Go.Ground.chain }], guard := none }) (v := ?_) rfl (by kernel_rfl) (by kernel_rfl) (by kernel_rfl) (fun _ _ _ h => h) (Or.inl ⟨by rfl, ?_⟩) (by assumption) ?_
    rotate_left
    · intro wS hSw
      (try dsimp only at hSw)
      go_simp
      (try with_reducible rfl)
    (try simp only [Act.put, List.setIfInBounds_toArray, List.set_cons_zero, List.set_cons_succ])
    refine wpAnyH_take (i := 38) (oi := { dst := some 64, op := Go.Op.load 65 (Go.Operand.tmp 1), type := 65, pos := "law.go:55", after := #[{ on := 32, ground := Go.Ground.guard }], guard := some (32, true) }) (v := ?_) rfl (by kernel_rfl) (by kernel_rfl) (by kernel_rfl) (fun _ _ _ h => h) (Or.inl ⟨by rfl, ?_⟩) (by assumption) ?_
    rotate_left
    · intro wS hSw
      refine exec_loadB (x := .tmp 1) (g := g1) (t := 65) ?_ ?_ (Blk.below HB1.out hSw (Blk.lt HB1.out)) Tryd.underlying65 rfl HIH.out <;> rfl
    (try simp only [Act.put, List.setIfInBounds_toArray, List.set_cons_zero, List.set_cons_succ])
    apply join_lem
    · intro key1
      refine wpAnyH_ready (rs := [33, 35]) (by kernel_rfl) (by simp) ?_
      refine AllReadyH.cons (o := { dst := some 59, op := Go.Op.buildSlice 33 1 #[(0, Go.Operand.const (Go.Value.int Go.IntKind.u8 107))], type := 33, pos := "law.go:55", after := #[{ on := 32, ground := Go.Ground.guard }], guard := some (32, true) }) rfl (fun K hK => ?_) ?_
      · skip
        go_simp
        (obtain ⟨v_67, hy⟩ : ∃ q, v_66.alloc (.cells #[.int .u8 107] 5) = q := ⟨_, rfl⟩; rw [hy]; have hb : Below v_66.heap.size v_66 v_67 := (by rw [← hy]; exact (Below.refl _ _).alloc (Nat.le_refl _) _); have hS_67 := hS_66.trans (hb.mono hS_66.size); have hb33_67 : Bytes v_67 (some ⟨v_66.heap.size, 0, none⟩) 1 (fun _ => 107) := (by rw [← hy]; exact one_byte (by decide)); have hq33_67 : Shp v_67 v_66.heap.size 1 := (by rw [← hy]; exact Shp.blk (Blk.new _ #[.int .u8 107] _)); have hl33 : w7.heap.size ≤ v_66.heap.size := hS_66.size; (try clear hb); (try clear hy); (try clear hS_66); obtain ⟨g33, hg⟩ : ∃ q, v_66.heap.size = q := ⟨_, rfl⟩; rw [hg] at hb33_67 hq33_67 hl33 ⊢; clear hg; skip)
        (try go_wp2_with fail)
        refine hK.out _ _ ?_ (fun hHeld => ?_)
        · (try dsimp only)
          first | assumption
        clear hK K
        (try simp only [Act.put, List.setIfInBounds_toArray, List.set_cons_zero, List.set_cons_succ])
        refine wpAnyH_ready (rs := [34, 35]) (by kernel_rfl) (by simp) ?_
        refine AllReadyH.cons (o := { dst := some 60, op := Go.Op.convert 33 33 (Go.Operand.tmp 59), type := 33, pos := "law.go:55", after := #[{ on := 33, ground := Go.Ground.data }, { on := 32, ground := Go.Ground.guard }], guard := some (32, true) }) rfl (fun K hK => ?_) ?_
        · skip
          (refine step_convB (by kernel_rfl) (.tmp 59) rfl g33 1 1 1 rfl hq33_67 ?_; obtain ⟨v_68, hy⟩ : ∃ q, v_67.freeze ⟨g33, 1, none⟩ 1 = q := ⟨_, rfl⟩; rw [hy]; have hO : Own g33 v_67 v_68 := (by rw [← hy]; exact Own.frz _ _ _ _); have hS_68 := hS_67.trans (hO.below hl33 hS_67.size); have hb33_68 := hb33_67.frz ⟨g33, 1, none⟩ 1; rw [hy] at hb33_68; (try clear hO); (try clear hy); (try clear hl33); (try clear hb33_67); (try clear hq33_67); (try clear hS_67); skip)
          refine hK.out _ _ ?_ (fun hHeld => ?_)
          · (try dsimp only)
            first | assumption
          clear hK K
          (try simp only [Act.put, List.setIfInBounds_toArray, List.set_cons_zero, List.set_cons_succ])
          refine wpAnyH_ready (rs := [35]) (by kernel_rfl) (by simp) ?_
          refine AllReadyH.cons (o := { dst := some 61, op := Go.Op.buildSlice 33 1 #[(0, Go.Operand.const (Go.Value.int Go.IntKind.u8 97))], type := 33, pos := "law.go:55", after := #[{ on := 32, ground := Go.Ground.guard }], guard := some (32, true) }) rfl (fun K hK => ?_) AllReadyH.nil
          go_simp
          (obtain ⟨v_69, hy⟩ : ∃ q, v_68.alloc (.cells #[.int .u8 97] 5) = q := ⟨_, rfl⟩; rw [hy]; have hb : Below v_68.heap.size v_68 v_69 := (by rw [← hy]; exact (Below.refl _ _).alloc (Nat.le_refl _) _); have hS_69 := hS_68.trans (hb.mono hS_68.size); have hb33_69 := hb33_68.later hb; have hb35_69 : Bytes v_69 (some ⟨v_68.heap.size, 0, none⟩) 1 (fun _ => 97) := (by rw [← hy]; exact one_byte (by decide)); have hq35_69 : Shp v_69 v_68.heap.size 1 := (by rw [← hy]; exact Shp.blk (Blk.new _ #[.int .u8 97] _)); have hl35 : w7.heap.size ≤ v_68.heap.size := hS_68.size; (try clear hb); (try clear hy); (try clear hb33_68); (try clear hS_68); obtain ⟨g35, hg⟩ : ∃ q, v_68.heap.size = q := ⟨_, rfl⟩; rw [hg] at hb35_69 hq35_69 hl35 ⊢; clear hg; skip)
          (try go_wp2_with fail)
          refine hK.out _ _ ?_ (fun hHeld => ?_)
          · (try dsimp only)
            first | assumption
          clear hK K
          (try simp only [Act.put, List.setIfInBounds_toArray, List.set_cons_zero, List.set_cons_succ])
          refine wpAnyH_ready (rs := [36]) (by kernel_rfl) (by simp) ?_
          refine AllReadyH.cons (o := { dst := some 62, op := Go.Op.convert 33 33 (Go.Operand.tmp 61), type := 33, pos := "law.go:55", after := #[{ on := 35, ground := Go.Ground.data }, { on := 32, ground := Go.Ground.guard }], guard := some (32, true) }) rfl (fun K hK => ?_) AllReadyH.nil
          (refine step_convB (by kernel_rfl) (.tmp 61) rfl g35 1 1 1 rfl hq35_69 ?_; obtain ⟨v_70, hy⟩ : ∃ q, v_69.freeze ⟨g35, 1, none⟩ 1 = q := ⟨_, rfl⟩; rw [hy]; have hO : Own g35 v_69 v_70 := (by rw [← hy]; exact Own.frz _ _ _ _); have hS_70 := hS_69.trans (hO.below hl35 hS_69.size); have hb33_70 := hb33_69.frz ⟨g35, 1, none⟩ 1; rw [hy] at hb33_70; have hb35_70 := hb35_69.frz ⟨g35, 1, none⟩ 1; rw [hy] at hb35_70; (try clear hO); (try clear hy); (try clear hl35); (try clear hb33_69); (try clear hb35_69); (try clear hq35_69); (try clear hS_69); skip)
          refine hK.out _ _ ?_ (fun hHeld => ?_)
          · (try dsimp only)
            first | assumption
          clear hK K
          (try simp only [Act.put, List.setIfInBounds_toArray, List.set_cons_zero, List.set_cons_succ])
          refine wpAnyH_ready (rs := [37]) (by kernel_rfl) (by simp) ?_
          refine AllReadyH.cons (o := { dst := some 63, op := Go.Op.buildSlice 34 1 #[(0, Go.Operand.tmp 62)], type := 34, pos := "law.go:55", after := #[{ on := 36, ground := Go.Ground.data }, { on := 32, ground := Go.Ground.guard }], guard := some (32, true) }) rfl (fun K hK => ?_) AllReadyH.nil
          go_simp
          (obtain ⟨v_71, hy⟩ : ∃ q, v_70.alloc (.cells #[.slice (some ⟨g35, 0, none⟩) 1 1] 33) = q := ⟨_, rfl⟩; rw [hy]; have hb : Below v_70.heap.size v_70 v_71 := (by rw [← hy]; exact (Below.refl _ _).alloc (Nat.le_refl _) _); have hS_71 := hS_70.trans (hb.mono hS_70.size); have hb33_71 := hb33_70.later hb; have hb35_71 := hb35_70.later hb; have hL37_71 : LBs v_71 (some ⟨v_70.heap.size, 0, none⟩) 1 (fun _ => 1) (fun _ _ => 97) := lbs_one (by rw [← hy]; exact Blk.new _ _ _) (Nat.le_refl _) (by unfold maxLen; decide) hb35_71; (try clear hb); (try clear hy); (try clear hb35_71); (try clear hb33_70); (try clear hb35_70); (try clear hS_70); obtain ⟨g37, hg⟩ : ∃ q, v_70.heap.size = q := ⟨_, rfl⟩; rw [hg] at hL37_71 ⊢; clear hg; skip)
          (try go_wp2_with fail)
          refine hK.out _ _ ?_ (fun hHeld => ?_)
          · (try dsimp only)
            first | assumption
          clear hK K
          (try simp only [Act.put, List.setIfInBounds_toArray, List.set_cons_zero, List.set_cons_succ])
          (try clear hHeld)
          (try clear hl33)
          (try clear hl35)
          revert hS_71
          revert hL37_71
          revert hb33_71
          revert g37
          revert g35
          revert g33
          revert v_71
          exact key1
        refine AllReadyH.cons (o := { dst := some 61, op := Go.Op.buildSlice 33 1 #[(0, Go.Operand.const (Go.Value.int Go.IntKind.u8 97))], type := 33, pos := "law.go:55", after := #[{ on := 32, ground := Go.Ground.guard }], guard := some (32, true) }) rfl (fun K hK => ?_) AllReadyH.nil
        go_simp
        (obtain ⟨v_72, hy⟩ : ∃ q, v_67.alloc (.cells #[.int .u8 97] 5) = q := ⟨_, rfl⟩; rw [hy]; have hb : Below v_67.heap.size v_67 v_72 := (by rw [← hy]; exact (Below.refl _ _).alloc (Nat.le_refl _) _); have hS_72 := hS_67.trans (hb.mono hS_67.size); have hb33_72 := hb33_67.later hb; have hq33_72 := hq33_67.later hb; have hb35_72 : Bytes v_72 (some ⟨v_67.heap.size, 0, none⟩) 1 (fun _ => 97) := (by rw [← hy]; exact one_byte (by decide)); have hq35_72 : Shp v_72 v_67.heap.size 1 := (by rw [← hy]; exact Shp.blk (Blk.new _ #[.int .u8 97] _)); have hl35 : w7.heap.size ≤ v_67.heap.size := hS_67.size; (try clear hb); (try clear hy); (try clear hb33_67); (try clear hq33_67); (try clear hS_67); obtain ⟨g35, hg⟩ : ∃ q, v_67.heap.size = q := ⟨_, rfl⟩; rw [hg] at hb35_72 hq35_72 hl35 ⊢; clear hg; skip)
        (try go_wp2_with fail)
        refine hK.out _ _ ?_ (fun hHeld => ?_)
        · (try dsimp only)
          first | assumption
        clear hK K
        (try simp only [Act.put, List.setIfInBounds_toArray, List.set_cons_zero, List.set_cons_succ])
        refine wpAnyH_ready (rs := [34, 36]) (by kernel_rfl) (by simp) ?_
        refine AllReadyH.cons (o := { dst := some 60, op := Go.Op.convert 33 33 (Go.Operand.tmp 59), type := 33, pos := "law.go:55", after := #[{ on := 33, ground := Go.Ground.data }, { on := 32, ground := Go.Ground.guard }], guard := some (32, true) }) rfl (fun K hK => ?_) ?_
        · skip
          (refine step_convB (by kernel_rfl) (.tmp 59) rfl g33 1 1 1 rfl hq33_72 ?_; obtain ⟨v_73, hy⟩ : ∃ q, v_72.freeze ⟨g33, 1, none⟩ 1 = q := ⟨_, rfl⟩; rw [hy]; have hO : Own g33 v_72 v_73 := (by rw [← hy]; exact Own.frz _ _ _ _); have hS_73 := hS_72.trans (hO.below hl33 hS_72.size); have hb33_73 := hb33_72.frz ⟨g33, 1, none⟩ 1; rw [hy] at hb33_73; have hb35_73 := hb35_72.frz ⟨g33, 1, none⟩ 1; rw [hy] at hb35_73; have hq35_73 := hq35_72.frz ⟨g33, 1, none⟩ 1; rw [hy] at hq35_73; (try clear hO); (try clear hy); (try clear hl33); (try clear hb33_72); (try clear hq33_72); (try clear hb35_72); (try clear hq35_72); (try clear hS_72); skip)
          refine hK.out _ _ ?_ (fun hHeld => ?_)
          · (try dsimp only)
            first | assumption
          clear hK K
          (try simp only [Act.put, List.setIfInBounds_toArray, List.set_cons_zero, List.set_cons_succ])
          refine wpAnyH_ready (rs := [36]) (by kernel_rfl) (by simp) ?_
          refine AllReadyH.cons (o := { dst := some 62, op := Go.Op.convert 33 33 (Go.Operand.tmp 61), type := 33, pos := "law.go:55", after := #[{ on := 35, ground := Go.Ground.data }, { on := 32, ground := Go.Ground.guard }], guard := some (32, true) }) rfl (fun K hK => ?_) AllReadyH.nil
          (refine step_convB (by kernel_rfl) (.tmp 61) rfl g35 1 1 1 rfl hq35_73 ?_; obtain ⟨v_74, hy⟩ : ∃ q, v_73.freeze ⟨g35, 1, none⟩ 1 = q := ⟨_, rfl⟩; rw [hy]; have hO : Own g35 v_73 v_74 := (by rw [← hy]; exact Own.frz _ _ _ _); have hS_74 := hS_73.trans (hO.below hl35 hS_73.size); have hb33_74 := hb33_73.frz ⟨g35, 1, none⟩ 1; rw [hy] at hb33_74; have hb35_74 := hb35_73.frz ⟨g35, 1, none⟩ 1; rw [hy] at hb35_74; (try clear hO); (try clear hy); (try clear hl35); (try clear hb33_73); (try clear hb35_73); (try clear hq35_73); (try clear hS_73); skip)
          refine hK.out _ _ ?_ (fun hHeld => ?_)
          · (try dsimp only)
            first | assumption
          clear hK K
          (try simp only [Act.put, List.setIfInBounds_toArray, List.set_cons_zero, List.set_cons_succ])
          refine wpAnyH_ready (rs := [37]) (by kernel_rfl) (by simp) ?_
          refine AllReadyH.cons (o := { dst := some 63, op := Go.Op.buildSlice 34 1 #[(0, Go.Operand.tmp 62)], type := 34, pos := "law.go:55", after := #[{ on := 36, ground := Go.Ground.data }, { on := 32, ground := Go.Ground.guard }], guard := some (32, true) }) rfl (fun K hK => ?_) AllReadyH.nil
          go_simp
          (obtain ⟨v_75, hy⟩ : ∃ q, v_74.alloc (.cells #[.slice (some ⟨g35, 0, none⟩) 1 1] 33) = q := ⟨_, rfl⟩; rw [hy]; have hb : Below v_74.heap.size v_74 v_75 := (by rw [← hy]; exact (Below.refl _ _).alloc (Nat.le_refl _) _); have hS_75 := hS_74.trans (hb.mono hS_74.size); have hb33_75 := hb33_74.later hb; have hb35_75 := hb35_74.later hb; have hL37_75 : LBs v_75 (some ⟨v_74.heap.size, 0, none⟩) 1 (fun _ => 1) (fun _ _ => 97) := lbs_one (by rw [← hy]; exact Blk.new _ _ _) (Nat.le_refl _) (by unfold maxLen; decide) hb35_75; (try clear hb); (try clear hy); (try clear hb35_75); (try clear hb33_74); (try clear hb35_74); (try clear hS_74); obtain ⟨g37, hg⟩ : ∃ q, v_74.heap.size = q := ⟨_, rfl⟩; rw [hg] at hL37_75 ⊢; clear hg; skip)
          (try go_wp2_with fail)
          refine hK.out _ _ ?_ (fun hHeld => ?_)
          · (try dsimp only)
            first | assumption
          clear hK K
          (try simp only [Act.put, List.setIfInBounds_toArray, List.set_cons_zero, List.set_cons_succ])
          (try clear hHeld)
          (try clear hl33)
          (try clear hl35)
          revert hS_75
          revert hL37_75
          revert hb33_75
          revert g37
          revert g35
          revert g33
          revert v_75
          exact key1
        refine AllReadyH.cons (o := { dst := some 62, op := Go.Op.convert 33 33 (Go.Operand.tmp 61), type := 33, pos := "law.go:55", after := #[{ on := 35, ground := Go.Ground.data }, { on := 32, ground := Go.Ground.guard }], guard := some (32, true) }) rfl (fun K hK => ?_) AllReadyH.nil
        (refine step_convB (by kernel_rfl) (.tmp 61) rfl g35 1 1 1 rfl hq35_72 ?_; obtain ⟨v_76, hy⟩ : ∃ q, v_72.freeze ⟨g35, 1, none⟩ 1 = q := ⟨_, rfl⟩; rw [hy]; have hO : Own g35 v_72 v_76 := (by rw [← hy]; exact Own.frz _ _ _ _); have hS_76 := hS_72.trans (hO.below hl35 hS_72.size); have hb33_76 := hb33_72.frz ⟨g35, 1, none⟩ 1; rw [hy] at hb33_76; have hq33_76 := hq33_72.frz ⟨g35, 1, none⟩ 1; rw [hy] at hq33_76; have hb35_76 := hb35_72.frz ⟨g35, 1, none⟩ 1; rw [hy] at hb35_76; (try clear hO); (try clear hy); (try clear hl35); (try clear hb33_72); (try clear hq33_72); (try clear hb35_72); (try clear hq35_72); (try clear hS_72); skip)
        refine hK.out _ _ ?_ (fun hHeld => ?_)
        · (try dsimp only)
          first | assumption
        clear hK K
        (try simp only [Act.put, List.setIfInBounds_toArray, List.set_cons_zero, List.set_cons_succ])
        refine wpAnyH_ready (rs := [34, 37]) (by kernel_rfl) (by simp) ?_
        refine AllReadyH.cons (o := { dst := some 60, op := Go.Op.convert 33 33 (Go.Operand.tmp 59), type := 33, pos := "law.go:55", after := #[{ on := 33, ground := Go.Ground.data }, { on := 32, ground := Go.Ground.guard }], guard := some (32, true) }) rfl (fun K hK => ?_) ?_
        · skip
          (refine step_convB (by kernel_rfl) (.tmp 59) rfl g33 1 1 1 rfl hq33_76 ?_; obtain ⟨v_77, hy⟩ : ∃ q, v_76.freeze ⟨g33, 1, none⟩ 1 = q := ⟨_, rfl⟩; rw [hy]; have hO : Own g33 v_76 v_77 := (by rw [← hy]; exact Own.frz _ _ _ _); have hS_77 := hS_76.trans (hO.below hl33 hS_76.size); have hb33_77 := hb33_76.frz ⟨g33, 1, none⟩ 1; rw [hy] at hb33_77; have hb35_77 := hb35_76.frz ⟨g33, 1, none⟩ 1; rw [hy] at hb35_77; (try clear hO); (try clear hy); (try clear hl33); (try clear hb33_76); (try clear hq33_76); (try clear hb35_76); (try clear hS_76); skip)
          refine hK.out _ _ ?_ (fun hHeld => ?_)
          · (try dsimp only)
            first | assumption
          clear hK K
          (try simp only [Act.put, List.setIfInBounds_toArray, List.set_cons_zero, List.set_cons_succ])
          refine wpAnyH_ready (rs := [37]) (by kernel_rfl) (by simp) ?_
          refine AllReadyH.cons (o := { dst := some 63, op := Go.Op.buildSlice 34 1 #[(0, Go.Operand.tmp 62)], type := 34, pos := "law.go:55", after := #[{ on := 36, ground := Go.Ground.data }, { on := 32, ground := Go.Ground.guard }], guard := some (32, true) }) rfl (fun K hK => ?_) AllReadyH.nil
          go_simp
          (obtain ⟨v_78, hy⟩ : ∃ q, v_77.alloc (.cells #[.slice (some ⟨g35, 0, none⟩) 1 1] 33) = q := ⟨_, rfl⟩; rw [hy]; have hb : Below v_77.heap.size v_77 v_78 := (by rw [← hy]; exact (Below.refl _ _).alloc (Nat.le_refl _) _); have hS_78 := hS_77.trans (hb.mono hS_77.size); have hb33_78 := hb33_77.later hb; have hb35_78 := hb35_77.later hb; have hL37_78 : LBs v_78 (some ⟨v_77.heap.size, 0, none⟩) 1 (fun _ => 1) (fun _ _ => 97) := lbs_one (by rw [← hy]; exact Blk.new _ _ _) (Nat.le_refl _) (by unfold maxLen; decide) hb35_78; (try clear hb); (try clear hy); (try clear hb35_78); (try clear hb33_77); (try clear hb35_77); (try clear hS_77); obtain ⟨g37, hg⟩ : ∃ q, v_77.heap.size = q := ⟨_, rfl⟩; rw [hg] at hL37_78 ⊢; clear hg; skip)
          (try go_wp2_with fail)
          refine hK.out _ _ ?_ (fun hHeld => ?_)
          · (try dsimp only)
            first | assumption
          clear hK K
          (try simp only [Act.put, List.setIfInBounds_toArray, List.set_cons_zero, List.set_cons_succ])
          (try clear hHeld)
          (try clear hl33)
          (try clear hl35)
          revert hS_78
          revert hL37_78
          revert hb33_78
          revert g37
          revert g35
          revert g33
          revert v_78
          exact key1
        refine AllReadyH.cons (o := { dst := some 63, op := Go.Op.buildSlice 34 1 #[(0, Go.Operand.tmp 62)], type := 34, pos := "law.go:55", after := #[{ on := 36, ground := Go.Ground.data }, { on := 32, ground := Go.Ground.guard }], guard := some (32, true) }) rfl (fun K hK => ?_) AllReadyH.nil
        go_simp
        (obtain ⟨v_79, hy⟩ : ∃ q, v_76.alloc (.cells #[.slice (some ⟨g35, 0, none⟩) 1 1] 33) = q := ⟨_, rfl⟩; rw [hy]; have hb : Below v_76.heap.size v_76 v_79 := (by rw [← hy]; exact (Below.refl _ _).alloc (Nat.le_refl _) _); have hS_79 := hS_76.trans (hb.mono hS_76.size); have hb33_79 := hb33_76.later hb; have hq33_79 := hq33_76.later hb; have hb35_79 := hb35_76.later hb; have hL37_79 : LBs v_79 (some ⟨v_76.heap.size, 0, none⟩) 1 (fun _ => 1) (fun _ _ => 97) := lbs_one (by rw [← hy]; exact Blk.new _ _ _) (Nat.le_refl _) (by unfold maxLen; decide) hb35_79; (try clear hb); (try clear hy); (try clear hb35_79); (try clear hb33_76); (try clear hq33_76); (try clear hb35_76); (try clear hS_76); obtain ⟨g37, hg⟩ : ∃ q, v_76.heap.size = q := ⟨_, rfl⟩; rw [hg] at hL37_79 ⊢; clear hg; skip)
        (try go_wp2_with fail)
        refine hK.out _ _ ?_ (fun hHeld => ?_)
        · (try dsimp only)
          first | assumption
        clear hK K
        (try simp only [Act.put, List.setIfInBounds_toArray, List.set_cons_zero, List.set_cons_succ])
        refine wpAnyH_ready (rs := [34]) (by kernel_rfl) (by simp) ?_
        refine AllReadyH.cons (o := { dst := some 60, op := Go.Op.convert 33 33 (Go.Operand.tmp 59), type := 33, pos := "law.go:55", after := #[{ on := 33, ground := Go.Ground.data }, { on := 32, ground := Go.Ground.guard }], guard := some (32, true) }) rfl (fun K hK => ?_) AllReadyH.nil
        (refine step_convB (by kernel_rfl) (.tmp 59) rfl g33 1 1 1 rfl hq33_79 ?_; obtain ⟨v_80, hy⟩ : ∃ q, v_79.freeze ⟨g33, 1, none⟩ 1 = q := ⟨_, rfl⟩; rw [hy]; have hO : Own g33 v_79 v_80 := (by rw [← hy]; exact Own.frz _ _ _ _); have hS_80 := hS_79.trans (hO.below hl33 hS_79.size); have hb33_80 := hb33_79.frz ⟨g33, 1, none⟩ 1; rw [hy] at hb33_80; have hL37_80 := hL37_79.frz ⟨g33, 1, none⟩ 1; rw [hy] at hL37_80; (try clear hO); (try clear hy); (try clear hl33); (try clear hb33_79); (try clear hq33_79); (try clear hL37_79); (try clear hS_79); skip)
        refine hK.out _ _ ?_ (fun hHeld => ?_)
        · (try dsimp only)
          first | assumption
        clear hK K
        (try simp only [Act.put, List.setIfInBounds_toArray, List.set_cons_zero, List.set_cons_succ])
        (try clear hHeld)
        (try clear hl33)
        (try clear hl35)
        revert hS_80
        revert hL37_80
        revert hb33_80
        revert g37
        revert g35
        revert g33
        revert v_80
        exact key1
      refine AllReadyH.cons (o := { dst := some 61, op := Go.Op.buildSlice 33 1 #[(0, Go.Operand.const (Go.Value.int Go.IntKind.u8 97))], type := 33, pos := "law.go:55", after := #[{ on := 32, ground := Go.Ground.guard }], guard := some (32, true) }) rfl (fun K hK => ?_) AllReadyH.nil
      go_simp
      (obtain ⟨v_81, hy⟩ : ∃ q, v_66.alloc (.cells #[.int .u8 97] 5) = q := ⟨_, rfl⟩; rw [hy]; have hb : Below v_66.heap.size v_66 v_81 := (by rw [← hy]; exact (Below.refl _ _).alloc (Nat.le_refl _) _); have hS_81 := hS_66.trans (hb.mono hS_66.size); have hb35_81 : Bytes v_81 (some ⟨v_66.heap.size, 0, none⟩) 1 (fun _ => 97) := (by rw [← hy]; exact one_byte (by decide)); have hq35_81 : Shp v_81 v_66.heap.size 1 := (by rw [← hy]; exact Shp.blk (Blk.new _ #[.int .u8 97] _)); have hl35 : w7.heap.size ≤ v_66.heap.size := hS_66.size; (try clear hb); (try clear hy); (try clear hS_66); obtain ⟨g35, hg⟩ : ∃ q, v_66.heap.size = q := ⟨_, rfl⟩; rw [hg] at hb35_81 hq35_81 hl35 ⊢; clear hg; skip)
      (try go_wp2_with fail)
      refine hK.out _ _ ?_ (fun hHeld => ?_)
      · (try dsimp only)
        first | assumption
      clear hK K
      (try simp only [Act.put, List.setIfInBounds_toArray, List.set_cons_zero, List.set_cons_succ])
      refine wpAnyH_ready (rs := [33, 36]) (by kernel_rfl) (by simp) ?_
      refine AllReadyH.cons (o := { dst := some 59, op := Go.Op.buildSlice 33 1 #[(0, Go.Operand.const (Go.Value.int Go.IntKind.u8 107))], type := 33, pos := "law.go:55", after := #[{ on := 32, ground := Go.Ground.guard }], guard := some (32, true) }) rfl (fun K hK => ?_) ?_
      · skip
        go_simp
        (obtain ⟨v_82, hy⟩ : ∃ q, v_81.alloc (.cells #[.int .u8 107] 5) = q := ⟨_, rfl⟩; rw [hy]; have hb : Below v_81.heap.size v_81 v_82 := (by rw [← hy]; exact (Below.refl _ _).alloc (Nat.le_refl _) _); have hS_82 := hS_81.trans (hb.mono hS_81.size); have hb35_82 := hb35_81.later hb; have hq35_82 := hq35_81.later hb; have hb33_82 : Bytes v_82 (some ⟨v_81.heap.size, 0, none⟩) 1 (fun _ => 107) := (by rw [← hy]; exact one_byte (by decide)); have hq33_82 : Shp v_82 v_81.heap.size 1 := (by rw [← hy]; exact Shp.blk (Blk.new _ #[.int .u8 107] _)); have hl33 : w7.heap.size ≤ v_81.heap.size := hS_81.size; (try clear hb); (try clear hy); (try clear hb35_81); (try clear hq35_81); (try clear hS_81); obtain ⟨g33, hg⟩ : ∃ q, v_81.heap.size = q := ⟨_, rfl⟩; rw [hg] at hb33_82 hq33_82 hl33 ⊢; clear hg; skip)
        (try go_wp2_with fail)
        refine hK.out _ _ ?_ (fun hHeld => ?_)
        · (try dsimp only)
          first | assumption
        clear hK K
        (try simp only [Act.put, List.setIfInBounds_toArray, List.set_cons_zero, List.set_cons_succ])
        refine wpAnyH_ready (rs := [34, 36]) (by kernel_rfl) (by simp) ?_
        refine AllReadyH.cons (o := { dst := some 60, op := Go.Op.convert 33 33 (Go.Operand.tmp 59), type := 33, pos := "law.go:55", after := #[{ on := 33, ground := Go.Ground.data }, { on := 32, ground := Go.Ground.guard }], guard := some (32, true) }) rfl (fun K hK => ?_) ?_
        · skip
          (refine step_convB (by kernel_rfl) (.tmp 59) rfl g33 1 1 1 rfl hq33_82 ?_; obtain ⟨v_83, hy⟩ : ∃ q, v_82.freeze ⟨g33, 1, none⟩ 1 = q := ⟨_, rfl⟩; rw [hy]; have hO : Own g33 v_82 v_83 := (by rw [← hy]; exact Own.frz _ _ _ _); have hS_83 := hS_82.trans (hO.below hl33 hS_82.size); have hb35_83 := hb35_82.frz ⟨g33, 1, none⟩ 1; rw [hy] at hb35_83; have hq35_83 := hq35_82.frz ⟨g33, 1, none⟩ 1; rw [hy] at hq35_83; have hb33_83 := hb33_82.frz ⟨g33, 1, none⟩ 1; rw [hy] at hb33_83; (try clear hO); (try clear hy); (try clear hl33); (try clear hb35_82); (try clear hq35_82); (try clear hb33_82); (try clear hq33_82); (try clear hS_82); skip)
          refine hK.out _ _ ?_ (fun hHeld => ?_)
          · (try dsimp only)
            first | assumption
          clear hK K
          (try simp only [Act.put, List.setIfInBounds_toArray, List.set_cons_zero, List.set_cons_succ])
          refine wpAnyH_ready (rs := [36]) (by kernel_rfl) (by simp) ?_
          refine AllReadyH.cons (o := { dst := some 62, op := Go.Op.convert 33 33 (Go.Operand.tmp 61), type := 33, pos := "law.go:55", after := #[{ on := 35, ground := Go.Ground.data }, { on := 32, ground := Go.Ground.guard }], guard := some (32, true) }) rfl (fun K hK => ?_) AllReadyH.nil
          (refine step_convB (by kernel_rfl) (.tmp 61) rfl g35 1 1 1 rfl hq35_83 ?_; obtain ⟨v_84, hy⟩ : ∃ q, v_83.freeze ⟨g35, 1, none⟩ 1 = q := ⟨_, rfl⟩; rw [hy]; have hO : Own g35 v_83 v_84 := (by rw [← hy]; exact Own.frz _ _ _ _); have hS_84 := hS_83.trans (hO.below hl35 hS_83.size); have hb35_84 := hb35_83.frz ⟨g35, 1, none⟩ 1; rw [hy] at hb35_84; have hb33_84 := hb33_83.frz ⟨g35, 1, none⟩ 1; rw [hy] at hb33_84; (try clear hO); (try clear hy); (try clear hl35); (try clear hb35_83); (try clear hq35_83); (try clear hb33_83); (try clear hS_83); skip)
          refine hK.out _ _ ?_ (fun hHeld => ?_)
          · (try dsimp only)
            first | assumption
          clear hK K
          (try simp only [Act.put, List.setIfInBounds_toArray, List.set_cons_zero, List.set_cons_succ])
          refine wpAnyH_ready (rs := [37]) (by kernel_rfl) (by simp) ?_
          refine AllReadyH.cons (o := { dst := some 63, op := Go.Op.buildSlice 34 1 #[(0, Go.Operand.tmp 62)], type := 34, pos := "law.go:55", after := #[{ on := 36, ground := Go.Ground.data }, { on := 32, ground := Go.Ground.guard }], guard := some (32, true) }) rfl (fun K hK => ?_) AllReadyH.nil
          go_simp
          (obtain ⟨v_85, hy⟩ : ∃ q, v_84.alloc (.cells #[.slice (some ⟨g35, 0, none⟩) 1 1] 33) = q := ⟨_, rfl⟩; rw [hy]; have hb : Below v_84.heap.size v_84 v_85 := (by rw [← hy]; exact (Below.refl _ _).alloc (Nat.le_refl _) _); have hS_85 := hS_84.trans (hb.mono hS_84.size); have hb35_85 := hb35_84.later hb; have hb33_85 := hb33_84.later hb; have hL37_85 : LBs v_85 (some ⟨v_84.heap.size, 0, none⟩) 1 (fun _ => 1) (fun _ _ => 97) := lbs_one (by rw [← hy]; exact Blk.new _ _ _) (Nat.le_refl _) (by unfold maxLen; decide) hb35_85; (try clear hb); (try clear hy); (try clear hb35_85); (try clear hb35_84); (try clear hb33_84); (try clear hS_84); obtain ⟨g37, hg⟩ : ∃ q, v_84.heap.size = q := ⟨_, rfl⟩; rw [hg] at hL37_85 ⊢; clear hg; skip)
          (try go_wp2_with fail)
          refine hK.out _ _ ?_ (fun hHeld => ?_)
          · (try dsimp only)
            first | assumption
          clear hK K
          (try simp only [Act.put, List.setIfInBounds_toArray, List.set_cons_zero, List.set_cons_succ])
          (try clear hHeld)
          (try clear hl33)
          (try clear hl35)
          revert hS_85
          revert hL37_85
          revert hb33_85
          revert g37
          revert g35
          revert g33
          revert v_85
          exact key1
        refine AllReadyH.cons (o := { dst := some 62, op := Go.Op.convert 33 33 (Go.Operand.tmp 61), type := 33, pos := "law.go:55", after := #[{ on := 35, ground := Go.Ground.data }, { on := 32, ground := Go.Ground.guard }], guard := some (32, true) }) rfl (fun K hK => ?_) AllReadyH.nil
        (refine step_convB (by kernel_rfl) (.tmp 61) rfl g35 1 1 1 rfl hq35_82 ?_; obtain ⟨v_86, hy⟩ : ∃ q, v_82.freeze ⟨g35, 1, none⟩ 1 = q := ⟨_, rfl⟩; rw [hy]; have hO : Own g35 v_82 v_86 := (by rw [← hy]; exact Own.frz _ _ _ _); have hS_86 := hS_82.trans (hO.below hl35 hS_82.size); have hb35_86 := hb35_82.frz ⟨g35, 1, none⟩ 1; rw [hy] at hb35_86; have hb33_86 := hb33_82.frz ⟨g35, 1, none⟩ 1; rw [hy] at hb33_86; have hq33_86 := hq33_82.frz ⟨g35, 1, none⟩ 1; rw [hy] at hq33_86; (try clear hO); (try clear hy); (try clear hl35); (try clear hb35_82); (try clear hq35_82); (try clear hb33_82); (try clear hq33_82); (try clear hS_82); skip)
        refine hK.out _ _ ?_ (fun hHeld => ?_)
        · (try dsimp only)
          first | assumption
        clear hK K
        (try simp only [Act.put, List.setIfInBounds_toArray, List.set_cons_zero, List.set_cons_succ])
        refine wpAnyH_ready (rs := [34, 37]) (by kernel_rfl) (by simp) ?_
        refine AllReadyH.cons (o := { dst := some 60, op := Go.Op.convert 33 33 (Go.Operand.tmp 59), type := 33, pos := "law.go:55", after := #[{ on := 33, ground := Go.Ground.data }, { on := 32, ground := Go.Ground.guard }], guard := some (32, true) }) rfl (fun K hK => ?_) ?_
        · skip
          (refine step_convB (by kernel_rfl) (.tmp 59) rfl g33 1 1 1 rfl hq33_86 ?_; obtain ⟨v_87, hy⟩ : ∃ q, v_86.freeze ⟨g33, 1, none⟩ 1 = q := ⟨_, rfl⟩; rw [hy]; have hO : Own g33 v_86 v_87 := (by rw [← hy]; exact Own.frz _ _ _ _); have hS_87 := hS_86.trans (hO.below hl33 hS_86.size); have hb35_87 := hb35_86.frz ⟨g33, 1, none⟩ 1; rw [hy] at hb35_87; have hb33_87 := hb33_86.frz ⟨g33, 1, none⟩ 1; rw [hy] at hb33_87; (try clear hO); (try clear hy); (try clear hl33); (try clear hb35_86); (try clear hb33_86); (try clear hq33_86); (try clear hS_86); skip)
          refine hK.out _ _ ?_ (fun hHeld => ?_)
          · (try dsimp only)
            first | assumption
          clear hK K
          (try simp only [Act.put, List.setIfInBounds_toArray, List.set_cons_zero, List.set_cons_succ])
          refine wpAnyH_ready (rs := [37]) (by kernel_rfl) (by simp) ?_
          refine AllReadyH.cons (o := { dst := some 63, op := Go.Op.buildSlice 34 1 #[(0, Go.Operand.tmp 62)], type := 34, pos := "law.go:55", after := #[{ on := 36, ground := Go.Ground.data }, { on := 32, ground := Go.Ground.guard }], guard := some (32, true) }) rfl (fun K hK => ?_) AllReadyH.nil
          go_simp
          (obtain ⟨v_88, hy⟩ : ∃ q, v_87.alloc (.cells #[.slice (some ⟨g35, 0, none⟩) 1 1] 33) = q := ⟨_, rfl⟩; rw [hy]; have hb : Below v_87.heap.size v_87 v_88 := (by rw [← hy]; exact (Below.refl _ _).alloc (Nat.le_refl _) _); have hS_88 := hS_87.trans (hb.mono hS_87.size); have hb35_88 := hb35_87.later hb; have hb33_88 := hb33_87.later hb; have hL37_88 : LBs v_88 (some ⟨v_87.heap.size, 0, none⟩) 1 (fun _ => 1) (fun _ _ => 97) := lbs_one (by rw [← hy]; exact Blk.new _ _ _) (Nat.le_refl _) (by unfold maxLen; decide) hb35_88; (try clear hb); (try clear hy); (try clear hb35_88); (try clear hb35_87); (try clear hb33_87); (try clear hS_87); obtain ⟨g37, hg⟩ : ∃ q, v_87.heap.size = q := ⟨_, rfl⟩; rw [hg] at hL37_88 ⊢; clear hg; skip)
          (try go_wp2_with fail)
          refine hK.out _ _ ?_ (fun hHeld => ?_)
          · (try dsimp only)
            first | assumption
          clear hK K
          (try simp only [Act.put, List.setIfInBounds_toArray, List.set_cons_zero, List.set_cons_succ])
          (try clear hHeld)
          (try clear hl33)
          (try clear hl35)
          revert hS_88
          revert hL37_88
          revert hb33_88
          revert g37
          revert g35
          revert g33
          revert v_88
          exact key1
        refine AllReadyH.cons (o := { dst := some 63, op := Go.Op.buildSlice 34 1 #[(0, Go.Operand.tmp 62)], type := 34, pos := "law.go:55", after := #[{ on := 36, ground := Go.Ground.data }, { on := 32, ground := Go.Ground.guard }], guard := some (32, true) }) rfl (fun K hK => ?_) AllReadyH.nil
        go_simp
        (obtain ⟨v_89, hy⟩ : ∃ q, v_86.alloc (.cells #[.slice (some ⟨g35, 0, none⟩) 1 1] 33) = q := ⟨_, rfl⟩; rw [hy]; have hb : Below v_86.heap.size v_86 v_89 := (by rw [← hy]; exact (Below.refl _ _).alloc (Nat.le_refl _) _); have hS_89 := hS_86.trans (hb.mono hS_86.size); have hb35_89 := hb35_86.later hb; have hb33_89 := hb33_86.later hb; have hq33_89 := hq33_86.later hb; have hL37_89 : LBs v_89 (some ⟨v_86.heap.size, 0, none⟩) 1 (fun _ => 1) (fun _ _ => 97) := lbs_one (by rw [← hy]; exact Blk.new _ _ _) (Nat.le_refl _) (by unfold maxLen; decide) hb35_89; (try clear hb); (try clear hy); (try clear hb35_89); (try clear hb35_86); (try clear hb33_86); (try clear hq33_86); (try clear hS_86); obtain ⟨g37, hg⟩ : ∃ q, v_86.heap.size = q := ⟨_, rfl⟩; rw [hg] at hL37_89 ⊢; clear hg; skip)
        (try go_wp2_with fail)
        refine hK.out _ _ ?_ (fun hHeld => ?_)
        · (try dsimp only)
          first | assumption
        clear hK K
        (try simp only [Act.put, List.setIfInBounds_toArray, List.set_cons_zero, List.set_cons_succ])
        refine wpAnyH_ready (rs := [34]) (by kernel_rfl) (by simp) ?_
        refine AllReadyH.cons (o := { dst := some 60, op := Go.Op.convert 33 33 (Go.Operand.tmp 59), type := 33, pos := "law.go:55", after := #[{ on := 33, ground := Go.Ground.data }, { on := 32, ground := Go.Ground.guard }], guard := some (32, true) }) rfl (fun K hK => ?_) AllReadyH.nil
        (refine step_convB (by kernel_rfl) (.tmp 59) rfl g33 1 1 1 rfl hq33_89 ?_; obtain ⟨v_90, hy⟩ : ∃ q, v_89.freeze ⟨g33, 1, none⟩ 1 = q := ⟨_, rfl⟩; rw [hy]; have hO : Own g33 v_89 v_90 := (by rw [← hy]; exact Own.frz _ _ _ _); have hS_90 := hS_89.trans (hO.below hl33 hS_89.size); have hb33_90 := hb33_89.frz ⟨g33, 1, none⟩ 1; rw [hy] at hb33_90; have hL37_90 := hL37_89.frz ⟨g33, 1, none⟩ 1; rw [hy] at hL37_90; (try clear hO); (try clear hy); (try clear hl33); (try clear hb33_89); (try clear hq33_89); (try clear hL37_89); (try clear hS_89); skip)
        refine hK.out _ _ ?_ (fun hHeld => ?_)
        · (try dsimp only)
          first | assumption
        clear hK K
        (try simp only [Act.put, List.setIfInBounds_toArray, List.set_cons_zero, List.set_cons_succ])
        (try clear hHeld)
        (try clear hl33)
        (try clear hl35)
        revert hS_90
        revert hL37_90
        revert hb33_90
        revert g37
        revert g35
        revert g33
        revert v_90
        exact key1
      refine AllReadyH.cons (o := { dst := some 62, op := Go.Op.convert 33 33 (Go.Operand.tmp 61), type := 33, pos := "law.go:55", after := #[{ on := 35, ground := Go.Ground.data }, { on := 32, ground := Go.Ground.guard }], guard := some (32, true) }) rfl (fun K hK => ?_) AllReadyH.nil
      (refine step_convB (by kernel_rfl) (.tmp 61) rfl g35 1 1 1 rfl hq35_81 ?_; obtain ⟨v_91, hy⟩ : ∃ q, v_81.freeze ⟨g35, 1, none⟩ 1 = q := ⟨_, rfl⟩; rw [hy]; have hO : Own g35 v_81 v_91 := (by rw [← hy]; exact Own.frz _ _ _ _); have hS_91 := hS_81.trans (hO.below hl35 hS_81.size); have hb35_91 := hb35_81.frz ⟨g35, 1, none⟩ 1; rw [hy] at hb35_91; (try clear hO); (try clear hy); (try clear hl35); (try clear hb35_81); (try clear hq35_81); (try clear hS_81); skip)
      refine hK.out _ _ ?_ (fun hHeld => ?_)
      · (try dsimp only)
        first | assumption
      clear hK K
      (try simp only [Act.put, List.setIfInBounds_toArray, List.set_cons_zero, List.set_cons_succ])
      refine wpAnyH_ready (rs := [33, 37]) (by kernel_rfl) (by simp) ?_
      refine AllReadyH.cons (o := { dst := some 59, op := Go.Op.buildSlice 33 1 #[(0, Go.Operand.const (Go.Value.int Go.IntKind.u8 107))], type := 33, pos := "law.go:55", after := #[{ on := 32, ground := Go.Ground.guard }], guard := some (32, true) }) rfl (fun K hK => ?_) ?_
      · skip
        go_simp
        (obtain ⟨v_92, hy⟩ : ∃ q, v_91.alloc (.cells #[.int .u8 107] 5) = q := ⟨_, rfl⟩; rw [hy]; have hb : Below v_91.heap.size v_91 v_92 := (by rw [← hy]; exact (Below.refl _ _).alloc (Nat.le_refl _) _); have hS_92 := hS_91.trans (hb.mono hS_91.size); have hb35_92 := hb35_91.later hb; have hb33_92 : Bytes v_92 (some ⟨v_91.heap.size, 0, none⟩) 1 (fun _ => 107) := (by rw [← hy]; exact one_byte (by decide)); have hq33_92 : Shp v_92 v_91.heap.size 1 := (by rw [← hy]; exact Shp.blk (Blk.new _ #[.int .u8 107] _)); have hl33 : w7.heap.size ≤ v_91.heap.size := hS_91.size; (try clear hb); (try clear hy); (try clear hb35_91); (try clear hS_91); obtain ⟨g33, hg⟩ : ∃ q, v_91.heap.size = q := ⟨_, rfl⟩; rw [hg] at hb33_92 hq33_92 hl33 ⊢; clear hg; skip)
        (try go_wp2_with fail)
        refine hK.out _ _ ?_ (fun hHeld => ?_)
        · (try dsimp only)
          first | assumption
        clear hK K
        (try simp only [Act.put, List.setIfInBounds_toArray, List.set_cons_zero, List.set_cons_succ])
        refine wpAnyH_ready (rs := [34, 37]) (by kernel_rfl) (by simp) ?_
        refine AllReadyH.cons (o := { dst := some 60, op := Go.Op.convert 33 33 (Go.Operand.tmp 59), type := 33, pos := "law.go:55", after := #[{ on := 33, ground := Go.Ground.data }, { on := 32, ground := Go.Ground.guard }], guard := some (32, true) }) rfl (fun K hK => ?_) ?_
        · skip
          (refine step_convB (by kernel_rfl) (.tmp 59) rfl g33 1 1 1 rfl hq33_92 ?_; obtain ⟨v_93, hy⟩ : ∃ q, v_92.freeze ⟨g33, 1, none⟩ 1 = q := ⟨_, rfl⟩; rw [hy]; have hO : Own g33 v_92 v_93 := (by rw [← hy]; exact Own.frz _ _ _ _); have hS_93 := hS_92.trans (hO.below hl33 hS_92.size); have hb35_93 := hb35_92.frz ⟨g33, 1, none⟩ 1; rw [hy] at hb35_93; have hb33_93 := hb33_92.frz ⟨g33, 1, none⟩ 1; rw [hy] at hb33_93; (try clear hO); (try clear hy); (try clear hl33); (try clear hb35_92); (try clear hb33_92); (try clear hq33_92); (try clear hS_92); skip)
          refine hK.out _ _ ?_ (fun hHeld => ?_)
          · (try dsimp only)
            first | assumption
          clear hK K
          (try simp only [Act.put, List.setIfInBounds_toArray, List.set_cons_zero, List.set_cons_succ])
          refine wpAnyH_ready (rs := [37]) (by kernel_rfl) (by simp) ?_
          refine AllReadyH.cons (o := { dst := some 63, op := Go.Op.buildSlice 34 1 #[(0, Go.Operand.tmp 62)], type := 34, pos := "law.go:55", after := #[{ on := 36, ground := Go.Ground.data }, { on := 32, ground := Go.Ground.guard }], guard := some (32, true) }) rfl (fun K hK => ?_) AllReadyH.nil
          go_simp
          (obtain ⟨v_94, hy⟩ : ∃ q, v_93.alloc (.cells #[.slice (some ⟨g35, 0, none⟩) 1 1] 33) = q := ⟨_, rfl⟩; rw [hy]; have hb : Below v_93.heap.size v_93 v_94 := (by rw [← hy]; exact (Below.refl _ _).alloc (Nat.le_refl _) _); have hS_94 := hS_93.trans (hb.mono hS_93.size); have hb35_94 := hb35_93.later hb; have hb33_94 := hb33_93.later hb; have hL37_94 : LBs v_94 (some ⟨v_93.heap.size, 0, none⟩) 1 (fun _ => 1) (fun _ _ => 97) := lbs_one (by rw [← hy]; exact Blk.new _ _ _) (Nat.le_refl _) (by unfold maxLen; decide) hb35_94; (try clear hb); (try clear hy); (try clear hb35_94); (try clear hb35_93); (try clear hb33_93); (try clear hS_93); obtain ⟨g37, hg⟩ : ∃ q, v_93.heap.size = q := ⟨_, rfl⟩; rw [hg] at hL37_94 ⊢; clear hg; skip)
          (try go_wp2_with fail)
          refine hK.out _ _ ?_ (fun hHeld => ?_)
          · (try dsimp only)
            first | assumption
          clear hK K
          (try simp only [Act.put, List.setIfInBounds_toArray, List.set_cons_zero, List.set_cons_succ])
          (try clear hHeld)
          (try clear hl33)
          (try clear hl35)
          revert hS_94
          revert hL37_94
          revert hb33_94
          revert g37
          revert g35
          revert g33
          revert v_94
          exact key1
        refine AllReadyH.cons (o := { dst := some 63, op := Go.Op.buildSlice 34 1 #[(0, Go.Operand.tmp 62)], type := 34, pos := "law.go:55", after := #[{ on := 36, ground := Go.Ground.data }, { on := 32, ground := Go.Ground.guard }], guard := some (32, true) }) rfl (fun K hK => ?_) AllReadyH.nil
        go_simp
        (obtain ⟨v_95, hy⟩ : ∃ q, v_92.alloc (.cells #[.slice (some ⟨g35, 0, none⟩) 1 1] 33) = q := ⟨_, rfl⟩; rw [hy]; have hb : Below v_92.heap.size v_92 v_95 := (by rw [← hy]; exact (Below.refl _ _).alloc (Nat.le_refl _) _); have hS_95 := hS_92.trans (hb.mono hS_92.size); have hb35_95 := hb35_92.later hb; have hb33_95 := hb33_92.later hb; have hq33_95 := hq33_92.later hb; have hL37_95 : LBs v_95 (some ⟨v_92.heap.size, 0, none⟩) 1 (fun _ => 1) (fun _ _ => 97) := lbs_one (by rw [← hy]; exact Blk.new _ _ _) (Nat.le_refl _) (by unfold maxLen; decide) hb35_95; (try clear hb); (try clear hy); (try clear hb35_95); (try clear hb35_92); (try clear hb33_92); (try clear hq33_92); (try clear hS_92); obtain ⟨g37, hg⟩ : ∃ q, v_92.heap.size = q := ⟨_, rfl⟩; rw [hg] at hL37_95 ⊢; clear hg; skip)
        (try go_wp2_with fail)
        refine hK.out _ _ ?_ (fun hHeld => ?_)
        · (try dsimp only)
          first | assumption
        clear hK K
        (try simp only [Act.put, List.setIfInBounds_toArray, List.set_cons_zero, List.set_cons_succ])
        refine wpAnyH_ready (rs := [34]) (by kernel_rfl) (by simp) ?_
        refine AllReadyH.cons (o := { dst := some 60, op := Go.Op.convert 33 33 (Go.Operand.tmp 59), type := 33, pos := "law.go:55", after := #[{ on := 33, ground := Go.Ground.data }, { on := 32, ground := Go.Ground.guard }], guard := some (32, true) }) rfl (fun K hK => ?_) AllReadyH.nil
        (refine step_convB (by kernel_rfl) (.tmp 59) rfl g33 1 1 1 rfl hq33_95 ?_; obtain ⟨v_96, hy⟩ : ∃ q, v_95.freeze ⟨g33, 1, none⟩ 1 = q := ⟨_, rfl⟩; rw [hy]; have hO : Own g33 v_95 v_96 := (by rw [← hy]; exact Own.frz _ _ _ _); have hS_96 := hS_95.trans (hO.below hl33 hS_95.size); have hb33_96 := hb33_95.frz ⟨g33, 1, none⟩ 1; rw [hy] at hb33_96; have hL37_96 := hL37_95.frz ⟨g33, 1, none⟩ 1; rw [hy] at hL37_96; (try clear hO); (try clear hy); (try clear hl33); (try clear hb33_95); (try clear hq33_95); (try clear hL37_95); (try clear hS_95); skip)
        refine hK.out _ _ ?_ (fun hHeld => ?_)
        · (try dsimp only)
          first | assumption
        clear hK K
        (try simp only [Act.put, List.setIfInBounds_toArray, List.set_cons_zero, List.set_cons_succ])
        (try clear hHeld)
        (try clear hl33)
        (try clear hl35)
        revert hS_96
        revert hL37_96
        revert hb33_96
        revert g37
        revert g35
        revert g33
        revert v_96
        exact key1
      refine AllReadyH.cons (o := { dst := some 63, op := Go.Op.buildSlice 34 1 #[(0, Go.Operand.tmp 62)], type := 34, pos := "law.go:55", after := #[{ on := 36, ground := Go.Ground.data }, { on := 32, ground := Go.Ground.guard }], guard := some (32, true) }) rfl (fun K hK => ?_) AllReadyH.nil
      go_simp
      (obtain ⟨v_97, hy⟩ : ∃ q, v_91.alloc (.cells #[.slice (some ⟨g35, 0, none⟩) 1 1] 33) = q := ⟨_, rfl⟩; rw [hy]; have hb : Below v_91.heap.size v_91 v_97 := (by rw [← hy]; exact (Below.refl _ _).alloc (Nat.le_refl _) _); have hS_97 := hS_91.trans (hb.mono hS_91.size); have hb35_97 := hb35_91.later hb; have hL37_97 : LBs v_97 (some ⟨v_91.heap.size, 0, none⟩) 1 (fun _ => 1) (fun _ _ => 97) := lbs_one (by rw [← hy]; exact Blk.new _ _ _) (Nat.le_refl _) (by unfold maxLen; decide) hb35_97; (try clear hb); (try clear hy); (try clear hb35_97); (try clear hb35_91); (try clear hS_91); obtain ⟨g37, hg⟩ : ∃ q, v_91.heap.size = q := ⟨_, rfl⟩; rw [hg] at hL37_97 ⊢; clear hg; skip)
      (try go_wp2_with fail)
      refine hK.out _ _ ?_ (fun hHeld => ?_)
      · (try dsimp only)
        first | assumption
      clear hK K
      (try simp only [Act.put, List.setIfInBounds_toArray, List.set_cons_zero, List.set_cons_succ])
      refine wpAnyH_ready (rs := [33]) (by kernel_rfl) (by simp) ?_
      refine AllReadyH.cons (o := { dst := some 59, op := Go.Op.buildSlice 33 1 #[(0, Go.Operand.const (Go.Value.int Go.IntKind.u8 107))], type := 33, pos := "law.go:55", after := #[{ on := 32, ground := Go.Ground.guard }], guard := some (32, true) }) rfl (fun K hK => ?_) AllReadyH.nil
      go_simp
      (obtain ⟨v_98, hy⟩ : ∃ q, v_97.alloc (.cells #[.int .u8 107] 5) = q := ⟨_, rfl⟩; rw [hy]; have hb : Below v_97.heap.size v_97 v_98 := (by rw [← hy]; exact (Below.refl _ _).alloc (Nat.le_refl _) _); have hS_98 := hS_97.trans (hb.mono hS_97.size); have hL37_98 := hL37_97.later hb; have hb33_98 : Bytes v_98 (some ⟨v_97.heap.size, 0, none⟩) 1 (fun _ => 107) := (by rw [← hy]; exact one_byte (by decide)); have hq33_98 : Shp v_98 v_97.heap.size 1 := (by rw [← hy]; exact Shp.blk (Blk.new _ #[.int .u8 107] _)); have hl33 : w7.heap.size ≤ v_97.heap.size := hS_97.size; (try clear hb); (try clear hy); (try clear hL37_97); (try clear hS_97); obtain ⟨g33, hg⟩ : ∃ q, v_97.heap.size = q := ⟨_, rfl⟩; rw [hg] at hb33_98 hq33_98 hl33 ⊢; clear hg; skip)
      (try go_wp2_with fail)
      refine hK.out _ _ ?_ (fun hHeld => ?_)
      · (try dsimp only)
        first | assumption
      clear hK K
      (try simp only [Act.put, List.setIfInBounds_toArray, List.set_cons_zero, List.set_cons_succ])
      refine wpAnyH_ready (rs := [34]) (by kernel_rfl) (by simp) ?_
      refine AllReadyH.cons (o := { dst := some 60, op := Go.Op.convert 33 33 (Go.Operand.tmp 59), type := 33, pos := "law.go:55", after := #[{ on := 33, ground := Go.Ground.data }, { on := 32, ground := Go.Ground.guard }], guard := some (32, true) }) rfl (fun K hK => ?_) AllReadyH.nil
      (refine step_convB (by kernel_rfl) (.tmp 59) rfl g33 1 1 1 rfl hq33_98 ?_; obtain ⟨v_99, hy⟩ : ∃ q, v_98.freeze ⟨g33, 1, none⟩ 1 = q := ⟨_, rfl⟩; rw [hy]; have hO : Own g33 v_98 v_99 := (by rw [← hy]; exact Own.frz _ _ _ _); have hS_99 := hS_98.trans (hO.below hl33 hS_98.size); have hL37_99 := hL37_98.frz ⟨g33, 1, none⟩ 1; rw [hy] at hL37_99; have hb33_99 := hb33_98.frz ⟨g33, 1, none⟩ 1; rw [hy] at hb33_99; (try clear hO); (try clear hy); (try clear hl33); (try clear hL37_98); (try clear hb33_98); (try clear hq33_98); (try clear hS_98); skip)
      refine hK.out _ _ ?_ (fun hHeld => ?_)
      · (try dsimp only)
        first | assumption
      clear hK K
      (try simp only [Act.put, List.setIfInBounds_toArray, List.set_cons_zero, List.set_cons_succ])
      (try clear hHeld)
      (try clear hl33)
      (try clear hl35)
      revert hS_99
      revert hL37_99
      revert hb33_99
      revert g37
      revert g35
      revert g33
      revert v_99
      exact key1
    · intro W_J1 g33 g35 g37 hb33_J1 hL37_J1 hS_J1
      refine wpAnyH_ready (rs := [39]) (by kernel_rfl) (by simp) ?_
      refine AllReadyH.cons (o := { dst := some 65, op := Go.Op.call { callee := Go.Callee.value (Go.Operand.func 37), args := #[Go.Operand.tmp 60, Go.Operand.tmp 63, Go.Operand.tmp 64], argTypes := #[33, 34, 65] }, type := 4, pos := "law.go:55", after := #[{ on := 34, ground := Go.Ground.data }, { on := 37, ground := Go.Ground.data }, { on := 38, ground := Go.Ground.data }, { on := 32, ground := Go.Ground.chain }, { on := 32, ground := Go.Ground.guard }], guard := some (32, true) }) rfl (fun K hK => ?_) AllReadyH.nil
      go_simp
      (refine (HVE.out _ _ _ hb33_J1 hL37_J1 (HCG.out _ hS_J1)).mono ?_; rintro e v_100 ⟨rfl, hb⟩; have hS_100 := hS_J1.trans (hb.mono hS_J1.size); (try clear hb); (try clear hb33_J1); (try clear hL37_J1); (try clear hS_J1); skip)
      (try go_wp2_with fail)
      refine hK.out _ _ ?_ (fun hHeld => ?_)
      · (try dsimp only)
        first | assumption
      clear hK K
      (try simp only [Act.put, List.setIfInBounds_toArray, List.set_cons_zero, List.set_cons_succ])
      refine wpAnyH_take (i := 40) (oi := { dst := some 66, op := Go.Op.pick (Go.Operand.tmp 58) (Go.Operand.tmp 65) (Go.Operand.const (Go.Value.bool false)), type := 4, pos := "law.go:55", after := #[{ on := 32, ground := Go.Ground.data }, { on := 39, ground := Go.Ground.data }], guard := none }) (v := ?_) rfl (by kernel_rfl) (by kernel_rfl) (by kernel_rfl) (fun _ _ _ h => h) (Or.inl ⟨by rfl, ?_⟩) (by assumption) ?_
      rotate_left
      · intro wS hSw
        (try dsimp only at hSw)
        go_simp
        (try with_reducible rfl)
      (try simp only [Act.put, List.setIfInBounds_toArray, List.set_cons_zero, List.set_cons_succ])
      refine wpAnyH_take (i := 41) (oi := { dst := some 67, op := Go.Op.move (Go.Operand.tmp 66), type := 4, pos := "law.go:55", after := #[{ on := 40, ground := Go.Ground.data }, { on := 39, ground := Go.Ground.chain }], guard := none }) (v := ?_) rfl (by kernel_rfl) (by kernel_rfl) (by kernel_rfl) (fun _ _ _ h => h) (Or.inl ⟨by rfl, ?_⟩) (by assumption) ?_
      rotate_left
      · intro wS hSw
        (try dsimp only at hSw)
        go_simp
        (try with_reducible rfl)
      (try simp only [Act.put, List.setIfInBounds_toArray, List.set_cons_zero, List.set_cons_succ])
      refine wpAnyH_take (i := 43) (oi := { dst := some 69, op := Go.Op.build 65 #[], type := 65, pos := "law.go:55", after := #[{ on := 41, ground := Go.Ground.guard }], guard := some (41, true) }) (v := ?_) rfl (by kernel_rfl) (by kernel_rfl) (by kernel_rfl) (fun _ _ _ h => h) (Or.inl ⟨by rfl, ?_⟩) (by assumption) ?_
      rotate_left
      · intro wS hSw
        refine exec_buildM (C := zeroH) (parts := #[]) (ps := #[]) ?_ ?_ build_z1 <;> first | rfl | (simp; done) | (simp; rfl)
      (try simp only [Act.put, List.setIfInBounds_toArray, List.set_cons_zero, List.set_cons_succ])
      refine wpAnyH_ready (rs := [42]) (by kernel_rfl) (by simp) ?_
      refine AllReadyH.cons (o := { dst := some 68, op := Go.Op.call { callee := Go.Callee.value (Go.Operand.func 36), args := #[Go.Operand.const (Go.Value.slice none 0 0), Go.Operand.const (Go.Value.slice none 0 0)], argTypes := #[33, 34] }, type := 65, pos := "law.go:55", after := #[{ on := 41, ground := Go.Ground.chain }, { on := 41, ground := Go.Ground.guard }], guard := some (41, true) }) rfl (fun K hK => ?_) AllReadyH.nil
      go_simp
      (refine (HOF.out _ (HCG.out _ hS_100)).mono ?_; rintro e v_101 ⟨rfl, hb⟩; have hS_101 := hS_100.trans (hb.mono hS_100.size); (try clear hb); (try clear hS_100); skip)
      (try go_wp2_with fail)
      refine hK.out _ _ ?_ (fun hHeld => ?_)
      · (try dsimp only)
        first | assumption
      clear hK K
      (try simp only [Act.put, List.setIfInBounds_toArray, List.set_cons_zero, List.set_cons_succ])
      refine wpAnyH_take (i := 44) (oi := { dst := some 70, op := Go.Op.binOp Go.BinOp.eql 65 (Go.Operand.tmp 68) (Go.Operand.tmp 69) 65, type := 4, pos := "law.go:55", after := #[{ on := 42, ground := Go.Ground.data }, { on := 43, ground := Go.Ground.data }, { on := 41, ground := Go.Ground.guard }], guard := some (41, true) }) (v := ?_) rfl (by kernel_rfl) (by kernel_rfl) (by kernel_rfl) (fun _ _ _ h => h) (Or.inl ⟨by rfl, ?_⟩) (by assumption) ?_
      rotate_left
      · intro wS hSw
        refine exec_eqlM (r := 65) (x := .tmp 68) (y := .tmp 69) guard_h1 ?_ ?_ ?_ HEZ.out <;> rfl
      (try simp only [Act.put, List.setIfInBounds_toArray, List.set_cons_zero, List.set_cons_succ])
      refine wpAnyH_take (i := 45) (oi := { dst := some 71, op := Go.Op.pick (Go.Operand.tmp 67) (Go.Operand.tmp 70) (Go.Operand.const (Go.Value.bool false)), type := 4, pos := "law.go:55", after := #[{ on := 41, ground := Go.Ground.data }, { on := 44, ground := Go.Ground.data }], guard := none }) (v := ?_) rfl (by kernel_rfl) (by kernel_rfl) (by kernel_rfl) (fun _ _ _ h => h) (Or.inl ⟨by rfl, ?_⟩) (by assumption) ?_
      rotate_left
      · intro wS hSw
        (try dsimp only at hSw)
        go_simp
        (try with_reducible rfl)
      (try simp only [Act.put, List.setIfInBounds_toArray, List.set_cons_zero, List.set_cons_succ])
      refine wpAnyH_take (i := 46) (oi := { dst := some 0, op := Go.Op.assign (Go.Operand.tmp 71), type := 4, pos := "law.go:55", after := #[{ on := 45, ground := Go.Ground.data }, { on := 42, ground := Go.Ground.chain }, { on := 0, ground := Go.Ground.phase }, { on := 1, ground := Go.Ground.phase }, { on := 2, ground := Go.Ground.phase }, { on := 3, ground := Go.Ground.phase }, { on := 4, ground := Go.Ground.phase }, { on := 5, ground := Go.Ground.phase }, { on := 6, ground := Go.Ground.phase }, { on := 7, ground := Go.Ground.phase }, { on := 8, ground := Go.Ground.phase }, { on := 9, ground := Go.Ground.phase }, { on := 10, ground := Go.Ground.phase }, { on := 11, ground := Go.Ground.phase }, { on := 12, ground := Go.Ground.phase }, { on := 13, ground := Go.Ground.phase }, { on := 14, ground := Go.Ground.phase }, { on := 15, ground := Go.Ground.phase }, { on := 16, ground := Go.Ground.phase }, { on := 17, ground := Go.Ground.phase }, { on := 18, ground := Go.Ground.phase }, { on := 19, ground := Go.Ground.phase }, { on := 20, ground := Go.Ground.phase }, { on := 21, ground := Go.Ground.phase }, { on := 22, ground := Go.Ground.phase }, { on := 23, ground := Go.Ground.phase }, { on := 24, ground := Go.Ground.phase }, { on := 25, ground := Go.Ground.phase }, { on := 26, ground := Go.Ground.phase }, { on := 27, ground := Go.Ground.phase }, { on := 28, ground := Go.Ground.phase }, { on := 29, ground := Go.Ground.phase }, { on := 30, ground := Go.Ground.phase }, { on := 31, ground := Go.Ground.phase }, { on := 32, ground := Go.Ground.phase }, { on := 33, ground := Go.Ground.phase }, { on := 34, ground := Go.Ground.phase }, { on := 35, ground := Go.Ground.phase }, { on := 36, ground := Go.Ground.phase }, { on := 37, ground := Go.Ground.phase }, { on := 38, ground := Go.Ground.phase }, { on := 39, ground := Go.Ground.phase }, { on := 40, ground := Go.Ground.phase }, { on := 41, ground := Go.Ground.phase }, { on := 42, ground := Go.Ground.phase }, { on := 43, ground := Go.Ground.phase }, { on := 44, ground := Go.Ground.phase }, { on := 45, ground := Go.Ground.phase }], guard := none }) (v := ?_) rfl (by kernel_rfl) (by kernel_rfl) (by kernel_rfl) (fun _ _ _ h => h) (Or.inl ⟨by rfl, ?_⟩) (by assumption) ?_
      rotate_left
      · intro wS hSw
        (try dsimp only at hSw)
        go_simp
        (try with_reducible rfl)
      (try simp only [Act.put, List.setIfInBounds_toArray, List.set_cons_zero, List.set_cons_succ])
      refine wpAnyH_done (by kernel_rfl) ?_ _
      go_wp2_with fail
      go_ret
      exact ⟨rfl, HO.out.trans (hS_101.mono HO.out.size)⟩
end Go.Proofs.YtmabhjifldafaaaDoor
