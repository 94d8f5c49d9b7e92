/- Part of the proof: what stands here serves the walks of the functions that the statement calls. -/
import Derived.Test.YtncfocjmdecapaaGreatDoorY01
namespace Go.Proofs.YtncfocjmdecapaaGreatDoor
set_option linter.unusedVariables false
set_option linter.unusedSimpArgs false
open Go.RowKit
set_option maxRecDepth 100000
set_option maxHeartbeats 8000000
def lenV : Value → Nat
 | .slice _ n _ => n
 | _ => 0
theorem info_u8s : (Tryz.prog.info? 5).map (·.size) = some 1 := by kernel_rfl
def WI (F : Nat → Nat) (g N p : Nat) (wr : World) : Prop := ∃ R, HB wr g (chK F (p / 64)) R (p % 64) N ∧ (∀ i, i < p % 64 → R i = F (64 * (p / 64) + i)) ∧ ∀ i, i < 64 → R i < 256
theorem write_any (g n m cap : Nat) (oa : Option Addr) (F G : Nat → Nat) (w : World) (h : HS w g n F) (hb : Bytes w oa m G) (hmc : m ≤ cap) (hne : ∀ a, oa = some a → 0 < m → a.block ≠ g) (hn : n + m < 1000000000000) (hg : GV w) :
  Calls Tryz.prog 63 #[.pointer (some ⟨g, 0, none⟩), .slice oa m cap] w fun e w' => e = .returned (.tuple #[]) ∧ HS w' g (n + m) (catF n F G) ∧ Own g w w' := by
 obtain ⟨hg0, R, hB, hR1, hR2⟩ := h
 obtain ⟨FG, hFG⟩ := zX (catF n F G)
 have hFl : ∀ i, i < n → F i = FG i := fun i hi => by rw [← hFG]; exact (if_pos hi).symm
 have HFH : Hid (∀ i, FG (n + i) = G i) := zh fun i => by rw [← hFG]; show (if n + i < n then F (n + i) else G (n + i - n)) = G i; rw [if_neg (by omega), Nat.add_sub_cancel_left]
 rw [chK_congr (n / 64) (fun i hi => hFl i (by omega))] at hB
 have hR1' : ∀ i, i < n % 64 → R i = FG (64 * (n / 64) + i) := fun i hi => (hR1 i hi).trans (hFl _ (by omega))
 obtain ⟨N, hN⟩ := zX (n + m)
 have HNN : Hid (n + m = N ∧ N < 1000000000000) := zh ⟨hN, by omega⟩
 have c73 := hB.all
 have z73 : w.frozen? ⟨g, 73, none⟩ = false := Blk.free hB _
 have hw1 : IntKind.u64.wrap ((n : Int) + (m : Int)) = (N : Int) := by
  have : (n : Int) + (m : Int) = (N : Int) := by omega
  rw [this]; simp [IntKind.wrap, IntKind.bits, IntKind.signed]; omega
 have hw2 : IntKind.u64.wrap (m : Int) = (m : Int) := by simp [IntKind.wrap, IntKind.bits, IntKind.signed]; omega
 obtain ⟨wa, hwa⟩ := zX (w.setCell ⟨g, 73, none⟩ (.int .u64 (N : Nat)))
 have hO : Own g w wa := by rw [← hwa]; exact (Own.refl g w).set 73 _
 have HT : Hid (WI FG g N n wa) := zh ⟨R, by rw [← hwa]; exact hB.setn N, hR1', hR2⟩
 have HO := zh hO
 have HG0 := zh hg0
 have HG := zh hg
 have HBY : Hid (∀ w' j, j ≤ m → Own g w w' → Bytes w' oa (m - j) G → True) := zh fun _ _ _ _ _ => trivial
 have HB0 : Hid (Bytes wa oa m (fun i => G (0 + i))) := zh fun k hk => by
  obtain ⟨h1, b, off, h2, h3⟩ := hb k hk
  simp only [Nat.zero_add]
  exact ⟨h1, b, off, h2, hO.cell h3 (show b ≠ g from hne ⟨b, off, none⟩ h2 (by omega))⟩
 have HNE := zh hne
 have HMC := zh hmc
 have HGB : Hid (∀ i, i < m → G i < 256) := zh fun i hi => (hb i hi).1
 rw [hFG, hN]
 clear hFl hFG hR1 hR1' hR2 hB hg0 hg hb hne hmc hn HBY hO
 go_enter Tryz.func63, Tryz.ntmps63
 go_wp2_with fail
 clear c73 z73 hw1 hw2 hwa hN
 go_loopw [1] (fun v wr => ∃ (j c : Nat) (a : Option Addr), j ≤ m ∧ v = .slice a (m - j) c ∧ m - j ≤ c ∧ Bytes wr a (m - j) (fun i => G (j + i)) ∧ (∀ x, a = some x → 0 < m - j → x.block ≠ g) ∧ WI FG g N (n + j) wr ∧ Own g w wr) (fun v _ => lenV v)
 case atStart => exact ⟨0, cap, oa, Nat.zero_le _, rfl, HMC.out, HB0.out, HNE.out, HT.out, HO.out⟩
 case round =>
  clear HT HB0 HNE HMC HO
  obtain ⟨j, c, a, hj, rfl, hc, hby, hne, hW, hO⟩ := hrel
  have HO := zh hO
  have HNE := zh hne
  have HW := zh hW
  obtain ⟨l, hl⟩ := zX (m - j)
  rw [hl] at hc hby ⊢
  by_cases hl0 : l = 0
  ·subst hl0
   have HN : Hid (WI FG g N N wr) := zh (by have := HNN.out.1; rw [show n + j = N by omega] at hW; exact hW)
   clear hj hc hby hne hW hO hl HW HNE
   go_wp2_with fail
   refine bodyPost_end (v := .tuple #[]) (by simp [results, Tryz.results63, go_sem]) rfl ?_
   exact ⟨rfl, ⟨HG0.out, HN.out⟩, HO.out⟩
  ·obtain ⟨_, b, off, rfl, _⟩ := hby 0 (by omega)
   have hbg : b ≠ g := hne _ rfl (by omega)
   obtain ⟨p, hp⟩ := zX (n + j)
   rw [hp] at hW
   obtain ⟨R, hB, hR1, hR2⟩ := hW
   obtain ⟨k, hk⟩ := zX (p % 64)
   obtain ⟨q, hq⟩ := zX (p / 64)
   rw [hk, hq] at hB hR1
   have hk64 : k < 64 := by omega
   obtain ⟨d, hd⟩ : ∃ d, 64 = k + d := ⟨64 - k, by omega⟩
   obtain ⟨s, hs⟩ := zX (Nat.min l d)
   have hs1 : 0 < s := by rw [← hs]; exact Nat.lt_min.2 ⟨by omega, by omega⟩
   have hs2 : s ≤ l := by rw [← hs]; exact Nat.min_le_left _ _
   have hs3 : s ≤ d := by rw [← hs]; exact Nat.min_le_right _ _
   have l0 : (0 : Int) < (l : Int) := by omega
   have k0 : (0 : Int) ≤ (k : Int) := by omega
   have k1 : (k : Int) ≤ 64 := by omega
   have d0 : (64 : Int) - (k : Int) = (d : Int) := by omega
   have d1 : 64 - k = d := by omega
   have hk6 : ¬ 64 = k := by omega
   have s0 : (0 : Int) ≤ (s : Int) := by omega
   have s1 : (s : Int) ≤ (l : Int) := by omega
   have sc : (s : Int) ≤ (c : Int) := by omega
   obtain ⟨u, hu⟩ := zX (k + s)
   have w1 : IntKind.i64.wrap ((k : Int) + (s : Int)) = (u : Int) := wrs hu (by omega)
   have u1 : (k : Int) + (s : Int) = (u : Int) := by omega
   obtain ⟨R', hR'⟩ : ∃ R', cpy R (fun i => G (j + i)) k s = R' := ⟨_, rfl⟩
   have hc72 : wr.drew.cell? ⟨g, 72, none⟩ = some (.int .i64 (k : Nat)) := HB.held (w := wr.drew) hB
   obtain ⟨CS, hCS⟩ := zX (rowC s (fun i => G (j + i)))
   have HCL : Hid (CS.length = s) := zh (by rw [← hCS]; exact rowC_len _ _)
   have HCN : Hid (CS.length = Nat.min l d) := zh (by rw [HCL.out, hs])
   have HCO : Hid (∀ v ∈ CS, v.oneCell' = true) := zh (by rw [← hCS]; exact rowC_one _ _)
   have HCC : Hid (∀ i v, CS[i]? = some v → wr.drew.cell? ((⟨b, off, none⟩ : Addr).add i) = some v) := zh fun i v hv => by
    rw [← hCS] at hv
    have hi : i < s := by
     have := (List.getElem?_eq_some_iff.1 hv).1; rw [rowC_len] at this; exact this
    rw [rowC_get _ hi] at hv
    obtain ⟨_, b', off', e, hcell⟩ := hby i (by omega)
    cases e
    rw [Addr.add_mid]
    exact hcell.trans hv
   have HBD : Hid (Blk wr.drew g (hshC (chK FG q) R k N).toArray 162) := zh hB
   have HFIT : Hid (8 + k + CS.length ≤ (hshC (chK FG q) R k N).toArray.size) := zh (by rw [HCL.out, hshC_size]; omega)
   have HSPL : Hid ((splice (hshC (chK FG q) R k N) (8 + k) CS) = hshC (chK FG q) R' k N) := zh (by rw [← hCS, ← hR']; exact hshC_copy _ _ _ _ _ _ _ (by omega))
   have HR2' : Hid (∀ i, i < 64 → R' i < 256) := zh fun i hi => by
    rw [← hR']; unfold cpy
    split
    ·exact HGB.out _ (by omega)
    ·exact hR2 i hi
   have HR1' : Hid (∀ i, i < u → R' i = FG (64 * q + i)) := zh fun i hi => by
    rw [← hR']; unfold cpy
    by_cases e : k ≤ i ∧ i < k + s
    ·rw [if_pos e]
     show G (j + (i - k)) = FG (64 * q + i)
     rw [← HFH.out]; congr 1; omega
    ·rw [if_neg e]; exact hR1 i (by omega)
   have HBYN : Hid (∀ w', Own g wr w' → Bytes w' (some ⟨b, off + s, none⟩) (l - s) (fun i => G (j + s + i))) := zh fun w' hO' i hi => by
    obtain ⟨h1, b', off', e, hcell⟩ := hby (s + i) (by omega)
    cases e
    simp only [Nat.add_assoc]
    exact ⟨h1, b, off + s, rfl, by rw [Nat.add_assoc]; exact hO'.cell hcell hbg⟩
   have HNUM : Hid (p = 64 * q + k ∧ n + j = p ∧ m - j = l ∧ j ≤ m ∧ s ≤ l ∧ 0 < s ∧ k + s = u ∧ u ≤ 64 ∧ l ≤ c) := zh ⟨by omega, hp, hl, hj, hs2, hs1, hu, by omega, hc⟩
   have HBG := zh hbg
   have HOD : Hid (Own g w wr.drew) := zh hO.drew
   have HWD : Hid (Own g wr wr.drew) := zh ((Own.refl g wr).drew)
   clear hR' hCS hs hu hR1 hR2 hB hby hne hO hp hk hq hl hj hl0 HW HNE hc hd hbg
   go_wp2_with fail
   refine still_tail 9 (by kernel_rfl) (by kernel_rfl) ?_
   simp only [List.take_succ_cons, List.take_zero, List.drop_succ_cons, List.drop_zero]
   generalize wr.drew = W0 at *
   repeat still_step
   refine wpStill_nil ?_
   refine wpList_copy_own rfl (.tmp 27) (.tmp 28) 24 24 rfl 5 Tryz.underlying24 info_u8s g (8 + k) d d ⟨b, off, none⟩ l c rfl rfl (hshC (chK FG q) R k N).toArray 162 HBD.out CS HCN.out HCC.out HFIT.out HCO.out ?_
   show wpList _ _ _ _ _ (W0.setRow g (splice (hshC (chK FG q) R k N) (8 + k) CS).toArray)
   rw [HSPL.out, HCL.out]
   obtain ⟨w5, hw5⟩ := zX (W0.setRow g (hshC (chK FG q) R' k N).toArray)
   have H5 : HB w5 g (chK FG q) R' k N := by rw [← hw5]; exact Blk.setRow HBD.out _
   have O5 : Own g w w5 := by rw [← hw5]; exact HOD.out.trans (Own.setRow _ _)
   rw [hw5]
   obtain ⟨w6, hw6⟩ := zX (w5.setCell ⟨g, 72, none⟩ (.int .i64 (u : Nat)))
   have H6 : HB w6 g (chK FG q) R' u N := by rw [← hw6]; exact H5.setk u
   have O6 : Own g w w6 := by rw [← hw6]; exact O5.set 72 _
   have OW : Own g wr w6 := by rw [← hw6, ← hw5]; exact (HWD.out.trans (Own.setRow _ _)).set 72 _
   have c72 := H5.held
   have z72 : w5.frozen? ⟨g, 72, none⟩ = false := Blk.free H5 _
   have e72 := H6.held
   have H6' := zh H6
   have O6' := zh O6
   clear H5 O5 H6 O6 hw5 HCN HCC HBD HFIT HSPL HCO HCL
   have OW := zh OW
   obtain ⟨L1, hL1⟩ := zX (rowW 8 (chK FG q))
   obtain ⟨L2, hL2⟩ := zX (rowC 64 R')
   clear HOD HWD HO
   have hsp : 0 < s := HNUM.out.2.2.2.2.2.1
   by_cases hcs : c = s
   ·have hls : l = s := by have := HNUM.out; omega
    have HLS := zh hls
    clear hls
    by_cases hu : u = 64
    ·subst hu
     have hw6 : w5.setCell ⟨g, 72, none⟩ (.int .i64 64) = w6 := hw6
     have w1 : IntKind.i64.wrap ((k : Int) + (s : Int)) = 64 := w1
     have u1 : (k : Int) + (s : Int) = 64 := u1
     have HRW : Hid (w6.drew.rangeAt g 0 L1) := zh (hL1 ▸ HB.rangeW (w := w6.drew) H6'.out)
     have HRR : Hid (w6.drew.rangeAt g 8 L2) := zh (hL2 ▸ HB.rangeR (w := w6.drew) H6'.out)
     have H6D : Hid (HB w6.drew g (chK FG q) R' 64 N) := zh H6'.out
     have O6D : Hid (Own g w w6.drew) := zh O6'.out.drew
     have OWD : Hid (Own g wr w6.drew) := zh OW.out.drew
     have HI1 : Hid ((Tryz.prog.info? 149).map (·.size) = some L1.length) := zh (hL1 ▸ info56l _)
     have HI2 : Hid ((Tryz.prog.info? 124).map (·.size) = some L2.length) := zh (hL2 ▸ info57l _)
     have HMX : Hid (∀ w', GV w' → Calls Tryz.prog 85 #[.agg L1.toArray, .agg L2.toArray] w' fun e w'' => e = .returned (.agg (rowW 8 (chK FG (q + 1))).toArray) ∧ Below w'.heap.size w' w'') := zh fun w' h => by
      have e : chK FG (q + 1) = mixN (chK FG q) R' := by
       show mixN (chK FG q) _ = _
       exact mixN_congr fun i hi => (HR1'.out i hi).symm
      rw [e, ← hL1, ← hL2]; exact mixed_any _ _ w' (fun j _ => chK_lt _ _ _) HR2'.out h
     have HLL := zh hL1
     clear hL1 hL2 OW O6' H6'
     go_wp2_with fail
     obtain ⟨CM, hCM⟩ := zX ((rowW 8 (chK FG (q + 1))).toArray)
     have HJ1 : Hid ((Tryz.prog.info? 149).map (·.size) = some CM.size) := zh (hCM ▸ info56 (chK FG (q + 1)))
     have HJ2 : Hid (CM.all (·.oneCell') = true) := zh (hCM ▸ one8w (chK FG (q + 1)))
     rw [hCM] at HMX
     refine wp_region_held_drew (S := (fun _ => True)) (by kernel_rfl) ?_ (fun hHeld => ?_)
     ·(try dsimp only)
      all_goals (first | trivial | assumption)
     generalize w6.drew = W7 at *
     refine wT 0 ?_ rfl ?_ ?_
     rotate_left
     ·intro wS hSw
      (try dsimp only at hSw)
      go_simp
      (try with_reducible rfl)
     (try simp only [Act.put, zS])
     refine wT 1 ?_ rfl ?_ ?_
     rotate_left
     ·intro wS hSw
      (try dsimp only at hSw)
      go_simp
      (try with_reducible rfl)
     (try simp only [Act.put, zS])
     refine wT 2 ?_ rfl ?_ ?_
     rotate_left
     ·intro wS hSw
      (try dsimp only at hSw)
      go_simp
      (try with_reducible rfl)
     (try simp only [Act.put, zS])
     refine wT 3 ?_ rfl ?_ ?_
     rotate_left
     ·intro wS hSw
      (try dsimp only at hSw)
      go_simp
      (try with_reducible rfl)
     (try simp only [Act.put, zS])
     refine wT 5 ?_ rfl ?_ ?_
     rotate_left
     ·intro wS hSw
      (try dsimp only at hSw)
      go_simp
      (try with_reducible rfl)
     (try simp only [Act.put, zS])
     refine wT 6 ?_ rfl ?_ ?_
     rotate_left
     ·intro wS hSw
      (try dsimp only at hSw)
      go_simp
      (try with_reducible rfl)
     (try simp only [Act.put, zS])
     refine wT 7 ?_ rfl ?_ ?_
     rotate_left
     ·intro wS hSw
      (try dsimp only at hSw)
      go_simp
      (try with_reducible rfl)
     (try simp only [Act.put, zS])
     refine wR [4, 8] ?_
     refine aC rfl (fun K hK => ?_) ?_
     ·skip
      (refine step_loadM rfl 149 (.tmp 49) rfl g 0 rfl L1 _ HRW.out Tryz.underlying149 rfl HI1.out ?_; skip)
      refine hK.out _ _ ?_ fun hHeld => ?_
      ·(try dsimp only)
       all_goals (first | trivial | assumption)
      clear hK K
      (try simp only [Act.put, zS])
      refine wR [8] ?_
      refine aN rfl fun K hK => ?_
      (refine step_loadM rfl 124 (.tmp 53) rfl g 8 rfl L2 _ HRR.out Tryz.underlying124 rfl HI2.out ?_; skip)
      refine hK.out _ _ ?_ fun hHeld => ?_
      ·(try dsimp only)
       all_goals (first | trivial | assumption)
      clear hK K
      (try simp only [Act.put, zS])
      refine wR [9] ?_
      refine aN rfl fun K hK => ?_
      go_simp
      (refine (HMX.out _ (HG.out.own O6D.out HG0.out.1 HG0.out.2)).mono ?_; rintro e v_1 ⟨rfl, hb8⟩; have H8 : Hid (HB v_1 g (chK FG q) R' 64 N) := zh (Blk.below H6D.out hb8 (Blk.lt H6D.out)); have O8 : Hid (Own g w v_1) := zh (O6D.out.trans (Own.of_below hb8)); have OW8 : Hid (Own g wr v_1) := zh (OWD.out.trans (Own.of_below hb8)); have HTH : Hid (v_1.there g 0 CM.size) := zh (hCM ▸ there_mid H8.out (by rw [rowW_size, hshC_len]; decide)); clear hb8; skip)
      (try go_wp2_with fail)
      refine hK.out _ _ ?_ fun hHeld => ?_
      ·(try dsimp only)
       all_goals (first | trivial | assumption)
      clear hK K
      (try simp only [Act.put, zS])
      refine wT 10 ?_ rfl ?_ ?_
      rotate_left
      ·intro wS hSw
       (try dsimp only at hSw)
       go_simp
       (try with_reducible rfl)
      (try simp only [Act.put, zS])
      refine wT 11 ?_ rfl ?_ ?_
      rotate_left
      ·intro wS hSw
       (try dsimp only at hSw)
       go_simp
       (try with_reducible rfl)
      (try simp only [Act.put, zS])
      refine wR [12] ?_
      refine aN rfl fun K hK => ?_
      (refine step_storeM rfl 149 (.tmp 57) (.tmp 55) rfl g 0 CM rfl rfl HTH.out HJ1.out HJ2.out ?_; obtain ⟨w9, hw9⟩ : ∃ q', v_1.setCells g 0 CM.toList = q' := ⟨_, rfl⟩; rw [hw9]; skip)
      refine hK.out _ _ ?_ fun hHeld => ?_
      ·(try dsimp only)
       all_goals (first | trivial | assumption)
      clear hK K
      (try simp only [Act.put, zS])
      refine wpAnyH_done (by kernel_rfl) ?_ _
      have H9 : HB w9 g (chK FG (q + 1)) R' 64 N := by rw [← hw9, ← hCM]; exact H8.out.words _
      have O9 : Own g w w9 := by rw [← hw9]; exact O8.out.trans (Own.setCells _ _ _)
      have OW9 : Own g wr w9 := by rw [← hw9]; exact OW8.out.trans (Own.setCells _ _ _)
      have c9 := H9.held
      have z9 : w9.frozen? ⟨g, 72, none⟩ = false := Blk.free H9 _
      obtain ⟨w10, hw10⟩ := zX (w9.setCell ⟨g, 72, none⟩ (.int .i64 0))
      have HX : Hid (WI FG g N (n + (j + s)) w10) := zh (by
       have h1 := HNUM.out
       refine ⟨R', ?_, fun i hi => ?_, HR2'.out⟩
       ·rw [show (n + (j + s)) / 64 = q + 1 by omega, show (n + (j + s)) % 64 = 0 by omega, ← hw10]; exact H9.setk 0
       ·rw [show (n + (j + s)) % 64 = 0 by omega] at hi; exact absurd hi (Nat.not_lt_zero _))
      have O10 : Hid (Own g w w10) := zh (by rw [← hw10]; exact O9.set 72 _)
      have hO : Own g wr w10 := by rw [← hw10]; exact OW9.set 72 _
      have HBF : Hid (Bytes w10 (some ⟨b, off, none⟩) (m - (j + s)) (fun i => G (j + s + i))) := zh (fun i hi => absurd hi (by have := HNUM.out; omega))
      clear H8 O8 OW8 H9 O9 OW9 hO HRW HRR H6D O6D OWD HMX HBYN hw9 hCM HTH
      go_wp2_with fail
      clear hw10 c9 z9
      have HNE' : Hid (∀ x, some (⟨b, off, none⟩ : Addr) = some x → 0 < m - (j + s) → x.block ≠ g) := zh fun x hx _ => by cases hx; exact HBG.out
      go_roundw
      case rel => exact ⟨j + s, _, some ⟨b, off, none⟩, by have := HNUM.out; omega, (by have h9 : m - (j + s) = l - s := (by have := HNUM.out; omega); first | (rw [h9]; done) | (rw [h9]; congr 1; omega)), by have := HNUM.out; omega, HBF.out, HNE'.out, HX.out, O10.out⟩
      case measure => simp [lenV]; omega
     refine aN rfl fun K hK => ?_
     (refine step_loadM rfl 124 (.tmp 53) rfl g 8 rfl L2 _ HRR.out Tryz.underlying124 rfl HI2.out ?_; skip)
     refine hK.out _ _ ?_ fun hHeld => ?_
     ·(try dsimp only)
      all_goals (first | trivial | assumption)
     clear hK K
     (try simp only [Act.put, zS])
     refine wR [4] ?_
     refine aN rfl fun K hK => ?_
     (refine step_loadM rfl 149 (.tmp 49) rfl g 0 rfl L1 _ HRW.out Tryz.underlying149 rfl HI1.out ?_; skip)
     refine hK.out _ _ ?_ fun hHeld => ?_
     ·(try dsimp only)
      all_goals (first | trivial | assumption)
     clear hK K
     (try simp only [Act.put, zS])
     refine wR [9] ?_
     refine aN rfl fun K hK => ?_
     go_simp
     (refine (HMX.out _ (HG.out.own O6D.out HG0.out.1 HG0.out.2)).mono ?_; rintro e v_3 ⟨rfl, hb8⟩; have H8 : Hid (HB v_3 g (chK FG q) R' 64 N) := zh (Blk.below H6D.out hb8 (Blk.lt H6D.out)); have O8 : Hid (Own g w v_3) := zh (O6D.out.trans (Own.of_below hb8)); have OW8 : Hid (Own g wr v_3) := zh (OWD.out.trans (Own.of_below hb8)); have HTH : Hid (v_3.there g 0 CM.size) := zh (hCM ▸ there_mid H8.out (by rw [rowW_size, hshC_len]; decide)); clear hb8; skip)
     (try go_wp2_with fail)
     refine hK.out _ _ ?_ fun hHeld => ?_
     ·(try dsimp only)
      all_goals (first | trivial | assumption)
     clear hK K
     (try simp only [Act.put, zS])
     refine wT 10 ?_ rfl ?_ ?_
     rotate_left
     ·intro wS hSw
      (try dsimp only at hSw)
      go_simp
      (try with_reducible rfl)
     (try simp only [Act.put, zS])
     refine wT 11 ?_ rfl ?_ ?_
     rotate_left
     ·intro wS hSw
      (try dsimp only at hSw)
      go_simp
      (try with_reducible rfl)
     (try simp only [Act.put, zS])
     refine wR [12] ?_
     refine aN rfl fun K hK => ?_
     (refine step_storeM rfl 149 (.tmp 57) (.tmp 55) rfl g 0 CM rfl rfl HTH.out HJ1.out HJ2.out ?_; obtain ⟨w9, hw9⟩ : ∃ q', v_3.setCells g 0 CM.toList = q' := ⟨_, rfl⟩; rw [hw9]; skip)
     refine hK.out _ _ ?_ fun hHeld => ?_
     ·(try dsimp only)
      all_goals (first | trivial | assumption)
     clear hK K
     (try simp only [Act.put, zS])
     refine wpAnyH_done (by kernel_rfl) ?_ _
     have H9 : HB w9 g (chK FG (q + 1)) R' 64 N := by rw [← hw9, ← hCM]; exact H8.out.words _
     have O9 : Own g w w9 := by rw [← hw9]; exact O8.out.trans (Own.setCells _ _ _)
     have OW9 : Own g wr w9 := by rw [← hw9]; exact OW8.out.trans (Own.setCells _ _ _)
     have c9 := H9.held
     have z9 : w9.frozen? ⟨g, 72, none⟩ = false := Blk.free H9 _
     obtain ⟨w10, hw10⟩ := zX (w9.setCell ⟨g, 72, none⟩ (.int .i64 0))
     have HX : Hid (WI FG g N (n + (j + s)) w10) := zh (by
      have h1 := HNUM.out
      refine ⟨R', ?_, fun i hi => ?_, HR2'.out⟩
      ·rw [show (n + (j + s)) / 64 = q + 1 by omega, show (n + (j + s)) % 64 = 0 by omega, ← hw10]; exact H9.setk 0
      ·rw [show (n + (j + s)) % 64 = 0 by omega] at hi; exact absurd hi (Nat.not_lt_zero _))
     have O10 : Hid (Own g w w10) := zh (by rw [← hw10]; exact O9.set 72 _)
     have hO : Own g wr w10 := by rw [← hw10]; exact OW9.set 72 _
     have HBF : Hid (Bytes w10 (some ⟨b, off, none⟩) (m - (j + s)) (fun i => G (j + s + i))) := zh (fun i hi => absurd hi (by have := HNUM.out; omega))
     clear H8 O8 OW8 H9 O9 OW9 hO HRW HRR H6D O6D OWD HMX HBYN hw9 hCM HTH
     go_wp2_with fail
     clear hw10 c9 z9
     have HNE' : Hid (∀ x, some (⟨b, off, none⟩ : Addr) = some x → 0 < m - (j + s) → x.block ≠ g) := zh fun x hx _ => by cases hx; exact HBG.out
     go_roundw
     case rel => exact ⟨j + s, _, some ⟨b, off, none⟩, by have := HNUM.out; omega, (by have h9 : m - (j + s) = l - s := (by have := HNUM.out; omega); first | (rw [h9]; done) | (rw [h9]; congr 1; omega)), by have := HNUM.out; omega, HBF.out, HNE'.out, HX.out, O10.out⟩
     case measure => simp [lenV]; omega
    ·have hu' : ¬ (u : Int) = 64 := by omega
     have HU : Hid (u ≠ 64) := zh hu
     have hO := OW.out
     have HBF : Hid (Bytes w6 (some ⟨b, off, none⟩) (m - (j + s)) (fun i => G (j + s + i))) := zh (fun i hi => absurd hi (by have := HNUM.out; omega))
     clear hu hO OW HBYN hL1 hL2
     go_wp2_with fail
     have HX : Hid (WI FG g N (n + (j + s)) w6) := zh (by
      have h1 := HNUM.out
      have h2 := HU.out
      refine ⟨R', ?_, fun i hi => ?_, HR2'.out⟩
      ·rw [show (n + (j + s)) / 64 = q by omega, show (n + (j + s)) % 64 = u by omega]; exact H6'.out
      ·rw [show (n + (j + s)) / 64 = q by omega]; exact HR1'.out i (by omega))
     have HNE' : Hid (∀ x, some (⟨b, off, none⟩ : Addr) = some x → 0 < m - (j + s) → x.block ≠ g) := zh fun x hx _ => by cases hx; exact HBG.out
     go_roundw
     case rel => exact ⟨j + s, _, some ⟨b, off, none⟩, by have := HNUM.out; omega, (by have h9 : m - (j + s) = l - s := (by have := HNUM.out; omega); first | (rw [h9]; done) | (rw [h9]; congr 1; omega)), by have := HNUM.out; omega, HBF.out, HNE'.out, HX.out, O6'.out⟩
     case measure => simp [lenV]; omega
   ·skip
    by_cases hu : u = 64
    ·subst hu
     have hw6 : w5.setCell ⟨g, 72, none⟩ (.int .i64 64) = w6 := hw6
     have w1 : IntKind.i64.wrap ((k : Int) + (s : Int)) = 64 := w1
     have u1 : (k : Int) + (s : Int) = 64 := u1
     have HRW : Hid (w6.drew.rangeAt g 0 L1) := zh (hL1 ▸ HB.rangeW (w := w6.drew) H6'.out)
     have HRR : Hid (w6.drew.rangeAt g 8 L2) := zh (hL2 ▸ HB.rangeR (w := w6.drew) H6'.out)
     have H6D : Hid (HB w6.drew g (chK FG q) R' 64 N) := zh H6'.out
     have O6D : Hid (Own g w w6.drew) := zh O6'.out.drew
     have OWD : Hid (Own g wr w6.drew) := zh OW.out.drew
     have HI1 : Hid ((Tryz.prog.info? 149).map (·.size) = some L1.length) := zh (hL1 ▸ info56l _)
     have HI2 : Hid ((Tryz.prog.info? 124).map (·.size) = some L2.length) := zh (hL2 ▸ info57l _)
     have HMX : Hid (∀ w', GV w' → Calls Tryz.prog 85 #[.agg L1.toArray, .agg L2.toArray] w' fun e w'' => e = .returned (.agg (rowW 8 (chK FG (q + 1))).toArray) ∧ Below w'.heap.size w' w'') := zh fun w' h => by
      have e : chK FG (q + 1) = mixN (chK FG q) R' := by
       show mixN (chK FG q) _ = _
       exact mixN_congr fun i hi => (HR1'.out i hi).symm
      rw [e, ← hL1, ← hL2]; exact mixed_any _ _ w' (fun j _ => chK_lt _ _ _) HR2'.out h
     have HLL := zh hL1
     clear hL1 hL2 OW O6' H6'
     go_wp2_with fail
     obtain ⟨CM, hCM⟩ := zX ((rowW 8 (chK FG (q + 1))).toArray)
     have HJ1 : Hid ((Tryz.prog.info? 149).map (·.size) = some CM.size) := zh (hCM ▸ info56 (chK FG (q + 1)))
     have HJ2 : Hid (CM.all (·.oneCell') = true) := zh (hCM ▸ one8w (chK FG (q + 1)))
     rw [hCM] at HMX
     refine wp_region_held_drew (S := (fun _ => True)) (by kernel_rfl) ?_ (fun hHeld => ?_)
     ·(try dsimp only)
      all_goals (first | trivial | assumption)
     generalize w6.drew = W7 at *
     refine wT 0 ?_ rfl ?_ ?_
     rotate_left
     ·intro wS hSw
      (try dsimp only at hSw)
      go_simp
      (try with_reducible rfl)
     (try simp only [Act.put, zS])
     refine wT 1 ?_ rfl ?_ ?_
     rotate_left
     ·intro wS hSw
      (try dsimp only at hSw)
      go_simp
      (try with_reducible rfl)
     (try simp only [Act.put, zS])
     refine wT 2 ?_ rfl ?_ ?_
     rotate_left
     ·intro wS hSw
      (try dsimp only at hSw)
      go_simp
      (try with_reducible rfl)
     (try simp only [Act.put, zS])
     refine wT 3 ?_ rfl ?_ ?_
     rotate_left
     ·intro wS hSw
      (try dsimp only at hSw)
      go_simp
      (try with_reducible rfl)
     (try simp only [Act.put, zS])
     refine wT 5 ?_ rfl ?_ ?_
     rotate_left
     ·intro wS hSw
      (try dsimp only at hSw)
      go_simp
      (try with_reducible rfl)
     (try simp only [Act.put, zS])
     refine wT 6 ?_ rfl ?_ ?_
     rotate_left
     ·intro wS hSw
      (try dsimp only at hSw)
      go_simp
      (try with_reducible rfl)
     (try simp only [Act.put, zS])
     refine wT 7 ?_ rfl ?_ ?_
     rotate_left
     ·intro wS hSw
      (try dsimp only at hSw)
      go_simp
      (try with_reducible rfl)
     (try simp only [Act.put, zS])
     refine wR [4, 8] ?_
     refine aC rfl (fun K hK => ?_) ?_
     ·skip
      (refine step_loadM rfl 149 (.tmp 49) rfl g 0 rfl L1 _ HRW.out Tryz.underlying149 rfl HI1.out ?_; skip)
      refine hK.out _ _ ?_ fun hHeld => ?_
      ·(try dsimp only)
       all_goals (first | trivial | assumption)
      clear hK K
      (try simp only [Act.put, zS])
      refine wR [8] ?_
      refine aN rfl fun K hK => ?_
      (refine step_loadM rfl 124 (.tmp 53) rfl g 8 rfl L2 _ HRR.out Tryz.underlying124 rfl HI2.out ?_; skip)
      refine hK.out _ _ ?_ fun hHeld => ?_
      ·(try dsimp only)
       all_goals (first | trivial | assumption)
      clear hK K
      (try simp only [Act.put, zS])
      refine wR [9] ?_
      refine aN rfl fun K hK => ?_
      go_simp
      (refine (HMX.out _ (HG.out.own O6D.out HG0.out.1 HG0.out.2)).mono ?_; rintro e v_5 ⟨rfl, hb8⟩; have H8 : Hid (HB v_5 g (chK FG q) R' 64 N) := zh (Blk.below H6D.out hb8 (Blk.lt H6D.out)); have O8 : Hid (Own g w v_5) := zh (O6D.out.trans (Own.of_below hb8)); have OW8 : Hid (Own g wr v_5) := zh (OWD.out.trans (Own.of_below hb8)); have HTH : Hid (v_5.there g 0 CM.size) := zh (hCM ▸ there_mid H8.out (by rw [rowW_size, hshC_len]; decide)); clear hb8; skip)
      (try go_wp2_with fail)
      refine hK.out _ _ ?_ fun hHeld => ?_
      ·(try dsimp only)
       all_goals (first | trivial | assumption)
      clear hK K
      (try simp only [Act.put, zS])
      refine wT 10 ?_ rfl ?_ ?_
      rotate_left
      ·intro wS hSw
       (try dsimp only at hSw)
       go_simp
       (try with_reducible rfl)
      (try simp only [Act.put, zS])
      refine wT 11 ?_ rfl ?_ ?_
      rotate_left
      ·intro wS hSw
       (try dsimp only at hSw)
       go_simp
       (try with_reducible rfl)
      (try simp only [Act.put, zS])
      refine wR [12] ?_
      refine aN rfl fun K hK => ?_
      (refine step_storeM rfl 149 (.tmp 57) (.tmp 55) rfl g 0 CM rfl rfl HTH.out HJ1.out HJ2.out ?_; obtain ⟨w9, hw9⟩ : ∃ q', v_5.setCells g 0 CM.toList = q' := ⟨_, rfl⟩; rw [hw9]; skip)
      refine hK.out _ _ ?_ fun hHeld => ?_
      ·(try dsimp only)
       all_goals (first | trivial | assumption)
      clear hK K
      (try simp only [Act.put, zS])
      refine wpAnyH_done (by kernel_rfl) ?_ _
      have H9 : HB w9 g (chK FG (q + 1)) R' 64 N := by rw [← hw9, ← hCM]; exact H8.out.words _
      have O9 : Own g w w9 := by rw [← hw9]; exact O8.out.trans (Own.setCells _ _ _)
      have OW9 : Own g wr w9 := by rw [← hw9]; exact OW8.out.trans (Own.setCells _ _ _)
      have c9 := H9.held
      have z9 : w9.frozen? ⟨g, 72, none⟩ = false := Blk.free H9 _
      obtain ⟨w10, hw10⟩ := zX (w9.setCell ⟨g, 72, none⟩ (.int .i64 0))
      have HX : Hid (WI FG g N (n + (j + s)) w10) := zh (by
       have h1 := HNUM.out
       refine ⟨R', ?_, fun i hi => ?_, HR2'.out⟩
       ·rw [show (n + (j + s)) / 64 = q + 1 by omega, show (n + (j + s)) % 64 = 0 by omega, ← hw10]; exact H9.setk 0
       ·rw [show (n + (j + s)) % 64 = 0 by omega] at hi; exact absurd hi (Nat.not_lt_zero _))
      have O10 : Hid (Own g w w10) := zh (by rw [← hw10]; exact O9.set 72 _)
      have hO : Own g wr w10 := by rw [← hw10]; exact OW9.set 72 _
      have HBF : Hid (Bytes w10 (some ⟨b, off + s, none⟩) (m - (j + s)) (fun i => G (j + s + i))) := zh (by have := HNUM.out; rw [show m - (j + s) = l - s by omega]; exact HBYN.out _ hO)
      clear H8 O8 OW8 H9 O9 OW9 hO HRW HRR H6D O6D OWD HMX HBYN hw9 hCM HTH
      go_wp2_with fail
      clear hw10 c9 z9
      have HNE' : Hid (∀ x, some (⟨b, off + s, none⟩ : Addr) = some x → 0 < m - (j + s) → x.block ≠ g) := zh fun x hx _ => by cases hx; exact HBG.out
      go_roundw
      case rel => exact ⟨j + s, _, some ⟨b, off + s, none⟩, by have := HNUM.out; omega, (by have h9 : m - (j + s) = l - s := (by have := HNUM.out; omega); first | (rw [h9]; done) | (rw [h9]; congr 1; omega)), by have := HNUM.out; omega, HBF.out, HNE'.out, HX.out, O10.out⟩
      case measure => simp [lenV]; omega
     refine aN rfl fun K hK => ?_
     (refine step_loadM rfl 124 (.tmp 53) rfl g 8 rfl L2 _ HRR.out Tryz.underlying124 rfl HI2.out ?_; skip)
     refine hK.out _ _ ?_ fun hHeld => ?_
     ·(try dsimp only)
      all_goals (first | trivial | assumption)
     clear hK K
     (try simp only [Act.put, zS])
     refine wR [4] ?_
     refine aN rfl fun K hK => ?_
     (refine step_loadM rfl 149 (.tmp 49) rfl g 0 rfl L1 _ HRW.out Tryz.underlying149 rfl HI1.out ?_; skip)
     refine hK.out _ _ ?_ fun hHeld => ?_
     ·(try dsimp only)
      all_goals (first | trivial | assumption)
     clear hK K
     (try simp only [Act.put, zS])
     refine wR [9] ?_
     refine aN rfl fun K hK => ?_
     go_simp
     (refine (HMX.out _ (HG.out.own O6D.out HG0.out.1 HG0.out.2)).mono ?_; rintro e v_7 ⟨rfl, hb8⟩; have H8 : Hid (HB v_7 g (chK FG q) R' 64 N) := zh (Blk.below H6D.out hb8 (Blk.lt H6D.out)); have O8 : Hid (Own g w v_7) := zh (O6D.out.trans (Own.of_below hb8)); have OW8 : Hid (Own g wr v_7) := zh (OWD.out.trans (Own.of_below hb8)); have HTH : Hid (v_7.there g 0 CM.size) := zh (hCM ▸ there_mid H8.out (by rw [rowW_size, hshC_len]; decide)); clear hb8; skip)
     (try go_wp2_with fail)
     refine hK.out _ _ ?_ fun hHeld => ?_
     ·(try dsimp only)
      all_goals (first | trivial | assumption)
     clear hK K
     (try simp only [Act.put, zS])
     refine wT 10 ?_ rfl ?_ ?_
     rotate_left
     ·intro wS hSw
      (try dsimp only at hSw)
      go_simp
      (try with_reducible rfl)
     (try simp only [Act.put, zS])
     refine wT 11 ?_ rfl ?_ ?_
     rotate_left
     ·intro wS hSw
      (try dsimp only at hSw)
      go_simp
      (try with_reducible rfl)
     (try simp only [Act.put, zS])
     refine wR [12] ?_
     refine aN rfl fun K hK => ?_
     (refine step_storeM rfl 149 (.tmp 57) (.tmp 55) rfl g 0 CM rfl rfl HTH.out HJ1.out HJ2.out ?_; obtain ⟨w9, hw9⟩ : ∃ q', v_7.setCells g 0 CM.toList = q' := ⟨_, rfl⟩; rw [hw9]; skip)
     refine hK.out _ _ ?_ fun hHeld => ?_
     ·(try dsimp only)
      all_goals (first | trivial | assumption)
     clear hK K
     (try simp only [Act.put, zS])
     refine wpAnyH_done (by kernel_rfl) ?_ _
     have H9 : HB w9 g (chK FG (q + 1)) R' 64 N := by rw [← hw9, ← hCM]; exact H8.out.words _
     have O9 : Own g w w9 := by rw [← hw9]; exact O8.out.trans (Own.setCells _ _ _)
     have OW9 : Own g wr w9 := by rw [← hw9]; exact OW8.out.trans (Own.setCells _ _ _)
     have c9 := H9.held
     have z9 : w9.frozen? ⟨g, 72, none⟩ = false := Blk.free H9 _
     obtain ⟨w10, hw10⟩ := zX (w9.setCell ⟨g, 72, none⟩ (.int .i64 0))
     have HX : Hid (WI FG g N (n + (j + s)) w10) := zh (by
      have h1 := HNUM.out
      refine ⟨R', ?_, fun i hi => ?_, HR2'.out⟩
      ·rw [show (n + (j + s)) / 64 = q + 1 by omega, show (n + (j + s)) % 64 = 0 by omega, ← hw10]; exact H9.setk 0
      ·rw [show (n + (j + s)) % 64 = 0 by omega] at hi; exact absurd hi (Nat.not_lt_zero _))
     have O10 : Hid (Own g w w10) := zh (by rw [← hw10]; exact O9.set 72 _)
     have hO : Own g wr w10 := by rw [← hw10]; exact OW9.set 72 _
     have HBF : Hid (Bytes w10 (some ⟨b, off + s, none⟩) (m - (j + s)) (fun i => G (j + s + i))) := zh (by have := HNUM.out; rw [show m - (j + s) = l - s by omega]; exact HBYN.out _ hO)
     clear H8 O8 OW8 H9 O9 OW9 hO HRW HRR H6D O6D OWD HMX HBYN hw9 hCM HTH
     go_wp2_with fail
     clear hw10 c9 z9
     have HNE' : Hid (∀ x, some (⟨b, off + s, none⟩ : Addr) = some x → 0 < m - (j + s) → x.block ≠ g) := zh fun x hx _ => by cases hx; exact HBG.out
     go_roundw
     case rel => exact ⟨j + s, _, some ⟨b, off + s, none⟩, by have := HNUM.out; omega, (by have h9 : m - (j + s) = l - s := (by have := HNUM.out; omega); first | (rw [h9]; done) | (rw [h9]; congr 1; omega)), by have := HNUM.out; omega, HBF.out, HNE'.out, HX.out, O10.out⟩
     case measure => simp [lenV]; omega
    ·have hu' : ¬ (u : Int) = 64 := by omega
     have HU : Hid (u ≠ 64) := zh hu
     have hO := OW.out
     have HBF : Hid (Bytes w6 (some ⟨b, off + s, none⟩) (m - (j + s)) (fun i => G (j + s + i))) := zh (by have := HNUM.out; rw [show m - (j + s) = l - s by omega]; exact HBYN.out _ hO)
     clear hu hO OW HBYN hL1 hL2
     go_wp2_with fail
     have HX : Hid (WI FG g N (n + (j + s)) w6) := zh (by
      have h1 := HNUM.out
      have h2 := HU.out
      refine ⟨R', ?_, fun i hi => ?_, HR2'.out⟩
      ·rw [show (n + (j + s)) / 64 = q by omega, show (n + (j + s)) % 64 = u by omega]; exact H6'.out
      ·rw [show (n + (j + s)) / 64 = q by omega]; exact HR1'.out i (by omega))
     have HNE' : Hid (∀ x, some (⟨b, off + s, none⟩ : Addr) = some x → 0 < m - (j + s) → x.block ≠ g) := zh fun x hx _ => by cases hx; exact HBG.out
     go_roundw
     case rel => exact ⟨j + s, _, some ⟨b, off + s, none⟩, by have := HNUM.out; omega, (by have h9 : m - (j + s) = l - s := (by have := HNUM.out; omega); first | (rw [h9]; done) | (rw [h9]; congr 1; omega)), by have := HNUM.out; omega, HBF.out, HNE'.out, HX.out, O6'.out⟩
     case measure => simp [lenV]; omega
theorem num4 (V : Nat) (k d : Nat) (hk : k < 4) (hd : 256 ^ (3 - k) = d) : (V : Int) / (d : Nat) % 256 = ((numB V 4 k : Nat) : Int) := by
 subst hd
 unfold numB
 rw [show 4 - 1 - k = 3 - k by omega]
 generalize 256 ^ (3 - k) = m
 rw [Int.natCast_emod, Int.natCast_ediv]; rfl
theorem num8 (V : Nat) (k d : Nat) (hk : k < 8) (hd : 256 ^ (7 - k) = d) : (V : Int) / (d : Nat) % 256 = ((numB V 8 k : Nat) : Int) := by
 subst hd
 unfold numB
 rw [show 8 - 1 - k = 7 - k by omega]
 generalize 256 ^ (7 - k) = m
 rw [Int.natCast_emod, Int.natCast_ediv]; rfl
def zero32 : Array Value := (rowC 32 (fun _ => 0)).toArray
theorem zero32_run (w : World) : (zeroValue 22).run Tryz.prog w = .ok (.agg zero32) w := by kernel_rfl
theorem info27 (v : Nat → Nat) : (Tryz.prog.info? 22).map (·.size) = some (rowC 32 v).toArray.size := by rw [rowC_size]; kernel_rfl
theorem one32 (v : Nat → Nat) : (rowC 32 v).toArray.all (·.oneCell') = true := all_oneCell_toArray (rowC_one _ _)
theorem one_byte {w : World} {x : Nat} (hx : x < 256) : Bytes (w.alloc (.cells #[.int .u8 (x : Nat)] 5)) (some ⟨w.heap.size, 0, none⟩) 1 (fun _ => x) := fun k hk => ⟨hx, w.heap.size, 0, rfl, by
 obtain rfl : k = 0 := by omega
 exact World.cell?_alloc_mark w #[.int .u8 (x : Int)] 5 (0, 0) 0⟩
def heldM (g : Nat) (w : World) : Nat := match w.cell? ⟨g, 72, none⟩ with
 | some (.int _ k) => (120 - k.toNat) % 64
 | _ => 0
theorem HS.heldM {w : World} {g n : Nat} {F : Nat → Nat} (h : HS w g n F) : heldM g w = (120 - n % 64) % 64 := by
 obtain ⟨_, R, h1, _⟩ := h
 have := HB.held h1
 unfold Proofs.YtncfocjmdecapaaGreatDoor.heldM; rw [this]; rfl
theorem HS.all {w : World} {g n : Nat} {F : Nat → Nat} (h : HS w g n F) : w.cell? ⟨g, 73, none⟩ = some (.int .u64 (n : Nat)) := by
 obtain ⟨_, R, h1, _⟩ := h; exact HB.all h1
theorem HS.held {w : World} {g n : Nat} {F : Nat → Nat} (h : HS w g n F) : w.cell? ⟨g, 72, none⟩ = some (.int .i64 (n % 64 : Nat)) := by
 obtain ⟨_, R, h1, _⟩ := h; exact HB.held h1
structure SS (w0 : World) (g p : Nat) (F : Nat → Nat) (wr : World) : Prop where
 h : HS wr g p F
 r : RB 22 32 w0.heap.size (fun _ => 0) wr
 s : RB 22 32 (w0.heap.size + 1) (fun _ => 0) wr
 o : Below w0.heap.size w0 wr
 v : GV wr
 n : w0.heap.size + 1 < g
theorem SS.write {w0 : World} {g p x : Nat} {F : Nat → Nat} {wr w1 w2 : World} (h : SS w0 g p F wr) (h1 : Below wr.heap.size wr w1) (h2 : HS w2 g (p + 1) (catF p F (fun _ => x))) (hO : Own g w1 w2) (hx : F p = x) : SS w0 g (p + 1) F w2 := by
 have h3 := h.h.lt
 refine ⟨h2.congr fun i hi => ?_, hO.blk (Blk.below h.r h1 (Blk.lt h.r)) (by have := h.n; omega), hO.blk (Blk.below h.s h1 (Blk.lt h.s)) (by have := h.n; omega), ?_, (h.v.later h1).own hO h.h.1.1 h.h.1.2, h.n⟩
 ·unfold catF
  by_cases e : i < p
  ·rw [if_pos e]
  ·rw [if_neg e, ← hx, show i = p by omega]
 ·have h4 := h.o.trans (h1.mono h.o.size)
  exact h4.trans (hO.below (by have := h.n; omega) h4.size)
theorem SS.call {w0 : World} {g p x : Nat} {F : Nat → Nat} {wr : World} (h : SS w0 g p F wr) (hp : p < 999999999999) (hx8 : x < 256) (hx : F p = x) :
  Calls Tryz.prog 63 #[.pointer (some ⟨g, 0, none⟩), .slice (some ⟨wr.heap.size, 0, none⟩) 1 1] (wr.alloc (.cells #[.int .u8 (x : Nat)] 5)) fun e w' => e = .returned (.tuple #[]) ∧ SS w0 g (p + 1) F w' := by
 have hb : Below wr.heap.size wr (wr.alloc (.cells #[.int .u8 (x : Nat)] 5)) := zA
 refine (write_any g p 1 1 _ F (fun _ => x) _ (h.h.later hb) (one_byte hx8) (Nat.le_refl _) (fun a ha _ => ?_) (by omega) (h.v.later hb)).mono ?_
 ·cases ha; have := h.h.lt; show wr.heap.size ≠ g; omega
 ·rintro e w' ⟨rfl, h2, hO⟩
  exact ⟨rfl, h.write hb h2 hO hx⟩
theorem pad_128 (n : Nat) (F : Nat → Nat) : padN n F n = 128 := by unfold padN; rw [if_neg (Nat.lt_irrefl _), if_pos rfl]
theorem pad_0 (n : Nat) (F : Nat → Nat) {i : Nat} (h1 : n < i) (h2 : i < 64 * blkN n - 8) : padN n F i = 0 := by unfold padN; rw [if_neg (by omega), if_neg (by omega), if_pos h2]
theorem pad_n (n : Nat) (F : Nat → Nat) {i : Nat} (h : i < 8) : padN n F (64 * blkN n - 8 + i) = numB (8 * n) 8 i := by
 have : n + 1 ≤ 64 * blkN n - 8 := by unfold blkN; omega
 unfold padN; rw [if_neg (by omega), if_neg (by omega), if_neg (by omega), Nat.add_sub_cancel_left]
theorem run_index56 (W : Nat → Nat) (t : Nat) (ht : t < 8) (w : World) : (Instr.index 149 (.agg (rowW 8 W).toArray) (.int .i64 (t : Int))).run Tryz.prog w = .ok (.int .u32 (W t : Nat)) w := by
 have h1 : Tryz.prog.underlying 149 = some (.array 8 23) := Tryz.underlying149
 have h2 : (isAgg 23).run Tryz.prog w = .ok false w := by
  unfold isAgg; rw [Sem.run_bind, run_underlying Tryz.underlying23 w]; rfl
 have h3 : (sizeOf 23).run Tryz.prog w = .ok 1 w := by kernel_rfl
 have h4 : (0 : Int) ≤ (t : Int) ∧ (t : Int) < ((8 : Nat) : Int) := by omega
 have h5 : (t : Int).toNat * 1 = t := by omega
 have h6 : (rowW 8 W).toArray[t]? = some (.int .u32 (W t : Nat)) := by rw [List.getElem?_toArray]; exact rowW_get W ht
 unfold Instr.index part
 simp only [asIntOf, Sem.run_bind, Sem.run_pure, Result.andThen_ok, run_underlying h1]
 rw [if_pos h4]
 simp only [Sem.run_bind, Result.andThen_ok, h2, h3, h5, h6, Bool.false_eq_true, if_false, Sem.run_pure]
structure SD (w0 : World) (D : Nat → Nat) (wr : World) : Prop where
 r : RB 22 32 w0.heap.size (fun _ => 0) wr
 s : RB 22 32 (w0.heap.size + 1) D wr
 o : Below w0.heap.size w0 wr
theorem SD.set {w0 : World} {D : Nat → Nat} {wr : World} (h : SD w0 D wr) (k x : Nat) : SD w0 (upd D k x) (wr.setCell ⟨w0.heap.size + 1, k, none⟩ (.int .u8 (x : Nat))) :=
 ⟨Blk.set_other h.r (by simp) _, h.s.set k x, h.o.setCell (by simp) _⟩
theorem SD.congr {w0 : World} {D E : Nat → Nat} {wr : World} (h : SD w0 D wr) (he : ∀ i, i < 32 → D i = E i) : SD w0 E wr := ⟨h.r, h.s.congr he, h.o⟩
theorem hsum_any (g n : Nat) (F : Nat → Nat) (w : World) (h : HS w g n F) (hn : n < 900000000000) (hg : GV w) :
  Calls Tryz.prog 64 #[.pointer (some ⟨g, 0, none⟩)] w fun e w' => e = .returned (.agg (rowC 32 (shaN n F)).toArray) ∧ Below w.heap.size w w' := by
 have hz := zero32_run
 obtain ⟨wa, hwa⟩ := zX ((w.alloc (.cells zero32 22)).alloc (.cells zero32 22))
 have hb : Below w.heap.size w wa := by rw [← hwa]; exact (zA).alloc (by simp) _
 have HA : Hid (RB 22 32 w.heap.size (fun _ => 0) wa ∧ RB 22 32 (w.heap.size + 1) (fun _ => 0) wa ∧ Below w.heap.size w wa ∧ GV wa ∧ HS wa g n F ∧ wa.heap.size = w.heap.size + 1 + 1) := zh (by
  refine ⟨?_, ?_, hb, hg.later hb, h.later hb, by rw [← hwa]; simp⟩
  ·rw [← hwa]; exact (Blk.new w zero32 22).alloc _
  ·rw [← hwa]; simpa [RB, zero32] using Blk.new (w.alloc (.cells zero32 22)) zero32 22)
 have HNB := zh hn
 obtain ⟨T, hT⟩ := zX (64 * blkN n - 8)
 have HT : Hid (64 * blkN n - 8 = T ∧ n + 1 ≤ T ∧ T % 64 = 56 ∧ T < n + 72 ∧ T + 8 = 64 * blkN n) := zh (by unfold blkN at hT ⊢; omega)
 have hc8 : IntKind.u64.wrap ((n : Int) * 8) = ((8 * n : Nat) : Int) := by simp [IntKind.wrap, IntKind.bits, IntKind.signed]; omega
 have hc9 : (n : Int) * 8 = ((8 * n : Nat) : Int) := by omega
 obtain ⟨N8, hN8⟩ := zX (8 * n)
 rw [hN8] at hc8 hc9
 have HN8 : Hid (8 * n = N8 ∧ N8 < 18446744073709551616) := zh ⟨hN8, by omega⟩
 have hc7 : IntKind.u64.wrap (N8 : Int) = (N8 : Int) := by simp [IntKind.wrap, IntKind.bits, IntKind.signed]; omega
 have hc6 : (N8 : Int) % 18446744073709551616 = (N8 : Int) := by omega
 obtain ⟨Pd, hPd⟩ := zX (padN n F)
 have HP : Hid (padN n F = Pd) := zh hPd
 obtain ⟨D, hD⟩ := zX (shaN n F)
 have HDD := zh hD
 rw [hD]
 clear h hg hb hT hN8 hPd hn hD
 go_enter Tryz.func64, Tryz.ntmps64
 go_wp2_with fail
 clear hz hwa
 refine (hclone_any g n F _ HA.out.2.2.2.2.1 HA.out.2.2.2.1).mono ?_
 rintro e w1 ⟨e1, rfl, hc1, hb1, hge⟩
 have HS1 : Hid (SS w e1 n Pd w1) := zh (by
  obtain ⟨a1, a2, a3, a4, a5, a6⟩ := HA.out
  refine ⟨hc1.congr fun i hi => ?_, Blk.below a1 hb1 (Blk.lt a1), Blk.below a2 hb1 (Blk.lt a2), a3.trans (hb1.mono a3.size), a4.later hb1, by omega⟩
  rw [← HP.out]; exact (if_pos hi).symm)
 clear hc1 hb1 hge HA
 have c73 := HS1.out.h.all
 go_wp2_with fail
 clear c73 hc8 hc9
 refine (HS1.out.call (by have := HNB.out; omega) (show 128 < 256 by decide) (by rw [← HP.out]; exact pad_128 n F)).mono ?_
 rintro e w2 ⟨rfl, hS2⟩
 have HS2 := zh hS2
 clear hS2 HS1
 go_wp2_with fail
 go_loopw [29] (fun _ wr => ∃ p : Nat, n + 1 ≤ p ∧ p ≤ T ∧ SS w e1 p Pd wr) (fun _ wr => heldM e1 wr)
 case atStart => exact ⟨n + 1, Nat.le_refl _, HT.out.2.1, HS2.out⟩
 case round =>
  clear HS2
  obtain ⟨p, hp1, hp2, hS⟩ := hrel
  have HS3 := zh hS
  have c72 := hS.h.held
  clear hS
  have HHM : Hid (heldM e1 wr = (120 - p % 64) % 64) := zh HS3.out.h.heldM
  by_cases hlt : p < T
  ·have h56 : p % 64 ≠ 56 := by
    have := HT.out
    have hbk : blkN n = (n + 8) / 64 + 1 := rfl
    omega
   have h56' : ¬ ((p % 64 : Nat) : Int) = 56 := by omega
   have HPN : Hid (n + 1 ≤ p ∧ p < T ∧ p % 64 ≠ 56) := zh ⟨hp1, hlt, h56⟩
   obtain ⟨k, hk⟩ := zX (p % 64)
   rw [hk] at c72 h56'
   have HK := zh hk
   clear hk h56 hlt hp1 hp2
   go_wp2_with fail
   refine (HS3.out.call (by have := HPN.out; have := HT.out; have := HNB.out; omega) (show 0 < 256 by decide) (by rw [← HP.out]; exact pad_0 n F (by have := HPN.out; omega) (by rw [HT.out.1]; exact HPN.out.2.1))).mono ?_
   rintro e w3 ⟨rfl, hS4⟩
   have HS4 := zh hS4
   clear hS4 c72 h56'
   go_wp2_with fail
   go_roundw
   case rel => exact ⟨p + 1, by have := HPN.out; omega, by have := HPN.out; omega, HS4.out⟩
   case measure => rw [HHM.out, HS4.out.h.heldM]; have := HPN.out; omega
  ·obtain rfl : p = T := by omega
   have h56 : ((p % 64 : Nat) : Int) = 56 := by have := HT.out.2.2.1; omega
   rw [h56] at c72
   clear h56 hlt hp1 hp2 HHM
   go_wp2_with fail
   clear c72
   go_loopw [6] (fun v wr => ∃ i : Nat, i ≤ 8 ∧ v = .int .i64 (56 - 8 * (i : Int)) ∧ SS w e1 (p + i) Pd wr) (fun v _ => (intOf v + 8).toNat)
   case atStart => exact ⟨0, Nat.zero_le _, rfl, HS3.out⟩
   case round =>
    clear HS3
    obtain ⟨i, hi, rfl, hS⟩ := hrel
    have HS3 := zh hS
    clear hS
    rcases (by omega : i = 0 ∨ i = 1 ∨ i = 2 ∨ i = 3 ∨ i = 4 ∨ i = 5 ∨ i = 6 ∨ i = 7 ∨ i = 8) with rfl | rfl | rfl | rfl | rfl | rfl | rfl | rfl | rfl
    ·rw [show (56 - 8 * ((0 : Nat) : Int)) = 56 from rfl]
     obtain ⟨x, hx⟩ := zX (numB N8 8 0)
     have hx8 : x < 256 := by rw [← hx]; exact numB_lt _ _ _
     have v0 : (N8 : Int) / 72057594037927936 % 256 = (x : Int) := by
      have := num8 N8 0 72057594037927936 (by decide) (by decide)
      rw [hx] at this
      rw [show (((72057594037927936 : Nat) : Int)) = 72057594037927936 from rfl] at this; exact this
     have v2 : (N8 : Int) / 72057594037927936 = (x : Int) := by have := HN8.out.2; rw [← v0]; omega
     have v3 : (x : Int) % 256 = (x : Int) := by omega
     have v1 : (N8 : Int) / 72057594037927936 % 18446744073709551616 = (N8 : Int) / 72057594037927936 := by have := HN8.out.2; omega
     have HX : Hid (Pd (p + 0) = x ∧ x < 256) := zh ⟨by rw [← HP.out, ← HT.out.1, pad_n n F (by decide), HN8.out.1, hx], hx8⟩
     clear hx hx8
     go_wp2_with fail
     clear v0 v1 v2 v3
     refine (HS3.out.call (by have := HT.out; have := HNB.out; omega) HX.out.2 HX.out.1).mono ?_
     rintro e w3 ⟨rfl, hS4⟩
     have HS4 := zh hS4
     clear hS4
     go_wp2_with fail
     go_roundw
     case rel => exact ⟨1, by decide, rfl, HS4.out⟩
     case measure => decide
    ·rw [show (56 - 8 * ((1 : Nat) : Int)) = 48 from rfl]
     obtain ⟨x, hx⟩ := zX (numB N8 8 1)
     have hx8 : x < 256 := by rw [← hx]; exact numB_lt _ _ _
     have v0 : (N8 : Int) / 281474976710656 % 256 = (x : Int) := by
      have := num8 N8 1 281474976710656 (by decide) (by decide)
      rw [hx] at this
      rw [show (((281474976710656 : Nat) : Int)) = 281474976710656 from rfl] at this; exact this
     have v1 : (N8 : Int) / 281474976710656 % 18446744073709551616 = (N8 : Int) / 281474976710656 := by have := HN8.out.2; omega
     have HX : Hid (Pd (p + 1) = x ∧ x < 256) := zh ⟨by rw [← HP.out, ← HT.out.1, pad_n n F (by decide), HN8.out.1, hx], hx8⟩
     clear hx hx8
     go_wp2_with fail
     clear v0 v1
     refine (HS3.out.call (by have := HT.out; have := HNB.out; omega) HX.out.2 HX.out.1).mono ?_
     rintro e w3 ⟨rfl, hS4⟩
     have HS4 := zh hS4
     clear hS4
     go_wp2_with fail
     go_roundw
     case rel => exact ⟨2, by decide, rfl, HS4.out⟩
     case measure => decide
    ·rw [show (56 - 8 * ((2 : Nat) : Int)) = 40 from rfl]
     obtain ⟨x, hx⟩ := zX (numB N8 8 2)
     have hx8 : x < 256 := by rw [← hx]; exact numB_lt _ _ _
     have v0 : (N8 : Int) / 1099511627776 % 256 = (x : Int) := by
      have := num8 N8 2 1099511627776 (by decide) (by decide)
      rw [hx] at this
      rw [show (((1099511627776 : Nat) : Int)) = 1099511627776 from rfl] at this; exact this
     have v1 : (N8 : Int) / 1099511627776 % 18446744073709551616 = (N8 : Int) / 1099511627776 := by have := HN8.out.2; omega
     have HX : Hid (Pd (p + 2) = x ∧ x < 256) := zh ⟨by rw [← HP.out, ← HT.out.1, pad_n n F (by decide), HN8.out.1, hx], hx8⟩
     clear hx hx8
     go_wp2_with fail
     clear v0 v1
     refine (HS3.out.call (by have := HT.out; have := HNB.out; omega) HX.out.2 HX.out.1).mono ?_
     rintro e w3 ⟨rfl, hS4⟩
     have HS4 := zh hS4
     clear hS4
     go_wp2_with fail
     go_roundw
     case rel => exact ⟨3, by decide, rfl, HS4.out⟩
     case measure => decide
    ·rw [show (56 - 8 * ((3 : Nat) : Int)) = 32 from rfl]
     obtain ⟨x, hx⟩ := zX (numB N8 8 3)
     have hx8 : x < 256 := by rw [← hx]; exact numB_lt _ _ _
     have v0 : (N8 : Int) / 4294967296 % 256 = (x : Int) := by
      have := num8 N8 3 4294967296 (by decide) (by decide)
      rw [hx] at this
      rw [show (((4294967296 : Nat) : Int)) = 4294967296 from rfl] at this; exact this
     have v1 : (N8 : Int) / 4294967296 % 18446744073709551616 = (N8 : Int) / 4294967296 := by have := HN8.out.2; omega
     have HX : Hid (Pd (p + 3) = x ∧ x < 256) := zh ⟨by rw [← HP.out, ← HT.out.1, pad_n n F (by decide), HN8.out.1, hx], hx8⟩
     clear hx hx8
     go_wp2_with fail
     clear v0 v1
     refine (HS3.out.call (by have := HT.out; have := HNB.out; omega) HX.out.2 HX.out.1).mono ?_
     rintro e w3 ⟨rfl, hS4⟩
     have HS4 := zh hS4
     clear hS4
     go_wp2_with fail
     go_roundw
     case rel => exact ⟨4, by decide, rfl, HS4.out⟩
     case measure => decide
    ·rw [show (56 - 8 * ((4 : Nat) : Int)) = 24 from rfl]
     obtain ⟨x, hx⟩ := zX (numB N8 8 4)
     have hx8 : x < 256 := by rw [← hx]; exact numB_lt _ _ _
     have v0 : (N8 : Int) / 16777216 % 256 = (x : Int) := by
      have := num8 N8 4 16777216 (by decide) (by decide)
      rw [hx] at this
      rw [show (((16777216 : Nat) : Int)) = 16777216 from rfl] at this; exact this
     have v1 : (N8 : Int) / 16777216 % 18446744073709551616 = (N8 : Int) / 16777216 := by have := HN8.out.2; omega
     have HX : Hid (Pd (p + 4) = x ∧ x < 256) := zh ⟨by rw [← HP.out, ← HT.out.1, pad_n n F (by decide), HN8.out.1, hx], hx8⟩
     clear hx hx8
     go_wp2_with fail
     clear v0 v1
     refine (HS3.out.call (by have := HT.out; have := HNB.out; omega) HX.out.2 HX.out.1).mono ?_
     rintro e w3 ⟨rfl, hS4⟩
     have HS4 := zh hS4
     clear hS4
     go_wp2_with fail
     go_roundw
     case rel => exact ⟨5, by decide, rfl, HS4.out⟩
     case measure => decide
    ·rw [show (56 - 8 * ((5 : Nat) : Int)) = 16 from rfl]
     obtain ⟨x, hx⟩ := zX (numB N8 8 5)
     have hx8 : x < 256 := by rw [← hx]; exact numB_lt _ _ _
     have v0 : (N8 : Int) / 65536 % 256 = (x : Int) := by
      have := num8 N8 5 65536 (by decide) (by decide)
      rw [hx] at this
      rw [show (((65536 : Nat) : Int)) = 65536 from rfl] at this; exact this
     have v1 : (N8 : Int) / 65536 % 18446744073709551616 = (N8 : Int) / 65536 := by have := HN8.out.2; omega
     have HX : Hid (Pd (p + 5) = x ∧ x < 256) := zh ⟨by rw [← HP.out, ← HT.out.1, pad_n n F (by decide), HN8.out.1, hx], hx8⟩
     clear hx hx8
     go_wp2_with fail
     clear v0 v1
     refine (HS3.out.call (by have := HT.out; have := HNB.out; omega) HX.out.2 HX.out.1).mono ?_
     rintro e w3 ⟨rfl, hS4⟩
     have HS4 := zh hS4
     clear hS4
     go_wp2_with fail
     go_roundw
     case rel => exact ⟨6, by decide, rfl, HS4.out⟩
     case measure => decide
    ·rw [show (56 - 8 * ((6 : Nat) : Int)) = 8 from rfl]
     obtain ⟨x, hx⟩ := zX (numB N8 8 6)
     have hx8 : x < 256 := by rw [← hx]; exact numB_lt _ _ _
     have v0 : (N8 : Int) / 256 % 256 = (x : Int) := by
      have := num8 N8 6 256 (by decide) (by decide)
      rw [hx] at this
      rw [show (((256 : Nat) : Int)) = 256 from rfl] at this; exact this
     have v1 : (N8 : Int) / 256 % 18446744073709551616 = (N8 : Int) / 256 := by have := HN8.out.2; omega
     have HX : Hid (Pd (p + 6) = x ∧ x < 256) := zh ⟨by rw [← HP.out, ← HT.out.1, pad_n n F (by decide), HN8.out.1, hx], hx8⟩
     clear hx hx8
     go_wp2_with fail
     clear v0 v1
     refine (HS3.out.call (by have := HT.out; have := HNB.out; omega) HX.out.2 HX.out.1).mono ?_
     rintro e w3 ⟨rfl, hS4⟩
     have HS4 := zh hS4
     clear hS4
     go_wp2_with fail
     go_roundw
     case rel => exact ⟨7, by decide, rfl, HS4.out⟩
     case measure => decide
    ·rw [show (56 - 8 * ((7 : Nat) : Int)) = 0 from rfl]
     obtain ⟨x, hx⟩ := zX (numB N8 8 7)
     have hx8 : x < 256 := by rw [← hx]; exact numB_lt _ _ _
     have v0 : (N8 : Int) % 256 = (x : Int) := by
      have := num8 N8 7 1 (by decide) (by decide)
      rw [hx] at this
      rw [show (((1 : Nat) : Int)) = 1 from rfl, Int.ediv_one] at this; exact this
     have v1 : (N8 : Int) % 18446744073709551616 = (N8 : Int) := by have := HN8.out.2; omega
     have HX : Hid (Pd (p + 7) = x ∧ x < 256) := zh ⟨by rw [← HP.out, ← HT.out.1, pad_n n F (by decide), HN8.out.1, hx], hx8⟩
     clear hx hx8
     go_wp2_with fail
     clear v0 v1
     refine (HS3.out.call (by have := HT.out; have := HNB.out; omega) HX.out.2 HX.out.1).mono ?_
     rintro e w3 ⟨rfl, hS4⟩
     have HS4 := zh hS4
     clear hS4
     go_wp2_with fail
     go_roundw
     case rel => exact ⟨8, by decide, rfl, HS4.out⟩
     case measure => decide
    ·have HE : Hid (SS w e1 (64 * blkN n) Pd wr) := zh (by rw [← HT.out.2.2.2.2]; exact HS3.out)
     rw [show (56 - 8 * ((8 : Nat) : Int)) = -8 from rfl]
     obtain ⟨CK, hCK⟩ := zX (chK Pd (blkN n))
     obtain ⟨hgx, R, hB, hRx⟩ := HE.out.h
     rw [show 64 * blkN n / 64 = blkN n by omega, hCK] at hB
     obtain ⟨L1, hL1⟩ := zX (rowW 8 CK)
     have HRW : Hid (wr.rangeAt e1 0 L1) := zh (hL1 ▸ hB.rangeW)
     have HI1 : Hid ((Tryz.prog.info? 149).map (·.size) = some L1.length) := zh (hL1 ▸ info56l _)
     have HIX : Hid (∀ t w', t < 8 → (Instr.index 149 (.agg L1.toArray) (.int .i64 (t : Nat))).run Tryz.prog w' = .ok (.int .u32 (CK t : Nat)) w') := zh fun t w' ht => by rw [← hL1]; exact run_index56 _ t ht w'
     have HD0 : Hid (SD w (fun _ => 0) wr) := zh ⟨HE.out.r, HE.out.s, HE.out.o⟩
     have HDK : Hid (∀ i k, k < 4 → D (4 * i + k) = numB (CK i) 4 k) := zh fun i k hk => by
      rw [← HDD.out, ← hCK, ← HP.out]; unfold shaN; rw [show (4 * i + k) / 4 = i by omega, show (4 * i + k) % 4 = k by omega]
     have HKL : Hid (∀ i, CK i < 4294967296) := zh fun i => by rw [← hCK]; exact chK_lt _ _ _
     clear hB hgx hRx hL1 hCK HE HS3 hi
     go_wp2_with (first | (refine wpList_load_mid rfl 149 (.tmp 43) rfl e1 0 rfl L1 _ HRW.out Tryz.underlying149 rfl HI1.out ?_))
     clear HRW HI1
     go_loopw [45] (fun v wr => ∃ i : Nat, i ≤ 8 ∧ v = .int .i64 (i : Int) ∧ SD w (fun j => if j < 4 * i then D j else 0) wr) (fun v _ => 8 - (intOf v).toNat)
     case atStart => exact ⟨0, Nat.zero_le _, rfl, HD0.out.congr fun i _ => (if_neg (Nat.not_lt_zero _)).symm⟩
     case round =>
      clear HD0
      obtain ⟨i, hi, rfl, hX⟩ := hrel
      have HX := zh hX
      by_cases hli : i < 8
      ·have i0 : (0 : Int) ≤ (i : Int) := by omega
       have i1 : (i : Int) < 8 := by omega
       have HIT := zh (fun w' => HIX.out i w' hli)
       have hV := HKL.out i
       have hat : ∀ k, k < 4 → D (4 * i + k) = numB (CK i) 4 k := fun k hk => HDK.out i k hk
       obtain ⟨V, hVV⟩ := zX (CK i)
       rw [hVV] at HIT hV
       simp only [hVV] at hat
       have h0 := hat 0 (by decide); have h1 := hat 1 (by decide); have h2 := hat 2 (by decide); have h3 := hat 3 (by decide)
       have v0 := num4 V 0 16777216 (by decide) (by decide)
       have v1 := num4 V 1 65536 (by decide) (by decide)
       have v2 := num4 V 2 256 (by decide) (by decide)
       have v3 := num4 V 3 1 (by decide) (by decide)
       rw [← h0] at v0
       rw [← h1] at v1
       rw [← h2] at v2
       rw [← h3] at v3
       rw [show (((1 : Nat) : Int)) = 1 from rfl, Int.ediv_one] at v3
       rw [show (((16777216 : Nat) : Int)) = 16777216 from rfl] at v0
       rw [show (((65536 : Nat) : Int)) = 65536 from rfl] at v1
       rw [show (((256 : Nat) : Int)) = 256 from rfl] at v2
       have HN := zh (show SD w (fun j => if j < 4 * (i + 1) then D j else 0) ((((wr.setCell ⟨w.heap.size + 1, 4 * i, none⟩ (.int .u8 (D (4 * i + 0) : Nat))).setCell ⟨w.heap.size + 1, 4 * i + 1, none⟩ (.int .u8 (D (4 * i + 1) : Nat))).setCell ⟨w.heap.size + 1, 4 * i + 2, none⟩ (.int .u8 (D (4 * i + 2) : Nat))).setCell ⟨w.heap.size + 1, 4 * i + 3, none⟩ (.int .u8 (D (4 * i + 3) : Nat))) from
        ((((hX.set (4 * i) _).set (4 * i + 1) _).set (4 * i + 2) _).set (4 * i + 3) _).congr fun j hj => by
         unfold upd
         by_cases e3 : j = 4 * i + 3
         ·subst e3; rw [if_pos rfl, if_pos (by omega)]
         ·rw [if_neg e3]
          by_cases e2 : j = 4 * i + 2
          ·subst e2; rw [if_pos rfl, if_pos (by omega)]
          ·rw [if_neg e2]
           by_cases e1 : j = 4 * i + 1
           ·subst e1; rw [if_pos rfl, if_pos (by omega)]
           ·rw [if_neg e1]
            by_cases e0 : j = 4 * i
            ·subst e0; rw [if_pos rfl, if_pos (by omega)]; rfl
            ·rw [if_neg e0]
             show (if j < 4 * i then D j else 0) = if j < 4 * (i + 1) then D j else 0
             by_cases h5 : j < 4 * i
             ·rw [if_pos h5, if_pos (by omega)]
             ·rw [if_neg h5, if_neg (by omega)])
       have cc : ∀ k, k < 4 → wr.cell? ⟨w.heap.size + 1, 4 * i + k, none⟩ = some (.int .u8 0) := fun k hk => hX.s.val (by omega) (if_neg (by omega))
       have c0 := cc 0 (by decide)
       have c1 := cc 1 (by decide)
       have c2 := cc 2 (by decide)
       have c3 := cc 3 (by decide)
       have z0 : wr.frozen? ⟨w.heap.size + 1, 4 * i, none⟩ = false := hX.s.free _
       have z1 : wr.frozen? ⟨w.heap.size + 1, 4 * i + 1, none⟩ = false := hX.s.free _
       have z2 : wr.frozen? ⟨w.heap.size + 1, 4 * i + 2, none⟩ = false := hX.s.free _
       have z3 : wr.frozen? ⟨w.heap.size + 1, 4 * i + 3, none⟩ = false := hX.s.free _
       simp only [Nat.add_zero] at c0 HN v0
       generalize D (4 * i) = b0 at *
       generalize D (4 * i + 1) = b1 at *
       generalize D (4 * i + 2) = b2 at *
       generalize D (4 * i + 3) = b3 at *
       clear cc hat h0 h1 h2 h3 hX HX hVV hi hli
       generalize ((V : Nat) : Int) = VI at *
       go_wp2_with (first | (refine wpList_value rfl (exec_index (.tmp 44) (.tmp 45) rfl rfl rfl (HIT.out _)) ?_))
       go_roundw
       case rel => exact ⟨i + 1, by omega, by go_num, HN.out⟩
       case measure => simp [intOf] <;> omega
      ·obtain rfl : i = 8 := by omega
       have hY : RB 22 32 (w.heap.size + 1) D wr := HX.out.s.congr fun j hj => if_pos hj
       have hN : RB 22 32 w.heap.size D (wr.setCells w.heap.size 0 (rowC 32 D).toArray.toList) := Blk.setCells HX.out.r (rowC 32 D) (by rw [rowC_size, rowC_len])
       have hO : Below w.heap.size w (wr.setCells w.heap.size 0 (rowC 32 D).toArray.toList) := HX.out.o.trans ((Own.setCells _ 0 wr).below (Nat.le_refl _) HX.out.o.size)
       have hTH : wr.there w.heap.size 0 (rowC 32 D).toArray.size := Blk.there HX.out.r (by rw [rowC_size, rowC_size]; exact Nat.le_refl _)
       have hI := info27 D
       have hI1 := one32 D
       obtain ⟨E, hE⟩ := zX ((rowC 32 D).toArray)
       unfold RB at hN hY
       rw [hE] at hN hY hO hTH hI hI1
       have HN := zh hN
       have HY := zh hY
       have HO := zh hO
       have HTH := zh hTH
       have HI := zh hI
       have HI1 := zh hI1
       have HE := zh hE
       clear hN hY hO hTH hI hI1 hE hli hi hX HX
       go_wp2_with (first
        | (refine wpList_load_row rfl 22 (.tmp 3) rfl (w.heap.size + 1) rfl 22 E (0, 0) _ HY.out Tryz.underlying22 rfl HI.out ?_)
        | (refine wpList_store_mid rfl 22 (.tmp 2) (.tmp 76) rfl w.heap.size 0 E rfl rfl HTH.out HI.out HI1.out ?_))
       refine bodyPost_ret (v := .agg E) ?_ rfl ⟨by rw [HE.out], HO.out⟩
       exact results_cell_row Tryz.results64 _ _ w.heap.size 22 E (0, 0) _ rfl HN.out Tryz.underlying22 rfl HI.out
set_option maxHeartbeats 4000000
theorem plain_u8 : Tryz.prog.plainKey 5 = true := by kernel_rfl
theorem cells_u8 : Tryz.prog.cellsOf 5 = 1 := by kernel_rfl
theorem Bytes.lt {w : World} {oa : Option Addr} {n : Nat} {f : Nat → Nat} (h : Bytes w oa n f) : ∀ a, oa = some a → 0 < n → a.block < w.heap.size := fun a ha hn => by
 obtain ⟨_, b, off, h2, h3⟩ := h 0 hn
 rw [ha] at h2; cases h2
 show b < _
 rcases Nat.lt_or_ge b w.heap.size with h' | h'
 ·exact h'
 ·simp [World.cell?, Array.getElem?_eq_none h'] at h3
theorem HS.cat0 {w : World} {g m : Nat} {F G : Nat → Nat} (h : HS w g (0 + m) (catF 0 F G)) : HS w g m G := by
 rw [Nat.zero_add] at h
 exact h.congr fun i hi => by unfold catF; rw [if_neg (by omega), Nat.sub_zero]
theorem hash_any (oa : Option Addr) (m cap : Nat) (G : Nat → Nat) (w : World) (hb : Bytes w oa m G) (hmc : m ≤ cap) (hm : m < 800000000000) (hg : GV w) :
  Calls Tryz.prog 61 #[.slice oa m cap] w fun e w' => e = .returned (.agg (rowC 32 (shaN m G)).toArray) ∧ Below w.heap.size w w' := by
 have hz := zero32_run
 obtain ⟨wa, hwa⟩ := zX (w.alloc (.cells zero32 22))
 have hba : Below w.heap.size w wa := by rw [← hwa]; exact zA
 have H1 : Hid (RB 22 32 w.heap.size (fun _ => 0) wa ∧ Below w.heap.size w wa ∧ GV wa ∧ Bytes wa oa m G) := zh ⟨by rw [← hwa]; exact Blk.new w _ _, hba, hg.later hba, hb.later hba⟩
 have HMC := zh hmc
 have HM := zh hm
 obtain ⟨D, hD⟩ := zX (shaN m G)
 obtain ⟨E, hE⟩ := zX ((rowC 32 D).toArray)
 have HSM : Hid (∀ g w', HS w' g m G → GV w' → Calls Tryz.prog 64 #[.pointer (some ⟨g, 0, none⟩)] w' fun e w'' => e = .returned (.agg E) ∧ Below w'.heap.size w' w'') := zh fun g w' h h' => by
  rw [← hE, ← hD]; exact hsum_any g m G w' h (by omega) h'
 have HI : Hid ((Tryz.prog.info? 22).map (·.size) = some E.size) := zh (hE ▸ info27 _)
 have HI1 : Hid (E.all (·.oneCell') = true) := zh (hE ▸ one32 _)
 have HST : Hid (∀ w', RB 22 32 w.heap.size (fun _ => 0) w' → Blk (w'.setCells w.heap.size 0 E.toList) w.heap.size E 22 ∧ w'.there w.heap.size 0 E.size) := zh fun w' h => by
  rw [← hE]; exact ⟨Blk.setCells h (rowC 32 D) (by rw [rowC_size, rowC_len]), Blk.there h (by rw [rowC_size, rowC_size]; exact Nat.le_refl _)⟩
 rw [hD, hE]
 clear hb hmc hm hg hD hE hba
 go_enter Tryz.func61, Tryz.ntmps61
 go_wp2_with fail
 clear hz hwa
 refine (hnew_any _ H1.out.2.2.1).mono ?_
 rintro e w1 ⟨g, rfl, hN, hb1, hge⟩
 have H2 : Hid (RB 22 32 w.heap.size (fun _ => 0) w1 ∧ Below w.heap.size w w1 ∧ GV w1 ∧ Bytes w1 oa m G ∧ HS w1 g 0 G ∧ (∀ a, oa = some a → 0 < m → a.block ≠ g) ∧ w.heap.size < g) := zh (by
  obtain ⟨a1, a2, a3, a4⟩ := H1.out
  have hlt := Blk.lt a1
  refine ⟨Blk.below a1 hb1 hlt, a2.trans (hb1.mono a2.size), a3.later hb1, a4.later hb1, hN G, fun a ha hm => ?_, by omega⟩
  have := a4.lt a ha hm; omega)
 clear hN hb1 hge H1
 go_wp2_with fail
 refine (write_any g 0 m cap oa G G _ H2.out.2.2.2.2.1 H2.out.2.2.2.1 HMC.out H2.out.2.2.2.2.2.1 (by have := HM.out; omega) H2.out.2.2.1).mono ?_
 rintro e w2 ⟨rfl, hS, hO⟩
 have H3 : Hid (RB 22 32 w.heap.size (fun _ => 0) w2 ∧ Below w.heap.size w w2 ∧ GV w2 ∧ HS w2 g m G) := zh (by
  obtain ⟨a1, a2, a3, a4, a5, a6, a7⟩ := H2.out
  exact ⟨hO.blk a1 (by omega), a2.trans (hO.below (by omega) a2.size), a3.own hO a5.1.1 a5.1.2, hS.cat0⟩)
 clear hS hO H2
 go_wp2_with fail
 refine (HSM.out _ _ H3.out.2.2.2 H3.out.2.2.1).mono ?_
 rintro e w3 ⟨rfl, hb3⟩
 have H4 : Hid (RB 22 32 w.heap.size (fun _ => 0) w3 ∧ Below w.heap.size w w3) := zh (by
  obtain ⟨a1, a2, a3, a4⟩ := H3.out
  exact ⟨Blk.below a1 hb3 (Blk.lt a1), a2.trans (hb3.mono a2.size)⟩)
 clear hb3 H3
 have HX := zh (HST.out _ H4.out.1)
 have HO : Hid (Below w.heap.size w (w3.setCells w.heap.size 0 E.toList)) := zh (H4.out.2.trans ((Own.setCells _ 0 w3).below (Nat.le_refl _) H4.out.2.size))
 go_wp2_with (first | (refine wpList_store_mid rfl 22 (.tmp 2) (.tmp 9) rfl w.heap.size 0 E rfl rfl HX.out.2 HI.out HI1.out ?_))
 refine bodyPost_ret (v := .agg E) ?_ rfl ⟨rfl, HO.out⟩
 exact results_cell_row Tryz.results61 _ _ w.heap.size 22 E (0, 0) _ rfl HX.out.1 Tryz.underlying22 rfl HI.out
set_option maxRecDepth 512
set_option maxHeartbeats 200000
theorem RB.int {t : TypeId} {n g : Nat} {f : Nat → Nat} {w : World} (h : RB t n g f w) {i : Nat} {x : Int} (hi : i < n) (hx : (f i : Int) = x) : w.cell? ⟨g, i, none⟩ = some (.int .u8 x) := by rw [← hx]; exact h.cell hi
def S2 (g1 g2 : Nat) (D E : Nat → Nat) (w : World) : Prop := RB 22 32 g1 D w ∧ RB 22 32 g2 E w
theorem S2.below {g1 g2 : Nat} {D E : Nat → Nat} {w w' : World} (h : S2 g1 g2 D E w) (hb : Below w.heap.size w w') : S2 g1 g2 D E w' := ⟨Blk.below h.1 hb (Blk.lt h.1), Blk.below h.2 hb (Blk.lt h.2)⟩
theorem lay32 (w : World) (D : Nat → Nat) {E : Array Value} (hE : (rowC 32 D).toArray = E) : RB 22 32 w.heap.size D ((w.alloc (.cells zero32 22)).setCells w.heap.size 0 E.toList) ∧ Below w.heap.size w ((w.alloc (.cells zero32 22)).setCells w.heap.size 0 E.toList) ∧ (w.alloc (.cells zero32 22)).there w.heap.size 0 E.size := by
 subst hE
 have hA : RB 22 32 w.heap.size (fun _ => 0) (w.alloc (.cells zero32 22)) := Blk.new w _ _
 have hb : Below w.heap.size w (w.alloc (.cells zero32 22)) := zA
 exact ⟨Blk.setCells hA (rowC 32 D) (by rw [rowC_size, rowC_len]), hb.trans ((Own.setCells _ 0 _).below (Nat.le_refl _) hb.size), Blk.there hA (by rw [rowC_size, rowC_size]; exact Nat.le_refl _)⟩
end Go.Proofs.YtncfocjmdecapaaGreatDoor
