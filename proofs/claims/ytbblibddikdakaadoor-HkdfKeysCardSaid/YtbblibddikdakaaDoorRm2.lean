/- The document's sum with a key of some parts. -/
import Derived.Test.YtbblibddikdakaaDoorHm5
import Derived.Test.YtbblibddikdakaaDoorRm1
namespace Go.Proofs.YtbblibddikdakaaDoor
set_option linter.unusedVariables false
set_option linter.unusedSimpArgs false
open Go.RowKit

/-- A row of our own, behind what was there. -/
structure JG (w0 : World) (v : Value) (n : Nat) (f : Nat → Nat) (w : World) : Prop where
  g : Grow w w0.heap.size v n f
  o : Below w0.heap.size w0 w
theorem JG.later {w0 w w' : World} {v : Value} {n : Nat} {f : Nat → Nat} (h : JG w0 v n f w) (hb : Below w.heap.size w w') : JG w0 v n f w' := ⟨h.g.later hb, h.o.trans (hb.mono h.o.size)⟩
theorem JG.grew {w0 w w' : World} {v v' : Value} {n n' : Nat} {f f' : Nat → Nat} (h : JG w0 v n f w) (hg : w.grownBy w' v.ownBlock) (hG : Grow w' w0.heap.size v' n' f') : JG w0 v' n' f' w' := ⟨hG, h.o.trans (grow_bel h.g h.o.size hg)⟩
theorem catF_b {n m : Nat} {f g : Nat → Nat} (hf : ∀ i, i < n → f i < 256) (hg : ∀ i, i < m → g i < 256) : ∀ i, i < n + m → catF n f g i < 256 := fun i hi => by
  unfold catF
  by_cases e : i < n
  · rw [if_pos e]; exact hf i e
  · rw [if_neg e]; exact hg _ (by omega)
theorem jfun_lt {L : Nat → Nat} {G : Nat → Nat → Nat} : ∀ q, (∀ i, i < q → ∀ k, k < L i → G i k < 256) → ∀ k, k < jlen L q → jfun L G q k < 256
  | 0, _ => fun k hk => absurd hk (Nat.not_lt_zero _)
  | q + 1, h => catF_b (catF_b (jfun_lt q fun i hi => h i (by omega)) (fun i _ => numB_lt _ _ _)) (h q (by omega))
set_option maxRecDepth 100000 in
set_option maxHeartbeats 4000000 in
theorem joined_any (op : Option Addr) (q cq : Nat) (L : Nat → Nat) (G : Nat → Nat → Nat) (w : World) (hL : LBs w op q L G) (hl4 : ∀ i, i < q → L i < 4294967296) (hq : q < 4294967296) (hj : jlen L q < 700000000000) :
    Calls Tryd.prog 37 #[.slice op q cq] w fun e w' => ∃ v, e = .returned v ∧ JG w v (jlen L q) (jfun L G q) w' := by
  have HL := Lib.hid hL
  have HL4 := Lib.hid hl4
  have HN : Hid (q < 4294967296 ∧ jlen L q < 700000000000) := Lib.hid ⟨hq, hj⟩
  have H0 : Hid (JG w (.slice none 0 0) 0 (fun _ => 0) w) := Lib.hid ⟨Grow.nil _ _ _, Below.refl _ _⟩
  clear hL hl4 hq hj
  go_enter Tryd.func37, Tryd.ntmps37
  go_wp2_with fail
  go_loopw [3, 4] (fun x v wr => ∃ (i : Nat) (va : Value), i ≤ q ∧ v = .int .i64 (i : Int) ∧ va = x ∧ JG w va (jlen L i) (jfun L G i) wr) (fun _ v _ => q - (intOf v).toNat)
  case atStart => exact ⟨0, _, Nat.zero_le _, rfl, rfl, H0.out⟩
  case round =>
    clear H0
    obtain ⟨i, va, hi, rfl, rfl, hX⟩ := hrel
    have HX := Lib.hid hX
    clear hX
    by_cases hli : i < q
    · as_aux_lemma =>
      have i0 : (0 : Int) ≤ (i : Int) := by omega
      have i1 : (i : Int) < (q : Int) := by omega
      have hjm : jlen L (i + 1) ≤ jlen L q := jlen_mono L hli
      have hjq := HN.out.2
      have HQ : Hid (i + 1 ≤ q ∧ q < 4294967296) := Lib.hid ⟨hli, HN.out.1⟩
      have iw : (i : Int) + 1 ≤ 9223372036854775807 := by have := HQ.out; omega
      obtain ⟨lb, lo, od, cpi, hop, hcell, hle, hby, hno, hcm⟩ := HL.out i hli
      have hl4 := HL4.out i hli
      have hlbl : lb < w.heap.size := by
        rcases Nat.lt_or_ge lb w.heap.size with h' | h'
        · exact h'
        · simp [World.cell?, Array.getElem?_eq_none h'] at hcell
      have hjs : jlen L (i + 1) = jlen L i + 4 + L i := rfl
      have hfs : jfun L G (i + 1) = catF (jlen L i + 4) (catF (jlen L i) (jfun L G i) (numB (L i) 4)) (G i) := rfl
      obtain ⟨l, hl⟩ : ∃ l, L i = l := ⟨_, rfl⟩
      obtain ⟨Gi, hGi⟩ : ∃ l, G i = l := ⟨_, rfl⟩
      obtain ⟨jm, hjmE⟩ : ∃ l, jlen L i = l := ⟨_, rfl⟩
      obtain ⟨jf, hjf⟩ : ∃ l, jfun L G i = l := ⟨_, rfl⟩
      have HX2 : Hid (JG w va jm jf wr) := Lib.hid (hjmE ▸ hjf ▸ HX.out)
      rw [hl, hjmE, hGi, hjf] at hfs
      rw [hl, hjmE] at hjs
      rw [hl] at hcell hle hby hno hl4
      rw [hGi] at hby
      have HBY : Hid (∀ w', Below w.heap.size w w' → Bytes w' od l Gi) := Lib.hid fun w' h => hby.later h
      have HNO := Lib.hid hno
      have HC : Hid (l ≤ cpi ∧ jm + 4 + l < 700000000000) := Lib.hid ⟨hle, by omega⟩
      have HJS := Lib.hid hjs
      have HFS := Lib.hid hfs
      have HCE : Hid (∀ w', Below w.heap.size w w' → w'.cell? ⟨lb, lo + i, none⟩ = some (.slice od l cpi)) := Lib.hid fun w' h => cell_belowB h hlbl hcell
      have hc1 := HCE.out _ HX.out.o
      subst hop
      obtain ⟨d0, hd0⟩ : ∃ x, l / 16777216 = x := ⟨_, rfl⟩
      obtain ⟨d1, hd1⟩ : ∃ x, l / 65536 = x := ⟨_, rfl⟩
      obtain ⟨d2, hd2⟩ : ∃ x, l / 256 = x := ⟨_, rfl⟩
      obtain ⟨b1, hb1⟩ : ∃ x, d1 % 256 = x := ⟨_, rfl⟩
      obtain ⟨b2, hb2⟩ : ∃ x, d2 % 256 = x := ⟨_, rfl⟩
      obtain ⟨b3, hb3⟩ : ∃ x, l % 256 = x := ⟨_, rfl⟩
      have e0 : numB l 4 0 = d0 := by show l / 16777216 % 256 = d0; omega
      have e1 : numB l 4 1 = b1 := by show l / 65536 % 256 = b1; omega
      have e2 : numB l 4 2 = b2 := by show l / 256 % 256 = b2; omega
      have e3 : numB l 4 3 = b3 := by show l / 1 % 256 = b3; omega
      have HF4 : Hid (∀ w', Bytes (World.alloc w' (.cells #[.int .u8 (d0 : Nat), .int .u8 (b1 : Nat), .int .u8 (b2 : Nat), .int .u8 (b3 : Nat)] 5)) (some ⟨w'.heap.size, 0, none⟩) 4 (numB l 4)) := Lib.hid fun w' => four_bytes e0 e1 e2 e3
      have q0 : (l : Int).tdiv 16777216 = (d0 : Int) := tdk rfl hd0
      have q1 : (l : Int).tdiv 65536 = (d1 : Int) := tdk rfl hd1
      have q2 : (l : Int).tdiv 256 = (d2 : Int) := tdk rfl hd2
      have r1 : (d1 : Int).tmod 256 = (b1 : Int) := tmk rfl hb1
      have r2 : (d2 : Int).tmod 256 = (b2 : Int) := tmk rfl hb2
      have r3 : (l : Int).tmod 256 = (b3 : Int) := tmk rfl hb3
      have q5 : (l : Int) / 16777216 = (d0 : Int) := by omega
      have q6 : (l : Int) / 65536 = (d1 : Int) := by omega
      have q7 : (l : Int) / 256 = (d2 : Int) := by omega
      have r5 : (d1 : Int) % 256 = (b1 : Int) := by omega
      have r6 : (d2 : Int) % 256 = (b2 : Int) := by omega
      have r7 : (l : Int) % 256 = (b3 : Int) := by omega
      have w0 : IntKind.i64.wrap (d0 : Int) = (d0 : Int) := IntWalk.i64_in _ (by omega)
      have w1 : IntKind.i64.wrap (d1 : Int) = (d1 : Int) := IntWalk.i64_in _ (by omega)
      have w2 : IntKind.i64.wrap (d2 : Int) = (d2 : Int) := IntWalk.i64_in _ (by omega)
      have s0 : (d0 : Int) % 256 = (d0 : Int) := by omega
      have s1 : (b1 : Int) % 256 = (b1 : Int) := by omega
      have s2 : (b2 : Int) % 256 = (b2 : Int) := by omega
      have s3 : (b3 : Int) % 256 = (b3 : Int) := by omega
      have t0 : d0 < 256 := by omega
      have t1 : b1 < 256 := by omega
      have t2 : b2 < 256 := by omega
      have t3 : b3 < 256 := by omega
      have HA : Hid (JG w va jm jf (wr.alloc (.cells #[.int .u8 (d0 : Nat), .int .u8 (b1 : Nat), .int .u8 (b2 : Nat), .int .u8 (b3 : Nat)] 5))) := Lib.hid (HX2.out.later ((Below.refl _ _).alloc (Nat.le_refl _) _))
      clear hcell hle hby hno hcm hlbl hl hGi hjmE hjf HX e0 e1 e2 e3 hjs hfs hl4 hjm hjq hi hli hd0 hd1 hd2 hb1 hb2 hb3
      go_wp2_with (first
        | (refine wpList_appO rfl (.tmp 17) (.tmp 32) rfl w.heap.size va jm 4 4 (some ⟨wr.heap.size, 0, none⟩) jf (numB l 4) (wr.alloc (.cells #[.int .u8 (d0 : Nat), .int .u8 (b1 : Nat), .int .u8 (b2 : Nat), .int .u8 (b3 : Nat)] 5)) rfl HA.out.g rfl (fun h => by cases h) (HF4.out wr) (by have := HC.out; omega) HA.out.o.size ?_; intro v6 w6 hG6 hg6 hob6; have H6 := Lib.hid (HA.out.grew hg6 hG6); have hc2 := HCE.out _ H6.out.o; clear hG6 hg6 hob6 HA HX2 hc1)
        | (refine wpList_appO rfl (.tmp 34) (.tmp 38) rfl w.heap.size v6 (jm + 4) l cpi od (catF jm jf (numB l 4)) Gi w6 rfl H6.out.g rfl HNO.out (HBY.out _ H6.out.o) (by have := HC.out; omega) H6.out.o.size ?_; intro v7 w7 hG7 hg7 hob7; have H7 := Lib.hid (H6.out.grew hg7 hG7); clear hG7 hg7 hob7 H6 hc2))
      go_roundw
      case rel => exact ⟨i + 1, _, HQ.out.1, by go_num, rfl, by rw [HJS.out, HFS.out]; exact H7.out⟩
      case measure => have := HQ.out; simp [intOf] <;> omega
    · obtain rfl : i = q := by omega
      clear hli hi
      go_wp2_with fail
      go_ret
      exact ⟨_, rfl, HX.out⟩
set_option maxRecDepth 100000 in
set_option maxHeartbeats 4000000 in
theorem rparts_any (oa op : Option Addr) (n cn q cq : Nat) (K : Nat → Nat) (L : Nat → Nat) (G : Nat → Nat → Nat) (w : World) (hb : Bytes w oa n K) (hno : oa = none → n = 0) (hn : n < 800000000000) (hL : LBs w op q L G) (hl4 : ∀ i, i < q → L i < 4294967296) (hq : q < 4294967296) (hj : jlen L q < 700000000000) :
    Calls Tryd.prog 25 #[.slice oa n cn, .slice op q cq] w fun e w' => e = .returned (.agg (rowC 32 (hmN n K (jlen L q) (jfun L G q))).toArray) ∧ Below w.heap.size w w' := by
  have hz := zero32_run
  obtain ⟨wa, hwa⟩ : ∃ q, w.alloc (.cells zero32 27) = q := ⟨_, rfl⟩
  obtain ⟨m, hm⟩ : ∃ m, jlen L q = m := ⟨_, rfl⟩
  obtain ⟨F, hF⟩ : ∃ m, jfun L G q = m := ⟨_, rfl⟩
  obtain ⟨M, hM⟩ : ∃ D, hmN n K m F = D := ⟨_, rfl⟩
  obtain ⟨CM, hCM⟩ : ∃ C, (rowC 32 M).toArray = C := ⟨_, rfl⟩
  have HCM := Lib.hid hCM
  have HM := Lib.hid hM
  have HJ : Hid ((Tryd.prog.info? 27).map (·.size) = some CM.size) := Lib.hid (hCM ▸ info27 _)
  have HJ1 : Hid (CM.all (·.oneCell') = true) := Lib.hid (hCM ▸ one32 _)
  have hba : Below w.heap.size w wa := by rw [← hwa]; exact (Below.refl _ _).alloc (Nat.le_refl _) _
  have HF8 : Hid (∀ k, k < m → F k < 256) := Lib.hid (by
    rw [← hm, ← hF]
    exact jfun_lt q fun i hi k hk => by obtain ⟨_, _, _, _, _, _, _, h, _⟩ := hL i hi; exact (h k hk).1)
  have HLL : Hid (LBs wa op q L G) := Lib.hid fun i hi => by
    obtain ⟨b, off, od, cp, h1, h2, h3, h4, h5, h6⟩ := hL i hi
    exact ⟨b, off, od, cp, h1, cell_below hba h2, h3, h4.later hba, h5, h6⟩
  have HJO : Hid (Calls Tryd.prog 37 #[.slice op q cq] wa fun e w' => ∃ v, e = .returned v ∧ JG wa v m F w') := Lib.hid (by rw [← hm, ← hF]; exact joined_any op q cq L G wa HLL.out hl4 hq hj)
  have HKB : Hid (∀ w', Below w.heap.size w w' → Bytes w' oa n K) := Lib.hid fun w' h => hb.later h
  have HNO := Lib.hid hno
  have HNN : Hid (n < 800000000000 ∧ m < 700000000000) := Lib.hid ⟨hn, hm ▸ hj⟩
  have H0 : Hid (RB 27 32 w.heap.size (fun _ => 0) wa ∧ Below w.heap.size w wa) := Lib.hid ⟨by rw [← hwa]; exact Blk.new w _ _, hba⟩
  rw [hm, hF, hM, hCM]
  clear hb hno hn hL hl4 hq hj hm hF hM hCM hba HLL
  go_enter Tryd.func25, Tryd.ntmps25
  go_wp2_with fail
  clear hwa hz
  refine HJO.out.mono ?_
  rintro e w1 ⟨v, rfl, hJ⟩
  obtain ⟨o1, c1, hv1, hB1, hc1, hn1⟩ := hJ.g.bytesC HF8.out
  subst hv1
  have H1 : Hid (RB 27 32 w.heap.size (fun _ => 0) w1 ∧ Below w.heap.size w w1) := Lib.hid ⟨Blk.below H0.out.1 hJ.o (Blk.lt H0.out.1), H0.out.2.trans (hJ.o.mono H0.out.2.size)⟩
  have HB1 := Lib.hid hB1
  have HN1 := Lib.hid hn1
  clear hJ hB1 hc1 hn1 H0 HJO
  go_wp2_with fail
  refine (rmac_any oa o1 n cn m c1 K F w1 (HKB.out _ H1.out.2) HNO.out HNN.out.1 HB1.out HN1.out (by have := HNN.out; omega)).mono ?_
  rintro e w2 ⟨rfl, hb2⟩
  rw [HM.out, HCM.out]
  have hR : RB 27 32 w.heap.size (fun _ => 0) w2 := Blk.below H1.out.1 hb2 (Blk.lt H1.out.1)
  have hO := H1.out.2.trans (hb2.mono H1.out.2.size)
  have HN : Hid (Blk (w2.setCells w.heap.size 0 CM.toList) w.heap.size CM 27) := Lib.hid (by rw [← HCM.out]; exact Blk.setCells hR (rowC 32 M) (by rw [rowC_size, rowC_len]))
  have HO : Hid (Below w.heap.size w (w2.setCells w.heap.size 0 CM.toList)) := Lib.hid (hO.trans ((Own.setCells _ 0 w2).below (Nat.le_refl _) hO.size))
  have HTH : Hid (w2.there w.heap.size 0 CM.size) := Lib.hid (by rw [← HCM.out]; exact Blk.there hR (by rw [rowC_size, rowC_size]; exact Nat.le_refl _))
  clear hR hO hb2 H1 HB1 HN1
  go_wp2_with (first
    | (refine wpList_store_mid rfl 27 (.tmp 4) (.tmp 8) rfl w.heap.size 0 CM rfl rfl HTH.out HJ.out HJ1.out ?_))
  refine bodyPost_ret (v := .agg CM) ?_ rfl ⟨rfl, HO.out⟩
  exact results_cell_row Tryd.results25 _ _ w.heap.size 27 CM (0, 0) _ rfl HN.out Tryd.underlying27 rfl HJ.out
end Go.Proofs.YtbblibddikdakaaDoor
