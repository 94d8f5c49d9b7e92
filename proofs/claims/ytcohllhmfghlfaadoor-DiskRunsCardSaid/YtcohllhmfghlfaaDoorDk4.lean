/- A disk: synced, crashed. -/
import Derived.Test.YtcohllhmfghlfaaDoorDk3
import Derived.Test.YtcohllhmfghlfaaDoorBls
namespace Go.Proofs.YtcohllhmfghlfaaDoor
set_option linter.unusedVariables false
set_option linter.unusedSimpArgs false
open Go.RowKit

def keepP (nk : Nat) (f : Nat → Bool) : Nat → Bool := fun j => decide (j < nk) && f j
theorem Bools.oth {w w' : World} {oa : Option Addr} {n d sb : Nat} {v : Value} {f : Nat → Bool} (h : Bools w oa n f) (hO : Oth d sb v w w') (hn : ∀ a, oa = some a → 0 < n → a.block ≠ d ∧ a.block ≠ sb ∧ v.ownBlock ≠ some a.block) : Bools w' oa n f := fun k hk => by
  obtain ⟨b, off, h2, h3⟩ := h k hk
  have hlt := World.block_lt_of_cell? _ _ h3
  obtain ⟨n1, n2, n3⟩ := hn _ h2 (by omega)
  refine ⟨b, off, h2, ?_⟩
  rw [← h3]
  simp only [World.cell?]
  rw [hO.block b hlt n1 n2 n3]
set_option maxRecDepth 100000 in
set_option maxHeartbeats 1000000 in
theorem kept_some (j kb nk ck : Nat) (ok : Option Addr) (f : Nat → Bool) (w : World) (hb : Blk w kb #[.slice ok nk ck] 37) (hB : Bools w ok nk f) (hnk : nk ≤ maxLen) :
    Calls Tryd.prog 33 #[.int .i64 (j : Int), .pointer (some ⟨kb, 0, none⟩)] w fun e w' => e = .returned (.bool (keepP nk f j)) ∧ w = w' := by
  unfold maxLen at hnk
  have c0 : w.cell? ⟨kb, 0, none⟩ = some (.slice ok nk ck) := by rw [Blk.cell hb]; rfl
  have n0 : (nk : Int) ≤ 9223372036854775807 := by omega
  have j0 : (0 : Int) ≤ (j : Int) := by omega
  by_cases hj : j < nk
  · have j1 : (j : Int) < (nk : Int) := by omega
    obtain ⟨b, off, rfl, hc⟩ := hB j hj
    obtain ⟨y, hy⟩ : ∃ y, f j = y := ⟨_, rfl⟩
    rw [show keepP nk f j = y by unfold keepP; simp [hj, hy]]
    rw [hy] at hc
    clear hB hb hj hy hnk
    go_enter Tryd.func33, Tryd.ntmps33
    go_wp2_with fail
    go_ret
    exact ⟨rfl, rfl⟩
  · have j1 : ¬ (j : Int) < (nk : Int) := by omega
    have j2 : decide ((j : Int) < (nk : Int)) = false := decide_eq_false j1
    rw [show keepP nk f j = false by unfold keepP; simp [hj]]
    clear hB hb hj hnk
    go_enter Tryd.func33, Tryd.ntmps33
    go_wp2_with fail
    go_ret
    exact ⟨rfl, rfl⟩
set_option maxRecDepth 100000 in
set_option maxHeartbeats 8000000 in
theorem settle_keep {w : World} {B d sb : Nat} {v : Value} {s : DS} (h : DK w B d sb v s) (kb nk ck : Nat) (ok : Option Addr) (fb : Nat → Bool) (hkb : Blk w kb #[.slice ok nk ck] 37) (hkn : kb ≠ d ∧ kb ≠ sb ∧ v.ownBlock ≠ some kb) (hB : Bools w ok nk fb) (hbb : ∀ a, ok = some a → 0 < nk → a.block < B) (hnk : nk ≤ maxLen) :
    Calls Tryd.prog 29 #[.pointer (some ⟨d, 0, none⟩), .func (.func 33) #[] #[.pointer (some ⟨kb, 0, none⟩)]] w fun e w' => (∃ x, e = .returned x) ∧ Dn w w' B d sb v (.slice none 0 0) (setS s (keepP nk fb)) := by
  have hz : ∀ w', (zeroValue 70).run Tryd.prog w' = .ok (.agg zW) w' := zW_run
  have HK : Hid (∀ (j : Nat) (w' : World), j < s.nw → Oth d sb v w w' → Calls Tryd.prog 33 #[.int .i64 (j : Int), .pointer (some ⟨kb, 0, none⟩)] w' fun e w'' => e = .returned (.bool ((keepP nk fb) j)) ∧ w' = w'') := Lib.hid fun j w' _ hO => kept_some j kb nk ck ok fb w' (hO.blk hkb hkn.1 hkn.2.1 hkn.2.2) (hB.oth hO fun a ha h0 => ⟨by have := hbb a ha h0; have := h.bd; omega, by have := hbb a ha h0; have := h.bs; omega, fun e => by have := hbb a ha h0; have := (h.lt.2.2 _ e).1; omega⟩) hnk
  obtain ⟨oa, cap, rfl, hnc, _⟩ := rws_cells h.wt (fun i _ => wtC_len _ _)
  have c1 := h.c0.2.1
  have hnb := h.nb
  have n0 : (s.nw : Int) ≤ 9223372036854775807 := by omega
  have HN := Lib.hid hnb
  have H0 := Lib.hid (show DK w B d sb (.slice oa s.nw cap) { s with S := stF s.S s.A s.D (keepP nk fb) 0 } ∧ Oth d sb (.slice oa s.nw cap) w w from ⟨h, Oth.refl _ _ _ _⟩)
  have HDW := Lib.hid h
  clear h hnb hnc hkb hkn hB hbb hnk
  go_enter Tryd.func29, Tryd.ntmps29
  go_wp2_with fail
  clear c1
  go_loopw [11] (fun x wr => ∃ j : Nat, j ≤ s.nw ∧ x = .int .i64 (j : Int) ∧ DK wr B d sb (.slice oa s.nw cap) { s with S := stF s.S s.A s.D (keepP nk fb) j } ∧ Oth d sb (.slice oa s.nw cap) w wr) (fun x _ => s.nw - (intOf x).toNat)
  case atStart => exact ⟨0, Nat.zero_le _, rfl, H0.out⟩
  case round =>
    clear H0
    obtain ⟨j, hj, rfl, hD, hX⟩ := hrel
    have HX := Lib.hid hX
    have HD := Lib.hid hD
    clear hX hD
    by_cases hlt : j < s.nw
    · as_aux_lemma =>
      have i1 : (j : Int) < (s.nw : Int) := by omega
      have i0 : (0 : Int) ≤ (j : Int) := by omega
      have HI := Lib.hid hlt
      have k4 : IntKind.i64.wrap ((j : Int) + 1) = ((j + 1 : Nat) : Int) := by have := HN.out; rw [IntWalk.i64_in _ (by omega)]; omega
      obtain ⟨b, rfl, hrg⟩ := wt_range HD.out hlt
      obtain ⟨a, ha⟩ : ∃ x, s.A j = x := ⟨_, rfl⟩
      obtain ⟨f, hf⟩ : ∃ x, s.D j = x := ⟨_, rfl⟩
      have hrg : wr.rangeAt b (j * 65) (wtC a f) := by rw [← ha, ← hf]; exact hrg
      have hd8 := HD.out.D8 j hlt
      have hd8 : a < s.n ∧ ∀ k, k < 64 → f k < 256 := by rw [← ha, ← hf]; exact hd8
      have HAF := Lib.hid (show s.A j = a ∧ s.D j = f ∧ a < s.n ∧ (∀ k, k < 64 → f k < 256) from ⟨ha, hf, hd8⟩)
      have HRG := Lib.hid hrg
      have hl0 := laidBk wr zW (wtC a f).toArray 70 (by rw [zW_size, List.size_toArray, wtC_len])
      obtain ⟨w2, hw2⟩ : ∃ x, (wr.alloc (.cells zW 70)).setCells wr.heap.size 0 (wtC a f).toArray.toList = x := ⟨_, rfl⟩
      rw [hw2] at hl0
      obtain ⟨g, hg⟩ : ∃ x, wr.heap.size = x := ⟨_, rfl⟩
      have H2 := Lib.hid hl0
      have HTH := Lib.hid hl0.2.2
      rw [hg] at HTH hw2
      have HG := Lib.hid hg
      have HIW : Hid ((Tryd.prog.info? 70).map (·.size) = some (wtC a f).toArray.size) := Lib.hid (by rw [List.size_toArray]; exact info_write)
      have HON : Hid ((wtC a f).toArray.all (·.oneCell') = true) := Lib.hid (all_oneCell_toArray (wtC_one a f))
      clear hlt hj ha hf hd8 hrg hl0
      go_wp2_with (first
        | (refine wpList_load_mid rfl 70 (.tmp 14) rfl b (j * 65) rfl (wtC a f) _ HRG.out Tryd.underlying70 rfl info_write ?_)
        | ((try rw [HG.out]); refine wpList_store_mid rfl 70 (.tmp 5) (.tmp 15) rfl g 0 (wtC a f).toArray rfl rfl HTH.out HIW.out HON.out ?_; rw [hw2]))
      have hb2 : Below wr.heap.size wr w2 := H2.out.2.1
      have HD2 := Lib.hid (HD.out.later hb2)
      have HX2 := Lib.hid (HX.out.trans (Nxt.refl _ _) (Oth.of_below hb2))
      have HG2 : Hid (Blk w2 g (wtC a f).toArray 70) := Lib.hid (by have := H2.out.1; rw [HG.out] at this; exact this)
      obtain ⟨kj, hkj⟩ : ∃ x, ((keepP nk fb)) j = x := ⟨_, rfl⟩
      have hc := HK.out j w2 HI.out HX2.out
      rw [hkj] at hc
      have HC := Lib.hid hc
      have HKJ := Lib.hid hkj
      clear hb2 hkj hc H2 HTH HIW HON hw2
      refine HC.out.mono ?_
      rintro e w3 ⟨rfl, rfl⟩
      clear HC
      cases kj with
      | true =>
        have c0 : w2.drew.cell? ⟨d, 0, none⟩ = some (.slice (some ⟨sb, 0, none⟩) s.n s.c) := HD2.out.c0.1
        have cg : w2.drew.cell? ⟨g, 0, none⟩ = some (.int .i64 (a : Int)) := by
          have h9 : w2.drew.cell? ⟨g, 0, none⟩ = (wtC a f).toArray[0]? := Blk.cell (w := w2.drew) HG2.out 0
          rw [h9]; rfl
        have HRF : Hid (w2.drew.rangeAt g 1 (rowC 64 f)) := Lib.hid fun k u hu => by
          have h9 : w2.drew.cell? ⟨g, 1 + k, none⟩ = (wtC a f).toArray[1 + k]? := Blk.cell (w := w2.drew) HG2.out (1 + k)
          rw [h9, Nat.add_comm 1 k, List.getElem?_toArray]; exact hu
        have a1 : (a : Int) < (s.n : Int) := by have := HAF.out.2.2.1; omega
        have a0 : (0 : Int) ≤ (a : Int) := by omega
        have HD3 := Lib.hid (HD2.out.later (Below.refl _ w2).drew)
        have HX3 := Lib.hid (HX2.out.trans (Nxt.refl _ _) (Oth.of_below (Below.refl _ w2).drew))
        clear HD2 HX2
        go_upto_region 4 with fail
        refine still_tail 9 (by kernel_rfl) (by kernel_rfl) ?_
        simp only [List.take_succ_cons, List.take_zero, List.drop_succ_cons, List.drop_zero]
        generalize w2.drew = W0 at *
        iterate 7 still_step
        refine wpStill_value rfl (exec_loadM (x := .tmp 25) (b := g) (f := 1) (cs := rowC 64 f) (d := _) rfl rfl HRF.out Tryd.underlying68 rfl info_sector) ?_
        (try simp only [Act.put, List.setIfInBounds_toArray, List.set_cons_zero, List.set_cons_succ])
        iterate 1 still_step
        refine wpStill_nil ?_
        obtain ⟨hnew, hown, hthere⟩ := DK.sec HD3.out HAF.out.2.2.1 HAF.out.2.2.2
        have HTS := Lib.hid hthere
        have H5 := Lib.hid (show DK (W0.setCells sb (a * 64) (rowC 64 f).toArray.toList) B d sb (.slice (some ⟨b, 0, none⟩) s.nw cap) { s with S := stF s.S s.A s.D (keepP nk fb) (j + 1) } ∧ Oth d sb (.slice (some ⟨b, 0, none⟩) s.nw cap) w (W0.setCells sb (a * 64) (rowC 64 f).toArray.toList) from
          ⟨by
            have e : stF s.S s.A s.D (keepP nk fb) (j + 1) = updF (stF s.S s.A s.D (keepP nk fb) j) a f := by show (if ((keepP nk fb)) j = true then _ else _) = _; rw [if_pos HKJ.out, HAF.out.1, HAF.out.2.1]
            rw [e]; exact hnew, HX3.out.trans (Nxt.refl _ _) (Oth.of_own hown (.inr (.inl rfl)))⟩)
        clear hnew hown hthere HD3 HX3
        refine wpList_store_mid rfl 68 (.tmp 27) (.tmp 26) rfl sb (a * 64) (rowC 64 f).toArray rfl rfl HTS.out (by rw [List.size_toArray]; exact info_sector) (all_oneCell_toArray (rowC_one _ _)) ?_
        obtain ⟨w4, hw4⟩ : ∃ x, W0.setCells sb (a * 64) (rowC 64 f).toArray.toList = x := ⟨_, rfl⟩
        rw [hw4] at H5 ⊢
        clear hw4 HTS c0 cg a1 a0
        go_wp2_with fail
        go_roundw
        case rel => exact ⟨j + 1, HI.out, by first | rfl | go_num, H5.out.1, H5.out.2⟩
        case measure => have := HI.out; simp [intOf]; omega
      | false =>
        have H5 := Lib.hid (show DK w2 B d sb (.slice (some ⟨b, 0, none⟩) s.nw cap) { s with S := stF s.S s.A s.D (keepP nk fb) (j + 1) } ∧ Oth d sb (.slice (some ⟨b, 0, none⟩) s.nw cap) w w2 from
          ⟨by
            have e : stF s.S s.A s.D (keepP nk fb) (j + 1) = stF s.S s.A s.D (keepP nk fb) j := by show (if ((keepP nk fb)) j = true then _ else _) = _; rw [if_neg (by rw [HKJ.out]; decide)]
            rw [e]; exact HD2.out, HX2.out⟩)
        clear HD2 HX2
        go_wp2_with fail
        go_roundw
        case rel => exact ⟨j + 1, HI.out, by first | rfl | go_num, H5.out.1, H5.out.2⟩
        case measure => have := HI.out; simp [intOf]; omega
    · obtain rfl : j = s.nw := by omega
      have i1 : ¬ (s.nw : Int) < (s.nw : Int) := by omega
      have c1 : wr.cell? ⟨d, 1, none⟩ = some (.slice oa s.nw cap) := HD.out.c0.2.1
      have fr : wr.frozen? ⟨d, 1, none⟩ = false := HD.out.c0.2.2.2.2 1
      have HF : Hid (Dn wr (wr.setCell ⟨d, 1, none⟩ (.slice none 0 0)) B d sb (.slice oa s.nw cap) (.slice none 0 0) (setS s (keepP nk fb))) := Lib.hid (HD.out.turn ((Own.refl _ _).set _ _) (Blk.set HD.out.me 1 _) rfl rfl (.inr ⟨rfl, rfl⟩) HD.out.ab)
      clear hlt hj hz
      go_wp2_with fail
      go_end0
      exact ⟨⟨_, rfl⟩, ⟨HF.out.dk, HX.out.trans (Nxt.refl _ _) HF.out.ot, HF.out.nx.trans_of (Nxt.refl _ _) HX.out.size⟩⟩
def crashS (s : DS) (kp : Nat → Bool) : DS := { setS s kp with ar := 0, dn := false }
set_option maxRecDepth 100000 in
set_option maxHeartbeats 4000000 in
theorem crash_any {w : World} {B d sb : Nat} {v : Value} {s : DS} (h : DK w B d sb v s) (nk ck : Nat) (ok : Option Addr) (f : Nat → Bool) (hB : Bools w ok nk f) (hbb : ∀ a, ok = some a → 0 < nk → a.block < B) (hnk : nk ≤ maxLen) :
    Calls Tryd.prog 14 #[.pointer (some ⟨d, 0, none⟩), .slice ok nk ck] w fun e w' => (∃ x, e = .returned x) ∧ Dn w w' B d sb v (.slice none 0 0) (crashS s (keepP nk f)) := by
  obtain ⟨w1, hw1⟩ : ∃ x, w.alloc (.cells #[.slice ok nk ck] 37) = x := ⟨_, rfl⟩
  have hb1 : Below w.heap.size w w1 := by rw [← hw1]; exact (Below.refl _ _).alloc (Nat.le_refl _) _
  have hk1 : Blk w1 w.heap.size #[.slice ok nk ck] 37 := by rw [← hw1]; exact Blk.new _ _ _
  have hl := h.lt
  have HST := Lib.hid (settle_keep (h.later hb1) w.heap.size nk ck ok f hk1 ⟨by omega, by omega, fun e => by have := (hl.2.2 _ e).2; omega⟩ (hB.later hb1) hbb hnk)
  have HD1 := Lib.hid (Dn.later h hb1)
  clear h hB hbb hnk hb1 hk1 hl
  go_enter Tryd.func14, Tryd.ntmps14
  go_wp2_with fail
  refine HST.out.mono ?_
  rintro e w2 ⟨⟨x, rfl⟩, hd2⟩
  have HD2 := Lib.hid (HD1.out.trans hd2)
  obtain ⟨_, _, c2, c3, fr⟩ := hd2.dk.c0
  have f2 := fr 2
  have f3 := fr 3
  have HF : Hid (Dn w2 ((w2.setCell ⟨d, 2, none⟩ (.int .i64 0)).setCell ⟨d, 3, none⟩ (.bool false)) B d sb (.slice none 0 0) (.slice none 0 0) (crashS s (keepP nk f))) := Lib.hid (hd2.dk.turn (((Own.refl _ _).set _ _).set _ _) (Blk.set (Blk.set hd2.dk.me 2 _) 3 _) rfl rfl (.inl ⟨rfl, rfl, rfl, rfl⟩) (by show 0 < _; decide))
  clear hd2 fr hw1 HST
  go_wp2_with fail
  go_end0
  exact ⟨⟨_, rfl⟩, HD2.out.trans HF.out⟩
set_option maxRecDepth 100000 in
set_option maxHeartbeats 4000000 in
theorem sync_any {w : World} {B d sb : Nat} {v : Value} {s : DS} (h : DK w B d sb v s) :
    Calls Tryd.prog 9 #[.pointer (some ⟨d, 0, none⟩)] w fun e w' => e = .returned (if (stepS s).dn = true then .iface 60 (.int .i64 23) else .nilIface) ∧ ∃ v', Dn w w' B d sb v v' (if (stepS s).dn = true then stepS s else setS (stepS s) allK) := by
  have hst := step_any h
  obtain ⟨s1, hs1⟩ : ∃ x, stepS s = x := ⟨_, rfl⟩
  rw [hs1] at hst ⊢
  clear hs1 h
  cases hdn : s1.dn with
  | true =>
    rw [if_pos rfl, if_pos rfl]
    rw [hdn] at hst
    have HST := Lib.hid hst
    clear hdn hst
    go_enter Tryd.func9, Tryd.ntmps9
    go_wp2_with fail
    refine HST.out.mono ?_
    rintro e w1 ⟨rfl, hd1⟩
    have HD1 := Lib.hid hd1
    clear hd1 HST
    go_wp2_with fail
    go_ret
    exact ⟨rfl, v, HD1.out⟩
  | false =>
    rw [if_neg (by decide), if_neg (by decide)]
    rw [hdn] at hst
    have HST := Lib.hid hst
    clear hdn hst
    go_enter Tryd.func9, Tryd.ntmps9
    go_wp2_with fail
    refine HST.out.mono ?_
    rintro e w1 ⟨rfl, hd1⟩
    have HD1 := Lib.hid hd1
    have HS1 := Lib.hid (settle_all hd1.dk)
    clear hd1 HST
    go_wp2_with fail
    refine HS1.out.mono ?_
    rintro e w2 ⟨⟨x, rfl⟩, hd2⟩
    have HD2 := Lib.hid (HD1.out.trans hd2)
    clear hd2 HS1
    go_wp2_with fail
    go_ret
    exact ⟨rfl, _, HD2.out⟩
end Go.Proofs.YtcohllhmfghlfaaDoor
