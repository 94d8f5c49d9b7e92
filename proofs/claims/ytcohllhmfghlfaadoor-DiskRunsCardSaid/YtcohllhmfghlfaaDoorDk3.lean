/- A disk: the writes that wait, settled. -/
import Derived.Test.YtcohllhmfghlfaaDoorDk2
import Derived.StillTailTactics
namespace Go.Proofs.YtcohllhmfghlfaaDoor
set_option linter.unusedVariables false
set_option linter.unusedSimpArgs false
open Go.RowKit

theorem splice_get {L cs : List Value} {off : Nat} (h : off + cs.length ≤ L.length) (i : Nat) : (splice L off cs)[i]? = if i < off then L[i]? else if i < off + cs.length then cs[i - off]? else L[i]? := by
  unfold splice
  by_cases h1 : i < off
  · rw [if_pos h1, List.getElem?_append_left (by rw [List.length_take]; omega), List.getElem?_take_of_lt h1]
  · rw [if_neg h1, List.getElem?_append_right (by rw [List.length_take]; omega), List.length_take, Nat.min_eq_left (by omega)]
    by_cases h2 : i < off + cs.length
    · rw [if_pos h2, List.getElem?_append_left (by omega)]
    · rw [if_neg h2, List.getElem?_append_right (by omega), List.getElem?_drop, show off + cs.length + (i - off - cs.length) = i by omega]
theorem Blk.setMid {w : World} {b : Nat} {D : List Value} {t : TypeId} (h : Blk w b D.toArray t) (o : Nat) (vs : List Value) (hs : o + vs.length ≤ D.length) : Blk (w.setCells b o vs) b (splice D o vs).toArray t := by
  obtain ⟨D', h1, h2⟩ := Blk.setCells_any vs o w _ h
  have e : D' = (splice D o vs).toArray := by
    refine Array.ext (by rw [h2, List.size_toArray, List.size_toArray, length_splice _ _ _ hs]) fun j hj hj2 => ?_
    have hc1 : (w.setCells b o vs).cell? ⟨b, j, none⟩ = some D'[j] := by rw [Blk.cell h1, Array.getElem?_eq_getElem hj]
    have hjl : j < D.length := by rw [h2, List.size_toArray] at hj; exact hj
    have hD : ∀ i, i < D.length → w.cell? ⟨b, i, none⟩ = D[i]? := fun i hi => by rw [Blk.cell h i]; simp
    have hg : (splice D o vs)[j]? = some (splice D o vs).toArray[j] := by
      rw [List.getElem?_eq_getElem (by simpa using hj2)]; simp
    rw [splice_get hs] at hg
    by_cases h3 : o ≤ j ∧ j < o + vs.length
    · rw [if_neg (by omega), if_pos h3.2] at hg
      have hi := World.cell?_setCells_in b vs o w (fun i hi => by rw [hD _ (by omega), List.getElem?_eq_getElem (by omega)]; rfl) (j - o) (by omega)
      rw [show o + (j - o) = j by omega] at hi
      rw [hc1] at hi
      rw [← List.getElem?_eq_getElem (by omega)] at hi
      rw [hg] at hi
      exact Option.some.inj hi
    · have ho := World.cell?_setCells_out b vs o w ⟨b, j, none⟩ (by simp; omega)
      rw [hc1, hD j hjl] at ho
      have : D[j]? = some (splice D o vs).toArray[j] := by
        by_cases h4 : j < o
        · rw [if_pos h4] at hg; exact hg
        · rw [if_neg h4, if_neg (by omega)] at hg; exact hg
      rw [this] at ho
      exact Option.some.inj ho
  rw [← e]; exact h1

theorem laidBk (w : World) (Z C : Array Value) (T : TypeId) (hs : C.size = Z.size) : Blk ((w.alloc (.cells Z T)).setCells w.heap.size 0 C.toList) w.heap.size C T ∧ Below w.heap.size w ((w.alloc (.cells Z T)).setCells w.heap.size 0 C.toList) ∧ (w.alloc (.cells Z T)).there w.heap.size 0 C.size := by
  have h1 : Blk (w.alloc (.cells Z T)) w.heap.size Z T := Blk.new _ _ _
  have h2 : Below w.heap.size w (w.alloc (.cells Z T)) := (Below.refl _ _).alloc (Nat.le_refl _) _
  exact ⟨Blk.whole h1 hs, h2.trans ((Own.setCells _ 0 _).below (Nat.le_refl _) h2.size), Blk.thereAll h1 _ (Nat.le_of_eq hs)⟩
def zW : Array Value := (wtC 0 (fun _ => 0)).toArray
theorem zW_size : zW.size = 65 := by unfold zW; rw [List.size_toArray, wtC_len]
theorem zW_run (w : World) : (zeroValue 70).run Tryd.prog w = .ok (.agg zW) w := by kernel_rfl
theorem Nxt.trans_of {w w0 : World} {v v' : Value} (h : Nxt w v v') (_ : Nxt w0 v v) (hs : w0.heap.size ≤ w.heap.size) : Nxt w0 v v' := fun k hk => by
  rcases h k hk with e | e
  · exact .inl e
  · exact .inr (by omega)
theorem wt_range {w : World} {B d sb nw cap : Nat} {oa : Option Addr} {s : DS} (h : DK w B d sb (.slice oa nw cap) s) {j : Nat} (hj : j < s.nw) : ∃ b, oa = some ⟨b, 0, none⟩ ∧ w.rangeAt b (j * 65) (wtC (s.A j) (s.D j)) := by
  obtain ⟨oa', cap', e, _, _, _, hh⟩ := rws_cells h.wt (fun i _ => wtC_len _ _)
  cases e
  obtain ⟨b, off, e1, e2, _⟩ := hh j 0 hj (by decide)
  subst e2
  refine ⟨b, e1, fun k u hu => ?_⟩
  have hk : k < 65 := by have := (List.getElem?_eq_some_iff.1 hu).1; rw [wtC_len] at this; exact this
  obtain ⟨b', off', e3, e4, e5⟩ := hh j k hj hk
  rw [e1] at e3; cases e3
  rw [Nat.zero_add] at e5
  rw [e5]; exact hu
theorem sec_put {n a : Nat} {S : Nat → Nat → Nat} {f : Nat → Nat} (ha : a < n) : splice (rws n fun i => rowC 64 (S i)) (a * 64) (rowC 64 f) = rws n fun i => rowC 64 (updF S a f i) := by
  have hl : ∀ S : Nat → Nat → Nat, (rws n fun i => rowC 64 (S i)).length = n * 64 := fun S => rws_len (k := 64) fun i _ => rowC_len _ _
  have ha64 : a * 64 + 64 ≤ n * 64 := by omega
  refine List.ext_getElem? fun t => ?_
  rw [splice_get (by rw [rowC_len, hl]; exact ha64), rowC_len]
  by_cases ht : t < n * 64
  · have e : ∀ S : Nat → Nat → Nat, (rws n fun i => rowC 64 (S i))[t]? = (rowC 64 (S (t / 64)))[t % 64]? := fun S => by
      have := rws_get (k := 64) (C := fun i => rowC 64 (S i)) (n := n) (fun i _ => rowC_len _ _) (i := t / 64) (j := t % 64) (by omega) (Nat.mod_lt _ (by decide))
      rw [← this]; congr 1; omega
    rw [e, e]
    unfold updF
    by_cases h1 : t < a * 64
    · rw [if_pos h1, if_neg (by omega)]
    · rw [if_neg h1]
      by_cases h2 : t < a * 64 + 64
      · rw [if_pos h2, if_pos (by omega), show t - a * 64 = t % 64 by omega]
      · rw [if_neg h2, if_neg (by omega)]
  · rw [if_neg (by omega), if_neg (by omega), List.getElem?_eq_none (by rw [hl]; omega), List.getElem?_eq_none (by rw [hl]; omega)]
def allK : Nat → Bool := fun _ => true
theorem splice_left {L X cs : List Value} {off : Nat} (h : off + cs.length ≤ L.length) : splice (L ++ X) off cs = splice L off cs ++ X := by
  unfold splice
  rw [List.take_append_of_le_length (by omega), List.drop_append_of_le_length (by omega)]
  simp only [List.append_assoc]
theorem DK.sec {w : World} {B d sb a : Nat} {v : Value} {s : DS} {f : Nat → Nat} (h : DK w B d sb v s) (ha : a < s.n) (hf : ∀ k, k < 64 → f k < 256) :
    DK (w.setCells sb (a * 64) (rowC 64 f).toArray.toList) B d sb v { s with S := updF s.S a f } ∧ Own sb w (w.setCells sb (a * 64) (rowC 64 f).toArray.toList) ∧ w.there sb (a * 64) (rowC 64 f).toArray.size := by
  have hO : Own sb w (w.setCells sb (a * 64) (rowC 64 f)) := Own.setCells _ _ _
  have hl : (rws s.n fun i => rowC 64 (s.S i)).length = s.n * 64 := rws_len (k := 64) fun i _ => rowC_len _ _
  have ha64 : a * 64 + 64 ≤ s.n * 64 := by omega
  have hm := Blk.setMid h.sf (a * 64) (rowC 64 f) (by rw [rowC_len, List.length_append, hl]; omega)
  rw [splice_left (by rw [rowC_len, hl]; exact ha64), sec_put ha] at hm
  refine ⟨⟨hO.blk h.me h.ne, hm, ?_, h.bd, h.bs, h.ne, h.nv, h.n0, ?_, h.D8, h.ab, h.nb⟩, hO, ?_⟩
  · refine ⟨h.wt.1, ?_⟩
    rcases h.wt.2 with e | ⟨g, cap, cur, e, hb, hh, r⟩
    · exact .inl e
    · exact .inr ⟨g, cap, cur, e, hb, by rw [hO.block g (lt_of_block hh) ((h.nv g (by rw [e]; rfl)).2)]; exact hh, r⟩
  · intro i hi k hk
    show updF s.S a f i k < 256
    unfold updF
    split
    · exact hf k hk
    · exact h.S8 i hi k hk
  · intro j hj
    rw [List.size_toArray, rowC_len] at hj
    rw [Blk.cell h.sf, Blk.free h.sf]
    refine ⟨?_, rfl⟩
    rw [List.getElem?_toArray, List.getElem?_append_left (by rw [hl]; omega), List.getElem?_eq_getElem (by rw [hl]; omega)]; rfl
set_option maxRecDepth 100000 in
set_option maxHeartbeats 1000000 in
theorem kept_all (j : Nat) (w : World) : Calls Tryd.prog 30 #[.int .i64 (j : Int)] w fun e w' => e = .returned (.bool true) ∧ w = w' := by
  go_enter Tryd.func30, Tryd.ntmps30
  go_wp2_with fail
  go_ret
  exact ⟨rfl, rfl⟩
set_option maxRecDepth 100000 in
set_option maxHeartbeats 8000000 in
theorem settle_all {w : World} {B d sb : Nat} {v : Value} {s : DS} (h : DK w B d sb v s)  :
    Calls Tryd.prog 29 #[.pointer (some ⟨d, 0, none⟩), .func (.func 30) #[] #[]] w fun e w' => (∃ x, e = .returned x) ∧ Dn w w' B d sb v (.slice none 0 0) (setS s allK) := by
  have hz : ∀ w', (zeroValue 70).run Tryd.prog w' = .ok (.agg zW) w' := zW_run
  have HK : Hid (∀ (j : Nat) (w' : World), j < s.nw → Oth d sb v w w' → Calls Tryd.prog 30 #[.int .i64 (j : Int)] w' fun e w'' => e = .returned (.bool (allK j)) ∧ w' = w'') := Lib.hid fun j w' _ _ => kept_all j w'
  obtain ⟨oa, cap, rfl, hnc, _⟩ := rws_cells h.wt (fun i _ => wtC_len _ _)
  have c1 := h.c0.2.1
  have hnb := h.nb
  have n0 : (s.nw : Int) ≤ 9223372036854775807 := by omega
  have HN := Lib.hid hnb
  have H0 := Lib.hid (show DK w B d sb (.slice oa s.nw cap) { s with S := stF s.S s.A s.D allK 0 } ∧ Oth d sb (.slice oa s.nw cap) w w from ⟨h, Oth.refl _ _ _ _⟩)
  have HDW := Lib.hid h
  clear h hnb hnc
  go_enter Tryd.func29, Tryd.ntmps29
  go_wp2_with fail
  clear c1
  go_loopw [11] (fun x wr => ∃ j : Nat, j ≤ s.nw ∧ x = .int .i64 (j : Int) ∧ DK wr B d sb (.slice oa s.nw cap) { s with S := stF s.S s.A s.D allK j } ∧ Oth d sb (.slice oa s.nw cap) w wr) (fun x _ => s.nw - (intOf x).toNat)
  case atStart => exact ⟨0, Nat.zero_le _, rfl, H0.out⟩
  case round =>
    clear H0
    obtain ⟨j, hj, rfl, hD, hX⟩ := hrel
    have HX := Lib.hid hX
    have HD := Lib.hid hD
    clear hX hD
    by_cases hlt : j < s.nw
    · as_aux_lemma =>
      have i1 : (j : Int) < (s.nw : Int) := by omega
      have i0 : (0 : Int) ≤ (j : Int) := by omega
      have HI := Lib.hid hlt
      have k4 : IntKind.i64.wrap ((j : Int) + 1) = ((j + 1 : Nat) : Int) := by have := HN.out; rw [IntWalk.i64_in _ (by omega)]; omega
      obtain ⟨b, rfl, hrg⟩ := wt_range HD.out hlt
      obtain ⟨a, ha⟩ : ∃ x, s.A j = x := ⟨_, rfl⟩
      obtain ⟨f, hf⟩ : ∃ x, s.D j = x := ⟨_, rfl⟩
      have hrg : wr.rangeAt b (j * 65) (wtC a f) := by rw [← ha, ← hf]; exact hrg
      have hd8 := HD.out.D8 j hlt
      have hd8 : a < s.n ∧ ∀ k, k < 64 → f k < 256 := by rw [← ha, ← hf]; exact hd8
      have HAF := Lib.hid (show s.A j = a ∧ s.D j = f ∧ a < s.n ∧ (∀ k, k < 64 → f k < 256) from ⟨ha, hf, hd8⟩)
      have HRG := Lib.hid hrg
      have hl0 := laidBk wr zW (wtC a f).toArray 70 (by rw [zW_size, List.size_toArray, wtC_len])
      obtain ⟨w2, hw2⟩ : ∃ x, (wr.alloc (.cells zW 70)).setCells wr.heap.size 0 (wtC a f).toArray.toList = x := ⟨_, rfl⟩
      rw [hw2] at hl0
      obtain ⟨g, hg⟩ : ∃ x, wr.heap.size = x := ⟨_, rfl⟩
      have H2 := Lib.hid hl0
      have HTH := Lib.hid hl0.2.2
      rw [hg] at HTH hw2
      have HG := Lib.hid hg
      have HIW : Hid ((Tryd.prog.info? 70).map (·.size) = some (wtC a f).toArray.size) := Lib.hid (by rw [List.size_toArray]; exact info_write)
      have HON : Hid ((wtC a f).toArray.all (·.oneCell') = true) := Lib.hid (all_oneCell_toArray (wtC_one a f))
      clear hlt hj ha hf hd8 hrg hl0
      go_wp2_with (first
        | (refine wpList_load_mid rfl 70 (.tmp 14) rfl b (j * 65) rfl (wtC a f) _ HRG.out Tryd.underlying70 rfl info_write ?_)
        | ((try rw [HG.out]); refine wpList_store_mid rfl 70 (.tmp 5) (.tmp 15) rfl g 0 (wtC a f).toArray rfl rfl HTH.out HIW.out HON.out ?_; rw [hw2]))
      have hb2 : Below wr.heap.size wr w2 := H2.out.2.1
      have HD2 := Lib.hid (HD.out.later hb2)
      have HX2 := Lib.hid (HX.out.trans (Nxt.refl _ _) (Oth.of_below hb2))
      have HG2 : Hid (Blk w2 g (wtC a f).toArray 70) := Lib.hid (by have := H2.out.1; rw [HG.out] at this; exact this)
      obtain ⟨kj, hkj⟩ : ∃ x, (allK) j = x := ⟨_, rfl⟩
      have hc := HK.out j w2 HI.out HX2.out
      rw [hkj] at hc
      have HC := Lib.hid hc
      have HKJ := Lib.hid hkj
      clear hb2 hkj hc H2 HTH HIW HON hw2
      refine HC.out.mono ?_
      rintro e w3 ⟨rfl, rfl⟩
      clear HC
      cases kj with
      | true =>
        have c0 : w2.drew.cell? ⟨d, 0, none⟩ = some (.slice (some ⟨sb, 0, none⟩) s.n s.c) := HD2.out.c0.1
        have cg : w2.drew.cell? ⟨g, 0, none⟩ = some (.int .i64 (a : Int)) := by
          have h9 : w2.drew.cell? ⟨g, 0, none⟩ = (wtC a f).toArray[0]? := Blk.cell (w := w2.drew) HG2.out 0
          rw [h9]; rfl
        have HRF : Hid (w2.drew.rangeAt g 1 (rowC 64 f)) := Lib.hid fun k u hu => by
          have h9 : w2.drew.cell? ⟨g, 1 + k, none⟩ = (wtC a f).toArray[1 + k]? := Blk.cell (w := w2.drew) HG2.out (1 + k)
          rw [h9, Nat.add_comm 1 k, List.getElem?_toArray]; exact hu
        have a1 : (a : Int) < (s.n : Int) := by have := HAF.out.2.2.1; omega
        have a0 : (0 : Int) ≤ (a : Int) := by omega
        have HD3 := Lib.hid (HD2.out.later (Below.refl _ w2).drew)
        have HX3 := Lib.hid (HX2.out.trans (Nxt.refl _ _) (Oth.of_below (Below.refl _ w2).drew))
        clear HD2 HX2
        go_upto_region 4 with fail
        refine still_tail 9 (by kernel_rfl) (by kernel_rfl) ?_
        simp only [List.take_succ_cons, List.take_zero, List.drop_succ_cons, List.drop_zero]
        generalize w2.drew = W0 at *
        iterate 7 still_step
        refine wpStill_value rfl (exec_loadM (x := .tmp 25) (b := g) (f := 1) (cs := rowC 64 f) (d := _) rfl rfl HRF.out Tryd.underlying68 rfl info_sector) ?_
        (try simp only [Act.put, List.setIfInBounds_toArray, List.set_cons_zero, List.set_cons_succ])
        iterate 1 still_step
        refine wpStill_nil ?_
        obtain ⟨hnew, hown, hthere⟩ := DK.sec HD3.out HAF.out.2.2.1 HAF.out.2.2.2
        have HTS := Lib.hid hthere
        have H5 := Lib.hid (show DK (W0.setCells sb (a * 64) (rowC 64 f).toArray.toList) B d sb (.slice (some ⟨b, 0, none⟩) s.nw cap) { s with S := stF s.S s.A s.D allK (j + 1) } ∧ Oth d sb (.slice (some ⟨b, 0, none⟩) s.nw cap) w (W0.setCells sb (a * 64) (rowC 64 f).toArray.toList) from
          ⟨by
            have e : stF s.S s.A s.D allK (j + 1) = updF (stF s.S s.A s.D allK j) a f := by show (if (allK) j = true then _ else _) = _; rw [if_pos HKJ.out, HAF.out.1, HAF.out.2.1]
            rw [e]; exact hnew, HX3.out.trans (Nxt.refl _ _) (Oth.of_own hown (.inr (.inl rfl)))⟩)
        clear hnew hown hthere HD3 HX3
        refine wpList_store_mid rfl 68 (.tmp 27) (.tmp 26) rfl sb (a * 64) (rowC 64 f).toArray rfl rfl HTS.out (by rw [List.size_toArray]; exact info_sector) (all_oneCell_toArray (rowC_one _ _)) ?_
        obtain ⟨w4, hw4⟩ : ∃ x, W0.setCells sb (a * 64) (rowC 64 f).toArray.toList = x := ⟨_, rfl⟩
        rw [hw4] at H5 ⊢
        clear hw4 HTS c0 cg a1 a0
        go_wp2_with fail
        go_roundw
        case rel => exact ⟨j + 1, HI.out, by first | rfl | go_num, H5.out.1, H5.out.2⟩
        case measure => have := HI.out; simp [intOf]; omega
      | false =>
        have H5 := Lib.hid (show DK w2 B d sb (.slice (some ⟨b, 0, none⟩) s.nw cap) { s with S := stF s.S s.A s.D allK (j + 1) } ∧ Oth d sb (.slice (some ⟨b, 0, none⟩) s.nw cap) w w2 from
          ⟨by
            have e : stF s.S s.A s.D allK (j + 1) = stF s.S s.A s.D allK j := by show (if (allK) j = true then _ else _) = _; rw [if_neg (by rw [HKJ.out]; decide)]
            rw [e]; exact HD2.out, HX2.out⟩)
        clear HD2 HX2
        go_wp2_with fail
        go_roundw
        case rel => exact ⟨j + 1, HI.out, by first | rfl | go_num, H5.out.1, H5.out.2⟩
        case measure => have := HI.out; simp [intOf]; omega
    · obtain rfl : j = s.nw := by omega
      have i1 : ¬ (s.nw : Int) < (s.nw : Int) := by omega
      have c1 : wr.cell? ⟨d, 1, none⟩ = some (.slice oa s.nw cap) := HD.out.c0.2.1
      have fr : wr.frozen? ⟨d, 1, none⟩ = false := HD.out.c0.2.2.2.2 1
      have HF : Hid (Dn wr (wr.setCell ⟨d, 1, none⟩ (.slice none 0 0)) B d sb (.slice oa s.nw cap) (.slice none 0 0) (setS s allK)) := Lib.hid (HD.out.turn ((Own.refl _ _).set _ _) (Blk.set HD.out.me 1 _) rfl rfl (.inr ⟨rfl, rfl⟩) HD.out.ab)
      clear hlt hj hz
      go_wp2_with fail
      go_end0
      exact ⟨⟨_, rfl⟩, ⟨HF.out.dk, HX.out.trans (Nxt.refl _ _) HF.out.ot, HF.out.nx.trans_of (Nxt.refl _ _) HX.out.size⟩⟩
end Go.Proofs.YtcohllhmfghlfaaDoor
