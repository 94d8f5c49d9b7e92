/- DiskRuns: the walk up to the loop. -/
import Derived.Test.YtcohllhmfghlfaaDoorDkTZ
import Derived.Deep.DeepCutAuto
import Derived.Deep.CutBlock
import Derived.Deep.LoopGhost
import Derived.Deep.RegionHeld3
namespace Go.Proofs.YtcohllhmfghlfaaDoor
set_option linter.unusedVariables false
set_option linter.unusedSimpArgs false
open Go.RowKit

structure ActD where
  kd : Int
  n : Int
  l : Nat
  f : Nat → Nat
  kl : Nat
  kf : Nat → Bool
def Acts (W : World) (oa : Option Addr) (n : Nat) (A : Nat → ActD) : Prop := ∀ i, i < n → ∃ b off ob cb ok ck, oa = some ⟨b, off, none⟩ ∧ W.cell? ⟨b, off + i * 4, none⟩ = some (.int .i64 (A i).kd) ∧ W.cell? ⟨b, off + i * 4 + 1, none⟩ = some (.int .i64 (A i).n) ∧ W.cell? ⟨b, off + i * 4 + 2, none⟩ = some (.slice ob (A i).l cb) ∧ W.cell? ⟨b, off + i * 4 + 3, none⟩ = some (.slice ok (A i).kl ck) ∧
  Bytes W ob (A i).l (A i).f ∧ (ob = none → (A i).l = 0) ∧ (A i).l ≤ cb ∧ cb ≤ maxLen ∧ Bools W ok (A i).kl (A i).kf ∧ (A i).kl ≤ maxLen ∧ (-9223372036854775808 ≤ (A i).kd ∧ (A i).kd ≤ 9223372036854775807) ∧ (-9223372036854775808 ≤ (A i).n ∧ (A i).n ≤ 9223372036854775807)
theorem Acts.later {W W' : World} {oa : Option Addr} {n : Nat} {A : Nat → ActD} (h : Acts W oa n A) (hb : Below W.heap.size W W') : Acts W' oa n A := fun i hi => by
  obtain ⟨b, off, ob, cb, ok, ck, h1, h2, h3, h4, h5, h6, h7, h8, h9, h10, h11⟩ := h i hi
  exact ⟨b, off, ob, cb, ok, ck, h1, cell_below hb h2, cell_below hb h3, cell_below hb h4, cell_below hb h5, h6.later hb, h7, h8, h9, h10.later hb, h11⟩
theorem sec_nil (A : World) : Calls Tryd.prog 11 #[.slice none 0 0] A fun e A' => e = .returned (.slice (some ⟨A.heap.size, 0, none⟩) 64 64) ∧ Below A.heap.size A A' := by
  refine (sector_any none 0 0 (fun _ => 0) A (fun k hk => absurd hk (Nat.not_lt_zero _)) (by decide)).mono ?_
  rintro e A' ⟨rfl, _, hb⟩
  exact ⟨rfl, hb⟩
theorem LS.s8 {w A : World} {xb d sb : Nat} {v : Value} {s t : DS} (h : LS w xb d sb v s t A) : ∀ i, i < s.n → ∀ k, k < 64 → s.S i k < 256 := h.dx.1.S8
theorem LS.dk {w A : World} {xb d sb : Nat} {v : Value} {s t : DS} (h : LS w xb d sb v s t A) : DK A w.heap.size d sb v s := h.dx.1
theorem both_all {w A : World} {xb d sb : Nat} {v : Value} {s : DS} {oa : Option Addr} {ca : Nat} {ow : Option Addr} {cw : Nat} (h : LS w xb d sb v s s A) (hr : RX A (Ap d sb xb v) xb s oa ca ow cw) : ∃ M SS,
    (∀ A', Below A.heap.size A A' → Calls Tryd.prog 19 #[.pointer (some ⟨d, 0, none⟩)] A' fun e A2 => ∃ oc cc, e = .returned (.slice oc M cc) ∧ CV A2 oc M SS ∧ Below A'.heap.size A' A2) ∧
    (∀ A', Below A.heap.size A A' → Calls Tryd.prog 27 #[.agg #[.slice oa s.n ca, .slice ow s.nw cw, .int .i64 (s.ar : Nat), .bool s.dn]] A' fun e A2 => ∃ oc cc, e = .returned (.slice oc M cc) ∧ CV A2 oc M SS ∧ Below A'.heap.size A' A2) :=
  ⟨64 * s.n, strF (64 * s.n) (allF s.S), fun A' hA => psafe (h.later hA), fun A' hA => rall (w := w) (s := s) (hr.later hA) h.s8⟩
theorem RRet.below {A A' : World} {P : Nat → Prop} {t : DS} {C : Array Value} (h : RRet A A' P t C) : Below A.heap.size A A' := by
  obtain ⟨_, _, _, _, _, _, _, _, _, hb⟩ := h; exact hb
theorem wrS_nw (s : DS) (x : Int) (l : Nat) (F : Nat → Nat) : (wrS s x l F).nw ≤ s.nw + 1 := by
  unfold wrS
  split
  · split
    · show s.nw ≤ s.nw + 1; omega
    · show s.nw + 1 ≤ s.nw + 1; omega
  · omega
theorem tmS_nw (s : DS) (x : Int) (l : Nat) (F : Nat → Nat) : (tmS s x l F).nw ≤ s.nw := by
  unfold tmS
  split
  · exact flI_le _
  · exact Nat.le_refl _
theorem syS_nw (s : DS) : (syS s).nw ≤ s.nw := by
  unfold syS
  split
  · exact Nat.le_refl _
  · exact Nat.zero_le _
theorem LS.arm {w A : World} {xb d sb k : Nat} {v : Value} {s : DS} (h : LS w xb d sb v { s with ar := k } s A) : LS w xb d sb v { s with ar := k } { s with ar := k } (A.setCell ⟨xb, 2, none⟩ (.int .i64 (k : Nat))) ∧ Kp A (A.setCell ⟨xb, 2, none⟩ (.int .i64 (k : Nat))) xb d sb v d sb v := by
  obtain ⟨oa, ca, ow, cw, hr⟩ := h.rx
  have hO : Own xb A (A.setCell ⟨xb, 2, none⟩ (.int .i64 (k : Nat))) := (Own.refl _ _).set _ _
  have hd := h.dx
  exact ⟨⟨⟨hd.1.own hO h.ax.1 h.ax.2.1 h.ax.2.2, hd.2.trans (hO.below h.hx hd.2.size)⟩, ⟨oa, ca, ow, cw, ⟨Blk.set hr.x 2 _, hr.s.own hO (fun q hq => hq.2.2.2), hr.w.own hO (fun q hq => hq.2.2.2), hr.ca, hr.cw, hr.nx, ⟨hr.ok.1, hr.ok.2.1, hr.ok.2.2.1, hd.1.ab⟩⟩⟩, h.ax, h.hx⟩, fun c h1 h2 => ⟨hO.block c h1 h2.2.2.2, h2⟩⟩
theorem LS.cx {w A : World} {xb d sb c : Nat} {X : List Value} {v : Value} {s : DS} (h : LS w xb d sb v { s with c := c, X := X } s A) : LS w xb d sb v { s with c := c, X := X } { s with c := c, X := X } A := by
  obtain ⟨oa, ca, ow, cw, hr⟩ := h.rx
  exact ⟨h.dx, ⟨oa, ca, ow, cw, ⟨hr.x, hr.s, hr.w, hr.ca, hr.cw, hr.nx, hr.ok⟩⟩, h.ax, h.hx⟩
set_option maxRecDepth 100000 in
set_option maxHeartbeats 8000000 in
theorem dkruns_any (n : Int) (oa : Option Addr) (m cm : Nat) (AC : Nat → ActD) (w : World) (hA : Acts w oa m AC) (hm : m ≤ maxLen) (hn : -9223372036854775808 ≤ n ∧ n ≤ 9223372036854775807) (hg : Handle w) :
    Calls Tryd.prog 5 #[.int .i64 n, .slice oa m cm] w fun e w' => e = .returned (.bool true) ∧ Below w.heap.size w w' := by
  have HGw := Lib.hid hg
  have HG0 := Lib.hid hg
  have HBw := Lib.hid (Below.refl w.heap.size w)
  have HA := Lib.hid hA
  have m0 : (m : Int) ≤ 9223372036854775807 := by unfold maxLen at hm; omega
  have HN := Lib.hid hn
  clear hg hA hm hn
  go_enter Tryd.func5, Tryd.ntmps5
  go_wp2_with fail
  refine (read_nil 0 w).mono ?_
  rintro e A1 ⟨rfl, hb⟩
  have HGA1 := Lib.hid (HGw.out.later hb)
  have HBA1 := Lib.hid (HBw.out.trans (hb.mono HBw.out.size))
  clear hb HGw HBw
  go_wp2_with fail
  refine (crash_none A1).mono ?_
  rintro e A2 ⟨⟨x2, rfl⟩, hb⟩
  have HGA2 := Lib.hid (HGA1.out.later hb)
  have HBA2 := Lib.hid (HBA1.out.trans (hb.mono HBA1.out.size))
  clear hb HGA1 HBA1
  go_wp2_with fail
  refine (num_err 1 A2 HGA2.out).mono ?_
  rintro e A3 ⟨rfl, hb⟩
  have HGA3 := Lib.hid (HGA2.out.later hb)
  have HBA3 := Lib.hid (HBA2.out.trans (hb.mono HBA2.out.size))
  clear hb HGA2 HBA2
  go_wp2_with fail
  refine (sec_nil A3).mono ?_
  rintro e A4 ⟨rfl, hb⟩
  have HGA4 := Lib.hid (HGA3.out.later hb)
  have HBA4 := Lib.hid (HBA3.out.trans (hb.mono HBA3.out.size))
  clear hb HGA3 HBA3
  go_wp2_with fail
  refine (write_nil 0 _ 64 64 A4).mono ?_
  rintro e _ ⟨rfl, rfl⟩
  go_wp2_with fail
  refine (num_err 1 A4 HGA4.out).mono ?_
  rintro e A5 ⟨rfl, hb⟩
  have HGA5 := Lib.hid (HGA4.out.later hb)
  have HBA5 := Lib.hid (HBA4.out.trans (hb.mono HBA4.out.size))
  clear hb HGA4 HBA4
  go_wp2_with fail
  refine (sync_nil A5).mono ?_
  rintro e _ ⟨rfl, rfl⟩
  go_wp2_with fail
  refine (num_err 1 A5 HGA5.out).mono ?_
  rintro e A6 ⟨rfl, hb⟩
  have HGA6 := Lib.hid (HGA5.out.later hb)
  have HBA6 := Lib.hid (HBA5.out.trans (hb.mono HBA5.out.size))
  clear hb HGA5 HBA5
  go_wp2_with fail
  refine (arm_nil 0 A6).mono ?_
  rintro e _ ⟨rfl, rfl⟩
  go_wp2_with fail
  refine (num_err 1 A6 HGA6.out).mono ?_
  rintro e A7 ⟨rfl, hb⟩
  have HGA7 := Lib.hid (HGA6.out.later hb)
  have HBA7 := Lib.hid (HBA6.out.trans (hb.mono HBA6.out.size))
  clear hb HGA6 HBA6
  go_wp2_with fail
  refine (sec_nil A7).mono ?_
  rintro e A8 ⟨rfl, hb⟩
  have HGA8 := Lib.hid (HGA7.out.later hb)
  have HBA8 := Lib.hid (HBA7.out.trans (hb.mono HBA7.out.size))
  clear hb HGA7 HBA7
  go_wp2_with fail
  refine (tamper_nil 0 _ 64 64 A8).mono ?_
  rintro e A9 ⟨rfl, hb⟩
  have HGA9 := Lib.hid (HGA8.out.later hb)
  have HBA9 := Lib.hid (HBA8.out.trans (hb.mono HBA8.out.size))
  clear hb HGA8 HBA8
  go_wp2_with fail
  refine (num_err 1 A9 HGA9.out).mono ?_
  rintro e A10 ⟨rfl, hb⟩
  have HGA10 := Lib.hid (HGA9.out.later hb)
  have HBA10 := Lib.hid (HBA9.out.trans (hb.mono HBA9.out.size))
  clear hb HGA9 HBA9
  go_wp2_with fail
  refine (size_nil A10).mono ?_
  rintro e _ ⟨rfl, rfl⟩
  go_wp2_with fail
  refine (down_nil A10).mono ?_
  rintro e _ ⟨rfl, rfl⟩
  go_wp2_with fail
  refine (waits_nil A10).mono ?_
  rintro e _ ⟨rfl, rfl⟩
  go_wp2_with fail
  refine (safe_nil A10).mono ?_
  rintro e _ ⟨rfl, rfl⟩
  go_wp2_with fail
  refine (clone_nil A10).mono ?_
  rintro e _ ⟨rfl, rfl⟩
  go_wp2_with fail
  by_cases hbad : n < 1 ∨ 2048 < n
  · as_aux_lemma =>
    refine (new_bad n A10 hbad).mono ?_
    rintro e B1 ⟨rfl, hb⟩
    have HGB := Lib.hid (HGA10.out.later hb)
    have HBB := Lib.hid (HBA10.out.trans (hb.mono HBA10.out.size))
    clear hb
    rcases (show n < 1 ∨ (¬ n < 1 ∧ 2048 < n) by omega) with h1 | ⟨h1, h2⟩
    · have q3 : decide (n < 1) = true := decide_eq_true h1
      go_wp2_with fail
      refine (num_err 1 B1 HGB.out).mono ?_
      rintro e B2 ⟨rfl, hb2⟩
      have HG2 := Lib.hid (HGB.out.later hb2)
      have HB2 := Lib.hid (HBB.out.trans (hb2.mono HBB.out.size))
      clear hb2
      go_wp2_with fail
      refine (sure13 B2 HG2.out).mono ?_
      rintro e B3 ⟨rfl, hb3⟩
      have HB3 := Lib.hid (HB2.out.trans (hb3.mono HB2.out.size))
      clear hb3
      go_wp2_with fail
      go_ret
      exact ⟨rfl, HB3.out⟩
    · have q3 : decide (n < 1) = false := decide_eq_false h1
      have q4 : decide (2048 < n) = true := decide_eq_true h2
      go_wp2_with fail
      refine (num_err 1 B1 HGB.out).mono ?_
      rintro e B2 ⟨rfl, hb2⟩
      have HG2 := Lib.hid (HGB.out.later hb2)
      have HB2 := Lib.hid (HBB.out.trans (hb2.mono HBB.out.size))
      clear hb2
      go_wp2_with fail
      refine (sure13 B2 HG2.out).mono ?_
      rintro e B3 ⟨rfl, hb3⟩
      have HB3 := Lib.hid (HB2.out.trans (hb3.mono HB2.out.size))
      clear hb3
      go_wp2_with fail
      go_ret
      exact ⟨rfl, HB3.out⟩
  obtain ⟨N, rfl⟩ := Int.eq_ofNat_of_zero_le (show 0 ≤ n by omega)
  have hN1 : 1 ≤ N ∧ N ≤ 2048 := by omega
  have q3 : decide ((N : Int) < 1) = false := decide_eq_false (by omega)
  have q4 : decide ((2048 : Int) < (N : Int)) = false := decide_eq_false (by omega)
  have q5 : ¬ (N : Int) < 1 := by omega
  have q6 : ¬ (2048 : Int) < (N : Int) := by omega
  refine (new_any N A10 hN1.1 hN1.2).mono ?_
  rintro e B1 ⟨d, sb, rfl, hk, hb, hd1, hd2⟩
  have HGB := Lib.hid (HGA10.out.later hb)
  have HBB := Lib.hid (HBA10.out.trans (hb.mono HBA10.out.size))
  have HKB := Lib.hid hk
  have HNN := Lib.hid (show 1 ≤ N ∧ N ≤ 2048 from hN1)
  clear hb hk hd1 hd2 hbad hN1
  by_cases h64 : 64 < N
  · as_aux_lemma =>
    have q7 : decide ((64 : Int) < (N : Int)) = true := decide_eq_true (by omega)
    have q8 : (64 : Int) < (N : Int) := by omega
    go_wp2_with fail
    refine (size_any HKB.out).mono ?_
    rintro e B2 ⟨rfl, rfl⟩
    have e9 : (newS N).n = N := rfl
    rw [e9]
    go_wp2_with fail
    refine (sure13 B1 HGB.out).mono ?_
    rintro e B3 ⟨rfl, hb3⟩
    have HB3 := Lib.hid (HBB.out.trans (hb3.mono HBB.out.size))
    clear hb3
    go_wp2_with fail
    go_ret
    exact ⟨rfl, HB3.out⟩
  have q7 : decide ((64 : Int) < (N : Int)) = false := decide_eq_false (by omega)
  have q8 : ¬ (64 : Int) < (N : Int) := by omega
  have HN64 := Lib.hid (show N ≤ 64 by omega)
  clear h64
  go_wp2_with fail
  refine (rnew_any (fun q => q ≠ d ∧ q ≠ sb) N B1 (fun q hq => by have := HKB.out.lt; omega) (by have := HN64.out; omega)).mono ?_
  rintro e B2 ⟨oa2, ca2, rfl, hS2, hc2, hb2⟩
  obtain ⟨xb, hxb⟩ : ∃ y, B2.heap.size = y := ⟨_, rfl⟩
  obtain ⟨B3, hB3⟩ : ∃ y, B2.alloc (.cells (rdV oa2 N ca2 none 0 0 0 false) 47) = y := ⟨_, rfl⟩
  have hb3 : Below B2.heap.size B2 B3 := by rw [← hB3]; exact (Below.refl _ _).alloc (Nat.le_refl _) _
  have hx3 : Blk B3 xb (rdV oa2 N ca2 none 0 0 0 false) 47 := by rw [← hB3, ← hxb]; exact Blk.new _ _ _
  have HLS : Hid (LS w xb d sb (.slice none 0 0) (newS N) (newS N) B3) := Lib.hid (by
    have hb23 := hb2.trans (hb3.mono hb2.size)
    have hk3 := HKB.out.later hb23
    have hs1 := HBA10.out.size
    have hl := HKB.out.lt
    have hl2 := hb2.size
    have hP : ∀ q, q < B2.heap.size → (q ≠ d ∧ q ≠ sb) → Ap d sb xb (.slice none 0 0) q := fun q h1 h2 => ⟨h2.1, h2.2, (fun e => by cases e), by omega⟩
    refine ⟨⟨⟨hk3.me, hk3.sf, owns_low hk3.wt hs1, Nat.le_trans hs1 hk3.bd, Nat.le_trans hs1 hk3.bs, hk3.ne, hk3.nv, hk3.n0, hk3.S8, hk3.D8, hk3.ab, hk3.nb⟩, (HBB.out.trans (hb23.mono HBB.out.size))⟩,
      ⟨oa2, ca2, none, 0, ⟨hx3, (hS2.weak hP).later hb3, ⟨fun _ => .slice none 0 0, LV.nil _ _ _ _ _, fun j hj => absurd hj (Nat.not_lt_zero _)⟩, hc2, ⟨Nat.le_refl _, by unfold maxLen; omega, fun _ => rfl⟩, fun q hq => hq.2.2.2, ⟨by have := HN64.out; show N < 100000; omega, by show 0 < 100000000; decide, fun j hj => absurd hj (Nat.not_lt_zero _), by show 0 < 9223372036854775808; decide⟩⟩⟩, ⟨by omega, by omega, fun e => by cases e⟩, by have := HBB.out.size; omega⟩)
  have HZ : Hid (B2.alloc (.cells #[.slice oa2 N ca2, .slice none 0 0, .int .i64 0, .bool false] 47) = B3) := Lib.hid hB3
  rw [show rdV oa2 N ca2 none 0 0 0 false = #[.slice oa2 N ca2, .slice none 0 0, .int .i64 0, .bool false] from rfl]
  clear hS2 hc2 hb2 hb3 hx3 HKB HGB HBB HGA10 HBA10 hB3
  go_wp2_with fail
  rw [HZ.out]
  clear q3 q4 q5 q6 q7 q8 HZ
  obtain ⟨dd, hdd⟩ : ∃ y, d = y := ⟨_, rfl⟩
  go_loopg [8, 11] (30) (fun gk s8 s11 wr => ∃ (i d sb : Nat) (v : Value) (s : DS), s11 = .int .i64 (i : Int) ∧ gk + i = 30 ∧ i ≤ m ∧ s8 = .pointer (some ⟨d, 0, none⟩) ∧ LS w xb d sb v s s wr ∧ s.nw ≤ i)
  case atStart => exact ⟨0, d, sb, _, _, rfl, rfl, Nat.zero_le _, rfl, HLS.out, Nat.le_refl _⟩
  case round =>
    clear HLS hdd HN HNN HN64
    obtain ⟨i, d, sb, v, s, rfl, hgk, him, rfl, hL, hnw⟩ := hrel
    have HL := Lib.hid hL
    have HI := Lib.hid (show gk + i = 30 ∧ s.nw ≤ i from ⟨hgk, hnw⟩)
    have i0 : (0 : Int) ≤ (i : Int) := by omega
    have HGr := Lib.hid (HG0.out.below hL.dx.2 HG0.out.2)
    by_cases hlt : i < m ∧ i < 30
    · obtain ⟨hl1, hl2⟩ := hlt
      obtain ⟨b, off, ob, cb, ok, ck, rfl, c0, c1, c2, c3, hB, hno, hlc, hcm, hK, hkm, hkd, hn⟩ := HA.out i hl1
      obtain ⟨kd, hkd'⟩ : ∃ x, (AC i).kd = x := ⟨_, rfl⟩
      obtain ⟨x, hx'⟩ : ∃ x, (AC i).n = x := ⟨_, rfl⟩
      obtain ⟨l, hl'⟩ : ∃ x, (AC i).l = x := ⟨_, rfl⟩
      obtain ⟨F, hf'⟩ : ∃ x, (AC i).f = x := ⟨_, rfl⟩
      obtain ⟨kl, hkl'⟩ : ∃ x, (AC i).kl = x := ⟨_, rfl⟩
      obtain ⟨kf, hkf'⟩ : ∃ x, (AC i).kf = x := ⟨_, rfl⟩
      rw [hkd'] at c0
      rw [hx'] at c1 hn
      rw [hl'] at c2 hB hno hlc
      rw [hf'] at hB
      rw [hkl'] at c3 hK hkm
      rw [hkf'] at hK
      replace c0 := cell_below hL.dx.2 c0
      replace c1 := cell_below hL.dx.2 c1
      replace c2 := cell_below hL.dx.2 c2
      replace c3 := cell_below hL.dx.2 c3
      obtain ⟨sa, hsa⟩ : ∃ y, wr.heap.size = y := ⟨_, rfl⟩
      obtain ⟨W1, hW1⟩ : ∃ y, wr.alloc (.cells #[.int .i64 kd, .int .i64 x, .slice ob l cb, .slice ok kl ck] 50) = y := ⟨_, rfl⟩
      have hb1 : Below wr.heap.size wr W1 := by rw [← hW1]; exact (Below.refl _ _).alloc (Nat.le_refl _) _
      have hk1 : Blk W1 sa #[.int .i64 kd, .int .i64 x, .slice ob l cb, .slice ok kl ck] 50 := by rw [← hW1, ← hsa]; exact Blk.new _ _ _
      have HL1 := Lib.hid (hL.later hb1)
      have HS1 := Lib.hid (show Blk W1 sa #[.int .i64 kd, .int .i64 x, .slice ob l cb, .slice ok kl ck] 50 ∧ Ap d sb xb v sa from ⟨hk1, hL.fresh sa (by omega)⟩)
      have HX := Lib.hid (show Bytes w ob l F ∧ (ob = none → l = 0) ∧ l ≤ cb ∧ cb ≤ maxLen ∧ Bools w ok kl kf ∧ kl ≤ maxLen ∧ (-9223372036854775808 ≤ x ∧ x ≤ 9223372036854775807) from ⟨hB, hno, hlc, hcm, hK, hkm, hn⟩)
      have HGr := Lib.hid (HG0.out.below HL1.out.dx.2 HG0.out.2)
      have i1 : (i : Int) < (m : Int) := by omega
      have i2 : (i : Int) < 30 := by omega
      have i3 : IntKind.i64.wrap ((i : Int) + 1) = ((i + 1 : Nat) : Int) := by rw [IntWalk.i64_in _ (by omega)]; omega
      have l0 : (l : Int) ≤ 9223372036854775807 := by unfold maxLen at hcm; omega
      have k0 : (kl : Int) ≤ 9223372036854775807 := by unfold maxLen at hkm; omega
      have s0 : W1.cell? ⟨sa, 0, none⟩ = some (.int .i64 kd) := by rw [Blk.cell hk1]; rfl
      have s1 : W1.cell? ⟨sa, 1, none⟩ = some (.int .i64 x) := by rw [Blk.cell hk1]; rfl
      have s2 : W1.cell? ⟨sa, 2, none⟩ = some (.slice ob l cb) := by rw [Blk.cell hk1]; rfl
      have s3 : W1.cell? ⟨sa, 3, none⟩ = some (.slice ok kl ck) := by rw [Blk.cell hk1]; rfl
      clear hB hno hlc hcm hK hkm hn hkd hkd' hx' hl' hf' hkl' hkf' hL hb1 hk1 HL hgk hnw hl1 hl2
      by_cases hbig : 200 < l ∨ 200 < kl
      · as_aux_lemma =>
        have hcase : (200 < l) ∨ (¬ 200 < l ∧ 200 < kl) := by omega
        rcases hcase with h1 | ⟨h1, h2⟩
        · have p1 : (200 : Int) < (l : Int) := by omega
          have p2 : decide ((200 : Int) < (l : Int)) = true := decide_eq_true p1
          go_wp2_with fail
          go_roundg (gk - 1)
          case measure => have := HI.out; omega
          case rel => exact ⟨i + 1, d, sb, v, s, by first | rfl | go_num, by have := HI.out; omega, by omega, rfl, HL1.out, by have := HI.out; omega⟩
        · have p1 : ¬ (200 : Int) < (l : Int) := by omega
          have p2 : decide ((200 : Int) < (l : Int)) = false := decide_eq_false p1
          have p3 : (200 : Int) < (kl : Int) := by omega
          have p4 : decide ((200 : Int) < (kl : Int)) = true := decide_eq_true p3
          go_wp2_with fail
          go_roundg (gk - 1)
          case measure => have := HI.out; omega
          case rel => exact ⟨i + 1, d, sb, v, s, by first | rfl | go_num, by have := HI.out; omega, by omega, rfl, HL1.out, by have := HI.out; omega⟩
      have p1 : ¬ (200 : Int) < (l : Int) := by omega
      have p2 : decide ((200 : Int) < (l : Int)) = false := decide_eq_false p1
      have p3 : ¬ (200 : Int) < (kl : Int) := by omega
      have p4 : decide ((200 : Int) < (kl : Int)) = false := decide_eq_false p3
      have HLL := Lib.hid (show l ≤ 200 ∧ kl ≤ 200 by omega)
      clear hbig
      go_upto_if 150 with fail
      go_cut [13] (fun s13 wx => ∃ (ob' : Option Addr) (l' cb' : Nat) (F' : Nat → Nat), s13 = .slice ob' l' cb' ∧ BA wx d sb xb v ob' l' F' ∧ l' ≤ cb' ∧ cb' ≤ maxLen ∧ l' ≤ 200 ∧ LS w xb d sb v s s wx ∧ Blk wx sa #[.int .i64 kd, .int .i64 x, .slice ob l cb, .slice ok kl ck] 50 ∧ Ap d sb xb v sa)
      case first =>
        by_cases h60 : l < 60
        · as_aux_lemma =>
          have p5 : (l : Int) < 60 := by omega
          have p6 : decide ((l : Int) < 60) = true := decide_eq_true p5
          go_wp2_with fail
          refine (sector_any ob l cb F W1 (HX.out.1.later HL1.out.dx.2) (by omega)).mono ?_
          rintro e W2 ⟨rfl, hR, hb⟩
          have HL2 := Lib.hid (HL1.out.later hb)
          have HB2 := Lib.hid (show BA W2 d sb xb v (some ⟨W1.heap.size, 0, none⟩) 64 (secF l F) from ⟨hR.bytes (secF_lt fun k hk => (HX.out.1 k hk).1), (fun e => by cases e), by decide, fun a ha => by cases ha; exact HL1.out.fresh _ (Nat.le_refl _)⟩)
          have HS2 := Lib.hid ((Kp.of_below hb).blk HS1.out)
          clear hR hb s0 s1 s2 s3 c0 c1 c2 c3
          go_wp2_with fail
          go_meet
          exact ⟨_, 64, 64, _, rfl, HB2.out, Nat.le_refl _, by unfold maxLen; omega, by decide, HL2.out, HS2.out⟩
        · as_aux_lemma =>
          have p5 : ¬ (l : Int) < 60 := by omega
          have p6 : decide ((l : Int) < 60) = false := decide_eq_false p5
          go_wp2_with fail
          go_meet
          exact ⟨ob, l, cb, F, rfl, ⟨HX.out.1.later HL1.out.dx.2, HX.out.2.1, by omega, fun a ha => HL1.out.old _ (HX.out.1.lt a ha (by omega))⟩, HX.out.2.2.1, HX.out.2.2.2.1, HLL.out.1, HL1.out, HS1.out⟩
      case rest =>
        obtain ⟨o3, l3, c3, F3, rfl, hB3, hl3, hc3, h200, hL3, hS3⟩ := hcut
        have HL3 := Lib.hid hL3
        have HB3 := Lib.hid hB3
        have HS3 := Lib.hid hS3
        have HC3 := Lib.hid (show l3 ≤ c3 ∧ c3 ≤ maxLen ∧ l3 ≤ 200 from ⟨hl3, hc3, h200⟩)
        have HGc := Lib.hid (HG0.out.below hL3.dx.2 HG0.out.2)
        have t0 : wc.cell? ⟨sa, 0, none⟩ = some (.int .i64 kd) := by rw [Blk.cell hS3.1]; rfl
        have t1 : wc.cell? ⟨sa, 1, none⟩ = some (.int .i64 x) := by rw [Blk.cell hS3.1]; rfl
        have t3 : wc.cell? ⟨sa, 3, none⟩ = some (.slice ok kl ck) := by rw [Blk.cell hS3.1]; rfl
        clear hB3 hl3 hc3 h200 hL3 hS3 HL1 HS1 HGr s0 s1 s2 s3 c0 c1 c2 hW1
        obtain ⟨y, hy⟩ : ∃ y, wrap64 ((IntKind.u64.wrap kd).tmod 8) = y := ⟨_, rfl⟩
        obtain ⟨wd, hwd⟩ : ∃ u : World, u = wc := ⟨_, rfl⟩
        have HSN := Lib.hid (show s.nw ≤ i ∧ i < 30 from ⟨HI.out.2, by omega⟩)
        go_upto_block 2 with fail
        go_cut [8, 14, 15, 16] from 118 to 281 (fun s8 s14 s15 s16 wx => ∃ (d sb : Nat) (v : Value) (s5 : DS) (k : Nat), s8 = .pointer (some ⟨d, 0, none⟩) ∧ s14 = .int .i64 (k : Int) ∧ s15 = .int .i64 (k : Int) ∧ LS w xb d sb v s5 s5 wx ∧ s5.nw ≤ i + 1 ∧ Blk wx sa #[.int .i64 kd, .int .i64 x, .slice ob l cb, .slice ok kl ck] 50 ∧ Ap d sb xb v sa)
        case first =>
          by_cases y3 : y = 3
          · as_aux_lemma =>
            subst y3
            go_wp2_with fail
            refine (psync HL3.out).mono ?_
            rintro e C1 ⟨ev, v1, rfl, her, hL1, hkp⟩
            have HE := Lib.hid her
            have HS4 := Lib.hid (hkp.blk HS3.out)
            have HG4 := Lib.hid (HG0.out.below hL1.dx.2 HG0.out.2)
            have HL4 := Lib.hid hL1
            clear her hkp hL1 t0 t1 t3
            go_wp2_with fail
            refine (num_er HE.out C1 HG4.out).mono ?_
            rintro e C2 ⟨rfl, hb2⟩
            have HL5 := Lib.hid (HL4.out.later hb2)
            have HS5 := Lib.hid ((Kp.of_below hb2).blk HS4.out)
            clear hb2
            obtain ⟨oa, ca, ow, cw, hr, z0, z1, z2, z3⟩ := HL5.out.cells
            have HR := Lib.hid hr
            have HTX := Lib.hid (Blk.lt hr.x)
            have u1 : C2.cell? ⟨sa, 1, none⟩ = some (.int .i64 x) := by rw [Blk.cell HS5.out.1]; rfl
            have u3 : C2.cell? ⟨sa, 3, none⟩ = some (.slice ok kl ck) := by rw [Blk.cell HS5.out.1]; rfl
            clear hr
            go_wp2_with fail
            refine (rsync HL5.out HR.out).mono ?_
            rintro e C3 ⟨CW, rfl, hR⟩
            have HLIT := Lib.hid hR.lit
            have hbR := hR.below
            have HL6 := Lib.hid (HL5.out.ref hR)
            have HS6 := Lib.hid ((Kp.store (xb := xb) hbR CW.toList).blk HS5.out)
            have HT := Lib.hid (Blk.thereAll (Blk.below HR.out.x hbR HTX.out) CW.size (by rw [HLIT.out.2.2]; show 4 ≤ 4; exact Nat.le_refl _))
            clear hR hbR z0 z1 z2 z3 u1 u3
            go_wp2_with (first | (refine wpList_store_mid rfl 47 (.tmp 10) (.tmp 180) rfl xb 0 CW rfl rfl HT.out HLIT.out.1 HLIT.out.2.1 ?_))
            (try go_wp2_with fail)
            go_meet
            exact ⟨d, sb, v1, _, syK s, rfl, by first | rfl | go_num, by first | rfl | go_num, HL6.out, Nat.le_trans (syS_nw s) (by have := HSN.out; omega), HS6.out⟩
          by_cases y4 : y = 4
          · subst y4
            by_cases hx0 : x < 0
            · as_aux_lemma =>
              have n1 : decide (x < 0) = true := decide_eq_true hx0
              go_wp2_with fail
              refine (arm_bad HL3.out.dx.1 x hx0).mono ?_
              rintro e _ ⟨rfl, rfl⟩
              clear hwd
              go_wp2_with fail
              refine (num_err 1 wc HGc.out).mono ?_
              rintro e C2 ⟨rfl, hb2⟩
              have HL5 := Lib.hid (HL3.out.later hb2)
              have HS5 := Lib.hid ((Kp.of_below hb2).blk HS3.out)
              have u1 : C2.cell? ⟨sa, 1, none⟩ = some (.int .i64 x) := by rw [Blk.cell HS5.out.1]; rfl
              clear hb2 t0 t1 t3
              go_wp2_with fail
              go_meet
              exact ⟨d, sb, v, s, 1, rfl, rfl, rfl, HL5.out, by have := HSN.out; omega, HS5.out⟩
            · as_aux_lemma =>
              have n1 : decide (x < 0) = false := decide_eq_false hx0
              obtain ⟨X, rfl⟩ := Int.eq_ofNat_of_zero_le (show 0 ≤ x by omega)
              have hX : X < 9223372036854775808 := by have := HX.out.2.2.2.2.2.2; omega
              have n2 : ¬ (X : Int) < 0 := by omega
              go_wp2_with fail
              refine (parm_ok HL3.out X hX).mono ?_
              rintro e C1 ⟨rfl, hL1, hkp⟩
              have HS4 := Lib.hid (hkp.blk HS3.out)
              have HL4 := Lib.hid hL1
              clear hL1 hkp t0 t1 t3
              go_wp2_with fail
              refine (num_nil C1).mono ?_
              rintro e C2 ⟨rfl, hb2⟩
              have HL5 := Lib.hid (HL4.out.later hb2)
              have HS5 := Lib.hid ((Kp.of_below hb2).blk HS4.out)
              have u1 : C2.cell? ⟨sa, 1, none⟩ = some (.int .i64 (X : Int)) := by rw [Blk.cell HS5.out.1]; rfl
              obtain ⟨oa, ca, ow, cw, hr, z0, z1, z2, z3⟩ := HL5.out.cells
              have z4 := Blk.free hr.x 2
              obtain ⟨hL6, hkp6⟩ := HL5.out.arm
              have HL6 := Lib.hid hL6
              have HS6 := Lib.hid (hkp6.blk HS5.out)
              clear hb2 hr hL6 hkp6
              go_wp2_with fail
              go_meet
              exact ⟨d, sb, v, _, 0, rfl, rfl, rfl, HL6.out, by show s.nw ≤ i + 1; have := HSN.out; omega, HS6.out⟩
          by_cases y5 : y = 5
          · as_aux_lemma =>
            subst y5
            go_wp2_with fail
            refine (pcrash HL3.out HX.out.2.2.2.2.1 HX.out.2.2.2.2.2.1).mono ?_
            rintro e C2 ⟨⟨xv, rfl⟩, hL1, hkp⟩
            have HL5 := Lib.hid hL1
            have HS5 := Lib.hid (hkp.blk HS3.out)
            clear hL1 hkp t0 t1 t3
            obtain ⟨oa, ca, ow, cw, hr, z0, z1, z2, z3⟩ := HL5.out.cells
            have HR := Lib.hid hr
            have HTX := Lib.hid (Blk.lt hr.x)
            have u1 : C2.cell? ⟨sa, 1, none⟩ = some (.int .i64 x) := by rw [Blk.cell HS5.out.1]; rfl
            have u3 : C2.cell? ⟨sa, 3, none⟩ = some (.slice ok kl ck) := by rw [Blk.cell HS5.out.1]; rfl
            clear hr
            go_wp2_with fail
            refine (rcrash HL5.out HR.out HX.out.2.2.2.2.1 HX.out.2.2.2.2.2.1).mono ?_
            rintro e C3 ⟨CW, rfl, hR⟩
            have HLIT := Lib.hid hR.lit
            have hbR := hR.below
            have HL6 := Lib.hid (HL5.out.ref hR)
            have HS6 := Lib.hid ((Kp.store (xb := xb) hbR CW.toList).blk HS5.out)
            have HT := Lib.hid (Blk.thereAll (Blk.below HR.out.x hbR HTX.out) CW.size (by rw [HLIT.out.2.2]; show 4 ≤ 4; exact Nat.le_refl _))
            clear hR hbR z0 z1 z2 z3 u1 u3
            go_wp2_with (first | (refine wpList_store_mid rfl 47 (.tmp 10) (.tmp 204) rfl xb 0 CW rfl rfl HT.out HLIT.out.1 HLIT.out.2.1 ?_))
            (try go_wp2_with fail)
            go_meet
            exact ⟨d, sb, _, _, 0, rfl, by first | rfl | go_num, by first | rfl | go_num, HL6.out, Nat.zero_le _, HS6.out⟩
          by_cases y6 : y = 6
          · as_aux_lemma =>
            subst y6
            go_wp2_with fail
            refine (ptamper HL3.out x HX.out.2.2.2.2.2.2.2 o3 l3 c3 F3 HB3.out HC3.out.2.2).mono ?_
            rintro e C1 ⟨ev, v1, rfl, her, hL1, hkp⟩
            have HE := Lib.hid her
            have HS4 := Lib.hid (hkp.blk HS3.out)
            have HG4 := Lib.hid (HG0.out.below hL1.dx.2 HG0.out.2)
            have HL4 := Lib.hid hL1
            have HB4 := Lib.hid (hkp.ba HB3.out)
            clear her hkp hL1 t0 t1 t3
            go_wp2_with fail
            refine (num_er HE.out C1 HG4.out).mono ?_
            rintro e C2 ⟨rfl, hb2⟩
            have HL5 := Lib.hid (HL4.out.later hb2)
            have HS5 := Lib.hid ((Kp.of_below hb2).blk HS4.out)
            have HB5 := Lib.hid (HB4.out.later hb2)
            clear hb2
            obtain ⟨oa, ca, ow, cw, hr, z0, z1, z2, z3⟩ := HL5.out.cells
            have HR := Lib.hid hr
            have HTX := Lib.hid (Blk.lt hr.x)
            have u1 : C2.cell? ⟨sa, 1, none⟩ = some (.int .i64 x) := by rw [Blk.cell HS5.out.1]; rfl
            have u3 : C2.cell? ⟨sa, 3, none⟩ = some (.slice ok kl ck) := by rw [Blk.cell HS5.out.1]; rfl
            clear hr
            go_wp2_with fail
            refine (rtamper HL5.out HR.out x o3 l3 c3 F3 HB5.out ⟨HC3.out.1, HC3.out.2.1⟩).mono ?_
            rintro e C3 ⟨CW, rfl, hR⟩
            have HLIT := Lib.hid hR.lit
            have hbR := hR.below
            have HL6 := Lib.hid (HL5.out.ref hR)
            have HS6 := Lib.hid ((Kp.store (xb := xb) hbR CW.toList).blk HS5.out)
            have HT := Lib.hid (Blk.thereAll (Blk.below HR.out.x hbR HTX.out) CW.size (by rw [HLIT.out.2.2]; show 4 ≤ 4; exact Nat.le_refl _))
            clear hR hbR z0 z1 z2 z3 u1 u3
            go_wp2_with (first | (refine wpList_store_mid rfl 47 (.tmp 10) (.tmp 219) rfl xb 0 CW rfl rfl HT.out HLIT.out.1 HLIT.out.2.1 ?_))
            (try go_wp2_with fail)
            go_meet
            exact ⟨d, sb, v1, _, tmK s x l3, rfl, by first | rfl | go_num, by first | rfl | go_num, HL6.out, Nat.le_trans (tmS_nw s x l3 F3) (by have := HSN.out; omega), HS6.out⟩
          by_cases y7 : y = 7
          · as_aux_lemma =>
            subst y7
            go_wp2_with fail
            refine (pclone HL3.out).mono ?_
            rintro e C1 ⟨d2, rfl, hC⟩
            have HC := Lib.hid hC
            clear hC t0 t1 t3
            go_wp2_with fail
            refine HC.out.mono ?_
            rintro e C2 ⟨⟨xv, rfl⟩, sb2, v2, cc2, XX2, hL1, hkp⟩
            have HL5 := Lib.hid hL1.cx
            have HS5 := Lib.hid (hkp.blk HS3.out)
            clear hL1 hkp HC
            go_wp2_with fail
            go_meet
            exact ⟨d2, sb2, v2, _, 0, rfl, rfl, rfl, HL5.out, by show s.nw ≤ i + 1; have := HSN.out; omega, HS5.out⟩
          as_aux_lemma =>
            have b3 : (y == 3) = false := beq_false_of_ne y3
            have b4 : (y == 4) = false := beq_false_of_ne y4
            have b5 : (y == 5) = false := beq_false_of_ne y5
            have b6 : (y == 6) = false := beq_false_of_ne y6
            have b7 : (y == 7) = false := beq_false_of_ne y7
            have e3 : decide (y = 3) = false := decide_eq_false y3
            have e4 : decide (y = 4) = false := decide_eq_false y4
            have e5 : decide (y = 5) = false := decide_eq_false y5
            have e6 : decide (y = 6) = false := decide_eq_false y6
            have e7 : decide (y = 7) = false := decide_eq_false y7
            go_wp2_with fail
            refine (pwrite HL3.out x HX.out.2.2.2.2.2.2.2 o3 l3 c3 F3 HB3.out HC3.out.2.2 (by have := HSN.out; omega)).mono ?_
            rintro e C1 ⟨ev, v1, rfl, her, hL1, hkp⟩
            have HE := Lib.hid her
            have HS4 := Lib.hid (hkp.blk HS3.out)
            have HG4 := Lib.hid (HG0.out.below hL1.dx.2 HG0.out.2)
            have HL4 := Lib.hid hL1
            have HB4 := Lib.hid (hkp.ba HB3.out)
            clear her hkp hL1 t0 t1 t3
            go_wp2_with fail
            refine (num_er HE.out C1 HG4.out).mono ?_
            rintro e C2 ⟨rfl, hb2⟩
            have HL5 := Lib.hid (HL4.out.later hb2)
            have HS5 := Lib.hid ((Kp.of_below hb2).blk HS4.out)
            have HB5 := Lib.hid (HB4.out.later hb2)
            clear hb2
            obtain ⟨oa, ca, ow, cw, hr, z0, z1, z2, z3⟩ := HL5.out.cells
            have HR := Lib.hid hr
            have HTX := Lib.hid (Blk.lt hr.x)
            have u1 : C2.cell? ⟨sa, 1, none⟩ = some (.int .i64 x) := by rw [Blk.cell HS5.out.1]; rfl
            have u3 : C2.cell? ⟨sa, 3, none⟩ = some (.slice ok kl ck) := by rw [Blk.cell HS5.out.1]; rfl
            clear hr
            go_wp2_with fail
            refine (rwrite HL5.out HR.out x o3 l3 c3 F3 HB5.out ⟨HC3.out.1, HC3.out.2.1⟩).mono ?_
            rintro e C3 ⟨CW, rfl, hR⟩
            have HLIT := Lib.hid hR.lit
            have hbR := hR.below
            have HL6 := Lib.hid (HL5.out.ref hR)
            have HS6 := Lib.hid ((Kp.store (xb := xb) hbR CW.toList).blk HS5.out)
            have HT := Lib.hid (Blk.thereAll (Blk.below HR.out.x hbR HTX.out) CW.size (by rw [HLIT.out.2.2]; show 4 ≤ 4; exact Nat.le_refl _))
            clear hR hbR z0 z1 z2 z3 u1 u3
            go_wp2_with (first | (refine wpList_store_mid rfl 47 (.tmp 10) (.tmp 170) rfl xb 0 CW rfl rfl HT.out HLIT.out.1 HLIT.out.2.1 ?_))
            (try go_wp2_with fail)
            go_meet
            exact ⟨d, sb, v1, _, wrK s x l3, rfl, by first | rfl | go_num, by first | rfl | go_num, HL6.out, Nat.le_trans (wrS_nw s x l3 F3) (by have := HSN.out; omega), HS6.out⟩
        case rest =>
          clear HL3 HB3 HS3 HGc t0 t1 t3 hwd
          obtain ⟨d1, sb1, v1, s1, k1, rfl, rfl, rfl, hL, hnw, hS, hAp⟩ := hcut
          have HNW := Lib.hid hnw
          have u1 : wc.cell? ⟨sa, 1, none⟩ = some (.int .i64 x) := by rw [Blk.cell hS]; rfl
          have HL6 := Lib.hid hL
          have HS6 := Lib.hid (show Blk wc sa #[.int .i64 kd, .int .i64 x, .slice ob l cb, .slice ok kl ck] 50 ∧ Ap d1 sb1 xb v1 sa from ⟨hS, hAp⟩)
          clear hL hnw hS hAp
          go_wp2_with fail
          refine (pread HL6.out x HX.out.2.2.2.2.2.2.2).mono ?_
          rintro e C1 ⟨oc, mc, cc, ev, rfl, hcv, her, hb⟩
          have HL7 := Lib.hid (HL6.out.later hb)
          have HS7 := Lib.hid ((Kp.of_below hb).blk HS6.out)
          have HCV := Lib.hid hcv
          have HER := Lib.hid her
          obtain ⟨oa, ca, ow, cw, hr, z0, z1, z2, z3⟩ := HL7.out.cells
          have HR7 := Lib.hid hr
          have u2 : C1.cell? ⟨sa, 1, none⟩ = some (.int .i64 x) := by rw [Blk.cell HS7.out.1]; rfl
          clear hcv her hb hr u1 HL6 HS6
          go_wp2_with fail
          refine (rread HL7.out HR7.out x).mono ?_
          rintro e C2 ⟨oo, mo, co, rfl, hco, hb⟩
          have hbd := (Below.refl C2.heap.size C2).drew
          have HLR := Lib.hid ((HL7.out.later hb).later hbd)
          have HXR := Lib.hid ((HR7.out.later hb).later hbd)
          have HCC := Lib.hid ((HCV.out.later hb).later hbd)
          have HCO := Lib.hid (hco.later hbd)
          have HGR := Lib.hid (HG0.out.below HLR.out.dx.2 HG0.out.2)
          have HZR : Hid (∀ A', Below C2.drew.heap.size C2.drew A' → A'.cell? ⟨xb, 0, none⟩ = some (.slice oa s1.n ca) ∧ A'.cell? ⟨xb, 1, none⟩ = some (.slice ow s1.nw cw) ∧ A'.cell? ⟨xb, 2, none⟩ = some (.int .i64 (s1.ar : Nat)) ∧ A'.cell? ⟨xb, 3, none⟩ = some (.bool s1.dn)) := Lib.hid fun A' hA => by
            have h9 := (HXR.out.later hA).x
            exact ⟨by rw [Blk.cell h9]; rfl, by rw [Blk.cell h9]; rfl, by rw [Blk.cell h9]; rfl, by rw [Blk.cell h9]; rfl⟩
          obtain ⟨M, SS, hps, hal⟩ := both_all HLR.out HXR.out
          have HPS := Lib.hid hps
          have HAL := Lib.hid hal
          clear hb hbd hco z0 z1 z2 z3 u2 HL7 HS7 HCV HR7 hps hal
          go_upto_region 44 with fail
          refine wp_region_held_drew (S := (Below C2.drew.heap.size C2.drew)) (by kernel_rfl) ?_ (fun hHeld => ?_)
          · (try dsimp only)
            (first | exact Below.refl _ _ | assumption)
          generalize C2.drew = WR at *
          refine wpAnyH_take (i := 0) (oi := { dst := some 242, op := Go.Op.move (Go.Operand.tmp 14), type := 3, pos := "law.go:108", after := #[], guard := none }) (v := ?_) rfl (by kernel_rfl) (by kernel_rfl) (by kernel_rfl) (fun _ _ _ h => h) (Or.inl ⟨by rfl, ?_⟩) (by assumption) ?_
          rotate_left
          · intro wS hSw
            (try dsimp only at hSw)
            go_simp
            (try with_reducible rfl)
          (try simp only [Act.put, List.setIfInBounds_toArray, List.set_cons_zero, List.set_cons_succ])
          refine wpAnyH_take (i := 1) (oi := { dst := some 243, op := Go.Op.move (Go.Operand.tmp 15), type := 3, pos := "law.go:108", after := #[], guard := none }) (v := ?_) rfl (by kernel_rfl) (by kernel_rfl) (by kernel_rfl) (fun _ _ _ h => h) (Or.inl ⟨by rfl, ?_⟩) (by assumption) ?_
          rotate_left
          · intro wS hSw
            (try dsimp only at hSw)
            go_simp
            (try with_reducible rfl)
          (try simp only [Act.put, List.setIfInBounds_toArray, List.set_cons_zero, List.set_cons_succ])
          refine wpAnyH_take (i := 2) (oi := { dst := some 244, op := Go.Op.binOp Go.BinOp.neq 3 (Go.Operand.tmp 242) (Go.Operand.tmp 243) 3, type := 4, pos := "law.go:108", after := #[{ on := 0, ground := Go.Ground.data }, { on := 1, ground := Go.Ground.data }], guard := none }) (v := ?_) rfl (by kernel_rfl) (by kernel_rfl) (by kernel_rfl) (fun _ _ _ h => h) (Or.inl ⟨by rfl, ?_⟩) (by assumption) ?_
          rotate_left
          · intro wS hSw
            (try dsimp only at hSw)
            go_simp
            (try with_reducible rfl)
          (try simp only [Act.put, List.setIfInBounds_toArray, List.set_cons_zero, List.set_cons_succ])
          refine wpAnyH_take (i := 3) (oi := { dst := some 245, op := Go.Op.move (Go.Operand.tmp 244), type := 4, pos := "law.go:108", after := #[{ on := 2, ground := Go.Ground.data }], guard := none }) (v := ?_) rfl (by kernel_rfl) (by kernel_rfl) (by kernel_rfl) (fun _ _ _ h => h) (Or.inl ⟨by rfl, ?_⟩) (by assumption) ?_
          rotate_left
          · intro wS hSw
            (try dsimp only at hSw)
            go_simp
            (try with_reducible rfl)
          (try simp only [Act.put, List.setIfInBounds_toArray, List.set_cons_zero, List.set_cons_succ])
          refine wpAnyH_take (i := 4) (oi := { dst := some 246, op := Go.Op.move (Go.Operand.tmp 17), type := 22, pos := "law.go:108", after := #[{ on := 3, ground := Go.Ground.guard }], guard := some (3, false) }) (v := ?_) rfl (by kernel_rfl) (by kernel_rfl) (by kernel_rfl) (fun _ _ _ h => h) (Or.inl ⟨by rfl, ?_⟩) (by assumption) ?_
          rotate_left
          · intro wS hSw
            (try dsimp only at hSw)
            go_simp
            (try with_reducible rfl)
          (try simp only [Act.put, List.setIfInBounds_toArray, List.set_cons_zero, List.set_cons_succ])
          refine wpAnyH_take (i := 5) (oi := { dst := some 247, op := Go.Op.convert 22 9 (Go.Operand.tmp 246), type := 9, pos := "law.go:108", after := #[{ on := 4, ground := Go.Ground.data }, { on := 3, ground := Go.Ground.guard }], guard := some (3, false) }) (v := ?_) rfl (by kernel_rfl) (by kernel_rfl) (by kernel_rfl) (fun _ _ _ h => h) (Or.inl ⟨by rfl, ?_⟩) (by assumption) ?_
          rotate_left
          · intro wS hSw
            (have cvq := (HCC.out.later hSw).conv (c := cc); go_simp; (try with_reducible rfl))
          (try simp only [Act.put, List.setIfInBounds_toArray, List.set_cons_zero, List.set_cons_succ])
          refine wpAnyH_take (i := 6) (oi := { dst := some 248, op := Go.Op.move (Go.Operand.tmp 19), type := 22, pos := "law.go:108", after := #[{ on := 3, ground := Go.Ground.guard }], guard := some (3, false) }) (v := ?_) rfl (by kernel_rfl) (by kernel_rfl) (by kernel_rfl) (fun _ _ _ h => h) (Or.inl ⟨by rfl, ?_⟩) (by assumption) ?_
          rotate_left
          · intro wS hSw
            (try dsimp only at hSw)
            go_simp
            (try with_reducible rfl)
          (try simp only [Act.put, List.setIfInBounds_toArray, List.set_cons_zero, List.set_cons_succ])
          refine wpAnyH_take (i := 7) (oi := { dst := some 249, op := Go.Op.convert 22 9 (Go.Operand.tmp 248), type := 9, pos := "law.go:108", after := #[{ on := 6, ground := Go.Ground.data }, { on := 3, ground := Go.Ground.guard }], guard := some (3, false) }) (v := ?_) rfl (by kernel_rfl) (by kernel_rfl) (by kernel_rfl) (fun _ _ _ h => h) (Or.inl ⟨by rfl, ?_⟩) (by assumption) ?_
          rotate_left
          · intro wS hSw
            (have cvq := (HCO.out.later hSw).conv (c := co); go_simp; (try with_reducible rfl))
          (try simp only [Act.put, List.setIfInBounds_toArray, List.set_cons_zero, List.set_cons_succ])
          refine wpAnyH_take (i := 8) (oi := { dst := some 250, op := Go.Op.binOp Go.BinOp.neq 9 (Go.Operand.tmp 247) (Go.Operand.tmp 249) 9, type := 4, pos := "law.go:108", after := #[{ on := 5, ground := Go.Ground.data }, { on := 7, ground := Go.Ground.data }, { on := 3, ground := Go.Ground.guard }], guard := some (3, false) }) (v := ?_) rfl (by kernel_rfl) (by kernel_rfl) (by kernel_rfl) (fun _ _ _ h => h) (Or.inl ⟨by rfl, ?_⟩) (by assumption) ?_
          rotate_left
          · intro wS hSw
            (try dsimp only at hSw)
            go_simp
            (try with_reducible rfl)
          (try simp only [Act.put, List.setIfInBounds_toArray, List.set_cons_zero, List.set_cons_succ])
          refine wpAnyH_take (i := 9) (oi := { dst := some 251, op := Go.Op.pick (Go.Operand.tmp 245) (Go.Operand.const (Go.Value.bool true)) (Go.Operand.tmp 250), type := 4, pos := "law.go:108", after := #[{ on := 3, ground := Go.Ground.data }, { on := 8, ground := Go.Ground.data }], guard := none }) (v := ?_) rfl (by kernel_rfl) (by kernel_rfl) (by kernel_rfl) (fun _ _ _ h => h) (Or.inl ⟨by rfl, ?_⟩) (by assumption) ?_
          rotate_left
          · intro wS hSw
            (try dsimp only at hSw)
            go_simp
            (try with_reducible rfl)
          (try simp only [Act.put, List.setIfInBounds_toArray, List.set_cons_zero, List.set_cons_succ])
          refine wpAnyH_take (i := 10) (oi := { dst := some 252, op := Go.Op.move (Go.Operand.tmp 251), type := 4, pos := "law.go:108", after := #[{ on := 9, ground := Go.Ground.data }, { on := 3, ground := Go.Ground.chain }], guard := none }) (v := ?_) rfl (by kernel_rfl) (by kernel_rfl) (by kernel_rfl) (fun _ _ _ h => h) (Or.inl ⟨by rfl, ?_⟩) (by assumption) ?_
          rotate_left
          · intro wS hSw
            (try dsimp only at hSw)
            go_simp
            (try with_reducible rfl)
          (try simp only [Act.put, List.setIfInBounds_toArray, List.set_cons_zero, List.set_cons_succ])
          refine wpAnyH_take (i := 11) (oi := { dst := some 253, op := Go.Op.move (Go.Operand.tmp 18), type := 25, pos := "law.go:108", after := #[{ on := 10, ground := Go.Ground.guard }], guard := some (10, false) }) (v := ?_) rfl (by kernel_rfl) (by kernel_rfl) (by kernel_rfl) (fun _ _ _ h => h) (Or.inl ⟨by rfl, ?_⟩) (by assumption) ?_
          rotate_left
          · intro wS hSw
            (try dsimp only at hSw)
            go_simp
            (try with_reducible rfl)
          (try simp only [Act.put, List.setIfInBounds_toArray, List.set_cons_zero, List.set_cons_succ])
          refine wpAnyH_take (i := 13) (oi := { dst := some 255, op := Go.Op.move (Go.Operand.tmp 20), type := 3, pos := "law.go:108", after := #[{ on := 10, ground := Go.Ground.guard }], guard := some (10, false) }) (v := ?_) rfl (by kernel_rfl) (by kernel_rfl) (by kernel_rfl) (fun _ _ _ h => h) (Or.inl ⟨by rfl, ?_⟩) (by assumption) ?_
          rotate_left
          · intro wS hSw
            (try dsimp only at hSw)
            go_simp
            (try with_reducible rfl)
          (try simp only [Act.put, List.setIfInBounds_toArray, List.set_cons_zero, List.set_cons_succ])
          refine wpAnyH_ready (rs := [12]) (by kernel_rfl) (by simp) ?_
          refine AllReadyH.cons (o := { dst := some 254, op := Go.Op.call { callee := Go.Callee.value (Go.Operand.func 12), args := #[Go.Operand.tmp 253], argTypes := #[25] }, type := 3, pos := "law.go:108", after := #[{ on := 11, ground := Go.Ground.data }, { on := 10, ground := Go.Ground.chain }, { on := 10, ground := Go.Ground.guard }], guard := some (10, false) }) rfl (fun K hK => ?_) AllReadyH.nil
          go_simp
          (refine (num_er HER.out WR HGR.out).mono ?_; rintro e V1 ⟨rfl, hv1⟩; skip)
          (try go_wp2_with fail)
          refine hK.out _ _ ?_ (fun hHeld => ?_)
          · (try dsimp only)
            (first | exact Below.refl _ _ | assumption)
          clear hK K
          (try simp only [Act.put, List.setIfInBounds_toArray, List.set_cons_zero, List.set_cons_succ])
          refine wpAnyH_take (i := 14) (oi := { dst := some 256, op := Go.Op.binOp Go.BinOp.neq 3 (Go.Operand.tmp 254) (Go.Operand.tmp 255) 3, type := 4, pos := "law.go:108", after := #[{ on := 12, ground := Go.Ground.data }, { on := 13, ground := Go.Ground.data }, { on := 10, ground := Go.Ground.guard }], guard := some (10, false) }) (v := ?_) rfl (by kernel_rfl) (by kernel_rfl) (by kernel_rfl) (fun _ _ _ h => h) (Or.inl ⟨by rfl, ?_⟩) (by assumption) ?_
          rotate_left
          · intro wS hSw
            (try dsimp only at hSw)
            go_simp
            (try with_reducible rfl)
          (try simp only [Act.put, List.setIfInBounds_toArray, List.set_cons_zero, List.set_cons_succ])
          refine wpAnyH_take (i := 15) (oi := { dst := some 257, op := Go.Op.pick (Go.Operand.tmp 252) (Go.Operand.const (Go.Value.bool true)) (Go.Operand.tmp 256), type := 4, pos := "law.go:108", after := #[{ on := 10, ground := Go.Ground.data }, { on := 14, ground := Go.Ground.data }], guard := none }) (v := ?_) rfl (by kernel_rfl) (by kernel_rfl) (by kernel_rfl) (fun _ _ _ h => h) (Or.inl ⟨by rfl, ?_⟩) (by assumption) ?_
          rotate_left
          · intro wS hSw
            (try dsimp only at hSw)
            go_simp
            (try with_reducible rfl)
          (try simp only [Act.put, List.setIfInBounds_toArray, List.set_cons_zero, List.set_cons_succ])
          refine wpAnyH_take (i := 16) (oi := { dst := some 258, op := Go.Op.move (Go.Operand.tmp 257), type := 4, pos := "law.go:108", after := #[{ on := 15, ground := Go.Ground.data }, { on := 12, ground := Go.Ground.chain }], guard := none }) (v := ?_) rfl (by kernel_rfl) (by kernel_rfl) (by kernel_rfl) (fun _ _ _ h => h) (Or.inl ⟨by rfl, ?_⟩) (by assumption) ?_
          rotate_left
          · intro wS hSw
            (try dsimp only at hSw)
            go_simp
            (try with_reducible rfl)
          (try simp only [Act.put, List.setIfInBounds_toArray, List.set_cons_zero, List.set_cons_succ])
          refine wpAnyH_take (i := 17) (oi := { dst := some 259, op := Go.Op.move (Go.Operand.tmp 8), type := 23, pos := "law.go:108", after := #[{ on := 16, ground := Go.Ground.guard }], guard := some (16, false) }) (v := ?_) rfl (by kernel_rfl) (by kernel_rfl) (by kernel_rfl) (fun _ _ _ h => h) (Or.inl ⟨by rfl, ?_⟩) (by assumption) ?_
          rotate_left
          · intro wS hSw
            (try dsimp only at hSw)
            go_simp
            (try with_reducible rfl)
          (try simp only [Act.put, List.setIfInBounds_toArray, List.set_cons_zero, List.set_cons_succ])
          refine wpAnyH_take (i := 20) (oi := { dst := some 262, op := Go.Op.load 47 (Go.Operand.tmp 10), type := 47, pos := "law.go:108", after := #[{ on := 16, ground := Go.Ground.guard }], guard := some (16, false) }) (v := ?_) rfl (by kernel_rfl) (by kernel_rfl) (by kernel_rfl) (fun _ _ _ h => h) (Or.inl ⟨by rfl, ?_⟩) (by assumption) ?_
          rotate_left
          · intro wS hSw
            (obtain ⟨z0, z1, z2, z3⟩ := HZR.out wS hSw; go_simp; (try with_reducible rfl))
          (try simp only [Act.put, List.setIfInBounds_toArray, List.set_cons_zero, List.set_cons_succ])
          refine wpAnyH_ready (rs := [18]) (by kernel_rfl) (by simp) ?_
          refine AllReadyH.cons (o := { dst := some 260, op := Go.Op.call { callee := Go.Callee.value (Go.Operand.func 19), args := #[Go.Operand.tmp 259], argTypes := #[23] }, type := 22, pos := "law.go:108", after := #[{ on := 17, ground := Go.Ground.data }, { on := 16, ground := Go.Ground.chain }, { on := 16, ground := Go.Ground.guard }], guard := some (16, false) }) rfl (fun K hK => ?_) AllReadyH.nil
          go_simp
          (refine (HPS.out V1 hv1).mono ?_; rintro e V2 ⟨of, cf, rfl, hcf, hbf⟩; have HCF := Lib.hid hcf; have hv2 := hv1.trans (hbf.mono hv1.size); clear hcf hbf; skip)
          (try go_wp2_with fail)
          refine hK.out _ _ ?_ (fun hHeld => ?_)
          · (try dsimp only)
            (first | exact Below.refl _ _ | assumption)
          clear hK K
          (try simp only [Act.put, List.setIfInBounds_toArray, List.set_cons_zero, List.set_cons_succ])
          refine wpAnyH_ready (rs := [19, 21]) (by kernel_rfl) (by simp) ?_
          refine AllReadyH.cons (o := { dst := some 261, op := Go.Op.convert 22 9 (Go.Operand.tmp 260), type := 9, pos := "law.go:108", after := #[{ on := 18, ground := Go.Ground.data }, { on := 16, ground := Go.Ground.guard }], guard := some (16, false) }) rfl (fun K hK => ?_) ?_
          · skip
            (refine step_valueG (v := .string SS) (by rfl) (by (have cvq := HCF.out.conv (c := cf); go_simp; (try with_reducible rfl))) ?_; skip)
            refine hK.out _ _ ?_ (fun hHeld => ?_)
            · (try dsimp only)
              (first | exact Below.refl _ _ | assumption)
            clear hK K
            (try simp only [Act.put, List.setIfInBounds_toArray, List.set_cons_zero, List.set_cons_succ])
            refine wpAnyH_ready (rs := [21]) (by kernel_rfl) (by simp) ?_
            refine AllReadyH.cons (o := { dst := some 263, op := Go.Op.call { callee := Go.Callee.value (Go.Operand.func 27), args := #[Go.Operand.tmp 262], argTypes := #[47] }, type := 22, pos := "law.go:108", after := #[{ on := 20, ground := Go.Ground.data }, { on := 18, ground := Go.Ground.chain }, { on := 16, ground := Go.Ground.guard }], guard := some (16, false) }) rfl (fun K hK => ?_) AllReadyH.nil
            go_simp
            (refine (HAL.out V2 hv2).mono ?_; rintro e V3 ⟨og, cg, rfl, hcg, hbg⟩; have HCG := Lib.hid hcg; have HCF3 := Lib.hid (HCF.out.later hbg); have hv3 := hv2.trans (hbg.mono hv2.size); clear hcg hbg; skip)
            (try go_wp2_with fail)
            refine hK.out _ _ ?_ (fun hHeld => ?_)
            · (try dsimp only)
              (first | exact Below.refl _ _ | assumption)
            clear hK K
            (try simp only [Act.put, List.setIfInBounds_toArray, List.set_cons_zero, List.set_cons_succ])
            refine wpAnyH_ready (rs := [22]) (by kernel_rfl) (by simp) ?_
            refine AllReadyH.cons (o := { dst := some 264, op := Go.Op.convert 22 9 (Go.Operand.tmp 263), type := 9, pos := "law.go:108", after := #[{ on := 21, ground := Go.Ground.data }, { on := 16, ground := Go.Ground.guard }], guard := some (16, false) }) rfl (fun K hK => ?_) AllReadyH.nil
            (refine step_valueG (v := .string SS) (by rfl) (by (have cvq := HCG.out.conv (c := cg); go_simp; (try with_reducible rfl))) ?_; skip)
            refine hK.out _ _ ?_ (fun hHeld => ?_)
            · (try dsimp only)
              (first | exact Below.refl _ _ | assumption)
            clear hK K
            (try simp only [Act.put, List.setIfInBounds_toArray, List.set_cons_zero, List.set_cons_succ])
            refine wpAnyH_take (i := 23) (oi := { dst := some 265, op := Go.Op.binOp Go.BinOp.neq 9 (Go.Operand.tmp 261) (Go.Operand.tmp 264) 9, type := 4, pos := "law.go:108", after := #[{ on := 19, ground := Go.Ground.data }, { on := 22, ground := Go.Ground.data }, { on := 16, ground := Go.Ground.guard }], guard := some (16, false) }) (v := ?_) rfl (by kernel_rfl) (by kernel_rfl) (by kernel_rfl) (fun _ _ _ h => h) (Or.inl ⟨by rfl, ?_⟩) (by assumption) ?_
            rotate_left
            · intro wS hSw
              (try dsimp only at hSw)
              go_simp
              (try with_reducible rfl)
            (try simp only [Act.put, List.setIfInBounds_toArray, List.set_cons_zero, List.set_cons_succ])
            refine wpAnyH_take (i := 24) (oi := { dst := some 266, op := Go.Op.pick (Go.Operand.tmp 258) (Go.Operand.const (Go.Value.bool true)) (Go.Operand.tmp 265), type := 4, pos := "law.go:108", after := #[{ on := 16, ground := Go.Ground.data }, { on := 23, ground := Go.Ground.data }], guard := none }) (v := ?_) rfl (by kernel_rfl) (by kernel_rfl) (by kernel_rfl) (fun _ _ _ h => h) (Or.inl ⟨by rfl, ?_⟩) (by assumption) ?_
            rotate_left
            · intro wS hSw
              (try dsimp only at hSw)
              go_simp
              (try with_reducible rfl)
            (try simp only [Act.put, List.setIfInBounds_toArray, List.set_cons_zero, List.set_cons_succ])
            refine wpAnyH_take (i := 25) (oi := { dst := some 267, op := Go.Op.move (Go.Operand.tmp 266), type := 4, pos := "law.go:108", after := #[{ on := 24, ground := Go.Ground.data }, { on := 21, ground := Go.Ground.chain }], guard := none }) (v := ?_) rfl (by kernel_rfl) (by kernel_rfl) (by kernel_rfl) (fun _ _ _ h => h) (Or.inl ⟨by rfl, ?_⟩) (by assumption) ?_
            rotate_left
            · intro wS hSw
              (try dsimp only at hSw)
              go_simp
              (try with_reducible rfl)
            (try simp only [Act.put, List.setIfInBounds_toArray, List.set_cons_zero, List.set_cons_succ])
            refine wpAnyH_take (i := 26) (oi := { dst := some 268, op := Go.Op.move (Go.Operand.tmp 8), type := 23, pos := "law.go:108", after := #[{ on := 25, ground := Go.Ground.guard }], guard := some (25, false) }) (v := ?_) rfl (by kernel_rfl) (by kernel_rfl) (by kernel_rfl) (fun _ _ _ h => h) (Or.inl ⟨by rfl, ?_⟩) (by assumption) ?_
            rotate_left
            · intro wS hSw
              (try dsimp only at hSw)
              go_simp
              (try with_reducible rfl)
            (try simp only [Act.put, List.setIfInBounds_toArray, List.set_cons_zero, List.set_cons_succ])
            refine wpAnyH_take (i := 28) (oi := { dst := some 270, op := Go.Op.fieldAddr 47 (Go.Operand.tmp 10) 1, type := 0, pos := "law.go:108", after := #[{ on := 25, ground := Go.Ground.guard }], guard := some (25, false) }) (v := ?_) rfl (by kernel_rfl) (by kernel_rfl) (by kernel_rfl) (fun _ _ _ h => h) (Or.inl ⟨by rfl, ?_⟩) (by assumption) ?_
            rotate_left
            · intro wS hSw
              (try dsimp only at hSw)
              go_simp
              (try with_reducible rfl)
            (try simp only [Act.put, List.setIfInBounds_toArray, List.set_cons_zero, List.set_cons_succ])
            refine wpAnyH_take (i := 29) (oi := { dst := some 271, op := Go.Op.load 45 (Go.Operand.tmp 270), type := 45, pos := "law.go:108", after := #[{ on := 28, ground := Go.Ground.data }, { on := 25, ground := Go.Ground.guard }], guard := some (25, false) }) (v := ?_) rfl (by kernel_rfl) (by kernel_rfl) (by kernel_rfl) (fun _ _ _ h => h) (Or.inl ⟨by rfl, ?_⟩) (by assumption) ?_
            rotate_left
            · intro wS hSw
              (obtain ⟨z0, z1, z2, z3⟩ := HZR.out wS hSw; go_simp; (try with_reducible rfl))
            (try simp only [Act.put, List.setIfInBounds_toArray, List.set_cons_zero, List.set_cons_succ])
            refine wpAnyH_take (i := 30) (oi := { dst := some 272, op := Go.Op.call { callee := Go.Callee.builtin Go.Builtin.len, args := #[Go.Operand.tmp 271], argTypes := #[45] }, type := 3, pos := "law.go:108", after := #[{ on := 29, ground := Go.Ground.data }, { on := 25, ground := Go.Ground.guard }], guard := some (25, false) }) (v := ?_) rfl (by kernel_rfl) (by kernel_rfl) (by kernel_rfl) (fun _ _ _ h => h) (Or.inl ⟨by rfl, ?_⟩) (by assumption) ?_
            rotate_left
            · intro wS hSw
              (try dsimp only at hSw)
              go_simp
              (try with_reducible rfl)
            (try simp only [Act.put, List.setIfInBounds_toArray, List.set_cons_zero, List.set_cons_succ])
            refine wpAnyH_ready (rs := [27]) (by kernel_rfl) (by simp) ?_
            refine AllReadyH.cons (o := { dst := some 269, op := Go.Op.call { callee := Go.Callee.value (Go.Operand.func 15), args := #[Go.Operand.tmp 268], argTypes := #[23] }, type := 3, pos := "law.go:108", after := #[{ on := 26, ground := Go.Ground.data }, { on := 25, ground := Go.Ground.chain }, { on := 25, ground := Go.Ground.guard }], guard := some (25, false) }) rfl (fun K hK => ?_) AllReadyH.nil
            go_simp
            (refine (waits_any (HLR.out.later hv3).dk).mono ?_; rintro e _ ⟨rfl, rfl⟩; skip)
            (try go_wp2_with fail)
            refine hK.out _ _ ?_ (fun hHeld => ?_)
            · (try dsimp only)
              (first | exact Below.refl _ _ | assumption)
            clear hK K
            (try simp only [Act.put, List.setIfInBounds_toArray, List.set_cons_zero, List.set_cons_succ])
            refine wpAnyH_take (i := 31) (oi := { dst := some 273, op := Go.Op.binOp Go.BinOp.neq 3 (Go.Operand.tmp 269) (Go.Operand.tmp 272) 3, type := 4, pos := "law.go:108", after := #[{ on := 27, ground := Go.Ground.data }, { on := 30, ground := Go.Ground.data }, { on := 25, ground := Go.Ground.guard }], guard := some (25, false) }) (v := ?_) rfl (by kernel_rfl) (by kernel_rfl) (by kernel_rfl) (fun _ _ _ h => h) (Or.inl ⟨by rfl, ?_⟩) (by assumption) ?_
            rotate_left
            · intro wS hSw
              (try dsimp only at hSw)
              go_simp
              (try with_reducible rfl)
            (try simp only [Act.put, List.setIfInBounds_toArray, List.set_cons_zero, List.set_cons_succ])
            refine wpAnyH_take (i := 32) (oi := { dst := some 274, op := Go.Op.pick (Go.Operand.tmp 267) (Go.Operand.const (Go.Value.bool true)) (Go.Operand.tmp 273), type := 4, pos := "law.go:108", after := #[{ on := 25, ground := Go.Ground.data }, { on := 31, ground := Go.Ground.data }], guard := none }) (v := ?_) rfl (by kernel_rfl) (by kernel_rfl) (by kernel_rfl) (fun _ _ _ h => h) (Or.inl ⟨by rfl, ?_⟩) (by assumption) ?_
            rotate_left
            · intro wS hSw
              (try dsimp only at hSw)
              go_simp
              (try with_reducible rfl)
            (try simp only [Act.put, List.setIfInBounds_toArray, List.set_cons_zero, List.set_cons_succ])
            refine wpAnyH_take (i := 33) (oi := { dst := some 275, op := Go.Op.move (Go.Operand.tmp 274), type := 4, pos := "law.go:108", after := #[{ on := 32, ground := Go.Ground.data }, { on := 27, ground := Go.Ground.chain }], guard := none }) (v := ?_) rfl (by kernel_rfl) (by kernel_rfl) (by kernel_rfl) (fun _ _ _ h => h) (Or.inl ⟨by rfl, ?_⟩) (by assumption) ?_
            rotate_left
            · intro wS hSw
              (try dsimp only at hSw)
              go_simp
              (try with_reducible rfl)
            (try simp only [Act.put, List.setIfInBounds_toArray, List.set_cons_zero, List.set_cons_succ])
            refine wpAnyH_take (i := 34) (oi := { dst := some 276, op := Go.Op.move (Go.Operand.tmp 8), type := 23, pos := "law.go:108", after := #[{ on := 33, ground := Go.Ground.guard }], guard := some (33, false) }) (v := ?_) rfl (by kernel_rfl) (by kernel_rfl) (by kernel_rfl) (fun _ _ _ h => h) (Or.inl ⟨by rfl, ?_⟩) (by assumption) ?_
            rotate_left
            · intro wS hSw
              (try dsimp only at hSw)
              go_simp
              (try with_reducible rfl)
            (try simp only [Act.put, List.setIfInBounds_toArray, List.set_cons_zero, List.set_cons_succ])
            refine wpAnyH_take (i := 36) (oi := { dst := some 278, op := Go.Op.fieldAddr 47 (Go.Operand.tmp 10) 3, type := 0, pos := "law.go:108", after := #[{ on := 33, ground := Go.Ground.guard }], guard := some (33, false) }) (v := ?_) rfl (by kernel_rfl) (by kernel_rfl) (by kernel_rfl) (fun _ _ _ h => h) (Or.inl ⟨by rfl, ?_⟩) (by assumption) ?_
            rotate_left
            · intro wS hSw
              (try dsimp only at hSw)
              go_simp
              (try with_reducible rfl)
            (try simp only [Act.put, List.setIfInBounds_toArray, List.set_cons_zero, List.set_cons_succ])
            refine wpAnyH_take (i := 37) (oi := { dst := some 279, op := Go.Op.load 4 (Go.Operand.tmp 278), type := 4, pos := "law.go:108", after := #[{ on := 36, ground := Go.Ground.data }, { on := 33, ground := Go.Ground.guard }], guard := some (33, false) }) (v := ?_) rfl (by kernel_rfl) (by kernel_rfl) (by kernel_rfl) (fun _ _ _ h => h) (Or.inl ⟨by rfl, ?_⟩) (by assumption) ?_
            rotate_left
            · intro wS hSw
              (obtain ⟨z0, z1, z2, z3⟩ := HZR.out wS hSw; go_simp; (try with_reducible rfl))
            (try simp only [Act.put, List.setIfInBounds_toArray, List.set_cons_zero, List.set_cons_succ])
            refine wpAnyH_ready (rs := [35]) (by kernel_rfl) (by simp) ?_
            refine AllReadyH.cons (o := { dst := some 277, op := Go.Op.call { callee := Go.Callee.value (Go.Operand.func 13), args := #[Go.Operand.tmp 276], argTypes := #[23] }, type := 4, pos := "law.go:108", after := #[{ on := 34, ground := Go.Ground.data }, { on := 33, ground := Go.Ground.chain }, { on := 33, ground := Go.Ground.guard }], guard := some (33, false) }) rfl (fun K hK => ?_) AllReadyH.nil
            go_simp
            (refine (down_any (HLR.out.later hv3).dk).mono ?_; rintro e _ ⟨rfl, rfl⟩; skip)
            (try go_wp2_with fail)
            refine hK.out _ _ ?_ (fun hHeld => ?_)
            · (try dsimp only)
              (first | exact Below.refl _ _ | assumption)
            clear hK K
            (try simp only [Act.put, List.setIfInBounds_toArray, List.set_cons_zero, List.set_cons_succ])
            refine wpAnyH_take (i := 38) (oi := { dst := some 280, op := Go.Op.binOp Go.BinOp.neq 4 (Go.Operand.tmp 277) (Go.Operand.tmp 279) 4, type := 4, pos := "law.go:108", after := #[{ on := 35, ground := Go.Ground.data }, { on := 37, ground := Go.Ground.data }, { on := 33, ground := Go.Ground.guard }], guard := some (33, false) }) (v := ?_) rfl (by kernel_rfl) (by kernel_rfl) (by kernel_rfl) (fun _ _ _ h => h) (Or.inl ⟨by rfl, ?_⟩) (by assumption) ?_
            rotate_left
            · intro wS hSw
              (try dsimp only at hSw)
              go_simp
              (try with_reducible rfl)
            (try simp only [Act.put, List.setIfInBounds_toArray, List.set_cons_zero, List.set_cons_succ])
            refine wpAnyH_take (i := 39) (oi := { dst := some 281, op := Go.Op.pick (Go.Operand.tmp 275) (Go.Operand.const (Go.Value.bool true)) (Go.Operand.tmp 280), type := 4, pos := "law.go:108", after := #[{ on := 33, ground := Go.Ground.data }, { on := 38, ground := Go.Ground.data }], guard := none }) (v := ?_) rfl (by kernel_rfl) (by kernel_rfl) (by kernel_rfl) (fun _ _ _ h => h) (Or.inl ⟨by rfl, ?_⟩) (by assumption) ?_
            rotate_left
            · intro wS hSw
              (try dsimp only at hSw)
              go_simp
              (try with_reducible rfl)
            (try simp only [Act.put, List.setIfInBounds_toArray, List.set_cons_zero, List.set_cons_succ])
            refine wpAnyH_done (by kernel_rfl) ?_ _
            clear HZR
            have HLV := Lib.hid (HLR.out.later hv3)
            clear hv1 hv2 hv3
            go_wp2_with fail
            go_roundg (gk - 1)
            case measure => have := HI.out; omega
            case rel => exact ⟨i + 1, d1, sb1, v1, s1, by first | rfl | go_num, by have := HI.out; have := HSN.out; omega, by omega, rfl, HLV.out, HNW.out⟩
          refine AllReadyH.cons (o := { dst := some 263, op := Go.Op.call { callee := Go.Callee.value (Go.Operand.func 27), args := #[Go.Operand.tmp 262], argTypes := #[47] }, type := 22, pos := "law.go:108", after := #[{ on := 20, ground := Go.Ground.data }, { on := 18, ground := Go.Ground.chain }, { on := 16, ground := Go.Ground.guard }], guard := some (16, false) }) rfl (fun K hK => ?_) AllReadyH.nil
          go_simp
          (refine (HAL.out V2 hv2).mono ?_; rintro e V3 ⟨og, cg, rfl, hcg, hbg⟩; have HCG := Lib.hid hcg; have HCF3 := Lib.hid (HCF.out.later hbg); have hv3 := hv2.trans (hbg.mono hv2.size); clear hcg hbg; skip)
          (try go_wp2_with fail)
          refine hK.out _ _ ?_ (fun hHeld => ?_)
          · (try dsimp only)
            (first | exact Below.refl _ _ | assumption)
          clear hK K
          (try simp only [Act.put, List.setIfInBounds_toArray, List.set_cons_zero, List.set_cons_succ])
          refine wpAnyH_ready (rs := [19, 22]) (by kernel_rfl) (by simp) ?_
          refine AllReadyH.cons (o := { dst := some 261, op := Go.Op.convert 22 9 (Go.Operand.tmp 260), type := 9, pos := "law.go:108", after := #[{ on := 18, ground := Go.Ground.data }, { on := 16, ground := Go.Ground.guard }], guard := some (16, false) }) rfl (fun K hK => ?_) ?_
          · skip
            (refine step_valueG (v := .string SS) (by rfl) (by (have cvq := HCF3.out.conv (c := cf); go_simp; (try with_reducible rfl))) ?_; skip)
            refine hK.out _ _ ?_ (fun hHeld => ?_)
            · (try dsimp only)
              (first | exact Below.refl _ _ | assumption)
            clear hK K
            (try simp only [Act.put, List.setIfInBounds_toArray, List.set_cons_zero, List.set_cons_succ])
            refine wpAnyH_ready (rs := [22]) (by kernel_rfl) (by simp) ?_
            refine AllReadyH.cons (o := { dst := some 264, op := Go.Op.convert 22 9 (Go.Operand.tmp 263), type := 9, pos := "law.go:108", after := #[{ on := 21, ground := Go.Ground.data }, { on := 16, ground := Go.Ground.guard }], guard := some (16, false) }) rfl (fun K hK => ?_) AllReadyH.nil
            (refine step_valueG (v := .string SS) (by rfl) (by (have cvq := HCG.out.conv (c := cg); go_simp; (try with_reducible rfl))) ?_; skip)
            refine hK.out _ _ ?_ (fun hHeld => ?_)
            · (try dsimp only)
              (first | exact Below.refl _ _ | assumption)
            clear hK K
            (try simp only [Act.put, List.setIfInBounds_toArray, List.set_cons_zero, List.set_cons_succ])
            refine wpAnyH_take (i := 23) (oi := { dst := some 265, op := Go.Op.binOp Go.BinOp.neq 9 (Go.Operand.tmp 261) (Go.Operand.tmp 264) 9, type := 4, pos := "law.go:108", after := #[{ on := 19, ground := Go.Ground.data }, { on := 22, ground := Go.Ground.data }, { on := 16, ground := Go.Ground.guard }], guard := some (16, false) }) (v := ?_) rfl (by kernel_rfl) (by kernel_rfl) (by kernel_rfl) (fun _ _ _ h => h) (Or.inl ⟨by rfl, ?_⟩) (by assumption) ?_
            rotate_left
            · intro wS hSw
              (try dsimp only at hSw)
              go_simp
              (try with_reducible rfl)
            (try simp only [Act.put, List.setIfInBounds_toArray, List.set_cons_zero, List.set_cons_succ])
            refine wpAnyH_take (i := 24) (oi := { dst := some 266, op := Go.Op.pick (Go.Operand.tmp 258) (Go.Operand.const (Go.Value.bool true)) (Go.Operand.tmp 265), type := 4, pos := "law.go:108", after := #[{ on := 16, ground := Go.Ground.data }, { on := 23, ground := Go.Ground.data }], guard := none }) (v := ?_) rfl (by kernel_rfl) (by kernel_rfl) (by kernel_rfl) (fun _ _ _ h => h) (Or.inl ⟨by rfl, ?_⟩) (by assumption) ?_
            rotate_left
            · intro wS hSw
              (try dsimp only at hSw)
              go_simp
              (try with_reducible rfl)
            (try simp only [Act.put, List.setIfInBounds_toArray, List.set_cons_zero, List.set_cons_succ])
            refine wpAnyH_take (i := 25) (oi := { dst := some 267, op := Go.Op.move (Go.Operand.tmp 266), type := 4, pos := "law.go:108", after := #[{ on := 24, ground := Go.Ground.data }, { on := 21, ground := Go.Ground.chain }], guard := none }) (v := ?_) rfl (by kernel_rfl) (by kernel_rfl) (by kernel_rfl) (fun _ _ _ h => h) (Or.inl ⟨by rfl, ?_⟩) (by assumption) ?_
            rotate_left
            · intro wS hSw
              (try dsimp only at hSw)
              go_simp
              (try with_reducible rfl)
            (try simp only [Act.put, List.setIfInBounds_toArray, List.set_cons_zero, List.set_cons_succ])
            refine wpAnyH_take (i := 26) (oi := { dst := some 268, op := Go.Op.move (Go.Operand.tmp 8), type := 23, pos := "law.go:108", after := #[{ on := 25, ground := Go.Ground.guard }], guard := some (25, false) }) (v := ?_) rfl (by kernel_rfl) (by kernel_rfl) (by kernel_rfl) (fun _ _ _ h => h) (Or.inl ⟨by rfl, ?_⟩) (by assumption) ?_
            rotate_left
            · intro wS hSw
              (try dsimp only at hSw)
              go_simp
              (try with_reducible rfl)
            (try simp only [Act.put, List.setIfInBounds_toArray, List.set_cons_zero, List.set_cons_succ])
            refine wpAnyH_take (i := 28) (oi := { dst := some 270, op := Go.Op.fieldAddr 47 (Go.Operand.tmp 10) 1, type := 0, pos := "law.go:108", after := #[{ on := 25, ground := Go.Ground.guard }], guard := some (25, false) }) (v := ?_) rfl (by kernel_rfl) (by kernel_rfl) (by kernel_rfl) (fun _ _ _ h => h) (Or.inl ⟨by rfl, ?_⟩) (by assumption) ?_
            rotate_left
            · intro wS hSw
              (try dsimp only at hSw)
              go_simp
              (try with_reducible rfl)
            (try simp only [Act.put, List.setIfInBounds_toArray, List.set_cons_zero, List.set_cons_succ])
            refine wpAnyH_take (i := 29) (oi := { dst := some 271, op := Go.Op.load 45 (Go.Operand.tmp 270), type := 45, pos := "law.go:108", after := #[{ on := 28, ground := Go.Ground.data }, { on := 25, ground := Go.Ground.guard }], guard := some (25, false) }) (v := ?_) rfl (by kernel_rfl) (by kernel_rfl) (by kernel_rfl) (fun _ _ _ h => h) (Or.inl ⟨by rfl, ?_⟩) (by assumption) ?_
            rotate_left
            · intro wS hSw
              (obtain ⟨z0, z1, z2, z3⟩ := HZR.out wS hSw; go_simp; (try with_reducible rfl))
            (try simp only [Act.put, List.setIfInBounds_toArray, List.set_cons_zero, List.set_cons_succ])
            refine wpAnyH_take (i := 30) (oi := { dst := some 272, op := Go.Op.call { callee := Go.Callee.builtin Go.Builtin.len, args := #[Go.Operand.tmp 271], argTypes := #[45] }, type := 3, pos := "law.go:108", after := #[{ on := 29, ground := Go.Ground.data }, { on := 25, ground := Go.Ground.guard }], guard := some (25, false) }) (v := ?_) rfl (by kernel_rfl) (by kernel_rfl) (by kernel_rfl) (fun _ _ _ h => h) (Or.inl ⟨by rfl, ?_⟩) (by assumption) ?_
            rotate_left
            · intro wS hSw
              (try dsimp only at hSw)
              go_simp
              (try with_reducible rfl)
            (try simp only [Act.put, List.setIfInBounds_toArray, List.set_cons_zero, List.set_cons_succ])
            refine wpAnyH_ready (rs := [27]) (by kernel_rfl) (by simp) ?_
            refine AllReadyH.cons (o := { dst := some 269, op := Go.Op.call { callee := Go.Callee.value (Go.Operand.func 15), args := #[Go.Operand.tmp 268], argTypes := #[23] }, type := 3, pos := "law.go:108", after := #[{ on := 26, ground := Go.Ground.data }, { on := 25, ground := Go.Ground.chain }, { on := 25, ground := Go.Ground.guard }], guard := some (25, false) }) rfl (fun K hK => ?_) AllReadyH.nil
            go_simp
            (refine (waits_any (HLR.out.later hv3).dk).mono ?_; rintro e _ ⟨rfl, rfl⟩; skip)
            (try go_wp2_with fail)
            refine hK.out _ _ ?_ (fun hHeld => ?_)
            · (try dsimp only)
              (first | exact Below.refl _ _ | assumption)
            clear hK K
            (try simp only [Act.put, List.setIfInBounds_toArray, List.set_cons_zero, List.set_cons_succ])
            refine wpAnyH_take (i := 31) (oi := { dst := some 273, op := Go.Op.binOp Go.BinOp.neq 3 (Go.Operand.tmp 269) (Go.Operand.tmp 272) 3, type := 4, pos := "law.go:108", after := #[{ on := 27, ground := Go.Ground.data }, { on := 30, ground := Go.Ground.data }, { on := 25, ground := Go.Ground.guard }], guard := some (25, false) }) (v := ?_) rfl (by kernel_rfl) (by kernel_rfl) (by kernel_rfl) (fun _ _ _ h => h) (Or.inl ⟨by rfl, ?_⟩) (by assumption) ?_
            rotate_left
            · intro wS hSw
              (try dsimp only at hSw)
              go_simp
              (try with_reducible rfl)
            (try simp only [Act.put, List.setIfInBounds_toArray, List.set_cons_zero, List.set_cons_succ])
            refine wpAnyH_take (i := 32) (oi := { dst := some 274, op := Go.Op.pick (Go.Operand.tmp 267) (Go.Operand.const (Go.Value.bool true)) (Go.Operand.tmp 273), type := 4, pos := "law.go:108", after := #[{ on := 25, ground := Go.Ground.data }, { on := 31, ground := Go.Ground.data }], guard := none }) (v := ?_) rfl (by kernel_rfl) (by kernel_rfl) (by kernel_rfl) (fun _ _ _ h => h) (Or.inl ⟨by rfl, ?_⟩) (by assumption) ?_
            rotate_left
            · intro wS hSw
              (try dsimp only at hSw)
              go_simp
              (try with_reducible rfl)
            (try simp only [Act.put, List.setIfInBounds_toArray, List.set_cons_zero, List.set_cons_succ])
            refine wpAnyH_take (i := 33) (oi := { dst := some 275, op := Go.Op.move (Go.Operand.tmp 274), type := 4, pos := "law.go:108", after := #[{ on := 32, ground := Go.Ground.data }, { on := 27, ground := Go.Ground.chain }], guard := none }) (v := ?_) rfl (by kernel_rfl) (by kernel_rfl) (by kernel_rfl) (fun _ _ _ h => h) (Or.inl ⟨by rfl, ?_⟩) (by assumption) ?_
            rotate_left
            · intro wS hSw
              (try dsimp only at hSw)
              go_simp
              (try with_reducible rfl)
            (try simp only [Act.put, List.setIfInBounds_toArray, List.set_cons_zero, List.set_cons_succ])
            refine wpAnyH_take (i := 34) (oi := { dst := some 276, op := Go.Op.move (Go.Operand.tmp 8), type := 23, pos := "law.go:108", after := #[{ on := 33, ground := Go.Ground.guard }], guard := some (33, false) }) (v := ?_) rfl (by kernel_rfl) (by kernel_rfl) (by kernel_rfl) (fun _ _ _ h => h) (Or.inl ⟨by rfl, ?_⟩) (by assumption) ?_
            rotate_left
            · intro wS hSw
              (try dsimp only at hSw)
              go_simp
              (try with_reducible rfl)
            (try simp only [Act.put, List.setIfInBounds_toArray, List.set_cons_zero, List.set_cons_succ])
            refine wpAnyH_take (i := 36) (oi := { dst := some 278, op := Go.Op.fieldAddr 47 (Go.Operand.tmp 10) 3, type := 0, pos := "law.go:108", after := #[{ on := 33, ground := Go.Ground.guard }], guard := some (33, false) }) (v := ?_) rfl (by kernel_rfl) (by kernel_rfl) (by kernel_rfl) (fun _ _ _ h => h) (Or.inl ⟨by rfl, ?_⟩) (by assumption) ?_
            rotate_left
            · intro wS hSw
              (try dsimp only at hSw)
              go_simp
              (try with_reducible rfl)
            (try simp only [Act.put, List.setIfInBounds_toArray, List.set_cons_zero, List.set_cons_succ])
            refine wpAnyH_take (i := 37) (oi := { dst := some 279, op := Go.Op.load 4 (Go.Operand.tmp 278), type := 4, pos := "law.go:108", after := #[{ on := 36, ground := Go.Ground.data }, { on := 33, ground := Go.Ground.guard }], guard := some (33, false) }) (v := ?_) rfl (by kernel_rfl) (by kernel_rfl) (by kernel_rfl) (fun _ _ _ h => h) (Or.inl ⟨by rfl, ?_⟩) (by assumption) ?_
            rotate_left
            · intro wS hSw
              (obtain ⟨z0, z1, z2, z3⟩ := HZR.out wS hSw; go_simp; (try with_reducible rfl))
            (try simp only [Act.put, List.setIfInBounds_toArray, List.set_cons_zero, List.set_cons_succ])
            refine wpAnyH_ready (rs := [35]) (by kernel_rfl) (by simp) ?_
            refine AllReadyH.cons (o := { dst := some 277, op := Go.Op.call { callee := Go.Callee.value (Go.Operand.func 13), args := #[Go.Operand.tmp 276], argTypes := #[23] }, type := 4, pos := "law.go:108", after := #[{ on := 34, ground := Go.Ground.data }, { on := 33, ground := Go.Ground.chain }, { on := 33, ground := Go.Ground.guard }], guard := some (33, false) }) rfl (fun K hK => ?_) AllReadyH.nil
            go_simp
            (refine (down_any (HLR.out.later hv3).dk).mono ?_; rintro e _ ⟨rfl, rfl⟩; skip)
            (try go_wp2_with fail)
            refine hK.out _ _ ?_ (fun hHeld => ?_)
            · (try dsimp only)
              (first | exact Below.refl _ _ | assumption)
            clear hK K
            (try simp only [Act.put, List.setIfInBounds_toArray, List.set_cons_zero, List.set_cons_succ])
            refine wpAnyH_take (i := 38) (oi := { dst := some 280, op := Go.Op.binOp Go.BinOp.neq 4 (Go.Operand.tmp 277) (Go.Operand.tmp 279) 4, type := 4, pos := "law.go:108", after := #[{ on := 35, ground := Go.Ground.data }, { on := 37, ground := Go.Ground.data }, { on := 33, ground := Go.Ground.guard }], guard := some (33, false) }) (v := ?_) rfl (by kernel_rfl) (by kernel_rfl) (by kernel_rfl) (fun _ _ _ h => h) (Or.inl ⟨by rfl, ?_⟩) (by assumption) ?_
            rotate_left
            · intro wS hSw
              (try dsimp only at hSw)
              go_simp
              (try with_reducible rfl)
            (try simp only [Act.put, List.setIfInBounds_toArray, List.set_cons_zero, List.set_cons_succ])
            refine wpAnyH_take (i := 39) (oi := { dst := some 281, op := Go.Op.pick (Go.Operand.tmp 275) (Go.Operand.const (Go.Value.bool true)) (Go.Operand.tmp 280), type := 4, pos := "law.go:108", after := #[{ on := 33, ground := Go.Ground.data }, { on := 38, ground := Go.Ground.data }], guard := none }) (v := ?_) rfl (by kernel_rfl) (by kernel_rfl) (by kernel_rfl) (fun _ _ _ h => h) (Or.inl ⟨by rfl, ?_⟩) (by assumption) ?_
            rotate_left
            · intro wS hSw
              (try dsimp only at hSw)
              go_simp
              (try with_reducible rfl)
            (try simp only [Act.put, List.setIfInBounds_toArray, List.set_cons_zero, List.set_cons_succ])
            refine wpAnyH_done (by kernel_rfl) ?_ _
            clear HZR
            have HLV := Lib.hid (HLR.out.later hv3)
            clear hv1 hv2 hv3
            go_wp2_with fail
            go_roundg (gk - 1)
            case measure => have := HI.out; omega
            case rel => exact ⟨i + 1, d1, sb1, v1, s1, by first | rfl | go_num, by have := HI.out; have := HSN.out; omega, by omega, rfl, HLV.out, HNW.out⟩
          refine AllReadyH.cons (o := { dst := some 264, op := Go.Op.convert 22 9 (Go.Operand.tmp 263), type := 9, pos := "law.go:108", after := #[{ on := 21, ground := Go.Ground.data }, { on := 16, ground := Go.Ground.guard }], guard := some (16, false) }) rfl (fun K hK => ?_) AllReadyH.nil
          (refine step_valueG (v := .string SS) (by rfl) (by (have cvq := HCG.out.conv (c := cg); go_simp; (try with_reducible rfl))) ?_; skip)
          refine hK.out _ _ ?_ (fun hHeld => ?_)
          · (try dsimp only)
            (first | exact Below.refl _ _ | assumption)
          clear hK K
          (try simp only [Act.put, List.setIfInBounds_toArray, List.set_cons_zero, List.set_cons_succ])
          refine wpAnyH_ready (rs := [19]) (by kernel_rfl) (by simp) ?_
          refine AllReadyH.cons (o := { dst := some 261, op := Go.Op.convert 22 9 (Go.Operand.tmp 260), type := 9, pos := "law.go:108", after := #[{ on := 18, ground := Go.Ground.data }, { on := 16, ground := Go.Ground.guard }], guard := some (16, false) }) rfl (fun K hK => ?_) AllReadyH.nil
          (refine step_valueG (v := .string SS) (by rfl) (by (have cvq := HCF3.out.conv (c := cf); go_simp; (try with_reducible rfl))) ?_; skip)
          refine hK.out _ _ ?_ (fun hHeld => ?_)
          · (try dsimp only)
            (first | exact Below.refl _ _ | assumption)
          clear hK K
          (try simp only [Act.put, List.setIfInBounds_toArray, List.set_cons_zero, List.set_cons_succ])
          refine wpAnyH_take (i := 23) (oi := { dst := some 265, op := Go.Op.binOp Go.BinOp.neq 9 (Go.Operand.tmp 261) (Go.Operand.tmp 264) 9, type := 4, pos := "law.go:108", after := #[{ on := 19, ground := Go.Ground.data }, { on := 22, ground := Go.Ground.data }, { on := 16, ground := Go.Ground.guard }], guard := some (16, false) }) (v := ?_) rfl (by kernel_rfl) (by kernel_rfl) (by kernel_rfl) (fun _ _ _ h => h) (Or.inl ⟨by rfl, ?_⟩) (by assumption) ?_
          rotate_left
          · intro wS hSw
            (try dsimp only at hSw)
            go_simp
            (try with_reducible rfl)
          (try simp only [Act.put, List.setIfInBounds_toArray, List.set_cons_zero, List.set_cons_succ])
          refine wpAnyH_take (i := 24) (oi := { dst := some 266, op := Go.Op.pick (Go.Operand.tmp 258) (Go.Operand.const (Go.Value.bool true)) (Go.Operand.tmp 265), type := 4, pos := "law.go:108", after := #[{ on := 16, ground := Go.Ground.data }, { on := 23, ground := Go.Ground.data }], guard := none }) (v := ?_) rfl (by kernel_rfl) (by kernel_rfl) (by kernel_rfl) (fun _ _ _ h => h) (Or.inl ⟨by rfl, ?_⟩) (by assumption) ?_
          rotate_left
          · intro wS hSw
            (try dsimp only at hSw)
            go_simp
            (try with_reducible rfl)
          (try simp only [Act.put, List.setIfInBounds_toArray, List.set_cons_zero, List.set_cons_succ])
          refine wpAnyH_take (i := 25) (oi := { dst := some 267, op := Go.Op.move (Go.Operand.tmp 266), type := 4, pos := "law.go:108", after := #[{ on := 24, ground := Go.Ground.data }, { on := 21, ground := Go.Ground.chain }], guard := none }) (v := ?_) rfl (by kernel_rfl) (by kernel_rfl) (by kernel_rfl) (fun _ _ _ h => h) (Or.inl ⟨by rfl, ?_⟩) (by assumption) ?_
          rotate_left
          · intro wS hSw
            (try dsimp only at hSw)
            go_simp
            (try with_reducible rfl)
          (try simp only [Act.put, List.setIfInBounds_toArray, List.set_cons_zero, List.set_cons_succ])
          refine wpAnyH_take (i := 26) (oi := { dst := some 268, op := Go.Op.move (Go.Operand.tmp 8), type := 23, pos := "law.go:108", after := #[{ on := 25, ground := Go.Ground.guard }], guard := some (25, false) }) (v := ?_) rfl (by kernel_rfl) (by kernel_rfl) (by kernel_rfl) (fun _ _ _ h => h) (Or.inl ⟨by rfl, ?_⟩) (by assumption) ?_
          rotate_left
          · intro wS hSw
            (try dsimp only at hSw)
            go_simp
            (try with_reducible rfl)
          (try simp only [Act.put, List.setIfInBounds_toArray, List.set_cons_zero, List.set_cons_succ])
          refine wpAnyH_take (i := 28) (oi := { dst := some 270, op := Go.Op.fieldAddr 47 (Go.Operand.tmp 10) 1, type := 0, pos := "law.go:108", after := #[{ on := 25, ground := Go.Ground.guard }], guard := some (25, false) }) (v := ?_) rfl (by kernel_rfl) (by kernel_rfl) (by kernel_rfl) (fun _ _ _ h => h) (Or.inl ⟨by rfl, ?_⟩) (by assumption) ?_
          rotate_left
          · intro wS hSw
            (try dsimp only at hSw)
            go_simp
            (try with_reducible rfl)
          (try simp only [Act.put, List.setIfInBounds_toArray, List.set_cons_zero, List.set_cons_succ])
          refine wpAnyH_take (i := 29) (oi := { dst := some 271, op := Go.Op.load 45 (Go.Operand.tmp 270), type := 45, pos := "law.go:108", after := #[{ on := 28, ground := Go.Ground.data }, { on := 25, ground := Go.Ground.guard }], guard := some (25, false) }) (v := ?_) rfl (by kernel_rfl) (by kernel_rfl) (by kernel_rfl) (fun _ _ _ h => h) (Or.inl ⟨by rfl, ?_⟩) (by assumption) ?_
          rotate_left
          · intro wS hSw
            (obtain ⟨z0, z1, z2, z3⟩ := HZR.out wS hSw; go_simp; (try with_reducible rfl))
          (try simp only [Act.put, List.setIfInBounds_toArray, List.set_cons_zero, List.set_cons_succ])
          refine wpAnyH_take (i := 30) (oi := { dst := some 272, op := Go.Op.call { callee := Go.Callee.builtin Go.Builtin.len, args := #[Go.Operand.tmp 271], argTypes := #[45] }, type := 3, pos := "law.go:108", after := #[{ on := 29, ground := Go.Ground.data }, { on := 25, ground := Go.Ground.guard }], guard := some (25, false) }) (v := ?_) rfl (by kernel_rfl) (by kernel_rfl) (by kernel_rfl) (fun _ _ _ h => h) (Or.inl ⟨by rfl, ?_⟩) (by assumption) ?_
          rotate_left
          · intro wS hSw
            (try dsimp only at hSw)
            go_simp
            (try with_reducible rfl)
          (try simp only [Act.put, List.setIfInBounds_toArray, List.set_cons_zero, List.set_cons_succ])
          refine wpAnyH_ready (rs := [27]) (by kernel_rfl) (by simp) ?_
          refine AllReadyH.cons (o := { dst := some 269, op := Go.Op.call { callee := Go.Callee.value (Go.Operand.func 15), args := #[Go.Operand.tmp 268], argTypes := #[23] }, type := 3, pos := "law.go:108", after := #[{ on := 26, ground := Go.Ground.data }, { on := 25, ground := Go.Ground.chain }, { on := 25, ground := Go.Ground.guard }], guard := some (25, false) }) rfl (fun K hK => ?_) AllReadyH.nil
          go_simp
          (refine (waits_any (HLR.out.later hv3).dk).mono ?_; rintro e _ ⟨rfl, rfl⟩; skip)
          (try go_wp2_with fail)
          refine hK.out _ _ ?_ (fun hHeld => ?_)
          · (try dsimp only)
            (first | exact Below.refl _ _ | assumption)
          clear hK K
          (try simp only [Act.put, List.setIfInBounds_toArray, List.set_cons_zero, List.set_cons_succ])
          refine wpAnyH_take (i := 31) (oi := { dst := some 273, op := Go.Op.binOp Go.BinOp.neq 3 (Go.Operand.tmp 269) (Go.Operand.tmp 272) 3, type := 4, pos := "law.go:108", after := #[{ on := 27, ground := Go.Ground.data }, { on := 30, ground := Go.Ground.data }, { on := 25, ground := Go.Ground.guard }], guard := some (25, false) }) (v := ?_) rfl (by kernel_rfl) (by kernel_rfl) (by kernel_rfl) (fun _ _ _ h => h) (Or.inl ⟨by rfl, ?_⟩) (by assumption) ?_
          rotate_left
          · intro wS hSw
            (try dsimp only at hSw)
            go_simp
            (try with_reducible rfl)
          (try simp only [Act.put, List.setIfInBounds_toArray, List.set_cons_zero, List.set_cons_succ])
          refine wpAnyH_take (i := 32) (oi := { dst := some 274, op := Go.Op.pick (Go.Operand.tmp 267) (Go.Operand.const (Go.Value.bool true)) (Go.Operand.tmp 273), type := 4, pos := "law.go:108", after := #[{ on := 25, ground := Go.Ground.data }, { on := 31, ground := Go.Ground.data }], guard := none }) (v := ?_) rfl (by kernel_rfl) (by kernel_rfl) (by kernel_rfl) (fun _ _ _ h => h) (Or.inl ⟨by rfl, ?_⟩) (by assumption) ?_
          rotate_left
          · intro wS hSw
            (try dsimp only at hSw)
            go_simp
            (try with_reducible rfl)
          (try simp only [Act.put, List.setIfInBounds_toArray, List.set_cons_zero, List.set_cons_succ])
          refine wpAnyH_take (i := 33) (oi := { dst := some 275, op := Go.Op.move (Go.Operand.tmp 274), type := 4, pos := "law.go:108", after := #[{ on := 32, ground := Go.Ground.data }, { on := 27, ground := Go.Ground.chain }], guard := none }) (v := ?_) rfl (by kernel_rfl) (by kernel_rfl) (by kernel_rfl) (fun _ _ _ h => h) (Or.inl ⟨by rfl, ?_⟩) (by assumption) ?_
          rotate_left
          · intro wS hSw
            (try dsimp only at hSw)
            go_simp
            (try with_reducible rfl)
          (try simp only [Act.put, List.setIfInBounds_toArray, List.set_cons_zero, List.set_cons_succ])
          refine wpAnyH_take (i := 34) (oi := { dst := some 276, op := Go.Op.move (Go.Operand.tmp 8), type := 23, pos := "law.go:108", after := #[{ on := 33, ground := Go.Ground.guard }], guard := some (33, false) }) (v := ?_) rfl (by kernel_rfl) (by kernel_rfl) (by kernel_rfl) (fun _ _ _ h => h) (Or.inl ⟨by rfl, ?_⟩) (by assumption) ?_
          rotate_left
          · intro wS hSw
            (try dsimp only at hSw)
            go_simp
            (try with_reducible rfl)
          (try simp only [Act.put, List.setIfInBounds_toArray, List.set_cons_zero, List.set_cons_succ])
          refine wpAnyH_take (i := 36) (oi := { dst := some 278, op := Go.Op.fieldAddr 47 (Go.Operand.tmp 10) 3, type := 0, pos := "law.go:108", after := #[{ on := 33, ground := Go.Ground.guard }], guard := some (33, false) }) (v := ?_) rfl (by kernel_rfl) (by kernel_rfl) (by kernel_rfl) (fun _ _ _ h => h) (Or.inl ⟨by rfl, ?_⟩) (by assumption) ?_
          rotate_left
          · intro wS hSw
            (try dsimp only at hSw)
            go_simp
            (try with_reducible rfl)
          (try simp only [Act.put, List.setIfInBounds_toArray, List.set_cons_zero, List.set_cons_succ])
          refine wpAnyH_take (i := 37) (oi := { dst := some 279, op := Go.Op.load 4 (Go.Operand.tmp 278), type := 4, pos := "law.go:108", after := #[{ on := 36, ground := Go.Ground.data }, { on := 33, ground := Go.Ground.guard }], guard := some (33, false) }) (v := ?_) rfl (by kernel_rfl) (by kernel_rfl) (by kernel_rfl) (fun _ _ _ h => h) (Or.inl ⟨by rfl, ?_⟩) (by assumption) ?_
          rotate_left
          · intro wS hSw
            (obtain ⟨z0, z1, z2, z3⟩ := HZR.out wS hSw; go_simp; (try with_reducible rfl))
          (try simp only [Act.put, List.setIfInBounds_toArray, List.set_cons_zero, List.set_cons_succ])
          refine wpAnyH_ready (rs := [35]) (by kernel_rfl) (by simp) ?_
          refine AllReadyH.cons (o := { dst := some 277, op := Go.Op.call { callee := Go.Callee.value (Go.Operand.func 13), args := #[Go.Operand.tmp 276], argTypes := #[23] }, type := 4, pos := "law.go:108", after := #[{ on := 34, ground := Go.Ground.data }, { on := 33, ground := Go.Ground.chain }, { on := 33, ground := Go.Ground.guard }], guard := some (33, false) }) rfl (fun K hK => ?_) AllReadyH.nil
          go_simp
          (refine (down_any (HLR.out.later hv3).dk).mono ?_; rintro e _ ⟨rfl, rfl⟩; skip)
          (try go_wp2_with fail)
          refine hK.out _ _ ?_ (fun hHeld => ?_)
          · (try dsimp only)
            (first | exact Below.refl _ _ | assumption)
          clear hK K
          (try simp only [Act.put, List.setIfInBounds_toArray, List.set_cons_zero, List.set_cons_succ])
          refine wpAnyH_take (i := 38) (oi := { dst := some 280, op := Go.Op.binOp Go.BinOp.neq 4 (Go.Operand.tmp 277) (Go.Operand.tmp 279) 4, type := 4, pos := "law.go:108", after := #[{ on := 35, ground := Go.Ground.data }, { on := 37, ground := Go.Ground.data }, { on := 33, ground := Go.Ground.guard }], guard := some (33, false) }) (v := ?_) rfl (by kernel_rfl) (by kernel_rfl) (by kernel_rfl) (fun _ _ _ h => h) (Or.inl ⟨by rfl, ?_⟩) (by assumption) ?_
          rotate_left
          · intro wS hSw
            (try dsimp only at hSw)
            go_simp
            (try with_reducible rfl)
          (try simp only [Act.put, List.setIfInBounds_toArray, List.set_cons_zero, List.set_cons_succ])
          refine wpAnyH_take (i := 39) (oi := { dst := some 281, op := Go.Op.pick (Go.Operand.tmp 275) (Go.Operand.const (Go.Value.bool true)) (Go.Operand.tmp 280), type := 4, pos := "law.go:108", after := #[{ on := 33, ground := Go.Ground.data }, { on := 38, ground := Go.Ground.data }], guard := none }) (v := ?_) rfl (by kernel_rfl) (by kernel_rfl) (by kernel_rfl) (fun _ _ _ h => h) (Or.inl ⟨by rfl, ?_⟩) (by assumption) ?_
          rotate_left
          · intro wS hSw
            (try dsimp only at hSw)
            go_simp
            (try with_reducible rfl)
          (try simp only [Act.put, List.setIfInBounds_toArray, List.set_cons_zero, List.set_cons_succ])
          refine wpAnyH_done (by kernel_rfl) ?_ _
          clear HZR
          have HLV := Lib.hid (HLR.out.later hv3)
          clear hv1 hv2 hv3
          go_wp2_with fail
          go_roundg (gk - 1)
          case measure => have := HI.out; omega
          case rel => exact ⟨i + 1, d1, sb1, v1, s1, by first | rfl | go_num, by have := HI.out; have := HSN.out; omega, by omega, rfl, HLV.out, HNW.out⟩
    · as_aux_lemma =>
      have hcase : (¬ i < m) ∨ (i < m ∧ ¬ i < 30) := by omega
      have HSU := Lib.hid (sure13 wr HGr.out)
      have HBL := Lib.hid hL.dx.2
      rcases hcase with h1 | ⟨h1, h2⟩
      · have i1 : ¬ (i : Int) < (m : Int) := by omega
        have i2 : decide ((i : Int) < (m : Int)) = false := decide_eq_false i1
        clear hlt hL
        go_wp2_with fail
        refine HSU.out.mono ?_
        rintro e B9 ⟨rfl, hb⟩
        have HB9 := Lib.hid (HBL.out.trans (hb.mono HBL.out.size))
        clear hb
        go_wp2_with fail
        go_ret
        exact ⟨rfl, HB9.out⟩
      · have i1 : (i : Int) < (m : Int) := by omega
        have i2 : ¬ (i : Int) < 30 := by omega
        have i3 : decide ((i : Int) < 30) = false := decide_eq_false i2
        clear hlt hL
        go_wp2_with fail
        refine HSU.out.mono ?_
        rintro e B9 ⟨rfl, hb⟩
        have HB9 := Lib.hid (HBL.out.trans (hb.mono HBL.out.size))
        clear hb
        go_wp2_with fail
        go_ret
        exact ⟨rfl, HB9.out⟩
end Go.Proofs.YtcohllhmfghlfaaDoor
