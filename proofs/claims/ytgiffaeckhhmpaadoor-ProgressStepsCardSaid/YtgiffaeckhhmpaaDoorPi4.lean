/- ProgressSteps: the walk. -/
import Derived.Test.YtgiffaeckhhmpaaDoorPi3
import Derived.Deep.DeepCutAuto
namespace Go.Proofs.YtgiffaeckhhmpaaDoor
set_option linter.unusedVariables false
set_option linter.unusedSimpArgs false
open Go.RowKit
theorem IsSh.fresh {tb T : Nat} {w : World} {C : List Value} {s : Sh} (h : IsSh tb w C s) (hT : w.heap.size ≤ T) : IsSh T w C s := (h.isP (P := fun q => q < w.heap.size) fun q hq _ => hq).isSh (tb := T) fun q hq => by omega
/-- What is kept from call to call. -/
structure XS (w : World) (CDv CSv CXv : Array Value) (b5 b8 tb : Nat) (ob : Option Addr) (n : Nat) (S : Nat → Sh) (A : World) : Prop where
  b : Below w.heap.size w A
  p : Blk A w.heap.size CDv 54
  s : Blk A b5 CSv 55
  x : Blk A b8 CXv 36
  r : Shs tb A ob n S
theorem XS.later {w A B : World} {CDv CSv CXv : Array Value} {b5 b8 tb n : Nat} {ob : Option Addr} {S : Nat → Sh} (h : XS w CDv CSv CXv b5 b8 tb ob n S A) (hb : Below A.heap.size A B) : XS w CDv CSv CXv b5 b8 tb ob n S B :=
  ⟨h.b.trans (hb.mono h.b.size), Blk.below h.p hb (Blk.lt h.p), Blk.below h.s hb (Blk.lt h.s), Blk.below h.x hb (Blk.lt h.x), h.r.later hb⟩
set_option maxRecDepth 100000 in
set_option maxHeartbeats 16000000 in
theorem steps_any (K N : Int) (gen n cs ix gn ln cp : Nat) (mk mark : ByteArray) (oa od : Option Addr) (S : Nat → Sh) (f : Nat → Nat) (w : World) (hg : Handle w) (hS : Shs w.heap.size w oa n S) (hs : IsSh w.heap.size w [.int .u8 (ix : Int), .int .u32 (gn : Int), .slice od ln cp] ⟨ix, gn, ln, f⟩)
    (hix : ∀ i, i < n → (S i).ix < 256) (hnc : n ≤ cs) (hcm : cs ≤ maxLen) (hix2 : ix < 256) :
    Calls Tryd.prog 5 #[.agg #[.int .i64 K, .int .i64 N, .int .u32 (gen : Int), .string mk, .slice oa n cs], .string mark, .agg #[.int .u8 (ix : Int), .int .u32 (gn : Int), .slice od ln cp]] w fun e w' => e = .returned (.bool true) ∧ Below w.heap.size w w' := by
  obtain ⟨b5, hb5⟩ : ∃ y, w.heap.size + 1 = y := ⟨_, rfl⟩
  obtain ⟨w0, hw0⟩ : ∃ y, (w.alloc (.cells #[.int .i64 K, .int .i64 N, .int .u32 (gen : Int), .string mk, .slice oa n cs] 54)).alloc (.cells #[.int .u8 (ix : Int), .int .u32 (gn : Int), .slice od ln cp] 55) = y := ⟨_, rfl⟩
  have hb0 : Below w.heap.size w w0 := by rw [← hw0]; exact ((Below.refl _ _).alloc (Nat.le_refl _) _).alloc (by simp) _
  have hP : Blk w0 w.heap.size #[.int .i64 K, .int .i64 N, .int .u32 (gen : Int), .string mk, .slice oa n cs] 54 := by rw [← hw0]; exact (Blk.new _ _ _).alloc _
  have hQ : Blk w0 b5 #[.int .u8 (ix : Int), .int .u32 (gn : Int), .slice od ln cp] 55 := by rw [← hw0, ← hb5]; simpa using Blk.new (w.alloc (.cells #[.int .i64 K, .int .i64 N, .int .u32 (gen : Int), .string mk, .slice oa n cs] 54)) #[.int .u8 (ix : Int), .int .u32 (gn : Int), .slice od ln cp] 55
  have c4 := pg_sl hP
  have c3 := pg_mk hP
  have s2 : w0.cell? ⟨b5, 2, none⟩ = some (.slice od ln cp) := by rw [Blk.cell hQ]; rfl
  have HG : Hid (∀ A, Below w.heap.size w A → Handle A) := Lib.hid fun A hb => hg.below hb hg.2
  have HWP : Hid (0 < w.heap.size) := Lib.hid (Nat.lt_of_le_of_lt (Nat.zero_le _) hg.2)
  have HSU : Hid (∀ w', Below w.heap.size w w' → Calls Tryd.prog 12 #[] w' fun e w'' => e = .returned (.bool true) ∧ Below w'.heap.size w' w'') := Lib.hid fun w' hb => sure23 w' (hg.below hb hg.2)
  have HB0 := Lib.hid hb0
  have HPB := Lib.hid hP
  have HSB := Lib.hid hQ
  have HSS := Lib.hid hS
  have HSI := Lib.hid hs
  have HIX := Lib.hid hix
  have HNC := Lib.hid (show n ≤ cs ∧ cs ≤ maxLen ∧ ix < 256 from ⟨hnc, hcm, hix2⟩)
  clear hb0 hP hQ hix hnc hcm hix2
  by_cases g1 : 20 < n
  · skip
    have a1 : (20 : Int) < (n : Int) := by omega
    have a2 : decide ((20 : Int) < (n : Int)) = true := decide_eq_true a1
    have a7 : 20 < n := by omega
    have a8 : decide (20 < n) = true := decide_eq_true a7
    clear hg hS hs
    go_enter Tryd.func5, Tryd.ntmps5
    go_wp2_with fail
    refine (HSU.out w0 HB0.out).mono ?_
    rintro e w1 ⟨rfl, hb1⟩
    have HB1 := Lib.hid (HB0.out.trans (hb1.mono HB0.out.size))
    clear hb1 c3 c4 s2
    go_wp2_with fail
    go_ret
    exact ⟨rfl, HB1.out⟩
  have a1 : ¬ (20 : Int) < (n : Int) := by omega
  have a2 : decide ((20 : Int) < (n : Int)) = false := decide_eq_false a1
  have a7 : ¬ 20 < n := by omega
  have a8 : decide (20 < n) = false := decide_eq_false a7
  by_cases g2 : 100 < mk.size
  · skip
    have b1 : (100 : Int) < (mk.size : Int) := by omega
    have b2 : decide ((100 : Int) < (mk.size : Int)) = true := decide_eq_true b1
    have b7 : 100 < mk.size := by omega
    have b8 : decide (100 < mk.size) = true := decide_eq_true b7
    clear hg hS hs
    go_enter Tryd.func5, Tryd.ntmps5
    go_wp2_with fail
    refine (HSU.out w0 HB0.out).mono ?_
    rintro e w1 ⟨rfl, hb1⟩
    have HB1 := Lib.hid (HB0.out.trans (hb1.mono HB0.out.size))
    clear hb1 c3 c4 s2
    go_wp2_with fail
    go_ret
    exact ⟨rfl, HB1.out⟩
  have b1 : ¬ (100 : Int) < (mk.size : Int) := by omega
  have b2 : decide ((100 : Int) < (mk.size : Int)) = false := decide_eq_false b1
  have b7 : ¬ 100 < mk.size := by omega
  have b8 : decide (100 < mk.size) = false := decide_eq_false b7
  by_cases g3 : 100 < mark.size
  · skip
    have c1 : (100 : Int) < (mark.size : Int) := by omega
    have c2 : decide ((100 : Int) < (mark.size : Int)) = true := decide_eq_true c1
    have c7 : 100 < mark.size := by omega
    have c8 : decide (100 < mark.size) = true := decide_eq_true c7
    clear hg hS hs
    go_enter Tryd.func5, Tryd.ntmps5
    go_wp2_with fail
    refine (HSU.out w0 HB0.out).mono ?_
    rintro e w1 ⟨rfl, hb1⟩
    have HB1 := Lib.hid (HB0.out.trans (hb1.mono HB0.out.size))
    clear hb1 c3 c4 s2
    go_wp2_with fail
    go_ret
    exact ⟨rfl, HB1.out⟩
  have c1 : ¬ (100 : Int) < (mark.size : Int) := by omega
  have c2 : decide ((100 : Int) < (mark.size : Int)) = false := decide_eq_false c1
  have c7 : ¬ 100 < mark.size := by omega
  have c8 : decide (100 < mark.size) = false := decide_eq_false c7
  by_cases g4 : 100 < ln
  · skip
    have d1 : (100 : Int) < (ln : Int) := by omega
    have d2 : decide ((100 : Int) < (ln : Int)) = true := decide_eq_true d1
    have d7 : 100 < ln := by omega
    have d8 : decide (100 < ln) = true := decide_eq_true d7
    clear hg hS hs
    go_enter Tryd.func5, Tryd.ntmps5
    go_wp2_with fail
    refine (HSU.out w0 HB0.out).mono ?_
    rintro e w1 ⟨rfl, hb1⟩
    have HB1 := Lib.hid (HB0.out.trans (hb1.mono HB0.out.size))
    clear hb1 c3 c4 s2
    go_wp2_with fail
    go_ret
    exact ⟨rfl, HB1.out⟩
  have d1 : ¬ (100 : Int) < (ln : Int) := by omega
  have d2 : decide ((100 : Int) < (ln : Int)) = false := decide_eq_false d1
  have d7 : ¬ 100 < ln := by omega
  have d8 : decide (100 < ln) = false := decide_eq_false d7
  have HNN := Lib.hid (show n ≤ 20 ∧ mk.size ≤ 100 ∧ mark.size ≤ 100 ∧ ln ≤ 100 by omega)
  clear hg hS hs g1 g2 g3 g4
  go_enter Tryd.func5, Tryd.ntmps5
  go_wp2_with fail
  clear a1 a2 a7 a8 b1 b2 b7 b8 c1 c2 c7 c8 d1 d2 d7 d8 c3 c4 s2
  go_loopw [7] (fun x wr => ∃ i : Nat, i ≤ n ∧ x = .int .i64 (i : Int) ∧ Below w0.heap.size w0 wr) (fun x _ => n - (intOf x).toNat)
  case atStart => exact ⟨0, Nat.zero_le _, rfl, Below.refl _ _⟩
  case round =>
    obtain ⟨i, hi, rfl, hbw⟩ := hrel
    have HBW := Lib.hid hbw
    have hpr := Blk.below HPB.out hbw (Blk.lt HPB.out)
    have c4 := pg_sl hpr
    clear hbw hpr
    by_cases hlt : i < n
    · have i1 : (i : Int) < (n : Int) := by omega
      have i0 : (0 : Int) ≤ (i : Int) := by omega
      have k4 : IntKind.i64.wrap ((i : Int) + 1) = ((i + 1 : Nat) : Int) := by have := HNN.out; rw [IntWalk.i64_in _ (by omega)]; omega
      obtain ⟨b, off, od', cp', rfl, -, -, -, -, -, -, -, -, x2⟩ := ((HSS.out.later HB0.out).later HBW.out).get i hlt
      have HI := Lib.hid (show i < n ∧ i + 1 ≤ n from ⟨hlt, hlt⟩)
      obtain ⟨l, hl⟩ : ∃ q, (S i).len = q := ⟨_, rfl⟩
      rw [hl] at x2
      clear hl hlt hi
      by_cases hll : 100 < l
      · skip
        have d1 : (100 : Int) < (l : Int) := by omega
        have d2 : decide ((100 : Int) < (l : Int)) = true := decide_eq_true d1
        have d7 : 100 < l := by omega
        have d8 : decide (100 < l) = true := decide_eq_true d7
        clear hll
        go_wp2_with fail
        have hbx := HB0.out.trans (HBW.out.mono HB0.out.size)
        have HBX := Lib.hid hbx
        clear hbx
        refine (HSU.out wr HBX.out).mono ?_
        rintro e w1 ⟨rfl, hb1⟩
        have HB1 := Lib.hid (HBX.out.trans (hb1.mono HBX.out.size))
        clear hb1 c4 x2
        go_wp2_with fail
        go_ret
        exact ⟨rfl, HB1.out⟩
      · skip
        have d1 : ¬ (100 : Int) < (l : Int) := by omega
        have d2 : decide ((100 : Int) < (l : Int)) = false := decide_eq_false d1
        have d7 : ¬ 100 < l := by omega
        have d8 : decide (100 < l) = false := decide_eq_false d7
        clear hll
        go_wp2_with fail
        go_roundw
        case rel => exact ⟨i + 1, HI.out.2, by first | rfl | go_num, HBW.out⟩
        case measure => have := HI.out; simp [intOf]; omega
    · obtain rfl : n = i := by omega
      have i1 : ¬ (n : Int) < (n : Int) := by omega
      have hbx := HB0.out.trans (HBW.out.mono HB0.out.size)
      have hpr := Blk.below HPB.out HBW.out (Blk.lt HPB.out)
      have HR8 := Lib.hid (range5 hpr)
      have HPr := Lib.hid hpr
      have HSr := Lib.hid (Blk.below HSB.out HBW.out (Blk.lt HSB.out))
      have HBr := Lib.hid hbx
      have HGI := Lib.hid (giveprog_any w.heap.size K N gen n cs mk oa S wr (HSS.out.later hbx) (by have := HNN.out; omega))
      clear hbx hpr hlt hi
      go_wp2_with (first | (refine wpList_value rfl (exec_loadM (x := .tmp 3) (cs := [.int .i64 K, .int .i64 N, .int .u32 (gen : Int), .string mk, .slice oa n cs]) rfl rfl HR8.out Tryd.underlying54 rfl info_pgR) ?_))
      refine HGI.out.mono ?_
      rintro e w1 ⟨tb2, ob, cb, rfl, hnb, hcb, hsx, htb2, hb1⟩
      obtain ⟨b8, hqb8⟩ : ∃ y, w1.heap.size = y := ⟨_, rfl⟩
      obtain ⟨wz8, hwz8⟩ : ∃ y, w1.alloc (.cells #[.int .i64 0, .int .i64 0, .int .u32 0, .string ⟨#[]⟩, .slice none 0 0] 36) = y := ⟨_, rfl⟩
      have hbz : Below w1.heap.size w1 wz8 := by rw [← hwz8]; exact (Below.refl _ _).alloc (Nat.le_refl _) _
      have hXz : Blk wz8 b8 #[.int .i64 0, .int .i64 0, .int .u32 0, .string ⟨#[]⟩, .slice none 0 0] 36 := by rw [← hwz8, ← hqb8]; exact Blk.new _ _ _
      have HTZb8 : Hid (wz8.there b8 0 5) := Lib.hid (hXz.there (by decide))
      obtain ⟨w2, hw5⟩ : ∃ y, wz8.setCells b8 0 [.int .i64 K, .int .i64 N, .int .u32 (gen : Int), .string mk, .slice ob n cb] = y := ⟨_, rfl⟩
      have hOz : Own b8 wz8 w2 := by rw [← hw5]; exact Own.setCells _ _ _
      have HBw2 : Hid (Below w1.heap.size w1 w2) := Lib.hid (hbz.trans (hOz.below (by omega) hbz.size))
      have HNw2 : Hid (Blk w2 b8 #[.int .i64 K, .int .i64 N, .int .u32 (gen : Int), .string mk, .slice ob n cb] 36) := Lib.hid (by rw [← hw5]; exact hXz.whole5 rfl _ _ _ _ _)
      have HWw2 := Lib.hid hw5
      clear hbz hXz hOz hw5
      have hbr1 := HBr.out.trans (hb1.mono HBr.out.size)
      have h12 := HBw2.out
      have HX2 : Hid (XS w #[.int .i64 K, .int .i64 N, .int .u32 (gen : Int), .string mk, .slice oa n cs] #[.int .u8 (ix : Int), .int .u32 (gn : Int), .slice od ln cp] #[.int .i64 K, .int .i64 N, .int .u32 (gen : Int), .string mk, .slice ob n cb] b5 b8 b8 ob n S w2) := Lib.hid ⟨hbr1.trans (h12.mono hbr1.size), Blk.below (Blk.below HPr.out hb1 (Blk.lt HPr.out)) h12 (Blk.lt (Blk.below HPr.out hb1 (Blk.lt HPr.out))), Blk.below (Blk.below HSr.out hb1 (Blk.lt HSr.out)) h12 (Blk.lt (Blk.below HSr.out hb1 (Blk.lt HSr.out))), HNw2.out, (hsx.fresh2 (Nat.le_of_eq hqb8)).later h12⟩
      have HB8 : Hid (b8 < w2.heap.size ∧ w.heap.size ≤ b8) := Lib.hid ⟨Blk.lt HNw2.out, by have := hbr1.size; omega⟩
      have HNB := Lib.hid (show n ≤ cb ∧ cb ≤ maxLen from ⟨hnb, hcb⟩)
      obtain ⟨k, Ko, No, geno, no, mko, So, d, hsp, hsd, hno⟩ := submit_pair K N gen n cb cs ix gn ln cp mk mark ob oa od S f HIX.out (by have := HNN.out; omega) hnb hcb HNC.out.1 HNC.out.2.1 (by have := HNN.out; omega) HNC.out.2.2 (by have := HNN.out; omega)
      have HSP := Lib.hid hsp
      have HSD := Lib.hid hsd
      have HNO := Lib.hid hno
      have HRX := Lib.hid (range5 HX2.out.x)
      have HRS := Lib.hid (Blk.range0 (C := [.int .u8 (ix : Int), .int .u32 (gn : Int), .slice od ln cp]) HX2.out.s)
      clear hnb hcb hsx htb2 hb1 hbr1 h12 hsp hsd hno HR8 HPr HSr HGI
      go_wp2_with (first | (refine wpList_zero rfl rfl zpg_run ?_; rw [hwz8, hqb8]; (try simp only [Act.put, List.setIfInBounds_toArray, List.set_cons_zero, List.set_cons_succ])) | (refine wpList_store_mid rfl 36 (.tmp 8) (.tmp 62) rfl b8 0 #[.int .i64 K, .int .i64 N, .int .u32 (gen : Int), .string mk, .slice ob n cb] rfl rfl HTZb8.out info_pg (one_pg _ _ _ _ _ _ _) ?_; rw [HWw2.out]) | (refine wpList_value rfl (exec_loadM (x := .tmp 8) (cs := [.int .i64 K, .int .i64 N, .int .u32 (gen : Int), .string mk, .slice ob n cb]) rfl rfl HRX.out Tryd.underlying36 rfl info_pg) ?_) | (refine wpList_value rfl (exec_loadM (x := .tmp 5) (cs := [.int .u8 (ix : Int), .int .u32 (gn : Int), .slice od ln cp]) rfl rfl HRS.out Tryd.underlying55 rfl info_rshare3) ?_))
      refine (HSP.out w2 b8 HB8.out.1 HX2.out.r ((HSI.out.fresh HB8.out.2).later HX2.out.b)).mono ?_
      rintro e w3 ⟨oq, cq, ev, rfl, hev, hra, hb3⟩
      have HEV := Lib.hid hev
      obtain ⟨b9, hqb9⟩ : ∃ y, w3.heap.size = y := ⟨_, rfl⟩
      obtain ⟨wz9, hwz9⟩ : ∃ y, w3.alloc (.cells #[.int .i64 0, .int .i64 0, .int .u32 0, .string ⟨#[]⟩, .slice none 0 0] 36) = y := ⟨_, rfl⟩
      have hbz : Below w3.heap.size w3 wz9 := by rw [← hwz9]; exact (Below.refl _ _).alloc (Nat.le_refl _) _
      have hXz : Blk wz9 b9 #[.int .i64 0, .int .i64 0, .int .u32 0, .string ⟨#[]⟩, .slice none 0 0] 36 := by rw [← hwz9, ← hqb9]; exact Blk.new _ _ _
      have HTZb9 : Hid (wz9.there b9 0 5) := Lib.hid (hXz.there (by decide))
      obtain ⟨w4, hw5⟩ : ∃ y, wz9.setCells b9 0 [.int .i64 Ko, .int .i64 No, .int .u32 (geno : Int), .string mko, .slice oq no cq] = y := ⟨_, rfl⟩
      have hOz : Own b9 wz9 w4 := by rw [← hw5]; exact Own.setCells _ _ _
      have HBw4 : Hid (Below w3.heap.size w3 w4) := Lib.hid (hbz.trans (hOz.below (by omega) hbz.size))
      have HNw4 : Hid (Blk w4 b9 #[.int .i64 Ko, .int .i64 No, .int .u32 (geno : Int), .string mko, .slice oq no cq] 36) := Lib.hid (by rw [← hw5]; exact hXz.whole5 rfl _ _ _ _ _)
      have HWw4 := Lib.hid hw5
      clear hbz hXz hOz hw5
      have HX4 := Lib.hid ((HX2.out.later hb3).later HBw4.out)
      have HRA := Lib.hid (hra.later HBw4.out)
      have HPR4 := Lib.hid (range5 HX4.out.p)
      have HRS4 := Lib.hid (Blk.range0 (C := [.int .u8 (ix : Int), .int .u32 (gn : Int), .slice od ln cp]) HX4.out.s)
      clear hev hra hb3 HRX HRS
      go_wp2_with (first | (refine wpList_zero rfl rfl zpg_run ?_; rw [hwz9, hqb9]; (try simp only [Act.put, List.setIfInBounds_toArray, List.set_cons_zero, List.set_cons_succ])) | (refine wpList_store_mid rfl 36 (.tmp 9) (.tmp 68) rfl b9 0 #[.int .i64 Ko, .int .i64 No, .int .u32 (geno : Int), .string mko, .slice oq no cq] rfl rfl HTZb9.out info_pg (one_pg _ _ _ _ _ _ _) ?_; rw [HWw4.out]) | (refine wpList_value rfl (exec_loadM (x := .tmp 3) (cs := [.int .i64 K, .int .i64 N, .int .u32 (gen : Int), .string mk, .slice oa n cs]) rfl rfl HPR4.out Tryd.underlying54 rfl info_pgR) ?_) | (refine wpList_value rfl (exec_loadM (x := .tmp 5) (cs := [.int .u8 (ix : Int), .int .u32 (gn : Int), .slice od ln cp]) rfl rfl HRS4.out Tryd.underlying55 rfl info_rshare3) ?_))
      refine (HSD.out w4 b8 (Blk.lt HX4.out.x) ((HSS.out.fresh2 HB8.out.2).later HX4.out.b) ((HSI.out.fresh HB8.out.2).later HX4.out.b)).mono ?_
      rintro e w5 ⟨oz, cz, rfl, hrb, hb5'⟩
      obtain ⟨b12, hqb12⟩ : ∃ y, w5.heap.size = y := ⟨_, rfl⟩
      obtain ⟨wz12, hwz12⟩ : ∃ y, w5.alloc (.cells #[.int .i64 0, .int .i64 0, .int .u32 0, .string ⟨#[]⟩, .slice none 0 0] 54) = y := ⟨_, rfl⟩
      have hbz : Below w5.heap.size w5 wz12 := by rw [← hwz12]; exact (Below.refl _ _).alloc (Nat.le_refl _) _
      have hXz : Blk wz12 b12 #[.int .i64 0, .int .i64 0, .int .u32 0, .string ⟨#[]⟩, .slice none 0 0] 54 := by rw [← hwz12, ← hqb12]; exact Blk.new _ _ _
      have HTZb12 : Hid (wz12.there b12 0 5) := Lib.hid (hXz.there (by decide))
      obtain ⟨w6, hw5⟩ : ∃ y, wz12.setCells b12 0 [.int .i64 Ko, .int .i64 No, .int .u32 (geno : Int), .string mko, .slice oz no cz] = y := ⟨_, rfl⟩
      have hOz : Own b12 wz12 w6 := by rw [← hw5]; exact Own.setCells _ _ _
      have HBw6 : Hid (Below w5.heap.size w5 w6) := Lib.hid (hbz.trans (hOz.below (by omega) hbz.size))
      have HNw6 : Hid (Blk w6 b12 #[.int .i64 Ko, .int .i64 No, .int .u32 (geno : Int), .string mko, .slice oz no cz] 54) := Lib.hid (by rw [← hw5]; exact hXz.whole5 rfl _ _ _ _ _)
      have HWw6 := Lib.hid hw5
      clear hbz hXz hOz hw5
      have HX6 := Lib.hid ((HX4.out.later hb5').later HBw6.out)
      have HRA6 := Lib.hid ((HRA.out.later hb5').later HBw6.out)
      have HRB6 := Lib.hid (hrb.later HBw6.out)
      have HA6 := Lib.hid (Blk.below (Blk.below HNw4.out hb5' (Blk.lt HNw4.out)) HBw6.out (Blk.lt (Blk.below HNw4.out hb5' (Blk.lt HNw4.out))))
      clear hrb hb5' HPR4 HRS4 HRA HX4 HX2
      go_upto_region 11 with (first | (refine wpList_zero rfl rfl zpg_runR ?_; rw [hwz12, hqb12]; (try simp only [Act.put, List.setIfInBounds_toArray, List.set_cons_zero, List.set_cons_succ])) | (refine wpList_store_mid rfl 54 (.tmp 12) (.tmp 76) rfl b12 0 #[.int .i64 Ko, .int .i64 No, .int .u32 (geno : Int), .string mko, .slice oz no cz] rfl rfl HTZb12.out info_pgR (one_pg _ _ _ _ _ _ _) ?_; rw [HWw6.out]))
      have hdr := (Below.refl w6.heap.size w6).drew
      have HB66 : Hid (w6.heap.size = w6.drew.heap.size) := Lib.hid rfl
      have HXD : Hid (XS w #[.int .i64 K, .int .i64 N, .int .u32 (gen : Int), .string mk, .slice oa n cs] #[.int .u8 (ix : Int), .int .u32 (gn : Int), .slice od ln cp] #[.int .i64 K, .int .i64 N, .int .u32 (gen : Int), .string mk, .slice ob n cb] b5 b8 w6.drew.heap.size ob n S w6.drew) := Lib.hid ⟨(HX6.out.later hdr).b, (HX6.out.later hdr).p, (HX6.out.later hdr).s, (HX6.out.later hdr).x, (HX6.out.later hdr).r.fresh2 (Nat.le_refl _)⟩
      have HRAD := Lib.hid ((HRA6.out.later hdr).fresh2 (Nat.le_refl w6.drew.heap.size))
      have HRBD := Lib.hid ((HRB6.out.later hdr).fresh2 (Nat.le_refl w6.drew.heap.size))
      have HAD := Lib.hid (Blk.below HA6.out hdr (Blk.lt HA6.out))
      have HDD := Lib.hid (Blk.below HNw6.out hdr (Blk.lt HNw6.out))
      have HBT : Hid (b8 ≠ w6.drew.heap.size ∧ b9 ≠ w6.drew.heap.size ∧ b12 ≠ w6.drew.heap.size ∧ w.heap.size ≠ w6.drew.heap.size ∧ b5 ≠ w6.drew.heap.size) := Lib.hid ⟨Nat.ne_of_lt (Blk.lt HXD.out.x), Nat.ne_of_lt (Blk.lt HAD.out), Nat.ne_of_lt (Blk.lt HDD.out), Nat.ne_of_lt (Blk.lt HXD.out.p), Nat.ne_of_lt (Blk.lt HXD.out.s)⟩
      obtain ⟨k2, S2, hse, hsf⟩ := secret_pair K N gen n cb cs mk ob oa S HIX.out (by have := HNN.out; omega) HNB.out.1 HNB.out.2 HNC.out.1 (by have := HNN.out; omega)
      have HSE := Lib.hid hse
      have HSF := Lib.hid hsf
      clear hdr hse hsf HX6 HRA6 HRB6 HA6
      refine wp_region_held_drew (S := (Own w6.drew.heap.size w6.drew)) (by kernel_rfl) ?_ (fun hHeld => ?_)
      · (try dsimp only)
        (first | exact Own.refl _ _ | assumption)
      generalize w6.drew = WR at *
      refine wpAnyH_take (i := 1) (oi := { dst := some 81, op := Go.Op.load 36 (Go.Operand.tmp 8), type := 36, pos := "law.go:81", after := #[], guard := none }) (v := ?_) rfl (by kernel_rfl) (by kernel_rfl) (by kernel_rfl) (fun _ _ _ h => h) (Or.inl ⟨by rfl, ?_⟩) (by assumption) ?_
      rotate_left
      · intro wS hSw
        (refine exec_loadM (x := .tmp 8) (cs := [.int .i64 K, .int .i64 N, .int .u32 (gen : Int), .string mk, .slice ob n cb]) ?_ ?_ (range5 (hSw.blk HXD.out.x HBT.out.1)) Tryd.underlying36 rfl info_pg <;> rfl)
      (try simp only [Act.put, List.setIfInBounds_toArray, List.set_cons_zero, List.set_cons_succ])
      refine wpAnyH_ready (rs := [0]) (by kernel_rfl) (by simp) ?_
      refine AllReadyH.cons (o := { dst := some 80, op := Go.Op.call { callee := Go.Callee.value (Go.Operand.func 6), args := #[], argTypes := #[] }, type := 27, pos := "law.go:81", after := #[], guard := none }) rfl (fun K hK => ?_) AllReadyH.nil
      go_simp
      (refine (gfnew_any WR).mono ?_; rintro e VN ⟨rfl, hT, hbn⟩; have HT := Lib.hid hT; have hoVN := Own.of_below (b := WR.heap.size) hbn; have HbVN := Lib.hid hbn; clear hT hbn; skip)
      (try go_wp2_with fail)
      refine hK.out _ _ ?_ (fun hHeld => ?_)
      · (try dsimp only)
        (first | exact Own.refl _ _ | assumption)
      clear hK K
      (try simp only [Act.put, List.setIfInBounds_toArray, List.set_cons_zero, List.set_cons_succ])
      refine wpAnyH_ready (rs := [2]) (by kernel_rfl) (by simp) ?_
      refine AllReadyH.cons (o := { dst := some 82, op := Go.Op.call { callee := Go.Callee.value (Go.Operand.func 13), args := #[Go.Operand.tmp 80, Go.Operand.tmp 81], argTypes := #[27, 36] }, type := 48, pos := "law.go:81", after := #[{ on := 0, ground := Go.Ground.data }, { on := 1, ground := Go.Ground.data }, { on := 0, ground := Go.Ground.chain }], guard := none }) rfl (fun K hK => ?_) AllReadyH.nil
      go_simp
      (refine (HSE.out VN WR.heap.size HT.out (HXD.out.r.later HbVN.out)).mono ?_; rintro e VL ⟨v2, ev2, rfl, hev2, hcv2, hL⟩; have HEV2 := Lib.hid hev2; have HCV2 := Lib.hid hcv2; have hoVL := hoVN.trans hL.2; have HOL := Lib.hid hoVL; clear hL hev2 hcv2; skip)
      (try go_wp2_with fail)
      refine hK.out _ _ ?_ (fun hHeld => ?_)
      · (try dsimp only)
        (first | exact Own.refl _ _ | assumption)
      clear hK K
      (try simp only [Act.put, List.setIfInBounds_toArray, List.set_cons_zero, List.set_cons_succ])
      refine wpAnyH_take (i := 3) (oi := { dst := some 79, op := Go.Op.move (Go.Operand.tmp 82), type := 48, pos := "law.go:81", after := #[{ on := 2, ground := Go.Ground.data }], guard := none }) (v := ?_) rfl (by kernel_rfl) (by kernel_rfl) (by kernel_rfl) (fun _ _ _ h => h) (Or.inl ⟨by rfl, ?_⟩) (by assumption) ?_
      rotate_left
      · intro wS hSw
        (try dsimp only at hSw)
        go_simp
        (try with_reducible rfl)
      (try simp only [Act.put, List.setIfInBounds_toArray, List.set_cons_zero, List.set_cons_succ])
      refine wpAnyH_take (i := 4) (oi := { dst := some 83, op := Go.Op.extract (Go.Operand.tmp 79) 0, type := 34, pos := "law.go:81", after := #[{ on := 3, ground := Go.Ground.data }], guard := none }) (v := ?_) rfl (by kernel_rfl) (by kernel_rfl) (by kernel_rfl) (fun _ _ _ h => h) (Or.inl ⟨by rfl, ?_⟩) (by assumption) ?_
      rotate_left
      · intro wS hSw
        (try dsimp only at hSw)
        go_simp
        (try with_reducible rfl)
      (try simp only [Act.put, List.setIfInBounds_toArray, List.set_cons_zero, List.set_cons_succ])
      refine wpAnyH_take (i := 5) (oi := { dst := some 84, op := Go.Op.extract (Go.Operand.tmp 79) 1, type := 31, pos := "law.go:81", after := #[{ on := 3, ground := Go.Ground.data }, { on := 6, ground := Go.Ground.gcOnly Go.Departure.lateStores }], guard := none }) (v := ?_) rfl (by kernel_rfl) (by kernel_rfl) (by kernel_rfl) (fun _ _ _ h => h) (Or.inl ⟨by rfl, ?_⟩) (by assumption) ?_
      rotate_left
      · intro wS hSw
        (try dsimp only at hSw)
        go_simp
        (try with_reducible rfl)
      (try simp only [Act.put, List.setIfInBounds_toArray, List.set_cons_zero, List.set_cons_succ])
      refine wpAnyH_take (i := 6) (oi := { dst := some 15, op := Go.Op.assign (Go.Operand.tmp 83), type := 34, pos := "law.go:81", after := #[{ on := 4, ground := Go.Ground.data }, { on := 2, ground := Go.Ground.chain }, { on := 0, ground := Go.Ground.phase }, { on := 1, ground := Go.Ground.phase }, { on := 2, ground := Go.Ground.phase }, { on := 3, ground := Go.Ground.phase }, { on := 4, ground := Go.Ground.phase }, { on := 5, ground := Go.Ground.textOnly Go.Departure.lateStores }], guard := none }) (v := ?_) rfl (by kernel_rfl) (by kernel_rfl) (by kernel_rfl) (fun _ _ _ h => h) (Or.inl ⟨by rfl, ?_⟩) (by assumption) ?_
      rotate_left
      · intro wS hSw
        (try dsimp only at hSw)
        go_simp
        (try with_reducible rfl)
      (try simp only [Act.put, List.setIfInBounds_toArray, List.set_cons_zero, List.set_cons_succ])
      refine wpAnyH_take (i := 7) (oi := { dst := some 16, op := Go.Op.assign (Go.Operand.tmp 84), type := 31, pos := "law.go:81", after := #[{ on := 5, ground := Go.Ground.data }, { on := 6, ground := Go.Ground.chain }, { on := 0, ground := Go.Ground.phase }, { on := 1, ground := Go.Ground.phase }, { on := 2, ground := Go.Ground.phase }, { on := 3, ground := Go.Ground.phase }, { on := 4, ground := Go.Ground.phase }, { on := 5, ground := Go.Ground.phase }, { on := 6, ground := Go.Ground.phase }], guard := none }) (v := ?_) rfl (by kernel_rfl) (by kernel_rfl) (by kernel_rfl) (fun _ _ _ h => h) (Or.inl ⟨by rfl, ?_⟩) (by assumption) ?_
      rotate_left
      · intro wS hSw
        (try dsimp only at hSw)
        go_simp
        (try with_reducible rfl)
      (try simp only [Act.put, List.setIfInBounds_toArray, List.set_cons_zero, List.set_cons_succ])
      refine wpAnyH_done (by kernel_rfl) ?_ _
      have hbl := HXD.out.b.trans (HOL.out.below HXD.out.b.size HXD.out.b.size)
      have HXL : Hid (XS w #[.int .i64 K, .int .i64 N, .int .u32 (gen : Int), .string mk, .slice oa n cs] #[.int .u8 (ix : Int), .int .u32 (gn : Int), .slice od ln cp] #[.int .i64 K, .int .i64 N, .int .u32 (gen : Int), .string mk, .slice ob n cb] b5 b8 WR.heap.size ob n S VL) := Lib.hid ⟨hbl, HOL.out.blk HXD.out.p HBT.out.2.2.2.1, HOL.out.blk HXD.out.s HBT.out.2.2.2.2, HOL.out.blk HXD.out.x HBT.out.1, HXD.out.r.own HOL.out⟩
      have HRAL := Lib.hid (HRAD.out.own HOL.out)
      have HRBL := Lib.hid (HRBD.out.own HOL.out)
      have HAL := Lib.hid (HOL.out.blk HAD.out HBT.out.2.1)
      have HDL := Lib.hid (HOL.out.blk HDD.out HBT.out.2.2.1)
      have HPL := Lib.hid (range5 HXL.out.p)
      clear hbl hoVN hoVL
      go_wp2_with (first | (refine wpList_value rfl (exec_loadM (x := .tmp 3) (cs := [.int .i64 K, .int .i64 N, .int .u32 (gen : Int), .string mk, .slice oa n cs]) rfl rfl HPL.out Tryd.underlying54 rfl info_pgR) ?_))
      refine (HSF.out VL WR.heap.size ((HSS.out.fresh2 HXD.out.b.size).later HXL.out.b)).mono ?_
      rintro e w8 ⟨v3, rfl, hcv3, hb⟩
      have HX8 := Lib.hid (HXL.out.later hb)
      have HRA8 := Lib.hid (HRAL.out.later hb)
      have HRB8 := Lib.hid (HRBL.out.later hb)
      have HA8 := Lib.hid (Blk.below HAL.out hb (Blk.lt HAL.out))
      have HD8 := Lib.hid (Blk.below HDL.out hb (Blk.lt HDL.out))
      have HCV28 := Lib.hid (HCV2.out.later hb)
      have HCV38 := Lib.hid hcv3
      have HP8 := Lib.hid (pg_plan HX8.out.x)
      clear hcv3 hb HXL HRAL HRBL HAL HDL HPL HCV2
      by_cases hmay : MayG K N gen (fun _ => default) 0 mark.size
      · skip
        have HMAY := Lib.hid hmay
        have HST : Hid (∀ A, Calls Tryd.prog 8 #[.agg #[.int .i64 K, .int .i64 N, .int .u32 (gen : Int)], .string mark] A fun e w' => e = .returned (.tuple #[.agg #[.int .i64 K, .int .i64 N, .int .u32 (gen : Int), .string mark, .slice none 0 0], .nilIface]) ∧ Below A.heap.size A w') := Lib.hid fun A => by
          refine (start_any K N gen mark A (by have := HNN.out; omega)).mono ?_
          rintro e w' ⟨(⟨he, hm⟩ | ⟨he, hm⟩), hb⟩
          · exact ⟨he, hb⟩
          · exact absurd HMAY.out (hm _)
        have HMQ : Hid (∀ A, Calls Tryd.prog 17 #[.agg #[.int .i64 K, .int .i64 N, .int .u32 (gen : Int), .string mark, .slice none 0 0]] A fun e w' => e = .returned (.bool true) ∧ Below A.heap.size A w') := Lib.hid fun A => by
          refine (rmay_pg 0 K N gen 0 0 mark none (fun _ => default) A (fun i hi => absurd hi (Nat.not_lt_zero _)) (fun i hi => absurd hi (Nat.not_lt_zero _)) (by decide) (Nat.le_refl _) (by have := HNN.out; omega)).mono ?_
          rintro e w' ⟨(⟨he, hm⟩ | ⟨he, hm⟩), hb⟩
          · exact ⟨he, hb⟩
          · exact absurd HMAY.out hm
        clear hmay
        go_wp2_with (first | (refine wpList_value rfl (exec_loadM (x := .tmp 91) (cs := [.int .i64 K, .int .i64 N, .int .u32 (gen : Int)]) rfl rfl HP8.out Tryd.underlying26 rfl info_plan3) ?_))
        refine (HST.out w8).mono ?_
        rintro e w9 ⟨rfl, hb⟩
        obtain ⟨b19, hqb19⟩ : ∃ y, w9.heap.size = y := ⟨_, rfl⟩
        obtain ⟨wz19, hwz19⟩ : ∃ y, w9.alloc (.cells #[.int .i64 0, .int .i64 0, .int .u32 0, .string ⟨#[]⟩, .slice none 0 0] 36) = y := ⟨_, rfl⟩
        have hbz : Below w9.heap.size w9 wz19 := by rw [← hwz19]; exact (Below.refl _ _).alloc (Nat.le_refl _) _
        have hXz : Blk wz19 b19 #[.int .i64 0, .int .i64 0, .int .u32 0, .string ⟨#[]⟩, .slice none 0 0] 36 := by rw [← hwz19, ← hqb19]; exact Blk.new _ _ _
        have HTZb19 : Hid (wz19.there b19 0 5) := Lib.hid (hXz.there (by decide))
        obtain ⟨w10, hw5⟩ : ∃ y, wz19.setCells b19 0 [.int .i64 K, .int .i64 N, .int .u32 (gen : Int), .string mark, .slice none 0 0] = y := ⟨_, rfl⟩
        have hOz : Own b19 wz19 w10 := by rw [← hw5]; exact Own.setCells _ _ _
        have HBw10 : Hid (Below w9.heap.size w9 w10) := Lib.hid (hbz.trans (hOz.below (by omega) hbz.size))
        have HNw10 : Hid (Blk w10 b19 #[.int .i64 K, .int .i64 N, .int .u32 (gen : Int), .string mark, .slice none 0 0] 36) := Lib.hid (by rw [← hw5]; exact hXz.whole5 rfl _ _ _ _ _)
        have HWw10 := Lib.hid hw5
        clear hbz hXz hOz hw5
        have HX10 := Lib.hid ((HX8.out.later hb).later HBw10.out)
        have HRA10 := Lib.hid ((HRA8.out.later hb).later HBw10.out)
        have HRB10 := Lib.hid ((HRB8.out.later hb).later HBw10.out)
        have HA10 := Lib.hid (Blk.below (Blk.below HA8.out hb (Blk.lt HA8.out)) HBw10.out (Blk.lt (Blk.below HA8.out hb (Blk.lt HA8.out))))
        have HD10 := Lib.hid (Blk.below (Blk.below HD8.out hb (Blk.lt HD8.out)) HBw10.out (Blk.lt (Blk.below HD8.out hb (Blk.lt HD8.out))))
        have HC2 := Lib.hid ((HCV28.out.later hb).later HBw10.out)
        have HC3 := Lib.hid ((HCV38.out.later hb).later HBw10.out)
        have HP10 := Lib.hid (pg_plan HX10.out.p)
        clear hb HX8 HRA8 HRB8 HA8 HD8 HCV28 HCV38 HP8
        go_wp2_with (first | (refine wpList_zero rfl rfl zpg_run ?_; rw [hwz19, hqb19]; (try simp only [Act.put, List.setIfInBounds_toArray, List.set_cons_zero, List.set_cons_succ])) | (refine wpList_store_mid rfl 36 (.tmp 19) (.tmp 95) rfl b19 0 #[.int .i64 K, .int .i64 N, .int .u32 (gen : Int), .string mark, .slice none 0 0] rfl rfl HTZb19.out info_pg (one_pg _ _ _ _ _ _ _) ?_; rw [HWw10.out]) | (refine wpList_value rfl (exec_loadM (x := .tmp 97) (cs := [.int .i64 K, .int .i64 N, .int .u32 (gen : Int)]) rfl rfl HP10.out Tryd.underlying51 rfl info_rplan3) ?_) | (refine wpList_value rfl (exec_buildM (parts := #[(0, .tmp 98), (1, .tmp 99)]) (ps := #[(0, .agg #[.int .i64 K, .int .i64 N, .int .u32 (gen : Int)]), (1, .string mark)]) rfl rfl (build_pgR K N gen mark)) ?_))
        refine (HMQ.out w10).mono ?_
        rintro e w11 ⟨rfl, hb⟩
        have HX11 := Lib.hid (HX10.out.later hb)
        have HRA11 := Lib.hid (HRA10.out.later hb)
        have HRB11 := Lib.hid (HRB10.out.later hb)
        have HA11 := Lib.hid (Blk.below HA10.out hb (Blk.lt HA10.out))
        have HD11 := Lib.hid (Blk.below HD10.out hb (Blk.lt HD10.out))
        have HS11 := Lib.hid (Blk.below HNw10.out hb (Blk.lt HNw10.out))
        have HC21 := Lib.hid (HC2.out.later hb)
        have HC31 := Lib.hid (HC3.out.later hb)
        have HRX11 := Lib.hid (range5 HX11.out.x)
        clear hb HX10 HRA10 HRB10 HA10 HD10 HC2 HC3 HP10
        go_wp2_with (first | (refine wpList_value rfl (exec_loadM (x := .tmp 8) (cs := [.int .i64 K, .int .i64 N, .int .u32 (gen : Int), .string mk, .slice ob n cb]) rfl rfl HRX11.out Tryd.underlying36 rfl info_pg) ?_))
        refine (reset_any K N gen n cb mk ob w11).mono ?_
        rintro e w12 ⟨rfl, hb⟩
        obtain ⟨b22, hqb22⟩ : ∃ y, w12.heap.size = y := ⟨_, rfl⟩
        obtain ⟨wz22, hwz22⟩ : ∃ y, w12.alloc (.cells #[.int .i64 0, .int .i64 0, .int .u32 0, .string ⟨#[]⟩, .slice none 0 0] 36) = y := ⟨_, rfl⟩
        have hbz : Below w12.heap.size w12 wz22 := by rw [← hwz22]; exact (Below.refl _ _).alloc (Nat.le_refl _) _
        have hXz : Blk wz22 b22 #[.int .i64 0, .int .i64 0, .int .u32 0, .string ⟨#[]⟩, .slice none 0 0] 36 := by rw [← hwz22, ← hqb22]; exact Blk.new _ _ _
        have HTZb22 : Hid (wz22.there b22 0 5) := Lib.hid (hXz.there (by decide))
        obtain ⟨w13, hw5⟩ : ∃ y, wz22.setCells b22 0 [.int .i64 K, .int .i64 N, .int .u32 (gen : Int), .string mk, .slice none 0 0] = y := ⟨_, rfl⟩
        have hOz : Own b22 wz22 w13 := by rw [← hw5]; exact Own.setCells _ _ _
        have HBw13 : Hid (Below w12.heap.size w12 w13) := Lib.hid (hbz.trans (hOz.below (by omega) hbz.size))
        have HNw13 : Hid (Blk w13 b22 #[.int .i64 K, .int .i64 N, .int .u32 (gen : Int), .string mk, .slice none 0 0] 36) := Lib.hid (by rw [← hw5]; exact hXz.whole5 rfl _ _ _ _ _)
        have HWw13 := Lib.hid hw5
        clear hbz hXz hOz hw5
        have HX13 := Lib.hid ((HX11.out.later hb).later HBw13.out)
        have HRA13 := Lib.hid ((HRA11.out.later hb).later HBw13.out)
        have HRB13 := Lib.hid ((HRB11.out.later hb).later HBw13.out)
        have HA13 := Lib.hid (Blk.below (Blk.below HA11.out hb (Blk.lt HA11.out)) HBw13.out (Blk.lt (Blk.below HA11.out hb (Blk.lt HA11.out))))
        have HD13 := Lib.hid (Blk.below (Blk.below HD11.out hb (Blk.lt HD11.out)) HBw13.out (Blk.lt (Blk.below HD11.out hb (Blk.lt HD11.out))))
        have HS13 := Lib.hid (Blk.below (Blk.below HS11.out hb (Blk.lt HS11.out)) HBw13.out (Blk.lt (Blk.below HS11.out hb (Blk.lt HS11.out))))
        have HC23 := Lib.hid ((HC21.out.later hb).later HBw13.out)
        have HC33 := Lib.hid ((HC31.out.later hb).later HBw13.out)
        clear hb HX11 HRA11 HRB11 HA11 HD11 HS11 HC21 HC31 HRX11
        go_upto_region 16 with (first | (refine wpList_zero rfl rfl zpg_run ?_; rw [hwz22, hqb22]; (try simp only [Act.put, List.setIfInBounds_toArray, List.set_cons_zero, List.set_cons_succ])) | (refine wpList_store_mid rfl 36 (.tmp 22) (.tmp 103) rfl b22 0 #[.int .i64 K, .int .i64 N, .int .u32 (gen : Int), .string mk, .slice none 0 0] rfl rfl HTZb22.out info_pg (one_pg _ _ _ _ _ _ _) ?_; rw [HWw13.out]))
        have hdt := (Below.refl w13.heap.size w13).drew
        have HXT := Lib.hid (HX13.out.later hdt)
        have HRAT := Lib.hid (HRA13.out.later hdt)
        have HRBT := Lib.hid (HRB13.out.later hdt)
        have HAT := Lib.hid (Blk.below HA13.out hdt (Blk.lt HA13.out))
        have HDT := Lib.hid (Blk.below HD13.out hdt (Blk.lt HD13.out))
        have HST9 := Lib.hid (Blk.below HS13.out hdt (Blk.lt HS13.out))
        have HNT := Lib.hid (Blk.below HNw13.out hdt (Blk.lt HNw13.out))
        have HC2T := Lib.hid (HC23.out.later hdt)
        have HC3T := Lib.hid (HC33.out.later hdt)
        have HBX := Lib.hid HXD.out.b.size
        clear hdt HX13 HRA13 HRB13 HA13 HD13 HS13 HC23 HC33
        by_cases hmg : MayG K N gen S n mk.size
        · skip
          have HCK : Hid (∀ A, Below w13.drew.heap.size w13.drew A → Calls Tryd.prog 19 #[.agg #[.int .i64 K, .int .i64 N, .int .u32 (gen : Int), .string mk, .slice ob n cb]] A fun e w' => e = .returned (.nilIface) ∧ Below A.heap.size A w') := Lib.hid fun A hA => by
            refine (check_pg WR.heap.size K N gen n cb mk ob S A (HXT.out.later hA).r HIX.out (by have := HNN.out; omega) HNB.out.1 (by have := HNN.out; omega)).mono ?_
            rintro e w' ⟨(⟨he, hm⟩ | ⟨he, hm⟩), hb⟩
            · exact ⟨he, hb⟩
            · exact absurd hmg hm
          have HMY : Hid (∀ A, Below w13.drew.heap.size w13.drew A → Calls Tryd.prog 17 #[.agg #[.int .i64 K, .int .i64 N, .int .u32 (gen : Int), .string mk, .slice oa n cs]] A fun e w' => e = .returned (.bool true) ∧ Below A.heap.size A w') := Lib.hid fun A hA => by
            refine (rmay_pg w.heap.size K N gen n cs mk oa S A (HSS.out.later (HXT.out.later hA).b) HIX.out (by have := HNN.out; omega) HNC.out.1 (by have := HNN.out; omega)).mono ?_
            rintro e w' ⟨(⟨he, hm⟩ | ⟨he, hm⟩), hb⟩
            · exact ⟨he, hb⟩
            · exact absurd hmg hm
          have HIP : Hid (∀ A, Below w13.drew.heap.size w13.drew A → Calls Tryd.prog 18 #[.agg #[.int .i64 K, .int .i64 N, .int .u32 (gen : Int), .string mk, .slice ob n cb], .agg #[.int .i64 K, .int .i64 N, .int .u32 (gen : Int), .string mk, .slice oa n cs]] A fun e w' => e = .returned (.bool true) ∧ Below A.heap.size A w') := Lib.hid fun A hA => isprog_any WR.heap.size K N gen n cb cs mk ob oa S A (HXT.out.later hA).r ((HSS.out.fresh2 HBX.out).later (HXT.out.later hA).b) (by have := HNN.out; omega)
          clear hmg
          refine wp_region_held_drew (S := (Below w13.drew.heap.size w13.drew)) (by kernel_rfl) ?_ (fun hHeld => ?_)
          · (try dsimp only)
            (first | exact Below.refl _ _ | assumption)
          generalize w13.drew = WT at *
          refine wpAnyH_take (i := 0) (oi := { dst := some 104, op := Go.Op.load 36 (Go.Operand.tmp 9), type := 36, pos := "law.go:86", after := #[], guard := none }) (v := ?_) rfl (by kernel_rfl) (by kernel_rfl) (by kernel_rfl) (fun _ _ _ h => h) (Or.inl ⟨by rfl, ?_⟩) (by assumption) ?_
          rotate_left
          · intro wS hSw
            (refine exec_loadM (x := .tmp 9) (cs := [.int .i64 Ko, .int .i64 No, .int .u32 (geno : Int), .string mko, .slice oq no cq]) ?_ ?_ (range5 (Blk.below HAT.out hSw (Blk.lt HAT.out))) Tryd.underlying36 rfl info_pg <;> rfl)
          (try simp only [Act.put, List.setIfInBounds_toArray, List.set_cons_zero, List.set_cons_succ])
          refine wpAnyH_take (i := 1) (oi := { dst := some 105, op := Go.Op.load 54 (Go.Operand.tmp 12), type := 54, pos := "law.go:86", after := #[], guard := none }) (v := ?_) rfl (by kernel_rfl) (by kernel_rfl) (by kernel_rfl) (fun _ _ _ h => h) (Or.inl ⟨by rfl, ?_⟩) (by assumption) ?_
          rotate_left
          · intro wS hSw
            (refine exec_loadM (x := .tmp 12) (cs := [.int .i64 Ko, .int .i64 No, .int .u32 (geno : Int), .string mko, .slice oz no cz]) ?_ ?_ (range5 (Blk.below HDT.out hSw (Blk.lt HDT.out))) Tryd.underlying54 rfl info_pgR <;> rfl)
          (try simp only [Act.put, List.setIfInBounds_toArray, List.set_cons_zero, List.set_cons_succ])
          refine wpAnyH_ready (rs := [2]) (by kernel_rfl) (by simp) ?_
          refine AllReadyH.cons (o := { dst := some 106, op := Go.Op.call { callee := Go.Callee.value (Go.Operand.func 18), args := #[Go.Operand.tmp 104, Go.Operand.tmp 105], argTypes := #[36, 54] }, type := 4, pos := "law.go:86", after := #[{ on := 0, ground := Go.Ground.data }, { on := 1, ground := Go.Ground.data }], guard := none }) rfl (fun K hK => ?_) AllReadyH.nil
          go_simp
          (refine (isprog_any _ Ko No geno no cq cz mko oq oz So WT HRAT.out HRBT.out HNO.out).mono ?_; rintro e V2 ⟨rfl, hv⟩; have HV := Lib.hid hv; clear hv; skip)
          (try go_wp2_with fail)
          refine hK.out _ _ ?_ (fun hHeld => ?_)
          · (try dsimp only)
            (first | exact Below.refl _ _ | assumption)
          clear hK K
          (try simp only [Act.put, List.setIfInBounds_toArray, List.set_cons_zero, List.set_cons_succ])
          refine wpAnyH_take (i := 3) (oi := { dst := some 107, op := Go.Op.unOp Go.UnOp.not 4 (Go.Operand.tmp 106), type := 4, pos := "law.go:86", after := #[{ on := 2, ground := Go.Ground.data }], guard := none }) (v := ?_) rfl (by kernel_rfl) (by kernel_rfl) (by kernel_rfl) (fun _ _ _ h => h) (Or.inl ⟨by rfl, ?_⟩) (by assumption) ?_
          rotate_left
          · intro wS hSw
            (try dsimp only at hSw)
            go_simp
            (try with_reducible rfl)
          (try simp only [Act.put, List.setIfInBounds_toArray, List.set_cons_zero, List.set_cons_succ])
          refine wpAnyH_take (i := 4) (oi := { dst := some 108, op := Go.Op.move (Go.Operand.tmp 107), type := 4, pos := "law.go:86", after := #[{ on := 3, ground := Go.Ground.data }, { on := 2, ground := Go.Ground.chain }], guard := none }) (v := ?_) rfl (by kernel_rfl) (by kernel_rfl) (by kernel_rfl) (fun _ _ _ h => h) (Or.inl ⟨by rfl, ?_⟩) (by assumption) ?_
          rotate_left
          · intro wS hSw
            (try dsimp only at hSw)
            go_simp
            (try with_reducible rfl)
          (try simp only [Act.put, List.setIfInBounds_toArray, List.set_cons_zero, List.set_cons_succ])
          refine wpAnyH_take (i := 5) (oi := { dst := some 109, op := Go.Op.move (Go.Operand.tmp 10), type := 4, pos := "law.go:86", after := #[{ on := 4, ground := Go.Ground.guard }], guard := some (4, false) }) (v := ?_) rfl (by kernel_rfl) (by kernel_rfl) (by kernel_rfl) (fun _ _ _ h => h) (Or.inl ⟨by rfl, ?_⟩) (by assumption) ?_
          rotate_left
          · intro wS hSw
            (try dsimp only at hSw)
            go_simp
            (try with_reducible rfl)
          (try simp only [Act.put, List.setIfInBounds_toArray, List.set_cons_zero, List.set_cons_succ])
          refine wpAnyH_take (i := 6) (oi := { dst := some 110, op := Go.Op.move (Go.Operand.tmp 13), type := 4, pos := "law.go:86", after := #[{ on := 4, ground := Go.Ground.guard }], guard := some (4, false) }) (v := ?_) rfl (by kernel_rfl) (by kernel_rfl) (by kernel_rfl) (fun _ _ _ h => h) (Or.inl ⟨by rfl, ?_⟩) (by assumption) ?_
          rotate_left
          · intro wS hSw
            (try dsimp only at hSw)
            go_simp
            (try with_reducible rfl)
          (try simp only [Act.put, List.setIfInBounds_toArray, List.set_cons_zero, List.set_cons_succ])
          refine wpAnyH_take (i := 7) (oi := { dst := some 111, op := Go.Op.binOp Go.BinOp.neq 4 (Go.Operand.tmp 109) (Go.Operand.tmp 110) 4, type := 4, pos := "law.go:86", after := #[{ on := 5, ground := Go.Ground.data }, { on := 6, ground := Go.Ground.data }, { on := 4, ground := Go.Ground.guard }], guard := some (4, false) }) (v := ?_) rfl (by kernel_rfl) (by kernel_rfl) (by kernel_rfl) (fun _ _ _ h => h) (Or.inl ⟨by rfl, ?_⟩) (by assumption) ?_
          rotate_left
          · intro wS hSw
            (try dsimp only at hSw)
            go_simp
            (try with_reducible rfl)
          (try simp only [Act.put, List.setIfInBounds_toArray, List.set_cons_zero, List.set_cons_succ])
          refine wpAnyH_take (i := 8) (oi := { dst := some 112, op := Go.Op.pick (Go.Operand.tmp 108) (Go.Operand.const (Go.Value.bool true)) (Go.Operand.tmp 111), type := 4, pos := "law.go:86", after := #[{ on := 4, ground := Go.Ground.data }, { on := 7, ground := Go.Ground.data }], guard := none }) (v := ?_) rfl (by kernel_rfl) (by kernel_rfl) (by kernel_rfl) (fun _ _ _ h => h) (Or.inl ⟨by rfl, ?_⟩) (by assumption) ?_
          rotate_left
          · intro wS hSw
            (try dsimp only at hSw)
            go_simp
            (try with_reducible rfl)
          (try simp only [Act.put, List.setIfInBounds_toArray, List.set_cons_zero, List.set_cons_succ])
          refine wpAnyH_take (i := 9) (oi := { dst := some 113, op := Go.Op.move (Go.Operand.tmp 112), type := 4, pos := "law.go:86", after := #[{ on := 8, ground := Go.Ground.data }, { on := 4, ground := Go.Ground.chain }], guard := none }) (v := ?_) rfl (by kernel_rfl) (by kernel_rfl) (by kernel_rfl) (fun _ _ _ h => h) (Or.inl ⟨by rfl, ?_⟩) (by assumption) ?_
          rotate_left
          · intro wS hSw
            (try dsimp only at hSw)
            go_simp
            (try with_reducible rfl)
          (try simp only [Act.put, List.setIfInBounds_toArray, List.set_cons_zero, List.set_cons_succ])
          refine wpAnyH_take (i := 10) (oi := { dst := some 114, op := Go.Op.move (Go.Operand.tmp 11), type := 31, pos := "law.go:86", after := #[{ on := 9, ground := Go.Ground.guard }], guard := some (9, false) }) (v := ?_) rfl (by kernel_rfl) (by kernel_rfl) (by kernel_rfl) (fun _ _ _ h => h) (Or.inl ⟨by rfl, ?_⟩) (by assumption) ?_
          rotate_left
          · intro wS hSw
            (try dsimp only at hSw)
            go_simp
            (try with_reducible rfl)
          (try simp only [Act.put, List.setIfInBounds_toArray, List.set_cons_zero, List.set_cons_succ])
          refine wpAnyH_take (i := 12) (oi := { dst := some 116, op := Go.Op.move (Go.Operand.tmp 14), type := 3, pos := "law.go:86", after := #[{ on := 9, ground := Go.Ground.guard }], guard := some (9, false) }) (v := ?_) rfl (by kernel_rfl) (by kernel_rfl) (by kernel_rfl) (fun _ _ _ h => h) (Or.inl ⟨by rfl, ?_⟩) (by assumption) ?_
          rotate_left
          · intro wS hSw
            (try dsimp only at hSw)
            go_simp
            (try with_reducible rfl)
          (try simp only [Act.put, List.setIfInBounds_toArray, List.set_cons_zero, List.set_cons_succ])
          refine wpAnyH_ready (rs := [11]) (by kernel_rfl) (by simp) ?_
          refine AllReadyH.cons (o := { dst := some 115, op := Go.Op.call { callee := Go.Callee.value (Go.Operand.func 11), args := #[Go.Operand.tmp 114], argTypes := #[31] }, type := 3, pos := "law.go:86", after := #[{ on := 10, ground := Go.Ground.data }, { on := 9, ground := Go.Ground.chain }, { on := 9, ground := Go.Ground.guard }], guard := some (9, false) }) rfl (fun K hK => ?_) AllReadyH.nil
          go_simp
          (refine (num_ev HEV.out V2 (HG.out V2 (HXT.out.later HV.out).b)).mono ?_; rintro e V11 ⟨rfl, hv⟩; have HV := Lib.hid (HV.out.trans (hv.mono HV.out.size)); clear hv; skip)
          (try go_wp2_with fail)
          refine hK.out _ _ ?_ (fun hHeld => ?_)
          · (try dsimp only)
            (first | exact Below.refl _ _ | assumption)
          clear hK K
          (try simp only [Act.put, List.setIfInBounds_toArray, List.set_cons_zero, List.set_cons_succ])
          refine wpAnyH_take (i := 13) (oi := { dst := some 117, op := Go.Op.binOp Go.BinOp.neq 3 (Go.Operand.tmp 115) (Go.Operand.tmp 116) 3, type := 4, pos := "law.go:86", after := #[{ on := 11, ground := Go.Ground.data }, { on := 12, ground := Go.Ground.data }, { on := 9, ground := Go.Ground.guard }], guard := some (9, false) }) (v := ?_) rfl (by kernel_rfl) (by kernel_rfl) (by kernel_rfl) (fun _ _ _ h => h) (Or.inl ⟨by rfl, ?_⟩) (by assumption) ?_
          rotate_left
          · intro wS hSw
            (try dsimp only at hSw)
            go_simp
            (try with_reducible rfl)
          (try simp only [Act.put, List.setIfInBounds_toArray, List.set_cons_zero, List.set_cons_succ])
          refine wpAnyH_take (i := 14) (oi := { dst := some 118, op := Go.Op.pick (Go.Operand.tmp 113) (Go.Operand.const (Go.Value.bool true)) (Go.Operand.tmp 117), type := 4, pos := "law.go:86", after := #[{ on := 9, ground := Go.Ground.data }, { on := 13, ground := Go.Ground.data }], guard := none }) (v := ?_) rfl (by kernel_rfl) (by kernel_rfl) (by kernel_rfl) (fun _ _ _ h => h) (Or.inl ⟨by rfl, ?_⟩) (by assumption) ?_
          rotate_left
          · intro wS hSw
            (try dsimp only at hSw)
            go_simp
            (try with_reducible rfl)
          (try simp only [Act.put, List.setIfInBounds_toArray, List.set_cons_zero, List.set_cons_succ])
          refine wpAnyH_take (i := 15) (oi := { dst := some 119, op := Go.Op.move (Go.Operand.tmp 118), type := 4, pos := "law.go:86", after := #[{ on := 14, ground := Go.Ground.data }, { on := 11, ground := Go.Ground.chain }], guard := none }) (v := ?_) rfl (by kernel_rfl) (by kernel_rfl) (by kernel_rfl) (fun _ _ _ h => h) (Or.inl ⟨by rfl, ?_⟩) (by assumption) ?_
          rotate_left
          · intro wS hSw
            (try dsimp only at hSw)
            go_simp
            (try with_reducible rfl)
          (try simp only [Act.put, List.setIfInBounds_toArray, List.set_cons_zero, List.set_cons_succ])
          refine wpAnyH_take (i := 16) (oi := { dst := some 120, op := Go.Op.move (Go.Operand.tmp 15), type := 34, pos := "law.go:86", after := #[{ on := 15, ground := Go.Ground.guard }], guard := some (15, false) }) (v := ?_) rfl (by kernel_rfl) (by kernel_rfl) (by kernel_rfl) (fun _ _ _ h => h) (Or.inl ⟨by rfl, ?_⟩) (by assumption) ?_
          rotate_left
          · intro wS hSw
            (try dsimp only at hSw)
            go_simp
            (try with_reducible rfl)
          (try simp only [Act.put, List.setIfInBounds_toArray, List.set_cons_zero, List.set_cons_succ])
          refine wpAnyH_take (i := 17) (oi := { dst := some 121, op := Go.Op.convert 34 9 (Go.Operand.tmp 120), type := 9, pos := "law.go:86", after := #[{ on := 16, ground := Go.Ground.data }, { on := 15, ground := Go.Ground.guard }], guard := some (15, false) }) (v := ?_) rfl (by kernel_rfl) (by kernel_rfl) (by kernel_rfl) (fun _ _ _ h => h) (Or.inl ⟨by rfl, ?_⟩) (by assumption) ?_
          rotate_left
          · intro wS hSw
            (have cvq := (HC2T.out.later hSw).conv; go_simp; (try with_reducible rfl))
          (try simp only [Act.put, List.setIfInBounds_toArray, List.set_cons_zero, List.set_cons_succ])
          refine wpAnyH_take (i := 18) (oi := { dst := some 122, op := Go.Op.move (Go.Operand.tmp 17), type := 34, pos := "law.go:86", after := #[{ on := 15, ground := Go.Ground.guard }], guard := some (15, false) }) (v := ?_) rfl (by kernel_rfl) (by kernel_rfl) (by kernel_rfl) (fun _ _ _ h => h) (Or.inl ⟨by rfl, ?_⟩) (by assumption) ?_
          rotate_left
          · intro wS hSw
            (try dsimp only at hSw)
            go_simp
            (try with_reducible rfl)
          (try simp only [Act.put, List.setIfInBounds_toArray, List.set_cons_zero, List.set_cons_succ])
          refine wpAnyH_take (i := 19) (oi := { dst := some 123, op := Go.Op.convert 34 9 (Go.Operand.tmp 122), type := 9, pos := "law.go:86", after := #[{ on := 18, ground := Go.Ground.data }, { on := 15, ground := Go.Ground.guard }], guard := some (15, false) }) (v := ?_) rfl (by kernel_rfl) (by kernel_rfl) (by kernel_rfl) (fun _ _ _ h => h) (Or.inl ⟨by rfl, ?_⟩) (by assumption) ?_
          rotate_left
          · intro wS hSw
            (have cvq := (HC3T.out.later hSw).conv; go_simp; (try with_reducible rfl))
          (try simp only [Act.put, List.setIfInBounds_toArray, List.set_cons_zero, List.set_cons_succ])
          refine wpAnyH_take (i := 20) (oi := { dst := some 124, op := Go.Op.binOp Go.BinOp.neq 9 (Go.Operand.tmp 121) (Go.Operand.tmp 123) 9, type := 4, pos := "law.go:86", after := #[{ on := 17, ground := Go.Ground.data }, { on := 19, ground := Go.Ground.data }, { on := 15, ground := Go.Ground.guard }], guard := some (15, false) }) (v := ?_) rfl (by kernel_rfl) (by kernel_rfl) (by kernel_rfl) (fun _ _ _ h => h) (Or.inl ⟨by rfl, ?_⟩) (by assumption) ?_
          rotate_left
          · intro wS hSw
            (try dsimp only at hSw)
            go_simp
            (try with_reducible rfl)
          (try simp only [Act.put, List.setIfInBounds_toArray, List.set_cons_zero, List.set_cons_succ])
          refine wpAnyH_take (i := 21) (oi := { dst := some 125, op := Go.Op.pick (Go.Operand.tmp 119) (Go.Operand.const (Go.Value.bool true)) (Go.Operand.tmp 124), type := 4, pos := "law.go:86", after := #[{ on := 15, ground := Go.Ground.data }, { on := 20, ground := Go.Ground.data }], guard := none }) (v := ?_) rfl (by kernel_rfl) (by kernel_rfl) (by kernel_rfl) (fun _ _ _ h => h) (Or.inl ⟨by rfl, ?_⟩) (by assumption) ?_
          rotate_left
          · intro wS hSw
            (try dsimp only at hSw)
            go_simp
            (try with_reducible rfl)
          (try simp only [Act.put, List.setIfInBounds_toArray, List.set_cons_zero, List.set_cons_succ])
          refine wpAnyH_take (i := 22) (oi := { dst := some 126, op := Go.Op.move (Go.Operand.tmp 125), type := 4, pos := "law.go:86", after := #[{ on := 21, ground := Go.Ground.data }, { on := 15, ground := Go.Ground.chain }], guard := none }) (v := ?_) rfl (by kernel_rfl) (by kernel_rfl) (by kernel_rfl) (fun _ _ _ h => h) (Or.inl ⟨by rfl, ?_⟩) (by assumption) ?_
          rotate_left
          · intro wS hSw
            (try dsimp only at hSw)
            go_simp
            (try with_reducible rfl)
          (try simp only [Act.put, List.setIfInBounds_toArray, List.set_cons_zero, List.set_cons_succ])
          refine wpAnyH_take (i := 23) (oi := { dst := some 127, op := Go.Op.move (Go.Operand.tmp 16), type := 31, pos := "law.go:86", after := #[{ on := 22, ground := Go.Ground.guard }], guard := some (22, false) }) (v := ?_) rfl (by kernel_rfl) (by kernel_rfl) (by kernel_rfl) (fun _ _ _ h => h) (Or.inl ⟨by rfl, ?_⟩) (by assumption) ?_
          rotate_left
          · intro wS hSw
            (try dsimp only at hSw)
            go_simp
            (try with_reducible rfl)
          (try simp only [Act.put, List.setIfInBounds_toArray, List.set_cons_zero, List.set_cons_succ])
          refine wpAnyH_take (i := 25) (oi := { dst := some 129, op := Go.Op.move (Go.Operand.tmp 18), type := 3, pos := "law.go:86", after := #[{ on := 22, ground := Go.Ground.guard }], guard := some (22, false) }) (v := ?_) rfl (by kernel_rfl) (by kernel_rfl) (by kernel_rfl) (fun _ _ _ h => h) (Or.inl ⟨by rfl, ?_⟩) (by assumption) ?_
          rotate_left
          · intro wS hSw
            (try dsimp only at hSw)
            go_simp
            (try with_reducible rfl)
          (try simp only [Act.put, List.setIfInBounds_toArray, List.set_cons_zero, List.set_cons_succ])
          refine wpAnyH_ready (rs := [24]) (by kernel_rfl) (by simp) ?_
          refine AllReadyH.cons (o := { dst := some 128, op := Go.Op.call { callee := Go.Callee.value (Go.Operand.func 11), args := #[Go.Operand.tmp 127], argTypes := #[31] }, type := 3, pos := "law.go:86", after := #[{ on := 23, ground := Go.Ground.data }, { on := 22, ground := Go.Ground.chain }, { on := 22, ground := Go.Ground.guard }], guard := some (22, false) }) rfl (fun K hK => ?_) AllReadyH.nil
          go_simp
          (refine (num_ev HEV2.out V11 (HG.out V11 (HXT.out.later HV.out).b)).mono ?_; rintro e V24 ⟨rfl, hv⟩; have HV := Lib.hid (HV.out.trans (hv.mono HV.out.size)); clear hv; skip)
          (try go_wp2_with fail)
          refine hK.out _ _ ?_ (fun hHeld => ?_)
          · (try dsimp only)
            (first | exact Below.refl _ _ | assumption)
          clear hK K
          (try simp only [Act.put, List.setIfInBounds_toArray, List.set_cons_zero, List.set_cons_succ])
          refine wpAnyH_take (i := 26) (oi := { dst := some 130, op := Go.Op.binOp Go.BinOp.neq 3 (Go.Operand.tmp 128) (Go.Operand.tmp 129) 3, type := 4, pos := "law.go:86", after := #[{ on := 24, ground := Go.Ground.data }, { on := 25, ground := Go.Ground.data }, { on := 22, ground := Go.Ground.guard }], guard := some (22, false) }) (v := ?_) rfl (by kernel_rfl) (by kernel_rfl) (by kernel_rfl) (fun _ _ _ h => h) (Or.inl ⟨by rfl, ?_⟩) (by assumption) ?_
          rotate_left
          · intro wS hSw
            (try dsimp only at hSw)
            go_simp
            (try with_reducible rfl)
          (try simp only [Act.put, List.setIfInBounds_toArray, List.set_cons_zero, List.set_cons_succ])
          refine wpAnyH_take (i := 27) (oi := { dst := some 131, op := Go.Op.pick (Go.Operand.tmp 126) (Go.Operand.const (Go.Value.bool true)) (Go.Operand.tmp 130), type := 4, pos := "law.go:86", after := #[{ on := 22, ground := Go.Ground.data }, { on := 26, ground := Go.Ground.data }], guard := none }) (v := ?_) rfl (by kernel_rfl) (by kernel_rfl) (by kernel_rfl) (fun _ _ _ h => h) (Or.inl ⟨by rfl, ?_⟩) (by assumption) ?_
          rotate_left
          · intro wS hSw
            (try dsimp only at hSw)
            go_simp
            (try with_reducible rfl)
          (try simp only [Act.put, List.setIfInBounds_toArray, List.set_cons_zero, List.set_cons_succ])
          refine wpAnyH_take (i := 28) (oi := { dst := some 132, op := Go.Op.move (Go.Operand.tmp 131), type := 4, pos := "law.go:86", after := #[{ on := 27, ground := Go.Ground.data }, { on := 24, ground := Go.Ground.chain }], guard := none }) (v := ?_) rfl (by kernel_rfl) (by kernel_rfl) (by kernel_rfl) (fun _ _ _ h => h) (Or.inl ⟨by rfl, ?_⟩) (by assumption) ?_
          rotate_left
          · intro wS hSw
            (try dsimp only at hSw)
            go_simp
            (try with_reducible rfl)
          (try simp only [Act.put, List.setIfInBounds_toArray, List.set_cons_zero, List.set_cons_succ])
          refine wpAnyH_take (i := 29) (oi := { dst := some 133, op := Go.Op.move (Go.Operand.tmp 20), type := 31, pos := "law.go:86", after := #[{ on := 28, ground := Go.Ground.guard }], guard := some (28, false) }) (v := ?_) rfl (by kernel_rfl) (by kernel_rfl) (by kernel_rfl) (fun _ _ _ h => h) (Or.inl ⟨by rfl, ?_⟩) (by assumption) ?_
          rotate_left
          · intro wS hSw
            (try dsimp only at hSw)
            go_simp
            (try with_reducible rfl)
          (try simp only [Act.put, List.setIfInBounds_toArray, List.set_cons_zero, List.set_cons_succ])
          refine wpAnyH_take (i := 30) (oi := { dst := some 134, op := Go.Op.binOp Go.BinOp.eql 31 (Go.Operand.tmp 133) (Go.Operand.const Go.Value.nilIface) 31, type := 4, pos := "law.go:86", after := #[{ on := 29, ground := Go.Ground.data }, { on := 28, ground := Go.Ground.guard }], guard := some (28, false) }) (v := ?_) rfl (by kernel_rfl) (by kernel_rfl) (by kernel_rfl) (fun _ _ _ h => h) (Or.inl ⟨by rfl, ?_⟩) (by assumption) ?_
          rotate_left
          · intro wS hSw
            (try dsimp only at hSw)
            go_simp
            (try with_reducible rfl)
          (try simp only [Act.put, List.setIfInBounds_toArray, List.set_cons_zero, List.set_cons_succ])
          refine wpAnyH_take (i := 31) (oi := { dst := some 135, op := Go.Op.move (Go.Operand.tmp 21), type := 4, pos := "law.go:86", after := #[{ on := 28, ground := Go.Ground.guard }], guard := some (28, false) }) (v := ?_) rfl (by kernel_rfl) (by kernel_rfl) (by kernel_rfl) (fun _ _ _ h => h) (Or.inl ⟨by rfl, ?_⟩) (by assumption) ?_
          rotate_left
          · intro wS hSw
            (try dsimp only at hSw)
            go_simp
            (try with_reducible rfl)
          (try simp only [Act.put, List.setIfInBounds_toArray, List.set_cons_zero, List.set_cons_succ])
          refine wpAnyH_take (i := 32) (oi := { dst := some 136, op := Go.Op.binOp Go.BinOp.neq 4 (Go.Operand.tmp 134) (Go.Operand.tmp 135) 4, type := 4, pos := "law.go:86", after := #[{ on := 30, ground := Go.Ground.data }, { on := 31, ground := Go.Ground.data }, { on := 28, ground := Go.Ground.guard }], guard := some (28, false) }) (v := ?_) rfl (by kernel_rfl) (by kernel_rfl) (by kernel_rfl) (fun _ _ _ h => h) (Or.inl ⟨by rfl, ?_⟩) (by assumption) ?_
          rotate_left
          · intro wS hSw
            (try dsimp only at hSw)
            go_simp
            (try with_reducible rfl)
          (try simp only [Act.put, List.setIfInBounds_toArray, List.set_cons_zero, List.set_cons_succ])
          refine wpAnyH_take (i := 33) (oi := { dst := some 137, op := Go.Op.pick (Go.Operand.tmp 132) (Go.Operand.const (Go.Value.bool true)) (Go.Operand.tmp 136), type := 4, pos := "law.go:86", after := #[{ on := 28, ground := Go.Ground.data }, { on := 32, ground := Go.Ground.data }], guard := none }) (v := ?_) rfl (by kernel_rfl) (by kernel_rfl) (by kernel_rfl) (fun _ _ _ h => h) (Or.inl ⟨by rfl, ?_⟩) (by assumption) ?_
          rotate_left
          · intro wS hSw
            (try dsimp only at hSw)
            go_simp
            (try with_reducible rfl)
          (try simp only [Act.put, List.setIfInBounds_toArray, List.set_cons_zero, List.set_cons_succ])
          refine wpAnyH_take (i := 34) (oi := { dst := some 138, op := Go.Op.move (Go.Operand.tmp 137), type := 4, pos := "law.go:86", after := #[{ on := 33, ground := Go.Ground.data }, { on := 28, ground := Go.Ground.chain }], guard := none }) (v := ?_) rfl (by kernel_rfl) (by kernel_rfl) (by kernel_rfl) (fun _ _ _ h => h) (Or.inl ⟨by rfl, ?_⟩) (by assumption) ?_
          rotate_left
          · intro wS hSw
            (try dsimp only at hSw)
            go_simp
            (try with_reducible rfl)
          (try simp only [Act.put, List.setIfInBounds_toArray, List.set_cons_zero, List.set_cons_succ])
          refine wpAnyH_take (i := 35) (oi := { dst := some 139, op := Go.Op.load 36 (Go.Operand.tmp 8), type := 36, pos := "law.go:86", after := #[{ on := 34, ground := Go.Ground.guard }], guard := some (34, false) }) (v := ?_) rfl (by kernel_rfl) (by kernel_rfl) (by kernel_rfl) (fun _ _ _ h => h) (Or.inl ⟨by rfl, ?_⟩) (by assumption) ?_
          rotate_left
          · intro wS hSw
            (refine exec_loadM (x := .tmp 8) (cs := [.int .i64 K, .int .i64 N, .int .u32 (gen : Int), .string mk, .slice ob n cb]) ?_ ?_ (range5 (HXT.out.later hSw).x) Tryd.underlying36 rfl info_pg <;> rfl)
          (try simp only [Act.put, List.setIfInBounds_toArray, List.set_cons_zero, List.set_cons_succ])
          refine wpAnyH_take (i := 38) (oi := { dst := some 142, op := Go.Op.load 54 (Go.Operand.tmp 3), type := 54, pos := "law.go:86", after := #[{ on := 34, ground := Go.Ground.guard }], guard := some (34, false) }) (v := ?_) rfl (by kernel_rfl) (by kernel_rfl) (by kernel_rfl) (fun _ _ _ h => h) (Or.inl ⟨by rfl, ?_⟩) (by assumption) ?_
          rotate_left
          · intro wS hSw
            (refine exec_loadM (x := .tmp 3) (cs := [.int .i64 K, .int .i64 N, .int .u32 (gen : Int), .string mk, .slice oa n cs]) ?_ ?_ (range5 (HXT.out.later hSw).p) Tryd.underlying54 rfl info_pgR <;> rfl)
          (try simp only [Act.put, List.setIfInBounds_toArray, List.set_cons_zero, List.set_cons_succ])
          refine wpAnyH_ready (rs := [36]) (by kernel_rfl) (by simp) ?_
          refine AllReadyH.cons (o := { dst := some 140, op := Go.Op.call { callee := Go.Callee.value (Go.Operand.func 19), args := #[Go.Operand.tmp 139], argTypes := #[36] }, type := 31, pos := "law.go:86", after := #[{ on := 35, ground := Go.Ground.data }, { on := 34, ground := Go.Ground.chain }, { on := 34, ground := Go.Ground.guard }], guard := some (34, false) }) rfl (fun K hK => ?_) AllReadyH.nil
          go_simp
          (refine (HCK.out V24 HV.out).mono ?_; rintro e V36 ⟨rfl, hv⟩; have HV := Lib.hid (HV.out.trans (hv.mono HV.out.size)); clear hv; skip)
          (try go_wp2_with fail)
          refine hK.out _ _ ?_ (fun hHeld => ?_)
          · (try dsimp only)
            (first | exact Below.refl _ _ | assumption)
          clear hK K
          (try simp only [Act.put, List.setIfInBounds_toArray, List.set_cons_zero, List.set_cons_succ])
          refine wpAnyH_take (i := 37) (oi := { dst := some 141, op := Go.Op.binOp Go.BinOp.eql 31 (Go.Operand.tmp 140) (Go.Operand.const Go.Value.nilIface) 31, type := 4, pos := "law.go:86", after := #[{ on := 36, ground := Go.Ground.data }, { on := 34, ground := Go.Ground.guard }], guard := some (34, false) }) (v := ?_) rfl (by kernel_rfl) (by kernel_rfl) (by kernel_rfl) (fun _ _ _ h => h) (Or.inl ⟨by rfl, ?_⟩) (by assumption) ?_
          rotate_left
          · intro wS hSw
            (try dsimp only at hSw)
            go_simp
            (try with_reducible rfl)
          (try simp only [Act.put, List.setIfInBounds_toArray, List.set_cons_zero, List.set_cons_succ])
          refine wpAnyH_ready (rs := [39]) (by kernel_rfl) (by simp) ?_
          refine AllReadyH.cons (o := { dst := some 143, op := Go.Op.call { callee := Go.Callee.value (Go.Operand.func 17), args := #[Go.Operand.tmp 142], argTypes := #[54] }, type := 4, pos := "law.go:86", after := #[{ on := 38, ground := Go.Ground.data }, { on := 36, ground := Go.Ground.chain }, { on := 34, ground := Go.Ground.guard }], guard := some (34, false) }) rfl (fun K hK => ?_) AllReadyH.nil
          go_simp
          (refine (HMY.out V36 HV.out).mono ?_; rintro e V39 ⟨rfl, hv⟩; have HV := Lib.hid (HV.out.trans (hv.mono HV.out.size)); clear hv; skip)
          (try go_wp2_with fail)
          refine hK.out _ _ ?_ (fun hHeld => ?_)
          · (try dsimp only)
            (first | exact Below.refl _ _ | assumption)
          clear hK K
          (try simp only [Act.put, List.setIfInBounds_toArray, List.set_cons_zero, List.set_cons_succ])
          refine wpAnyH_take (i := 40) (oi := { dst := some 144, op := Go.Op.binOp Go.BinOp.neq 4 (Go.Operand.tmp 141) (Go.Operand.tmp 143) 4, type := 4, pos := "law.go:86", after := #[{ on := 37, ground := Go.Ground.data }, { on := 39, ground := Go.Ground.data }, { on := 34, ground := Go.Ground.guard }], guard := some (34, false) }) (v := ?_) rfl (by kernel_rfl) (by kernel_rfl) (by kernel_rfl) (fun _ _ _ h => h) (Or.inl ⟨by rfl, ?_⟩) (by assumption) ?_
          rotate_left
          · intro wS hSw
            (try dsimp only at hSw)
            go_simp
            (try with_reducible rfl)
          (try simp only [Act.put, List.setIfInBounds_toArray, List.set_cons_zero, List.set_cons_succ])
          refine wpAnyH_take (i := 41) (oi := { dst := some 145, op := Go.Op.pick (Go.Operand.tmp 138) (Go.Operand.const (Go.Value.bool true)) (Go.Operand.tmp 144), type := 4, pos := "law.go:86", after := #[{ on := 34, ground := Go.Ground.data }, { on := 40, ground := Go.Ground.data }], guard := none }) (v := ?_) rfl (by kernel_rfl) (by kernel_rfl) (by kernel_rfl) (fun _ _ _ h => h) (Or.inl ⟨by rfl, ?_⟩) (by assumption) ?_
          rotate_left
          · intro wS hSw
            (try dsimp only at hSw)
            go_simp
            (try with_reducible rfl)
          (try simp only [Act.put, List.setIfInBounds_toArray, List.set_cons_zero, List.set_cons_succ])
          refine wpAnyH_take (i := 42) (oi := { dst := some 146, op := Go.Op.move (Go.Operand.tmp 145), type := 4, pos := "law.go:86", after := #[{ on := 41, ground := Go.Ground.data }, { on := 39, ground := Go.Ground.chain }], guard := none }) (v := ?_) rfl (by kernel_rfl) (by kernel_rfl) (by kernel_rfl) (fun _ _ _ h => h) (Or.inl ⟨by rfl, ?_⟩) (by assumption) ?_
          rotate_left
          · intro wS hSw
            (try dsimp only at hSw)
            go_simp
            (try with_reducible rfl)
          (try simp only [Act.put, List.setIfInBounds_toArray, List.set_cons_zero, List.set_cons_succ])
          refine wpAnyH_take (i := 43) (oi := { dst := some 147, op := Go.Op.load 36 (Go.Operand.tmp 8), type := 36, pos := "law.go:86", after := #[{ on := 42, ground := Go.Ground.guard }], guard := some (42, false) }) (v := ?_) rfl (by kernel_rfl) (by kernel_rfl) (by kernel_rfl) (fun _ _ _ h => h) (Or.inl ⟨by rfl, ?_⟩) (by assumption) ?_
          rotate_left
          · intro wS hSw
            (refine exec_loadM (x := .tmp 8) (cs := [.int .i64 K, .int .i64 N, .int .u32 (gen : Int), .string mk, .slice ob n cb]) ?_ ?_ (range5 (HXT.out.later hSw).x) Tryd.underlying36 rfl info_pg <;> rfl)
          (try simp only [Act.put, List.setIfInBounds_toArray, List.set_cons_zero, List.set_cons_succ])
          refine wpAnyH_take (i := 44) (oi := { dst := some 148, op := Go.Op.load 54 (Go.Operand.tmp 3), type := 54, pos := "law.go:86", after := #[{ on := 42, ground := Go.Ground.guard }], guard := some (42, false) }) (v := ?_) rfl (by kernel_rfl) (by kernel_rfl) (by kernel_rfl) (fun _ _ _ h => h) (Or.inl ⟨by rfl, ?_⟩) (by assumption) ?_
          rotate_left
          · intro wS hSw
            (refine exec_loadM (x := .tmp 3) (cs := [.int .i64 K, .int .i64 N, .int .u32 (gen : Int), .string mk, .slice oa n cs]) ?_ ?_ (range5 (HXT.out.later hSw).p) Tryd.underlying54 rfl info_pgR <;> rfl)
          (try simp only [Act.put, List.setIfInBounds_toArray, List.set_cons_zero, List.set_cons_succ])
          refine wpAnyH_ready (rs := [45]) (by kernel_rfl) (by simp) ?_
          refine AllReadyH.cons (o := { dst := some 149, op := Go.Op.call { callee := Go.Callee.value (Go.Operand.func 18), args := #[Go.Operand.tmp 147, Go.Operand.tmp 148], argTypes := #[36, 54] }, type := 4, pos := "law.go:86", after := #[{ on := 43, ground := Go.Ground.data }, { on := 44, ground := Go.Ground.data }, { on := 42, ground := Go.Ground.chain }, { on := 42, ground := Go.Ground.guard }], guard := some (42, false) }) rfl (fun K hK => ?_) AllReadyH.nil
          go_simp
          (refine (HIP.out V39 HV.out).mono ?_; rintro e V45 ⟨rfl, hv⟩; have HV := Lib.hid (HV.out.trans (hv.mono HV.out.size)); clear hv; skip)
          (try go_wp2_with fail)
          refine hK.out _ _ ?_ (fun hHeld => ?_)
          · (try dsimp only)
            (first | exact Below.refl _ _ | assumption)
          clear hK K
          (try simp only [Act.put, List.setIfInBounds_toArray, List.set_cons_zero, List.set_cons_succ])
          refine wpAnyH_take (i := 46) (oi := { dst := some 150, op := Go.Op.unOp Go.UnOp.not 4 (Go.Operand.tmp 149), type := 4, pos := "law.go:86", after := #[{ on := 45, ground := Go.Ground.data }, { on := 42, ground := Go.Ground.guard }], guard := some (42, false) }) (v := ?_) rfl (by kernel_rfl) (by kernel_rfl) (by kernel_rfl) (fun _ _ _ h => h) (Or.inl ⟨by rfl, ?_⟩) (by assumption) ?_
          rotate_left
          · intro wS hSw
            (try dsimp only at hSw)
            go_simp
            (try with_reducible rfl)
          (try simp only [Act.put, List.setIfInBounds_toArray, List.set_cons_zero, List.set_cons_succ])
          refine wpAnyH_take (i := 47) (oi := { dst := some 151, op := Go.Op.pick (Go.Operand.tmp 146) (Go.Operand.const (Go.Value.bool true)) (Go.Operand.tmp 150), type := 4, pos := "law.go:86", after := #[{ on := 42, ground := Go.Ground.data }, { on := 46, ground := Go.Ground.data }], guard := none }) (v := ?_) rfl (by kernel_rfl) (by kernel_rfl) (by kernel_rfl) (fun _ _ _ h => h) (Or.inl ⟨by rfl, ?_⟩) (by assumption) ?_
          rotate_left
          · intro wS hSw
            (try dsimp only at hSw)
            go_simp
            (try with_reducible rfl)
          (try simp only [Act.put, List.setIfInBounds_toArray, List.set_cons_zero, List.set_cons_succ])
          refine wpAnyH_done (by kernel_rfl) ?_ _
          have hv := HV.out
          have hx := (HXT.out.later hv).x
          have hn := Blk.below HNT.out hv (Blk.lt HNT.out)
          have HE1 := Lib.hid (HXT.out.later hv).b
          have HR8 := Lib.hid (pg_plan hx)
          have HR22 := Lib.hid (pg_plan hn)
          have m8 := pg_mk hx
          have m22 := pg_mk hn
          have q22 := pg_sl hn
          have he := eq_plan K N (gen : Int) V45
          have hs9 := Blk.below HST9.out hv (Blk.lt HST9.out)
          have HR19 := Lib.hid (pg_plan hs9)
          have m19 := pg_mk hs9
          clear hs9
          clear hv hx hn HXT HRAT HRBT HAT HDT HST9 HNT HC2T HC3T HV HCK HMY HIP
          go_wp2_with (first | (refine wpList_valueG (by rfl) (exec_loadM (x := .tmp 157) (cs := [.int .i64 K, .int .i64 N, .int .u32 (gen : Int)]) rfl rfl HR22.out Tryd.underlying26 rfl info_plan3) ?_) | ((refine wpList_valueG (by rfl) (exec_loadM (x := .tmp 159) (cs := [.int .i64 K, .int .i64 N, .int .u32 (gen : Int)]) rfl rfl HR8.out Tryd.underlying26 rfl info_plan3) ?_); refine Hid.out ?_))
          refine Lib.hid ?_
          go_wp2_with (first | (refine wpList_valueG (by rfl) (exec_loadM (x := .tmp 174) (cs := [.int .i64 K, .int .i64 N, .int .u32 (gen : Int)]) rfl rfl HR19.out Tryd.underlying26 rfl info_plan3) ?_) | (refine wpList_valueG (by rfl) (exec_loadM (x := .tmp 176) (cs := [.int .i64 K, .int .i64 N, .int .u32 (gen : Int)]) rfl rfl HR8.out Tryd.underlying26 rfl info_plan3) ?_))
          refine (HSU.out V45 HE1.out).mono ?_
          rintro e W17 ⟨rfl, hb⟩
          have HE3 := Lib.hid (HE1.out.trans (hb.mono HE1.out.size))
          clear hb
          go_wp2_with fail
          go_ret
          exact ⟨rfl, HE3.out⟩
        · skip
          have HCK : Hid (∀ A, Below w13.drew.heap.size w13.drew A → Calls Tryd.prog 19 #[.agg #[.int .i64 K, .int .i64 N, .int .u32 (gen : Int), .string mk, .slice ob n cb]] A fun e w' => e = .returned (.iface 83 (.int .i64 1)) ∧ Below A.heap.size A w') := Lib.hid fun A hA => by
            refine (check_pg WR.heap.size K N gen n cb mk ob S A (HXT.out.later hA).r HIX.out (by have := HNN.out; omega) HNB.out.1 (by have := HNN.out; omega)).mono ?_
            rintro e w' ⟨(⟨he, hm⟩ | ⟨he, hm⟩), hb⟩
            · exact absurd hm hmg
            · exact ⟨he, hb⟩
          have HMY : Hid (∀ A, Below w13.drew.heap.size w13.drew A → Calls Tryd.prog 17 #[.agg #[.int .i64 K, .int .i64 N, .int .u32 (gen : Int), .string mk, .slice oa n cs]] A fun e w' => e = .returned (.bool false) ∧ Below A.heap.size A w') := Lib.hid fun A hA => by
            refine (rmay_pg w.heap.size K N gen n cs mk oa S A (HSS.out.later (HXT.out.later hA).b) HIX.out (by have := HNN.out; omega) HNC.out.1 (by have := HNN.out; omega)).mono ?_
            rintro e w' ⟨(⟨he, hm⟩ | ⟨he, hm⟩), hb⟩
            · exact absurd hm hmg
            · exact ⟨he, hb⟩
          have HIP : Hid (∀ A, Below w13.drew.heap.size w13.drew A → Calls Tryd.prog 18 #[.agg #[.int .i64 K, .int .i64 N, .int .u32 (gen : Int), .string mk, .slice ob n cb], .agg #[.int .i64 K, .int .i64 N, .int .u32 (gen : Int), .string mk, .slice oa n cs]] A fun e w' => e = .returned (.bool true) ∧ Below A.heap.size A w') := Lib.hid fun A hA => isprog_any WR.heap.size K N gen n cb cs mk ob oa S A (HXT.out.later hA).r ((HSS.out.fresh2 HBX.out).later (HXT.out.later hA).b) (by have := HNN.out; omega)
          clear hmg
          refine wp_region_held_drew (S := (Below w13.drew.heap.size w13.drew)) (by kernel_rfl) ?_ (fun hHeld => ?_)
          · (try dsimp only)
            (first | exact Below.refl _ _ | assumption)
          generalize w13.drew = WT at *
          refine wpAnyH_take (i := 0) (oi := { dst := some 104, op := Go.Op.load 36 (Go.Operand.tmp 9), type := 36, pos := "law.go:86", after := #[], guard := none }) (v := ?_) rfl (by kernel_rfl) (by kernel_rfl) (by kernel_rfl) (fun _ _ _ h => h) (Or.inl ⟨by rfl, ?_⟩) (by assumption) ?_
          rotate_left
          · intro wS hSw
            (refine exec_loadM (x := .tmp 9) (cs := [.int .i64 Ko, .int .i64 No, .int .u32 (geno : Int), .string mko, .slice oq no cq]) ?_ ?_ (range5 (Blk.below HAT.out hSw (Blk.lt HAT.out))) Tryd.underlying36 rfl info_pg <;> rfl)
          (try simp only [Act.put, List.setIfInBounds_toArray, List.set_cons_zero, List.set_cons_succ])
          refine wpAnyH_take (i := 1) (oi := { dst := some 105, op := Go.Op.load 54 (Go.Operand.tmp 12), type := 54, pos := "law.go:86", after := #[], guard := none }) (v := ?_) rfl (by kernel_rfl) (by kernel_rfl) (by kernel_rfl) (fun _ _ _ h => h) (Or.inl ⟨by rfl, ?_⟩) (by assumption) ?_
          rotate_left
          · intro wS hSw
            (refine exec_loadM (x := .tmp 12) (cs := [.int .i64 Ko, .int .i64 No, .int .u32 (geno : Int), .string mko, .slice oz no cz]) ?_ ?_ (range5 (Blk.below HDT.out hSw (Blk.lt HDT.out))) Tryd.underlying54 rfl info_pgR <;> rfl)
          (try simp only [Act.put, List.setIfInBounds_toArray, List.set_cons_zero, List.set_cons_succ])
          refine wpAnyH_ready (rs := [2]) (by kernel_rfl) (by simp) ?_
          refine AllReadyH.cons (o := { dst := some 106, op := Go.Op.call { callee := Go.Callee.value (Go.Operand.func 18), args := #[Go.Operand.tmp 104, Go.Operand.tmp 105], argTypes := #[36, 54] }, type := 4, pos := "law.go:86", after := #[{ on := 0, ground := Go.Ground.data }, { on := 1, ground := Go.Ground.data }], guard := none }) rfl (fun K hK => ?_) AllReadyH.nil
          go_simp
          (refine (isprog_any _ Ko No geno no cq cz mko oq oz So WT HRAT.out HRBT.out HNO.out).mono ?_; rintro e V2 ⟨rfl, hv⟩; have HV := Lib.hid hv; clear hv; skip)
          (try go_wp2_with fail)
          refine hK.out _ _ ?_ (fun hHeld => ?_)
          · (try dsimp only)
            (first | exact Below.refl _ _ | assumption)
          clear hK K
          (try simp only [Act.put, List.setIfInBounds_toArray, List.set_cons_zero, List.set_cons_succ])
          refine wpAnyH_take (i := 3) (oi := { dst := some 107, op := Go.Op.unOp Go.UnOp.not 4 (Go.Operand.tmp 106), type := 4, pos := "law.go:86", after := #[{ on := 2, ground := Go.Ground.data }], guard := none }) (v := ?_) rfl (by kernel_rfl) (by kernel_rfl) (by kernel_rfl) (fun _ _ _ h => h) (Or.inl ⟨by rfl, ?_⟩) (by assumption) ?_
          rotate_left
          · intro wS hSw
            (try dsimp only at hSw)
            go_simp
            (try with_reducible rfl)
          (try simp only [Act.put, List.setIfInBounds_toArray, List.set_cons_zero, List.set_cons_succ])
          refine wpAnyH_take (i := 4) (oi := { dst := some 108, op := Go.Op.move (Go.Operand.tmp 107), type := 4, pos := "law.go:86", after := #[{ on := 3, ground := Go.Ground.data }, { on := 2, ground := Go.Ground.chain }], guard := none }) (v := ?_) rfl (by kernel_rfl) (by kernel_rfl) (by kernel_rfl) (fun _ _ _ h => h) (Or.inl ⟨by rfl, ?_⟩) (by assumption) ?_
          rotate_left
          · intro wS hSw
            (try dsimp only at hSw)
            go_simp
            (try with_reducible rfl)
          (try simp only [Act.put, List.setIfInBounds_toArray, List.set_cons_zero, List.set_cons_succ])
          refine wpAnyH_take (i := 5) (oi := { dst := some 109, op := Go.Op.move (Go.Operand.tmp 10), type := 4, pos := "law.go:86", after := #[{ on := 4, ground := Go.Ground.guard }], guard := some (4, false) }) (v := ?_) rfl (by kernel_rfl) (by kernel_rfl) (by kernel_rfl) (fun _ _ _ h => h) (Or.inl ⟨by rfl, ?_⟩) (by assumption) ?_
          rotate_left
          · intro wS hSw
            (try dsimp only at hSw)
            go_simp
            (try with_reducible rfl)
          (try simp only [Act.put, List.setIfInBounds_toArray, List.set_cons_zero, List.set_cons_succ])
          refine wpAnyH_take (i := 6) (oi := { dst := some 110, op := Go.Op.move (Go.Operand.tmp 13), type := 4, pos := "law.go:86", after := #[{ on := 4, ground := Go.Ground.guard }], guard := some (4, false) }) (v := ?_) rfl (by kernel_rfl) (by kernel_rfl) (by kernel_rfl) (fun _ _ _ h => h) (Or.inl ⟨by rfl, ?_⟩) (by assumption) ?_
          rotate_left
          · intro wS hSw
            (try dsimp only at hSw)
            go_simp
            (try with_reducible rfl)
          (try simp only [Act.put, List.setIfInBounds_toArray, List.set_cons_zero, List.set_cons_succ])
          refine wpAnyH_take (i := 7) (oi := { dst := some 111, op := Go.Op.binOp Go.BinOp.neq 4 (Go.Operand.tmp 109) (Go.Operand.tmp 110) 4, type := 4, pos := "law.go:86", after := #[{ on := 5, ground := Go.Ground.data }, { on := 6, ground := Go.Ground.data }, { on := 4, ground := Go.Ground.guard }], guard := some (4, false) }) (v := ?_) rfl (by kernel_rfl) (by kernel_rfl) (by kernel_rfl) (fun _ _ _ h => h) (Or.inl ⟨by rfl, ?_⟩) (by assumption) ?_
          rotate_left
          · intro wS hSw
            (try dsimp only at hSw)
            go_simp
            (try with_reducible rfl)
          (try simp only [Act.put, List.setIfInBounds_toArray, List.set_cons_zero, List.set_cons_succ])
          refine wpAnyH_take (i := 8) (oi := { dst := some 112, op := Go.Op.pick (Go.Operand.tmp 108) (Go.Operand.const (Go.Value.bool true)) (Go.Operand.tmp 111), type := 4, pos := "law.go:86", after := #[{ on := 4, ground := Go.Ground.data }, { on := 7, ground := Go.Ground.data }], guard := none }) (v := ?_) rfl (by kernel_rfl) (by kernel_rfl) (by kernel_rfl) (fun _ _ _ h => h) (Or.inl ⟨by rfl, ?_⟩) (by assumption) ?_
          rotate_left
          · intro wS hSw
            (try dsimp only at hSw)
            go_simp
            (try with_reducible rfl)
          (try simp only [Act.put, List.setIfInBounds_toArray, List.set_cons_zero, List.set_cons_succ])
          refine wpAnyH_take (i := 9) (oi := { dst := some 113, op := Go.Op.move (Go.Operand.tmp 112), type := 4, pos := "law.go:86", after := #[{ on := 8, ground := Go.Ground.data }, { on := 4, ground := Go.Ground.chain }], guard := none }) (v := ?_) rfl (by kernel_rfl) (by kernel_rfl) (by kernel_rfl) (fun _ _ _ h => h) (Or.inl ⟨by rfl, ?_⟩) (by assumption) ?_
          rotate_left
          · intro wS hSw
            (try dsimp only at hSw)
            go_simp
            (try with_reducible rfl)
          (try simp only [Act.put, List.setIfInBounds_toArray, List.set_cons_zero, List.set_cons_succ])
          refine wpAnyH_take (i := 10) (oi := { dst := some 114, op := Go.Op.move (Go.Operand.tmp 11), type := 31, pos := "law.go:86", after := #[{ on := 9, ground := Go.Ground.guard }], guard := some (9, false) }) (v := ?_) rfl (by kernel_rfl) (by kernel_rfl) (by kernel_rfl) (fun _ _ _ h => h) (Or.inl ⟨by rfl, ?_⟩) (by assumption) ?_
          rotate_left
          · intro wS hSw
            (try dsimp only at hSw)
            go_simp
            (try with_reducible rfl)
          (try simp only [Act.put, List.setIfInBounds_toArray, List.set_cons_zero, List.set_cons_succ])
          refine wpAnyH_take (i := 12) (oi := { dst := some 116, op := Go.Op.move (Go.Operand.tmp 14), type := 3, pos := "law.go:86", after := #[{ on := 9, ground := Go.Ground.guard }], guard := some (9, false) }) (v := ?_) rfl (by kernel_rfl) (by kernel_rfl) (by kernel_rfl) (fun _ _ _ h => h) (Or.inl ⟨by rfl, ?_⟩) (by assumption) ?_
          rotate_left
          · intro wS hSw
            (try dsimp only at hSw)
            go_simp
            (try with_reducible rfl)
          (try simp only [Act.put, List.setIfInBounds_toArray, List.set_cons_zero, List.set_cons_succ])
          refine wpAnyH_ready (rs := [11]) (by kernel_rfl) (by simp) ?_
          refine AllReadyH.cons (o := { dst := some 115, op := Go.Op.call { callee := Go.Callee.value (Go.Operand.func 11), args := #[Go.Operand.tmp 114], argTypes := #[31] }, type := 3, pos := "law.go:86", after := #[{ on := 10, ground := Go.Ground.data }, { on := 9, ground := Go.Ground.chain }, { on := 9, ground := Go.Ground.guard }], guard := some (9, false) }) rfl (fun K hK => ?_) AllReadyH.nil
          go_simp
          (refine (num_ev HEV.out V2 (HG.out V2 (HXT.out.later HV.out).b)).mono ?_; rintro e V11 ⟨rfl, hv⟩; have HV := Lib.hid (HV.out.trans (hv.mono HV.out.size)); clear hv; skip)
          (try go_wp2_with fail)
          refine hK.out _ _ ?_ (fun hHeld => ?_)
          · (try dsimp only)
            (first | exact Below.refl _ _ | assumption)
          clear hK K
          (try simp only [Act.put, List.setIfInBounds_toArray, List.set_cons_zero, List.set_cons_succ])
          refine wpAnyH_take (i := 13) (oi := { dst := some 117, op := Go.Op.binOp Go.BinOp.neq 3 (Go.Operand.tmp 115) (Go.Operand.tmp 116) 3, type := 4, pos := "law.go:86", after := #[{ on := 11, ground := Go.Ground.data }, { on := 12, ground := Go.Ground.data }, { on := 9, ground := Go.Ground.guard }], guard := some (9, false) }) (v := ?_) rfl (by kernel_rfl) (by kernel_rfl) (by kernel_rfl) (fun _ _ _ h => h) (Or.inl ⟨by rfl, ?_⟩) (by assumption) ?_
          rotate_left
          · intro wS hSw
            (try dsimp only at hSw)
            go_simp
            (try with_reducible rfl)
          (try simp only [Act.put, List.setIfInBounds_toArray, List.set_cons_zero, List.set_cons_succ])
          refine wpAnyH_take (i := 14) (oi := { dst := some 118, op := Go.Op.pick (Go.Operand.tmp 113) (Go.Operand.const (Go.Value.bool true)) (Go.Operand.tmp 117), type := 4, pos := "law.go:86", after := #[{ on := 9, ground := Go.Ground.data }, { on := 13, ground := Go.Ground.data }], guard := none }) (v := ?_) rfl (by kernel_rfl) (by kernel_rfl) (by kernel_rfl) (fun _ _ _ h => h) (Or.inl ⟨by rfl, ?_⟩) (by assumption) ?_
          rotate_left
          · intro wS hSw
            (try dsimp only at hSw)
            go_simp
            (try with_reducible rfl)
          (try simp only [Act.put, List.setIfInBounds_toArray, List.set_cons_zero, List.set_cons_succ])
          refine wpAnyH_take (i := 15) (oi := { dst := some 119, op := Go.Op.move (Go.Operand.tmp 118), type := 4, pos := "law.go:86", after := #[{ on := 14, ground := Go.Ground.data }, { on := 11, ground := Go.Ground.chain }], guard := none }) (v := ?_) rfl (by kernel_rfl) (by kernel_rfl) (by kernel_rfl) (fun _ _ _ h => h) (Or.inl ⟨by rfl, ?_⟩) (by assumption) ?_
          rotate_left
          · intro wS hSw
            (try dsimp only at hSw)
            go_simp
            (try with_reducible rfl)
          (try simp only [Act.put, List.setIfInBounds_toArray, List.set_cons_zero, List.set_cons_succ])
          refine wpAnyH_take (i := 16) (oi := { dst := some 120, op := Go.Op.move (Go.Operand.tmp 15), type := 34, pos := "law.go:86", after := #[{ on := 15, ground := Go.Ground.guard }], guard := some (15, false) }) (v := ?_) rfl (by kernel_rfl) (by kernel_rfl) (by kernel_rfl) (fun _ _ _ h => h) (Or.inl ⟨by rfl, ?_⟩) (by assumption) ?_
          rotate_left
          · intro wS hSw
            (try dsimp only at hSw)
            go_simp
            (try with_reducible rfl)
          (try simp only [Act.put, List.setIfInBounds_toArray, List.set_cons_zero, List.set_cons_succ])
          refine wpAnyH_take (i := 17) (oi := { dst := some 121, op := Go.Op.convert 34 9 (Go.Operand.tmp 120), type := 9, pos := "law.go:86", after := #[{ on := 16, ground := Go.Ground.data }, { on := 15, ground := Go.Ground.guard }], guard := some (15, false) }) (v := ?_) rfl (by kernel_rfl) (by kernel_rfl) (by kernel_rfl) (fun _ _ _ h => h) (Or.inl ⟨by rfl, ?_⟩) (by assumption) ?_
          rotate_left
          · intro wS hSw
            (have cvq := (HC2T.out.later hSw).conv; go_simp; (try with_reducible rfl))
          (try simp only [Act.put, List.setIfInBounds_toArray, List.set_cons_zero, List.set_cons_succ])
          refine wpAnyH_take (i := 18) (oi := { dst := some 122, op := Go.Op.move (Go.Operand.tmp 17), type := 34, pos := "law.go:86", after := #[{ on := 15, ground := Go.Ground.guard }], guard := some (15, false) }) (v := ?_) rfl (by kernel_rfl) (by kernel_rfl) (by kernel_rfl) (fun _ _ _ h => h) (Or.inl ⟨by rfl, ?_⟩) (by assumption) ?_
          rotate_left
          · intro wS hSw
            (try dsimp only at hSw)
            go_simp
            (try with_reducible rfl)
          (try simp only [Act.put, List.setIfInBounds_toArray, List.set_cons_zero, List.set_cons_succ])
          refine wpAnyH_take (i := 19) (oi := { dst := some 123, op := Go.Op.convert 34 9 (Go.Operand.tmp 122), type := 9, pos := "law.go:86", after := #[{ on := 18, ground := Go.Ground.data }, { on := 15, ground := Go.Ground.guard }], guard := some (15, false) }) (v := ?_) rfl (by kernel_rfl) (by kernel_rfl) (by kernel_rfl) (fun _ _ _ h => h) (Or.inl ⟨by rfl, ?_⟩) (by assumption) ?_
          rotate_left
          · intro wS hSw
            (have cvq := (HC3T.out.later hSw).conv; go_simp; (try with_reducible rfl))
          (try simp only [Act.put, List.setIfInBounds_toArray, List.set_cons_zero, List.set_cons_succ])
          refine wpAnyH_take (i := 20) (oi := { dst := some 124, op := Go.Op.binOp Go.BinOp.neq 9 (Go.Operand.tmp 121) (Go.Operand.tmp 123) 9, type := 4, pos := "law.go:86", after := #[{ on := 17, ground := Go.Ground.data }, { on := 19, ground := Go.Ground.data }, { on := 15, ground := Go.Ground.guard }], guard := some (15, false) }) (v := ?_) rfl (by kernel_rfl) (by kernel_rfl) (by kernel_rfl) (fun _ _ _ h => h) (Or.inl ⟨by rfl, ?_⟩) (by assumption) ?_
          rotate_left
          · intro wS hSw
            (try dsimp only at hSw)
            go_simp
            (try with_reducible rfl)
          (try simp only [Act.put, List.setIfInBounds_toArray, List.set_cons_zero, List.set_cons_succ])
          refine wpAnyH_take (i := 21) (oi := { dst := some 125, op := Go.Op.pick (Go.Operand.tmp 119) (Go.Operand.const (Go.Value.bool true)) (Go.Operand.tmp 124), type := 4, pos := "law.go:86", after := #[{ on := 15, ground := Go.Ground.data }, { on := 20, ground := Go.Ground.data }], guard := none }) (v := ?_) rfl (by kernel_rfl) (by kernel_rfl) (by kernel_rfl) (fun _ _ _ h => h) (Or.inl ⟨by rfl, ?_⟩) (by assumption) ?_
          rotate_left
          · intro wS hSw
            (try dsimp only at hSw)
            go_simp
            (try with_reducible rfl)
          (try simp only [Act.put, List.setIfInBounds_toArray, List.set_cons_zero, List.set_cons_succ])
          refine wpAnyH_take (i := 22) (oi := { dst := some 126, op := Go.Op.move (Go.Operand.tmp 125), type := 4, pos := "law.go:86", after := #[{ on := 21, ground := Go.Ground.data }, { on := 15, ground := Go.Ground.chain }], guard := none }) (v := ?_) rfl (by kernel_rfl) (by kernel_rfl) (by kernel_rfl) (fun _ _ _ h => h) (Or.inl ⟨by rfl, ?_⟩) (by assumption) ?_
          rotate_left
          · intro wS hSw
            (try dsimp only at hSw)
            go_simp
            (try with_reducible rfl)
          (try simp only [Act.put, List.setIfInBounds_toArray, List.set_cons_zero, List.set_cons_succ])
          refine wpAnyH_take (i := 23) (oi := { dst := some 127, op := Go.Op.move (Go.Operand.tmp 16), type := 31, pos := "law.go:86", after := #[{ on := 22, ground := Go.Ground.guard }], guard := some (22, false) }) (v := ?_) rfl (by kernel_rfl) (by kernel_rfl) (by kernel_rfl) (fun _ _ _ h => h) (Or.inl ⟨by rfl, ?_⟩) (by assumption) ?_
          rotate_left
          · intro wS hSw
            (try dsimp only at hSw)
            go_simp
            (try with_reducible rfl)
          (try simp only [Act.put, List.setIfInBounds_toArray, List.set_cons_zero, List.set_cons_succ])
          refine wpAnyH_take (i := 25) (oi := { dst := some 129, op := Go.Op.move (Go.Operand.tmp 18), type := 3, pos := "law.go:86", after := #[{ on := 22, ground := Go.Ground.guard }], guard := some (22, false) }) (v := ?_) rfl (by kernel_rfl) (by kernel_rfl) (by kernel_rfl) (fun _ _ _ h => h) (Or.inl ⟨by rfl, ?_⟩) (by assumption) ?_
          rotate_left
          · intro wS hSw
            (try dsimp only at hSw)
            go_simp
            (try with_reducible rfl)
          (try simp only [Act.put, List.setIfInBounds_toArray, List.set_cons_zero, List.set_cons_succ])
          refine wpAnyH_ready (rs := [24]) (by kernel_rfl) (by simp) ?_
          refine AllReadyH.cons (o := { dst := some 128, op := Go.Op.call { callee := Go.Callee.value (Go.Operand.func 11), args := #[Go.Operand.tmp 127], argTypes := #[31] }, type := 3, pos := "law.go:86", after := #[{ on := 23, ground := Go.Ground.data }, { on := 22, ground := Go.Ground.chain }, { on := 22, ground := Go.Ground.guard }], guard := some (22, false) }) rfl (fun K hK => ?_) AllReadyH.nil
          go_simp
          (refine (num_ev HEV2.out V11 (HG.out V11 (HXT.out.later HV.out).b)).mono ?_; rintro e V24 ⟨rfl, hv⟩; have HV := Lib.hid (HV.out.trans (hv.mono HV.out.size)); clear hv; skip)
          (try go_wp2_with fail)
          refine hK.out _ _ ?_ (fun hHeld => ?_)
          · (try dsimp only)
            (first | exact Below.refl _ _ | assumption)
          clear hK K
          (try simp only [Act.put, List.setIfInBounds_toArray, List.set_cons_zero, List.set_cons_succ])
          refine wpAnyH_take (i := 26) (oi := { dst := some 130, op := Go.Op.binOp Go.BinOp.neq 3 (Go.Operand.tmp 128) (Go.Operand.tmp 129) 3, type := 4, pos := "law.go:86", after := #[{ on := 24, ground := Go.Ground.data }, { on := 25, ground := Go.Ground.data }, { on := 22, ground := Go.Ground.guard }], guard := some (22, false) }) (v := ?_) rfl (by kernel_rfl) (by kernel_rfl) (by kernel_rfl) (fun _ _ _ h => h) (Or.inl ⟨by rfl, ?_⟩) (by assumption) ?_
          rotate_left
          · intro wS hSw
            (try dsimp only at hSw)
            go_simp
            (try with_reducible rfl)
          (try simp only [Act.put, List.setIfInBounds_toArray, List.set_cons_zero, List.set_cons_succ])
          refine wpAnyH_take (i := 27) (oi := { dst := some 131, op := Go.Op.pick (Go.Operand.tmp 126) (Go.Operand.const (Go.Value.bool true)) (Go.Operand.tmp 130), type := 4, pos := "law.go:86", after := #[{ on := 22, ground := Go.Ground.data }, { on := 26, ground := Go.Ground.data }], guard := none }) (v := ?_) rfl (by kernel_rfl) (by kernel_rfl) (by kernel_rfl) (fun _ _ _ h => h) (Or.inl ⟨by rfl, ?_⟩) (by assumption) ?_
          rotate_left
          · intro wS hSw
            (try dsimp only at hSw)
            go_simp
            (try with_reducible rfl)
          (try simp only [Act.put, List.setIfInBounds_toArray, List.set_cons_zero, List.set_cons_succ])
          refine wpAnyH_take (i := 28) (oi := { dst := some 132, op := Go.Op.move (Go.Operand.tmp 131), type := 4, pos := "law.go:86", after := #[{ on := 27, ground := Go.Ground.data }, { on := 24, ground := Go.Ground.chain }], guard := none }) (v := ?_) rfl (by kernel_rfl) (by kernel_rfl) (by kernel_rfl) (fun _ _ _ h => h) (Or.inl ⟨by rfl, ?_⟩) (by assumption) ?_
          rotate_left
          · intro wS hSw
            (try dsimp only at hSw)
            go_simp
            (try with_reducible rfl)
          (try simp only [Act.put, List.setIfInBounds_toArray, List.set_cons_zero, List.set_cons_succ])
          refine wpAnyH_take (i := 29) (oi := { dst := some 133, op := Go.Op.move (Go.Operand.tmp 20), type := 31, pos := "law.go:86", after := #[{ on := 28, ground := Go.Ground.guard }], guard := some (28, false) }) (v := ?_) rfl (by kernel_rfl) (by kernel_rfl) (by kernel_rfl) (fun _ _ _ h => h) (Or.inl ⟨by rfl, ?_⟩) (by assumption) ?_
          rotate_left
          · intro wS hSw
            (try dsimp only at hSw)
            go_simp
            (try with_reducible rfl)
          (try simp only [Act.put, List.setIfInBounds_toArray, List.set_cons_zero, List.set_cons_succ])
          refine wpAnyH_take (i := 30) (oi := { dst := some 134, op := Go.Op.binOp Go.BinOp.eql 31 (Go.Operand.tmp 133) (Go.Operand.const Go.Value.nilIface) 31, type := 4, pos := "law.go:86", after := #[{ on := 29, ground := Go.Ground.data }, { on := 28, ground := Go.Ground.guard }], guard := some (28, false) }) (v := ?_) rfl (by kernel_rfl) (by kernel_rfl) (by kernel_rfl) (fun _ _ _ h => h) (Or.inl ⟨by rfl, ?_⟩) (by assumption) ?_
          rotate_left
          · intro wS hSw
            (try dsimp only at hSw)
            go_simp
            (try with_reducible rfl)
          (try simp only [Act.put, List.setIfInBounds_toArray, List.set_cons_zero, List.set_cons_succ])
          refine wpAnyH_take (i := 31) (oi := { dst := some 135, op := Go.Op.move (Go.Operand.tmp 21), type := 4, pos := "law.go:86", after := #[{ on := 28, ground := Go.Ground.guard }], guard := some (28, false) }) (v := ?_) rfl (by kernel_rfl) (by kernel_rfl) (by kernel_rfl) (fun _ _ _ h => h) (Or.inl ⟨by rfl, ?_⟩) (by assumption) ?_
          rotate_left
          · intro wS hSw
            (try dsimp only at hSw)
            go_simp
            (try with_reducible rfl)
          (try simp only [Act.put, List.setIfInBounds_toArray, List.set_cons_zero, List.set_cons_succ])
          refine wpAnyH_take (i := 32) (oi := { dst := some 136, op := Go.Op.binOp Go.BinOp.neq 4 (Go.Operand.tmp 134) (Go.Operand.tmp 135) 4, type := 4, pos := "law.go:86", after := #[{ on := 30, ground := Go.Ground.data }, { on := 31, ground := Go.Ground.data }, { on := 28, ground := Go.Ground.guard }], guard := some (28, false) }) (v := ?_) rfl (by kernel_rfl) (by kernel_rfl) (by kernel_rfl) (fun _ _ _ h => h) (Or.inl ⟨by rfl, ?_⟩) (by assumption) ?_
          rotate_left
          · intro wS hSw
            (try dsimp only at hSw)
            go_simp
            (try with_reducible rfl)
          (try simp only [Act.put, List.setIfInBounds_toArray, List.set_cons_zero, List.set_cons_succ])
          refine wpAnyH_take (i := 33) (oi := { dst := some 137, op := Go.Op.pick (Go.Operand.tmp 132) (Go.Operand.const (Go.Value.bool true)) (Go.Operand.tmp 136), type := 4, pos := "law.go:86", after := #[{ on := 28, ground := Go.Ground.data }, { on := 32, ground := Go.Ground.data }], guard := none }) (v := ?_) rfl (by kernel_rfl) (by kernel_rfl) (by kernel_rfl) (fun _ _ _ h => h) (Or.inl ⟨by rfl, ?_⟩) (by assumption) ?_
          rotate_left
          · intro wS hSw
            (try dsimp only at hSw)
            go_simp
            (try with_reducible rfl)
          (try simp only [Act.put, List.setIfInBounds_toArray, List.set_cons_zero, List.set_cons_succ])
          refine wpAnyH_take (i := 34) (oi := { dst := some 138, op := Go.Op.move (Go.Operand.tmp 137), type := 4, pos := "law.go:86", after := #[{ on := 33, ground := Go.Ground.data }, { on := 28, ground := Go.Ground.chain }], guard := none }) (v := ?_) rfl (by kernel_rfl) (by kernel_rfl) (by kernel_rfl) (fun _ _ _ h => h) (Or.inl ⟨by rfl, ?_⟩) (by assumption) ?_
          rotate_left
          · intro wS hSw
            (try dsimp only at hSw)
            go_simp
            (try with_reducible rfl)
          (try simp only [Act.put, List.setIfInBounds_toArray, List.set_cons_zero, List.set_cons_succ])
          refine wpAnyH_take (i := 35) (oi := { dst := some 139, op := Go.Op.load 36 (Go.Operand.tmp 8), type := 36, pos := "law.go:86", after := #[{ on := 34, ground := Go.Ground.guard }], guard := some (34, false) }) (v := ?_) rfl (by kernel_rfl) (by kernel_rfl) (by kernel_rfl) (fun _ _ _ h => h) (Or.inl ⟨by rfl, ?_⟩) (by assumption) ?_
          rotate_left
          · intro wS hSw
            (refine exec_loadM (x := .tmp 8) (cs := [.int .i64 K, .int .i64 N, .int .u32 (gen : Int), .string mk, .slice ob n cb]) ?_ ?_ (range5 (HXT.out.later hSw).x) Tryd.underlying36 rfl info_pg <;> rfl)
          (try simp only [Act.put, List.setIfInBounds_toArray, List.set_cons_zero, List.set_cons_succ])
          refine wpAnyH_take (i := 38) (oi := { dst := some 142, op := Go.Op.load 54 (Go.Operand.tmp 3), type := 54, pos := "law.go:86", after := #[{ on := 34, ground := Go.Ground.guard }], guard := some (34, false) }) (v := ?_) rfl (by kernel_rfl) (by kernel_rfl) (by kernel_rfl) (fun _ _ _ h => h) (Or.inl ⟨by rfl, ?_⟩) (by assumption) ?_
          rotate_left
          · intro wS hSw
            (refine exec_loadM (x := .tmp 3) (cs := [.int .i64 K, .int .i64 N, .int .u32 (gen : Int), .string mk, .slice oa n cs]) ?_ ?_ (range5 (HXT.out.later hSw).p) Tryd.underlying54 rfl info_pgR <;> rfl)
          (try simp only [Act.put, List.setIfInBounds_toArray, List.set_cons_zero, List.set_cons_succ])
          refine wpAnyH_ready (rs := [36]) (by kernel_rfl) (by simp) ?_
          refine AllReadyH.cons (o := { dst := some 140, op := Go.Op.call { callee := Go.Callee.value (Go.Operand.func 19), args := #[Go.Operand.tmp 139], argTypes := #[36] }, type := 31, pos := "law.go:86", after := #[{ on := 35, ground := Go.Ground.data }, { on := 34, ground := Go.Ground.chain }, { on := 34, ground := Go.Ground.guard }], guard := some (34, false) }) rfl (fun K hK => ?_) AllReadyH.nil
          go_simp
          (refine (HCK.out V24 HV.out).mono ?_; rintro e V36 ⟨rfl, hv⟩; have HV := Lib.hid (HV.out.trans (hv.mono HV.out.size)); clear hv; skip)
          (try go_wp2_with fail)
          refine hK.out _ _ ?_ (fun hHeld => ?_)
          · (try dsimp only)
            (first | exact Below.refl _ _ | assumption)
          clear hK K
          (try simp only [Act.put, List.setIfInBounds_toArray, List.set_cons_zero, List.set_cons_succ])
          refine wpAnyH_take (i := 37) (oi := { dst := some 141, op := Go.Op.binOp Go.BinOp.eql 31 (Go.Operand.tmp 140) (Go.Operand.const Go.Value.nilIface) 31, type := 4, pos := "law.go:86", after := #[{ on := 36, ground := Go.Ground.data }, { on := 34, ground := Go.Ground.guard }], guard := some (34, false) }) (v := ?_) rfl (by kernel_rfl) (by kernel_rfl) (by kernel_rfl) (fun _ _ _ h => h) (Or.inl ⟨by rfl, ?_⟩) (by assumption) ?_
          rotate_left
          · intro wS hSw
            (try dsimp only at hSw)
            go_simp
            (try with_reducible rfl)
          (try simp only [Act.put, List.setIfInBounds_toArray, List.set_cons_zero, List.set_cons_succ])
          refine wpAnyH_ready (rs := [39]) (by kernel_rfl) (by simp) ?_
          refine AllReadyH.cons (o := { dst := some 143, op := Go.Op.call { callee := Go.Callee.value (Go.Operand.func 17), args := #[Go.Operand.tmp 142], argTypes := #[54] }, type := 4, pos := "law.go:86", after := #[{ on := 38, ground := Go.Ground.data }, { on := 36, ground := Go.Ground.chain }, { on := 34, ground := Go.Ground.guard }], guard := some (34, false) }) rfl (fun K hK => ?_) AllReadyH.nil
          go_simp
          (refine (HMY.out V36 HV.out).mono ?_; rintro e V39 ⟨rfl, hv⟩; have HV := Lib.hid (HV.out.trans (hv.mono HV.out.size)); clear hv; skip)
          (try go_wp2_with fail)
          refine hK.out _ _ ?_ (fun hHeld => ?_)
          · (try dsimp only)
            (first | exact Below.refl _ _ | assumption)
          clear hK K
          (try simp only [Act.put, List.setIfInBounds_toArray, List.set_cons_zero, List.set_cons_succ])
          refine wpAnyH_take (i := 40) (oi := { dst := some 144, op := Go.Op.binOp Go.BinOp.neq 4 (Go.Operand.tmp 141) (Go.Operand.tmp 143) 4, type := 4, pos := "law.go:86", after := #[{ on := 37, ground := Go.Ground.data }, { on := 39, ground := Go.Ground.data }, { on := 34, ground := Go.Ground.guard }], guard := some (34, false) }) (v := ?_) rfl (by kernel_rfl) (by kernel_rfl) (by kernel_rfl) (fun _ _ _ h => h) (Or.inl ⟨by rfl, ?_⟩) (by assumption) ?_
          rotate_left
          · intro wS hSw
            (try dsimp only at hSw)
            go_simp
            (try with_reducible rfl)
          (try simp only [Act.put, List.setIfInBounds_toArray, List.set_cons_zero, List.set_cons_succ])
          refine wpAnyH_take (i := 41) (oi := { dst := some 145, op := Go.Op.pick (Go.Operand.tmp 138) (Go.Operand.const (Go.Value.bool true)) (Go.Operand.tmp 144), type := 4, pos := "law.go:86", after := #[{ on := 34, ground := Go.Ground.data }, { on := 40, ground := Go.Ground.data }], guard := none }) (v := ?_) rfl (by kernel_rfl) (by kernel_rfl) (by kernel_rfl) (fun _ _ _ h => h) (Or.inl ⟨by rfl, ?_⟩) (by assumption) ?_
          rotate_left
          · intro wS hSw
            (try dsimp only at hSw)
            go_simp
            (try with_reducible rfl)
          (try simp only [Act.put, List.setIfInBounds_toArray, List.set_cons_zero, List.set_cons_succ])
          refine wpAnyH_take (i := 42) (oi := { dst := some 146, op := Go.Op.move (Go.Operand.tmp 145), type := 4, pos := "law.go:86", after := #[{ on := 41, ground := Go.Ground.data }, { on := 39, ground := Go.Ground.chain }], guard := none }) (v := ?_) rfl (by kernel_rfl) (by kernel_rfl) (by kernel_rfl) (fun _ _ _ h => h) (Or.inl ⟨by rfl, ?_⟩) (by assumption) ?_
          rotate_left
          · intro wS hSw
            (try dsimp only at hSw)
            go_simp
            (try with_reducible rfl)
          (try simp only [Act.put, List.setIfInBounds_toArray, List.set_cons_zero, List.set_cons_succ])
          refine wpAnyH_take (i := 43) (oi := { dst := some 147, op := Go.Op.load 36 (Go.Operand.tmp 8), type := 36, pos := "law.go:86", after := #[{ on := 42, ground := Go.Ground.guard }], guard := some (42, false) }) (v := ?_) rfl (by kernel_rfl) (by kernel_rfl) (by kernel_rfl) (fun _ _ _ h => h) (Or.inl ⟨by rfl, ?_⟩) (by assumption) ?_
          rotate_left
          · intro wS hSw
            (refine exec_loadM (x := .tmp 8) (cs := [.int .i64 K, .int .i64 N, .int .u32 (gen : Int), .string mk, .slice ob n cb]) ?_ ?_ (range5 (HXT.out.later hSw).x) Tryd.underlying36 rfl info_pg <;> rfl)
          (try simp only [Act.put, List.setIfInBounds_toArray, List.set_cons_zero, List.set_cons_succ])
          refine wpAnyH_take (i := 44) (oi := { dst := some 148, op := Go.Op.load 54 (Go.Operand.tmp 3), type := 54, pos := "law.go:86", after := #[{ on := 42, ground := Go.Ground.guard }], guard := some (42, false) }) (v := ?_) rfl (by kernel_rfl) (by kernel_rfl) (by kernel_rfl) (fun _ _ _ h => h) (Or.inl ⟨by rfl, ?_⟩) (by assumption) ?_
          rotate_left
          · intro wS hSw
            (refine exec_loadM (x := .tmp 3) (cs := [.int .i64 K, .int .i64 N, .int .u32 (gen : Int), .string mk, .slice oa n cs]) ?_ ?_ (range5 (HXT.out.later hSw).p) Tryd.underlying54 rfl info_pgR <;> rfl)
          (try simp only [Act.put, List.setIfInBounds_toArray, List.set_cons_zero, List.set_cons_succ])
          refine wpAnyH_ready (rs := [45]) (by kernel_rfl) (by simp) ?_
          refine AllReadyH.cons (o := { dst := some 149, op := Go.Op.call { callee := Go.Callee.value (Go.Operand.func 18), args := #[Go.Operand.tmp 147, Go.Operand.tmp 148], argTypes := #[36, 54] }, type := 4, pos := "law.go:86", after := #[{ on := 43, ground := Go.Ground.data }, { on := 44, ground := Go.Ground.data }, { on := 42, ground := Go.Ground.chain }, { on := 42, ground := Go.Ground.guard }], guard := some (42, false) }) rfl (fun K hK => ?_) AllReadyH.nil
          go_simp
          (refine (HIP.out V39 HV.out).mono ?_; rintro e V45 ⟨rfl, hv⟩; have HV := Lib.hid (HV.out.trans (hv.mono HV.out.size)); clear hv; skip)
          (try go_wp2_with fail)
          refine hK.out _ _ ?_ (fun hHeld => ?_)
          · (try dsimp only)
            (first | exact Below.refl _ _ | assumption)
          clear hK K
          (try simp only [Act.put, List.setIfInBounds_toArray, List.set_cons_zero, List.set_cons_succ])
          refine wpAnyH_take (i := 46) (oi := { dst := some 150, op := Go.Op.unOp Go.UnOp.not 4 (Go.Operand.tmp 149), type := 4, pos := "law.go:86", after := #[{ on := 45, ground := Go.Ground.data }, { on := 42, ground := Go.Ground.guard }], guard := some (42, false) }) (v := ?_) rfl (by kernel_rfl) (by kernel_rfl) (by kernel_rfl) (fun _ _ _ h => h) (Or.inl ⟨by rfl, ?_⟩) (by assumption) ?_
          rotate_left
          · intro wS hSw
            (try dsimp only at hSw)
            go_simp
            (try with_reducible rfl)
          (try simp only [Act.put, List.setIfInBounds_toArray, List.set_cons_zero, List.set_cons_succ])
          refine wpAnyH_take (i := 47) (oi := { dst := some 151, op := Go.Op.pick (Go.Operand.tmp 146) (Go.Operand.const (Go.Value.bool true)) (Go.Operand.tmp 150), type := 4, pos := "law.go:86", after := #[{ on := 42, ground := Go.Ground.data }, { on := 46, ground := Go.Ground.data }], guard := none }) (v := ?_) rfl (by kernel_rfl) (by kernel_rfl) (by kernel_rfl) (fun _ _ _ h => h) (Or.inl ⟨by rfl, ?_⟩) (by assumption) ?_
          rotate_left
          · intro wS hSw
            (try dsimp only at hSw)
            go_simp
            (try with_reducible rfl)
          (try simp only [Act.put, List.setIfInBounds_toArray, List.set_cons_zero, List.set_cons_succ])
          refine wpAnyH_done (by kernel_rfl) ?_ _
          have hv := HV.out
          have hx := (HXT.out.later hv).x
          have hn := Blk.below HNT.out hv (Blk.lt HNT.out)
          have HE1 := Lib.hid (HXT.out.later hv).b
          have HR8 := Lib.hid (pg_plan hx)
          have HR22 := Lib.hid (pg_plan hn)
          have m8 := pg_mk hx
          have m22 := pg_mk hn
          have q22 := pg_sl hn
          have he := eq_plan K N (gen : Int) V45
          have hs9 := Blk.below HST9.out hv (Blk.lt HST9.out)
          have HR19 := Lib.hid (pg_plan hs9)
          have m19 := pg_mk hs9
          clear hs9
          clear hv hx hn HXT HRAT HRBT HAT HDT HST9 HNT HC2T HC3T HV HCK HMY HIP
          go_wp2_with (first | (refine wpList_valueG (by rfl) (exec_loadM (x := .tmp 157) (cs := [.int .i64 K, .int .i64 N, .int .u32 (gen : Int)]) rfl rfl HR22.out Tryd.underlying26 rfl info_plan3) ?_) | ((refine wpList_valueG (by rfl) (exec_loadM (x := .tmp 159) (cs := [.int .i64 K, .int .i64 N, .int .u32 (gen : Int)]) rfl rfl HR8.out Tryd.underlying26 rfl info_plan3) ?_); refine Hid.out ?_))
          refine Lib.hid ?_
          go_wp2_with (first | (refine wpList_valueG (by rfl) (exec_loadM (x := .tmp 174) (cs := [.int .i64 K, .int .i64 N, .int .u32 (gen : Int)]) rfl rfl HR19.out Tryd.underlying26 rfl info_plan3) ?_) | (refine wpList_valueG (by rfl) (exec_loadM (x := .tmp 176) (cs := [.int .i64 K, .int .i64 N, .int .u32 (gen : Int)]) rfl rfl HR8.out Tryd.underlying26 rfl info_plan3) ?_))
          refine (HSU.out V45 HE1.out).mono ?_
          rintro e W17 ⟨rfl, hb⟩
          have HE3 := Lib.hid (HE1.out.trans (hb.mono HE1.out.size))
          clear hb
          go_wp2_with fail
          go_ret
          exact ⟨rfl, HE3.out⟩
      · skip
        have HMAY := Lib.hid hmay
        have HST : Hid (∀ A, Calls Tryd.prog 8 #[.agg #[.int .i64 K, .int .i64 N, .int .u32 (gen : Int)], .string mark] A fun e w' => e = .returned (.tuple #[.agg #[.int .i64 0, .int .i64 0, .int .u32 0, .string ⟨#[]⟩, .slice none 0 0], .iface 83 (.int .i64 1)]) ∧ Below A.heap.size A w') := Lib.hid fun A => by
          refine (start_any K N gen mark A (by have := HNN.out; omega)).mono ?_
          rintro e w' ⟨(⟨he, hm⟩ | ⟨he, hm⟩), hb⟩
          · exact absurd (hm _) HMAY.out
          · exact ⟨he, hb⟩
        have HMQ : Hid (∀ A, Calls Tryd.prog 17 #[.agg #[.int .i64 K, .int .i64 N, .int .u32 (gen : Int), .string mark, .slice none 0 0]] A fun e w' => e = .returned (.bool false) ∧ Below A.heap.size A w') := Lib.hid fun A => by
          refine (rmay_pg 0 K N gen 0 0 mark none (fun _ => default) A (fun i hi => absurd hi (Nat.not_lt_zero _)) (fun i hi => absurd hi (Nat.not_lt_zero _)) (by decide) (Nat.le_refl _) (by have := HNN.out; omega)).mono ?_
          rintro e w' ⟨(⟨he, hm⟩ | ⟨he, hm⟩), hb⟩
          · exact absurd hm HMAY.out
          · exact ⟨he, hb⟩
        clear hmay
        go_wp2_with (first | (refine wpList_value rfl (exec_loadM (x := .tmp 91) (cs := [.int .i64 K, .int .i64 N, .int .u32 (gen : Int)]) rfl rfl HP8.out Tryd.underlying26 rfl info_plan3) ?_))
        refine (HST.out w8).mono ?_
        rintro e w9 ⟨rfl, hb⟩
        obtain ⟨b19, hqb19⟩ : ∃ y, w9.heap.size = y := ⟨_, rfl⟩
        obtain ⟨wz19, hwz19⟩ : ∃ y, w9.alloc (.cells #[.int .i64 0, .int .i64 0, .int .u32 0, .string ⟨#[]⟩, .slice none 0 0] 36) = y := ⟨_, rfl⟩
        have hbz : Below w9.heap.size w9 wz19 := by rw [← hwz19]; exact (Below.refl _ _).alloc (Nat.le_refl _) _
        have hXz : Blk wz19 b19 #[.int .i64 0, .int .i64 0, .int .u32 0, .string ⟨#[]⟩, .slice none 0 0] 36 := by rw [← hwz19, ← hqb19]; exact Blk.new _ _ _
        have HTZb19 : Hid (wz19.there b19 0 5) := Lib.hid (hXz.there (by decide))
        obtain ⟨w10, hw5⟩ : ∃ y, wz19.setCells b19 0 [.int .i64 0, .int .i64 0, .int .u32 0, .string ⟨#[]⟩, .slice none 0 0] = y := ⟨_, rfl⟩
        have hOz : Own b19 wz19 w10 := by rw [← hw5]; exact Own.setCells _ _ _
        have HBw10 : Hid (Below w9.heap.size w9 w10) := Lib.hid (hbz.trans (hOz.below (by omega) hbz.size))
        have HNw10 : Hid (Blk w10 b19 #[.int .i64 0, .int .i64 0, .int .u32 0, .string ⟨#[]⟩, .slice none 0 0] 36) := Lib.hid (by rw [← hw5]; exact hXz.whole5 rfl _ _ _ _ _)
        have HWw10 := Lib.hid hw5
        clear hbz hXz hOz hw5
        have HX10 := Lib.hid ((HX8.out.later hb).later HBw10.out)
        have HRA10 := Lib.hid ((HRA8.out.later hb).later HBw10.out)
        have HRB10 := Lib.hid ((HRB8.out.later hb).later HBw10.out)
        have HA10 := Lib.hid (Blk.below (Blk.below HA8.out hb (Blk.lt HA8.out)) HBw10.out (Blk.lt (Blk.below HA8.out hb (Blk.lt HA8.out))))
        have HD10 := Lib.hid (Blk.below (Blk.below HD8.out hb (Blk.lt HD8.out)) HBw10.out (Blk.lt (Blk.below HD8.out hb (Blk.lt HD8.out))))
        have HC2 := Lib.hid ((HCV28.out.later hb).later HBw10.out)
        have HC3 := Lib.hid ((HCV38.out.later hb).later HBw10.out)
        have HP10 := Lib.hid (pg_plan HX10.out.p)
        clear hb HX8 HRA8 HRB8 HA8 HD8 HCV28 HCV38 HP8
        go_wp2_with (first | (refine wpList_zero rfl rfl zpg_run ?_; rw [hwz19, hqb19]; (try simp only [Act.put, List.setIfInBounds_toArray, List.set_cons_zero, List.set_cons_succ])) | (refine wpList_store_mid rfl 36 (.tmp 19) (.tmp 95) rfl b19 0 #[.int .i64 0, .int .i64 0, .int .u32 0, .string ⟨#[]⟩, .slice none 0 0] rfl rfl HTZb19.out info_pg (one_pg _ _ _ _ _ _ _) ?_; rw [HWw10.out]) | (refine wpList_value rfl (exec_loadM (x := .tmp 97) (cs := [.int .i64 K, .int .i64 N, .int .u32 (gen : Int)]) rfl rfl HP10.out Tryd.underlying51 rfl info_rplan3) ?_) | (refine wpList_value rfl (exec_buildM (parts := #[(0, .tmp 98), (1, .tmp 99)]) (ps := #[(0, .agg #[.int .i64 K, .int .i64 N, .int .u32 (gen : Int)]), (1, .string mark)]) rfl rfl (build_pgR K N gen mark)) ?_))
        refine (HMQ.out w10).mono ?_
        rintro e w11 ⟨rfl, hb⟩
        have HX11 := Lib.hid (HX10.out.later hb)
        have HRA11 := Lib.hid (HRA10.out.later hb)
        have HRB11 := Lib.hid (HRB10.out.later hb)
        have HA11 := Lib.hid (Blk.below HA10.out hb (Blk.lt HA10.out))
        have HD11 := Lib.hid (Blk.below HD10.out hb (Blk.lt HD10.out))
        have HS11 := Lib.hid (Blk.below HNw10.out hb (Blk.lt HNw10.out))
        have HC21 := Lib.hid (HC2.out.later hb)
        have HC31 := Lib.hid (HC3.out.later hb)
        have HRX11 := Lib.hid (range5 HX11.out.x)
        clear hb HX10 HRA10 HRB10 HA10 HD10 HC2 HC3 HP10
        go_wp2_with (first | (refine wpList_value rfl (exec_loadM (x := .tmp 8) (cs := [.int .i64 K, .int .i64 N, .int .u32 (gen : Int), .string mk, .slice ob n cb]) rfl rfl HRX11.out Tryd.underlying36 rfl info_pg) ?_))
        refine (reset_any K N gen n cb mk ob w11).mono ?_
        rintro e w12 ⟨rfl, hb⟩
        obtain ⟨b22, hqb22⟩ : ∃ y, w12.heap.size = y := ⟨_, rfl⟩
        obtain ⟨wz22, hwz22⟩ : ∃ y, w12.alloc (.cells #[.int .i64 0, .int .i64 0, .int .u32 0, .string ⟨#[]⟩, .slice none 0 0] 36) = y := ⟨_, rfl⟩
        have hbz : Below w12.heap.size w12 wz22 := by rw [← hwz22]; exact (Below.refl _ _).alloc (Nat.le_refl _) _
        have hXz : Blk wz22 b22 #[.int .i64 0, .int .i64 0, .int .u32 0, .string ⟨#[]⟩, .slice none 0 0] 36 := by rw [← hwz22, ← hqb22]; exact Blk.new _ _ _
        have HTZb22 : Hid (wz22.there b22 0 5) := Lib.hid (hXz.there (by decide))
        obtain ⟨w13, hw5⟩ : ∃ y, wz22.setCells b22 0 [.int .i64 K, .int .i64 N, .int .u32 (gen : Int), .string mk, .slice none 0 0] = y := ⟨_, rfl⟩
        have hOz : Own b22 wz22 w13 := by rw [← hw5]; exact Own.setCells _ _ _
        have HBw13 : Hid (Below w12.heap.size w12 w13) := Lib.hid (hbz.trans (hOz.below (by omega) hbz.size))
        have HNw13 : Hid (Blk w13 b22 #[.int .i64 K, .int .i64 N, .int .u32 (gen : Int), .string mk, .slice none 0 0] 36) := Lib.hid (by rw [← hw5]; exact hXz.whole5 rfl _ _ _ _ _)
        have HWw13 := Lib.hid hw5
        clear hbz hXz hOz hw5
        have HX13 := Lib.hid ((HX11.out.later hb).later HBw13.out)
        have HRA13 := Lib.hid ((HRA11.out.later hb).later HBw13.out)
        have HRB13 := Lib.hid ((HRB11.out.later hb).later HBw13.out)
        have HA13 := Lib.hid (Blk.below (Blk.below HA11.out hb (Blk.lt HA11.out)) HBw13.out (Blk.lt (Blk.below HA11.out hb (Blk.lt HA11.out))))
        have HD13 := Lib.hid (Blk.below (Blk.below HD11.out hb (Blk.lt HD11.out)) HBw13.out (Blk.lt (Blk.below HD11.out hb (Blk.lt HD11.out))))
        have HS13 := Lib.hid (Blk.below (Blk.below HS11.out hb (Blk.lt HS11.out)) HBw13.out (Blk.lt (Blk.below HS11.out hb (Blk.lt HS11.out))))
        have HC23 := Lib.hid ((HC21.out.later hb).later HBw13.out)
        have HC33 := Lib.hid ((HC31.out.later hb).later HBw13.out)
        clear hb HX11 HRA11 HRB11 HA11 HD11 HS11 HC21 HC31 HRX11
        go_upto_region 16 with (first | (refine wpList_zero rfl rfl zpg_run ?_; rw [hwz22, hqb22]; (try simp only [Act.put, List.setIfInBounds_toArray, List.set_cons_zero, List.set_cons_succ])) | (refine wpList_store_mid rfl 36 (.tmp 22) (.tmp 103) rfl b22 0 #[.int .i64 K, .int .i64 N, .int .u32 (gen : Int), .string mk, .slice none 0 0] rfl rfl HTZb22.out info_pg (one_pg _ _ _ _ _ _ _) ?_; rw [HWw13.out]))
        have hdt := (Below.refl w13.heap.size w13).drew
        have HXT := Lib.hid (HX13.out.later hdt)
        have HRAT := Lib.hid (HRA13.out.later hdt)
        have HRBT := Lib.hid (HRB13.out.later hdt)
        have HAT := Lib.hid (Blk.below HA13.out hdt (Blk.lt HA13.out))
        have HDT := Lib.hid (Blk.below HD13.out hdt (Blk.lt HD13.out))
        have HST9 := Lib.hid (Blk.below HS13.out hdt (Blk.lt HS13.out))
        have HNT := Lib.hid (Blk.below HNw13.out hdt (Blk.lt HNw13.out))
        have HC2T := Lib.hid (HC23.out.later hdt)
        have HC3T := Lib.hid (HC33.out.later hdt)
        have HBX := Lib.hid HXD.out.b.size
        clear hdt HX13 HRA13 HRB13 HA13 HD13 HS13 HC23 HC33
        by_cases hmg : MayG K N gen S n mk.size
        · skip
          have HCK : Hid (∀ A, Below w13.drew.heap.size w13.drew A → Calls Tryd.prog 19 #[.agg #[.int .i64 K, .int .i64 N, .int .u32 (gen : Int), .string mk, .slice ob n cb]] A fun e w' => e = .returned (.nilIface) ∧ Below A.heap.size A w') := Lib.hid fun A hA => by
            refine (check_pg WR.heap.size K N gen n cb mk ob S A (HXT.out.later hA).r HIX.out (by have := HNN.out; omega) HNB.out.1 (by have := HNN.out; omega)).mono ?_
            rintro e w' ⟨(⟨he, hm⟩ | ⟨he, hm⟩), hb⟩
            · exact ⟨he, hb⟩
            · exact absurd hmg hm
          have HMY : Hid (∀ A, Below w13.drew.heap.size w13.drew A → Calls Tryd.prog 17 #[.agg #[.int .i64 K, .int .i64 N, .int .u32 (gen : Int), .string mk, .slice oa n cs]] A fun e w' => e = .returned (.bool true) ∧ Below A.heap.size A w') := Lib.hid fun A hA => by
            refine (rmay_pg w.heap.size K N gen n cs mk oa S A (HSS.out.later (HXT.out.later hA).b) HIX.out (by have := HNN.out; omega) HNC.out.1 (by have := HNN.out; omega)).mono ?_
            rintro e w' ⟨(⟨he, hm⟩ | ⟨he, hm⟩), hb⟩
            · exact ⟨he, hb⟩
            · exact absurd hmg hm
          have HIP : Hid (∀ A, Below w13.drew.heap.size w13.drew A → Calls Tryd.prog 18 #[.agg #[.int .i64 K, .int .i64 N, .int .u32 (gen : Int), .string mk, .slice ob n cb], .agg #[.int .i64 K, .int .i64 N, .int .u32 (gen : Int), .string mk, .slice oa n cs]] A fun e w' => e = .returned (.bool true) ∧ Below A.heap.size A w') := Lib.hid fun A hA => isprog_any WR.heap.size K N gen n cb cs mk ob oa S A (HXT.out.later hA).r ((HSS.out.fresh2 HBX.out).later (HXT.out.later hA).b) (by have := HNN.out; omega)
          clear hmg
          refine wp_region_held_drew (S := (Below w13.drew.heap.size w13.drew)) (by kernel_rfl) ?_ (fun hHeld => ?_)
          · (try dsimp only)
            (first | exact Below.refl _ _ | assumption)
          generalize w13.drew = WT at *
          refine wpAnyH_take (i := 0) (oi := { dst := some 104, op := Go.Op.load 36 (Go.Operand.tmp 9), type := 36, pos := "law.go:86", after := #[], guard := none }) (v := ?_) rfl (by kernel_rfl) (by kernel_rfl) (by kernel_rfl) (fun _ _ _ h => h) (Or.inl ⟨by rfl, ?_⟩) (by assumption) ?_
          rotate_left
          · intro wS hSw
            (refine exec_loadM (x := .tmp 9) (cs := [.int .i64 Ko, .int .i64 No, .int .u32 (geno : Int), .string mko, .slice oq no cq]) ?_ ?_ (range5 (Blk.below HAT.out hSw (Blk.lt HAT.out))) Tryd.underlying36 rfl info_pg <;> rfl)
          (try simp only [Act.put, List.setIfInBounds_toArray, List.set_cons_zero, List.set_cons_succ])
          refine wpAnyH_take (i := 1) (oi := { dst := some 105, op := Go.Op.load 54 (Go.Operand.tmp 12), type := 54, pos := "law.go:86", after := #[], guard := none }) (v := ?_) rfl (by kernel_rfl) (by kernel_rfl) (by kernel_rfl) (fun _ _ _ h => h) (Or.inl ⟨by rfl, ?_⟩) (by assumption) ?_
          rotate_left
          · intro wS hSw
            (refine exec_loadM (x := .tmp 12) (cs := [.int .i64 Ko, .int .i64 No, .int .u32 (geno : Int), .string mko, .slice oz no cz]) ?_ ?_ (range5 (Blk.below HDT.out hSw (Blk.lt HDT.out))) Tryd.underlying54 rfl info_pgR <;> rfl)
          (try simp only [Act.put, List.setIfInBounds_toArray, List.set_cons_zero, List.set_cons_succ])
          refine wpAnyH_ready (rs := [2]) (by kernel_rfl) (by simp) ?_
          refine AllReadyH.cons (o := { dst := some 106, op := Go.Op.call { callee := Go.Callee.value (Go.Operand.func 18), args := #[Go.Operand.tmp 104, Go.Operand.tmp 105], argTypes := #[36, 54] }, type := 4, pos := "law.go:86", after := #[{ on := 0, ground := Go.Ground.data }, { on := 1, ground := Go.Ground.data }], guard := none }) rfl (fun K hK => ?_) AllReadyH.nil
          go_simp
          (refine (isprog_any _ Ko No geno no cq cz mko oq oz So WT HRAT.out HRBT.out HNO.out).mono ?_; rintro e V2 ⟨rfl, hv⟩; have HV := Lib.hid hv; clear hv; skip)
          (try go_wp2_with fail)
          refine hK.out _ _ ?_ (fun hHeld => ?_)
          · (try dsimp only)
            (first | exact Below.refl _ _ | assumption)
          clear hK K
          (try simp only [Act.put, List.setIfInBounds_toArray, List.set_cons_zero, List.set_cons_succ])
          refine wpAnyH_take (i := 3) (oi := { dst := some 107, op := Go.Op.unOp Go.UnOp.not 4 (Go.Operand.tmp 106), type := 4, pos := "law.go:86", after := #[{ on := 2, ground := Go.Ground.data }], guard := none }) (v := ?_) rfl (by kernel_rfl) (by kernel_rfl) (by kernel_rfl) (fun _ _ _ h => h) (Or.inl ⟨by rfl, ?_⟩) (by assumption) ?_
          rotate_left
          · intro wS hSw
            (try dsimp only at hSw)
            go_simp
            (try with_reducible rfl)
          (try simp only [Act.put, List.setIfInBounds_toArray, List.set_cons_zero, List.set_cons_succ])
          refine wpAnyH_take (i := 4) (oi := { dst := some 108, op := Go.Op.move (Go.Operand.tmp 107), type := 4, pos := "law.go:86", after := #[{ on := 3, ground := Go.Ground.data }, { on := 2, ground := Go.Ground.chain }], guard := none }) (v := ?_) rfl (by kernel_rfl) (by kernel_rfl) (by kernel_rfl) (fun _ _ _ h => h) (Or.inl ⟨by rfl, ?_⟩) (by assumption) ?_
          rotate_left
          · intro wS hSw
            (try dsimp only at hSw)
            go_simp
            (try with_reducible rfl)
          (try simp only [Act.put, List.setIfInBounds_toArray, List.set_cons_zero, List.set_cons_succ])
          refine wpAnyH_take (i := 5) (oi := { dst := some 109, op := Go.Op.move (Go.Operand.tmp 10), type := 4, pos := "law.go:86", after := #[{ on := 4, ground := Go.Ground.guard }], guard := some (4, false) }) (v := ?_) rfl (by kernel_rfl) (by kernel_rfl) (by kernel_rfl) (fun _ _ _ h => h) (Or.inl ⟨by rfl, ?_⟩) (by assumption) ?_
          rotate_left
          · intro wS hSw
            (try dsimp only at hSw)
            go_simp
            (try with_reducible rfl)
          (try simp only [Act.put, List.setIfInBounds_toArray, List.set_cons_zero, List.set_cons_succ])
          refine wpAnyH_take (i := 6) (oi := { dst := some 110, op := Go.Op.move (Go.Operand.tmp 13), type := 4, pos := "law.go:86", after := #[{ on := 4, ground := Go.Ground.guard }], guard := some (4, false) }) (v := ?_) rfl (by kernel_rfl) (by kernel_rfl) (by kernel_rfl) (fun _ _ _ h => h) (Or.inl ⟨by rfl, ?_⟩) (by assumption) ?_
          rotate_left
          · intro wS hSw
            (try dsimp only at hSw)
            go_simp
            (try with_reducible rfl)
          (try simp only [Act.put, List.setIfInBounds_toArray, List.set_cons_zero, List.set_cons_succ])
          refine wpAnyH_take (i := 7) (oi := { dst := some 111, op := Go.Op.binOp Go.BinOp.neq 4 (Go.Operand.tmp 109) (Go.Operand.tmp 110) 4, type := 4, pos := "law.go:86", after := #[{ on := 5, ground := Go.Ground.data }, { on := 6, ground := Go.Ground.data }, { on := 4, ground := Go.Ground.guard }], guard := some (4, false) }) (v := ?_) rfl (by kernel_rfl) (by kernel_rfl) (by kernel_rfl) (fun _ _ _ h => h) (Or.inl ⟨by rfl, ?_⟩) (by assumption) ?_
          rotate_left
          · intro wS hSw
            (try dsimp only at hSw)
            go_simp
            (try with_reducible rfl)
          (try simp only [Act.put, List.setIfInBounds_toArray, List.set_cons_zero, List.set_cons_succ])
          refine wpAnyH_take (i := 8) (oi := { dst := some 112, op := Go.Op.pick (Go.Operand.tmp 108) (Go.Operand.const (Go.Value.bool true)) (Go.Operand.tmp 111), type := 4, pos := "law.go:86", after := #[{ on := 4, ground := Go.Ground.data }, { on := 7, ground := Go.Ground.data }], guard := none }) (v := ?_) rfl (by kernel_rfl) (by kernel_rfl) (by kernel_rfl) (fun _ _ _ h => h) (Or.inl ⟨by rfl, ?_⟩) (by assumption) ?_
          rotate_left
          · intro wS hSw
            (try dsimp only at hSw)
            go_simp
            (try with_reducible rfl)
          (try simp only [Act.put, List.setIfInBounds_toArray, List.set_cons_zero, List.set_cons_succ])
          refine wpAnyH_take (i := 9) (oi := { dst := some 113, op := Go.Op.move (Go.Operand.tmp 112), type := 4, pos := "law.go:86", after := #[{ on := 8, ground := Go.Ground.data }, { on := 4, ground := Go.Ground.chain }], guard := none }) (v := ?_) rfl (by kernel_rfl) (by kernel_rfl) (by kernel_rfl) (fun _ _ _ h => h) (Or.inl ⟨by rfl, ?_⟩) (by assumption) ?_
          rotate_left
          · intro wS hSw
            (try dsimp only at hSw)
            go_simp
            (try with_reducible rfl)
          (try simp only [Act.put, List.setIfInBounds_toArray, List.set_cons_zero, List.set_cons_succ])
          refine wpAnyH_take (i := 10) (oi := { dst := some 114, op := Go.Op.move (Go.Operand.tmp 11), type := 31, pos := "law.go:86", after := #[{ on := 9, ground := Go.Ground.guard }], guard := some (9, false) }) (v := ?_) rfl (by kernel_rfl) (by kernel_rfl) (by kernel_rfl) (fun _ _ _ h => h) (Or.inl ⟨by rfl, ?_⟩) (by assumption) ?_
          rotate_left
          · intro wS hSw
            (try dsimp only at hSw)
            go_simp
            (try with_reducible rfl)
          (try simp only [Act.put, List.setIfInBounds_toArray, List.set_cons_zero, List.set_cons_succ])
          refine wpAnyH_take (i := 12) (oi := { dst := some 116, op := Go.Op.move (Go.Operand.tmp 14), type := 3, pos := "law.go:86", after := #[{ on := 9, ground := Go.Ground.guard }], guard := some (9, false) }) (v := ?_) rfl (by kernel_rfl) (by kernel_rfl) (by kernel_rfl) (fun _ _ _ h => h) (Or.inl ⟨by rfl, ?_⟩) (by assumption) ?_
          rotate_left
          · intro wS hSw
            (try dsimp only at hSw)
            go_simp
            (try with_reducible rfl)
          (try simp only [Act.put, List.setIfInBounds_toArray, List.set_cons_zero, List.set_cons_succ])
          refine wpAnyH_ready (rs := [11]) (by kernel_rfl) (by simp) ?_
          refine AllReadyH.cons (o := { dst := some 115, op := Go.Op.call { callee := Go.Callee.value (Go.Operand.func 11), args := #[Go.Operand.tmp 114], argTypes := #[31] }, type := 3, pos := "law.go:86", after := #[{ on := 10, ground := Go.Ground.data }, { on := 9, ground := Go.Ground.chain }, { on := 9, ground := Go.Ground.guard }], guard := some (9, false) }) rfl (fun K hK => ?_) AllReadyH.nil
          go_simp
          (refine (num_ev HEV.out V2 (HG.out V2 (HXT.out.later HV.out).b)).mono ?_; rintro e V11 ⟨rfl, hv⟩; have HV := Lib.hid (HV.out.trans (hv.mono HV.out.size)); clear hv; skip)
          (try go_wp2_with fail)
          refine hK.out _ _ ?_ (fun hHeld => ?_)
          · (try dsimp only)
            (first | exact Below.refl _ _ | assumption)
          clear hK K
          (try simp only [Act.put, List.setIfInBounds_toArray, List.set_cons_zero, List.set_cons_succ])
          refine wpAnyH_take (i := 13) (oi := { dst := some 117, op := Go.Op.binOp Go.BinOp.neq 3 (Go.Operand.tmp 115) (Go.Operand.tmp 116) 3, type := 4, pos := "law.go:86", after := #[{ on := 11, ground := Go.Ground.data }, { on := 12, ground := Go.Ground.data }, { on := 9, ground := Go.Ground.guard }], guard := some (9, false) }) (v := ?_) rfl (by kernel_rfl) (by kernel_rfl) (by kernel_rfl) (fun _ _ _ h => h) (Or.inl ⟨by rfl, ?_⟩) (by assumption) ?_
          rotate_left
          · intro wS hSw
            (try dsimp only at hSw)
            go_simp
            (try with_reducible rfl)
          (try simp only [Act.put, List.setIfInBounds_toArray, List.set_cons_zero, List.set_cons_succ])
          refine wpAnyH_take (i := 14) (oi := { dst := some 118, op := Go.Op.pick (Go.Operand.tmp 113) (Go.Operand.const (Go.Value.bool true)) (Go.Operand.tmp 117), type := 4, pos := "law.go:86", after := #[{ on := 9, ground := Go.Ground.data }, { on := 13, ground := Go.Ground.data }], guard := none }) (v := ?_) rfl (by kernel_rfl) (by kernel_rfl) (by kernel_rfl) (fun _ _ _ h => h) (Or.inl ⟨by rfl, ?_⟩) (by assumption) ?_
          rotate_left
          · intro wS hSw
            (try dsimp only at hSw)
            go_simp
            (try with_reducible rfl)
          (try simp only [Act.put, List.setIfInBounds_toArray, List.set_cons_zero, List.set_cons_succ])
          refine wpAnyH_take (i := 15) (oi := { dst := some 119, op := Go.Op.move (Go.Operand.tmp 118), type := 4, pos := "law.go:86", after := #[{ on := 14, ground := Go.Ground.data }, { on := 11, ground := Go.Ground.chain }], guard := none }) (v := ?_) rfl (by kernel_rfl) (by kernel_rfl) (by kernel_rfl) (fun _ _ _ h => h) (Or.inl ⟨by rfl, ?_⟩) (by assumption) ?_
          rotate_left
          · intro wS hSw
            (try dsimp only at hSw)
            go_simp
            (try with_reducible rfl)
          (try simp only [Act.put, List.setIfInBounds_toArray, List.set_cons_zero, List.set_cons_succ])
          refine wpAnyH_take (i := 16) (oi := { dst := some 120, op := Go.Op.move (Go.Operand.tmp 15), type := 34, pos := "law.go:86", after := #[{ on := 15, ground := Go.Ground.guard }], guard := some (15, false) }) (v := ?_) rfl (by kernel_rfl) (by kernel_rfl) (by kernel_rfl) (fun _ _ _ h => h) (Or.inl ⟨by rfl, ?_⟩) (by assumption) ?_
          rotate_left
          · intro wS hSw
            (try dsimp only at hSw)
            go_simp
            (try with_reducible rfl)
          (try simp only [Act.put, List.setIfInBounds_toArray, List.set_cons_zero, List.set_cons_succ])
          refine wpAnyH_take (i := 17) (oi := { dst := some 121, op := Go.Op.convert 34 9 (Go.Operand.tmp 120), type := 9, pos := "law.go:86", after := #[{ on := 16, ground := Go.Ground.data }, { on := 15, ground := Go.Ground.guard }], guard := some (15, false) }) (v := ?_) rfl (by kernel_rfl) (by kernel_rfl) (by kernel_rfl) (fun _ _ _ h => h) (Or.inl ⟨by rfl, ?_⟩) (by assumption) ?_
          rotate_left
          · intro wS hSw
            (have cvq := (HC2T.out.later hSw).conv; go_simp; (try with_reducible rfl))
          (try simp only [Act.put, List.setIfInBounds_toArray, List.set_cons_zero, List.set_cons_succ])
          refine wpAnyH_take (i := 18) (oi := { dst := some 122, op := Go.Op.move (Go.Operand.tmp 17), type := 34, pos := "law.go:86", after := #[{ on := 15, ground := Go.Ground.guard }], guard := some (15, false) }) (v := ?_) rfl (by kernel_rfl) (by kernel_rfl) (by kernel_rfl) (fun _ _ _ h => h) (Or.inl ⟨by rfl, ?_⟩) (by assumption) ?_
          rotate_left
          · intro wS hSw
            (try dsimp only at hSw)
            go_simp
            (try with_reducible rfl)
          (try simp only [Act.put, List.setIfInBounds_toArray, List.set_cons_zero, List.set_cons_succ])
          refine wpAnyH_take (i := 19) (oi := { dst := some 123, op := Go.Op.convert 34 9 (Go.Operand.tmp 122), type := 9, pos := "law.go:86", after := #[{ on := 18, ground := Go.Ground.data }, { on := 15, ground := Go.Ground.guard }], guard := some (15, false) }) (v := ?_) rfl (by kernel_rfl) (by kernel_rfl) (by kernel_rfl) (fun _ _ _ h => h) (Or.inl ⟨by rfl, ?_⟩) (by assumption) ?_
          rotate_left
          · intro wS hSw
            (have cvq := (HC3T.out.later hSw).conv; go_simp; (try with_reducible rfl))
          (try simp only [Act.put, List.setIfInBounds_toArray, List.set_cons_zero, List.set_cons_succ])
          refine wpAnyH_take (i := 20) (oi := { dst := some 124, op := Go.Op.binOp Go.BinOp.neq 9 (Go.Operand.tmp 121) (Go.Operand.tmp 123) 9, type := 4, pos := "law.go:86", after := #[{ on := 17, ground := Go.Ground.data }, { on := 19, ground := Go.Ground.data }, { on := 15, ground := Go.Ground.guard }], guard := some (15, false) }) (v := ?_) rfl (by kernel_rfl) (by kernel_rfl) (by kernel_rfl) (fun _ _ _ h => h) (Or.inl ⟨by rfl, ?_⟩) (by assumption) ?_
          rotate_left
          · intro wS hSw
            (try dsimp only at hSw)
            go_simp
            (try with_reducible rfl)
          (try simp only [Act.put, List.setIfInBounds_toArray, List.set_cons_zero, List.set_cons_succ])
          refine wpAnyH_take (i := 21) (oi := { dst := some 125, op := Go.Op.pick (Go.Operand.tmp 119) (Go.Operand.const (Go.Value.bool true)) (Go.Operand.tmp 124), type := 4, pos := "law.go:86", after := #[{ on := 15, ground := Go.Ground.data }, { on := 20, ground := Go.Ground.data }], guard := none }) (v := ?_) rfl (by kernel_rfl) (by kernel_rfl) (by kernel_rfl) (fun _ _ _ h => h) (Or.inl ⟨by rfl, ?_⟩) (by assumption) ?_
          rotate_left
          · intro wS hSw
            (try dsimp only at hSw)
            go_simp
            (try with_reducible rfl)
          (try simp only [Act.put, List.setIfInBounds_toArray, List.set_cons_zero, List.set_cons_succ])
          refine wpAnyH_take (i := 22) (oi := { dst := some 126, op := Go.Op.move (Go.Operand.tmp 125), type := 4, pos := "law.go:86", after := #[{ on := 21, ground := Go.Ground.data }, { on := 15, ground := Go.Ground.chain }], guard := none }) (v := ?_) rfl (by kernel_rfl) (by kernel_rfl) (by kernel_rfl) (fun _ _ _ h => h) (Or.inl ⟨by rfl, ?_⟩) (by assumption) ?_
          rotate_left
          · intro wS hSw
            (try dsimp only at hSw)
            go_simp
            (try with_reducible rfl)
          (try simp only [Act.put, List.setIfInBounds_toArray, List.set_cons_zero, List.set_cons_succ])
          refine wpAnyH_take (i := 23) (oi := { dst := some 127, op := Go.Op.move (Go.Operand.tmp 16), type := 31, pos := "law.go:86", after := #[{ on := 22, ground := Go.Ground.guard }], guard := some (22, false) }) (v := ?_) rfl (by kernel_rfl) (by kernel_rfl) (by kernel_rfl) (fun _ _ _ h => h) (Or.inl ⟨by rfl, ?_⟩) (by assumption) ?_
          rotate_left
          · intro wS hSw
            (try dsimp only at hSw)
            go_simp
            (try with_reducible rfl)
          (try simp only [Act.put, List.setIfInBounds_toArray, List.set_cons_zero, List.set_cons_succ])
          refine wpAnyH_take (i := 25) (oi := { dst := some 129, op := Go.Op.move (Go.Operand.tmp 18), type := 3, pos := "law.go:86", after := #[{ on := 22, ground := Go.Ground.guard }], guard := some (22, false) }) (v := ?_) rfl (by kernel_rfl) (by kernel_rfl) (by kernel_rfl) (fun _ _ _ h => h) (Or.inl ⟨by rfl, ?_⟩) (by assumption) ?_
          rotate_left
          · intro wS hSw
            (try dsimp only at hSw)
            go_simp
            (try with_reducible rfl)
          (try simp only [Act.put, List.setIfInBounds_toArray, List.set_cons_zero, List.set_cons_succ])
          refine wpAnyH_ready (rs := [24]) (by kernel_rfl) (by simp) ?_
          refine AllReadyH.cons (o := { dst := some 128, op := Go.Op.call { callee := Go.Callee.value (Go.Operand.func 11), args := #[Go.Operand.tmp 127], argTypes := #[31] }, type := 3, pos := "law.go:86", after := #[{ on := 23, ground := Go.Ground.data }, { on := 22, ground := Go.Ground.chain }, { on := 22, ground := Go.Ground.guard }], guard := some (22, false) }) rfl (fun K hK => ?_) AllReadyH.nil
          go_simp
          (refine (num_ev HEV2.out V11 (HG.out V11 (HXT.out.later HV.out).b)).mono ?_; rintro e V24 ⟨rfl, hv⟩; have HV := Lib.hid (HV.out.trans (hv.mono HV.out.size)); clear hv; skip)
          (try go_wp2_with fail)
          refine hK.out _ _ ?_ (fun hHeld => ?_)
          · (try dsimp only)
            (first | exact Below.refl _ _ | assumption)
          clear hK K
          (try simp only [Act.put, List.setIfInBounds_toArray, List.set_cons_zero, List.set_cons_succ])
          refine wpAnyH_take (i := 26) (oi := { dst := some 130, op := Go.Op.binOp Go.BinOp.neq 3 (Go.Operand.tmp 128) (Go.Operand.tmp 129) 3, type := 4, pos := "law.go:86", after := #[{ on := 24, ground := Go.Ground.data }, { on := 25, ground := Go.Ground.data }, { on := 22, ground := Go.Ground.guard }], guard := some (22, false) }) (v := ?_) rfl (by kernel_rfl) (by kernel_rfl) (by kernel_rfl) (fun _ _ _ h => h) (Or.inl ⟨by rfl, ?_⟩) (by assumption) ?_
          rotate_left
          · intro wS hSw
            (try dsimp only at hSw)
            go_simp
            (try with_reducible rfl)
          (try simp only [Act.put, List.setIfInBounds_toArray, List.set_cons_zero, List.set_cons_succ])
          refine wpAnyH_take (i := 27) (oi := { dst := some 131, op := Go.Op.pick (Go.Operand.tmp 126) (Go.Operand.const (Go.Value.bool true)) (Go.Operand.tmp 130), type := 4, pos := "law.go:86", after := #[{ on := 22, ground := Go.Ground.data }, { on := 26, ground := Go.Ground.data }], guard := none }) (v := ?_) rfl (by kernel_rfl) (by kernel_rfl) (by kernel_rfl) (fun _ _ _ h => h) (Or.inl ⟨by rfl, ?_⟩) (by assumption) ?_
          rotate_left
          · intro wS hSw
            (try dsimp only at hSw)
            go_simp
            (try with_reducible rfl)
          (try simp only [Act.put, List.setIfInBounds_toArray, List.set_cons_zero, List.set_cons_succ])
          refine wpAnyH_take (i := 28) (oi := { dst := some 132, op := Go.Op.move (Go.Operand.tmp 131), type := 4, pos := "law.go:86", after := #[{ on := 27, ground := Go.Ground.data }, { on := 24, ground := Go.Ground.chain }], guard := none }) (v := ?_) rfl (by kernel_rfl) (by kernel_rfl) (by kernel_rfl) (fun _ _ _ h => h) (Or.inl ⟨by rfl, ?_⟩) (by assumption) ?_
          rotate_left
          · intro wS hSw
            (try dsimp only at hSw)
            go_simp
            (try with_reducible rfl)
          (try simp only [Act.put, List.setIfInBounds_toArray, List.set_cons_zero, List.set_cons_succ])
          refine wpAnyH_take (i := 29) (oi := { dst := some 133, op := Go.Op.move (Go.Operand.tmp 20), type := 31, pos := "law.go:86", after := #[{ on := 28, ground := Go.Ground.guard }], guard := some (28, false) }) (v := ?_) rfl (by kernel_rfl) (by kernel_rfl) (by kernel_rfl) (fun _ _ _ h => h) (Or.inl ⟨by rfl, ?_⟩) (by assumption) ?_
          rotate_left
          · intro wS hSw
            (try dsimp only at hSw)
            go_simp
            (try with_reducible rfl)
          (try simp only [Act.put, List.setIfInBounds_toArray, List.set_cons_zero, List.set_cons_succ])
          refine wpAnyH_take (i := 30) (oi := { dst := some 134, op := Go.Op.binOp Go.BinOp.eql 31 (Go.Operand.tmp 133) (Go.Operand.const Go.Value.nilIface) 31, type := 4, pos := "law.go:86", after := #[{ on := 29, ground := Go.Ground.data }, { on := 28, ground := Go.Ground.guard }], guard := some (28, false) }) (v := ?_) rfl (by kernel_rfl) (by kernel_rfl) (by kernel_rfl) (fun _ _ _ h => h) (Or.inl ⟨by rfl, ?_⟩) (by assumption) ?_
          rotate_left
          · intro wS hSw
            (try dsimp only at hSw)
            go_simp
            (try with_reducible rfl)
          (try simp only [Act.put, List.setIfInBounds_toArray, List.set_cons_zero, List.set_cons_succ])
          refine wpAnyH_take (i := 31) (oi := { dst := some 135, op := Go.Op.move (Go.Operand.tmp 21), type := 4, pos := "law.go:86", after := #[{ on := 28, ground := Go.Ground.guard }], guard := some (28, false) }) (v := ?_) rfl (by kernel_rfl) (by kernel_rfl) (by kernel_rfl) (fun _ _ _ h => h) (Or.inl ⟨by rfl, ?_⟩) (by assumption) ?_
          rotate_left
          · intro wS hSw
            (try dsimp only at hSw)
            go_simp
            (try with_reducible rfl)
          (try simp only [Act.put, List.setIfInBounds_toArray, List.set_cons_zero, List.set_cons_succ])
          refine wpAnyH_take (i := 32) (oi := { dst := some 136, op := Go.Op.binOp Go.BinOp.neq 4 (Go.Operand.tmp 134) (Go.Operand.tmp 135) 4, type := 4, pos := "law.go:86", after := #[{ on := 30, ground := Go.Ground.data }, { on := 31, ground := Go.Ground.data }, { on := 28, ground := Go.Ground.guard }], guard := some (28, false) }) (v := ?_) rfl (by kernel_rfl) (by kernel_rfl) (by kernel_rfl) (fun _ _ _ h => h) (Or.inl ⟨by rfl, ?_⟩) (by assumption) ?_
          rotate_left
          · intro wS hSw
            (try dsimp only at hSw)
            go_simp
            (try with_reducible rfl)
          (try simp only [Act.put, List.setIfInBounds_toArray, List.set_cons_zero, List.set_cons_succ])
          refine wpAnyH_take (i := 33) (oi := { dst := some 137, op := Go.Op.pick (Go.Operand.tmp 132) (Go.Operand.const (Go.Value.bool true)) (Go.Operand.tmp 136), type := 4, pos := "law.go:86", after := #[{ on := 28, ground := Go.Ground.data }, { on := 32, ground := Go.Ground.data }], guard := none }) (v := ?_) rfl (by kernel_rfl) (by kernel_rfl) (by kernel_rfl) (fun _ _ _ h => h) (Or.inl ⟨by rfl, ?_⟩) (by assumption) ?_
          rotate_left
          · intro wS hSw
            (try dsimp only at hSw)
            go_simp
            (try with_reducible rfl)
          (try simp only [Act.put, List.setIfInBounds_toArray, List.set_cons_zero, List.set_cons_succ])
          refine wpAnyH_take (i := 34) (oi := { dst := some 138, op := Go.Op.move (Go.Operand.tmp 137), type := 4, pos := "law.go:86", after := #[{ on := 33, ground := Go.Ground.data }, { on := 28, ground := Go.Ground.chain }], guard := none }) (v := ?_) rfl (by kernel_rfl) (by kernel_rfl) (by kernel_rfl) (fun _ _ _ h => h) (Or.inl ⟨by rfl, ?_⟩) (by assumption) ?_
          rotate_left
          · intro wS hSw
            (try dsimp only at hSw)
            go_simp
            (try with_reducible rfl)
          (try simp only [Act.put, List.setIfInBounds_toArray, List.set_cons_zero, List.set_cons_succ])
          refine wpAnyH_take (i := 35) (oi := { dst := some 139, op := Go.Op.load 36 (Go.Operand.tmp 8), type := 36, pos := "law.go:86", after := #[{ on := 34, ground := Go.Ground.guard }], guard := some (34, false) }) (v := ?_) rfl (by kernel_rfl) (by kernel_rfl) (by kernel_rfl) (fun _ _ _ h => h) (Or.inl ⟨by rfl, ?_⟩) (by assumption) ?_
          rotate_left
          · intro wS hSw
            (refine exec_loadM (x := .tmp 8) (cs := [.int .i64 K, .int .i64 N, .int .u32 (gen : Int), .string mk, .slice ob n cb]) ?_ ?_ (range5 (HXT.out.later hSw).x) Tryd.underlying36 rfl info_pg <;> rfl)
          (try simp only [Act.put, List.setIfInBounds_toArray, List.set_cons_zero, List.set_cons_succ])
          refine wpAnyH_take (i := 38) (oi := { dst := some 142, op := Go.Op.load 54 (Go.Operand.tmp 3), type := 54, pos := "law.go:86", after := #[{ on := 34, ground := Go.Ground.guard }], guard := some (34, false) }) (v := ?_) rfl (by kernel_rfl) (by kernel_rfl) (by kernel_rfl) (fun _ _ _ h => h) (Or.inl ⟨by rfl, ?_⟩) (by assumption) ?_
          rotate_left
          · intro wS hSw
            (refine exec_loadM (x := .tmp 3) (cs := [.int .i64 K, .int .i64 N, .int .u32 (gen : Int), .string mk, .slice oa n cs]) ?_ ?_ (range5 (HXT.out.later hSw).p) Tryd.underlying54 rfl info_pgR <;> rfl)
          (try simp only [Act.put, List.setIfInBounds_toArray, List.set_cons_zero, List.set_cons_succ])
          refine wpAnyH_ready (rs := [36]) (by kernel_rfl) (by simp) ?_
          refine AllReadyH.cons (o := { dst := some 140, op := Go.Op.call { callee := Go.Callee.value (Go.Operand.func 19), args := #[Go.Operand.tmp 139], argTypes := #[36] }, type := 31, pos := "law.go:86", after := #[{ on := 35, ground := Go.Ground.data }, { on := 34, ground := Go.Ground.chain }, { on := 34, ground := Go.Ground.guard }], guard := some (34, false) }) rfl (fun K hK => ?_) AllReadyH.nil
          go_simp
          (refine (HCK.out V24 HV.out).mono ?_; rintro e V36 ⟨rfl, hv⟩; have HV := Lib.hid (HV.out.trans (hv.mono HV.out.size)); clear hv; skip)
          (try go_wp2_with fail)
          refine hK.out _ _ ?_ (fun hHeld => ?_)
          · (try dsimp only)
            (first | exact Below.refl _ _ | assumption)
          clear hK K
          (try simp only [Act.put, List.setIfInBounds_toArray, List.set_cons_zero, List.set_cons_succ])
          refine wpAnyH_take (i := 37) (oi := { dst := some 141, op := Go.Op.binOp Go.BinOp.eql 31 (Go.Operand.tmp 140) (Go.Operand.const Go.Value.nilIface) 31, type := 4, pos := "law.go:86", after := #[{ on := 36, ground := Go.Ground.data }, { on := 34, ground := Go.Ground.guard }], guard := some (34, false) }) (v := ?_) rfl (by kernel_rfl) (by kernel_rfl) (by kernel_rfl) (fun _ _ _ h => h) (Or.inl ⟨by rfl, ?_⟩) (by assumption) ?_
          rotate_left
          · intro wS hSw
            (try dsimp only at hSw)
            go_simp
            (try with_reducible rfl)
          (try simp only [Act.put, List.setIfInBounds_toArray, List.set_cons_zero, List.set_cons_succ])
          refine wpAnyH_ready (rs := [39]) (by kernel_rfl) (by simp) ?_
          refine AllReadyH.cons (o := { dst := some 143, op := Go.Op.call { callee := Go.Callee.value (Go.Operand.func 17), args := #[Go.Operand.tmp 142], argTypes := #[54] }, type := 4, pos := "law.go:86", after := #[{ on := 38, ground := Go.Ground.data }, { on := 36, ground := Go.Ground.chain }, { on := 34, ground := Go.Ground.guard }], guard := some (34, false) }) rfl (fun K hK => ?_) AllReadyH.nil
          go_simp
          (refine (HMY.out V36 HV.out).mono ?_; rintro e V39 ⟨rfl, hv⟩; have HV := Lib.hid (HV.out.trans (hv.mono HV.out.size)); clear hv; skip)
          (try go_wp2_with fail)
          refine hK.out _ _ ?_ (fun hHeld => ?_)
          · (try dsimp only)
            (first | exact Below.refl _ _ | assumption)
          clear hK K
          (try simp only [Act.put, List.setIfInBounds_toArray, List.set_cons_zero, List.set_cons_succ])
          refine wpAnyH_take (i := 40) (oi := { dst := some 144, op := Go.Op.binOp Go.BinOp.neq 4 (Go.Operand.tmp 141) (Go.Operand.tmp 143) 4, type := 4, pos := "law.go:86", after := #[{ on := 37, ground := Go.Ground.data }, { on := 39, ground := Go.Ground.data }, { on := 34, ground := Go.Ground.guard }], guard := some (34, false) }) (v := ?_) rfl (by kernel_rfl) (by kernel_rfl) (by kernel_rfl) (fun _ _ _ h => h) (Or.inl ⟨by rfl, ?_⟩) (by assumption) ?_
          rotate_left
          · intro wS hSw
            (try dsimp only at hSw)
            go_simp
            (try with_reducible rfl)
          (try simp only [Act.put, List.setIfInBounds_toArray, List.set_cons_zero, List.set_cons_succ])
          refine wpAnyH_take (i := 41) (oi := { dst := some 145, op := Go.Op.pick (Go.Operand.tmp 138) (Go.Operand.const (Go.Value.bool true)) (Go.Operand.tmp 144), type := 4, pos := "law.go:86", after := #[{ on := 34, ground := Go.Ground.data }, { on := 40, ground := Go.Ground.data }], guard := none }) (v := ?_) rfl (by kernel_rfl) (by kernel_rfl) (by kernel_rfl) (fun _ _ _ h => h) (Or.inl ⟨by rfl, ?_⟩) (by assumption) ?_
          rotate_left
          · intro wS hSw
            (try dsimp only at hSw)
            go_simp
            (try with_reducible rfl)
          (try simp only [Act.put, List.setIfInBounds_toArray, List.set_cons_zero, List.set_cons_succ])
          refine wpAnyH_take (i := 42) (oi := { dst := some 146, op := Go.Op.move (Go.Operand.tmp 145), type := 4, pos := "law.go:86", after := #[{ on := 41, ground := Go.Ground.data }, { on := 39, ground := Go.Ground.chain }], guard := none }) (v := ?_) rfl (by kernel_rfl) (by kernel_rfl) (by kernel_rfl) (fun _ _ _ h => h) (Or.inl ⟨by rfl, ?_⟩) (by assumption) ?_
          rotate_left
          · intro wS hSw
            (try dsimp only at hSw)
            go_simp
            (try with_reducible rfl)
          (try simp only [Act.put, List.setIfInBounds_toArray, List.set_cons_zero, List.set_cons_succ])
          refine wpAnyH_take (i := 43) (oi := { dst := some 147, op := Go.Op.load 36 (Go.Operand.tmp 8), type := 36, pos := "law.go:86", after := #[{ on := 42, ground := Go.Ground.guard }], guard := some (42, false) }) (v := ?_) rfl (by kernel_rfl) (by kernel_rfl) (by kernel_rfl) (fun _ _ _ h => h) (Or.inl ⟨by rfl, ?_⟩) (by assumption) ?_
          rotate_left
          · intro wS hSw
            (refine exec_loadM (x := .tmp 8) (cs := [.int .i64 K, .int .i64 N, .int .u32 (gen : Int), .string mk, .slice ob n cb]) ?_ ?_ (range5 (HXT.out.later hSw).x) Tryd.underlying36 rfl info_pg <;> rfl)
          (try simp only [Act.put, List.setIfInBounds_toArray, List.set_cons_zero, List.set_cons_succ])
          refine wpAnyH_take (i := 44) (oi := { dst := some 148, op := Go.Op.load 54 (Go.Operand.tmp 3), type := 54, pos := "law.go:86", after := #[{ on := 42, ground := Go.Ground.guard }], guard := some (42, false) }) (v := ?_) rfl (by kernel_rfl) (by kernel_rfl) (by kernel_rfl) (fun _ _ _ h => h) (Or.inl ⟨by rfl, ?_⟩) (by assumption) ?_
          rotate_left
          · intro wS hSw
            (refine exec_loadM (x := .tmp 3) (cs := [.int .i64 K, .int .i64 N, .int .u32 (gen : Int), .string mk, .slice oa n cs]) ?_ ?_ (range5 (HXT.out.later hSw).p) Tryd.underlying54 rfl info_pgR <;> rfl)
          (try simp only [Act.put, List.setIfInBounds_toArray, List.set_cons_zero, List.set_cons_succ])
          refine wpAnyH_ready (rs := [45]) (by kernel_rfl) (by simp) ?_
          refine AllReadyH.cons (o := { dst := some 149, op := Go.Op.call { callee := Go.Callee.value (Go.Operand.func 18), args := #[Go.Operand.tmp 147, Go.Operand.tmp 148], argTypes := #[36, 54] }, type := 4, pos := "law.go:86", after := #[{ on := 43, ground := Go.Ground.data }, { on := 44, ground := Go.Ground.data }, { on := 42, ground := Go.Ground.chain }, { on := 42, ground := Go.Ground.guard }], guard := some (42, false) }) rfl (fun K hK => ?_) AllReadyH.nil
          go_simp
          (refine (HIP.out V39 HV.out).mono ?_; rintro e V45 ⟨rfl, hv⟩; have HV := Lib.hid (HV.out.trans (hv.mono HV.out.size)); clear hv; skip)
          (try go_wp2_with fail)
          refine hK.out _ _ ?_ (fun hHeld => ?_)
          · (try dsimp only)
            (first | exact Below.refl _ _ | assumption)
          clear hK K
          (try simp only [Act.put, List.setIfInBounds_toArray, List.set_cons_zero, List.set_cons_succ])
          refine wpAnyH_take (i := 46) (oi := { dst := some 150, op := Go.Op.unOp Go.UnOp.not 4 (Go.Operand.tmp 149), type := 4, pos := "law.go:86", after := #[{ on := 45, ground := Go.Ground.data }, { on := 42, ground := Go.Ground.guard }], guard := some (42, false) }) (v := ?_) rfl (by kernel_rfl) (by kernel_rfl) (by kernel_rfl) (fun _ _ _ h => h) (Or.inl ⟨by rfl, ?_⟩) (by assumption) ?_
          rotate_left
          · intro wS hSw
            (try dsimp only at hSw)
            go_simp
            (try with_reducible rfl)
          (try simp only [Act.put, List.setIfInBounds_toArray, List.set_cons_zero, List.set_cons_succ])
          refine wpAnyH_take (i := 47) (oi := { dst := some 151, op := Go.Op.pick (Go.Operand.tmp 146) (Go.Operand.const (Go.Value.bool true)) (Go.Operand.tmp 150), type := 4, pos := "law.go:86", after := #[{ on := 42, ground := Go.Ground.data }, { on := 46, ground := Go.Ground.data }], guard := none }) (v := ?_) rfl (by kernel_rfl) (by kernel_rfl) (by kernel_rfl) (fun _ _ _ h => h) (Or.inl ⟨by rfl, ?_⟩) (by assumption) ?_
          rotate_left
          · intro wS hSw
            (try dsimp only at hSw)
            go_simp
            (try with_reducible rfl)
          (try simp only [Act.put, List.setIfInBounds_toArray, List.set_cons_zero, List.set_cons_succ])
          refine wpAnyH_done (by kernel_rfl) ?_ _
          have hv := HV.out
          have hx := (HXT.out.later hv).x
          have hn := Blk.below HNT.out hv (Blk.lt HNT.out)
          have HE1 := Lib.hid (HXT.out.later hv).b
          have HR8 := Lib.hid (pg_plan hx)
          have HR22 := Lib.hid (pg_plan hn)
          have m8 := pg_mk hx
          have m22 := pg_mk hn
          have q22 := pg_sl hn
          have he := eq_plan K N (gen : Int) V45
          clear hv hx hn HXT HRAT HRBT HAT HDT HST9 HNT HC2T HC3T HV HCK HMY HIP
          go_wp2_with (first | (refine wpList_valueG (by rfl) (exec_loadM (x := .tmp 157) (cs := [.int .i64 K, .int .i64 N, .int .u32 (gen : Int)]) rfl rfl HR22.out Tryd.underlying26 rfl info_plan3) ?_) | ((refine wpList_valueG (by rfl) (exec_loadM (x := .tmp 159) (cs := [.int .i64 K, .int .i64 N, .int .u32 (gen : Int)]) rfl rfl HR8.out Tryd.underlying26 rfl info_plan3) ?_); refine Hid.out ?_))
          refine Lib.hid ?_
          go_wp2_with fail
          refine (num_ev (k := 1) (.inr ⟨by decide, rfl⟩) V45 (HG.out V45 HE1.out)).mono ?_
          rintro e W16 ⟨rfl, hb⟩
          have HE2 := Lib.hid (HE1.out.trans (hb.mono HE1.out.size))
          clear hb
          go_wp2_with fail
          refine (HSU.out W16 HE2.out).mono ?_
          rintro e W17 ⟨rfl, hb⟩
          have HE3 := Lib.hid (HE2.out.trans (hb.mono HE2.out.size))
          clear hb
          go_wp2_with fail
          go_ret
          exact ⟨rfl, HE3.out⟩
        · skip
          have HCK : Hid (∀ A, Below w13.drew.heap.size w13.drew A → Calls Tryd.prog 19 #[.agg #[.int .i64 K, .int .i64 N, .int .u32 (gen : Int), .string mk, .slice ob n cb]] A fun e w' => e = .returned (.iface 83 (.int .i64 1)) ∧ Below A.heap.size A w') := Lib.hid fun A hA => by
            refine (check_pg WR.heap.size K N gen n cb mk ob S A (HXT.out.later hA).r HIX.out (by have := HNN.out; omega) HNB.out.1 (by have := HNN.out; omega)).mono ?_
            rintro e w' ⟨(⟨he, hm⟩ | ⟨he, hm⟩), hb⟩
            · exact absurd hm hmg
            · exact ⟨he, hb⟩
          have HMY : Hid (∀ A, Below w13.drew.heap.size w13.drew A → Calls Tryd.prog 17 #[.agg #[.int .i64 K, .int .i64 N, .int .u32 (gen : Int), .string mk, .slice oa n cs]] A fun e w' => e = .returned (.bool false) ∧ Below A.heap.size A w') := Lib.hid fun A hA => by
            refine (rmay_pg w.heap.size K N gen n cs mk oa S A (HSS.out.later (HXT.out.later hA).b) HIX.out (by have := HNN.out; omega) HNC.out.1 (by have := HNN.out; omega)).mono ?_
            rintro e w' ⟨(⟨he, hm⟩ | ⟨he, hm⟩), hb⟩
            · exact absurd hm hmg
            · exact ⟨he, hb⟩
          have HIP : Hid (∀ A, Below w13.drew.heap.size w13.drew A → Calls Tryd.prog 18 #[.agg #[.int .i64 K, .int .i64 N, .int .u32 (gen : Int), .string mk, .slice ob n cb], .agg #[.int .i64 K, .int .i64 N, .int .u32 (gen : Int), .string mk, .slice oa n cs]] A fun e w' => e = .returned (.bool true) ∧ Below A.heap.size A w') := Lib.hid fun A hA => isprog_any WR.heap.size K N gen n cb cs mk ob oa S A (HXT.out.later hA).r ((HSS.out.fresh2 HBX.out).later (HXT.out.later hA).b) (by have := HNN.out; omega)
          clear hmg
          refine wp_region_held_drew (S := (Below w13.drew.heap.size w13.drew)) (by kernel_rfl) ?_ (fun hHeld => ?_)
          · (try dsimp only)
            (first | exact Below.refl _ _ | assumption)
          generalize w13.drew = WT at *
          refine wpAnyH_take (i := 0) (oi := { dst := some 104, op := Go.Op.load 36 (Go.Operand.tmp 9), type := 36, pos := "law.go:86", after := #[], guard := none }) (v := ?_) rfl (by kernel_rfl) (by kernel_rfl) (by kernel_rfl) (fun _ _ _ h => h) (Or.inl ⟨by rfl, ?_⟩) (by assumption) ?_
          rotate_left
          · intro wS hSw
            (refine exec_loadM (x := .tmp 9) (cs := [.int .i64 Ko, .int .i64 No, .int .u32 (geno : Int), .string mko, .slice oq no cq]) ?_ ?_ (range5 (Blk.below HAT.out hSw (Blk.lt HAT.out))) Tryd.underlying36 rfl info_pg <;> rfl)
          (try simp only [Act.put, List.setIfInBounds_toArray, List.set_cons_zero, List.set_cons_succ])
          refine wpAnyH_take (i := 1) (oi := { dst := some 105, op := Go.Op.load 54 (Go.Operand.tmp 12), type := 54, pos := "law.go:86", after := #[], guard := none }) (v := ?_) rfl (by kernel_rfl) (by kernel_rfl) (by kernel_rfl) (fun _ _ _ h => h) (Or.inl ⟨by rfl, ?_⟩) (by assumption) ?_
          rotate_left
          · intro wS hSw
            (refine exec_loadM (x := .tmp 12) (cs := [.int .i64 Ko, .int .i64 No, .int .u32 (geno : Int), .string mko, .slice oz no cz]) ?_ ?_ (range5 (Blk.below HDT.out hSw (Blk.lt HDT.out))) Tryd.underlying54 rfl info_pgR <;> rfl)
          (try simp only [Act.put, List.setIfInBounds_toArray, List.set_cons_zero, List.set_cons_succ])
          refine wpAnyH_ready (rs := [2]) (by kernel_rfl) (by simp) ?_
          refine AllReadyH.cons (o := { dst := some 106, op := Go.Op.call { callee := Go.Callee.value (Go.Operand.func 18), args := #[Go.Operand.tmp 104, Go.Operand.tmp 105], argTypes := #[36, 54] }, type := 4, pos := "law.go:86", after := #[{ on := 0, ground := Go.Ground.data }, { on := 1, ground := Go.Ground.data }], guard := none }) rfl (fun K hK => ?_) AllReadyH.nil
          go_simp
          (refine (isprog_any _ Ko No geno no cq cz mko oq oz So WT HRAT.out HRBT.out HNO.out).mono ?_; rintro e V2 ⟨rfl, hv⟩; have HV := Lib.hid hv; clear hv; skip)
          (try go_wp2_with fail)
          refine hK.out _ _ ?_ (fun hHeld => ?_)
          · (try dsimp only)
            (first | exact Below.refl _ _ | assumption)
          clear hK K
          (try simp only [Act.put, List.setIfInBounds_toArray, List.set_cons_zero, List.set_cons_succ])
          refine wpAnyH_take (i := 3) (oi := { dst := some 107, op := Go.Op.unOp Go.UnOp.not 4 (Go.Operand.tmp 106), type := 4, pos := "law.go:86", after := #[{ on := 2, ground := Go.Ground.data }], guard := none }) (v := ?_) rfl (by kernel_rfl) (by kernel_rfl) (by kernel_rfl) (fun _ _ _ h => h) (Or.inl ⟨by rfl, ?_⟩) (by assumption) ?_
          rotate_left
          · intro wS hSw
            (try dsimp only at hSw)
            go_simp
            (try with_reducible rfl)
          (try simp only [Act.put, List.setIfInBounds_toArray, List.set_cons_zero, List.set_cons_succ])
          refine wpAnyH_take (i := 4) (oi := { dst := some 108, op := Go.Op.move (Go.Operand.tmp 107), type := 4, pos := "law.go:86", after := #[{ on := 3, ground := Go.Ground.data }, { on := 2, ground := Go.Ground.chain }], guard := none }) (v := ?_) rfl (by kernel_rfl) (by kernel_rfl) (by kernel_rfl) (fun _ _ _ h => h) (Or.inl ⟨by rfl, ?_⟩) (by assumption) ?_
          rotate_left
          · intro wS hSw
            (try dsimp only at hSw)
            go_simp
            (try with_reducible rfl)
          (try simp only [Act.put, List.setIfInBounds_toArray, List.set_cons_zero, List.set_cons_succ])
          refine wpAnyH_take (i := 5) (oi := { dst := some 109, op := Go.Op.move (Go.Operand.tmp 10), type := 4, pos := "law.go:86", after := #[{ on := 4, ground := Go.Ground.guard }], guard := some (4, false) }) (v := ?_) rfl (by kernel_rfl) (by kernel_rfl) (by kernel_rfl) (fun _ _ _ h => h) (Or.inl ⟨by rfl, ?_⟩) (by assumption) ?_
          rotate_left
          · intro wS hSw
            (try dsimp only at hSw)
            go_simp
            (try with_reducible rfl)
          (try simp only [Act.put, List.setIfInBounds_toArray, List.set_cons_zero, List.set_cons_succ])
          refine wpAnyH_take (i := 6) (oi := { dst := some 110, op := Go.Op.move (Go.Operand.tmp 13), type := 4, pos := "law.go:86", after := #[{ on := 4, ground := Go.Ground.guard }], guard := some (4, false) }) (v := ?_) rfl (by kernel_rfl) (by kernel_rfl) (by kernel_rfl) (fun _ _ _ h => h) (Or.inl ⟨by rfl, ?_⟩) (by assumption) ?_
          rotate_left
          · intro wS hSw
            (try dsimp only at hSw)
            go_simp
            (try with_reducible rfl)
          (try simp only [Act.put, List.setIfInBounds_toArray, List.set_cons_zero, List.set_cons_succ])
          refine wpAnyH_take (i := 7) (oi := { dst := some 111, op := Go.Op.binOp Go.BinOp.neq 4 (Go.Operand.tmp 109) (Go.Operand.tmp 110) 4, type := 4, pos := "law.go:86", after := #[{ on := 5, ground := Go.Ground.data }, { on := 6, ground := Go.Ground.data }, { on := 4, ground := Go.Ground.guard }], guard := some (4, false) }) (v := ?_) rfl (by kernel_rfl) (by kernel_rfl) (by kernel_rfl) (fun _ _ _ h => h) (Or.inl ⟨by rfl, ?_⟩) (by assumption) ?_
          rotate_left
          · intro wS hSw
            (try dsimp only at hSw)
            go_simp
            (try with_reducible rfl)
          (try simp only [Act.put, List.setIfInBounds_toArray, List.set_cons_zero, List.set_cons_succ])
          refine wpAnyH_take (i := 8) (oi := { dst := some 112, op := Go.Op.pick (Go.Operand.tmp 108) (Go.Operand.const (Go.Value.bool true)) (Go.Operand.tmp 111), type := 4, pos := "law.go:86", after := #[{ on := 4, ground := Go.Ground.data }, { on := 7, ground := Go.Ground.data }], guard := none }) (v := ?_) rfl (by kernel_rfl) (by kernel_rfl) (by kernel_rfl) (fun _ _ _ h => h) (Or.inl ⟨by rfl, ?_⟩) (by assumption) ?_
          rotate_left
          · intro wS hSw
            (try dsimp only at hSw)
            go_simp
            (try with_reducible rfl)
          (try simp only [Act.put, List.setIfInBounds_toArray, List.set_cons_zero, List.set_cons_succ])
          refine wpAnyH_take (i := 9) (oi := { dst := some 113, op := Go.Op.move (Go.Operand.tmp 112), type := 4, pos := "law.go:86", after := #[{ on := 8, ground := Go.Ground.data }, { on := 4, ground := Go.Ground.chain }], guard := none }) (v := ?_) rfl (by kernel_rfl) (by kernel_rfl) (by kernel_rfl) (fun _ _ _ h => h) (Or.inl ⟨by rfl, ?_⟩) (by assumption) ?_
          rotate_left
          · intro wS hSw
            (try dsimp only at hSw)
            go_simp
            (try with_reducible rfl)
          (try simp only [Act.put, List.setIfInBounds_toArray, List.set_cons_zero, List.set_cons_succ])
          refine wpAnyH_take (i := 10) (oi := { dst := some 114, op := Go.Op.move (Go.Operand.tmp 11), type := 31, pos := "law.go:86", after := #[{ on := 9, ground := Go.Ground.guard }], guard := some (9, false) }) (v := ?_) rfl (by kernel_rfl) (by kernel_rfl) (by kernel_rfl) (fun _ _ _ h => h) (Or.inl ⟨by rfl, ?_⟩) (by assumption) ?_
          rotate_left
          · intro wS hSw
            (try dsimp only at hSw)
            go_simp
            (try with_reducible rfl)
          (try simp only [Act.put, List.setIfInBounds_toArray, List.set_cons_zero, List.set_cons_succ])
          refine wpAnyH_take (i := 12) (oi := { dst := some 116, op := Go.Op.move (Go.Operand.tmp 14), type := 3, pos := "law.go:86", after := #[{ on := 9, ground := Go.Ground.guard }], guard := some (9, false) }) (v := ?_) rfl (by kernel_rfl) (by kernel_rfl) (by kernel_rfl) (fun _ _ _ h => h) (Or.inl ⟨by rfl, ?_⟩) (by assumption) ?_
          rotate_left
          · intro wS hSw
            (try dsimp only at hSw)
            go_simp
            (try with_reducible rfl)
          (try simp only [Act.put, List.setIfInBounds_toArray, List.set_cons_zero, List.set_cons_succ])
          refine wpAnyH_ready (rs := [11]) (by kernel_rfl) (by simp) ?_
          refine AllReadyH.cons (o := { dst := some 115, op := Go.Op.call { callee := Go.Callee.value (Go.Operand.func 11), args := #[Go.Operand.tmp 114], argTypes := #[31] }, type := 3, pos := "law.go:86", after := #[{ on := 10, ground := Go.Ground.data }, { on := 9, ground := Go.Ground.chain }, { on := 9, ground := Go.Ground.guard }], guard := some (9, false) }) rfl (fun K hK => ?_) AllReadyH.nil
          go_simp
          (refine (num_ev HEV.out V2 (HG.out V2 (HXT.out.later HV.out).b)).mono ?_; rintro e V11 ⟨rfl, hv⟩; have HV := Lib.hid (HV.out.trans (hv.mono HV.out.size)); clear hv; skip)
          (try go_wp2_with fail)
          refine hK.out _ _ ?_ (fun hHeld => ?_)
          · (try dsimp only)
            (first | exact Below.refl _ _ | assumption)
          clear hK K
          (try simp only [Act.put, List.setIfInBounds_toArray, List.set_cons_zero, List.set_cons_succ])
          refine wpAnyH_take (i := 13) (oi := { dst := some 117, op := Go.Op.binOp Go.BinOp.neq 3 (Go.Operand.tmp 115) (Go.Operand.tmp 116) 3, type := 4, pos := "law.go:86", after := #[{ on := 11, ground := Go.Ground.data }, { on := 12, ground := Go.Ground.data }, { on := 9, ground := Go.Ground.guard }], guard := some (9, false) }) (v := ?_) rfl (by kernel_rfl) (by kernel_rfl) (by kernel_rfl) (fun _ _ _ h => h) (Or.inl ⟨by rfl, ?_⟩) (by assumption) ?_
          rotate_left
          · intro wS hSw
            (try dsimp only at hSw)
            go_simp
            (try with_reducible rfl)
          (try simp only [Act.put, List.setIfInBounds_toArray, List.set_cons_zero, List.set_cons_succ])
          refine wpAnyH_take (i := 14) (oi := { dst := some 118, op := Go.Op.pick (Go.Operand.tmp 113) (Go.Operand.const (Go.Value.bool true)) (Go.Operand.tmp 117), type := 4, pos := "law.go:86", after := #[{ on := 9, ground := Go.Ground.data }, { on := 13, ground := Go.Ground.data }], guard := none }) (v := ?_) rfl (by kernel_rfl) (by kernel_rfl) (by kernel_rfl) (fun _ _ _ h => h) (Or.inl ⟨by rfl, ?_⟩) (by assumption) ?_
          rotate_left
          · intro wS hSw
            (try dsimp only at hSw)
            go_simp
            (try with_reducible rfl)
          (try simp only [Act.put, List.setIfInBounds_toArray, List.set_cons_zero, List.set_cons_succ])
          refine wpAnyH_take (i := 15) (oi := { dst := some 119, op := Go.Op.move (Go.Operand.tmp 118), type := 4, pos := "law.go:86", after := #[{ on := 14, ground := Go.Ground.data }, { on := 11, ground := Go.Ground.chain }], guard := none }) (v := ?_) rfl (by kernel_rfl) (by kernel_rfl) (by kernel_rfl) (fun _ _ _ h => h) (Or.inl ⟨by rfl, ?_⟩) (by assumption) ?_
          rotate_left
          · intro wS hSw
            (try dsimp only at hSw)
            go_simp
            (try with_reducible rfl)
          (try simp only [Act.put, List.setIfInBounds_toArray, List.set_cons_zero, List.set_cons_succ])
          refine wpAnyH_take (i := 16) (oi := { dst := some 120, op := Go.Op.move (Go.Operand.tmp 15), type := 34, pos := "law.go:86", after := #[{ on := 15, ground := Go.Ground.guard }], guard := some (15, false) }) (v := ?_) rfl (by kernel_rfl) (by kernel_rfl) (by kernel_rfl) (fun _ _ _ h => h) (Or.inl ⟨by rfl, ?_⟩) (by assumption) ?_
          rotate_left
          · intro wS hSw
            (try dsimp only at hSw)
            go_simp
            (try with_reducible rfl)
          (try simp only [Act.put, List.setIfInBounds_toArray, List.set_cons_zero, List.set_cons_succ])
          refine wpAnyH_take (i := 17) (oi := { dst := some 121, op := Go.Op.convert 34 9 (Go.Operand.tmp 120), type := 9, pos := "law.go:86", after := #[{ on := 16, ground := Go.Ground.data }, { on := 15, ground := Go.Ground.guard }], guard := some (15, false) }) (v := ?_) rfl (by kernel_rfl) (by kernel_rfl) (by kernel_rfl) (fun _ _ _ h => h) (Or.inl ⟨by rfl, ?_⟩) (by assumption) ?_
          rotate_left
          · intro wS hSw
            (have cvq := (HC2T.out.later hSw).conv; go_simp; (try with_reducible rfl))
          (try simp only [Act.put, List.setIfInBounds_toArray, List.set_cons_zero, List.set_cons_succ])
          refine wpAnyH_take (i := 18) (oi := { dst := some 122, op := Go.Op.move (Go.Operand.tmp 17), type := 34, pos := "law.go:86", after := #[{ on := 15, ground := Go.Ground.guard }], guard := some (15, false) }) (v := ?_) rfl (by kernel_rfl) (by kernel_rfl) (by kernel_rfl) (fun _ _ _ h => h) (Or.inl ⟨by rfl, ?_⟩) (by assumption) ?_
          rotate_left
          · intro wS hSw
            (try dsimp only at hSw)
            go_simp
            (try with_reducible rfl)
          (try simp only [Act.put, List.setIfInBounds_toArray, List.set_cons_zero, List.set_cons_succ])
          refine wpAnyH_take (i := 19) (oi := { dst := some 123, op := Go.Op.convert 34 9 (Go.Operand.tmp 122), type := 9, pos := "law.go:86", after := #[{ on := 18, ground := Go.Ground.data }, { on := 15, ground := Go.Ground.guard }], guard := some (15, false) }) (v := ?_) rfl (by kernel_rfl) (by kernel_rfl) (by kernel_rfl) (fun _ _ _ h => h) (Or.inl ⟨by rfl, ?_⟩) (by assumption) ?_
          rotate_left
          · intro wS hSw
            (have cvq := (HC3T.out.later hSw).conv; go_simp; (try with_reducible rfl))
          (try simp only [Act.put, List.setIfInBounds_toArray, List.set_cons_zero, List.set_cons_succ])
          refine wpAnyH_take (i := 20) (oi := { dst := some 124, op := Go.Op.binOp Go.BinOp.neq 9 (Go.Operand.tmp 121) (Go.Operand.tmp 123) 9, type := 4, pos := "law.go:86", after := #[{ on := 17, ground := Go.Ground.data }, { on := 19, ground := Go.Ground.data }, { on := 15, ground := Go.Ground.guard }], guard := some (15, false) }) (v := ?_) rfl (by kernel_rfl) (by kernel_rfl) (by kernel_rfl) (fun _ _ _ h => h) (Or.inl ⟨by rfl, ?_⟩) (by assumption) ?_
          rotate_left
          · intro wS hSw
            (try dsimp only at hSw)
            go_simp
            (try with_reducible rfl)
          (try simp only [Act.put, List.setIfInBounds_toArray, List.set_cons_zero, List.set_cons_succ])
          refine wpAnyH_take (i := 21) (oi := { dst := some 125, op := Go.Op.pick (Go.Operand.tmp 119) (Go.Operand.const (Go.Value.bool true)) (Go.Operand.tmp 124), type := 4, pos := "law.go:86", after := #[{ on := 15, ground := Go.Ground.data }, { on := 20, ground := Go.Ground.data }], guard := none }) (v := ?_) rfl (by kernel_rfl) (by kernel_rfl) (by kernel_rfl) (fun _ _ _ h => h) (Or.inl ⟨by rfl, ?_⟩) (by assumption) ?_
          rotate_left
          · intro wS hSw
            (try dsimp only at hSw)
            go_simp
            (try with_reducible rfl)
          (try simp only [Act.put, List.setIfInBounds_toArray, List.set_cons_zero, List.set_cons_succ])
          refine wpAnyH_take (i := 22) (oi := { dst := some 126, op := Go.Op.move (Go.Operand.tmp 125), type := 4, pos := "law.go:86", after := #[{ on := 21, ground := Go.Ground.data }, { on := 15, ground := Go.Ground.chain }], guard := none }) (v := ?_) rfl (by kernel_rfl) (by kernel_rfl) (by kernel_rfl) (fun _ _ _ h => h) (Or.inl ⟨by rfl, ?_⟩) (by assumption) ?_
          rotate_left
          · intro wS hSw
            (try dsimp only at hSw)
            go_simp
            (try with_reducible rfl)
          (try simp only [Act.put, List.setIfInBounds_toArray, List.set_cons_zero, List.set_cons_succ])
          refine wpAnyH_take (i := 23) (oi := { dst := some 127, op := Go.Op.move (Go.Operand.tmp 16), type := 31, pos := "law.go:86", after := #[{ on := 22, ground := Go.Ground.guard }], guard := some (22, false) }) (v := ?_) rfl (by kernel_rfl) (by kernel_rfl) (by kernel_rfl) (fun _ _ _ h => h) (Or.inl ⟨by rfl, ?_⟩) (by assumption) ?_
          rotate_left
          · intro wS hSw
            (try dsimp only at hSw)
            go_simp
            (try with_reducible rfl)
          (try simp only [Act.put, List.setIfInBounds_toArray, List.set_cons_zero, List.set_cons_succ])
          refine wpAnyH_take (i := 25) (oi := { dst := some 129, op := Go.Op.move (Go.Operand.tmp 18), type := 3, pos := "law.go:86", after := #[{ on := 22, ground := Go.Ground.guard }], guard := some (22, false) }) (v := ?_) rfl (by kernel_rfl) (by kernel_rfl) (by kernel_rfl) (fun _ _ _ h => h) (Or.inl ⟨by rfl, ?_⟩) (by assumption) ?_
          rotate_left
          · intro wS hSw
            (try dsimp only at hSw)
            go_simp
            (try with_reducible rfl)
          (try simp only [Act.put, List.setIfInBounds_toArray, List.set_cons_zero, List.set_cons_succ])
          refine wpAnyH_ready (rs := [24]) (by kernel_rfl) (by simp) ?_
          refine AllReadyH.cons (o := { dst := some 128, op := Go.Op.call { callee := Go.Callee.value (Go.Operand.func 11), args := #[Go.Operand.tmp 127], argTypes := #[31] }, type := 3, pos := "law.go:86", after := #[{ on := 23, ground := Go.Ground.data }, { on := 22, ground := Go.Ground.chain }, { on := 22, ground := Go.Ground.guard }], guard := some (22, false) }) rfl (fun K hK => ?_) AllReadyH.nil
          go_simp
          (refine (num_ev HEV2.out V11 (HG.out V11 (HXT.out.later HV.out).b)).mono ?_; rintro e V24 ⟨rfl, hv⟩; have HV := Lib.hid (HV.out.trans (hv.mono HV.out.size)); clear hv; skip)
          (try go_wp2_with fail)
          refine hK.out _ _ ?_ (fun hHeld => ?_)
          · (try dsimp only)
            (first | exact Below.refl _ _ | assumption)
          clear hK K
          (try simp only [Act.put, List.setIfInBounds_toArray, List.set_cons_zero, List.set_cons_succ])
          refine wpAnyH_take (i := 26) (oi := { dst := some 130, op := Go.Op.binOp Go.BinOp.neq 3 (Go.Operand.tmp 128) (Go.Operand.tmp 129) 3, type := 4, pos := "law.go:86", after := #[{ on := 24, ground := Go.Ground.data }, { on := 25, ground := Go.Ground.data }, { on := 22, ground := Go.Ground.guard }], guard := some (22, false) }) (v := ?_) rfl (by kernel_rfl) (by kernel_rfl) (by kernel_rfl) (fun _ _ _ h => h) (Or.inl ⟨by rfl, ?_⟩) (by assumption) ?_
          rotate_left
          · intro wS hSw
            (try dsimp only at hSw)
            go_simp
            (try with_reducible rfl)
          (try simp only [Act.put, List.setIfInBounds_toArray, List.set_cons_zero, List.set_cons_succ])
          refine wpAnyH_take (i := 27) (oi := { dst := some 131, op := Go.Op.pick (Go.Operand.tmp 126) (Go.Operand.const (Go.Value.bool true)) (Go.Operand.tmp 130), type := 4, pos := "law.go:86", after := #[{ on := 22, ground := Go.Ground.data }, { on := 26, ground := Go.Ground.data }], guard := none }) (v := ?_) rfl (by kernel_rfl) (by kernel_rfl) (by kernel_rfl) (fun _ _ _ h => h) (Or.inl ⟨by rfl, ?_⟩) (by assumption) ?_
          rotate_left
          · intro wS hSw
            (try dsimp only at hSw)
            go_simp
            (try with_reducible rfl)
          (try simp only [Act.put, List.setIfInBounds_toArray, List.set_cons_zero, List.set_cons_succ])
          refine wpAnyH_take (i := 28) (oi := { dst := some 132, op := Go.Op.move (Go.Operand.tmp 131), type := 4, pos := "law.go:86", after := #[{ on := 27, ground := Go.Ground.data }, { on := 24, ground := Go.Ground.chain }], guard := none }) (v := ?_) rfl (by kernel_rfl) (by kernel_rfl) (by kernel_rfl) (fun _ _ _ h => h) (Or.inl ⟨by rfl, ?_⟩) (by assumption) ?_
          rotate_left
          · intro wS hSw
            (try dsimp only at hSw)
            go_simp
            (try with_reducible rfl)
          (try simp only [Act.put, List.setIfInBounds_toArray, List.set_cons_zero, List.set_cons_succ])
          refine wpAnyH_take (i := 29) (oi := { dst := some 133, op := Go.Op.move (Go.Operand.tmp 20), type := 31, pos := "law.go:86", after := #[{ on := 28, ground := Go.Ground.guard }], guard := some (28, false) }) (v := ?_) rfl (by kernel_rfl) (by kernel_rfl) (by kernel_rfl) (fun _ _ _ h => h) (Or.inl ⟨by rfl, ?_⟩) (by assumption) ?_
          rotate_left
          · intro wS hSw
            (try dsimp only at hSw)
            go_simp
            (try with_reducible rfl)
          (try simp only [Act.put, List.setIfInBounds_toArray, List.set_cons_zero, List.set_cons_succ])
          refine wpAnyH_take (i := 30) (oi := { dst := some 134, op := Go.Op.binOp Go.BinOp.eql 31 (Go.Operand.tmp 133) (Go.Operand.const Go.Value.nilIface) 31, type := 4, pos := "law.go:86", after := #[{ on := 29, ground := Go.Ground.data }, { on := 28, ground := Go.Ground.guard }], guard := some (28, false) }) (v := ?_) rfl (by kernel_rfl) (by kernel_rfl) (by kernel_rfl) (fun _ _ _ h => h) (Or.inl ⟨by rfl, ?_⟩) (by assumption) ?_
          rotate_left
          · intro wS hSw
            (try dsimp only at hSw)
            go_simp
            (try with_reducible rfl)
          (try simp only [Act.put, List.setIfInBounds_toArray, List.set_cons_zero, List.set_cons_succ])
          refine wpAnyH_take (i := 31) (oi := { dst := some 135, op := Go.Op.move (Go.Operand.tmp 21), type := 4, pos := "law.go:86", after := #[{ on := 28, ground := Go.Ground.guard }], guard := some (28, false) }) (v := ?_) rfl (by kernel_rfl) (by kernel_rfl) (by kernel_rfl) (fun _ _ _ h => h) (Or.inl ⟨by rfl, ?_⟩) (by assumption) ?_
          rotate_left
          · intro wS hSw
            (try dsimp only at hSw)
            go_simp
            (try with_reducible rfl)
          (try simp only [Act.put, List.setIfInBounds_toArray, List.set_cons_zero, List.set_cons_succ])
          refine wpAnyH_take (i := 32) (oi := { dst := some 136, op := Go.Op.binOp Go.BinOp.neq 4 (Go.Operand.tmp 134) (Go.Operand.tmp 135) 4, type := 4, pos := "law.go:86", after := #[{ on := 30, ground := Go.Ground.data }, { on := 31, ground := Go.Ground.data }, { on := 28, ground := Go.Ground.guard }], guard := some (28, false) }) (v := ?_) rfl (by kernel_rfl) (by kernel_rfl) (by kernel_rfl) (fun _ _ _ h => h) (Or.inl ⟨by rfl, ?_⟩) (by assumption) ?_
          rotate_left
          · intro wS hSw
            (try dsimp only at hSw)
            go_simp
            (try with_reducible rfl)
          (try simp only [Act.put, List.setIfInBounds_toArray, List.set_cons_zero, List.set_cons_succ])
          refine wpAnyH_take (i := 33) (oi := { dst := some 137, op := Go.Op.pick (Go.Operand.tmp 132) (Go.Operand.const (Go.Value.bool true)) (Go.Operand.tmp 136), type := 4, pos := "law.go:86", after := #[{ on := 28, ground := Go.Ground.data }, { on := 32, ground := Go.Ground.data }], guard := none }) (v := ?_) rfl (by kernel_rfl) (by kernel_rfl) (by kernel_rfl) (fun _ _ _ h => h) (Or.inl ⟨by rfl, ?_⟩) (by assumption) ?_
          rotate_left
          · intro wS hSw
            (try dsimp only at hSw)
            go_simp
            (try with_reducible rfl)
          (try simp only [Act.put, List.setIfInBounds_toArray, List.set_cons_zero, List.set_cons_succ])
          refine wpAnyH_take (i := 34) (oi := { dst := some 138, op := Go.Op.move (Go.Operand.tmp 137), type := 4, pos := "law.go:86", after := #[{ on := 33, ground := Go.Ground.data }, { on := 28, ground := Go.Ground.chain }], guard := none }) (v := ?_) rfl (by kernel_rfl) (by kernel_rfl) (by kernel_rfl) (fun _ _ _ h => h) (Or.inl ⟨by rfl, ?_⟩) (by assumption) ?_
          rotate_left
          · intro wS hSw
            (try dsimp only at hSw)
            go_simp
            (try with_reducible rfl)
          (try simp only [Act.put, List.setIfInBounds_toArray, List.set_cons_zero, List.set_cons_succ])
          refine wpAnyH_take (i := 35) (oi := { dst := some 139, op := Go.Op.load 36 (Go.Operand.tmp 8), type := 36, pos := "law.go:86", after := #[{ on := 34, ground := Go.Ground.guard }], guard := some (34, false) }) (v := ?_) rfl (by kernel_rfl) (by kernel_rfl) (by kernel_rfl) (fun _ _ _ h => h) (Or.inl ⟨by rfl, ?_⟩) (by assumption) ?_
          rotate_left
          · intro wS hSw
            (refine exec_loadM (x := .tmp 8) (cs := [.int .i64 K, .int .i64 N, .int .u32 (gen : Int), .string mk, .slice ob n cb]) ?_ ?_ (range5 (HXT.out.later hSw).x) Tryd.underlying36 rfl info_pg <;> rfl)
          (try simp only [Act.put, List.setIfInBounds_toArray, List.set_cons_zero, List.set_cons_succ])
          refine wpAnyH_take (i := 38) (oi := { dst := some 142, op := Go.Op.load 54 (Go.Operand.tmp 3), type := 54, pos := "law.go:86", after := #[{ on := 34, ground := Go.Ground.guard }], guard := some (34, false) }) (v := ?_) rfl (by kernel_rfl) (by kernel_rfl) (by kernel_rfl) (fun _ _ _ h => h) (Or.inl ⟨by rfl, ?_⟩) (by assumption) ?_
          rotate_left
          · intro wS hSw
            (refine exec_loadM (x := .tmp 3) (cs := [.int .i64 K, .int .i64 N, .int .u32 (gen : Int), .string mk, .slice oa n cs]) ?_ ?_ (range5 (HXT.out.later hSw).p) Tryd.underlying54 rfl info_pgR <;> rfl)
          (try simp only [Act.put, List.setIfInBounds_toArray, List.set_cons_zero, List.set_cons_succ])
          refine wpAnyH_ready (rs := [36]) (by kernel_rfl) (by simp) ?_
          refine AllReadyH.cons (o := { dst := some 140, op := Go.Op.call { callee := Go.Callee.value (Go.Operand.func 19), args := #[Go.Operand.tmp 139], argTypes := #[36] }, type := 31, pos := "law.go:86", after := #[{ on := 35, ground := Go.Ground.data }, { on := 34, ground := Go.Ground.chain }, { on := 34, ground := Go.Ground.guard }], guard := some (34, false) }) rfl (fun K hK => ?_) AllReadyH.nil
          go_simp
          (refine (HCK.out V24 HV.out).mono ?_; rintro e V36 ⟨rfl, hv⟩; have HV := Lib.hid (HV.out.trans (hv.mono HV.out.size)); clear hv; skip)
          (try go_wp2_with fail)
          refine hK.out _ _ ?_ (fun hHeld => ?_)
          · (try dsimp only)
            (first | exact Below.refl _ _ | assumption)
          clear hK K
          (try simp only [Act.put, List.setIfInBounds_toArray, List.set_cons_zero, List.set_cons_succ])
          refine wpAnyH_take (i := 37) (oi := { dst := some 141, op := Go.Op.binOp Go.BinOp.eql 31 (Go.Operand.tmp 140) (Go.Operand.const Go.Value.nilIface) 31, type := 4, pos := "law.go:86", after := #[{ on := 36, ground := Go.Ground.data }, { on := 34, ground := Go.Ground.guard }], guard := some (34, false) }) (v := ?_) rfl (by kernel_rfl) (by kernel_rfl) (by kernel_rfl) (fun _ _ _ h => h) (Or.inl ⟨by rfl, ?_⟩) (by assumption) ?_
          rotate_left
          · intro wS hSw
            (try dsimp only at hSw)
            go_simp
            (try with_reducible rfl)
          (try simp only [Act.put, List.setIfInBounds_toArray, List.set_cons_zero, List.set_cons_succ])
          refine wpAnyH_ready (rs := [39]) (by kernel_rfl) (by simp) ?_
          refine AllReadyH.cons (o := { dst := some 143, op := Go.Op.call { callee := Go.Callee.value (Go.Operand.func 17), args := #[Go.Operand.tmp 142], argTypes := #[54] }, type := 4, pos := "law.go:86", after := #[{ on := 38, ground := Go.Ground.data }, { on := 36, ground := Go.Ground.chain }, { on := 34, ground := Go.Ground.guard }], guard := some (34, false) }) rfl (fun K hK => ?_) AllReadyH.nil
          go_simp
          (refine (HMY.out V36 HV.out).mono ?_; rintro e V39 ⟨rfl, hv⟩; have HV := Lib.hid (HV.out.trans (hv.mono HV.out.size)); clear hv; skip)
          (try go_wp2_with fail)
          refine hK.out _ _ ?_ (fun hHeld => ?_)
          · (try dsimp only)
            (first | exact Below.refl _ _ | assumption)
          clear hK K
          (try simp only [Act.put, List.setIfInBounds_toArray, List.set_cons_zero, List.set_cons_succ])
          refine wpAnyH_take (i := 40) (oi := { dst := some 144, op := Go.Op.binOp Go.BinOp.neq 4 (Go.Operand.tmp 141) (Go.Operand.tmp 143) 4, type := 4, pos := "law.go:86", after := #[{ on := 37, ground := Go.Ground.data }, { on := 39, ground := Go.Ground.data }, { on := 34, ground := Go.Ground.guard }], guard := some (34, false) }) (v := ?_) rfl (by kernel_rfl) (by kernel_rfl) (by kernel_rfl) (fun _ _ _ h => h) (Or.inl ⟨by rfl, ?_⟩) (by assumption) ?_
          rotate_left
          · intro wS hSw
            (try dsimp only at hSw)
            go_simp
            (try with_reducible rfl)
          (try simp only [Act.put, List.setIfInBounds_toArray, List.set_cons_zero, List.set_cons_succ])
          refine wpAnyH_take (i := 41) (oi := { dst := some 145, op := Go.Op.pick (Go.Operand.tmp 138) (Go.Operand.const (Go.Value.bool true)) (Go.Operand.tmp 144), type := 4, pos := "law.go:86", after := #[{ on := 34, ground := Go.Ground.data }, { on := 40, ground := Go.Ground.data }], guard := none }) (v := ?_) rfl (by kernel_rfl) (by kernel_rfl) (by kernel_rfl) (fun _ _ _ h => h) (Or.inl ⟨by rfl, ?_⟩) (by assumption) ?_
          rotate_left
          · intro wS hSw
            (try dsimp only at hSw)
            go_simp
            (try with_reducible rfl)
          (try simp only [Act.put, List.setIfInBounds_toArray, List.set_cons_zero, List.set_cons_succ])
          refine wpAnyH_take (i := 42) (oi := { dst := some 146, op := Go.Op.move (Go.Operand.tmp 145), type := 4, pos := "law.go:86", after := #[{ on := 41, ground := Go.Ground.data }, { on := 39, ground := Go.Ground.chain }], guard := none }) (v := ?_) rfl (by kernel_rfl) (by kernel_rfl) (by kernel_rfl) (fun _ _ _ h => h) (Or.inl ⟨by rfl, ?_⟩) (by assumption) ?_
          rotate_left
          · intro wS hSw
            (try dsimp only at hSw)
            go_simp
            (try with_reducible rfl)
          (try simp only [Act.put, List.setIfInBounds_toArray, List.set_cons_zero, List.set_cons_succ])
          refine wpAnyH_take (i := 43) (oi := { dst := some 147, op := Go.Op.load 36 (Go.Operand.tmp 8), type := 36, pos := "law.go:86", after := #[{ on := 42, ground := Go.Ground.guard }], guard := some (42, false) }) (v := ?_) rfl (by kernel_rfl) (by kernel_rfl) (by kernel_rfl) (fun _ _ _ h => h) (Or.inl ⟨by rfl, ?_⟩) (by assumption) ?_
          rotate_left
          · intro wS hSw
            (refine exec_loadM (x := .tmp 8) (cs := [.int .i64 K, .int .i64 N, .int .u32 (gen : Int), .string mk, .slice ob n cb]) ?_ ?_ (range5 (HXT.out.later hSw).x) Tryd.underlying36 rfl info_pg <;> rfl)
          (try simp only [Act.put, List.setIfInBounds_toArray, List.set_cons_zero, List.set_cons_succ])
          refine wpAnyH_take (i := 44) (oi := { dst := some 148, op := Go.Op.load 54 (Go.Operand.tmp 3), type := 54, pos := "law.go:86", after := #[{ on := 42, ground := Go.Ground.guard }], guard := some (42, false) }) (v := ?_) rfl (by kernel_rfl) (by kernel_rfl) (by kernel_rfl) (fun _ _ _ h => h) (Or.inl ⟨by rfl, ?_⟩) (by assumption) ?_
          rotate_left
          · intro wS hSw
            (refine exec_loadM (x := .tmp 3) (cs := [.int .i64 K, .int .i64 N, .int .u32 (gen : Int), .string mk, .slice oa n cs]) ?_ ?_ (range5 (HXT.out.later hSw).p) Tryd.underlying54 rfl info_pgR <;> rfl)
          (try simp only [Act.put, List.setIfInBounds_toArray, List.set_cons_zero, List.set_cons_succ])
          refine wpAnyH_ready (rs := [45]) (by kernel_rfl) (by simp) ?_
          refine AllReadyH.cons (o := { dst := some 149, op := Go.Op.call { callee := Go.Callee.value (Go.Operand.func 18), args := #[Go.Operand.tmp 147, Go.Operand.tmp 148], argTypes := #[36, 54] }, type := 4, pos := "law.go:86", after := #[{ on := 43, ground := Go.Ground.data }, { on := 44, ground := Go.Ground.data }, { on := 42, ground := Go.Ground.chain }, { on := 42, ground := Go.Ground.guard }], guard := some (42, false) }) rfl (fun K hK => ?_) AllReadyH.nil
          go_simp
          (refine (HIP.out V39 HV.out).mono ?_; rintro e V45 ⟨rfl, hv⟩; have HV := Lib.hid (HV.out.trans (hv.mono HV.out.size)); clear hv; skip)
          (try go_wp2_with fail)
          refine hK.out _ _ ?_ (fun hHeld => ?_)
          · (try dsimp only)
            (first | exact Below.refl _ _ | assumption)
          clear hK K
          (try simp only [Act.put, List.setIfInBounds_toArray, List.set_cons_zero, List.set_cons_succ])
          refine wpAnyH_take (i := 46) (oi := { dst := some 150, op := Go.Op.unOp Go.UnOp.not 4 (Go.Operand.tmp 149), type := 4, pos := "law.go:86", after := #[{ on := 45, ground := Go.Ground.data }, { on := 42, ground := Go.Ground.guard }], guard := some (42, false) }) (v := ?_) rfl (by kernel_rfl) (by kernel_rfl) (by kernel_rfl) (fun _ _ _ h => h) (Or.inl ⟨by rfl, ?_⟩) (by assumption) ?_
          rotate_left
          · intro wS hSw
            (try dsimp only at hSw)
            go_simp
            (try with_reducible rfl)
          (try simp only [Act.put, List.setIfInBounds_toArray, List.set_cons_zero, List.set_cons_succ])
          refine wpAnyH_take (i := 47) (oi := { dst := some 151, op := Go.Op.pick (Go.Operand.tmp 146) (Go.Operand.const (Go.Value.bool true)) (Go.Operand.tmp 150), type := 4, pos := "law.go:86", after := #[{ on := 42, ground := Go.Ground.data }, { on := 46, ground := Go.Ground.data }], guard := none }) (v := ?_) rfl (by kernel_rfl) (by kernel_rfl) (by kernel_rfl) (fun _ _ _ h => h) (Or.inl ⟨by rfl, ?_⟩) (by assumption) ?_
          rotate_left
          · intro wS hSw
            (try dsimp only at hSw)
            go_simp
            (try with_reducible rfl)
          (try simp only [Act.put, List.setIfInBounds_toArray, List.set_cons_zero, List.set_cons_succ])
          refine wpAnyH_done (by kernel_rfl) ?_ _
          have hv := HV.out
          have hx := (HXT.out.later hv).x
          have hn := Blk.below HNT.out hv (Blk.lt HNT.out)
          have HE1 := Lib.hid (HXT.out.later hv).b
          have HR8 := Lib.hid (pg_plan hx)
          have HR22 := Lib.hid (pg_plan hn)
          have m8 := pg_mk hx
          have m22 := pg_mk hn
          have q22 := pg_sl hn
          have he := eq_plan K N (gen : Int) V45
          clear hv hx hn HXT HRAT HRBT HAT HDT HST9 HNT HC2T HC3T HV HCK HMY HIP
          go_wp2_with (first | (refine wpList_valueG (by rfl) (exec_loadM (x := .tmp 157) (cs := [.int .i64 K, .int .i64 N, .int .u32 (gen : Int)]) rfl rfl HR22.out Tryd.underlying26 rfl info_plan3) ?_) | ((refine wpList_valueG (by rfl) (exec_loadM (x := .tmp 159) (cs := [.int .i64 K, .int .i64 N, .int .u32 (gen : Int)]) rfl rfl HR8.out Tryd.underlying26 rfl info_plan3) ?_); refine Hid.out ?_))
          refine Lib.hid ?_
          go_wp2_with fail
          refine (num_ev (k := 1) (.inr ⟨by decide, rfl⟩) V45 (HG.out V45 HE1.out)).mono ?_
          rintro e W16 ⟨rfl, hb⟩
          have HE2 := Lib.hid (HE1.out.trans (hb.mono HE1.out.size))
          clear hb
          go_wp2_with fail
          refine (HSU.out W16 HE2.out).mono ?_
          rintro e W17 ⟨rfl, hb⟩
          have HE3 := Lib.hid (HE2.out.trans (hb.mono HE2.out.size))
          clear hb
          go_wp2_with fail
          go_ret
          exact ⟨rfl, HE3.out⟩
end Go.Proofs.YtgiffaeckhhmpaaDoor
