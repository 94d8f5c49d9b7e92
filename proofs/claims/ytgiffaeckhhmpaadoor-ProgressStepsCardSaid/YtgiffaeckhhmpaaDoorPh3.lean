/- The document's Submit. -/
import Derived.Test.YtgiffaeckhhmpaaDoorPg5
import Derived.Test.YtgiffaeckhhmpaaDoorPh2
import Derived.Test.YtgiffaeckhhmpaaDoorGz2
namespace Go.Proofs.YtgiffaeckhhmpaaDoor
set_option linter.unusedVariables false
set_option linter.unusedSimpArgs false
open Go.RowKit
theorem und_ssR : Tryd.prog.underlying 52 = some (.slice 55) := by kernel_rfl
/-- What the document's Submit answers. -/
def RSubR (tb : Nat) (K N : Int) (gen : Nat) (mk : ByteArray) (S : Nat → Sh) (n : Nat) (s : Sh) (k : Nat) (w : World) (e : Ending) (w' : World) : Prop := Below w.heap.size w w' ∧
  ((k ≠ 0 ∧ e = .returned (.tuple #[.agg #[.int .i64 0, .int .i64 0, .int .u32 0, .string ⟨#[]⟩, .slice none 0 0], .bool false, .int .i64 (k : Int)])) ∨
  (k = 0 ∧ ∃ o c, e = .returned (.tuple #[.agg #[.int .i64 K, .int .i64 N, .int .u32 (gen : Int), .string mk, .slice o (n + 1) c], .bool (decide ((n : Int) + 1 = K)), .int .i64 0]) ∧ n + 1 ≤ c ∧ c ≤ maxLen ∧ Shs tb w' o (n + 1) (catSh n S (fun _ => s))))
set_option maxRecDepth 100000 in
set_option maxHeartbeats 8000000 in
theorem rsubmit_any (tb : Nat) (K N : Int) (gen n cs ix gn ln cp k : Nat) (mk mark : ByteArray) (oa od : Option Addr) (S : Nat → Sh) (f : Nat → Nat) (w : World) (htb : tb < w.heap.size) (hS : Shs tb w oa n S) (hix : ∀ i, i < n → (S i).ix < 256) (hn : n < 100000) (hnc : n ≤ cs) (hcm : cs ≤ maxLen) (hmk : mk.size < 100000000)
    (hs : IsSh tb w [.int .u8 (ix : Int), .int .u32 (gn : Int), .slice od ln cp] ⟨ix, gn, ln, f⟩) (hix2 : ix < 256) (hln : ln < 100000000) (hk : subK K N gen S n mk mark ⟨ix, gn, ln, f⟩ k) :
    Calls Tryd.prog 15 #[.agg #[.int .i64 K, .int .i64 N, .int .u32 (gen : Int), .string mk, .slice oa n cs], .string mark, .agg #[.int .u8 (ix : Int), .int .u32 (gn : Int), .slice od ln cp]] w (RSubR tb K N gen mk S n ⟨ix, gn, ln, f⟩ k w) := by
  obtain ⟨b5, hb5⟩ : ∃ y, w.heap.size + 1 = y := ⟨_, rfl⟩
  obtain ⟨b6, hb6⟩ : ∃ y, b5 + 1 = y := ⟨_, rfl⟩
  obtain ⟨w1, hw1⟩ : ∃ y, ((w.alloc (.cells #[.int .i64 K, .int .i64 N, .int .u32 (gen : Int), .string mk, .slice oa n cs] 54)).alloc (.cells #[.int .u8 (ix : Int), .int .u32 (gn : Int), .slice od ln cp] 55)).alloc (.cells #[.int .i64 0, .int .i64 0, .int .u32 0, .string ⟨#[]⟩, .slice none 0 0] 54) = y := ⟨_, rfl⟩
  have hbl : Below w.heap.size w w1 := by rw [← hw1]; exact (((Below.refl _ _).alloc (Nat.le_refl _) _).alloc (by simp) _).alloc (by simp; omega) _
  have hP : Blk w1 w.heap.size #[.int .i64 K, .int .i64 N, .int .u32 (gen : Int), .string mk, .slice oa n cs] 54 := by rw [← hw1]; exact ((Blk.new _ _ _).alloc _).alloc _
  have hSB : Blk w1 b5 #[.int .u8 (ix : Int), .int .u32 (gn : Int), .slice od ln cp] 55 := by rw [← hw1, ← hb5]; have h9 := (Blk.new (w.alloc (.cells #[.int .i64 K, .int .i64 N, .int .u32 (gen : Int), .string mk, .slice oa n cs] 54)) #[.int .u8 (ix : Int), .int .u32 (gn : Int), .slice od ln cp] 55).alloc (.cells #[.int .i64 0, .int .i64 0, .int .u32 0, .string ⟨#[]⟩, .slice none 0 0] 54); simpa using h9
  have hZ : Blk w1 b6 #[.int .i64 0, .int .i64 0, .int .u32 0, .string ⟨#[]⟩, .slice none 0 0] 54 := by rw [← hw1, ← hb6, ← hb5]; have h9 := Blk.new ((w.alloc (.cells #[.int .i64 K, .int .i64 N, .int .u32 (gen : Int), .string mk, .slice oa n cs] 54)).alloc (.cells #[.int .u8 (ix : Int), .int .u32 (gn : Int), .slice od ln cp] 55)) #[.int .i64 0, .int .i64 0, .int .u32 0, .string ⟨#[]⟩, .slice none 0 0] 54; simpa using h9
  have HLT := Lib.hid (show w.heap.size ≤ b6 by omega)
  have HB60 := Lib.hid (Blk.lt hZ)
  have HCK := Lib.hid (rmay_pg tb K N gen n cs mk oa S w1 (hS.later hbl) hix (by omega) hnc hmk)
  have HRX := Lib.hid (range5 hP)
  have HP1 := Lib.hid hP
  have HS1 := Lib.hid hSB
  have HZ1 := Lib.hid hZ
  have HBL := Lib.hid hbl
  have HSS := Lib.hid hS
  have HSI := Lib.hid hs
  have HNN := Lib.hid (show n < 100000 ∧ n ≤ cs ∧ cs ≤ maxLen ∧ tb < w.heap.size ∧ ix < 256 ∧ ln < 100000000 from ⟨hn, hnc, hcm, htb, hix2, hln⟩)
  have HIX := Lib.hid hix
  have HK := Lib.hid hk
  clear hbl hP hSB hZ hS hs hn hnc hcm htb hix hix2 hmk hk hln
  go_enter Tryd.func15, Tryd.ntmps15
  go_wp2_with (first | (refine wpList_zero rfl rfl zpg_runR ?_) | (refine wpList_value rfl (exec_loadM (x := .tmp 3) (cs := [.int .i64 K, .int .i64 N, .int .u32 (gen : Int), .string mk, .slice oa n cs]) rfl rfl HRX.out Tryd.underlying54 rfl info_pgR) ?_))
  refine HCK.out.mono ?_
  rintro e w2 ⟨(⟨rfl, hmg⟩ | ⟨rfl, hmg⟩), hb2⟩
  rotate_left
  · have HKE : Hid (k = 1) := Lib.hid (by
      rcases HK.out with ⟨h, _⟩ | ⟨_, h, _⟩ | ⟨_, h, _⟩
      · exact h
      · exact absurd h hmg
      · exact absurd h hmg)
    have HZ2 := Lib.hid (Blk.below HZ1.out hb2 (Blk.lt HZ1.out))
    have HB2 := Lib.hid (HBL.out.trans (hb2.mono HBL.out.size))
    clear hmg hb2
    obtain rfl := HKE.out
    have HTH : Hid (w2.there b6 0 5) := Lib.hid (HZ2.out.there (by decide))
    have HX : Hid (Blk (w2.setCells b6 0 [.int .i64 0, .int .i64 0, .int .u32 0, .string ⟨#[]⟩, .slice none 0 0]) b6 #[.int .i64 0, .int .i64 0, .int .u32 0, .string ⟨#[]⟩, .slice none 0 0] 54 ∧ Below w.heap.size w (w2.setCells b6 0 [.int .i64 0, .int .i64 0, .int .u32 0, .string ⟨#[]⟩, .slice none 0 0])) := Lib.hid ⟨HZ2.out.whole5 rfl _ _ _ _ _, HB2.out.trans ((Own.setCells (b := b6) _ 0 w2).below HLT.out HB2.out.size)⟩
    go_wp2_with (first
      | (refine wpList_value rfl (exec_buildM (parts := #[]) (ps := #[]) (C := #[.int .i64 0, .int .i64 0, .int .u32 0, .string ⟨#[]⟩, .slice none 0 0]) rfl rfl build_zpgR) ?_)
      | (refine wpList_store_mid rfl 54 (.tmp 6) (.tmp 14) rfl b6 0 #[.int .i64 0, .int .i64 0, .int .u32 0, .string ⟨#[]⟩, .slice none 0 0] rfl rfl HTH.out info_pgR (one_pg _ _ _ _ _ _ _) ?_))
    refine bodyPost_ret (v := .tuple #[.agg #[.int .i64 0, .int .i64 0, .int .u32 0, .string ⟨#[]⟩, .slice none 0 0], .bool false, .int .i64 1]) ?_ rfl ⟨HX.out.2, .inl ⟨(by decide), rfl⟩⟩
    exact results_cell_tmp3 Tryd.results15 _ _ b6 54 #[.int .i64 0, .int .i64 0, .int .u32 0, .string ⟨#[]⟩, .slice none 0 0] (0, 0) _ rfl HX.out.1 Tryd.underlying54 rfl info_pgR
  have HMG := Lib.hid hmg
  obtain ⟨Kp, rfl⟩ : ∃ k : Nat, K = (k : Int) := ⟨K.toNat, by have := hmg.1.1; omega⟩
  obtain ⟨Nn, rfl⟩ : ∃ k : Nat, N = (k : Int) := ⟨N.toNat, by have := hmg.1.1; have := hmg.1.2; omega⟩
  have HKN : Hid (2 ≤ Kp ∧ Kp ≤ Nn ∧ Nn ≤ 255 ∧ n ≤ Kp) := Lib.hid (by obtain ⟨⟨h1, h2, h3⟩, h4, h5, h6⟩ := hmg; omega)
  have HZ2 := Lib.hid (Blk.below HZ1.out hb2 (Blk.lt HZ1.out))
  have HP2 := Lib.hid (Blk.below HP1.out hb2 (Blk.lt HP1.out))
  have HS2 := Lib.hid (Blk.below HS1.out hb2 (Blk.lt HS1.out))
  have HB2 := Lib.hid (HBL.out.trans (hb2.mono HBL.out.size))
  have HN9 := Lib.hid (show n ≤ 255 by have := HKN.out; omega)
  have c0 := pg_k HP2.out
  have c3 := pg_mk HP2.out
  have c4 := pg_sl HP2.out
  clear hmg hb2 HZ1 HP1 HS1 HRX HCK
  by_cases hma : mark = mk
  rotate_left
  · have HKE : Hid (k = 15) := Lib.hid (by
      rcases HK.out with ⟨_, h⟩ | ⟨h, _⟩ | ⟨_, _, h, _⟩
      · exact absurd HMG.out h
      · exact h
      · exact absurd h hma)
    have hm2 : ¬ mark.toList = mk.toList := str_ne hma
    have hm1 : (mark.toList == mk.toList) = false := by simpa using hm2
    have HMA := Lib.hid hma
    clear hma
    obtain rfl := HKE.out
    have HTH : Hid (w2.there b6 0 5) := Lib.hid (HZ2.out.there (by decide))
    have HX : Hid (Blk (w2.setCells b6 0 [.int .i64 0, .int .i64 0, .int .u32 0, .string ⟨#[]⟩, .slice none 0 0]) b6 #[.int .i64 0, .int .i64 0, .int .u32 0, .string ⟨#[]⟩, .slice none 0 0] 54 ∧ Below w.heap.size w (w2.setCells b6 0 [.int .i64 0, .int .i64 0, .int .u32 0, .string ⟨#[]⟩, .slice none 0 0])) := Lib.hid ⟨HZ2.out.whole5 rfl _ _ _ _ _, HB2.out.trans ((Own.setCells (b := b6) _ 0 w2).below HLT.out HB2.out.size)⟩
    go_upto_region 4 with fail
    go_wp2_with (first
      | (refine wpList_value rfl (exec_buildM (parts := #[]) (ps := #[]) (C := #[.int .i64 0, .int .i64 0, .int .u32 0, .string ⟨#[]⟩, .slice none 0 0]) rfl rfl build_zpgR) ?_)
      | (refine wpList_store_mid rfl 54 (.tmp 6) (.tmp 28) rfl b6 0 #[.int .i64 0, .int .i64 0, .int .u32 0, .string ⟨#[]⟩, .slice none 0 0] rfl rfl HTH.out info_pgR (one_pg _ _ _ _ _ _ _) ?_))
    refine bodyPost_ret (v := .tuple #[.agg #[.int .i64 0, .int .i64 0, .int .u32 0, .string ⟨#[]⟩, .slice none 0 0], .bool false, .int .i64 15]) ?_ rfl ⟨HX.out.2, .inl ⟨by decide, rfl⟩⟩
    exact results_cell_tmp3 Tryd.results15 _ _ b6 54 #[.int .i64 0, .int .i64 0, .int .u32 0, .string ⟨#[]⟩, .slice none 0 0] (0, 0) _ rfl HX.out.1 Tryd.underlying54 rfl info_pgR
  replace hma := hma.symm
  subst hma
  by_cases hnk : n = Kp
  · have HKE : Hid (k = 15) := Lib.hid (by
      rcases HK.out with ⟨_, h⟩ | ⟨h, _⟩ | ⟨_, _, _, h⟩
      · exact absurd HMG.out h
      · exact h
      · exact absurd (by omega) h)
    have e1 : (n : Int) = (Kp : Int) := by omega
    have e2 : decide ((n : Int) = (Kp : Int)) = true := decide_eq_true e1
    have e3 : ((n : Int) == (Kp : Int)) = true := by simp only [beq_iff_eq]; exact e1
    have e4 : decide (n = Kp) = true := decide_eq_true (by omega)
    have e5 : (n == Kp) = true := by simp only [beq_iff_eq]; omega
    clear hnk
    obtain rfl := HKE.out
    go_upto_region 4 with fail
    have HTH : Hid (w2.there b6 0 5) := Lib.hid (HZ2.out.there (by decide))
    have HX : Hid (Blk (w2.setCells b6 0 [.int .i64 0, .int .i64 0, .int .u32 0, .string ⟨#[]⟩, .slice none 0 0]) b6 #[.int .i64 0, .int .i64 0, .int .u32 0, .string ⟨#[]⟩, .slice none 0 0] 54 ∧ Below w.heap.size w (w2.setCells b6 0 [.int .i64 0, .int .i64 0, .int .u32 0, .string ⟨#[]⟩, .slice none 0 0])) := Lib.hid ⟨HZ2.out.whole5 rfl _ _ _ _ _, HB2.out.trans ((Own.setCells (b := b6) _ 0 w2).below HLT.out HB2.out.size)⟩
    go_wp2_with (first
      | (refine wpList_value rfl (exec_buildM (parts := #[]) (ps := #[]) (C := #[.int .i64 0, .int .i64 0, .int .u32 0, .string ⟨#[]⟩, .slice none 0 0]) rfl rfl build_zpgR) ?_)
      | (refine wpList_store_mid rfl 54 (.tmp 6) (.tmp 28) rfl b6 0 #[.int .i64 0, .int .i64 0, .int .u32 0, .string ⟨#[]⟩, .slice none 0 0] rfl rfl HTH.out info_pgR (one_pg _ _ _ _ _ _ _) ?_))
    refine bodyPost_ret (v := .tuple #[.agg #[.int .i64 0, .int .i64 0, .int .u32 0, .string ⟨#[]⟩, .slice none 0 0], .bool false, .int .i64 15]) ?_ rfl ⟨HX.out.2, .inl ⟨(by decide), rfl⟩⟩
    exact results_cell_tmp3 Tryd.results15 _ _ b6 54 #[.int .i64 0, .int .i64 0, .int .u32 0, .string ⟨#[]⟩, .slice none 0 0] (0, 0) _ rfl HX.out.1 Tryd.underlying54 rfl info_pgR
  have HKE : Hid (k = wrongN Nn gen S n ⟨ix, gn, ln, f⟩) := Lib.hid (by
    rcases HK.out with ⟨_, h⟩ | ⟨_, _, h⟩ | ⟨h, _⟩
    · exact absurd HMG.out h
    · rcases h with h | h
      · exact absurd rfl h
      · omega
    · rw [Int.toNat_natCast] at h; exact h)
  have e1 : ¬ (n : Int) = (Kp : Int) := by omega
  have e2 : decide ((n : Int) = (Kp : Int)) = false := decide_eq_false e1
  have e3 : ((n : Int) == (Kp : Int)) = false := by simp only [beq_eq_false_iff_ne]; exact e1
  have e4 : decide (n = Kp) = false := decide_eq_false (by omega)
  have e5 : (n == Kp) = false := by simp only [beq_eq_false_iff_ne]; omega
  have e6 : ¬ n = Kp := by omega
  have HNK := Lib.hid hnk
  have HFI := Lib.hid (rwrong_any tb (Kp : Int) Nn gen n cs ix gn ln cp oa od S f w2 (HSS.out.later HB2.out) (by have := HNN.out; omega) HNN.out.2.2.2.2.1)
  rw [← HKE.out] at HFI
  have HRP := Lib.hid (pg_plan HP2.out)
  have HRS := Lib.hid (Blk.range0 (C := [.int .u8 (ix : Int), .int .u32 (gn : Int), .slice od ln cp]) HS2.out)
  clear hnk
  go_wp2_with (first
    | (refine wpList_value rfl (exec_loadM (x := .tmp 29) (cs := [.int .i64 (Kp : Int), .int .i64 (Nn : Int), .int .u32 (gen : Int)]) rfl rfl HRP.out Tryd.underlying51 rfl info_rplan3) ?_)
    | (refine wpList_value rfl (exec_loadM (x := .tmp 5) (cs := [.int .u8 (ix : Int), .int .u32 (gn : Int), .slice od ln cp]) rfl rfl HRS.out Tryd.underlying55 rfl info_rshare3) ?_))
  refine HFI.out.mono ?_
  rintro e w3 ⟨rfl, hb3⟩
  have HZ3 := Lib.hid (Blk.below HZ2.out hb3 (Blk.lt HZ2.out))
  have HP3 := Lib.hid (Blk.below HP2.out hb3 (Blk.lt HP2.out))
  have HS3 := Lib.hid (Blk.below HS2.out hb3 (Blk.lt HS2.out))
  have HB3 := Lib.hid (HB2.out.trans (hb3.mono HB2.out.size))
  have HB63 := Lib.hid (Blk.lt HZ3.out)
  clear hb3 c0 c3 c4 HZ2 HP2 HS2 HB2 HRP HRS HFI e1 e2 e3 e4 e5 e6
  by_cases hk0 : k = 0
  rotate_left
  · have HK0 := Lib.hid hk0
    have z1 : ¬ (k : Int) = 0 := by omega
    have z2 : decide ((k : Int) = 0) = false := decide_eq_false z1
    have z3 : ((k : Int) == 0) = false := by simp only [beq_eq_false_iff_ne]; exact z1
    have z4 : decide (k = 0) = false := decide_eq_false (by omega)
    have z5 : (k == 0) = false := by simp only [beq_eq_false_iff_ne]; omega
    have z6 : ¬ k = 0 := by omega
    clear hk0
    have HTH : Hid (w3.there b6 0 5) := Lib.hid (HZ3.out.there (by decide))
    have HX : Hid (Blk (w3.setCells b6 0 [.int .i64 0, .int .i64 0, .int .u32 0, .string ⟨#[]⟩, .slice none 0 0]) b6 #[.int .i64 0, .int .i64 0, .int .u32 0, .string ⟨#[]⟩, .slice none 0 0] 54 ∧ Below w.heap.size w (w3.setCells b6 0 [.int .i64 0, .int .i64 0, .int .u32 0, .string ⟨#[]⟩, .slice none 0 0])) := Lib.hid ⟨HZ3.out.whole5 rfl _ _ _ _ _, HB3.out.trans ((Own.setCells (b := b6) _ 0 w3).below HLT.out HB3.out.size)⟩
    go_wp2_with (first
      | (refine wpList_value rfl (exec_buildM (parts := #[]) (ps := #[]) (C := #[.int .i64 0, .int .i64 0, .int .u32 0, .string ⟨#[]⟩, .slice none 0 0]) rfl rfl build_zpgR) ?_)
      | (refine wpList_store_mid rfl 54 (.tmp 6) (.tmp 37) rfl b6 0 #[.int .i64 0, .int .i64 0, .int .u32 0, .string ⟨#[]⟩, .slice none 0 0] rfl rfl HTH.out info_pgR (one_pg _ _ _ _ _ _ _) ?_))
    refine bodyPost_ret (v := .tuple #[.agg #[.int .i64 0, .int .i64 0, .int .u32 0, .string ⟨#[]⟩, .slice none 0 0], .bool false, .int .i64 (k : Int)]) ?_ rfl ⟨HX.out.2, .inl ⟨HK0.out, rfl⟩⟩
    exact results_cell_tmp3 Tryd.results15 _ _ b6 54 #[.int .i64 0, .int .i64 0, .int .u32 0, .string ⟨#[]⟩, .slice none 0 0] (0, 0) _ rfl HX.out.1 Tryd.underlying54 rfl info_pgR
  subst hk0
  have HRP3 := Lib.hid (pg_plan HP3.out)
  have c33 := pg_mk HP3.out
  have HB63X := Lib.hid (show w3.heap.size ≤ w3.heap.size from Nat.le_refl _)
  obtain ⟨b10, hb10⟩ : ∃ y, w3.heap.size = y := ⟨_, rfl⟩
  obtain ⟨wz, hwz⟩ : ∃ y, w3.alloc (.cells #[.int .i64 0, .int .i64 0, .int .u32 0, .string ⟨#[]⟩, .slice none 0 0] 54) = y := ⟨_, rfl⟩
  have hbz : Below w3.heap.size w3 wz := by rw [← hwz]; exact (Below.refl _ _).alloc (Nat.le_refl _) _
  have hXz : Blk wz b10 #[.int .i64 0, .int .i64 0, .int .u32 0, .string ⟨#[]⟩, .slice none 0 0] 54 := by rw [← hwz, ← hb10]; exact Blk.new _ _ _
  have HTZ : Hid (wz.there b10 0 5) := Lib.hid (hXz.there (by decide))
  obtain ⟨w5, hw5⟩ : ∃ y, wz.setCells b10 0 [.int .i64 (Kp : Int), .int .i64 (Nn : Int), .int .u32 (gen : Int), .string mk, .slice none 0 0] = y := ⟨_, rfl⟩
  have hOz : Own b10 wz w5 := by rw [← hw5]; exact Own.setCells _ _ _
  have hb35 : Below w3.heap.size w3 w5 := hbz.trans (hOz.below (by omega) hbz.size)
  have HN5 : Hid (Blk w5 b10 #[.int .i64 (Kp : Int), .int .i64 (Nn : Int), .int .u32 (gen : Int), .string mk, .slice none 0 0] 54) := Lib.hid (by rw [← hw5]; exact hXz.whole5 rfl _ _ _ _ _)
  have HZ5 := Lib.hid (Blk.below HZ3.out hb35 (Blk.lt HZ3.out))
  have HPR : Hid (Blk w5.drew w.heap.size _ 54) := Lib.hid (Blk.below HP3.out hb35.drew (Blk.lt HP3.out))
  have HSB : Hid (Blk w5.drew b5 _ 55) := Lib.hid (Blk.below HS3.out hb35.drew (Blk.lt HS3.out))
  have hBD := HB3.out.trans (hb35.drew.mono HB3.out.size)
  have HBD := Lib.hid hBD
  have HW5 := Lib.hid hw5
  have HLQ : Hid (w.heap.size < b10 ∧ b5 < b10 ∧ b6 < b10 ∧ w3.heap.size = b10) := Lib.hid ⟨by have := Blk.lt HP3.out; omega, by have := Blk.lt HS3.out; omega, by have := Blk.lt HZ3.out; omega, hb10⟩
  have HPN : Hid (w.heap.size ≠ b10) := Lib.hid (Nat.ne_of_lt HLQ.out.1)
  have HSN : Hid (b5 ≠ b10) := Lib.hid (Nat.ne_of_lt HLQ.out.2.1)
  have HWR : Hid (w.heap.size ≤ w5.drew.heap.size ∧ b10 < w5.drew.heap.size) := Lib.hid ⟨hBD.size, Blk.lt HN5.out⟩
  have HN10 : Hid (Blk w5.drew b10 #[.int .i64 (Kp : Int), .int .i64 (Nn : Int), .int .u32 (gen : Int), .string mk, .slice none 0 0] 54) := Lib.hid (Blk.below HN5.out (Below.refl w5.heap.size w5).drew (Blk.lt HN5.out))
  have HZ10 : Hid (Blk w5.drew b6 _ 54) := Lib.hid (Blk.below HZ5.out (Below.refl w5.heap.size w5).drew (Blk.lt HZ5.out))
  have HPX : Hid (∀ q, q < w.heap.size → q ≠ tb → q ≠ tb ∧ q ≠ b10 ∧ q ≠ b6) := Lib.hid fun q hq h1 => ⟨h1, by have := HLQ.out.1; omega, by have := HLT.out; omega⟩
  have HSW : Hid (IsP (fun q => q ≠ tb ∧ q ≠ b10 ∧ q ≠ b6) w [.int .u8 (ix : Int), .int .u32 (gn : Int), .slice od ln cp] ⟨ix, gn, ln, f⟩) := Lib.hid (HSI.out.isP fun q hq h1 => HPX.out q hq h1)
  have HN0 := Lib.hid (show 0 + n < 1000000 by have := HNN.out; omega)
  have HN1 := Lib.hid (show n + 1 < 1000000 by have := HNN.out; omega)
  clear hbz hXz hOz hb35 hw5 hBD HZ3 HP3 HS3
  go_upto_region 9 with (first
    | (refine wpList_value rfl (exec_loadM (x := .tmp 39) (cs := [.int .i64 (Kp : Int), .int .i64 (Nn : Int), .int .u32 (gen : Int)]) rfl rfl HRP3.out Tryd.underlying51 rfl info_rplan3) ?_)
    | (refine wpList_value rfl (exec_buildM (parts := #[(0, .tmp 40), (1, .tmp 42)]) (ps := #[(0, .agg #[.int .i64 (Kp : Int), .int .i64 (Nn : Int), .int .u32 (gen : Int)]), (1, .string mk)]) rfl rfl (build_pgR (Kp : Int) (Nn : Int) gen mk)) ?_)
    | (refine wpList_zero rfl rfl zpg_runR ?_; rw [hwz, hb10]; (try simp only [Act.put, List.setIfInBounds_toArray, List.set_cons_zero, List.set_cons_succ]))
    | (refine wpList_store_mid rfl 54 (.tmp 10) (.tmp 43) rfl b10 0 #[.int .i64 (Kp : Int), .int .i64 (Nn : Int), .int .u32 (gen : Int), .string mk, .slice none 0 0] rfl rfl HTZ.out info_pgR (one_pg _ _ _ _ _ _ _) ?_; rw [HW5.out]))
  clear c33
  have n4WR : w5.drew.cell? ⟨b10, 4, none⟩ = some (.slice none 0 0) := by rw [Blk.cell HN10.out]; rfl
  have hvWR := Below.refl w5.drew.heap.size w5.drew
  refine wp_region_held_drew (S := (Own b10 w5.drew)) (by kernel_rfl) ?_ (fun hHeld => ?_)
  · (try dsimp only)
    (first | exact Own.refl _ _ | exact Own.of_below (by assumption) | exact ((Own.of_below (by assumption)).trans ((Own.refl _ _).set _ _)))
  generalize w5.drew = WR at *
  refine wpAnyH_take (i := 0) (oi := { dst := some 44, op := Go.Op.fieldAddr 54 (Go.Operand.tmp 10) 2, type := 0, pos := "ref.go:67", after := #[], guard := none }) (v := ?_) rfl (by kernel_rfl) (by kernel_rfl) (by kernel_rfl) (fun _ _ _ h => h) (Or.inl ⟨by rfl, ?_⟩) (by assumption) ?_
  rotate_left
  · intro wS hSw
    (try dsimp only at hSw)
    go_simp
    (try with_reducible rfl)
  (try simp only [Act.put, List.setIfInBounds_toArray, List.set_cons_zero, List.set_cons_succ])
  refine wpAnyH_take (i := 2) (oi := { dst := some 46, op := Go.Op.fieldAddr 54 (Go.Operand.tmp 3) 2, type := 0, pos := "ref.go:67", after := #[], guard := none }) (v := ?_) rfl (by kernel_rfl) (by kernel_rfl) (by kernel_rfl) (fun _ _ _ h => h) (Or.inl ⟨by rfl, ?_⟩) (by assumption) ?_
  rotate_left
  · intro wS hSw
    (try dsimp only at hSw)
    go_simp
    (try with_reducible rfl)
  (try simp only [Act.put, List.setIfInBounds_toArray, List.set_cons_zero, List.set_cons_succ])
  refine wpAnyH_take (i := 3) (oi := { dst := some 47, op := Go.Op.load 52 (Go.Operand.tmp 46), type := 52, pos := "ref.go:67", after := #[{ on := 2, ground := Go.Ground.data }], guard := none }) (v := ?_) rfl (by kernel_rfl) (by kernel_rfl) (by kernel_rfl) (fun _ _ _ h => h) (Or.inl ⟨by rfl, ?_⟩) (by assumption) ?_
  rotate_left
  · intro wS hSw
    (have c4 := pg_sl (hSw.blk HPR.out HPN.out); go_simp; (try with_reducible rfl))
  (try simp only [Act.put, List.setIfInBounds_toArray, List.set_cons_zero, List.set_cons_succ])
  refine wpAnyH_take (i := 5) (oi := { dst := some 49, op := Go.Op.load 55 (Go.Operand.tmp 5), type := 55, pos := "ref.go:67", after := #[], guard := none }) (v := ?_) rfl (by kernel_rfl) (by kernel_rfl) (by kernel_rfl) (fun _ _ _ h => h) (Or.inl ⟨by rfl, ?_⟩) (by assumption) ?_
  rotate_left
  · intro wS hSw
    (refine exec_loadM (x := .tmp 5) (cs := [.int .u8 (ix : Int), .int .u32 (gn : Int), .slice od ln cp]) ?_ ?_ (Blk.range0 (C := [.int .u8 (ix : Int), .int .u32 (gn : Int), .slice od ln cp]) (hSw.blk HSB.out HSN.out)) Tryd.underlying55 rfl info_rshare3 <;> rfl)
  (try simp only [Act.put, List.setIfInBounds_toArray, List.set_cons_zero, List.set_cons_succ])
  refine wpAnyH_ready (rs := [1, 6]) (by kernel_rfl) (by simp) ?_
  refine AllReadyH.cons (o := { dst := some 45, op := Go.Op.load 52 (Go.Operand.tmp 44), type := 52, pos := "ref.go:67", after := #[{ on := 0, ground := Go.Ground.data }], guard := none }) rfl (fun K hK => ?_) ?_
  · skip
    go_simp
    (skip)
    (try go_wp2_with fail)
    refine hK.out _ _ ?_ (fun hHeld => ?_)
    · (try dsimp only)
      (first | exact Own.refl _ _ | exact Own.of_below (by assumption) | exact ((Own.of_below (by assumption)).trans ((Own.refl _ _).set _ _)))
    clear hK K
    (try simp only [Act.put, List.setIfInBounds_toArray, List.set_cons_zero, List.set_cons_succ])
    refine wpAnyH_ready (rs := [4, 6]) (by kernel_rfl) (by simp) ?_
    refine AllReadyH.cons (o := { dst := some 48, op := Go.Op.call { callee := Go.Callee.builtin Go.Builtin.append, args := #[Go.Operand.tmp 45, Go.Operand.tmp 47], argTypes := #[52, 52] }, type := 52, pos := "ref.go:67", after := #[{ on := 1, ground := Go.Ground.data }, { on := 3, ground := Go.Ground.data }], guard := none }) rfl (fun K hK => ?_) ?_
    · skip
      (refine step_GP und_ssR info_rshare rfl rfl (.tmp 45) (.tmp 47) rfl (fun q => q ≠ tb ∧ q ≠ b10 ∧ q ≠ b6) WR.heap.size (.slice none 0 0) 0 n cs (fun _ => default) S oa WR rfl (GP.nil _ _ _ _ _) rfl (HSS.out.shP (HBD.out.trans (hvWR.mono HBD.out.size)) (fun q hq => by simp [Value.ownBlock] at hq) HPX.out) (fun e => by subst e; exact HSS.out.none) HN0.out (Nat.le_refl _) ?_; intro va VAx1x4 hGa hba _; have HGA := Lib.hid (by rw [Nat.zero_add] at hGa; exact (hGa.congr (S' := S) fun i hi => by unfold catSh; rw [if_neg (Nat.not_lt_zero _), Nat.sub_zero] : GP 55 (fun q => q ≠ tb ∧ q ≠ b10 ∧ q ≠ b6) VAx1x4 WR.heap.size va n S)); have HAZ := Lib.hid (show WR.heap.size ≤ WR.heap.size ∧ WR.heap.size ≤ VAx1x4.heap.size from ⟨hvWR.size, hba.size⟩); (try have HLB := Lib.hid (Blk.below HLB.out hba (Blk.lt HLB.out))); have hvVAx1x4 := Below.trans hvWR (hba.mono hvWR.size); clear hGa hba; skip)
      refine hK.out _ _ ?_ (fun hHeld => ?_)
      · (try dsimp only)
        (first | exact Own.refl _ _ | exact Own.of_below (by assumption) | exact ((Own.of_below (by assumption)).trans ((Own.refl _ _).set _ _)))
      clear hK K
      (try simp only [Act.put, List.setIfInBounds_toArray, List.set_cons_zero, List.set_cons_succ])
      refine wpAnyH_ready (rs := [6]) (by kernel_rfl) (by simp) ?_
      refine AllReadyH.cons (o := { dst := some 50, op := Go.Op.buildSlice 52 1 #[(0, Go.Operand.tmp 49)], type := 52, pos := "ref.go:67", after := #[{ on := 5, ground := Go.Ground.data }], guard := none }) rfl (fun K hK => ?_) AllReadyH.nil
      go_simp
      (obtain ⟨VBx1x4, hw⟩ : ∃ z, VAx1x4.alloc (.cells #[.int .u8 (ix : Int), .int .u32 (gn : Int), .slice od ln cp] 55) = z := ⟨_, rfl⟩; rw [hw]; have hb : Below VAx1x4.heap.size VAx1x4 VBx1x4 := (by rw [← hw]; exact (Below.refl _ _).alloc (Nat.le_refl _) _); have HLB : Hid (Blk VBx1x4 VAx1x4.heap.size ([.int .u8 (ix : Int), .int .u32 (gn : Int), .slice od ln cp] : List Value).toArray 55) := Lib.hid (by rw [← hw]; exact Blk.new _ _ _); (try have HGA := Lib.hid (HGA.out.later hb)); (try have HAZ := Lib.hid (show WR.heap.size ≤ _ ∧ _ from ⟨HAZ.out.1, Nat.le_trans HAZ.out.2 hb.size⟩)); have n4VBx1x4 : VBx1x4.cell? ⟨b10, 4, none⟩ = some (.slice none 0 0) := (by have h9 := Blk.below HN10.out (Below.trans hvVAx1x4 (hb.mono hvVAx1x4.size)) HWR.out.2; rw [Blk.cell h9]; rfl); have hvVBx1x4 := Below.trans hvVAx1x4 (hb.mono hvVAx1x4.size); clear hb hw; skip)
      (try go_wp2_with fail)
      refine hK.out _ _ ?_ (fun hHeld => ?_)
      · (try dsimp only)
        (first | exact Own.refl _ _ | exact Own.of_below (by assumption) | exact ((Own.of_below (by assumption)).trans ((Own.refl _ _).set _ _)))
      clear hK K
      (try simp only [Act.put, List.setIfInBounds_toArray, List.set_cons_zero, List.set_cons_succ])
      refine wpAnyH_ready (rs := [7]) (by kernel_rfl) (by simp) ?_
      refine AllReadyH.cons (o := { dst := some 51, op := Go.Op.call { callee := Go.Callee.builtin Go.Builtin.append, args := #[Go.Operand.tmp 48, Go.Operand.tmp 50], argTypes := #[52, 52] }, type := 52, pos := "ref.go:67", after := #[{ on := 4, ground := Go.Ground.data }, { on := 6, ground := Go.Ground.data }, { on := 4, ground := Go.Ground.chain }], guard := none }) rfl (fun K hK => ?_) AllReadyH.nil
      (refine step_GP und_ssR info_rshare rfl rfl (.tmp 48) (.tmp 50) rfl (fun q => q ≠ tb ∧ q ≠ b10 ∧ q ≠ b6) _ va n 1 1 S (fun _ => ⟨ix, gn, ln, f⟩) (some ⟨VAx1x4.heap.size, 0, none⟩) VBx1x4 rfl HGA.out rfl (ShP.one (HSW.out.later (HBD.out.trans (hvVBx1x4.mono HBD.out.size))) (HSW.out.away (fun q hq => Nat.le_trans HWR.out.1 (Nat.le_trans HAZ.out.1 (HGA.out.block q hq).1))) HLB.out) (fun e => by cases e) HN1.out HAZ.out.2 ?_; intro v7 w7 hG7 hb7 hg7; obtain ⟨ot, ct, rfl, ht1, ht2, -, -, -⟩ := hG7.shs (tb := tb) (fun q hq => hq.1) (.inl (by have h1 := HAZ.out.1; have h2 := HWR.out.1; have h3 := HNN.out; omega)); have HG7 := Lib.hid hG7; have HTC := Lib.hid (show n + 1 ≤ ct ∧ ct ≤ maxLen from ⟨ht1, ht2⟩); have HV7 := Lib.hid (hvVBx1x4.trans (hb7.mono HAZ.out.1)); have hvw7 := HV7.out; have hn7 := (Blk.below HN10.out HV7.out HWR.out.2); have HN7 := Lib.hid hn7; have n47 : w7.cell? ⟨b10, 4, none⟩ = some (.slice none 0 0) := (by rw [Blk.cell hn7]; rfl); have fr7 := Blk.free hn7 4; clear hG7 hb7 hg7 ht1 ht2 hn7; skip)
      refine hK.out _ _ ?_ (fun hHeld => ?_)
      · (try dsimp only)
        (first | exact Own.refl _ _ | exact Own.of_below (by assumption) | exact ((Own.of_below (by assumption)).trans ((Own.refl _ _).set _ _)))
      clear hK K
      (try simp only [Act.put, List.setIfInBounds_toArray, List.set_cons_zero, List.set_cons_succ])
      refine wpAnyH_take (i := 8) (oi := { dst := some 52, op := Go.Op.fieldAddr 54 (Go.Operand.tmp 10) 2, type := 0, pos := "ref.go:67", after := #[{ on := 0, ground := Go.Ground.phase }, { on := 1, ground := Go.Ground.phase }, { on := 2, ground := Go.Ground.phase }, { on := 3, ground := Go.Ground.phase }, { on := 4, ground := Go.Ground.phase }, { on := 5, ground := Go.Ground.phase }, { on := 6, ground := Go.Ground.phase }, { on := 7, ground := Go.Ground.phase }], guard := none }) (v := ?_) rfl (by kernel_rfl) (by kernel_rfl) (by kernel_rfl) (fun _ _ _ h => h) (Or.inl ⟨by rfl, ?_⟩) (by assumption) ?_
      rotate_left
      · intro wS hSw
        (try dsimp only at hSw)
        go_simp
        (try with_reducible rfl)
      (try simp only [Act.put, List.setIfInBounds_toArray, List.set_cons_zero, List.set_cons_succ])
      refine wpAnyH_ready (rs := [9]) (by kernel_rfl) (by simp) ?_
      refine AllReadyH.cons (o := { dst := none, op := Go.Op.store 52 (Go.Operand.tmp 52) (Go.Operand.tmp 51), type := 0, pos := "ref.go:67", after := #[{ on := 8, ground := Go.Ground.data }, { on := 7, ground := Go.Ground.data }, { on := 7, ground := Go.Ground.chain }, { on := 0, ground := Go.Ground.phase }, { on := 1, ground := Go.Ground.phase }, { on := 2, ground := Go.Ground.phase }, { on := 3, ground := Go.Ground.phase }, { on := 4, ground := Go.Ground.phase }, { on := 5, ground := Go.Ground.phase }, { on := 6, ground := Go.Ground.phase }, { on := 7, ground := Go.Ground.phase }], guard := none }) rfl (fun K hK => ?_) AllReadyH.nil
      go_simp
      (skip)
      (try go_wp2_with fail)
      refine hK.out _ _ ?_ (fun hHeld => ?_)
      · (try dsimp only)
        (first | exact Own.refl _ _ | exact Own.of_below (by assumption) | exact ((Own.of_below (by assumption)).trans ((Own.refl _ _).set _ _)))
      clear hK K
      (try simp only [Act.put, List.setIfInBounds_toArray, List.set_cons_zero, List.set_cons_succ])
      refine wpAnyH_done (by kernel_rfl) ?_ _
      go_wp2_with fail
      have hO8 : Own b10 w7 (w7.setCell ⟨b10, 4, none⟩ (.slice ot (n + 1) ct)) := (Own.refl _ _).set _ _
      have hn8 := HN7.out.set 4 (.slice ot (n + 1) ct)
      have hg8 := HG7.out.own hO8 (fun q h => h.2.1) (Nat.lt_of_lt_of_le HWR.out.2 HAZ.out.1)
      have hz8 := hO8.blk (Blk.below HZ10.out HV7.out (Blk.lt HZ10.out)) (Nat.ne_of_lt HLQ.out.2.2.1)
      have hp8 := hO8.blk (Blk.below HPR.out HV7.out (Blk.lt HPR.out)) HPN.out
      have hbw7 := HBD.out.trans (HV7.out.mono HBD.out.size)
      have hbw8 := hbw7.trans (hO8.below (Nat.le_of_lt HLQ.out.1) hbw7.size)
      generalize w7.setCell ⟨b10, 4, none⟩ (.slice ot (n + 1) ct) = w8 at *
      have hbd := (Below.refl w8.heap.size w8).drew
      have HB16 : Hid (Blk w8.drew b10 #[.int .i64 (Kp : Int), .int .i64 (Nn : Int), .int .u32 (gen : Int), .string mk, .slice ot (n + 1) ct] 54) := Lib.hid (Blk.below hn8 hbd (Blk.lt hn8))
      have HP16 := Lib.hid (Blk.below hp8 hbd (Blk.lt hp8))
      have HNE16 : Hid (b10 ≠ b6) := Lib.hid (Nat.ne_of_gt HLQ.out.2.2.1)
      have HZN : Hid (w.heap.size ≠ b6) := Lib.hid (by have h1 := HLT.out; have h2 := hb5; have h3 := hb6; omega)
      have hz9 := Blk.below hz8 hbd (Blk.lt hz8)
      have HTH : Hid (w8.drew.there b6 0 5) := Lib.hid (hz9.there (by decide))
      have hbw9 := hbw8.trans (hbd.mono hbw8.size)
      have hO9 : Own b6 w8.drew (w8.drew.setCells b6 0 [.int .i64 (Kp : Int), .int .i64 (Nn : Int), .int .u32 (gen : Int), .string mk, .slice ot (n + 1) ct]) := Own.setCells _ _ _
      have HX : Hid (Blk (w8.drew.setCells b6 0 [.int .i64 (Kp : Int), .int .i64 (Nn : Int), .int .u32 (gen : Int), .string mk, .slice ot (n + 1) ct]) b6 #[.int .i64 (Kp : Int), .int .i64 (Nn : Int), .int .u32 (gen : Int), .string mk, .slice ot (n + 1) ct] 54 ∧ Below w.heap.size w (w8.drew.setCells b6 0 [.int .i64 (Kp : Int), .int .i64 (Nn : Int), .int .u32 (gen : Int), .string mk, .slice ot (n + 1) ct])) := Lib.hid ⟨hz9.whole5 rfl _ _ _ _ _, hbw9.trans (hO9.below HLT.out hbw9.size)⟩
      have HQ : Hid (n + 1 ≤ ct ∧ ct ≤ maxLen ∧ Shs tb (w8.drew.setCells b6 0 [.int .i64 (Kp : Int), .int .i64 (Nn : Int), .int .u32 (gen : Int), .string mk, .slice ot (n + 1) ct]) ot (n + 1) (catSh n S (fun _ => ⟨ix, gn, ln, f⟩))) := Lib.hid (by
        obtain ⟨oz, cz, ez, -, -, -, -, hz8'⟩ := ((hg8.later hbd).own hO9 (fun q hq => hq.2.2) (by have h1 := HLQ.out; have h2 := HAZ.out.1; have h3 := HWR.out.2; omega)).shs (tb := tb) (fun q hq => hq.1) (.inl (by have h1 := HAZ.out.1; have h2 := HWR.out.1; have h3 := HNN.out; omega))
        cases ez
        exact ⟨HTC.out.1, HTC.out.2, hz8'⟩)
      clear hO8 hn8 hg8 hz8 hp8 hbw7 hbw8 hbd hz9 hbw9 hO9 n47 fr7 hvw7
      by_cases hkk : n + 1 = Kp
      · skip
        have HDE : Hid (decide ((n : Int) + 1 = (Kp : Int)) = true) := Lib.hid (decide_eq_true (by omega))
        have e1 : (n : Int) + 1 = (Kp : Int) := by omega
        have e2 : decide ((n : Int) + 1 = (Kp : Int)) = true := decide_eq_true e1
        have e3 : ((n : Int) + 1 == (Kp : Int)) = true := by simp only [beq_iff_eq]; exact e1
        have e4 : decide (n + 1 = Kp) = true := decide_eq_true hkk
        have e5 : (n + 1 == Kp) = true := by simp only [beq_iff_eq]; exact hkk
        clear e1 hkk
        refine wp_region_held_drew (S := (Own b6 w8.drew)) (by kernel_rfl) ?_ (fun hHeld => ?_)
        · (try dsimp only)
          (first | exact Own.refl _ _ | exact Own.setCells _ _ _ | assumption)
        generalize w8.drew = WS at *
        refine wpAnyH_take (i := 0) (oi := { dst := some 53, op := Go.Op.load 54 (Go.Operand.tmp 10), type := 54, pos := "ref.go:68", after := #[], guard := none }) (v := ?_) rfl (by kernel_rfl) (by kernel_rfl) (by kernel_rfl) (fun _ _ _ h => h) (Or.inl ⟨by rfl, ?_⟩) (by assumption) ?_
        rotate_left
        · intro wS hSw
          (refine exec_loadM (x := .tmp 10) (cs := [.int .i64 (Kp : Int), .int .i64 (Nn : Int), .int .u32 (gen : Int), .string mk, .slice ot (n + 1) ct]) ?_ ?_ (range5 (hSw.blk HB16.out HNE16.out)) Tryd.underlying54 rfl info_pgR <;> rfl)
        (try simp only [Act.put, List.setIfInBounds_toArray, List.set_cons_zero, List.set_cons_succ])
        refine wpAnyH_take (i := 1) (oi := { dst := some 54, op := Go.Op.fieldAddr 54 (Go.Operand.tmp 10) 2, type := 0, pos := "ref.go:68", after := #[], guard := none }) (v := ?_) rfl (by kernel_rfl) (by kernel_rfl) (by kernel_rfl) (fun _ _ _ h => h) (Or.inl ⟨by rfl, ?_⟩) (by assumption) ?_
        rotate_left
        · intro wS hSw
          (try dsimp only at hSw)
          go_simp
          (try with_reducible rfl)
        (try simp only [Act.put, List.setIfInBounds_toArray, List.set_cons_zero, List.set_cons_succ])
        refine wpAnyH_take (i := 2) (oi := { dst := some 55, op := Go.Op.load 52 (Go.Operand.tmp 54), type := 52, pos := "ref.go:68", after := #[{ on := 1, ground := Go.Ground.data }], guard := none }) (v := ?_) rfl (by kernel_rfl) (by kernel_rfl) (by kernel_rfl) (fun _ _ _ h => h) (Or.inl ⟨by rfl, ?_⟩) (by assumption) ?_
        rotate_left
        · intro wS hSw
          (have q4 := pg_sl (hSw.blk HB16.out HNE16.out); go_simp; (try with_reducible rfl))
        (try simp only [Act.put, List.setIfInBounds_toArray, List.set_cons_zero, List.set_cons_succ])
        refine wpAnyH_take (i := 3) (oi := { dst := some 56, op := Go.Op.call { callee := Go.Callee.builtin Go.Builtin.len, args := #[Go.Operand.tmp 55], argTypes := #[52] }, type := 3, pos := "ref.go:68", after := #[{ on := 2, ground := Go.Ground.data }], guard := none }) (v := ?_) rfl (by kernel_rfl) (by kernel_rfl) (by kernel_rfl) (fun _ _ _ h => h) (Or.inl ⟨by rfl, ?_⟩) (by assumption) ?_
        rotate_left
        · intro wS hSw
          (try dsimp only at hSw)
          go_simp
          (try with_reducible rfl)
        (try simp only [Act.put, List.setIfInBounds_toArray, List.set_cons_zero, List.set_cons_succ])
        refine wpAnyH_take (i := 4) (oi := { dst := some 57, op := Go.Op.fieldAddr 54 (Go.Operand.tmp 3) 0, type := 0, pos := "ref.go:68", after := #[{ on := 8, ground := Go.Ground.gcOnly Go.Departure.lateStores }], guard := none }) (v := ?_) rfl (by kernel_rfl) (by kernel_rfl) (by kernel_rfl) (fun _ _ _ h => h) (Or.inl ⟨by rfl, ?_⟩) (by assumption) ?_
        rotate_left
        · intro wS hSw
          (try dsimp only at hSw)
          go_simp
          (try with_reducible rfl)
        (try simp only [Act.put, List.setIfInBounds_toArray, List.set_cons_zero, List.set_cons_succ])
        refine wpAnyH_take (i := 5) (oi := { dst := some 58, op := Go.Op.fieldAddr 51 (Go.Operand.tmp 57) 0, type := 0, pos := "ref.go:68", after := #[{ on := 4, ground := Go.Ground.data }, { on := 8, ground := Go.Ground.gcOnly Go.Departure.lateStores }], guard := none }) (v := ?_) rfl (by kernel_rfl) (by kernel_rfl) (by kernel_rfl) (fun _ _ _ h => h) (Or.inl ⟨by rfl, ?_⟩) (by assumption) ?_
        rotate_left
        · intro wS hSw
          (try dsimp only at hSw)
          go_simp
          (try with_reducible rfl)
        (try simp only [Act.put, List.setIfInBounds_toArray, List.set_cons_zero, List.set_cons_succ])
        refine wpAnyH_take (i := 6) (oi := { dst := some 59, op := Go.Op.load 3 (Go.Operand.tmp 58), type := 3, pos := "ref.go:68", after := #[{ on := 5, ground := Go.Ground.data }, { on := 8, ground := Go.Ground.gcOnly Go.Departure.lateStores }], guard := none }) (v := ?_) rfl (by kernel_rfl) (by kernel_rfl) (by kernel_rfl) (fun _ _ _ h => h) (Or.inl ⟨by rfl, ?_⟩) (by assumption) ?_
        rotate_left
        · intro wS hSw
          (have qk := pg_k (hSw.blk HP16.out HZN.out); go_simp; (try with_reducible rfl))
        (try simp only [Act.put, List.setIfInBounds_toArray, List.set_cons_zero, List.set_cons_succ])
        refine wpAnyH_take (i := 7) (oi := { dst := some 60, op := Go.Op.binOp Go.BinOp.eql 3 (Go.Operand.tmp 56) (Go.Operand.tmp 59) 3, type := 4, pos := "ref.go:68", after := #[{ on := 3, ground := Go.Ground.data }, { on := 6, ground := Go.Ground.data }, { on := 8, ground := Go.Ground.gcOnly Go.Departure.lateStores }], guard := none }) (v := ?_) rfl (by kernel_rfl) (by kernel_rfl) (by kernel_rfl) (fun _ _ _ h => h) (Or.inl ⟨by rfl, ?_⟩) (by assumption) ?_
        rotate_left
        · intro wS hSw
          (try dsimp only at hSw)
          go_simp
          (try with_reducible rfl)
        (try simp only [Act.put, List.setIfInBounds_toArray, List.set_cons_zero, List.set_cons_succ])
        refine wpAnyH_ready (rs := [8]) (by kernel_rfl) (by simp) ?_
        refine AllReadyH.cons (o := { dst := none, op := Go.Op.store 54 (Go.Operand.tmp 6) (Go.Operand.tmp 53), type := 0, pos := "ref.go:68", after := #[{ on := 0, ground := Go.Ground.data }, { on := 0, ground := Go.Ground.phase }, { on := 1, ground := Go.Ground.textOnly Go.Departure.lateStores }, { on := 2, ground := Go.Ground.textOnly Go.Departure.lateStores }, { on := 3, ground := Go.Ground.textOnly Go.Departure.lateStoresUnsure }, { on := 4, ground := Go.Ground.textOnly Go.Departure.lateStores }, { on := 5, ground := Go.Ground.textOnly Go.Departure.lateStores }, { on := 6, ground := Go.Ground.textOnly Go.Departure.lateStores }, { on := 7, ground := Go.Ground.textOnly Go.Departure.lateStores }], guard := none }) rfl (fun K hK => ?_) AllReadyH.nil
        (refine step_storeM rfl 54 (.tmp 6) (.tmp 53) rfl b6 0 #[.int .i64 (Kp : Int), .int .i64 (Nn : Int), .int .u32 (gen : Int), .string mk, .slice ot (n + 1) ct] rfl rfl HTH.out info_pgR (one_pg _ _ _ _ _ _ _) ?_; skip)
        refine hK.out _ _ ?_ (fun hHeld => ?_)
        · (try dsimp only)
          (first | exact Own.refl _ _ | exact Own.setCells _ _ _ | assumption)
        clear hK K
        (try simp only [Act.put, List.setIfInBounds_toArray, List.set_cons_zero, List.set_cons_succ])
        refine wpAnyH_take (i := 9) (oi := { dst := some 7, op := Go.Op.assign (Go.Operand.tmp 60), type := 4, pos := "ref.go:68", after := #[{ on := 7, ground := Go.Ground.data }, { on := 8, ground := Go.Ground.chain }, { on := 0, ground := Go.Ground.phase }, { on := 1, ground := Go.Ground.phase }, { on := 2, ground := Go.Ground.phase }, { on := 3, ground := Go.Ground.phase }, { on := 4, ground := Go.Ground.phase }, { on := 5, ground := Go.Ground.phase }, { on := 6, ground := Go.Ground.phase }, { on := 7, ground := Go.Ground.phase }, { on := 8, ground := Go.Ground.phase }], guard := none }) (v := ?_) rfl (by kernel_rfl) (by kernel_rfl) (by kernel_rfl) (fun _ _ _ h => h) (Or.inl ⟨by rfl, ?_⟩) (by assumption) ?_
        rotate_left
        · intro wS hSw
          (try dsimp only at hSw)
          go_simp
          (try with_reducible rfl)
        (try simp only [Act.put, List.setIfInBounds_toArray, List.set_cons_zero, List.set_cons_succ])
        refine wpAnyH_take (i := 10) (oi := { dst := some 8, op := Go.Op.assign (Go.Operand.const (Go.Value.int Go.IntKind.i64 0)), type := 3, pos := "ref.go:68", after := #[{ on := 9, ground := Go.Ground.chain }, { on := 0, ground := Go.Ground.phase }, { on := 1, ground := Go.Ground.phase }, { on := 2, ground := Go.Ground.phase }, { on := 3, ground := Go.Ground.phase }, { on := 4, ground := Go.Ground.phase }, { on := 5, ground := Go.Ground.phase }, { on := 6, ground := Go.Ground.phase }, { on := 7, ground := Go.Ground.phase }, { on := 8, ground := Go.Ground.phase }, { on := 9, ground := Go.Ground.phase }], guard := none }) (v := ?_) rfl (by kernel_rfl) (by kernel_rfl) (by kernel_rfl) (fun _ _ _ h => h) (Or.inl ⟨by rfl, ?_⟩) (by assumption) ?_
        rotate_left
        · intro wS hSw
          (try dsimp only at hSw)
          go_simp
          (try with_reducible rfl)
        (try simp only [Act.put, List.setIfInBounds_toArray, List.set_cons_zero, List.set_cons_succ])
        refine wpAnyH_done (by kernel_rfl) ?_ _
        go_wp2_with fail
        refine bodyPost_ret (v := .tuple #[.agg #[.int .i64 (Kp : Int), .int .i64 (Nn : Int), .int .u32 (gen : Int), .string mk, .slice ot (n + 1) ct], .bool true, .int .i64 0]) ?_ rfl ⟨HX.out.2, .inr ⟨rfl, ot, ct, by rw [HDE.out], HQ.out⟩⟩
        exact results_cell_tmp3 Tryd.results15 _ _ b6 54 #[.int .i64 (Kp : Int), .int .i64 (Nn : Int), .int .u32 (gen : Int), .string mk, .slice ot (n + 1) ct] (0, 0) _ rfl HX.out.1 Tryd.underlying54 rfl info_pgR
      · skip
        have HDE : Hid (decide ((n : Int) + 1 = (Kp : Int)) = false) := Lib.hid (decide_eq_false (by omega))
        have e1 : ¬ (n : Int) + 1 = (Kp : Int) := by omega
        have e2 : decide ((n : Int) + 1 = (Kp : Int)) = false := decide_eq_false e1
        have e3 : ((n : Int) + 1 == (Kp : Int)) = false := by simp only [beq_eq_false_iff_ne]; exact e1
        have e4 : decide (n + 1 = Kp) = false := decide_eq_false hkk
        have e5 : (n + 1 == Kp) = false := by simp only [beq_eq_false_iff_ne]; exact hkk
        refine wp_region_held_drew (S := (Own b6 w8.drew)) (by kernel_rfl) ?_ (fun hHeld => ?_)
        · (try dsimp only)
          (first | exact Own.refl _ _ | exact Own.setCells _ _ _ | assumption)
        generalize w8.drew = WS at *
        refine wpAnyH_take (i := 0) (oi := { dst := some 53, op := Go.Op.load 54 (Go.Operand.tmp 10), type := 54, pos := "ref.go:68", after := #[], guard := none }) (v := ?_) rfl (by kernel_rfl) (by kernel_rfl) (by kernel_rfl) (fun _ _ _ h => h) (Or.inl ⟨by rfl, ?_⟩) (by assumption) ?_
        rotate_left
        · intro wS hSw
          (refine exec_loadM (x := .tmp 10) (cs := [.int .i64 (Kp : Int), .int .i64 (Nn : Int), .int .u32 (gen : Int), .string mk, .slice ot (n + 1) ct]) ?_ ?_ (range5 (hSw.blk HB16.out HNE16.out)) Tryd.underlying54 rfl info_pgR <;> rfl)
        (try simp only [Act.put, List.setIfInBounds_toArray, List.set_cons_zero, List.set_cons_succ])
        refine wpAnyH_take (i := 1) (oi := { dst := some 54, op := Go.Op.fieldAddr 54 (Go.Operand.tmp 10) 2, type := 0, pos := "ref.go:68", after := #[], guard := none }) (v := ?_) rfl (by kernel_rfl) (by kernel_rfl) (by kernel_rfl) (fun _ _ _ h => h) (Or.inl ⟨by rfl, ?_⟩) (by assumption) ?_
        rotate_left
        · intro wS hSw
          (try dsimp only at hSw)
          go_simp
          (try with_reducible rfl)
        (try simp only [Act.put, List.setIfInBounds_toArray, List.set_cons_zero, List.set_cons_succ])
        refine wpAnyH_take (i := 2) (oi := { dst := some 55, op := Go.Op.load 52 (Go.Operand.tmp 54), type := 52, pos := "ref.go:68", after := #[{ on := 1, ground := Go.Ground.data }], guard := none }) (v := ?_) rfl (by kernel_rfl) (by kernel_rfl) (by kernel_rfl) (fun _ _ _ h => h) (Or.inl ⟨by rfl, ?_⟩) (by assumption) ?_
        rotate_left
        · intro wS hSw
          (have q4 := pg_sl (hSw.blk HB16.out HNE16.out); go_simp; (try with_reducible rfl))
        (try simp only [Act.put, List.setIfInBounds_toArray, List.set_cons_zero, List.set_cons_succ])
        refine wpAnyH_take (i := 3) (oi := { dst := some 56, op := Go.Op.call { callee := Go.Callee.builtin Go.Builtin.len, args := #[Go.Operand.tmp 55], argTypes := #[52] }, type := 3, pos := "ref.go:68", after := #[{ on := 2, ground := Go.Ground.data }], guard := none }) (v := ?_) rfl (by kernel_rfl) (by kernel_rfl) (by kernel_rfl) (fun _ _ _ h => h) (Or.inl ⟨by rfl, ?_⟩) (by assumption) ?_
        rotate_left
        · intro wS hSw
          (try dsimp only at hSw)
          go_simp
          (try with_reducible rfl)
        (try simp only [Act.put, List.setIfInBounds_toArray, List.set_cons_zero, List.set_cons_succ])
        refine wpAnyH_take (i := 4) (oi := { dst := some 57, op := Go.Op.fieldAddr 54 (Go.Operand.tmp 3) 0, type := 0, pos := "ref.go:68", after := #[{ on := 8, ground := Go.Ground.gcOnly Go.Departure.lateStores }], guard := none }) (v := ?_) rfl (by kernel_rfl) (by kernel_rfl) (by kernel_rfl) (fun _ _ _ h => h) (Or.inl ⟨by rfl, ?_⟩) (by assumption) ?_
        rotate_left
        · intro wS hSw
          (try dsimp only at hSw)
          go_simp
          (try with_reducible rfl)
        (try simp only [Act.put, List.setIfInBounds_toArray, List.set_cons_zero, List.set_cons_succ])
        refine wpAnyH_take (i := 5) (oi := { dst := some 58, op := Go.Op.fieldAddr 51 (Go.Operand.tmp 57) 0, type := 0, pos := "ref.go:68", after := #[{ on := 4, ground := Go.Ground.data }, { on := 8, ground := Go.Ground.gcOnly Go.Departure.lateStores }], guard := none }) (v := ?_) rfl (by kernel_rfl) (by kernel_rfl) (by kernel_rfl) (fun _ _ _ h => h) (Or.inl ⟨by rfl, ?_⟩) (by assumption) ?_
        rotate_left
        · intro wS hSw
          (try dsimp only at hSw)
          go_simp
          (try with_reducible rfl)
        (try simp only [Act.put, List.setIfInBounds_toArray, List.set_cons_zero, List.set_cons_succ])
        refine wpAnyH_take (i := 6) (oi := { dst := some 59, op := Go.Op.load 3 (Go.Operand.tmp 58), type := 3, pos := "ref.go:68", after := #[{ on := 5, ground := Go.Ground.data }, { on := 8, ground := Go.Ground.gcOnly Go.Departure.lateStores }], guard := none }) (v := ?_) rfl (by kernel_rfl) (by kernel_rfl) (by kernel_rfl) (fun _ _ _ h => h) (Or.inl ⟨by rfl, ?_⟩) (by assumption) ?_
        rotate_left
        · intro wS hSw
          (have qk := pg_k (hSw.blk HP16.out HZN.out); go_simp; (try with_reducible rfl))
        (try simp only [Act.put, List.setIfInBounds_toArray, List.set_cons_zero, List.set_cons_succ])
        refine wpAnyH_take (i := 7) (oi := { dst := some 60, op := Go.Op.binOp Go.BinOp.eql 3 (Go.Operand.tmp 56) (Go.Operand.tmp 59) 3, type := 4, pos := "ref.go:68", after := #[{ on := 3, ground := Go.Ground.data }, { on := 6, ground := Go.Ground.data }, { on := 8, ground := Go.Ground.gcOnly Go.Departure.lateStores }], guard := none }) (v := ?_) rfl (by kernel_rfl) (by kernel_rfl) (by kernel_rfl) (fun _ _ _ h => h) (Or.inl ⟨by rfl, ?_⟩) (by assumption) ?_
        rotate_left
        · intro wS hSw
          (try dsimp only at hSw)
          go_simp
          (try with_reducible rfl)
        (try simp only [Act.put, List.setIfInBounds_toArray, List.set_cons_zero, List.set_cons_succ])
        refine wpAnyH_ready (rs := [8]) (by kernel_rfl) (by simp) ?_
        refine AllReadyH.cons (o := { dst := none, op := Go.Op.store 54 (Go.Operand.tmp 6) (Go.Operand.tmp 53), type := 0, pos := "ref.go:68", after := #[{ on := 0, ground := Go.Ground.data }, { on := 0, ground := Go.Ground.phase }, { on := 1, ground := Go.Ground.textOnly Go.Departure.lateStores }, { on := 2, ground := Go.Ground.textOnly Go.Departure.lateStores }, { on := 3, ground := Go.Ground.textOnly Go.Departure.lateStoresUnsure }, { on := 4, ground := Go.Ground.textOnly Go.Departure.lateStores }, { on := 5, ground := Go.Ground.textOnly Go.Departure.lateStores }, { on := 6, ground := Go.Ground.textOnly Go.Departure.lateStores }, { on := 7, ground := Go.Ground.textOnly Go.Departure.lateStores }], guard := none }) rfl (fun K hK => ?_) AllReadyH.nil
        (refine step_storeM rfl 54 (.tmp 6) (.tmp 53) rfl b6 0 #[.int .i64 (Kp : Int), .int .i64 (Nn : Int), .int .u32 (gen : Int), .string mk, .slice ot (n + 1) ct] rfl rfl HTH.out info_pgR (one_pg _ _ _ _ _ _ _) ?_; skip)
        refine hK.out _ _ ?_ (fun hHeld => ?_)
        · (try dsimp only)
          (first | exact Own.refl _ _ | exact Own.setCells _ _ _ | assumption)
        clear hK K
        (try simp only [Act.put, List.setIfInBounds_toArray, List.set_cons_zero, List.set_cons_succ])
        refine wpAnyH_take (i := 9) (oi := { dst := some 7, op := Go.Op.assign (Go.Operand.tmp 60), type := 4, pos := "ref.go:68", after := #[{ on := 7, ground := Go.Ground.data }, { on := 8, ground := Go.Ground.chain }, { on := 0, ground := Go.Ground.phase }, { on := 1, ground := Go.Ground.phase }, { on := 2, ground := Go.Ground.phase }, { on := 3, ground := Go.Ground.phase }, { on := 4, ground := Go.Ground.phase }, { on := 5, ground := Go.Ground.phase }, { on := 6, ground := Go.Ground.phase }, { on := 7, ground := Go.Ground.phase }, { on := 8, ground := Go.Ground.phase }], guard := none }) (v := ?_) rfl (by kernel_rfl) (by kernel_rfl) (by kernel_rfl) (fun _ _ _ h => h) (Or.inl ⟨by rfl, ?_⟩) (by assumption) ?_
        rotate_left
        · intro wS hSw
          (try dsimp only at hSw)
          go_simp
          (try with_reducible rfl)
        (try simp only [Act.put, List.setIfInBounds_toArray, List.set_cons_zero, List.set_cons_succ])
        refine wpAnyH_take (i := 10) (oi := { dst := some 8, op := Go.Op.assign (Go.Operand.const (Go.Value.int Go.IntKind.i64 0)), type := 3, pos := "ref.go:68", after := #[{ on := 9, ground := Go.Ground.chain }, { on := 0, ground := Go.Ground.phase }, { on := 1, ground := Go.Ground.phase }, { on := 2, ground := Go.Ground.phase }, { on := 3, ground := Go.Ground.phase }, { on := 4, ground := Go.Ground.phase }, { on := 5, ground := Go.Ground.phase }, { on := 6, ground := Go.Ground.phase }, { on := 7, ground := Go.Ground.phase }, { on := 8, ground := Go.Ground.phase }, { on := 9, ground := Go.Ground.phase }], guard := none }) (v := ?_) rfl (by kernel_rfl) (by kernel_rfl) (by kernel_rfl) (fun _ _ _ h => h) (Or.inl ⟨by rfl, ?_⟩) (by assumption) ?_
        rotate_left
        · intro wS hSw
          (try dsimp only at hSw)
          go_simp
          (try with_reducible rfl)
        (try simp only [Act.put, List.setIfInBounds_toArray, List.set_cons_zero, List.set_cons_succ])
        refine wpAnyH_done (by kernel_rfl) ?_ _
        go_wp2_with fail
        refine bodyPost_ret (v := .tuple #[.agg #[.int .i64 (Kp : Int), .int .i64 (Nn : Int), .int .u32 (gen : Int), .string mk, .slice ot (n + 1) ct], .bool false, .int .i64 0]) ?_ rfl ⟨HX.out.2, .inr ⟨rfl, ot, ct, by rw [HDE.out], HQ.out⟩⟩
        exact results_cell_tmp3 Tryd.results15 _ _ b6 54 #[.int .i64 (Kp : Int), .int .i64 (Nn : Int), .int .u32 (gen : Int), .string mk, .slice ot (n + 1) ct] (0, 0) _ rfl HX.out.1 Tryd.underlying54 rfl info_pgR
    refine AllReadyH.cons (o := { dst := some 50, op := Go.Op.buildSlice 52 1 #[(0, Go.Operand.tmp 49)], type := 52, pos := "ref.go:67", after := #[{ on := 5, ground := Go.Ground.data }], guard := none }) rfl (fun K hK => ?_) AllReadyH.nil
    go_simp
    (obtain ⟨VBx1x6, hw⟩ : ∃ z, WR.alloc (.cells #[.int .u8 (ix : Int), .int .u32 (gn : Int), .slice od ln cp] 55) = z := ⟨_, rfl⟩; rw [hw]; have hb : Below WR.heap.size WR VBx1x6 := (by rw [← hw]; exact (Below.refl _ _).alloc (Nat.le_refl _) _); have HLB : Hid (Blk VBx1x6 WR.heap.size ([.int .u8 (ix : Int), .int .u32 (gn : Int), .slice od ln cp] : List Value).toArray 55) := Lib.hid (by rw [← hw]; exact Blk.new _ _ _); (try have HGA := Lib.hid (HGA.out.later hb)); (try have HAZ := Lib.hid (show WR.heap.size ≤ _ ∧ _ from ⟨HAZ.out.1, Nat.le_trans HAZ.out.2 hb.size⟩)); have n4VBx1x6 : VBx1x6.cell? ⟨b10, 4, none⟩ = some (.slice none 0 0) := (by have h9 := Blk.below HN10.out (Below.trans hvWR (hb.mono hvWR.size)) HWR.out.2; rw [Blk.cell h9]; rfl); have hvVBx1x6 := Below.trans hvWR (hb.mono hvWR.size); clear hb hw; skip)
    (try go_wp2_with fail)
    refine hK.out _ _ ?_ (fun hHeld => ?_)
    · (try dsimp only)
      (first | exact Own.refl _ _ | exact Own.of_below (by assumption) | exact ((Own.of_below (by assumption)).trans ((Own.refl _ _).set _ _)))
    clear hK K
    (try simp only [Act.put, List.setIfInBounds_toArray, List.set_cons_zero, List.set_cons_succ])
    refine wpAnyH_ready (rs := [4]) (by kernel_rfl) (by simp) ?_
    refine AllReadyH.cons (o := { dst := some 48, op := Go.Op.call { callee := Go.Callee.builtin Go.Builtin.append, args := #[Go.Operand.tmp 45, Go.Operand.tmp 47], argTypes := #[52, 52] }, type := 52, pos := "ref.go:67", after := #[{ on := 1, ground := Go.Ground.data }, { on := 3, ground := Go.Ground.data }], guard := none }) rfl (fun K hK => ?_) AllReadyH.nil
    (refine step_GP und_ssR info_rshare rfl rfl (.tmp 45) (.tmp 47) rfl (fun q => q ≠ tb ∧ q ≠ b10 ∧ q ≠ b6) VBx1x6.heap.size (.slice none 0 0) 0 n cs (fun _ => default) S oa VBx1x6 rfl (GP.nil _ _ _ _ _) rfl (HSS.out.shP (HBD.out.trans (hvVBx1x6.mono HBD.out.size)) (fun q hq => by simp [Value.ownBlock] at hq) HPX.out) (fun e => by subst e; exact HSS.out.none) HN0.out (Nat.le_refl _) ?_; intro va VAx1x6 hGa hba _; have HGA := Lib.hid (by rw [Nat.zero_add] at hGa; exact (hGa.congr (S' := S) fun i hi => by unfold catSh; rw [if_neg (Nat.not_lt_zero _), Nat.sub_zero] : GP 55 (fun q => q ≠ tb ∧ q ≠ b10 ∧ q ≠ b6) VAx1x6 VBx1x6.heap.size va n S)); have HAZ := Lib.hid (show WR.heap.size ≤ VBx1x6.heap.size ∧ VBx1x6.heap.size ≤ VAx1x6.heap.size from ⟨hvVBx1x6.size, hba.size⟩); (try have HLB := Lib.hid (Blk.below HLB.out hba (Blk.lt HLB.out))); have hvVAx1x6 := Below.trans hvVBx1x6 (hba.mono hvVBx1x6.size); clear hGa hba; skip)
    refine hK.out _ _ ?_ (fun hHeld => ?_)
    · (try dsimp only)
      (first | exact Own.refl _ _ | exact Own.of_below (by assumption) | exact ((Own.of_below (by assumption)).trans ((Own.refl _ _).set _ _)))
    clear hK K
    (try simp only [Act.put, List.setIfInBounds_toArray, List.set_cons_zero, List.set_cons_succ])
    refine wpAnyH_ready (rs := [7]) (by kernel_rfl) (by simp) ?_
    refine AllReadyH.cons (o := { dst := some 51, op := Go.Op.call { callee := Go.Callee.builtin Go.Builtin.append, args := #[Go.Operand.tmp 48, Go.Operand.tmp 50], argTypes := #[52, 52] }, type := 52, pos := "ref.go:67", after := #[{ on := 4, ground := Go.Ground.data }, { on := 6, ground := Go.Ground.data }, { on := 4, ground := Go.Ground.chain }], guard := none }) rfl (fun K hK => ?_) AllReadyH.nil
    (refine step_GP und_ssR info_rshare rfl rfl (.tmp 48) (.tmp 50) rfl (fun q => q ≠ tb ∧ q ≠ b10 ∧ q ≠ b6) _ va n 1 1 S (fun _ => ⟨ix, gn, ln, f⟩) (some ⟨WR.heap.size, 0, none⟩) VAx1x6 rfl HGA.out rfl (ShP.one (HSW.out.later (HBD.out.trans (hvVAx1x6.mono HBD.out.size))) (HSW.out.away (fun q hq => Nat.le_trans HWR.out.1 (Nat.le_trans HAZ.out.1 (HGA.out.block q hq).1))) HLB.out) (fun e => by cases e) HN1.out HAZ.out.2 ?_; intro v7 w7 hG7 hb7 hg7; obtain ⟨ot, ct, rfl, ht1, ht2, -, -, -⟩ := hG7.shs (tb := tb) (fun q hq => hq.1) (.inl (by have h1 := HAZ.out.1; have h2 := HWR.out.1; have h3 := HNN.out; omega)); have HG7 := Lib.hid hG7; have HTC := Lib.hid (show n + 1 ≤ ct ∧ ct ≤ maxLen from ⟨ht1, ht2⟩); have HV7 := Lib.hid (hvVAx1x6.trans (hb7.mono HAZ.out.1)); have hvw7 := HV7.out; have hn7 := (Blk.below HN10.out HV7.out HWR.out.2); have HN7 := Lib.hid hn7; have n47 : w7.cell? ⟨b10, 4, none⟩ = some (.slice none 0 0) := (by rw [Blk.cell hn7]; rfl); have fr7 := Blk.free hn7 4; clear hG7 hb7 hg7 ht1 ht2 hn7; skip)
    refine hK.out _ _ ?_ (fun hHeld => ?_)
    · (try dsimp only)
      (first | exact Own.refl _ _ | exact Own.of_below (by assumption) | exact ((Own.of_below (by assumption)).trans ((Own.refl _ _).set _ _)))
    clear hK K
    (try simp only [Act.put, List.setIfInBounds_toArray, List.set_cons_zero, List.set_cons_succ])
    refine wpAnyH_take (i := 8) (oi := { dst := some 52, op := Go.Op.fieldAddr 54 (Go.Operand.tmp 10) 2, type := 0, pos := "ref.go:67", after := #[{ on := 0, ground := Go.Ground.phase }, { on := 1, ground := Go.Ground.phase }, { on := 2, ground := Go.Ground.phase }, { on := 3, ground := Go.Ground.phase }, { on := 4, ground := Go.Ground.phase }, { on := 5, ground := Go.Ground.phase }, { on := 6, ground := Go.Ground.phase }, { on := 7, ground := Go.Ground.phase }], guard := none }) (v := ?_) rfl (by kernel_rfl) (by kernel_rfl) (by kernel_rfl) (fun _ _ _ h => h) (Or.inl ⟨by rfl, ?_⟩) (by assumption) ?_
    rotate_left
    · intro wS hSw
      (try dsimp only at hSw)
      go_simp
      (try with_reducible rfl)
    (try simp only [Act.put, List.setIfInBounds_toArray, List.set_cons_zero, List.set_cons_succ])
    refine wpAnyH_ready (rs := [9]) (by kernel_rfl) (by simp) ?_
    refine AllReadyH.cons (o := { dst := none, op := Go.Op.store 52 (Go.Operand.tmp 52) (Go.Operand.tmp 51), type := 0, pos := "ref.go:67", after := #[{ on := 8, ground := Go.Ground.data }, { on := 7, ground := Go.Ground.data }, { on := 7, ground := Go.Ground.chain }, { on := 0, ground := Go.Ground.phase }, { on := 1, ground := Go.Ground.phase }, { on := 2, ground := Go.Ground.phase }, { on := 3, ground := Go.Ground.phase }, { on := 4, ground := Go.Ground.phase }, { on := 5, ground := Go.Ground.phase }, { on := 6, ground := Go.Ground.phase }, { on := 7, ground := Go.Ground.phase }], guard := none }) rfl (fun K hK => ?_) AllReadyH.nil
    go_simp
    (skip)
    (try go_wp2_with fail)
    refine hK.out _ _ ?_ (fun hHeld => ?_)
    · (try dsimp only)
      (first | exact Own.refl _ _ | exact Own.of_below (by assumption) | exact ((Own.of_below (by assumption)).trans ((Own.refl _ _).set _ _)))
    clear hK K
    (try simp only [Act.put, List.setIfInBounds_toArray, List.set_cons_zero, List.set_cons_succ])
    refine wpAnyH_done (by kernel_rfl) ?_ _
    go_wp2_with fail
    have hO8 : Own b10 w7 (w7.setCell ⟨b10, 4, none⟩ (.slice ot (n + 1) ct)) := (Own.refl _ _).set _ _
    have hn8 := HN7.out.set 4 (.slice ot (n + 1) ct)
    have hg8 := HG7.out.own hO8 (fun q h => h.2.1) (Nat.lt_of_lt_of_le HWR.out.2 HAZ.out.1)
    have hz8 := hO8.blk (Blk.below HZ10.out HV7.out (Blk.lt HZ10.out)) (Nat.ne_of_lt HLQ.out.2.2.1)
    have hp8 := hO8.blk (Blk.below HPR.out HV7.out (Blk.lt HPR.out)) HPN.out
    have hbw7 := HBD.out.trans (HV7.out.mono HBD.out.size)
    have hbw8 := hbw7.trans (hO8.below (Nat.le_of_lt HLQ.out.1) hbw7.size)
    generalize w7.setCell ⟨b10, 4, none⟩ (.slice ot (n + 1) ct) = w8 at *
    have hbd := (Below.refl w8.heap.size w8).drew
    have HB16 : Hid (Blk w8.drew b10 #[.int .i64 (Kp : Int), .int .i64 (Nn : Int), .int .u32 (gen : Int), .string mk, .slice ot (n + 1) ct] 54) := Lib.hid (Blk.below hn8 hbd (Blk.lt hn8))
    have HP16 := Lib.hid (Blk.below hp8 hbd (Blk.lt hp8))
    have HNE16 : Hid (b10 ≠ b6) := Lib.hid (Nat.ne_of_gt HLQ.out.2.2.1)
    have HZN : Hid (w.heap.size ≠ b6) := Lib.hid (by have h1 := HLT.out; have h2 := hb5; have h3 := hb6; omega)
    have hz9 := Blk.below hz8 hbd (Blk.lt hz8)
    have HTH : Hid (w8.drew.there b6 0 5) := Lib.hid (hz9.there (by decide))
    have hbw9 := hbw8.trans (hbd.mono hbw8.size)
    have hO9 : Own b6 w8.drew (w8.drew.setCells b6 0 [.int .i64 (Kp : Int), .int .i64 (Nn : Int), .int .u32 (gen : Int), .string mk, .slice ot (n + 1) ct]) := Own.setCells _ _ _
    have HX : Hid (Blk (w8.drew.setCells b6 0 [.int .i64 (Kp : Int), .int .i64 (Nn : Int), .int .u32 (gen : Int), .string mk, .slice ot (n + 1) ct]) b6 #[.int .i64 (Kp : Int), .int .i64 (Nn : Int), .int .u32 (gen : Int), .string mk, .slice ot (n + 1) ct] 54 ∧ Below w.heap.size w (w8.drew.setCells b6 0 [.int .i64 (Kp : Int), .int .i64 (Nn : Int), .int .u32 (gen : Int), .string mk, .slice ot (n + 1) ct])) := Lib.hid ⟨hz9.whole5 rfl _ _ _ _ _, hbw9.trans (hO9.below HLT.out hbw9.size)⟩
    have HQ : Hid (n + 1 ≤ ct ∧ ct ≤ maxLen ∧ Shs tb (w8.drew.setCells b6 0 [.int .i64 (Kp : Int), .int .i64 (Nn : Int), .int .u32 (gen : Int), .string mk, .slice ot (n + 1) ct]) ot (n + 1) (catSh n S (fun _ => ⟨ix, gn, ln, f⟩))) := Lib.hid (by
      obtain ⟨oz, cz, ez, -, -, -, -, hz8'⟩ := ((hg8.later hbd).own hO9 (fun q hq => hq.2.2) (by have h1 := HLQ.out; have h2 := HAZ.out.1; have h3 := HWR.out.2; omega)).shs (tb := tb) (fun q hq => hq.1) (.inl (by have h1 := HAZ.out.1; have h2 := HWR.out.1; have h3 := HNN.out; omega))
      cases ez
      exact ⟨HTC.out.1, HTC.out.2, hz8'⟩)
    clear hO8 hn8 hg8 hz8 hp8 hbw7 hbw8 hbd hz9 hbw9 hO9 n47 fr7 hvw7
    by_cases hkk : n + 1 = Kp
    · skip
      have HDE : Hid (decide ((n : Int) + 1 = (Kp : Int)) = true) := Lib.hid (decide_eq_true (by omega))
      have e1 : (n : Int) + 1 = (Kp : Int) := by omega
      have e2 : decide ((n : Int) + 1 = (Kp : Int)) = true := decide_eq_true e1
      have e3 : ((n : Int) + 1 == (Kp : Int)) = true := by simp only [beq_iff_eq]; exact e1
      have e4 : decide (n + 1 = Kp) = true := decide_eq_true hkk
      have e5 : (n + 1 == Kp) = true := by simp only [beq_iff_eq]; exact hkk
      clear e1 hkk
      refine wp_region_held_drew (S := (Own b6 w8.drew)) (by kernel_rfl) ?_ (fun hHeld => ?_)
      · (try dsimp only)
        (first | exact Own.refl _ _ | exact Own.setCells _ _ _ | assumption)
      generalize w8.drew = WS at *
      refine wpAnyH_take (i := 0) (oi := { dst := some 53, op := Go.Op.load 54 (Go.Operand.tmp 10), type := 54, pos := "ref.go:68", after := #[], guard := none }) (v := ?_) rfl (by kernel_rfl) (by kernel_rfl) (by kernel_rfl) (fun _ _ _ h => h) (Or.inl ⟨by rfl, ?_⟩) (by assumption) ?_
      rotate_left
      · intro wS hSw
        (refine exec_loadM (x := .tmp 10) (cs := [.int .i64 (Kp : Int), .int .i64 (Nn : Int), .int .u32 (gen : Int), .string mk, .slice ot (n + 1) ct]) ?_ ?_ (range5 (hSw.blk HB16.out HNE16.out)) Tryd.underlying54 rfl info_pgR <;> rfl)
      (try simp only [Act.put, List.setIfInBounds_toArray, List.set_cons_zero, List.set_cons_succ])
      refine wpAnyH_take (i := 1) (oi := { dst := some 54, op := Go.Op.fieldAddr 54 (Go.Operand.tmp 10) 2, type := 0, pos := "ref.go:68", after := #[], guard := none }) (v := ?_) rfl (by kernel_rfl) (by kernel_rfl) (by kernel_rfl) (fun _ _ _ h => h) (Or.inl ⟨by rfl, ?_⟩) (by assumption) ?_
      rotate_left
      · intro wS hSw
        (try dsimp only at hSw)
        go_simp
        (try with_reducible rfl)
      (try simp only [Act.put, List.setIfInBounds_toArray, List.set_cons_zero, List.set_cons_succ])
      refine wpAnyH_take (i := 2) (oi := { dst := some 55, op := Go.Op.load 52 (Go.Operand.tmp 54), type := 52, pos := "ref.go:68", after := #[{ on := 1, ground := Go.Ground.data }], guard := none }) (v := ?_) rfl (by kernel_rfl) (by kernel_rfl) (by kernel_rfl) (fun _ _ _ h => h) (Or.inl ⟨by rfl, ?_⟩) (by assumption) ?_
      rotate_left
      · intro wS hSw
        (have q4 := pg_sl (hSw.blk HB16.out HNE16.out); go_simp; (try with_reducible rfl))
      (try simp only [Act.put, List.setIfInBounds_toArray, List.set_cons_zero, List.set_cons_succ])
      refine wpAnyH_take (i := 3) (oi := { dst := some 56, op := Go.Op.call { callee := Go.Callee.builtin Go.Builtin.len, args := #[Go.Operand.tmp 55], argTypes := #[52] }, type := 3, pos := "ref.go:68", after := #[{ on := 2, ground := Go.Ground.data }], guard := none }) (v := ?_) rfl (by kernel_rfl) (by kernel_rfl) (by kernel_rfl) (fun _ _ _ h => h) (Or.inl ⟨by rfl, ?_⟩) (by assumption) ?_
      rotate_left
      · intro wS hSw
        (try dsimp only at hSw)
        go_simp
        (try with_reducible rfl)
      (try simp only [Act.put, List.setIfInBounds_toArray, List.set_cons_zero, List.set_cons_succ])
      refine wpAnyH_take (i := 4) (oi := { dst := some 57, op := Go.Op.fieldAddr 54 (Go.Operand.tmp 3) 0, type := 0, pos := "ref.go:68", after := #[{ on := 8, ground := Go.Ground.gcOnly Go.Departure.lateStores }], guard := none }) (v := ?_) rfl (by kernel_rfl) (by kernel_rfl) (by kernel_rfl) (fun _ _ _ h => h) (Or.inl ⟨by rfl, ?_⟩) (by assumption) ?_
      rotate_left
      · intro wS hSw
        (try dsimp only at hSw)
        go_simp
        (try with_reducible rfl)
      (try simp only [Act.put, List.setIfInBounds_toArray, List.set_cons_zero, List.set_cons_succ])
      refine wpAnyH_take (i := 5) (oi := { dst := some 58, op := Go.Op.fieldAddr 51 (Go.Operand.tmp 57) 0, type := 0, pos := "ref.go:68", after := #[{ on := 4, ground := Go.Ground.data }, { on := 8, ground := Go.Ground.gcOnly Go.Departure.lateStores }], guard := none }) (v := ?_) rfl (by kernel_rfl) (by kernel_rfl) (by kernel_rfl) (fun _ _ _ h => h) (Or.inl ⟨by rfl, ?_⟩) (by assumption) ?_
      rotate_left
      · intro wS hSw
        (try dsimp only at hSw)
        go_simp
        (try with_reducible rfl)
      (try simp only [Act.put, List.setIfInBounds_toArray, List.set_cons_zero, List.set_cons_succ])
      refine wpAnyH_take (i := 6) (oi := { dst := some 59, op := Go.Op.load 3 (Go.Operand.tmp 58), type := 3, pos := "ref.go:68", after := #[{ on := 5, ground := Go.Ground.data }, { on := 8, ground := Go.Ground.gcOnly Go.Departure.lateStores }], guard := none }) (v := ?_) rfl (by kernel_rfl) (by kernel_rfl) (by kernel_rfl) (fun _ _ _ h => h) (Or.inl ⟨by rfl, ?_⟩) (by assumption) ?_
      rotate_left
      · intro wS hSw
        (have qk := pg_k (hSw.blk HP16.out HZN.out); go_simp; (try with_reducible rfl))
      (try simp only [Act.put, List.setIfInBounds_toArray, List.set_cons_zero, List.set_cons_succ])
      refine wpAnyH_take (i := 7) (oi := { dst := some 60, op := Go.Op.binOp Go.BinOp.eql 3 (Go.Operand.tmp 56) (Go.Operand.tmp 59) 3, type := 4, pos := "ref.go:68", after := #[{ on := 3, ground := Go.Ground.data }, { on := 6, ground := Go.Ground.data }, { on := 8, ground := Go.Ground.gcOnly Go.Departure.lateStores }], guard := none }) (v := ?_) rfl (by kernel_rfl) (by kernel_rfl) (by kernel_rfl) (fun _ _ _ h => h) (Or.inl ⟨by rfl, ?_⟩) (by assumption) ?_
      rotate_left
      · intro wS hSw
        (try dsimp only at hSw)
        go_simp
        (try with_reducible rfl)
      (try simp only [Act.put, List.setIfInBounds_toArray, List.set_cons_zero, List.set_cons_succ])
      refine wpAnyH_ready (rs := [8]) (by kernel_rfl) (by simp) ?_
      refine AllReadyH.cons (o := { dst := none, op := Go.Op.store 54 (Go.Operand.tmp 6) (Go.Operand.tmp 53), type := 0, pos := "ref.go:68", after := #[{ on := 0, ground := Go.Ground.data }, { on := 0, ground := Go.Ground.phase }, { on := 1, ground := Go.Ground.textOnly Go.Departure.lateStores }, { on := 2, ground := Go.Ground.textOnly Go.Departure.lateStores }, { on := 3, ground := Go.Ground.textOnly Go.Departure.lateStoresUnsure }, { on := 4, ground := Go.Ground.textOnly Go.Departure.lateStores }, { on := 5, ground := Go.Ground.textOnly Go.Departure.lateStores }, { on := 6, ground := Go.Ground.textOnly Go.Departure.lateStores }, { on := 7, ground := Go.Ground.textOnly Go.Departure.lateStores }], guard := none }) rfl (fun K hK => ?_) AllReadyH.nil
      (refine step_storeM rfl 54 (.tmp 6) (.tmp 53) rfl b6 0 #[.int .i64 (Kp : Int), .int .i64 (Nn : Int), .int .u32 (gen : Int), .string mk, .slice ot (n + 1) ct] rfl rfl HTH.out info_pgR (one_pg _ _ _ _ _ _ _) ?_; skip)
      refine hK.out _ _ ?_ (fun hHeld => ?_)
      · (try dsimp only)
        (first | exact Own.refl _ _ | exact Own.setCells _ _ _ | assumption)
      clear hK K
      (try simp only [Act.put, List.setIfInBounds_toArray, List.set_cons_zero, List.set_cons_succ])
      refine wpAnyH_take (i := 9) (oi := { dst := some 7, op := Go.Op.assign (Go.Operand.tmp 60), type := 4, pos := "ref.go:68", after := #[{ on := 7, ground := Go.Ground.data }, { on := 8, ground := Go.Ground.chain }, { on := 0, ground := Go.Ground.phase }, { on := 1, ground := Go.Ground.phase }, { on := 2, ground := Go.Ground.phase }, { on := 3, ground := Go.Ground.phase }, { on := 4, ground := Go.Ground.phase }, { on := 5, ground := Go.Ground.phase }, { on := 6, ground := Go.Ground.phase }, { on := 7, ground := Go.Ground.phase }, { on := 8, ground := Go.Ground.phase }], guard := none }) (v := ?_) rfl (by kernel_rfl) (by kernel_rfl) (by kernel_rfl) (fun _ _ _ h => h) (Or.inl ⟨by rfl, ?_⟩) (by assumption) ?_
      rotate_left
      · intro wS hSw
        (try dsimp only at hSw)
        go_simp
        (try with_reducible rfl)
      (try simp only [Act.put, List.setIfInBounds_toArray, List.set_cons_zero, List.set_cons_succ])
      refine wpAnyH_take (i := 10) (oi := { dst := some 8, op := Go.Op.assign (Go.Operand.const (Go.Value.int Go.IntKind.i64 0)), type := 3, pos := "ref.go:68", after := #[{ on := 9, ground := Go.Ground.chain }, { on := 0, ground := Go.Ground.phase }, { on := 1, ground := Go.Ground.phase }, { on := 2, ground := Go.Ground.phase }, { on := 3, ground := Go.Ground.phase }, { on := 4, ground := Go.Ground.phase }, { on := 5, ground := Go.Ground.phase }, { on := 6, ground := Go.Ground.phase }, { on := 7, ground := Go.Ground.phase }, { on := 8, ground := Go.Ground.phase }, { on := 9, ground := Go.Ground.phase }], guard := none }) (v := ?_) rfl (by kernel_rfl) (by kernel_rfl) (by kernel_rfl) (fun _ _ _ h => h) (Or.inl ⟨by rfl, ?_⟩) (by assumption) ?_
      rotate_left
      · intro wS hSw
        (try dsimp only at hSw)
        go_simp
        (try with_reducible rfl)
      (try simp only [Act.put, List.setIfInBounds_toArray, List.set_cons_zero, List.set_cons_succ])
      refine wpAnyH_done (by kernel_rfl) ?_ _
      go_wp2_with fail
      refine bodyPost_ret (v := .tuple #[.agg #[.int .i64 (Kp : Int), .int .i64 (Nn : Int), .int .u32 (gen : Int), .string mk, .slice ot (n + 1) ct], .bool true, .int .i64 0]) ?_ rfl ⟨HX.out.2, .inr ⟨rfl, ot, ct, by rw [HDE.out], HQ.out⟩⟩
      exact results_cell_tmp3 Tryd.results15 _ _ b6 54 #[.int .i64 (Kp : Int), .int .i64 (Nn : Int), .int .u32 (gen : Int), .string mk, .slice ot (n + 1) ct] (0, 0) _ rfl HX.out.1 Tryd.underlying54 rfl info_pgR
    · skip
      have HDE : Hid (decide ((n : Int) + 1 = (Kp : Int)) = false) := Lib.hid (decide_eq_false (by omega))
      have e1 : ¬ (n : Int) + 1 = (Kp : Int) := by omega
      have e2 : decide ((n : Int) + 1 = (Kp : Int)) = false := decide_eq_false e1
      have e3 : ((n : Int) + 1 == (Kp : Int)) = false := by simp only [beq_eq_false_iff_ne]; exact e1
      have e4 : decide (n + 1 = Kp) = false := decide_eq_false hkk
      have e5 : (n + 1 == Kp) = false := by simp only [beq_eq_false_iff_ne]; exact hkk
      refine wp_region_held_drew (S := (Own b6 w8.drew)) (by kernel_rfl) ?_ (fun hHeld => ?_)
      · (try dsimp only)
        (first | exact Own.refl _ _ | exact Own.setCells _ _ _ | assumption)
      generalize w8.drew = WS at *
      refine wpAnyH_take (i := 0) (oi := { dst := some 53, op := Go.Op.load 54 (Go.Operand.tmp 10), type := 54, pos := "ref.go:68", after := #[], guard := none }) (v := ?_) rfl (by kernel_rfl) (by kernel_rfl) (by kernel_rfl) (fun _ _ _ h => h) (Or.inl ⟨by rfl, ?_⟩) (by assumption) ?_
      rotate_left
      · intro wS hSw
        (refine exec_loadM (x := .tmp 10) (cs := [.int .i64 (Kp : Int), .int .i64 (Nn : Int), .int .u32 (gen : Int), .string mk, .slice ot (n + 1) ct]) ?_ ?_ (range5 (hSw.blk HB16.out HNE16.out)) Tryd.underlying54 rfl info_pgR <;> rfl)
      (try simp only [Act.put, List.setIfInBounds_toArray, List.set_cons_zero, List.set_cons_succ])
      refine wpAnyH_take (i := 1) (oi := { dst := some 54, op := Go.Op.fieldAddr 54 (Go.Operand.tmp 10) 2, type := 0, pos := "ref.go:68", after := #[], guard := none }) (v := ?_) rfl (by kernel_rfl) (by kernel_rfl) (by kernel_rfl) (fun _ _ _ h => h) (Or.inl ⟨by rfl, ?_⟩) (by assumption) ?_
      rotate_left
      · intro wS hSw
        (try dsimp only at hSw)
        go_simp
        (try with_reducible rfl)
      (try simp only [Act.put, List.setIfInBounds_toArray, List.set_cons_zero, List.set_cons_succ])
      refine wpAnyH_take (i := 2) (oi := { dst := some 55, op := Go.Op.load 52 (Go.Operand.tmp 54), type := 52, pos := "ref.go:68", after := #[{ on := 1, ground := Go.Ground.data }], guard := none }) (v := ?_) rfl (by kernel_rfl) (by kernel_rfl) (by kernel_rfl) (fun _ _ _ h => h) (Or.inl ⟨by rfl, ?_⟩) (by assumption) ?_
      rotate_left
      · intro wS hSw
        (have q4 := pg_sl (hSw.blk HB16.out HNE16.out); go_simp; (try with_reducible rfl))
      (try simp only [Act.put, List.setIfInBounds_toArray, List.set_cons_zero, List.set_cons_succ])
      refine wpAnyH_take (i := 3) (oi := { dst := some 56, op := Go.Op.call { callee := Go.Callee.builtin Go.Builtin.len, args := #[Go.Operand.tmp 55], argTypes := #[52] }, type := 3, pos := "ref.go:68", after := #[{ on := 2, ground := Go.Ground.data }], guard := none }) (v := ?_) rfl (by kernel_rfl) (by kernel_rfl) (by kernel_rfl) (fun _ _ _ h => h) (Or.inl ⟨by rfl, ?_⟩) (by assumption) ?_
      rotate_left
      · intro wS hSw
        (try dsimp only at hSw)
        go_simp
        (try with_reducible rfl)
      (try simp only [Act.put, List.setIfInBounds_toArray, List.set_cons_zero, List.set_cons_succ])
      refine wpAnyH_take (i := 4) (oi := { dst := some 57, op := Go.Op.fieldAddr 54 (Go.Operand.tmp 3) 0, type := 0, pos := "ref.go:68", after := #[{ on := 8, ground := Go.Ground.gcOnly Go.Departure.lateStores }], guard := none }) (v := ?_) rfl (by kernel_rfl) (by kernel_rfl) (by kernel_rfl) (fun _ _ _ h => h) (Or.inl ⟨by rfl, ?_⟩) (by assumption) ?_
      rotate_left
      · intro wS hSw
        (try dsimp only at hSw)
        go_simp
        (try with_reducible rfl)
      (try simp only [Act.put, List.setIfInBounds_toArray, List.set_cons_zero, List.set_cons_succ])
      refine wpAnyH_take (i := 5) (oi := { dst := some 58, op := Go.Op.fieldAddr 51 (Go.Operand.tmp 57) 0, type := 0, pos := "ref.go:68", after := #[{ on := 4, ground := Go.Ground.data }, { on := 8, ground := Go.Ground.gcOnly Go.Departure.lateStores }], guard := none }) (v := ?_) rfl (by kernel_rfl) (by kernel_rfl) (by kernel_rfl) (fun _ _ _ h => h) (Or.inl ⟨by rfl, ?_⟩) (by assumption) ?_
      rotate_left
      · intro wS hSw
        (try dsimp only at hSw)
        go_simp
        (try with_reducible rfl)
      (try simp only [Act.put, List.setIfInBounds_toArray, List.set_cons_zero, List.set_cons_succ])
      refine wpAnyH_take (i := 6) (oi := { dst := some 59, op := Go.Op.load 3 (Go.Operand.tmp 58), type := 3, pos := "ref.go:68", after := #[{ on := 5, ground := Go.Ground.data }, { on := 8, ground := Go.Ground.gcOnly Go.Departure.lateStores }], guard := none }) (v := ?_) rfl (by kernel_rfl) (by kernel_rfl) (by kernel_rfl) (fun _ _ _ h => h) (Or.inl ⟨by rfl, ?_⟩) (by assumption) ?_
      rotate_left
      · intro wS hSw
        (have qk := pg_k (hSw.blk HP16.out HZN.out); go_simp; (try with_reducible rfl))
      (try simp only [Act.put, List.setIfInBounds_toArray, List.set_cons_zero, List.set_cons_succ])
      refine wpAnyH_take (i := 7) (oi := { dst := some 60, op := Go.Op.binOp Go.BinOp.eql 3 (Go.Operand.tmp 56) (Go.Operand.tmp 59) 3, type := 4, pos := "ref.go:68", after := #[{ on := 3, ground := Go.Ground.data }, { on := 6, ground := Go.Ground.data }, { on := 8, ground := Go.Ground.gcOnly Go.Departure.lateStores }], guard := none }) (v := ?_) rfl (by kernel_rfl) (by kernel_rfl) (by kernel_rfl) (fun _ _ _ h => h) (Or.inl ⟨by rfl, ?_⟩) (by assumption) ?_
      rotate_left
      · intro wS hSw
        (try dsimp only at hSw)
        go_simp
        (try with_reducible rfl)
      (try simp only [Act.put, List.setIfInBounds_toArray, List.set_cons_zero, List.set_cons_succ])
      refine wpAnyH_ready (rs := [8]) (by kernel_rfl) (by simp) ?_
      refine AllReadyH.cons (o := { dst := none, op := Go.Op.store 54 (Go.Operand.tmp 6) (Go.Operand.tmp 53), type := 0, pos := "ref.go:68", after := #[{ on := 0, ground := Go.Ground.data }, { on := 0, ground := Go.Ground.phase }, { on := 1, ground := Go.Ground.textOnly Go.Departure.lateStores }, { on := 2, ground := Go.Ground.textOnly Go.Departure.lateStores }, { on := 3, ground := Go.Ground.textOnly Go.Departure.lateStoresUnsure }, { on := 4, ground := Go.Ground.textOnly Go.Departure.lateStores }, { on := 5, ground := Go.Ground.textOnly Go.Departure.lateStores }, { on := 6, ground := Go.Ground.textOnly Go.Departure.lateStores }, { on := 7, ground := Go.Ground.textOnly Go.Departure.lateStores }], guard := none }) rfl (fun K hK => ?_) AllReadyH.nil
      (refine step_storeM rfl 54 (.tmp 6) (.tmp 53) rfl b6 0 #[.int .i64 (Kp : Int), .int .i64 (Nn : Int), .int .u32 (gen : Int), .string mk, .slice ot (n + 1) ct] rfl rfl HTH.out info_pgR (one_pg _ _ _ _ _ _ _) ?_; skip)
      refine hK.out _ _ ?_ (fun hHeld => ?_)
      · (try dsimp only)
        (first | exact Own.refl _ _ | exact Own.setCells _ _ _ | assumption)
      clear hK K
      (try simp only [Act.put, List.setIfInBounds_toArray, List.set_cons_zero, List.set_cons_succ])
      refine wpAnyH_take (i := 9) (oi := { dst := some 7, op := Go.Op.assign (Go.Operand.tmp 60), type := 4, pos := "ref.go:68", after := #[{ on := 7, ground := Go.Ground.data }, { on := 8, ground := Go.Ground.chain }, { on := 0, ground := Go.Ground.phase }, { on := 1, ground := Go.Ground.phase }, { on := 2, ground := Go.Ground.phase }, { on := 3, ground := Go.Ground.phase }, { on := 4, ground := Go.Ground.phase }, { on := 5, ground := Go.Ground.phase }, { on := 6, ground := Go.Ground.phase }, { on := 7, ground := Go.Ground.phase }, { on := 8, ground := Go.Ground.phase }], guard := none }) (v := ?_) rfl (by kernel_rfl) (by kernel_rfl) (by kernel_rfl) (fun _ _ _ h => h) (Or.inl ⟨by rfl, ?_⟩) (by assumption) ?_
      rotate_left
      · intro wS hSw
        (try dsimp only at hSw)
        go_simp
        (try with_reducible rfl)
      (try simp only [Act.put, List.setIfInBounds_toArray, List.set_cons_zero, List.set_cons_succ])
      refine wpAnyH_take (i := 10) (oi := { dst := some 8, op := Go.Op.assign (Go.Operand.const (Go.Value.int Go.IntKind.i64 0)), type := 3, pos := "ref.go:68", after := #[{ on := 9, ground := Go.Ground.chain }, { on := 0, ground := Go.Ground.phase }, { on := 1, ground := Go.Ground.phase }, { on := 2, ground := Go.Ground.phase }, { on := 3, ground := Go.Ground.phase }, { on := 4, ground := Go.Ground.phase }, { on := 5, ground := Go.Ground.phase }, { on := 6, ground := Go.Ground.phase }, { on := 7, ground := Go.Ground.phase }, { on := 8, ground := Go.Ground.phase }, { on := 9, ground := Go.Ground.phase }], guard := none }) (v := ?_) rfl (by kernel_rfl) (by kernel_rfl) (by kernel_rfl) (fun _ _ _ h => h) (Or.inl ⟨by rfl, ?_⟩) (by assumption) ?_
      rotate_left
      · intro wS hSw
        (try dsimp only at hSw)
        go_simp
        (try with_reducible rfl)
      (try simp only [Act.put, List.setIfInBounds_toArray, List.set_cons_zero, List.set_cons_succ])
      refine wpAnyH_done (by kernel_rfl) ?_ _
      go_wp2_with fail
      refine bodyPost_ret (v := .tuple #[.agg #[.int .i64 (Kp : Int), .int .i64 (Nn : Int), .int .u32 (gen : Int), .string mk, .slice ot (n + 1) ct], .bool false, .int .i64 0]) ?_ rfl ⟨HX.out.2, .inr ⟨rfl, ot, ct, by rw [HDE.out], HQ.out⟩⟩
      exact results_cell_tmp3 Tryd.results15 _ _ b6 54 #[.int .i64 (Kp : Int), .int .i64 (Nn : Int), .int .u32 (gen : Int), .string mk, .slice ot (n + 1) ct] (0, 0) _ rfl HX.out.1 Tryd.underlying54 rfl info_pgR
  refine AllReadyH.cons (o := { dst := some 50, op := Go.Op.buildSlice 52 1 #[(0, Go.Operand.tmp 49)], type := 52, pos := "ref.go:67", after := #[{ on := 5, ground := Go.Ground.data }], guard := none }) rfl (fun K hK => ?_) AllReadyH.nil
  go_simp
  (obtain ⟨VBx6, hw⟩ : ∃ z, WR.alloc (.cells #[.int .u8 (ix : Int), .int .u32 (gn : Int), .slice od ln cp] 55) = z := ⟨_, rfl⟩; rw [hw]; have hb : Below WR.heap.size WR VBx6 := (by rw [← hw]; exact (Below.refl _ _).alloc (Nat.le_refl _) _); have HLB : Hid (Blk VBx6 WR.heap.size ([.int .u8 (ix : Int), .int .u32 (gn : Int), .slice od ln cp] : List Value).toArray 55) := Lib.hid (by rw [← hw]; exact Blk.new _ _ _); (try have HGA := Lib.hid (HGA.out.later hb)); (try have HAZ := Lib.hid (show WR.heap.size ≤ _ ∧ _ from ⟨HAZ.out.1, Nat.le_trans HAZ.out.2 hb.size⟩)); have n4VBx6 : VBx6.cell? ⟨b10, 4, none⟩ = some (.slice none 0 0) := (by have h9 := Blk.below HN10.out (Below.trans hvWR (hb.mono hvWR.size)) HWR.out.2; rw [Blk.cell h9]; rfl); have hvVBx6 := Below.trans hvWR (hb.mono hvWR.size); clear hb hw; skip)
  (try go_wp2_with fail)
  refine hK.out _ _ ?_ (fun hHeld => ?_)
  · (try dsimp only)
    (first | exact Own.refl _ _ | exact Own.of_below (by assumption) | exact ((Own.of_below (by assumption)).trans ((Own.refl _ _).set _ _)))
  clear hK K
  (try simp only [Act.put, List.setIfInBounds_toArray, List.set_cons_zero, List.set_cons_succ])
  refine wpAnyH_ready (rs := [1]) (by kernel_rfl) (by simp) ?_
  refine AllReadyH.cons (o := { dst := some 45, op := Go.Op.load 52 (Go.Operand.tmp 44), type := 52, pos := "ref.go:67", after := #[{ on := 0, ground := Go.Ground.data }], guard := none }) rfl (fun K hK => ?_) AllReadyH.nil
  go_simp
  (skip)
  (try go_wp2_with fail)
  refine hK.out _ _ ?_ (fun hHeld => ?_)
  · (try dsimp only)
    (first | exact Own.refl _ _ | exact Own.of_below (by assumption) | exact ((Own.of_below (by assumption)).trans ((Own.refl _ _).set _ _)))
  clear hK K
  (try simp only [Act.put, List.setIfInBounds_toArray, List.set_cons_zero, List.set_cons_succ])
  refine wpAnyH_ready (rs := [4]) (by kernel_rfl) (by simp) ?_
  refine AllReadyH.cons (o := { dst := some 48, op := Go.Op.call { callee := Go.Callee.builtin Go.Builtin.append, args := #[Go.Operand.tmp 45, Go.Operand.tmp 47], argTypes := #[52, 52] }, type := 52, pos := "ref.go:67", after := #[{ on := 1, ground := Go.Ground.data }, { on := 3, ground := Go.Ground.data }], guard := none }) rfl (fun K hK => ?_) AllReadyH.nil
  (refine step_GP und_ssR info_rshare rfl rfl (.tmp 45) (.tmp 47) rfl (fun q => q ≠ tb ∧ q ≠ b10 ∧ q ≠ b6) VBx6.heap.size (.slice none 0 0) 0 n cs (fun _ => default) S oa VBx6 rfl (GP.nil _ _ _ _ _) rfl (HSS.out.shP (HBD.out.trans (hvVBx6.mono HBD.out.size)) (fun q hq => by simp [Value.ownBlock] at hq) HPX.out) (fun e => by subst e; exact HSS.out.none) HN0.out (Nat.le_refl _) ?_; intro va VAx6 hGa hba _; have HGA := Lib.hid (by rw [Nat.zero_add] at hGa; exact (hGa.congr (S' := S) fun i hi => by unfold catSh; rw [if_neg (Nat.not_lt_zero _), Nat.sub_zero] : GP 55 (fun q => q ≠ tb ∧ q ≠ b10 ∧ q ≠ b6) VAx6 VBx6.heap.size va n S)); have HAZ := Lib.hid (show WR.heap.size ≤ VBx6.heap.size ∧ VBx6.heap.size ≤ VAx6.heap.size from ⟨hvVBx6.size, hba.size⟩); (try have HLB := Lib.hid (Blk.below HLB.out hba (Blk.lt HLB.out))); have hvVAx6 := Below.trans hvVBx6 (hba.mono hvVBx6.size); clear hGa hba; skip)
  refine hK.out _ _ ?_ (fun hHeld => ?_)
  · (try dsimp only)
    (first | exact Own.refl _ _ | exact Own.of_below (by assumption) | exact ((Own.of_below (by assumption)).trans ((Own.refl _ _).set _ _)))
  clear hK K
  (try simp only [Act.put, List.setIfInBounds_toArray, List.set_cons_zero, List.set_cons_succ])
  refine wpAnyH_ready (rs := [7]) (by kernel_rfl) (by simp) ?_
  refine AllReadyH.cons (o := { dst := some 51, op := Go.Op.call { callee := Go.Callee.builtin Go.Builtin.append, args := #[Go.Operand.tmp 48, Go.Operand.tmp 50], argTypes := #[52, 52] }, type := 52, pos := "ref.go:67", after := #[{ on := 4, ground := Go.Ground.data }, { on := 6, ground := Go.Ground.data }, { on := 4, ground := Go.Ground.chain }], guard := none }) rfl (fun K hK => ?_) AllReadyH.nil
  (refine step_GP und_ssR info_rshare rfl rfl (.tmp 48) (.tmp 50) rfl (fun q => q ≠ tb ∧ q ≠ b10 ∧ q ≠ b6) _ va n 1 1 S (fun _ => ⟨ix, gn, ln, f⟩) (some ⟨WR.heap.size, 0, none⟩) VAx6 rfl HGA.out rfl (ShP.one (HSW.out.later (HBD.out.trans (hvVAx6.mono HBD.out.size))) (HSW.out.away (fun q hq => Nat.le_trans HWR.out.1 (Nat.le_trans HAZ.out.1 (HGA.out.block q hq).1))) HLB.out) (fun e => by cases e) HN1.out HAZ.out.2 ?_; intro v7 w7 hG7 hb7 hg7; obtain ⟨ot, ct, rfl, ht1, ht2, -, -, -⟩ := hG7.shs (tb := tb) (fun q hq => hq.1) (.inl (by have h1 := HAZ.out.1; have h2 := HWR.out.1; have h3 := HNN.out; omega)); have HG7 := Lib.hid hG7; have HTC := Lib.hid (show n + 1 ≤ ct ∧ ct ≤ maxLen from ⟨ht1, ht2⟩); have HV7 := Lib.hid (hvVAx6.trans (hb7.mono HAZ.out.1)); have hvw7 := HV7.out; have hn7 := (Blk.below HN10.out HV7.out HWR.out.2); have HN7 := Lib.hid hn7; have n47 : w7.cell? ⟨b10, 4, none⟩ = some (.slice none 0 0) := (by rw [Blk.cell hn7]; rfl); have fr7 := Blk.free hn7 4; clear hG7 hb7 hg7 ht1 ht2 hn7; skip)
  refine hK.out _ _ ?_ (fun hHeld => ?_)
  · (try dsimp only)
    (first | exact Own.refl _ _ | exact Own.of_below (by assumption) | exact ((Own.of_below (by assumption)).trans ((Own.refl _ _).set _ _)))
  clear hK K
  (try simp only [Act.put, List.setIfInBounds_toArray, List.set_cons_zero, List.set_cons_succ])
  refine wpAnyH_take (i := 8) (oi := { dst := some 52, op := Go.Op.fieldAddr 54 (Go.Operand.tmp 10) 2, type := 0, pos := "ref.go:67", after := #[{ on := 0, ground := Go.Ground.phase }, { on := 1, ground := Go.Ground.phase }, { on := 2, ground := Go.Ground.phase }, { on := 3, ground := Go.Ground.phase }, { on := 4, ground := Go.Ground.phase }, { on := 5, ground := Go.Ground.phase }, { on := 6, ground := Go.Ground.phase }, { on := 7, ground := Go.Ground.phase }], guard := none }) (v := ?_) rfl (by kernel_rfl) (by kernel_rfl) (by kernel_rfl) (fun _ _ _ h => h) (Or.inl ⟨by rfl, ?_⟩) (by assumption) ?_
  rotate_left
  · intro wS hSw
    (try dsimp only at hSw)
    go_simp
    (try with_reducible rfl)
  (try simp only [Act.put, List.setIfInBounds_toArray, List.set_cons_zero, List.set_cons_succ])
  refine wpAnyH_ready (rs := [9]) (by kernel_rfl) (by simp) ?_
  refine AllReadyH.cons (o := { dst := none, op := Go.Op.store 52 (Go.Operand.tmp 52) (Go.Operand.tmp 51), type := 0, pos := "ref.go:67", after := #[{ on := 8, ground := Go.Ground.data }, { on := 7, ground := Go.Ground.data }, { on := 7, ground := Go.Ground.chain }, { on := 0, ground := Go.Ground.phase }, { on := 1, ground := Go.Ground.phase }, { on := 2, ground := Go.Ground.phase }, { on := 3, ground := Go.Ground.phase }, { on := 4, ground := Go.Ground.phase }, { on := 5, ground := Go.Ground.phase }, { on := 6, ground := Go.Ground.phase }, { on := 7, ground := Go.Ground.phase }], guard := none }) rfl (fun K hK => ?_) AllReadyH.nil
  go_simp
  (skip)
  (try go_wp2_with fail)
  refine hK.out _ _ ?_ (fun hHeld => ?_)
  · (try dsimp only)
    (first | exact Own.refl _ _ | exact Own.of_below (by assumption) | exact ((Own.of_below (by assumption)).trans ((Own.refl _ _).set _ _)))
  clear hK K
  (try simp only [Act.put, List.setIfInBounds_toArray, List.set_cons_zero, List.set_cons_succ])
  refine wpAnyH_done (by kernel_rfl) ?_ _
  go_wp2_with fail
  have hO8 : Own b10 w7 (w7.setCell ⟨b10, 4, none⟩ (.slice ot (n + 1) ct)) := (Own.refl _ _).set _ _
  have hn8 := HN7.out.set 4 (.slice ot (n + 1) ct)
  have hg8 := HG7.out.own hO8 (fun q h => h.2.1) (Nat.lt_of_lt_of_le HWR.out.2 HAZ.out.1)
  have hz8 := hO8.blk (Blk.below HZ10.out HV7.out (Blk.lt HZ10.out)) (Nat.ne_of_lt HLQ.out.2.2.1)
  have hp8 := hO8.blk (Blk.below HPR.out HV7.out (Blk.lt HPR.out)) HPN.out
  have hbw7 := HBD.out.trans (HV7.out.mono HBD.out.size)
  have hbw8 := hbw7.trans (hO8.below (Nat.le_of_lt HLQ.out.1) hbw7.size)
  generalize w7.setCell ⟨b10, 4, none⟩ (.slice ot (n + 1) ct) = w8 at *
  have hbd := (Below.refl w8.heap.size w8).drew
  have HB16 : Hid (Blk w8.drew b10 #[.int .i64 (Kp : Int), .int .i64 (Nn : Int), .int .u32 (gen : Int), .string mk, .slice ot (n + 1) ct] 54) := Lib.hid (Blk.below hn8 hbd (Blk.lt hn8))
  have HP16 := Lib.hid (Blk.below hp8 hbd (Blk.lt hp8))
  have HNE16 : Hid (b10 ≠ b6) := Lib.hid (Nat.ne_of_gt HLQ.out.2.2.1)
  have HZN : Hid (w.heap.size ≠ b6) := Lib.hid (by have h1 := HLT.out; have h2 := hb5; have h3 := hb6; omega)
  have hz9 := Blk.below hz8 hbd (Blk.lt hz8)
  have HTH : Hid (w8.drew.there b6 0 5) := Lib.hid (hz9.there (by decide))
  have hbw9 := hbw8.trans (hbd.mono hbw8.size)
  have hO9 : Own b6 w8.drew (w8.drew.setCells b6 0 [.int .i64 (Kp : Int), .int .i64 (Nn : Int), .int .u32 (gen : Int), .string mk, .slice ot (n + 1) ct]) := Own.setCells _ _ _
  have HX : Hid (Blk (w8.drew.setCells b6 0 [.int .i64 (Kp : Int), .int .i64 (Nn : Int), .int .u32 (gen : Int), .string mk, .slice ot (n + 1) ct]) b6 #[.int .i64 (Kp : Int), .int .i64 (Nn : Int), .int .u32 (gen : Int), .string mk, .slice ot (n + 1) ct] 54 ∧ Below w.heap.size w (w8.drew.setCells b6 0 [.int .i64 (Kp : Int), .int .i64 (Nn : Int), .int .u32 (gen : Int), .string mk, .slice ot (n + 1) ct])) := Lib.hid ⟨hz9.whole5 rfl _ _ _ _ _, hbw9.trans (hO9.below HLT.out hbw9.size)⟩
  have HQ : Hid (n + 1 ≤ ct ∧ ct ≤ maxLen ∧ Shs tb (w8.drew.setCells b6 0 [.int .i64 (Kp : Int), .int .i64 (Nn : Int), .int .u32 (gen : Int), .string mk, .slice ot (n + 1) ct]) ot (n + 1) (catSh n S (fun _ => ⟨ix, gn, ln, f⟩))) := Lib.hid (by
    obtain ⟨oz, cz, ez, -, -, -, -, hz8'⟩ := ((hg8.later hbd).own hO9 (fun q hq => hq.2.2) (by have h1 := HLQ.out; have h2 := HAZ.out.1; have h3 := HWR.out.2; omega)).shs (tb := tb) (fun q hq => hq.1) (.inl (by have h1 := HAZ.out.1; have h2 := HWR.out.1; have h3 := HNN.out; omega))
    cases ez
    exact ⟨HTC.out.1, HTC.out.2, hz8'⟩)
  clear hO8 hn8 hg8 hz8 hp8 hbw7 hbw8 hbd hz9 hbw9 hO9 n47 fr7 hvw7
  by_cases hkk : n + 1 = Kp
  · skip
    have HDE : Hid (decide ((n : Int) + 1 = (Kp : Int)) = true) := Lib.hid (decide_eq_true (by omega))
    have e1 : (n : Int) + 1 = (Kp : Int) := by omega
    have e2 : decide ((n : Int) + 1 = (Kp : Int)) = true := decide_eq_true e1
    have e3 : ((n : Int) + 1 == (Kp : Int)) = true := by simp only [beq_iff_eq]; exact e1
    have e4 : decide (n + 1 = Kp) = true := decide_eq_true hkk
    have e5 : (n + 1 == Kp) = true := by simp only [beq_iff_eq]; exact hkk
    clear e1 hkk
    refine wp_region_held_drew (S := (Own b6 w8.drew)) (by kernel_rfl) ?_ (fun hHeld => ?_)
    · (try dsimp only)
      (first | exact Own.refl _ _ | exact Own.setCells _ _ _ | assumption)
    generalize w8.drew = WS at *
    refine wpAnyH_take (i := 0) (oi := { dst := some 53, op := Go.Op.load 54 (Go.Operand.tmp 10), type := 54, pos := "ref.go:68", after := #[], guard := none }) (v := ?_) rfl (by kernel_rfl) (by kernel_rfl) (by kernel_rfl) (fun _ _ _ h => h) (Or.inl ⟨by rfl, ?_⟩) (by assumption) ?_
    rotate_left
    · intro wS hSw
      (refine exec_loadM (x := .tmp 10) (cs := [.int .i64 (Kp : Int), .int .i64 (Nn : Int), .int .u32 (gen : Int), .string mk, .slice ot (n + 1) ct]) ?_ ?_ (range5 (hSw.blk HB16.out HNE16.out)) Tryd.underlying54 rfl info_pgR <;> rfl)
    (try simp only [Act.put, List.setIfInBounds_toArray, List.set_cons_zero, List.set_cons_succ])
    refine wpAnyH_take (i := 1) (oi := { dst := some 54, op := Go.Op.fieldAddr 54 (Go.Operand.tmp 10) 2, type := 0, pos := "ref.go:68", after := #[], guard := none }) (v := ?_) rfl (by kernel_rfl) (by kernel_rfl) (by kernel_rfl) (fun _ _ _ h => h) (Or.inl ⟨by rfl, ?_⟩) (by assumption) ?_
    rotate_left
    · intro wS hSw
      (try dsimp only at hSw)
      go_simp
      (try with_reducible rfl)
    (try simp only [Act.put, List.setIfInBounds_toArray, List.set_cons_zero, List.set_cons_succ])
    refine wpAnyH_take (i := 2) (oi := { dst := some 55, op := Go.Op.load 52 (Go.Operand.tmp 54), type := 52, pos := "ref.go:68", after := #[{ on := 1, ground := Go.Ground.data }], guard := none }) (v := ?_) rfl (by kernel_rfl) (by kernel_rfl) (by kernel_rfl) (fun _ _ _ h => h) (Or.inl ⟨by rfl, ?_⟩) (by assumption) ?_
    rotate_left
    · intro wS hSw
      (have q4 := pg_sl (hSw.blk HB16.out HNE16.out); go_simp; (try with_reducible rfl))
    (try simp only [Act.put, List.setIfInBounds_toArray, List.set_cons_zero, List.set_cons_succ])
    refine wpAnyH_take (i := 3) (oi := { dst := some 56, op := Go.Op.call { callee := Go.Callee.builtin Go.Builtin.len, args := #[Go.Operand.tmp 55], argTypes := #[52] }, type := 3, pos := "ref.go:68", after := #[{ on := 2, ground := Go.Ground.data }], guard := none }) (v := ?_) rfl (by kernel_rfl) (by kernel_rfl) (by kernel_rfl) (fun _ _ _ h => h) (Or.inl ⟨by rfl, ?_⟩) (by assumption) ?_
    rotate_left
    · intro wS hSw
      (try dsimp only at hSw)
      go_simp
      (try with_reducible rfl)
    (try simp only [Act.put, List.setIfInBounds_toArray, List.set_cons_zero, List.set_cons_succ])
    refine wpAnyH_take (i := 4) (oi := { dst := some 57, op := Go.Op.fieldAddr 54 (Go.Operand.tmp 3) 0, type := 0, pos := "ref.go:68", after := #[{ on := 8, ground := Go.Ground.gcOnly Go.Departure.lateStores }], guard := none }) (v := ?_) rfl (by kernel_rfl) (by kernel_rfl) (by kernel_rfl) (fun _ _ _ h => h) (Or.inl ⟨by rfl, ?_⟩) (by assumption) ?_
    rotate_left
    · intro wS hSw
      (try dsimp only at hSw)
      go_simp
      (try with_reducible rfl)
    (try simp only [Act.put, List.setIfInBounds_toArray, List.set_cons_zero, List.set_cons_succ])
    refine wpAnyH_take (i := 5) (oi := { dst := some 58, op := Go.Op.fieldAddr 51 (Go.Operand.tmp 57) 0, type := 0, pos := "ref.go:68", after := #[{ on := 4, ground := Go.Ground.data }, { on := 8, ground := Go.Ground.gcOnly Go.Departure.lateStores }], guard := none }) (v := ?_) rfl (by kernel_rfl) (by kernel_rfl) (by kernel_rfl) (fun _ _ _ h => h) (Or.inl ⟨by rfl, ?_⟩) (by assumption) ?_
    rotate_left
    · intro wS hSw
      (try dsimp only at hSw)
      go_simp
      (try with_reducible rfl)
    (try simp only [Act.put, List.setIfInBounds_toArray, List.set_cons_zero, List.set_cons_succ])
    refine wpAnyH_take (i := 6) (oi := { dst := some 59, op := Go.Op.load 3 (Go.Operand.tmp 58), type := 3, pos := "ref.go:68", after := #[{ on := 5, ground := Go.Ground.data }, { on := 8, ground := Go.Ground.gcOnly Go.Departure.lateStores }], guard := none }) (v := ?_) rfl (by kernel_rfl) (by kernel_rfl) (by kernel_rfl) (fun _ _ _ h => h) (Or.inl ⟨by rfl, ?_⟩) (by assumption) ?_
    rotate_left
    · intro wS hSw
      (have qk := pg_k (hSw.blk HP16.out HZN.out); go_simp; (try with_reducible rfl))
    (try simp only [Act.put, List.setIfInBounds_toArray, List.set_cons_zero, List.set_cons_succ])
    refine wpAnyH_take (i := 7) (oi := { dst := some 60, op := Go.Op.binOp Go.BinOp.eql 3 (Go.Operand.tmp 56) (Go.Operand.tmp 59) 3, type := 4, pos := "ref.go:68", after := #[{ on := 3, ground := Go.Ground.data }, { on := 6, ground := Go.Ground.data }, { on := 8, ground := Go.Ground.gcOnly Go.Departure.lateStores }], guard := none }) (v := ?_) rfl (by kernel_rfl) (by kernel_rfl) (by kernel_rfl) (fun _ _ _ h => h) (Or.inl ⟨by rfl, ?_⟩) (by assumption) ?_
    rotate_left
    · intro wS hSw
      (try dsimp only at hSw)
      go_simp
      (try with_reducible rfl)
    (try simp only [Act.put, List.setIfInBounds_toArray, List.set_cons_zero, List.set_cons_succ])
    refine wpAnyH_ready (rs := [8]) (by kernel_rfl) (by simp) ?_
    refine AllReadyH.cons (o := { dst := none, op := Go.Op.store 54 (Go.Operand.tmp 6) (Go.Operand.tmp 53), type := 0, pos := "ref.go:68", after := #[{ on := 0, ground := Go.Ground.data }, { on := 0, ground := Go.Ground.phase }, { on := 1, ground := Go.Ground.textOnly Go.Departure.lateStores }, { on := 2, ground := Go.Ground.textOnly Go.Departure.lateStores }, { on := 3, ground := Go.Ground.textOnly Go.Departure.lateStoresUnsure }, { on := 4, ground := Go.Ground.textOnly Go.Departure.lateStores }, { on := 5, ground := Go.Ground.textOnly Go.Departure.lateStores }, { on := 6, ground := Go.Ground.textOnly Go.Departure.lateStores }, { on := 7, ground := Go.Ground.textOnly Go.Departure.lateStores }], guard := none }) rfl (fun K hK => ?_) AllReadyH.nil
    (refine step_storeM rfl 54 (.tmp 6) (.tmp 53) rfl b6 0 #[.int .i64 (Kp : Int), .int .i64 (Nn : Int), .int .u32 (gen : Int), .string mk, .slice ot (n + 1) ct] rfl rfl HTH.out info_pgR (one_pg _ _ _ _ _ _ _) ?_; skip)
    refine hK.out _ _ ?_ (fun hHeld => ?_)
    · (try dsimp only)
      (first | exact Own.refl _ _ | exact Own.setCells _ _ _ | assumption)
    clear hK K
    (try simp only [Act.put, List.setIfInBounds_toArray, List.set_cons_zero, List.set_cons_succ])
    refine wpAnyH_take (i := 9) (oi := { dst := some 7, op := Go.Op.assign (Go.Operand.tmp 60), type := 4, pos := "ref.go:68", after := #[{ on := 7, ground := Go.Ground.data }, { on := 8, ground := Go.Ground.chain }, { on := 0, ground := Go.Ground.phase }, { on := 1, ground := Go.Ground.phase }, { on := 2, ground := Go.Ground.phase }, { on := 3, ground := Go.Ground.phase }, { on := 4, ground := Go.Ground.phase }, { on := 5, ground := Go.Ground.phase }, { on := 6, ground := Go.Ground.phase }, { on := 7, ground := Go.Ground.phase }, { on := 8, ground := Go.Ground.phase }], guard := none }) (v := ?_) rfl (by kernel_rfl) (by kernel_rfl) (by kernel_rfl) (fun _ _ _ h => h) (Or.inl ⟨by rfl, ?_⟩) (by assumption) ?_
    rotate_left
    · intro wS hSw
      (try dsimp only at hSw)
      go_simp
      (try with_reducible rfl)
    (try simp only [Act.put, List.setIfInBounds_toArray, List.set_cons_zero, List.set_cons_succ])
    refine wpAnyH_take (i := 10) (oi := { dst := some 8, op := Go.Op.assign (Go.Operand.const (Go.Value.int Go.IntKind.i64 0)), type := 3, pos := "ref.go:68", after := #[{ on := 9, ground := Go.Ground.chain }, { on := 0, ground := Go.Ground.phase }, { on := 1, ground := Go.Ground.phase }, { on := 2, ground := Go.Ground.phase }, { on := 3, ground := Go.Ground.phase }, { on := 4, ground := Go.Ground.phase }, { on := 5, ground := Go.Ground.phase }, { on := 6, ground := Go.Ground.phase }, { on := 7, ground := Go.Ground.phase }, { on := 8, ground := Go.Ground.phase }, { on := 9, ground := Go.Ground.phase }], guard := none }) (v := ?_) rfl (by kernel_rfl) (by kernel_rfl) (by kernel_rfl) (fun _ _ _ h => h) (Or.inl ⟨by rfl, ?_⟩) (by assumption) ?_
    rotate_left
    · intro wS hSw
      (try dsimp only at hSw)
      go_simp
      (try with_reducible rfl)
    (try simp only [Act.put, List.setIfInBounds_toArray, List.set_cons_zero, List.set_cons_succ])
    refine wpAnyH_done (by kernel_rfl) ?_ _
    go_wp2_with fail
    refine bodyPost_ret (v := .tuple #[.agg #[.int .i64 (Kp : Int), .int .i64 (Nn : Int), .int .u32 (gen : Int), .string mk, .slice ot (n + 1) ct], .bool true, .int .i64 0]) ?_ rfl ⟨HX.out.2, .inr ⟨rfl, ot, ct, by rw [HDE.out], HQ.out⟩⟩
    exact results_cell_tmp3 Tryd.results15 _ _ b6 54 #[.int .i64 (Kp : Int), .int .i64 (Nn : Int), .int .u32 (gen : Int), .string mk, .slice ot (n + 1) ct] (0, 0) _ rfl HX.out.1 Tryd.underlying54 rfl info_pgR
  · skip
    have HDE : Hid (decide ((n : Int) + 1 = (Kp : Int)) = false) := Lib.hid (decide_eq_false (by omega))
    have e1 : ¬ (n : Int) + 1 = (Kp : Int) := by omega
    have e2 : decide ((n : Int) + 1 = (Kp : Int)) = false := decide_eq_false e1
    have e3 : ((n : Int) + 1 == (Kp : Int)) = false := by simp only [beq_eq_false_iff_ne]; exact e1
    have e4 : decide (n + 1 = Kp) = false := decide_eq_false hkk
    have e5 : (n + 1 == Kp) = false := by simp only [beq_eq_false_iff_ne]; exact hkk
    refine wp_region_held_drew (S := (Own b6 w8.drew)) (by kernel_rfl) ?_ (fun hHeld => ?_)
    · (try dsimp only)
      (first | exact Own.refl _ _ | exact Own.setCells _ _ _ | assumption)
    generalize w8.drew = WS at *
    refine wpAnyH_take (i := 0) (oi := { dst := some 53, op := Go.Op.load 54 (Go.Operand.tmp 10), type := 54, pos := "ref.go:68", after := #[], guard := none }) (v := ?_) rfl (by kernel_rfl) (by kernel_rfl) (by kernel_rfl) (fun _ _ _ h => h) (Or.inl ⟨by rfl, ?_⟩) (by assumption) ?_
    rotate_left
    · intro wS hSw
      (refine exec_loadM (x := .tmp 10) (cs := [.int .i64 (Kp : Int), .int .i64 (Nn : Int), .int .u32 (gen : Int), .string mk, .slice ot (n + 1) ct]) ?_ ?_ (range5 (hSw.blk HB16.out HNE16.out)) Tryd.underlying54 rfl info_pgR <;> rfl)
    (try simp only [Act.put, List.setIfInBounds_toArray, List.set_cons_zero, List.set_cons_succ])
    refine wpAnyH_take (i := 1) (oi := { dst := some 54, op := Go.Op.fieldAddr 54 (Go.Operand.tmp 10) 2, type := 0, pos := "ref.go:68", after := #[], guard := none }) (v := ?_) rfl (by kernel_rfl) (by kernel_rfl) (by kernel_rfl) (fun _ _ _ h => h) (Or.inl ⟨by rfl, ?_⟩) (by assumption) ?_
    rotate_left
    · intro wS hSw
      (try dsimp only at hSw)
      go_simp
      (try with_reducible rfl)
    (try simp only [Act.put, List.setIfInBounds_toArray, List.set_cons_zero, List.set_cons_succ])
    refine wpAnyH_take (i := 2) (oi := { dst := some 55, op := Go.Op.load 52 (Go.Operand.tmp 54), type := 52, pos := "ref.go:68", after := #[{ on := 1, ground := Go.Ground.data }], guard := none }) (v := ?_) rfl (by kernel_rfl) (by kernel_rfl) (by kernel_rfl) (fun _ _ _ h => h) (Or.inl ⟨by rfl, ?_⟩) (by assumption) ?_
    rotate_left
    · intro wS hSw
      (have q4 := pg_sl (hSw.blk HB16.out HNE16.out); go_simp; (try with_reducible rfl))
    (try simp only [Act.put, List.setIfInBounds_toArray, List.set_cons_zero, List.set_cons_succ])
    refine wpAnyH_take (i := 3) (oi := { dst := some 56, op := Go.Op.call { callee := Go.Callee.builtin Go.Builtin.len, args := #[Go.Operand.tmp 55], argTypes := #[52] }, type := 3, pos := "ref.go:68", after := #[{ on := 2, ground := Go.Ground.data }], guard := none }) (v := ?_) rfl (by kernel_rfl) (by kernel_rfl) (by kernel_rfl) (fun _ _ _ h => h) (Or.inl ⟨by rfl, ?_⟩) (by assumption) ?_
    rotate_left
    · intro wS hSw
      (try dsimp only at hSw)
      go_simp
      (try with_reducible rfl)
    (try simp only [Act.put, List.setIfInBounds_toArray, List.set_cons_zero, List.set_cons_succ])
    refine wpAnyH_take (i := 4) (oi := { dst := some 57, op := Go.Op.fieldAddr 54 (Go.Operand.tmp 3) 0, type := 0, pos := "ref.go:68", after := #[{ on := 8, ground := Go.Ground.gcOnly Go.Departure.lateStores }], guard := none }) (v := ?_) rfl (by kernel_rfl) (by kernel_rfl) (by kernel_rfl) (fun _ _ _ h => h) (Or.inl ⟨by rfl, ?_⟩) (by assumption) ?_
    rotate_left
    · intro wS hSw
      (try dsimp only at hSw)
      go_simp
      (try with_reducible rfl)
    (try simp only [Act.put, List.setIfInBounds_toArray, List.set_cons_zero, List.set_cons_succ])
    refine wpAnyH_take (i := 5) (oi := { dst := some 58, op := Go.Op.fieldAddr 51 (Go.Operand.tmp 57) 0, type := 0, pos := "ref.go:68", after := #[{ on := 4, ground := Go.Ground.data }, { on := 8, ground := Go.Ground.gcOnly Go.Departure.lateStores }], guard := none }) (v := ?_) rfl (by kernel_rfl) (by kernel_rfl) (by kernel_rfl) (fun _ _ _ h => h) (Or.inl ⟨by rfl, ?_⟩) (by assumption) ?_
    rotate_left
    · intro wS hSw
      (try dsimp only at hSw)
      go_simp
      (try with_reducible rfl)
    (try simp only [Act.put, List.setIfInBounds_toArray, List.set_cons_zero, List.set_cons_succ])
    refine wpAnyH_take (i := 6) (oi := { dst := some 59, op := Go.Op.load 3 (Go.Operand.tmp 58), type := 3, pos := "ref.go:68", after := #[{ on := 5, ground := Go.Ground.data }, { on := 8, ground := Go.Ground.gcOnly Go.Departure.lateStores }], guard := none }) (v := ?_) rfl (by kernel_rfl) (by kernel_rfl) (by kernel_rfl) (fun _ _ _ h => h) (Or.inl ⟨by rfl, ?_⟩) (by assumption) ?_
    rotate_left
    · intro wS hSw
      (have qk := pg_k (hSw.blk HP16.out HZN.out); go_simp; (try with_reducible rfl))
    (try simp only [Act.put, List.setIfInBounds_toArray, List.set_cons_zero, List.set_cons_succ])
    refine wpAnyH_take (i := 7) (oi := { dst := some 60, op := Go.Op.binOp Go.BinOp.eql 3 (Go.Operand.tmp 56) (Go.Operand.tmp 59) 3, type := 4, pos := "ref.go:68", after := #[{ on := 3, ground := Go.Ground.data }, { on := 6, ground := Go.Ground.data }, { on := 8, ground := Go.Ground.gcOnly Go.Departure.lateStores }], guard := none }) (v := ?_) rfl (by kernel_rfl) (by kernel_rfl) (by kernel_rfl) (fun _ _ _ h => h) (Or.inl ⟨by rfl, ?_⟩) (by assumption) ?_
    rotate_left
    · intro wS hSw
      (try dsimp only at hSw)
      go_simp
      (try with_reducible rfl)
    (try simp only [Act.put, List.setIfInBounds_toArray, List.set_cons_zero, List.set_cons_succ])
    refine wpAnyH_ready (rs := [8]) (by kernel_rfl) (by simp) ?_
    refine AllReadyH.cons (o := { dst := none, op := Go.Op.store 54 (Go.Operand.tmp 6) (Go.Operand.tmp 53), type := 0, pos := "ref.go:68", after := #[{ on := 0, ground := Go.Ground.data }, { on := 0, ground := Go.Ground.phase }, { on := 1, ground := Go.Ground.textOnly Go.Departure.lateStores }, { on := 2, ground := Go.Ground.textOnly Go.Departure.lateStores }, { on := 3, ground := Go.Ground.textOnly Go.Departure.lateStoresUnsure }, { on := 4, ground := Go.Ground.textOnly Go.Departure.lateStores }, { on := 5, ground := Go.Ground.textOnly Go.Departure.lateStores }, { on := 6, ground := Go.Ground.textOnly Go.Departure.lateStores }, { on := 7, ground := Go.Ground.textOnly Go.Departure.lateStores }], guard := none }) rfl (fun K hK => ?_) AllReadyH.nil
    (refine step_storeM rfl 54 (.tmp 6) (.tmp 53) rfl b6 0 #[.int .i64 (Kp : Int), .int .i64 (Nn : Int), .int .u32 (gen : Int), .string mk, .slice ot (n + 1) ct] rfl rfl HTH.out info_pgR (one_pg _ _ _ _ _ _ _) ?_; skip)
    refine hK.out _ _ ?_ (fun hHeld => ?_)
    · (try dsimp only)
      (first | exact Own.refl _ _ | exact Own.setCells _ _ _ | assumption)
    clear hK K
    (try simp only [Act.put, List.setIfInBounds_toArray, List.set_cons_zero, List.set_cons_succ])
    refine wpAnyH_take (i := 9) (oi := { dst := some 7, op := Go.Op.assign (Go.Operand.tmp 60), type := 4, pos := "ref.go:68", after := #[{ on := 7, ground := Go.Ground.data }, { on := 8, ground := Go.Ground.chain }, { on := 0, ground := Go.Ground.phase }, { on := 1, ground := Go.Ground.phase }, { on := 2, ground := Go.Ground.phase }, { on := 3, ground := Go.Ground.phase }, { on := 4, ground := Go.Ground.phase }, { on := 5, ground := Go.Ground.phase }, { on := 6, ground := Go.Ground.phase }, { on := 7, ground := Go.Ground.phase }, { on := 8, ground := Go.Ground.phase }], guard := none }) (v := ?_) rfl (by kernel_rfl) (by kernel_rfl) (by kernel_rfl) (fun _ _ _ h => h) (Or.inl ⟨by rfl, ?_⟩) (by assumption) ?_
    rotate_left
    · intro wS hSw
      (try dsimp only at hSw)
      go_simp
      (try with_reducible rfl)
    (try simp only [Act.put, List.setIfInBounds_toArray, List.set_cons_zero, List.set_cons_succ])
    refine wpAnyH_take (i := 10) (oi := { dst := some 8, op := Go.Op.assign (Go.Operand.const (Go.Value.int Go.IntKind.i64 0)), type := 3, pos := "ref.go:68", after := #[{ on := 9, ground := Go.Ground.chain }, { on := 0, ground := Go.Ground.phase }, { on := 1, ground := Go.Ground.phase }, { on := 2, ground := Go.Ground.phase }, { on := 3, ground := Go.Ground.phase }, { on := 4, ground := Go.Ground.phase }, { on := 5, ground := Go.Ground.phase }, { on := 6, ground := Go.Ground.phase }, { on := 7, ground := Go.Ground.phase }, { on := 8, ground := Go.Ground.phase }, { on := 9, ground := Go.Ground.phase }], guard := none }) (v := ?_) rfl (by kernel_rfl) (by kernel_rfl) (by kernel_rfl) (fun _ _ _ h => h) (Or.inl ⟨by rfl, ?_⟩) (by assumption) ?_
    rotate_left
    · intro wS hSw
      (try dsimp only at hSw)
      go_simp
      (try with_reducible rfl)
    (try simp only [Act.put, List.setIfInBounds_toArray, List.set_cons_zero, List.set_cons_succ])
    refine wpAnyH_done (by kernel_rfl) ?_ _
    go_wp2_with fail
    refine bodyPost_ret (v := .tuple #[.agg #[.int .i64 (Kp : Int), .int .i64 (Nn : Int), .int .u32 (gen : Int), .string mk, .slice ot (n + 1) ct], .bool false, .int .i64 0]) ?_ rfl ⟨HX.out.2, .inr ⟨rfl, ot, ct, by rw [HDE.out], HQ.out⟩⟩
    exact results_cell_tmp3 Tryd.results15 _ _ b6 54 #[.int .i64 (Kp : Int), .int .i64 (Nn : Int), .int .u32 (gen : Int), .string mk, .slice ot (n + 1) ct] (0, 0) _ rfl HX.out.1 Tryd.underlying54 rfl info_pgR
end Go.Proofs.YtgiffaeckhhmpaaDoor
