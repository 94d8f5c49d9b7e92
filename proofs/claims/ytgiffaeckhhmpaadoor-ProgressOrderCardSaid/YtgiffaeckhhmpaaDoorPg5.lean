/- progress.Submit. -/
import Derived.Test.YtgiffaeckhhmpaaDoorPg4
import Derived.Test.YtgiffaeckhhmpaaDoorApA
import Derived.Test.YtgiffaeckhhmpaaDoorGz
import Derived.Deep.RegionHeld3
import Derived.Deep.DeepCutAuto
namespace Go.Proofs.YtgiffaeckhhmpaaDoor
set_option linter.unusedVariables false
set_option linter.unusedSimpArgs false
open Go.RowKit
theorem Own.bel {b : Nat} {w w1 w2 : World} (h : Own b w w1) (hb : Below w.heap.size w1 w2) : Own b w w2 := ⟨hb.os.trans h.os, hb.tape.trans h.tape, hb.output.trans h.output, Nat.le_trans h.size hb.size, fun k hk hn => (hb.block k hk).trans (h.block k hk hn)⟩
theorem wpStill_value {ops : Array Oper} {rest : List Oper} {o : Oper} {a : Act} {w : World} {Q : Act → Prop} {v : Value} (hgd : o.guard = none) (he : (execOp a.eval o).run Tryd.prog w = .ok (.value v) w)
    (hk : wpStill Tryd.prog ops w Q rest (a.put o.dst v)) : wpStill Tryd.prog ops w Q (o :: rest) a := by
  refine wpStill_step fun K hK => ?_
  have hw : Region.wanted o (yielded ops a.tmps) = true := by simp [Region.wanted, hgd]
  rw [if_pos hw]
  unfold Oper.still
  rw [he, Oper.stillUpon_value]
  exact hK _ hk
theorem str_ne {S1 S2 : ByteArray} (h : S1 ≠ S2) : ¬ S1.toList = S2.toList := fun e => h (by
  rw [ByteArray.toList_eq, ByteArray.toList_eq] at e
  cases S1; cases S2
  exact congrArg ByteArray.mk (Array.toList_inj.1 e))
theorem exec_neS {o : Oper} {a : Act} {w : World} {x y : Operand} {r : TypeId} {X Y : ByteArray} (ho : o.op = .binOp .neq 9 x y r) (hx : a.eval x = .string X) (hy : a.eval y = .string Y) (h : X ≠ Y) : (execOp a.eval o).run Tryd.prog w = .ok (.value (.bool true)) w := by
  have h1 : (X.toList == Y.toList) = false := by simpa using str_ne h
  have h2 : (binOp .neq 9 (.string X) (.string Y)).run Tryd.prog w = .ok (.bool true) w := by rw [binOp_string_neq, h1]; rfl
  unfold execOp
  simp only [ho, hx, hy]
  simp only [eqGuard, Sem.run_bind, Sem.run_pure, Result.andThen_ok, Bool.not_true, Bool.false_eq_true, if_false]
  rw [h2]
  rfl
/-- The error's number of Submit. -/
def subK (K N : Int) (gen : Nat) (S : Nat → Sh) (n : Nat) (mk mark : ByteArray) (s : Sh) (k : Nat) : Prop :=
  (k = 1 ∧ ¬ MayG K N gen S n mk.size) ∨ (k = 15 ∧ MayG K N gen S n mk.size ∧ (mark ≠ mk ∨ (n : Int) = K)) ∨ (k = wrongN N.toNat gen S n s ∧ MayG K N gen S n mk.size ∧ mark = mk ∧ (n : Int) ≠ K)
/-- What Submit answers. -/
def SubR (tb : Nat) (K N : Int) (gen : Nat) (mk : ByteArray) (S : Nat → Sh) (n : Nat) (s : Sh) (k : Nat) (w : World) (e : Ending) (w' : World) : Prop := Below w.heap.size w w' ∧
  ((k ≠ 0 ∧ e = .returned (.tuple #[.agg #[.int .i64 0, .int .i64 0, .int .u32 0, .string ⟨#[]⟩, .slice none 0 0], .bool false, .iface 83 (.int .i64 (k : Int))])) ∨
  (k = 0 ∧ ∃ o c, e = .returned (.tuple #[.agg #[.int .i64 K, .int .i64 N, .int .u32 (gen : Int), .string mk, .slice o (n + 1) c], .bool (decide ((n : Int) + 1 = K)), .nilIface]) ∧ n + 1 ≤ c ∧ c ≤ maxLen ∧ (∀ a, o = some a → w.heap.size ≤ a.block) ∧ Shs tb w' o (n + 1) (catSh n S (fun _ => s))))
set_option maxRecDepth 100000 in
set_option maxHeartbeats 8000000 in
theorem submit_any (tb : Nat) (K N : Int) (gen n cs ix gn ln cp k : Nat) (mk mark : ByteArray) (oa od : Option Addr) (S : Nat → Sh) (f : Nat → Nat) (w : World) (htb : tb < w.heap.size) (hS : Shs tb w oa n S) (hix : ∀ i, i < n → (S i).ix < 256) (hn : n < 100000) (hnc : n ≤ cs) (hcm : cs ≤ maxLen) (hmk : mk.size < 100000000)
    (hs : IsSh tb w [.int .u8 (ix : Int), .int .u32 (gn : Int), .slice od ln cp] ⟨ix, gn, ln, f⟩) (hix2 : ix < 256) (hln : ln < 100000000) (hk : subK K N gen S n mk mark ⟨ix, gn, ln, f⟩ k) :
    Calls Tryd.prog 9 #[.agg #[.int .i64 K, .int .i64 N, .int .u32 (gen : Int), .string mk, .slice oa n cs], .string mark, .agg #[.int .u8 (ix : Int), .int .u32 (gn : Int), .slice od ln cp]] w (SubR tb K N gen mk S n ⟨ix, gn, ln, f⟩ k w) := by
  obtain ⟨b5, hb5⟩ : ∃ y, w.heap.size + 1 = y := ⟨_, rfl⟩
  obtain ⟨b6, hb6⟩ : ∃ y, b5 + 1 = y := ⟨_, rfl⟩
  obtain ⟨w1, hw1⟩ : ∃ y, ((w.alloc (.cells #[.int .i64 K, .int .i64 N, .int .u32 (gen : Int), .string mk, .slice oa n cs] 36)).alloc (.cells #[.int .u8 (ix : Int), .int .u32 (gn : Int), .slice od ln cp] 42)).alloc (.cells #[.int .i64 0, .int .i64 0, .int .u32 0, .string ⟨#[]⟩, .slice none 0 0] 36) = y := ⟨_, rfl⟩
  have hbl : Below w.heap.size w w1 := by rw [← hw1]; exact (((Below.refl _ _).alloc (Nat.le_refl _) _).alloc (by simp) _).alloc (by simp; omega) _
  have hP : Blk w1 w.heap.size #[.int .i64 K, .int .i64 N, .int .u32 (gen : Int), .string mk, .slice oa n cs] 36 := by rw [← hw1]; exact ((Blk.new _ _ _).alloc _).alloc _
  have hSB : Blk w1 b5 #[.int .u8 (ix : Int), .int .u32 (gn : Int), .slice od ln cp] 42 := by rw [← hw1, ← hb5]; have h9 := (Blk.new (w.alloc (.cells #[.int .i64 K, .int .i64 N, .int .u32 (gen : Int), .string mk, .slice oa n cs] 36)) #[.int .u8 (ix : Int), .int .u32 (gn : Int), .slice od ln cp] 42).alloc (.cells #[.int .i64 0, .int .i64 0, .int .u32 0, .string ⟨#[]⟩, .slice none 0 0] 36); simpa using h9
  have hZ : Blk w1 b6 #[.int .i64 0, .int .i64 0, .int .u32 0, .string ⟨#[]⟩, .slice none 0 0] 36 := by rw [← hw1, ← hb6, ← hb5]; have h9 := Blk.new ((w.alloc (.cells #[.int .i64 K, .int .i64 N, .int .u32 (gen : Int), .string mk, .slice oa n cs] 36)).alloc (.cells #[.int .u8 (ix : Int), .int .u32 (gn : Int), .slice od ln cp] 42)) #[.int .i64 0, .int .i64 0, .int .u32 0, .string ⟨#[]⟩, .slice none 0 0] 36; simpa using h9
  have HLT := Lib.hid (show w.heap.size ≤ b6 by omega)
  have HB60 := Lib.hid (Blk.lt hZ)
  have HCK := Lib.hid (check_pg tb K N gen n cs mk oa S w1 (hS.later hbl) hix (by omega) hnc hmk)
  have HRX := Lib.hid (range5 hP)
  have HP1 := Lib.hid hP
  have HS1 := Lib.hid hSB
  have HZ1 := Lib.hid hZ
  have HBL := Lib.hid hbl
  have HSS := Lib.hid hS
  have HSI := Lib.hid hs
  have HNN := Lib.hid (show n < 100000 ∧ n ≤ cs ∧ cs ≤ maxLen ∧ tb < w.heap.size ∧ ix < 256 ∧ ln < 100000000 from ⟨hn, hnc, hcm, htb, hix2, hln⟩)
  have HIX := Lib.hid hix
  have HK := Lib.hid hk
  clear hbl hP hSB hZ hS hs hn hnc hcm htb hix hix2 hmk hk hln
  go_enter Tryd.func9, Tryd.ntmps9
  go_wp2_with (first | (refine wpList_zero rfl rfl zpg_run ?_) | (refine wpList_value rfl (exec_loadM (x := .tmp 3) (cs := [.int .i64 K, .int .i64 N, .int .u32 (gen : Int), .string mk, .slice oa n cs]) rfl rfl HRX.out Tryd.underlying36 rfl info_pg) ?_))
  refine HCK.out.mono ?_
  rintro e w2 ⟨(⟨rfl, hmg⟩ | ⟨rfl, hmg⟩), hb2⟩
  rotate_left
  · have HKE : Hid (k = 1) := Lib.hid (by
      rcases HK.out with ⟨h, _⟩ | ⟨_, h, _⟩ | ⟨_, h, _⟩
      · exact h
      · exact absurd h hmg
      · exact absurd h hmg)
    have HZ2 := Lib.hid (Blk.below HZ1.out hb2 (Blk.lt HZ1.out))
    have HB2 := Lib.hid (HBL.out.trans (hb2.mono HBL.out.size))
    clear hmg hb2
    obtain rfl := HKE.out
    have HTH : Hid (w2.there b6 0 5) := Lib.hid (HZ2.out.there (by decide))
    have HX : Hid (Blk (w2.setCells b6 0 [.int .i64 0, .int .i64 0, .int .u32 0, .string ⟨#[]⟩, .slice none 0 0]) b6 #[.int .i64 0, .int .i64 0, .int .u32 0, .string ⟨#[]⟩, .slice none 0 0] 36 ∧ Below w.heap.size w (w2.setCells b6 0 [.int .i64 0, .int .i64 0, .int .u32 0, .string ⟨#[]⟩, .slice none 0 0])) := Lib.hid ⟨HZ2.out.whole5 rfl _ _ _ _ _, HB2.out.trans ((Own.setCells (b := b6) _ 0 w2).below HLT.out HB2.out.size)⟩
    go_wp2_with (first
      | (refine wpList_value rfl (exec_buildM (parts := #[]) (ps := #[]) (C := #[.int .i64 0, .int .i64 0, .int .u32 0, .string ⟨#[]⟩, .slice none 0 0]) rfl rfl build_zpg) ?_)
      | (refine wpList_store_mid rfl 36 (.tmp 6) (.tmp 18) rfl b6 0 #[.int .i64 0, .int .i64 0, .int .u32 0, .string ⟨#[]⟩, .slice none 0 0] rfl rfl HTH.out info_pg (one_pg _ _ _ _ _ _ _) ?_))
    refine bodyPost_ret (v := .tuple #[.agg #[.int .i64 0, .int .i64 0, .int .u32 0, .string ⟨#[]⟩, .slice none 0 0], .bool false, .iface 83 (.int .i64 1)]) ?_ rfl ⟨HX.out.2, .inl ⟨(by decide), rfl⟩⟩
    exact results_cell_tmp3 Tryd.results9 _ _ b6 36 #[.int .i64 0, .int .i64 0, .int .u32 0, .string ⟨#[]⟩, .slice none 0 0] (0, 0) _ rfl HX.out.1 Tryd.underlying36 rfl info_pg
  have HMG := Lib.hid hmg
  obtain ⟨Kp, rfl⟩ : ∃ k : Nat, K = (k : Int) := ⟨K.toNat, by have := hmg.1.1; omega⟩
  obtain ⟨Nn, rfl⟩ : ∃ k : Nat, N = (k : Int) := ⟨N.toNat, by have := hmg.1.1; have := hmg.1.2; omega⟩
  have HKN : Hid (2 ≤ Kp ∧ Kp ≤ Nn ∧ Nn ≤ 255 ∧ n ≤ Kp) := Lib.hid (by obtain ⟨⟨h1, h2, h3⟩, h4, h5, h6⟩ := hmg; omega)
  have HZ2 := Lib.hid (Blk.below HZ1.out hb2 (Blk.lt HZ1.out))
  have HP2 := Lib.hid (Blk.below HP1.out hb2 (Blk.lt HP1.out))
  have HS2 := Lib.hid (Blk.below HS1.out hb2 (Blk.lt HS1.out))
  have HB2 := Lib.hid (HBL.out.trans (hb2.mono HBL.out.size))
  have HN9 := Lib.hid (show n ≤ 255 by have := HKN.out; omega)
  have c0 := pg_k HP2.out
  have c3 := pg_mk HP2.out
  have c4 := pg_sl HP2.out
  clear hmg hb2 HZ1 HP1 HS1 HRX HCK
  by_cases hma : mark = mk
  rotate_left
  · have HKE : Hid (k = 15) := Lib.hid (by
      rcases HK.out with ⟨_, h⟩ | ⟨h, _⟩ | ⟨_, _, h, _⟩
      · exact absurd HMG.out h
      · exact h
      · exact absurd h hma)
    have hm2 : ¬ mark.toList = mk.toList := str_ne hma
    have hm1 : (mark.toList == mk.toList) = false := by simpa using hm2
    have HMA := Lib.hid hma
    clear hma
    obtain rfl := HKE.out
    have HTH : Hid (w2.there b6 0 5) := Lib.hid (HZ2.out.there (by decide))
    have HX : Hid (Blk (w2.setCells b6 0 [.int .i64 0, .int .i64 0, .int .u32 0, .string ⟨#[]⟩, .slice none 0 0]) b6 #[.int .i64 0, .int .i64 0, .int .u32 0, .string ⟨#[]⟩, .slice none 0 0] 36 ∧ Below w.heap.size w (w2.setCells b6 0 [.int .i64 0, .int .i64 0, .int .u32 0, .string ⟨#[]⟩, .slice none 0 0])) := Lib.hid ⟨HZ2.out.whole5 rfl _ _ _ _ _, HB2.out.trans ((Own.setCells (b := b6) _ 0 w2).below HLT.out HB2.out.size)⟩
    go_upto_region 5 with fail
    go_wp2_with (first
      | (refine wpList_value rfl (exec_buildM (parts := #[]) (ps := #[]) (C := #[.int .i64 0, .int .i64 0, .int .u32 0, .string ⟨#[]⟩, .slice none 0 0]) rfl rfl build_zpg) ?_)
      | (refine wpList_store_mid rfl 36 (.tmp 6) (.tmp 33) rfl b6 0 #[.int .i64 0, .int .i64 0, .int .u32 0, .string ⟨#[]⟩, .slice none 0 0] rfl rfl HTH.out info_pg (one_pg _ _ _ _ _ _ _) ?_))
    refine bodyPost_ret (v := .tuple #[.agg #[.int .i64 0, .int .i64 0, .int .u32 0, .string ⟨#[]⟩, .slice none 0 0], .bool false, .iface 83 (.int .i64 15)]) ?_ rfl ⟨HX.out.2, .inl ⟨by decide, rfl⟩⟩
    exact results_cell_tmp3 Tryd.results9 _ _ b6 36 #[.int .i64 0, .int .i64 0, .int .u32 0, .string ⟨#[]⟩, .slice none 0 0] (0, 0) _ rfl HX.out.1 Tryd.underlying36 rfl info_pg
  replace hma := hma.symm
  subst hma
  by_cases hnk : n = Kp
  · have HKE : Hid (k = 15) := Lib.hid (by
      rcases HK.out with ⟨_, h⟩ | ⟨h, _⟩ | ⟨_, _, _, h⟩
      · exact absurd HMG.out h
      · exact h
      · exact absurd (by omega) h)
    have e1 : (n : Int) = (Kp : Int) := by omega
    have e2 : decide ((n : Int) = (Kp : Int)) = true := decide_eq_true e1
    have e3 : ((n : Int) == (Kp : Int)) = true := by simp only [beq_iff_eq]; exact e1
    have e4 : decide (n = Kp) = true := decide_eq_true (by omega)
    have e5 : (n == Kp) = true := by simp only [beq_iff_eq]; omega
    clear hnk
    obtain rfl := HKE.out
    go_upto_region 5 with fail
    have HTH : Hid (w2.there b6 0 5) := Lib.hid (HZ2.out.there (by decide))
    have HX : Hid (Blk (w2.setCells b6 0 [.int .i64 0, .int .i64 0, .int .u32 0, .string ⟨#[]⟩, .slice none 0 0]) b6 #[.int .i64 0, .int .i64 0, .int .u32 0, .string ⟨#[]⟩, .slice none 0 0] 36 ∧ Below w.heap.size w (w2.setCells b6 0 [.int .i64 0, .int .i64 0, .int .u32 0, .string ⟨#[]⟩, .slice none 0 0])) := Lib.hid ⟨HZ2.out.whole5 rfl _ _ _ _ _, HB2.out.trans ((Own.setCells (b := b6) _ 0 w2).below HLT.out HB2.out.size)⟩
    go_wp2_with (first
      | (refine wpList_value rfl (exec_buildM (parts := #[]) (ps := #[]) (C := #[.int .i64 0, .int .i64 0, .int .u32 0, .string ⟨#[]⟩, .slice none 0 0]) rfl rfl build_zpg) ?_)
      | (refine wpList_store_mid rfl 36 (.tmp 6) (.tmp 33) rfl b6 0 #[.int .i64 0, .int .i64 0, .int .u32 0, .string ⟨#[]⟩, .slice none 0 0] rfl rfl HTH.out info_pg (one_pg _ _ _ _ _ _ _) ?_))
    refine bodyPost_ret (v := .tuple #[.agg #[.int .i64 0, .int .i64 0, .int .u32 0, .string ⟨#[]⟩, .slice none 0 0], .bool false, .iface 83 (.int .i64 15)]) ?_ rfl ⟨HX.out.2, .inl ⟨(by decide), rfl⟩⟩
    exact results_cell_tmp3 Tryd.results9 _ _ b6 36 #[.int .i64 0, .int .i64 0, .int .u32 0, .string ⟨#[]⟩, .slice none 0 0] (0, 0) _ rfl HX.out.1 Tryd.underlying36 rfl info_pg
  have HKE : Hid (k = wrongN Nn gen S n ⟨ix, gn, ln, f⟩) := Lib.hid (by
    rcases HK.out with ⟨_, h⟩ | ⟨_, _, h⟩ | ⟨h, _⟩
    · exact absurd HMG.out h
    · rcases h with h | h
      · exact absurd rfl h
      · omega
    · rw [Int.toNat_natCast] at h; exact h)
  have e1 : ¬ (n : Int) = (Kp : Int) := by omega
  have e2 : decide ((n : Int) = (Kp : Int)) = false := decide_eq_false e1
  have e3 : ((n : Int) == (Kp : Int)) = false := by simp only [beq_eq_false_iff_ne]; exact e1
  have e4 : decide (n = Kp) = false := decide_eq_false (by omega)
  have e5 : (n == Kp) = false := by simp only [beq_eq_false_iff_ne]; omega
  have e6 : ¬ n = Kp := by omega
  have HNK := Lib.hid hnk
  have HFI := Lib.hid (fits_any tb (Kp : Int) Nn gen n cs ix gn ln cp oa od S f w2 (HSS.out.later HB2.out) (by have := HNN.out; omega) HNN.out.2.2.2.2.1)
  rw [← HKE.out] at HFI
  have HRP := Lib.hid (pg_plan HP2.out)
  have HRS := Lib.hid (Blk.range0 (C := [.int .u8 (ix : Int), .int .u32 (gn : Int), .slice od ln cp]) HS2.out)
  clear hnk
  go_wp2_with (first
    | (refine wpList_value rfl (exec_loadM (x := .tmp 35) (cs := [.int .i64 (Kp : Int), .int .i64 (Nn : Int), .int .u32 (gen : Int)]) rfl rfl HRP.out Tryd.underlying26 rfl info_plan3) ?_)
    | (refine wpList_value rfl (exec_loadM (x := .tmp 5) (cs := [.int .u8 (ix : Int), .int .u32 (gn : Int), .slice od ln cp]) rfl rfl HRS.out Tryd.underlying42 rfl info_share3) ?_))
  refine HFI.out.mono ?_
  rintro e w3 ⟨rfl, hb3⟩
  have HZ3 := Lib.hid (Blk.below HZ2.out hb3 (Blk.lt HZ2.out))
  have HP3 := Lib.hid (Blk.below HP2.out hb3 (Blk.lt HP2.out))
  have HS3 := Lib.hid (Blk.below HS2.out hb3 (Blk.lt HS2.out))
  have HB3 := Lib.hid (HB2.out.trans (hb3.mono HB2.out.size))
  have HB63 := Lib.hid (Blk.lt HZ3.out)
  clear hb3 c0 c3 c4 HZ2 HP2 HS2 HB2 HRP HRS HFI e1 e2 e3 e4 e5 e6
  by_cases hk0 : k = 0
  rotate_left
  · rw [EV_some hk0]
    have HK0 := Lib.hid hk0
    clear hk0
    have HTH : Hid (w3.there b6 0 5) := Lib.hid (HZ3.out.there (by decide))
    have HX : Hid (Blk (w3.setCells b6 0 [.int .i64 0, .int .i64 0, .int .u32 0, .string ⟨#[]⟩, .slice none 0 0]) b6 #[.int .i64 0, .int .i64 0, .int .u32 0, .string ⟨#[]⟩, .slice none 0 0] 36 ∧ Below w.heap.size w (w3.setCells b6 0 [.int .i64 0, .int .i64 0, .int .u32 0, .string ⟨#[]⟩, .slice none 0 0])) := Lib.hid ⟨HZ3.out.whole5 rfl _ _ _ _ _, HB3.out.trans ((Own.setCells (b := b6) _ 0 w3).below HLT.out HB3.out.size)⟩
    go_wp2_with (first
      | (refine wpList_value rfl (exec_buildM (parts := #[]) (ps := #[]) (C := #[.int .i64 0, .int .i64 0, .int .u32 0, .string ⟨#[]⟩, .slice none 0 0]) rfl rfl build_zpg) ?_)
      | (refine wpList_store_mid rfl 36 (.tmp 6) (.tmp 43) rfl b6 0 #[.int .i64 0, .int .i64 0, .int .u32 0, .string ⟨#[]⟩, .slice none 0 0] rfl rfl HTH.out info_pg (one_pg _ _ _ _ _ _ _) ?_))
    refine bodyPost_ret (v := .tuple #[.agg #[.int .i64 0, .int .i64 0, .int .u32 0, .string ⟨#[]⟩, .slice none 0 0], .bool false, .iface 83 (.int .i64 (k : Int))]) ?_ rfl ⟨HX.out.2, .inl ⟨HK0.out, rfl⟩⟩
    exact results_cell_tmp3 Tryd.results9 _ _ b6 36 #[.int .i64 0, .int .i64 0, .int .u32 0, .string ⟨#[]⟩, .slice none 0 0] (0, 0) _ rfl HX.out.1 Tryd.underlying36 rfl info_pg
  subst hk0
  rw [EV_zero]
  have HRX := Lib.hid (range5 HP3.out)
  go_wp2_with (first | (refine wpList_value rfl (exec_loadM (x := .tmp 3) (cs := [.int .i64 (Kp : Int), .int .i64 (Nn : Int), .int .u32 (gen : Int), .string mk, .slice oa n cs]) rfl rfl HRX.out Tryd.underlying36 rfl info_pg) ?_))
  refine (reset_any (Kp : Int) (Nn : Int) gen n cs mk oa w3).mono ?_
  rintro e w4 ⟨rfl, hb4⟩
  obtain ⟨b11, hb11⟩ : ∃ y, w4.heap.size = y := ⟨_, rfl⟩
  obtain ⟨wz, hwz⟩ : ∃ y, w4.alloc (.cells #[.int .i64 0, .int .i64 0, .int .u32 0, .string ⟨#[]⟩, .slice none 0 0] 36) = y := ⟨_, rfl⟩
  have hbz : Below w4.heap.size w4 wz := by rw [← hwz]; exact (Below.refl _ _).alloc (Nat.le_refl _) _
  have hXz : Blk wz b11 #[.int .i64 0, .int .i64 0, .int .u32 0, .string ⟨#[]⟩, .slice none 0 0] 36 := by rw [← hwz, ← hb11]; exact Blk.new _ _ _
  have HTZ : Hid (wz.there b11 0 5) := Lib.hid (hXz.there (by decide))
  obtain ⟨w5, hw5⟩ : ∃ y, wz.setCells b11 0 [.int .i64 (Kp : Int), .int .i64 (Nn : Int), .int .u32 (gen : Int), .string mk, .slice none 0 0] = y := ⟨_, rfl⟩
  have hOz : Own b11 wz w5 := by rw [← hw5]; exact Own.setCells _ _ _
  have hb5' : Below w4.heap.size w4 w5 := hbz.trans (hOz.below (by omega) hbz.size)
  have hb45 := hb4.trans (hb5'.mono hb4.size)
  have HN5 : Hid (Blk w5 b11 #[.int .i64 (Kp : Int), .int .i64 (Nn : Int), .int .u32 (gen : Int), .string mk, .slice none 0 0] 36) := Lib.hid (by rw [← hw5]; exact hXz.whole5 rfl _ _ _ _ _)
  have HB11L := Lib.hid (show w3.heap.size ≤ b11 ∧ b11 < w5.heap.size from ⟨by have := hb4.size; omega, Blk.lt HN5.out⟩)
  have HZ5 := Lib.hid (Blk.below HZ3.out hb45 (Blk.lt HZ3.out))
  have HPR : Hid (Blk w5.drew w.heap.size _ 36) := Lib.hid (Blk.below HP3.out hb45.drew (Blk.lt HP3.out))
  have HSB : Hid (Blk w5.drew b5 _ 42) := Lib.hid (Blk.below HS3.out hb45.drew (Blk.lt HS3.out))
  have HB5 := Lib.hid (HB3.out.trans (hb45.mono HB3.out.size))
  have hBD := HB3.out.trans (hb45.drew.mono HB3.out.size)
  have HW5 := Lib.hid hw5
  clear hb4 hbz hXz hOz hb5' hb45 hw5 HZ3 HP3 HS3
  go_upto_region 10 with (first | (refine wpList_zero rfl rfl zpg_run ?_; rw [hwz, hb11]; (try simp only [Act.put, List.setIfInBounds_toArray, List.set_cons_zero, List.set_cons_succ])) | (refine wpList_store_mid rfl 36 (.tmp 11) (.tmp 46) rfl b11 0 #[.int .i64 (Kp : Int), .int .i64 (Nn : Int), .int .u32 (gen : Int), .string mk, .slice none 0 0] rfl rfl HTZ.out info_pg (one_pg _ _ _ _ _ _ _) ?_; rw [HW5.out]))
  have HB6 : Hid (b6 < w3.heap.size) := Lib.hid HB63.out
  have HSW : Hid (IsP (fun q => q ≠ tb ∧ q ≠ b11) w [.int .u8 (ix : Int), .int .u32 (gn : Int), .slice od ln cp] ⟨ix, gn, ln, f⟩) := Lib.hid (HSI.out.isP fun q hq h1 => ⟨h1, by have := HB11L.out.1; have := HB3.out.size; omega⟩)
  have HSX : Hid (∀ A, Below w5.drew.heap.size w5.drew A → IsP (fun q => q ≠ tb ∧ q ≠ b11) A [.int .u8 (ix : Int), .int .u32 (gn : Int), .slice od ln cp] ⟨ix, gn, ln, f⟩) := Lib.hid fun A hA => HSW.out.later (hBD.trans (hA.mono hBD.size))
  have HCL : Hid (∀ A, Below w5.drew.heap.size w5.drew A → Calls Tryd.prog 25 #[.slice oa n cs] A fun e w' => ∃ v, e = .returned v ∧ GP 42 (fun q => q ≠ tb ∧ q ≠ b11) w' A.heap.size v n S ∧ Below A.heap.size A w') := Lib.hid fun A hA =>
    sclone_any tb n cs oa S _ w A HSS.out (hBD.trans (hA.mono hBD.size)) (fun q hq h1 => ⟨h1, by have := HB11L.out.1; have := HB3.out.size; omega⟩) HNN.out.1
  have HWR : Hid (w.heap.size ≤ w5.drew.heap.size ∧ b11 < w5.drew.heap.size) := Lib.hid ⟨hBD.size, HB11L.out.2⟩
  have HN1 := Lib.hid (show n + 1 < 1000000 by have := HNN.out; omega)
  have HBD := Lib.hid hBD
  clear hBD
  obtain ⟨m, hm⟩ : ∃ m, n + 1 = m := ⟨_, rfl⟩
  have HMM := Lib.hid hm
  clear hm
  (try simp only [Act.put, List.setIfInBounds_toArray, List.set_cons_zero, List.set_cons_succ])
  go_cut [52, 53, 54] from 47 (fun s52 s53 s54 wx => ∃ (ot : Option Addr) (ct : Nat), s52 = .slice ot m ct ∧ s53 = .int .i64 (m : Int) ∧ s54 = .int .i64 0 ∧ m ≤ ct ∧ ct ≤ maxLen ∧ Shs b11 wx ot m (catSh n S (fun _ => ⟨ix, gn, ln, f⟩)) ∧ Below w5.drew.heap.size w5.drew wx)
  case first =>
    have hvWR := Below.refl w5.drew.heap.size w5.drew
    refine wp_region_held_drew (S := (Below w5.drew.heap.size w5.drew)) (by kernel_rfl) ?_ (fun hHeld => ?_)
    · (try dsimp only)
      (first | exact Below.refl _ _ | assumption)
    generalize w5.drew = WR at *
    refine wpAnyH_take (i := 0) (oi := { dst := some 47, op := Go.Op.fieldAddr 36 (Go.Operand.tmp 3) 2, type := 0, pos := "progress.go:69", after := #[], guard := none }) (v := ?_) rfl (by kernel_rfl) (by kernel_rfl) (by kernel_rfl) (fun _ _ _ h => h) (Or.inl ⟨by rfl, ?_⟩) (by assumption) ?_
    rotate_left
    · intro wS hSw
      (try dsimp only at hSw)
      go_simp
      (try with_reducible rfl)
    (try simp only [Act.put, List.setIfInBounds_toArray, List.set_cons_zero, List.set_cons_succ])
    refine wpAnyH_take (i := 1) (oi := { dst := some 48, op := Go.Op.load 29 (Go.Operand.tmp 47), type := 29, pos := "progress.go:69", after := #[{ on := 0, ground := Go.Ground.data }], guard := none }) (v := ?_) rfl (by kernel_rfl) (by kernel_rfl) (by kernel_rfl) (fun _ _ _ h => h) (Or.inl ⟨by rfl, ?_⟩) (by assumption) ?_
    rotate_left
    · intro wS hSw
      (have c4 := pg_sl (Blk.below HPR.out hSw (Blk.lt HPR.out)); go_simp; (try with_reducible rfl))
    (try simp only [Act.put, List.setIfInBounds_toArray, List.set_cons_zero, List.set_cons_succ])
    refine wpAnyH_take (i := 3) (oi := { dst := some 50, op := Go.Op.load 42 (Go.Operand.tmp 5), type := 42, pos := "progress.go:69", after := #[], guard := none }) (v := ?_) rfl (by kernel_rfl) (by kernel_rfl) (by kernel_rfl) (fun _ _ _ h => h) (Or.inl ⟨by rfl, ?_⟩) (by assumption) ?_
    rotate_left
    · intro wS hSw
      (refine exec_loadM (x := .tmp 5) (cs := [.int .u8 (ix : Int), .int .u32 (gn : Int), .slice od ln cp]) ?_ ?_ (Blk.range0 (C := [.int .u8 (ix : Int), .int .u32 (gn : Int), .slice od ln cp]) (Blk.below HSB.out hSw (Blk.lt HSB.out))) Tryd.underlying42 rfl info_share3 <;> rfl)
    (try simp only [Act.put, List.setIfInBounds_toArray, List.set_cons_zero, List.set_cons_succ])
    refine wpAnyH_take (i := 7) (oi := { dst := some 54, op := Go.Op.move (Go.Operand.const (Go.Value.int Go.IntKind.i64 0)), type := 3, pos := "progress.go:69", after := #[], guard := none }) (v := ?_) rfl (by kernel_rfl) (by kernel_rfl) (by kernel_rfl) (fun _ _ _ h => h) (Or.inl ⟨by rfl, ?_⟩) (by assumption) ?_
    rotate_left
    · intro wS hSw
      (try dsimp only at hSw)
      go_simp
      (try with_reducible rfl)
    (try simp only [Act.put, List.setIfInBounds_toArray, List.set_cons_zero, List.set_cons_succ])
    refine wpAnyH_ready (rs := [2, 4]) (by kernel_rfl) (by simp) ?_
    refine AllReadyH.cons (o := { dst := some 49, op := Go.Op.call { callee := Go.Callee.value (Go.Operand.func 25), args := #[Go.Operand.tmp 48], argTypes := #[29] }, type := 29, pos := "progress.go:69", after := #[{ on := 1, ground := Go.Ground.data }], guard := none }) rfl (fun K hK => ?_) ?_
    · skip
      go_simp
      (refine (HCL.out WR hvWR).mono ?_; rintro e VCx2 ⟨vc, rfl, hgc, hbc⟩; have HGC := Lib.hid hgc; have HCZ := Lib.hid (show WR.heap.size ≤ WR.heap.size ∧ WR.heap.size ≤ VCx2.heap.size from ⟨hvWR.size, hbc.size⟩); have hvVCx2 := Below.trans hvWR (hbc.mono hvWR.size); have HBC := Lib.hid hbc; clear hgc hbc; skip)
      (try go_wp2_with fail)
      refine hK.out _ _ ?_ (fun hHeld => ?_)
      · (try dsimp only)
        (first | exact Below.refl _ _ | assumption)
      clear hK K
      (try simp only [Act.put, List.setIfInBounds_toArray, List.set_cons_zero, List.set_cons_succ])
      refine wpAnyH_ready (rs := [4]) (by kernel_rfl) (by simp) ?_
      refine AllReadyH.cons (o := { dst := some 51, op := Go.Op.buildSlice 29 1 #[(0, Go.Operand.tmp 50)], type := 29, pos := "progress.go:69", after := #[{ on := 3, ground := Go.Ground.data }], guard := none }) rfl (fun K hK => ?_) AllReadyH.nil
      go_simp
      (obtain ⟨VBx2, hw⟩ : ∃ z, VCx2.alloc (.cells #[.int .u8 (ix : Int), .int .u32 (gn : Int), .slice od ln cp] 42) = z := ⟨_, rfl⟩; rw [hw]; have hb : Below VCx2.heap.size VCx2 VBx2 := (by rw [← hw]; exact (Below.refl _ _).alloc (Nat.le_refl _) _); have HLB : Hid (Blk VBx2 VCx2.heap.size ([.int .u8 (ix : Int), .int .u32 (gn : Int), .slice od ln cp] : List Value).toArray 42) := Lib.hid (by rw [← hw]; exact Blk.new _ _ _); have hvVBx2 := Below.trans hvVCx2 (hb.mono hvVCx2.size); have HBB := Lib.hid hb; clear hb hw; skip)
      (try go_wp2_with fail)
      refine hK.out _ _ ?_ (fun hHeld => ?_)
      · (try dsimp only)
        (first | exact Below.refl _ _ | assumption)
      clear hK K
      (try simp only [Act.put, List.setIfInBounds_toArray, List.set_cons_zero, List.set_cons_succ])
      refine wpAnyH_ready (rs := [5]) (by kernel_rfl) (by simp) ?_
      refine AllReadyH.cons (o := { dst := some 52, op := Go.Op.call { callee := Go.Callee.builtin Go.Builtin.append, args := #[Go.Operand.tmp 49, Go.Operand.tmp 51], argTypes := #[29, 29] }, type := 29, pos := "progress.go:69", after := #[{ on := 2, ground := Go.Ground.data }, { on := 4, ground := Go.Ground.data }, { on := 2, ground := Go.Ground.chain }], guard := none }) rfl (fun K hK => ?_) AllReadyH.nil
      (refine step_GP und_ss info_share rfl rfl (.tmp 49) (.tmp 51) rfl (fun q => q ≠ tb ∧ q ≠ b11) _ vc n 1 1 S (fun _ => ⟨ix, gn, ln, f⟩) (some ⟨VCx2.heap.size, 0, none⟩) VBx2 rfl (HGC.out.later HBB.out) rfl (ShP.one (HSX.out VBx2 hvVBx2) (HSW.out.away (fun q hq => Nat.le_trans HWR.out.1 (Nat.le_trans HCZ.out.1 (HGC.out.block q hq).1))) HLB.out) (fun e => by cases e) HN1.out (by have h1 := HCZ.out; have h2 := HBB.out.size; omega) ?_; intro v6 w6 hG6 hb6 hg6; obtain ⟨ot, ct, rfl, ht1, ht2, ht3, ht4, hts⟩ := hG6.shs (tb := b11) (fun q hq => hq.2) (.inl (Nat.lt_of_lt_of_le HWR.out.2 HCZ.out.1)); have HT6 := Lib.hid hts; have HTC := Lib.hid (show n + 1 ≤ ct ∧ ct ≤ maxLen from ⟨ht1, ht2⟩); have HV6 := Lib.hid (Below.trans hvVBx2 (hb6.mono HCZ.out.1)); have hvw6 := HV6.out; clear hG6 hb6 hg6 ht1 ht2 ht3 ht4 hts; skip)
      refine hK.out _ _ ?_ (fun hHeld => ?_)
      · (try dsimp only)
        (first | exact Below.refl _ _ | assumption)
      clear hK K
      (try simp only [Act.put, List.setIfInBounds_toArray, List.set_cons_zero, List.set_cons_succ])
      refine wpAnyH_take (i := 6) (oi := { dst := some 53, op := Go.Op.call { callee := Go.Callee.builtin Go.Builtin.len, args := #[Go.Operand.tmp 52], argTypes := #[29] }, type := 3, pos := "progress.go:69", after := #[{ on := 5, ground := Go.Ground.data }], guard := none }) (v := ?_) rfl (by kernel_rfl) (by kernel_rfl) (by kernel_rfl) (fun _ _ _ h => h) (Or.inl ⟨by rfl, ?_⟩) (by assumption) ?_
      rotate_left
      · intro wS hSw
        (try dsimp only at hSw)
        go_simp
        (try with_reducible rfl)
      (try simp only [Act.put, List.setIfInBounds_toArray, List.set_cons_zero, List.set_cons_succ])
      refine wpAnyH_done (by kernel_rfl) ?_ _
      go_wp2_with fail
      go_meet
      have HMN := HMM.out
      subst HMN
      exact ⟨ot, ct, rfl, by first | rfl | go_num, rfl, HTC.out.1, HTC.out.2, HT6.out, HV6.out⟩
    refine AllReadyH.cons (o := { dst := some 51, op := Go.Op.buildSlice 29 1 #[(0, Go.Operand.tmp 50)], type := 29, pos := "progress.go:69", after := #[{ on := 3, ground := Go.Ground.data }], guard := none }) rfl (fun K hK => ?_) AllReadyH.nil
    go_simp
    (obtain ⟨VBx4, hw⟩ : ∃ z, WR.alloc (.cells #[.int .u8 (ix : Int), .int .u32 (gn : Int), .slice od ln cp] 42) = z := ⟨_, rfl⟩; rw [hw]; have hb : Below WR.heap.size WR VBx4 := (by rw [← hw]; exact (Below.refl _ _).alloc (Nat.le_refl _) _); have HLB : Hid (Blk VBx4 WR.heap.size ([.int .u8 (ix : Int), .int .u32 (gn : Int), .slice od ln cp] : List Value).toArray 42) := Lib.hid (by rw [← hw]; exact Blk.new _ _ _); have hvVBx4 := Below.trans hvWR (hb.mono hvWR.size); have HBB := Lib.hid hb; clear hb hw; skip)
    (try go_wp2_with fail)
    refine hK.out _ _ ?_ (fun hHeld => ?_)
    · (try dsimp only)
      (first | exact Below.refl _ _ | assumption)
    clear hK K
    (try simp only [Act.put, List.setIfInBounds_toArray, List.set_cons_zero, List.set_cons_succ])
    refine wpAnyH_ready (rs := [2]) (by kernel_rfl) (by simp) ?_
    refine AllReadyH.cons (o := { dst := some 49, op := Go.Op.call { callee := Go.Callee.value (Go.Operand.func 25), args := #[Go.Operand.tmp 48], argTypes := #[29] }, type := 29, pos := "progress.go:69", after := #[{ on := 1, ground := Go.Ground.data }], guard := none }) rfl (fun K hK => ?_) AllReadyH.nil
    go_simp
    (refine (HCL.out VBx4 hvVBx4).mono ?_; rintro e VCx4 ⟨vc, rfl, hgc, hbc⟩; have HGC := Lib.hid hgc; have HCZ := Lib.hid (show WR.heap.size ≤ VBx4.heap.size ∧ VBx4.heap.size ≤ VCx4.heap.size from ⟨hvVBx4.size, hbc.size⟩); have hvVCx4 := Below.trans hvVBx4 (hbc.mono hvVBx4.size); have HBC := Lib.hid hbc; clear hgc hbc; skip)
    (try go_wp2_with fail)
    refine hK.out _ _ ?_ (fun hHeld => ?_)
    · (try dsimp only)
      (first | exact Below.refl _ _ | assumption)
    clear hK K
    (try simp only [Act.put, List.setIfInBounds_toArray, List.set_cons_zero, List.set_cons_succ])
    refine wpAnyH_ready (rs := [5]) (by kernel_rfl) (by simp) ?_
    refine AllReadyH.cons (o := { dst := some 52, op := Go.Op.call { callee := Go.Callee.builtin Go.Builtin.append, args := #[Go.Operand.tmp 49, Go.Operand.tmp 51], argTypes := #[29, 29] }, type := 29, pos := "progress.go:69", after := #[{ on := 2, ground := Go.Ground.data }, { on := 4, ground := Go.Ground.data }, { on := 2, ground := Go.Ground.chain }], guard := none }) rfl (fun K hK => ?_) AllReadyH.nil
    (refine step_GP und_ss info_share rfl rfl (.tmp 49) (.tmp 51) rfl (fun q => q ≠ tb ∧ q ≠ b11) _ vc n 1 1 S (fun _ => ⟨ix, gn, ln, f⟩) (some ⟨WR.heap.size, 0, none⟩) VCx4 rfl HGC.out rfl (ShP.one (HSX.out VCx4 hvVCx4) (HSW.out.away (fun q hq => Nat.le_trans HWR.out.1 (Nat.le_trans HCZ.out.1 (HGC.out.block q hq).1))) (Blk.below HLB.out HBC.out (Blk.lt HLB.out))) (fun e => by cases e) HN1.out (by have h1 := HCZ.out; have h2 := HBB.out.size; omega) ?_; intro v6 w6 hG6 hb6 hg6; obtain ⟨ot, ct, rfl, ht1, ht2, ht3, ht4, hts⟩ := hG6.shs (tb := b11) (fun q hq => hq.2) (.inl (Nat.lt_of_lt_of_le HWR.out.2 HCZ.out.1)); have HT6 := Lib.hid hts; have HTC := Lib.hid (show n + 1 ≤ ct ∧ ct ≤ maxLen from ⟨ht1, ht2⟩); have HV6 := Lib.hid (Below.trans hvVCx4 (hb6.mono HCZ.out.1)); have hvw6 := HV6.out; clear hG6 hb6 hg6 ht1 ht2 ht3 ht4 hts; skip)
    refine hK.out _ _ ?_ (fun hHeld => ?_)
    · (try dsimp only)
      (first | exact Below.refl _ _ | assumption)
    clear hK K
    (try simp only [Act.put, List.setIfInBounds_toArray, List.set_cons_zero, List.set_cons_succ])
    refine wpAnyH_take (i := 6) (oi := { dst := some 53, op := Go.Op.call { callee := Go.Callee.builtin Go.Builtin.len, args := #[Go.Operand.tmp 52], argTypes := #[29] }, type := 3, pos := "progress.go:69", after := #[{ on := 5, ground := Go.Ground.data }], guard := none }) (v := ?_) rfl (by kernel_rfl) (by kernel_rfl) (by kernel_rfl) (fun _ _ _ h => h) (Or.inl ⟨by rfl, ?_⟩) (by assumption) ?_
    rotate_left
    · intro wS hSw
      (try dsimp only at hSw)
      go_simp
      (try with_reducible rfl)
    (try simp only [Act.put, List.setIfInBounds_toArray, List.set_cons_zero, List.set_cons_succ])
    refine wpAnyH_done (by kernel_rfl) ?_ _
    go_wp2_with fail
    go_meet
    have HMN := HMM.out
    subst HMN
    exact ⟨ot, ct, rfl, by first | rfl | go_num, rfl, HTC.out.1, HTC.out.2, HT6.out, HV6.out⟩
  case rest =>
    obtain ⟨ot, ct, rfl, rfl, rfl, ht1, ht2, ht3, ht4⟩ := hcut
    have HT := Lib.hid ht3
    have HTB := Lib.hid ht4
    have HTC := Lib.hid (show m ≤ ct ∧ ct ≤ maxLen from ⟨ht1, ht2⟩)
    have hbw := HBD.out.trans (ht4.mono HBD.out.size)
    have HBW := Lib.hid hbw
    have HNC : Hid (Blk wc b11 #[.int .i64 (Kp : Int), .int .i64 (Nn : Int), .int .u32 (gen : Int), .string mk, .slice none 0 0] 36) := Lib.hid (Blk.below (Blk.below HN5.out (Below.refl w5.heap.size w5).drew (Blk.lt HN5.out)) ht4 HWR.out.2)
    have HZC : Hid (Blk wc b6 #[.int .i64 0, .int .i64 0, .int .u32 0, .string ⟨#[]⟩, .slice none 0 0] 36) := Lib.hid (Blk.below (Blk.below HZ5.out (Below.refl w5.heap.size w5).drew (Blk.lt HZ5.out)) ht4 (Blk.lt HZ5.out))
    have HPC : Hid (Blk wc w.heap.size #[.int .i64 (Kp : Int), .int .i64 (Nn : Int), .int .u32 (gen : Int), .string mk, .slice oa n cs] 36) := Lib.hid (Blk.below HPR.out ht4 (Blk.lt HPR.out))
    have HLN : Hid (∀ q, q < m → (catSh n S (fun _ => ⟨ix, gn, ln, f⟩) q).len = 32) := Lib.hid fun q hq => by
      unfold catSh
      by_cases e : q < n
      · rw [if_pos e]; exact (wrongN_zero (HMG.out.2.2.2 q e)).2.2.2.2
      · rw [if_neg e]; exact (wrongN_zero HKE.out.symm).2.2.2.2
    have HZL : Hid (b6 < b11 ∧ w.heap.size ≤ b11 ∧ b11 < wc.heap.size ∧ w.heap.size ≠ b11 ∧ m ≤ 256) := Lib.hid ⟨by
      have h1 := HB11L.out.1
      have h2 : b6 < w3.heap.size := by
        have h3 := HB3.out.size
        have h4 := HZ5.out.lt
        have h5 := HB6.out
        exact h5
      omega, by have := HB11L.out.1; have := HB3.out.size; omega, by have := HWR.out.2; have := ht4.size; omega, by have := HB11L.out.1; have h5 := HB6.out; have h6 := HLT.out; omega, by have := HN9.out; have := HMM.out; omega⟩
    clear ht1 ht2 ht3 ht4 hbw HCL HSX HSW HPR HSB HN5 HZ5
    obtain ⟨SS, hSS⟩ : ∃ q, catSh n S (fun _ => ⟨ix, gn, ln, f⟩) = q := ⟨_, rfl⟩
    rw [hSS] at HT HLN
    have HSSE := Lib.hid hSS
    clear hSS
    go_wp2_with fail
    go_loopw [13, 54] (fun _ x wr => ∃ (i : Nat) (v : Value), i ≤ m ∧ x = .int .i64 (i : Int) ∧ Blk wr b11 #[.int .i64 (Kp : Int), .int .i64 (Nn : Int), .int .u32 (gen : Int), .string mk, v] 36 ∧ GP 42 (fun q => w.heap.size ≤ q ∧ q ≠ b11 ∧ q ≠ b6) wr wc.heap.size v i SS ∧ Own b11 wc wr) (fun _ x _ => m - (intOf x).toNat)
    case atStart => exact ⟨0, _, Nat.zero_le _, rfl, HNC.out, GP.nil _ _ _ _ _, Own.refl _ _⟩
    case round =>
      obtain ⟨i, v, hi, rfl, hbk, hgp, how⟩ := hrel
      have HBK := Lib.hid hbk
      have HGP := Lib.hid hgp
      have HOW := Lib.hid how
      clear hbk hgp how
      by_cases hlt : i < m
      · as_aux_lemma =>
        have i1 : (i : Int) < (m : Int) := by omega
        have i0 : (0 : Int) ≤ (i : Int) := by omega
        have k4 : IntKind.i64.wrap ((i : Int) + 1) = ((i + 1 : Nat) : Int) := by have := HZL.out; rw [IntWalk.i64_in _ (by omega)]; omega
        obtain ⟨b, off, od', cp', rfl, -, hf, hno, hlc, hcm, -, x0, x1, x2⟩ := (HT.out.own HOW.out).get i hlt
        have hl32 := HLN.out i hlt
        rw [hl32] at hf hno hlc x2
        obtain ⟨iy, hiy⟩ : ∃ q, (SS i).ix = q := ⟨_, rfl⟩
        obtain ⟨gy, hgy⟩ : ∃ q, (SS i).gen = q := ⟨_, rfl⟩
        obtain ⟨fy, hfy⟩ : ∃ q, (SS i).f = q := ⟨_, rfl⟩
        rw [hiy] at x0
        rw [hgy] at x1
        rw [hfy] at hf
        have HEQ : Hid (SS i = ⟨iy, gy, 32, fy⟩) := Lib.hid (by rw [← hiy, ← hgy, ← hfy, ← hl32])
        have HRG := Lib.hid (range3 x0 x1 x2)
        have HI := Lib.hid (show i < m ∧ i + 1 ≤ m from ⟨hlt, hlt⟩)
        obtain ⟨b13, hb13⟩ : ∃ q, wr.heap.size = q := ⟨_, rfl⟩
        obtain ⟨wa, hwa⟩ : ∃ q, wr.alloc (.cells #[.int .u8 (iy : Int), .int .u32 (gy : Int), .slice od' 32 cp'] 42) = q := ⟨_, rfl⟩
        have hba : Below wr.heap.size wr wa := by rw [← hwa]; exact (Below.refl _ _).alloc (Nat.le_refl _) _
        have HSB : Hid (Blk wa b13 #[.int .u8 (iy : Int), .int .u32 (gy : Int), .slice od' 32 cp'] 42) := Lib.hid (by rw [← hwa, ← hb13]; exact Blk.new _ _ _)
        have HCL := Lib.hid (clone_any od' 32 cp' fy wa (hf.later hba) (by decide) hno)
        have HBA := Lib.hid hba
        have s2 : wa.cell? ⟨b13, 2, none⟩ = some (.slice od' 32 cp') := by rw [Blk.cell HSB.out]; rfl
        have HWS := Lib.hid (show wc.heap.size ≤ wr.heap.size ∧ wr.heap.size = b13 ∧ b11 < b13 from ⟨HOW.out.size, hb13, by have := HOW.out.size; have := HZL.out; omega⟩)
        clear hf hno hlc hcm x0 x1 x2 hl32 hiy hgy hfy hlt hi hba
        go_wp2_with (first | (refine wpList_value rfl (exec_loadM (x := .tmp 56) (cs := [.int .u8 (iy : Int), .int .u32 (gy : Int), .slice od' 32 cp']) rfl rfl HRG.out Tryd.underlying42 rfl info_share3) ?_))
        refine HCL.out.mono ?_
        rintro e wb ⟨oc, cc, rfl, hbc, hnc, hlc, hcm, hge, hbb⟩
        have hsb := Blk.below HSB.out hbb (Blk.lt HSB.out)
        have fr := Blk.free hsb 2
        have s2 : wb.cell? ⟨b13, 2, none⟩ = some (.slice od' 32 cp') := by rw [Blk.cell hsb]; rfl
        obtain ⟨wd, hwd⟩ : ∃ q, wb.setCell ⟨b13, 2, none⟩ (.slice oc 32 cc) = q := ⟨_, rfl⟩
        have hO : Own b13 wb wd := by rw [← hwd]; exact (Own.refl _ _).set _ _
        have HSD : Hid (Blk wd b13 #[.int .u8 (iy : Int), .int .u32 (gy : Int), .slice oc 32 cc] 42) := Lib.hid (by rw [← hwd]; exact hsb.set 2 _)
        have hbd : Below wr.heap.size wr wd := (HBA.out.trans (hbb.mono HBA.out.size)).trans (hO.below (by have := HWS.out; omega) (HBA.out.trans (hbb.mono HBA.out.size)).size)
        have HBD2 := Lib.hid hbd
        have hrd := Blk.below HBK.out hbd (Blk.lt HBK.out)
        have n4 : wd.cell? ⟨b11, 4, none⟩ = some v := by rw [Blk.cell hrd]; rfl
        have HRD := Lib.hid hrd
        have HRS : Hid (wd.rangeAt b13 0 [.int .u8 (iy : Int), .int .u32 (gy : Int), .slice oc 32 cc]) := Lib.hid (Blk.range0 (C := [.int .u8 (iy : Int), .int .u32 (gy : Int), .slice oc 32 cc]) HSD.out)
        have HIS : Hid (IsP (fun q => w.heap.size ≤ q ∧ q ≠ b11 ∧ q ≠ b6) wd [.int .u8 (iy : Int), .int .u32 (gy : Int), .slice oc 32 cc] ⟨iy, gy, 32, fy⟩) := Lib.hid ⟨oc, cc, rfl, hbc.own hO (fun _ a ha => by have h1 := hge a ha; have h2 := Blk.lt HSB.out; omega), hnc, hlc, hcm, fun a ha _ => by have h1 := hge a ha; have h2 := HWS.out; have h3 := HZL.out; have h4 := HBA.out.size; exact ⟨by omega, by omega, by omega⟩⟩
        have HAW : Hid (Away v [.int .u8 (iy : Int), .int .u32 (gy : Int), .slice oc 32 cc]) := Lib.hid fun a l cp2 hm hl e => by
          simp at hm
          obtain ⟨rfl, rfl, -⟩ := hm
          have h1 := hge _ rfl
          have h2 := (HGP.out.block _ e).2
          have h3 := HBA.out.size
          have h4 : a.block < wr.heap.size := h2
          have h5 : wa.heap.size ≤ a.block := h1
          omega
        have HGD := Lib.hid (HGP.out.later hbd)
        have HBS : Hid (wc.heap.size ≤ wd.heap.size) := Lib.hid (Nat.le_trans HWS.out.1 hbd.size)
        have HI9 : Hid (i + 1 < 1000000) := Lib.hid (by have := HZL.out; have := HI.out; omega)
        clear hbc hnc hlc hcm hge hbb hsb hO hbd hrd
        go_wp2_with (first
          | (refine wpList_value rfl (exec_loadM (x := .tmp 13) (cs := [.int .u8 (iy : Int), .int .u32 (gy : Int), .slice oc 32 cc]) rfl rfl HRS.out Tryd.underlying42 rfl info_share3) ?_)
          | (at_builtin
             refine app_GP und_ss info_share rfl rfl (.tmp 63) (.tmp 65) rfl (fun q => w.heap.size ≤ q ∧ q ≠ b11 ∧ q ≠ b6) wc.heap.size v i 1 1 SS (fun _ => ⟨iy, gy, 32, fy⟩) (some ⟨wd.heap.size, 0, none⟩) _ rfl (HGD.out.later ((Below.refl _ _).alloc (Nat.le_refl _) _)) rfl (ShP.one (HIS.out.later ((Below.refl _ _).alloc (Nat.le_refl _) _)) HAW.out (Blk.new _ _ _)) (fun e => by cases e) HI9.out (Nat.le_trans HBS.out (by simp)) ?_
             intro v6 w6 hG6 hb6 hg6
             obtain ⟨oq, cq, rfl, hq1, hq2, hq3, hq4, hqs⟩ := hG6.shs (tb := b11) (fun q hq => hq.2.1) (.inl HZL.out.2.2.1)
             have HG6 := Lib.hid hG6
             have HB6 := Lib.hid (((Below.refl wc.heap.size wd).alloc HBS.out _).trans hb6)
             clear hG6 hb6 hg6 hq1 hq2 hq3 hq4 hqs
             refine Hid.out ?_))
        refine Lib.hid ?_
        have hr6 := Blk.below HRD.out HB6.out HZL.out.2.2.1
        have n46 : w6.cell? ⟨b11, 4, none⟩ = some v := by rw [Blk.cell hr6]; rfl
        have fr6 := Blk.free hr6 4
        have hO7 : Own b11 w6 (w6.setCell ⟨b11, 4, none⟩ (.slice oq (i + 1) cq)) := (Own.refl _ _).set _ _
        have HR7 := Lib.hid (hr6.set 4 (.slice oq (i + 1) cq))
        have HG7 := Lib.hid ((HG6.out.congr (S' := SS) fun q hq => by
          unfold catSh
          by_cases e : q < i
          · rw [if_pos e]
          · rw [if_neg e, show q = i by omega]; exact HEQ.out.symm).own hO7 (fun q h => h.2.1) HZL.out.2.2.1)
        have HO7 := Lib.hid (((HOW.out.bel (HBD2.out.mono HWS.out.1)).bel HB6.out).trans hO7)
        clear hr6 hO7 HG6 HB6 HRD s2 fr n4 hwd hwa
        go_wp2_with fail
        go_roundw
        case rel =>
          first
            | exact ⟨i + 1, .slice oq (i + 1) cq, HI.out.2, by first | rfl | go_num, HR7.out, HG7.out, HO7.out⟩
            | exact ⟨.slice oq (i + 1) cq, i + 1, HI.out.2, by first | rfl | go_num, HR7.out, HG7.out, HO7.out⟩
            | exact ⟨_, i + 1, .slice oq (i + 1) cq, HI.out.2, by first | rfl | go_num, HR7.out, HG7.out, HO7.out⟩
        case measure => have := HI.out; simp [intOf]; omega
      · obtain rfl : i = m := by omega
        have i1 : ¬ (i : Int) < (i : Int) := by omega
        obtain ⟨oq, cq, rfl, hq1, hq2, hq3, hq4, hqs⟩ := HGP.out.shs (tb := tb) (fun q hq e => by have := hq.1; have := HNN.out; omega) (.inl (by have := HNN.out; have := HBW.out.size; omega))
        have hbr := HBW.out.trans (HOW.out.below HZL.out.2.1 HBW.out.size)
        have hOd : Own b11 wc wr.drew := HOW.out.bel ((Below.refl wr.heap.size wr).drew.mono HOW.out.size)
        have HP16 := Lib.hid (hOd.blk HPC.out HZL.out.2.2.2.1)
        have HB16 := Lib.hid (Blk.below HBK.out (Below.refl wr.heap.size wr).drew (Blk.lt HBK.out))
        have HZN : Hid (w.heap.size ≠ b6) := Lib.hid (by have h1 := HLT.out; omega)
        have hz9 := hOd.blk HZC.out (Nat.ne_of_lt HZL.out.1)
        have HTH : Hid (wr.drew.there b6 0 5) := Lib.hid (hz9.there (by decide))
        have hqd := hqs.later (Below.refl wr.heap.size wr).drew
        have hbd := hbr.trans ((Below.refl wr.heap.size wr).drew.mono hbr.size)
        have hO9 : Own b6 wr.drew (wr.drew.setCells b6 0 [.int .i64 (Kp : Int), .int .i64 (Nn : Int), .int .u32 (gen : Int), .string mk, .slice oq i cq]) := Own.setCells _ _ _
        have HX : Hid (Blk (wr.drew.setCells b6 0 [.int .i64 (Kp : Int), .int .i64 (Nn : Int), .int .u32 (gen : Int), .string mk, .slice oq i cq]) b6 #[.int .i64 (Kp : Int), .int .i64 (Nn : Int), .int .u32 (gen : Int), .string mk, .slice oq i cq] 36 ∧ Below w.heap.size w (wr.drew.setCells b6 0 [.int .i64 (Kp : Int), .int .i64 (Nn : Int), .int .u32 (gen : Int), .string mk, .slice oq i cq])) := Lib.hid ⟨hz9.whole5 rfl _ _ _ _ _, hbd.trans (hO9.below HLT.out hbd.size)⟩
        have HQ : Hid (n + 1 ≤ cq ∧ cq ≤ maxLen ∧ (∀ a, oq = some a → w.heap.size ≤ a.block) ∧ Shs tb (wr.drew.setCells b6 0 [.int .i64 (Kp : Int), .int .i64 (Nn : Int), .int .u32 (gen : Int), .string mk, .slice oq i cq]) oq (n + 1) (catSh n S (fun _ => ⟨ix, gn, ln, f⟩))) := Lib.hid (by
          refine ⟨by have := HMM.out; omega, hq2, fun a ha => Nat.le_trans HBW.out.size (hq4 a ha), ?_⟩
          rw [HSSE.out, HMM.out]
          obtain ⟨oz, cz, ez, -, -, -, -, hz8⟩ := ((HGP.out.later (Below.refl wr.heap.size wr).drew).own hO9 (fun q hq => hq.2.2) (by have := HZL.out; omega)).shs (tb := tb) (fun q hq e => by have := hq.1; have := HNN.out; omega) (.inl (by have := HNN.out; have := HBW.out.size; omega))
          cases ez
          exact hz8)
        clear hq1 hq2 hq3 hq4 hqs hbr hOd hz9 hqd hbd hO9 HBK
        by_cases hkk : i = Kp
        · have HDE : Hid (decide ((n : Int) + 1 = (Kp : Int)) = true) := Lib.hid (decide_eq_true (by have := HMM.out; omega))
          have e1 : (i : Int) = (Kp : Int) := by omega
          have e2 : decide ((i : Int) = (Kp : Int)) = true := decide_eq_true e1
          have e3 : ((i : Int) == (Kp : Int)) = true := by simp only [beq_iff_eq]; exact e1
          have e4 : decide (i = Kp) = true := decide_eq_true (by omega)
          have e5 : (i == Kp) = true := by simp only [beq_iff_eq]; omega
          clear e1 hkk
          go_upto_region 16 with fail
          refine wp_region_held_drew (S := (Own b6 wr.drew)) (by kernel_rfl) ?_ (fun hHeld => ?_)
          · (try dsimp only)
            (first | exact Own.refl _ _ | exact Own.setCells _ _ _ | assumption)
          generalize wr.drew = WR at *
          refine wpAnyH_take (i := 0) (oi := { dst := some 69, op := Go.Op.load 36 (Go.Operand.tmp 11), type := 36, pos := "progress.go:73", after := #[], guard := none }) (v := ?_) rfl (by kernel_rfl) (by kernel_rfl) (by kernel_rfl) (fun _ _ _ h => h) (Or.inl ⟨by rfl, ?_⟩) (by assumption) ?_
          rotate_left
          · intro wS hSw
            (refine exec_loadM (x := .tmp 11) (cs := [.int .i64 (Kp : Int), .int .i64 (Nn : Int), .int .u32 (gen : Int), .string mk, .slice oq i cq]) ?_ ?_ (range5 (hSw.blk HB16.out (Nat.ne_of_gt HZL.out.1))) Tryd.underlying36 rfl info_pg <;> rfl)
          (try simp only [Act.put, List.setIfInBounds_toArray, List.set_cons_zero, List.set_cons_succ])
          refine wpAnyH_take (i := 1) (oi := { dst := some 70, op := Go.Op.fieldAddr 36 (Go.Operand.tmp 11) 2, type := 0, pos := "progress.go:73", after := #[], guard := none }) (v := ?_) rfl (by kernel_rfl) (by kernel_rfl) (by kernel_rfl) (fun _ _ _ h => h) (Or.inl ⟨by rfl, ?_⟩) (by assumption) ?_
          rotate_left
          · intro wS hSw
            (try dsimp only at hSw)
            go_simp
            (try with_reducible rfl)
          (try simp only [Act.put, List.setIfInBounds_toArray, List.set_cons_zero, List.set_cons_succ])
          refine wpAnyH_take (i := 2) (oi := { dst := some 71, op := Go.Op.load 29 (Go.Operand.tmp 70), type := 29, pos := "progress.go:73", after := #[{ on := 1, ground := Go.Ground.data }], guard := none }) (v := ?_) rfl (by kernel_rfl) (by kernel_rfl) (by kernel_rfl) (fun _ _ _ h => h) (Or.inl ⟨by rfl, ?_⟩) (by assumption) ?_
          rotate_left
          · intro wS hSw
            (have q4 := pg_sl (hSw.blk HB16.out (Nat.ne_of_gt HZL.out.1)); go_simp; (try with_reducible rfl))
          (try simp only [Act.put, List.setIfInBounds_toArray, List.set_cons_zero, List.set_cons_succ])
          refine wpAnyH_take (i := 3) (oi := { dst := some 72, op := Go.Op.call { callee := Go.Callee.builtin Go.Builtin.len, args := #[Go.Operand.tmp 71], argTypes := #[29] }, type := 3, pos := "progress.go:73", after := #[{ on := 2, ground := Go.Ground.data }], guard := none }) (v := ?_) rfl (by kernel_rfl) (by kernel_rfl) (by kernel_rfl) (fun _ _ _ h => h) (Or.inl ⟨by rfl, ?_⟩) (by assumption) ?_
          rotate_left
          · intro wS hSw
            (try dsimp only at hSw)
            go_simp
            (try with_reducible rfl)
          (try simp only [Act.put, List.setIfInBounds_toArray, List.set_cons_zero, List.set_cons_succ])
          refine wpAnyH_take (i := 4) (oi := { dst := some 73, op := Go.Op.fieldAddr 36 (Go.Operand.tmp 3) 0, type := 0, pos := "progress.go:73", after := #[{ on := 8, ground := Go.Ground.gcOnly Go.Departure.lateStores }], guard := none }) (v := ?_) rfl (by kernel_rfl) (by kernel_rfl) (by kernel_rfl) (fun _ _ _ h => h) (Or.inl ⟨by rfl, ?_⟩) (by assumption) ?_
          rotate_left
          · intro wS hSw
            (try dsimp only at hSw)
            go_simp
            (try with_reducible rfl)
          (try simp only [Act.put, List.setIfInBounds_toArray, List.set_cons_zero, List.set_cons_succ])
          refine wpAnyH_take (i := 5) (oi := { dst := some 74, op := Go.Op.fieldAddr 26 (Go.Operand.tmp 73) 0, type := 0, pos := "progress.go:73", after := #[{ on := 4, ground := Go.Ground.data }, { on := 8, ground := Go.Ground.gcOnly Go.Departure.lateStores }], guard := none }) (v := ?_) rfl (by kernel_rfl) (by kernel_rfl) (by kernel_rfl) (fun _ _ _ h => h) (Or.inl ⟨by rfl, ?_⟩) (by assumption) ?_
          rotate_left
          · intro wS hSw
            (try dsimp only at hSw)
            go_simp
            (try with_reducible rfl)
          (try simp only [Act.put, List.setIfInBounds_toArray, List.set_cons_zero, List.set_cons_succ])
          refine wpAnyH_take (i := 6) (oi := { dst := some 75, op := Go.Op.load 3 (Go.Operand.tmp 74), type := 3, pos := "progress.go:73", after := #[{ on := 5, ground := Go.Ground.data }, { on := 8, ground := Go.Ground.gcOnly Go.Departure.lateStores }], guard := none }) (v := ?_) rfl (by kernel_rfl) (by kernel_rfl) (by kernel_rfl) (fun _ _ _ h => h) (Or.inl ⟨by rfl, ?_⟩) (by assumption) ?_
          rotate_left
          · intro wS hSw
            (have qk := pg_k (hSw.blk HP16.out HZN.out); go_simp; (try with_reducible rfl))
          (try simp only [Act.put, List.setIfInBounds_toArray, List.set_cons_zero, List.set_cons_succ])
          refine wpAnyH_take (i := 7) (oi := { dst := some 76, op := Go.Op.binOp Go.BinOp.eql 3 (Go.Operand.tmp 72) (Go.Operand.tmp 75) 3, type := 4, pos := "progress.go:73", after := #[{ on := 3, ground := Go.Ground.data }, { on := 6, ground := Go.Ground.data }, { on := 8, ground := Go.Ground.gcOnly Go.Departure.lateStores }], guard := none }) (v := ?_) rfl (by kernel_rfl) (by kernel_rfl) (by kernel_rfl) (fun _ _ _ h => h) (Or.inl ⟨by rfl, ?_⟩) (by assumption) ?_
          rotate_left
          · intro wS hSw
            (try dsimp only at hSw)
            go_simp
            (try with_reducible rfl)
          (try simp only [Act.put, List.setIfInBounds_toArray, List.set_cons_zero, List.set_cons_succ])
          refine wpAnyH_ready (rs := [8]) (by kernel_rfl) (by simp) ?_
          refine AllReadyH.cons (o := { dst := none, op := Go.Op.store 36 (Go.Operand.tmp 6) (Go.Operand.tmp 69), type := 0, pos := "progress.go:73", after := #[{ on := 0, ground := Go.Ground.data }, { on := 0, ground := Go.Ground.phase }, { on := 1, ground := Go.Ground.textOnly Go.Departure.lateStores }, { on := 2, ground := Go.Ground.textOnly Go.Departure.lateStores }, { on := 3, ground := Go.Ground.textOnly Go.Departure.lateStoresUnsure }, { on := 4, ground := Go.Ground.textOnly Go.Departure.lateStores }, { on := 5, ground := Go.Ground.textOnly Go.Departure.lateStores }, { on := 6, ground := Go.Ground.textOnly Go.Departure.lateStores }, { on := 7, ground := Go.Ground.textOnly Go.Departure.lateStores }], guard := none }) rfl (fun K hK => ?_) AllReadyH.nil
          (refine step_storeM rfl 36 (.tmp 6) (.tmp 69) rfl b6 0 #[.int .i64 (Kp : Int), .int .i64 (Nn : Int), .int .u32 (gen : Int), .string mk, .slice oq i cq] rfl rfl HTH.out info_pg (one_pg _ _ _ _ _ _ _) ?_; skip)
          refine hK.out _ _ ?_ (fun hHeld => ?_)
          · (try dsimp only)
            (first | exact Own.refl _ _ | exact Own.setCells _ _ _ | assumption)
          clear hK K
          (try simp only [Act.put, List.setIfInBounds_toArray, List.set_cons_zero, List.set_cons_succ])
          refine wpAnyH_take (i := 9) (oi := { dst := some 7, op := Go.Op.assign (Go.Operand.tmp 76), type := 4, pos := "progress.go:73", after := #[{ on := 7, ground := Go.Ground.data }, { on := 8, ground := Go.Ground.chain }, { on := 0, ground := Go.Ground.phase }, { on := 1, ground := Go.Ground.phase }, { on := 2, ground := Go.Ground.phase }, { on := 3, ground := Go.Ground.phase }, { on := 4, ground := Go.Ground.phase }, { on := 5, ground := Go.Ground.phase }, { on := 6, ground := Go.Ground.phase }, { on := 7, ground := Go.Ground.phase }, { on := 8, ground := Go.Ground.phase }], guard := none }) (v := ?_) rfl (by kernel_rfl) (by kernel_rfl) (by kernel_rfl) (fun _ _ _ h => h) (Or.inl ⟨by rfl, ?_⟩) (by assumption) ?_
          rotate_left
          · intro wS hSw
            (try dsimp only at hSw)
            go_simp
            (try with_reducible rfl)
          (try simp only [Act.put, List.setIfInBounds_toArray, List.set_cons_zero, List.set_cons_succ])
          refine wpAnyH_take (i := 10) (oi := { dst := some 8, op := Go.Op.assign (Go.Operand.const Go.Value.nilIface), type := 31, pos := "progress.go:73", after := #[{ on := 9, ground := Go.Ground.chain }, { on := 0, ground := Go.Ground.phase }, { on := 1, ground := Go.Ground.phase }, { on := 2, ground := Go.Ground.phase }, { on := 3, ground := Go.Ground.phase }, { on := 4, ground := Go.Ground.phase }, { on := 5, ground := Go.Ground.phase }, { on := 6, ground := Go.Ground.phase }, { on := 7, ground := Go.Ground.phase }, { on := 8, ground := Go.Ground.phase }, { on := 9, ground := Go.Ground.phase }], guard := none }) (v := ?_) rfl (by kernel_rfl) (by kernel_rfl) (by kernel_rfl) (fun _ _ _ h => h) (Or.inl ⟨by rfl, ?_⟩) (by assumption) ?_
          rotate_left
          · intro wS hSw
            (try dsimp only at hSw)
            go_simp
            (try with_reducible rfl)
          (try simp only [Act.put, List.setIfInBounds_toArray, List.set_cons_zero, List.set_cons_succ])
          refine wpAnyH_done (by kernel_rfl) ?_ _
          go_wp2_with fail
          refine bodyPost_ret (v := .tuple #[.agg #[.int .i64 (Kp : Int), .int .i64 (Nn : Int), .int .u32 (gen : Int), .string mk, .slice oq i cq], .bool true, .nilIface]) ?_ rfl ⟨HX.out.2, .inr ⟨rfl, oq, cq, by rw [HDE.out, HMM.out], HQ.out⟩⟩
          exact results_cell_tmp3 Tryd.results9 _ _ b6 36 #[.int .i64 (Kp : Int), .int .i64 (Nn : Int), .int .u32 (gen : Int), .string mk, .slice oq i cq] (0, 0) _ rfl HX.out.1 Tryd.underlying36 rfl info_pg
        · have HDE : Hid (decide ((n : Int) + 1 = (Kp : Int)) = false) := Lib.hid (decide_eq_false (by have := HMM.out; omega))
          have e1 : ¬ (i : Int) = (Kp : Int) := by omega
          have e2 : decide ((i : Int) = (Kp : Int)) = false := decide_eq_false e1
          have e3 : ((i : Int) == (Kp : Int)) = false := by simp only [beq_eq_false_iff_ne]; exact e1
          have e4 : decide (i = Kp) = false := decide_eq_false (by omega)
          have e5 : (i == Kp) = false := by simp only [beq_eq_false_iff_ne]; omega
          have e6 : ¬ i = Kp := by omega
          clear hkk
          go_upto_region 16 with fail
          refine wp_region_held_drew (S := (Own b6 wr.drew)) (by kernel_rfl) ?_ (fun hHeld => ?_)
          · (try dsimp only)
            (first | exact Own.refl _ _ | exact Own.setCells _ _ _ | assumption)
          generalize wr.drew = WR at *
          refine wpAnyH_take (i := 0) (oi := { dst := some 69, op := Go.Op.load 36 (Go.Operand.tmp 11), type := 36, pos := "progress.go:73", after := #[], guard := none }) (v := ?_) rfl (by kernel_rfl) (by kernel_rfl) (by kernel_rfl) (fun _ _ _ h => h) (Or.inl ⟨by rfl, ?_⟩) (by assumption) ?_
          rotate_left
          · intro wS hSw
            (refine exec_loadM (x := .tmp 11) (cs := [.int .i64 (Kp : Int), .int .i64 (Nn : Int), .int .u32 (gen : Int), .string mk, .slice oq i cq]) ?_ ?_ (range5 (hSw.blk HB16.out (Nat.ne_of_gt HZL.out.1))) Tryd.underlying36 rfl info_pg <;> rfl)
          (try simp only [Act.put, List.setIfInBounds_toArray, List.set_cons_zero, List.set_cons_succ])
          refine wpAnyH_take (i := 1) (oi := { dst := some 70, op := Go.Op.fieldAddr 36 (Go.Operand.tmp 11) 2, type := 0, pos := "progress.go:73", after := #[], guard := none }) (v := ?_) rfl (by kernel_rfl) (by kernel_rfl) (by kernel_rfl) (fun _ _ _ h => h) (Or.inl ⟨by rfl, ?_⟩) (by assumption) ?_
          rotate_left
          · intro wS hSw
            (try dsimp only at hSw)
            go_simp
            (try with_reducible rfl)
          (try simp only [Act.put, List.setIfInBounds_toArray, List.set_cons_zero, List.set_cons_succ])
          refine wpAnyH_take (i := 2) (oi := { dst := some 71, op := Go.Op.load 29 (Go.Operand.tmp 70), type := 29, pos := "progress.go:73", after := #[{ on := 1, ground := Go.Ground.data }], guard := none }) (v := ?_) rfl (by kernel_rfl) (by kernel_rfl) (by kernel_rfl) (fun _ _ _ h => h) (Or.inl ⟨by rfl, ?_⟩) (by assumption) ?_
          rotate_left
          · intro wS hSw
            (have q4 := pg_sl (hSw.blk HB16.out (Nat.ne_of_gt HZL.out.1)); go_simp; (try with_reducible rfl))
          (try simp only [Act.put, List.setIfInBounds_toArray, List.set_cons_zero, List.set_cons_succ])
          refine wpAnyH_take (i := 3) (oi := { dst := some 72, op := Go.Op.call { callee := Go.Callee.builtin Go.Builtin.len, args := #[Go.Operand.tmp 71], argTypes := #[29] }, type := 3, pos := "progress.go:73", after := #[{ on := 2, ground := Go.Ground.data }], guard := none }) (v := ?_) rfl (by kernel_rfl) (by kernel_rfl) (by kernel_rfl) (fun _ _ _ h => h) (Or.inl ⟨by rfl, ?_⟩) (by assumption) ?_
          rotate_left
          · intro wS hSw
            (try dsimp only at hSw)
            go_simp
            (try with_reducible rfl)
          (try simp only [Act.put, List.setIfInBounds_toArray, List.set_cons_zero, List.set_cons_succ])
          refine wpAnyH_take (i := 4) (oi := { dst := some 73, op := Go.Op.fieldAddr 36 (Go.Operand.tmp 3) 0, type := 0, pos := "progress.go:73", after := #[{ on := 8, ground := Go.Ground.gcOnly Go.Departure.lateStores }], guard := none }) (v := ?_) rfl (by kernel_rfl) (by kernel_rfl) (by kernel_rfl) (fun _ _ _ h => h) (Or.inl ⟨by rfl, ?_⟩) (by assumption) ?_
          rotate_left
          · intro wS hSw
            (try dsimp only at hSw)
            go_simp
            (try with_reducible rfl)
          (try simp only [Act.put, List.setIfInBounds_toArray, List.set_cons_zero, List.set_cons_succ])
          refine wpAnyH_take (i := 5) (oi := { dst := some 74, op := Go.Op.fieldAddr 26 (Go.Operand.tmp 73) 0, type := 0, pos := "progress.go:73", after := #[{ on := 4, ground := Go.Ground.data }, { on := 8, ground := Go.Ground.gcOnly Go.Departure.lateStores }], guard := none }) (v := ?_) rfl (by kernel_rfl) (by kernel_rfl) (by kernel_rfl) (fun _ _ _ h => h) (Or.inl ⟨by rfl, ?_⟩) (by assumption) ?_
          rotate_left
          · intro wS hSw
            (try dsimp only at hSw)
            go_simp
            (try with_reducible rfl)
          (try simp only [Act.put, List.setIfInBounds_toArray, List.set_cons_zero, List.set_cons_succ])
          refine wpAnyH_take (i := 6) (oi := { dst := some 75, op := Go.Op.load 3 (Go.Operand.tmp 74), type := 3, pos := "progress.go:73", after := #[{ on := 5, ground := Go.Ground.data }, { on := 8, ground := Go.Ground.gcOnly Go.Departure.lateStores }], guard := none }) (v := ?_) rfl (by kernel_rfl) (by kernel_rfl) (by kernel_rfl) (fun _ _ _ h => h) (Or.inl ⟨by rfl, ?_⟩) (by assumption) ?_
          rotate_left
          · intro wS hSw
            (have qk := pg_k (hSw.blk HP16.out HZN.out); go_simp; (try with_reducible rfl))
          (try simp only [Act.put, List.setIfInBounds_toArray, List.set_cons_zero, List.set_cons_succ])
          refine wpAnyH_take (i := 7) (oi := { dst := some 76, op := Go.Op.binOp Go.BinOp.eql 3 (Go.Operand.tmp 72) (Go.Operand.tmp 75) 3, type := 4, pos := "progress.go:73", after := #[{ on := 3, ground := Go.Ground.data }, { on := 6, ground := Go.Ground.data }, { on := 8, ground := Go.Ground.gcOnly Go.Departure.lateStores }], guard := none }) (v := ?_) rfl (by kernel_rfl) (by kernel_rfl) (by kernel_rfl) (fun _ _ _ h => h) (Or.inl ⟨by rfl, ?_⟩) (by assumption) ?_
          rotate_left
          · intro wS hSw
            (try dsimp only at hSw)
            go_simp
            (try with_reducible rfl)
          (try simp only [Act.put, List.setIfInBounds_toArray, List.set_cons_zero, List.set_cons_succ])
          refine wpAnyH_ready (rs := [8]) (by kernel_rfl) (by simp) ?_
          refine AllReadyH.cons (o := { dst := none, op := Go.Op.store 36 (Go.Operand.tmp 6) (Go.Operand.tmp 69), type := 0, pos := "progress.go:73", after := #[{ on := 0, ground := Go.Ground.data }, { on := 0, ground := Go.Ground.phase }, { on := 1, ground := Go.Ground.textOnly Go.Departure.lateStores }, { on := 2, ground := Go.Ground.textOnly Go.Departure.lateStores }, { on := 3, ground := Go.Ground.textOnly Go.Departure.lateStoresUnsure }, { on := 4, ground := Go.Ground.textOnly Go.Departure.lateStores }, { on := 5, ground := Go.Ground.textOnly Go.Departure.lateStores }, { on := 6, ground := Go.Ground.textOnly Go.Departure.lateStores }, { on := 7, ground := Go.Ground.textOnly Go.Departure.lateStores }], guard := none }) rfl (fun K hK => ?_) AllReadyH.nil
          (refine step_storeM rfl 36 (.tmp 6) (.tmp 69) rfl b6 0 #[.int .i64 (Kp : Int), .int .i64 (Nn : Int), .int .u32 (gen : Int), .string mk, .slice oq i cq] rfl rfl HTH.out info_pg (one_pg _ _ _ _ _ _ _) ?_; skip)
          refine hK.out _ _ ?_ (fun hHeld => ?_)
          · (try dsimp only)
            (first | exact Own.refl _ _ | exact Own.setCells _ _ _ | assumption)
          clear hK K
          (try simp only [Act.put, List.setIfInBounds_toArray, List.set_cons_zero, List.set_cons_succ])
          refine wpAnyH_take (i := 9) (oi := { dst := some 7, op := Go.Op.assign (Go.Operand.tmp 76), type := 4, pos := "progress.go:73", after := #[{ on := 7, ground := Go.Ground.data }, { on := 8, ground := Go.Ground.chain }, { on := 0, ground := Go.Ground.phase }, { on := 1, ground := Go.Ground.phase }, { on := 2, ground := Go.Ground.phase }, { on := 3, ground := Go.Ground.phase }, { on := 4, ground := Go.Ground.phase }, { on := 5, ground := Go.Ground.phase }, { on := 6, ground := Go.Ground.phase }, { on := 7, ground := Go.Ground.phase }, { on := 8, ground := Go.Ground.phase }], guard := none }) (v := ?_) rfl (by kernel_rfl) (by kernel_rfl) (by kernel_rfl) (fun _ _ _ h => h) (Or.inl ⟨by rfl, ?_⟩) (by assumption) ?_
          rotate_left
          · intro wS hSw
            (try dsimp only at hSw)
            go_simp
            (try with_reducible rfl)
          (try simp only [Act.put, List.setIfInBounds_toArray, List.set_cons_zero, List.set_cons_succ])
          refine wpAnyH_take (i := 10) (oi := { dst := some 8, op := Go.Op.assign (Go.Operand.const Go.Value.nilIface), type := 31, pos := "progress.go:73", after := #[{ on := 9, ground := Go.Ground.chain }, { on := 0, ground := Go.Ground.phase }, { on := 1, ground := Go.Ground.phase }, { on := 2, ground := Go.Ground.phase }, { on := 3, ground := Go.Ground.phase }, { on := 4, ground := Go.Ground.phase }, { on := 5, ground := Go.Ground.phase }, { on := 6, ground := Go.Ground.phase }, { on := 7, ground := Go.Ground.phase }, { on := 8, ground := Go.Ground.phase }, { on := 9, ground := Go.Ground.phase }], guard := none }) (v := ?_) rfl (by kernel_rfl) (by kernel_rfl) (by kernel_rfl) (fun _ _ _ h => h) (Or.inl ⟨by rfl, ?_⟩) (by assumption) ?_
          rotate_left
          · intro wS hSw
            (try dsimp only at hSw)
            go_simp
            (try with_reducible rfl)
          (try simp only [Act.put, List.setIfInBounds_toArray, List.set_cons_zero, List.set_cons_succ])
          refine wpAnyH_done (by kernel_rfl) ?_ _
          go_wp2_with fail
          refine bodyPost_ret (v := .tuple #[.agg #[.int .i64 (Kp : Int), .int .i64 (Nn : Int), .int .u32 (gen : Int), .string mk, .slice oq i cq], .bool false, .nilIface]) ?_ rfl ⟨HX.out.2, .inr ⟨rfl, oq, cq, by rw [HDE.out, HMM.out], HQ.out⟩⟩
          exact results_cell_tmp3 Tryd.results9 _ _ b6 36 #[.int .i64 (Kp : Int), .int .i64 (Nn : Int), .int .u32 (gen : Int), .string mk, .slice oq i cq] (0, 0) _ rfl HX.out.1 Tryd.underlying36 rfl info_pg
end Go.Proofs.YtgiffaeckhhmpaaDoor
