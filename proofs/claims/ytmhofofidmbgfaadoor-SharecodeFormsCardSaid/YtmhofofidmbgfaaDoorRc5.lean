/- The document's Parse. -/
import Derived.Test.YtmhofofidmbgfaaDoorRc4
namespace Go.Proofs.YtmhofofidmbgfaaDoor
set_option linter.unusedVariables false
set_option linter.unusedSimpArgs false
open Go.RowKit

def RParseR (t : ByteArray) (w : World) (e : Ending) (w' : World) : Prop := Below w.heap.size w w' ∧
  ((PGood t ∧ ∃ o c, e = .returned (.tuple #[.agg #[.int .u8 (unhF t 6 : Nat), .int .u32 (genOf (unhF t) : Nat), .slice o (t.size / 2 - 8) c], .int .i64 0]) ∧ Bytes w' o (t.size / 2 - 8) (fun k => unhF t (8 + k)) ∧ (o = none → t.size / 2 - 8 = 0)) ∨
   (¬ PGood t ∧ e = .returned (.tuple #[zSh, .int .i64 4])))

set_option maxHeartbeats 8000000 in
set_option maxRecDepth 100000 in
theorem rparse_any (t : ByteArray) (w : World) (hs : t.size < 1000000000) : Calls Tryd.prog 34 #[.string t] w (RParseR t w) := by
  obtain ⟨w0, hw0⟩ : ∃ y, w.alloc (.cells #[.int .u8 0, .int .u32 0, .slice none 0 0] 46) = y := ⟨_, rfl⟩
  obtain ⟨b2, hb2⟩ : ∃ y, w.heap.size = y := ⟨_, rfl⟩
  have HB2 : Hid (Blk w0 b2 #[.int .u8 0, .int .u32 0, .slice none 0 0] 46) := Lib.hid (by rw [← hw0, ← hb2]; exact Blk.new _ _ _)
  have HB0 : Hid (Below b2 w w0) := Lib.hid (by rw [← hw0, ← hb2]; exact (Below.refl _ _).alloc (Nat.le_refl _) _)
  have HZ : Hid (w0.heap.size = b2 + 1 ∧ w.heap.size = b2) := Lib.hid ⟨by rw [← hw0, ← hb2]; simp, hb2⟩
  have HU := Lib.hid (runhex_any t w0 hs)
  have hz := zrs3_run
  have HN9 : Hid (t.size / 2 < 9000000000000000000) := Lib.hid (by omega)
  clear hs
  go_enter Tryd.func34, Tryd.ntmps34
  go_wp2_with fail
  refine HU.out.mono ?_
  rintro e w1 ⟨hb1, ⟨hok, o, c, rfl, hnc, hno, hob, hB⟩ | ⟨⟨k, hk, hbk⟩, rfl⟩⟩
  · by_cases hev : t.size % 2 = 0
    · have he : (t.size % 2 == 0) = true := by rw [beq_iff_eq]; exact hev
      rw [he]
      have HPG : Hid (IsEnc (t.size / 2) (unhF t) → PGood t) := Lib.hid fun h => ⟨⟨hev, by have := h.hi; omega, hok⟩, h⟩
      have HB1 : Hid (Below b2 w w1 ∧ Blk w1 b2 #[.int .u8 0, .int .u32 0, .slice none 0 0] 46 ∧ b2 < w1.heap.size) := Lib.hid ⟨HB0.out.trans (hb1.mono (by have := HZ.out.1; omega)), Blk.below HB2.out hb1 (Blk.lt HB2.out), by have := HZ.out.1; have := hb1.size; omega⟩
      have HBy := Lib.hid hB
      have HOB := Lib.hid hob
      have HNC := Lib.hid hnc
      clear hok hb1 hno he hev hB hnc hob
      go_wp2_with fail
      by_cases hE : IsEnc (t.size / 2) (unhF t)
      · refine (rdec_any (t.size / 2) c o (unhF t) w1 HBy.out HNC.out hE).mono ?_
        rintro e w2 ⟨o2, c2, rfl, hc2, hB2, hno2, hob2, hb2'⟩
        obtain ⟨x6, e6⟩ : ∃ y, unhF t 6 = y := ⟨_, rfl⟩
        obtain ⟨gg, eg⟩ : ∃ y, genOf (unhF t) = y := ⟨_, rfl⟩
        obtain ⟨M, eM⟩ : ∃ y, t.size / 2 - 8 = y := ⟨_, rfl⟩
        have HR := Lib.hid (show (unhF t 6 = x6 ∧ genOf (unhF t) = gg ∧ t.size / 2 - 8 = M) ∧ PGood t ∧ (o2 = none → M = 0) ∧ Bytes w2 o2 M (fun k => unhF t (8 + k)) from ⟨⟨e6, eg, eM⟩, HPG.out hE, eM ▸ hno2, eM ▸ hB2⟩)
        have hS2 : Blk w2 b2 #[.int .u8 0, .int .u32 0, .slice none 0 0] 46 := Blk.below HB1.out.2.1 hb2' (Blk.lt HB1.out.2.1)
        have hTH : w2.there b2 0 3 := hS2.there (Nat.le_refl 3)
        obtain ⟨w3, hw3⟩ : ∃ y, w2.setCells b2 0 [.int .u8 (x6 : Nat), .int .u32 (gg : Nat), .slice o2 M c2] = y := ⟨_, rfl⟩
        have hO3 : Own b2 w2 w3 := by rw [← hw3]; exact Own.setCells (b := b2) _ 0 w2
        have hS3 : Blk w3 b2 #[.int .u8 (x6 : Nat), .int .u32 (gg : Nat), .slice o2 M c2] 46 := by rw [← hw3]; exact hS2.wh3 rfl _ _ _
        have HO3 := Lib.hid hO3
        have HS3 := Lib.hid hS3
        have HF : Hid (Below b2 w w3) := Lib.hid ((HB1.out.1.trans (hb2'.mono (by have := HB1.out.2.2; omega))).trans (hO3.below (Nat.le_refl _) (by have := Blk.lt hS2; omega)))
        have HT := Lib.hid hTH
        have HBL : Hid (∀ a, o2 = some a → 0 < M → a.block ≠ b2) := Lib.hid fun a ha _ e => by
          obtain ⟨a', ha', he'⟩ := hob2 a ha
          have := HOB.out a' ha'
          have := HZ.out.1
          omega
        rw [e6, eg, eM]
        clear hE hc2 hB2 hno2 hob2 hb2' e6 eg eM hS2 hTH hO3 hS3 HU hw0
        go_wp2_with (first | (refine wpList_store_mid rfl 46 (.tmp 2) (.tmp 16) rfl b2 0 #[.int .u8 (x6 : Nat), .int .u32 (gg : Nat), .slice o2 M c2] rfl rfl HT.out info_rs3 (one_sh3 _ _ _ _ _ _ _) ?_; rw [show (#[Value.int .u8 (x6 : Nat), .int .u32 (gg : Nat), .slice o2 M c2] : Array Value).toList = [.int .u8 (x6 : Nat), .int .u32 (gg : Nat), .slice o2 M c2] from rfl, hw3]))
        refine bodyPost_ret (v := .tuple #[.agg #[.int .u8 (x6 : Nat), .int .u32 (gg : Nat), .slice o2 M c2], .int .i64 0]) ?_ rfl ⟨by rw [hb2]; exact HF.out, .inl ⟨HR.out.2.1, o2, c2, ?_, ?_, ?_⟩⟩
        · exact res_cell_tmp Tryd.results34 _ _ b2 46 _ (0, 0) _ rfl HS3.out Tryd.underlying46 rfl info_rs3
        · rw [HR.out.1.1, HR.out.1.2.1, HR.out.1.2.2]
        · rw [HR.out.1.2.2]; exact HR.out.2.2.2.own HO3.out HBL.out
        · rw [HR.out.1.2.2]; exact HR.out.2.2.1
      · have hng : ¬ PGood t := fun h => hE h.2
        refine (rdec_bad (t.size / 2) c o (unhF t) w1 HN9.out HBy.out hE).mono ?_
        rintro e w2 ⟨rfl, hb2'⟩
        have hSb := Blk.below HB1.out.2.1 hb2' (Blk.lt HB1.out.2.1)
        have hBb := HB1.out.1.trans (hb2'.mono (by have := HB1.out.2.2; omega))
        unfold zSh
        clear hE hb2'
        have HF : Hid (Blk (w2.setCells b2 0 [.int .u8 0, .int .u32 0, .slice none 0 0]) b2 #[.int .u8 0, .int .u32 0, .slice none 0 0] 46 ∧ Below b2 w (w2.setCells b2 0 [.int .u8 0, .int .u32 0, .slice none 0 0])) := Lib.hid ⟨hSb.wh3 rfl _ _ _, hBb.trans ((Own.setCells (b := b2) _ 0 w2).below (Nat.le_refl _) (by have := Blk.lt hSb; omega))⟩
        have HT : Hid (w2.there b2 0 3) := Lib.hid (hSb.there (Nat.le_refl 3))
        have HNG := Lib.hid hng
        clear hSb hBb hng HU hw0
        go_wp2_with (first | (refine wpList_value rfl (exec_bM (parts := #[]) (ps := #[]) (C := #[.int .u8 0, .int .u32 0, .slice none 0 0]) rfl rfl bzr3) ?_) | (refine wpList_store_mid rfl 46 (.tmp 2) (.tmp 16) rfl b2 0 #[.int .u8 0, .int .u32 0, .slice none 0 0] rfl rfl HT.out info_rs3 (one_sh3 _ _ _ _ _ _ _) ?_))
        refine bodyPost_ret (v := .tuple #[.agg #[.int .u8 0, .int .u32 0, .slice none 0 0], .int .i64 4]) ?_ rfl ⟨by rw [hb2]; exact HF.out.2, .inr ⟨HNG.out, rfl⟩⟩
        exact res_cell_tmp Tryd.results34 _ _ b2 46 #[.int .u8 0, .int .u32 0, .slice none 0 0] (0, 0) _ rfl HF.out.1 Tryd.underlying46 rfl info_rs3
    · have he : (t.size % 2 == 0) = false := by rw [beq_eq_false_iff_ne]; exact hev
      have hng : ¬ PGood t := fun h => hev h.1.even
      rw [he]
      have hSb := Blk.below HB2.out hb1 (Blk.lt HB2.out)
      have hBb := HB0.out.trans (hb1.mono (by have := HZ.out.1; omega))
      clear hb1
      have HF : Hid (Blk (w1.setCells b2 0 [.int .u8 0, .int .u32 0, .slice none 0 0]) b2 #[.int .u8 0, .int .u32 0, .slice none 0 0] 46 ∧ Below b2 w (w1.setCells b2 0 [.int .u8 0, .int .u32 0, .slice none 0 0])) := Lib.hid ⟨hSb.wh3 rfl _ _ _, hBb.trans ((Own.setCells (b := b2) _ 0 w1).below (Nat.le_refl _) (by have := Blk.lt hSb; omega))⟩
      have HT : Hid (w1.there b2 0 3) := Lib.hid (hSb.there (Nat.le_refl 3))
      have HNG := Lib.hid hng
      clear hSb hBb hng HU hw0
      go_wp2_with (first | (refine wpList_value rfl (exec_bM (parts := #[]) (ps := #[]) (C := #[.int .u8 0, .int .u32 0, .slice none 0 0]) rfl rfl bzr3) ?_) | (refine wpList_store_mid rfl 46 (.tmp 2) (.tmp 13) rfl b2 0 #[.int .u8 0, .int .u32 0, .slice none 0 0] rfl rfl HT.out info_rs3 (one_sh3 _ _ _ _ _ _ _) ?_))
      refine bodyPost_ret (v := .tuple #[.agg #[.int .u8 0, .int .u32 0, .slice none 0 0], .int .i64 4]) ?_ rfl ⟨by rw [hb2]; exact HF.out.2, .inr ⟨HNG.out, rfl⟩⟩
      exact res_cell_tmp Tryd.results34 _ _ b2 46 #[.int .u8 0, .int .u32 0, .slice none 0 0] (0, 0) _ rfl HF.out.1 Tryd.underlying46 rfl info_rs3
  · have hng : ¬ PGood t := fun h => hbk (h.1.dig k hk)
    have hSb := Blk.below HB2.out hb1 (Blk.lt HB2.out)
    have hBb := HB0.out.trans (hb1.mono (by have := HZ.out.1; omega))
    clear hb1
    have HF : Hid (Blk (w1.setCells b2 0 [.int .u8 0, .int .u32 0, .slice none 0 0]) b2 #[.int .u8 0, .int .u32 0, .slice none 0 0] 46 ∧ Below b2 w (w1.setCells b2 0 [.int .u8 0, .int .u32 0, .slice none 0 0])) := Lib.hid ⟨hSb.wh3 rfl _ _ _, hBb.trans ((Own.setCells (b := b2) _ 0 w1).below (Nat.le_refl _) (by have := Blk.lt hSb; omega))⟩
    have HT : Hid (w1.there b2 0 3) := Lib.hid (hSb.there (Nat.le_refl 3))
    have HNG := Lib.hid hng
    clear hSb hBb hng HU hw0
    go_wp2_with (first | (refine wpList_value rfl (exec_bM (parts := #[]) (ps := #[]) (C := #[.int .u8 0, .int .u32 0, .slice none 0 0]) rfl rfl bzr3) ?_) | (refine wpList_store_mid rfl 46 (.tmp 2) (.tmp 13) rfl b2 0 #[.int .u8 0, .int .u32 0, .slice none 0 0] rfl rfl HT.out info_rs3 (one_sh3 _ _ _ _ _ _ _) ?_))
    refine bodyPost_ret (v := .tuple #[.agg #[.int .u8 0, .int .u32 0, .slice none 0 0], .int .i64 4]) ?_ rfl ⟨by rw [hb2]; exact HF.out.2, .inr ⟨HNG.out, rfl⟩⟩
    exact res_cell_tmp Tryd.results34 _ _ b2 46 #[.int .u8 0, .int .u32 0, .slice none 0 0] (0, 0) _ rfl HF.out.1 Tryd.underlying46 rfl info_rs3
end Go.Proofs.YtmhofofidmbgfaaDoor
