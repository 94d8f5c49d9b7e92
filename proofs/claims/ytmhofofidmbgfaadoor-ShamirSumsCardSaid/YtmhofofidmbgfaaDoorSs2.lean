/- The parts of two secrets, put together: the walk of ShamirSums. -/
import Derived.Test.YtmhofofidmbgfaaDoorSs1
import Derived.Deep.CutRange
import Derived.Deep.DeepCutAuto
import Derived.Deep.CutBlock
namespace Go.Proofs.YtmhofofidmbgfaaDoor
set_option linter.unusedVariables false
set_option linter.unusedSimpArgs false
open Go.RowKit

theorem exec_convO {o : Oper} {a : Act} {w : World} {x : Operand} {oa : Option Addr} {n cap : Nat} {S : ByteArray} (ho : o.op = .convert 22 9 x) (hx : a.eval x = .slice oa n cap) (h : (convert 22 9 (.slice oa n cap)).run Tryd.prog w = .ok (.string S) w) : (execOp a.eval o).run Tryd.prog w = .ok (.value (.string S)) w := by
  unfold execOp
  simp only [ho, hx, h, Sem.run_bind, Result.andThen_ok]
  rfl
def SS1 (w2 : World) (go L gf M : Nat) (_ : Value) (wr : World) : Prop := ∃ fo : Nat → Nat, BRow wr go L fo ∧ (∀ j, j < L → fo j < 256) ∧ Row wr gf M (fun _ => 0) ∧ Below w2.heap.size w2 wr
def SS2 (w2 : World) (go L gf M : Nat) (_ : Value) (wr : World) : Prop := ∃ fo ff : Nat → Nat, BRow wr go L fo ∧ (∀ j, j < L → fo j < 256) ∧ Row wr gf M ff ∧ (∀ j, j < M → ff j < 256) ∧ Below w2.heap.size w2 wr
theorem upd_b {f : Nat → Nat} {n i x : Nat} (h : ∀ j, j < n → f j < 256) (hx : x < 256) : ∀ j, j < n → upd f i x j < 256 := fun j hj => by
  unfold upd; split
  · exact hx
  · exact h j hj
theorem sum_strF {s d o f : Nat → Nat} {k L x : Nat} (hs : ∀ j, j < L → s j < 256) (hd : ∀ i, i < L * k → d i < 256) (ho : ∀ j, j < L → o j < 256) (hf : ∀ i, i < L * k → f i < 256) :
    strF L (shF (fun j => s j ^^^ o j) (fun i => d i ^^^ f i) k x) = strF L (fun j => shF s d k x j ^^^ shF o f k x j) := strF_congr fun j hj => shF_xor (L := L) hs hd ho hf hj

set_option maxRecDepth 100000 in
set_option maxHeartbeats 8000000 in
theorem sums_any (os od os2 od2 : Option Addr) (ns cs0 nd cd ns2 cs2 nd2 cd2 : Nat) (K N0 K2 N2 : Int) (s0 dd s2 d2 : Nat → Nat) (w : World) (hg : Handle w) (hs : Bytes w os ns s0) (hd : Bytes w od nd dd) (hno : os = none → ns = 0) (hnc : ns ≤ cs0) (hcm : cs0 ≤ maxLen) (hnd : nd ≤ maxLen) (hs2 : Bytes w os2 ns2 s2) (hd2 : Bytes w od2 nd2 d2) (hns2 : ns2 ≤ maxLen) (hnd2 : nd2 ≤ maxLen) :
    Calls Tryd.prog 7 #[.agg #[.slice os ns cs0, .int .i64 K, .int .i64 N0, .slice od nd cd], .agg #[.slice os2 ns2 cs2, .int .i64 K2, .int .i64 N2, .slice od2 nd2 cd2]] w fun e w' => e = .returned (.bool true) ∧ Below w.heap.size w w' := by
  have hm2 : ns2 ≤ 9223372036854775807 ∧ nd2 ≤ 9223372036854775807 := by unfold maxLen at hns2 hnd2; exact ⟨hns2, hnd2⟩
  obtain ⟨bx2, hbx2⟩ : ∃ x, w.heap.size + 1 = x := ⟨_, rfl⟩
  obtain ⟨w0, hw0⟩ : ∃ x, (w.alloc (.cells #[.slice os ns cs0, .int .i64 K, .int .i64 N0, .slice od nd cd] 57)).alloc (.cells #[.slice os2 ns2 cs2, .int .i64 K2, .int .i64 N2, .slice od2 nd2 cd2] 57) = x := ⟨_, rfl⟩
  have hb0 : Below w.heap.size w w0 := by rw [← hw0]; exact ((Below.refl _ _).alloc (Nat.le_refl _) _).alloc (by simp) _
  have HBX : Hid (Blk w0 w.heap.size #[.slice os ns cs0, .int .i64 K, .int .i64 N0, .slice od nd cd] 57) := Lib.hid (by rw [← hw0]; exact (Blk.new _ _ _).alloc _)
  have HBY : Hid (Blk w0 bx2 #[.slice os2 ns2 cs2, .int .i64 K2, .int .i64 N2, .slice od2 nd2 cd2] 57) := Lib.hid (by rw [← hw0, ← hbx2]; simpa using Blk.new (w.alloc (.cells #[.slice os ns cs0, .int .i64 K, .int .i64 N0, .slice od nd cd] 57)) #[.slice os2 ns2 cs2, .int .i64 K2, .int .i64 N2, .slice od2 nd2 cd2] 57)
  have HL := Lib.hid (laid_any os od ns cs0 nd cd K N0 s0 dd w0 (hs.later hb0) (hd.later hb0) hno hnc hcm hnd)
  have HR2 := Lib.hid hs2
  have HD2 := Lib.hid hd2
  have HG := Lib.hid hg
  have HB0 := Lib.hid hb0
  have hm3 := hm2.1
  have hm4 := hm2.2
  clear hs hd hno hnc hcm hnd hg hb0 hns2 hnd2 hs2 hd2 hm2
  have g0 : w0.cell? ⟨w.heap.size, 0, none⟩ = some (.slice os ns cs0) := by rw [Blk.cell HBX.out]; rfl
  have g1 : w0.cell? ⟨w.heap.size, 1, none⟩ = some (.int .i64 K) := by rw [Blk.cell HBX.out]; rfl
  have g2 : w0.cell? ⟨w.heap.size, 2, none⟩ = some (.int .i64 N0) := by rw [Blk.cell HBX.out]; rfl
  have g3 : w0.cell? ⟨w.heap.size, 3, none⟩ = some (.slice od nd cd) := by rw [Blk.cell HBX.out]; rfl
  go_enter Tryd.func7, Tryd.ntmps7
  go_wp2_with fail
  refine HL.out.mono ?_
  rintro e w1 ⟨sb, so, L, cs, k, N, db, s, d, rfl, hLd⟩
  have HLD := Lib.hid hLd
  obtain ⟨k1, hk1⟩ : ∃ x, k + 1 = x := ⟨_, rfl⟩
  rw [hk1]
  obtain ⟨M, hM⟩ : ∃ x, L * k = x := ⟨_, rfl⟩
  rw [hM]
  have HK1 := Lib.hid hk1
  have HM := Lib.hid hM
  have hM0 : 0 < M := by rw [← hM]; exact Nat.mul_pos HLD.out.l1 HLD.out.k1
  have hMb : M ≤ 40 * 6 := by rw [← hM]; exact Nat.mul_le_mul HLD.out.l40 HLD.out.k6
  have HLL : Hid (L ≤ 1000 ∧ 0 < L ∧ M ≤ 1000 ∧ 0 < M) := Lib.hid ⟨by have := HLD.out.l40; omega, HLD.out.l1, by omega, hM0⟩
  have HKP : Hid (k1 = k + 1 ∧ 2 ≤ k1 ∧ k1 ≤ N ∧ N ≤ 255 ∧ L ≤ 64 ∧ M = L * k) := Lib.hid (by have := HLD.out.k1; have := HLD.out.nk; have := HLD.out.n15; have := HLD.out.l40; exact ⟨by omega, by omega, by omega, by omega, by omega, hM.symm⟩)
  obtain ⟨b6, hb6⟩ : ∃ x, w1.heap.size = x := ⟨_, rfl⟩
  obtain ⟨w2, hw2⟩ : ∃ x, w1.alloc (.cells #[.int .i64 (k1 : Int), .int .i64 (N : Int), .int .u32 5] 28) = x := ⟨_, rfl⟩
  have hb12 : Below w1.heap.size w1 w2 := by rw [← hw2]; exact (Below.refl _ _).alloc (Nat.le_refl _) _
  have HP2 : Hid (Blk w2 b6 [.int .i64 (k1 : Int), .int .i64 (N : Int), .int .u32 5].toArray 28) := Lib.hid (by rw [← hw2, ← hb6]; exact Blk.new _ _ _)
  have HBW2 : Hid (Below w.heap.size w w2) := Lib.hid ((HB0.out.trans (HLD.out.bel.mono HB0.out.size)).trans (hb12.mono (Nat.le_trans HB0.out.size HLD.out.bel.size)))
  have HSEC2 := Lib.hid (HLD.out.sec.later hb12)
  have HDR2 := Lib.hid (HLD.out.dr.later hb12)
  have HBY2 := Lib.hid (Blk.below (Blk.below HBY.out HLD.out.bel (Blk.lt HBY.out)) hb12 (Blk.lt (Blk.below HBY.out HLD.out.bel (Blk.lt HBY.out))))
  have HN2 : Hid (sb < w2.heap.size ∧ db < w2.heap.size ∧ b6 < w2.heap.size ∧ bx2 < w2.heap.size ∧ w.heap.size ≤ w2.heap.size) := Lib.hid (by
    obtain ⟨_, q1, q2, e1, c1⟩ := HSEC2.out 0 HLD.out.l1
    obtain ⟨_, q3, q4, e2, c2⟩ := HDR2.out 0 (by rw [hM]; exact hM0)
    cases e1; cases e2
    exact ⟨World.block_lt_of_cell? _ _ c1, World.block_lt_of_cell? _ _ c2, Blk.lt HP2.out, Blk.lt HBY2.out, HBW2.out.size⟩)
  rw [hM] at HDR2
  have hL40 : L < 1000 := by have := HLD.out.l40; omega
  have HE2 : Hid (Grow (w2.alloc (.cells #[] 5)) w2.heap.size (.slice (some ⟨w2.heap.size, 0, none⟩) 0 0) 0 (fun _ => 0)) := Lib.hid (Grow.empty (Blk.new _ _ _) (Nat.le_refl _) _)
  have HS2b : Hid (Bytes (w2.alloc (.cells #[] 5)) (some ⟨sb, so, none⟩) L s) := Lib.hid (HSEC2.out.alloc _)
  clear hLd HL g0 g1 g2 g3 hw0 hk1 hM hb12
  go_wp2_with (at_builtin; refine wpList_appO rfl (.tmp 26) (.tmp 27) rfl w2.heap.size (.slice (some ⟨w2.heap.size, 0, none⟩) 0 0) 0 L cs (some ⟨sb, so, none⟩) (fun _ => 0) s _ rfl HE2.out rfl (fun e => by cases e) HS2b.out (by omega) ?c1 ?_)
  case c1 => simp
  intro v1 w3 hG hgr hat
  clear hb6
  have hG1 : Grow w3 w2.heap.size v1 L s := by
    exact hG.congr fun i hi => by unfold catF; rw [if_neg (Nat.not_lt_zero _), Nat.sub_zero]
  obtain ⟨go, co, rfl, hgo, hco1, hco2, hBR⟩ := BRow.of_grow hG1 HLL.out.2.1
  have hb23 : Below w2.heap.size w2 w3 := ((Below.refl _ _).alloc (Nat.le_refl _) (.cells #[] 5)).grown hgr (by simp) (Grow.block HE2.out)
  have HCO := Lib.hid hco1
  have hM9 : M < 1000000000000 := by omega
  have hsz3 : w2.heap.size ≤ w3.heap.size := hb23.size
  clear hG hG1 hgr hat HE2 HS2b hco1 hco2
  go_upto_block 0 with (refine wpList_mk rfl (.tmp 30) (.tmp 30) rfl M rfl rfl hM9 ?_)
  obtain ⟨gf, hgf⟩ : ∃ x, w3.heap.size = x := ⟨_, rfl⟩
  have hb34 : Below w3.heap.size w3 (w3.alloc (.cells (rowC M (fun _ => 0)).toArray 5)) := (Below.refl _ _).alloc (Nat.le_refl _) _
  have hRf := row_new w3 M (fun _ => 0)
  obtain ⟨w4, hw4⟩ : ∃ x, w3.alloc (.cells (rowC M (fun _ => 0)).toArray 5) = x := ⟨_, rfl⟩
  rw [hw4] at hb34 hRf ⊢
  rw [hgf] at hRf ⊢
  have HN4 : Hid (w2.heap.size ≤ go ∧ go < gf ∧ w2.heap.size ≤ gf) := Lib.hid (by have := hBR.lt; omega)
  have H4 : Hid (BRow w4 go L s ∧ Row w4 gf M (fun _ => 0) ∧ Below w2.heap.size w2 w4) := Lib.hid ⟨hBR.later hb34, hRf, hb23.trans (hb34.mono hb23.size)⟩
  clear hb34 hRf hw4 hgf hBR hb23 hgo hsz3 hM9
  go_cut [10] (SS1 w2 go L gf M)
  case first =>
    go_wp2_with fail
    go_loopw [10] (fun x wr => ∃ (i : Nat) (fo : Nat → Nat), i ≤ L ∧ x = .int .i64 (i : Int) ∧ BRow wr go L fo ∧ (∀ j, j < L → fo j < 256) ∧ Row wr gf M (fun _ => 0) ∧ Below w2.heap.size w2 wr) (fun x _ => L - (intOf x).toNat)
    case atStart => exact ⟨0, s, Nat.zero_le _, rfl, H4.out.1, fun j hj => (HSEC2.out j hj).1, H4.out.2.1, H4.out.2.2⟩
    case round =>
      obtain ⟨i, fo, hi, rfl, hB, hF, hR, hb⟩ := hrel
      have HB := Lib.hid hB
      have HF := Lib.hid hF
      have HR := Lib.hid hR
      have HBB := Lib.hid hb
      clear hB hF hR hb
      have hc : wr.cell? ⟨bx2, 0, none⟩ = some (.slice os2 ns2 cs2) := by rw [Blk.cell (Blk.below HBY2.out HBB.out HN2.out.2.2.2.1)]; rfl
      by_cases h1 : i < L
      · by_cases h2 : i < ns2
        · obtain ⟨hx8, ob, oo, rfl, hx⟩ := (HR2.out.later (HBW2.out.trans (HBB.out.mono HN2.out.2.2.2.2))) i h2
          have q0 : (0 : Int) ≤ (i : Int) ∧ (i : Int) < (L : Int) ∧ (i : Int) < (ns2 : Int) := by omega
          have q1 := HB.out.cell h1
          have q2 := HB.out.free i
          have HB5 := Lib.hid (HB.out.set i (s2 i))
          have hO5 : Own go wr (wr.setCell ⟨go, i, none⟩ (.int .u8 (s2 i : Nat))) := (Own.refl go wr).set i _
          have HR5 := Lib.hid (HR.out.own hO5 (by have := HN4.out; omega))
          have HBB5 := Lib.hid (HBB.out.setCell (p := ⟨go, i, none⟩) HN4.out.1 (.int .u8 (s2 i : Nat)))
          have HF5 := Lib.hid (upd_b (i := i) HF.out hx8)
          clear hO5 hx8
          go_wp2_with fail
          go_roundw
          case rel => exact ⟨i + 1, _, by omega, by go_num, HB5.out, HF5.out, HR5.out, HBB5.out⟩
          case measure => simp [intOf]; omega
        · have q0 : (i : Int) < (L : Int) := by omega
          have q1 : decide ((i : Int) < (ns2 : Int)) = false := decide_eq_false (by omega)
          go_wp2_with fail
          go_meet
          exact ⟨fo, HB.out, HF.out, HR.out, HBB.out⟩
      · have q1 : decide ((i : Int) < (L : Int)) = false := decide_eq_false (by omega)
        go_wp2_with fail
        go_meet
        exact ⟨fo, HB.out, HF.out, HR.out, HBB.out⟩
  case rest =>
    obtain ⟨fo, hB, hF, hR, hb⟩ := hcut
    have H5 : Hid (BRow wc go L fo ∧ (∀ j, j < L → fo j < 256) ∧ Row wc gf M (fun _ => 0) ∧ Below w2.heap.size w2 wc) := Lib.hid ⟨hB, hF, hR, hb⟩
    clear hB hF hR hb H4
    go_upto_block 2 with fail
    go_cut [11] (SS2 w2 go L gf M)
    case first =>
      go_wp2_with fail
      go_loopw [11] (fun x wr => ∃ (i : Nat) (ff : Nat → Nat), i ≤ M ∧ x = .int .i64 (i : Int) ∧ BRow wr go L fo ∧ Row wr gf M ff ∧ (∀ j, j < M → ff j < 256) ∧ Below w2.heap.size w2 wr) (fun x _ => M - (intOf x).toNat)
      case atStart => exact ⟨0, _, Nat.zero_le _, rfl, H5.out.1, H5.out.2.2.1, fun j hj => (by decide : 0 < 256), H5.out.2.2.2⟩
      case round =>
        obtain ⟨i, ff, hi, rfl, hB, hR, hF, hb⟩ := hrel
        have HB := Lib.hid hB
        have HF := Lib.hid hF
        have HR := Lib.hid hR
        have HBB := Lib.hid hb
        clear hB hF hR hb
        have hc : wr.cell? ⟨bx2, 3, none⟩ = some (.slice od2 nd2 cd2) := by rw [Blk.cell (Blk.below HBY2.out HBB.out HN2.out.2.2.2.1)]; rfl
        by_cases h1 : i < M
        · by_cases h2 : i < nd2
          · obtain ⟨hx8, ob, oo, rfl, hx⟩ := (HD2.out.later (HBW2.out.trans (HBB.out.mono HN2.out.2.2.2.2))) i h2
            have q0 : (0 : Int) ≤ (i : Int) ∧ (i : Int) < (M : Int) ∧ (i : Int) < (nd2 : Int) := by omega
            have q1 := HR.out.cell h1
            have q2 := Blk.free HR.out i
            have HR5 := Lib.hid (HR.out.set i (d2 i))
            have hO5 : Own gf wr (wr.setCell ⟨gf, i, none⟩ (.int .u8 (d2 i : Nat))) := (Own.refl gf wr).set i _
            have HB5 := Lib.hid (HB.out.own hO5 (by have := HN4.out; omega))
            have HBB5 := Lib.hid (HBB.out.setCell (p := ⟨gf, i, none⟩) HN4.out.2.2 (.int .u8 (d2 i : Nat)))
            have HF5 := Lib.hid (upd_b (i := i) HF.out hx8)
            clear hO5 hx8
            go_wp2_with fail
            go_roundw
            case rel => exact ⟨i + 1, _, by omega, by go_num, HB5.out, HR5.out, HF5.out, HBB5.out⟩
            case measure => simp [intOf]; omega
          · have q0 : (i : Int) < (M : Int) := by omega
            have q1 : decide ((i : Int) < (nd2 : Int)) = false := decide_eq_false (by omega)
            go_wp2_with fail
            go_meet
            exact ⟨fo, ff, HB.out, H5.out.2.1, HR.out, HF.out, HBB.out⟩
        · have q1 : decide ((i : Int) < (M : Int)) = false := decide_eq_false (by omega)
          go_wp2_with fail
          go_meet
          exact ⟨fo, ff, HB.out, H5.out.2.1, HR.out, HF.out, HBB.out⟩
    case rest =>
      clear H5
      clear fo
      obtain ⟨fo, ff, hB, hF, hR, hFF, hb⟩ := hcut
      have H6 : Hid (BRow wc go L fo ∧ Row wc gf M ff ∧ Below w2.heap.size w2 wc) := Lib.hid ⟨hB, hR, hb⟩
      have HFB := Lib.hid hF
      have HFFB := Lib.hid hFF
      clear hB hF hR hFF hb
      go_wp2_with fail
      refine (gfnew_any _).mono ?_
      rintro e w3g ⟨rfl, hT3, hb23⟩
      obtain ⟨tb, htb⟩ : ∃ x, wc.heap.size = x := ⟨_, rfl⟩
      have hgo : go < wc.heap.size := H6.out.1.lt
      have hgf : gf < wc.heap.size := H6.out.2.1.lt
      have hsz2 : w2.heap.size ≤ wc.heap.size := H6.out.2.2.size
      have hbc : Below w2.heap.size w2 w3g := H6.out.2.2.trans (hb23.mono hsz2)
      have HSEC := Lib.hid (HSEC2.out.later hbc)
      have HDR := Lib.hid (HDR2.out.later hbc)
      have HFO : Hid (Bytes w3g (some ⟨go, 0, none⟩) L fo) := Lib.hid ((H6.out.1.later hb23).bytes HFB.out)
      have HFF : Hid (Bytes w3g (some ⟨gf, 0, none⟩) M ff) := Lib.hid ((H6.out.2.1.later hb23).bytes HFFB.out)
      have HP3 := Lib.hid (Blk.below HP2.out hbc HN2.out.2.2.1)
      have HB3 := Lib.hid (HBW2.out.trans (hbc.mono HN2.out.2.2.2.2))
      have HN5 : Hid (b6 ≠ tb ∧ sb ≠ tb ∧ go ≠ tb ∧ db ≠ tb ∧ gf ≠ tb ∧ w.heap.size ≤ tb ∧ tb < w3g.heap.size) := Lib.hid (by have := HN2.out; have := hT3.lt; omega)
      have HSP1 := Lib.hid (split_any tb k1 N k 5 L cs M M sb so db 0 s d w3g (by rw [← htb]; exact hT3) HSEC.out HN5.out.2.1 HDR.out HN5.out.2.2.2.1 HKP.out.1 HKP.out.2.1 HKP.out.2.2.1 HKP.out.2.2.2.1 HLL.out.2.1 HKP.out.2.2.2.2.1 HKP.out.2.2.2.2.2 (Nat.le_refl _))
      have c0 : w3g.cell? ⟨b6, 0, none⟩ = some (.int .i64 (k1 : Int)) := by rw [Blk.cell HP3.out]; rfl
      have c1 : w3g.cell? ⟨b6, 1, none⟩ = some (.int .i64 (N : Int)) := by rw [Blk.cell HP3.out]; rfl
      have c2 : w3g.cell? ⟨b6, 2, none⟩ = some (.int .u32 5) := by rw [Blk.cell HP3.out]; rfl
      rw [htb]
      clear hT3 hb23 hbc htb hgo hgf hsz2 H6
      go_wp2_with fail
      refine HSP1.out.mono ?_
      rintro e w4g ⟨wA1, rfl, hle, hOA, hR⟩
      have HO4 := Lib.hid (hOA.trans hR.own)
      have HSR1 := Lib.hid hR
      have HSP2 := Lib.hid (split_any tb k1 N k 5 L co M M go 0 gf 0 fo ff w4g hR.tab (HFO.out.own HO4.out (Apart.of_ne HN5.out.2.2.1)) HN5.out.2.2.1 (HFF.out.own HO4.out (Apart.of_ne HN5.out.2.2.2.2.1)) HN5.out.2.2.2.2.1 HKP.out.1 HKP.out.2.1 HKP.out.2.2.1 HKP.out.2.2.2.1 HLL.out.2.1 HKP.out.2.2.2.2.1 HKP.out.2.2.2.2.2 (Nat.le_refl _))
      have c0 : w4g.cell? ⟨b6, 0, none⟩ = some (.int .i64 (k1 : Int)) := HO4.out.cell c0 HN5.out.1
      have c1 : w4g.cell? ⟨b6, 1, none⟩ = some (.int .i64 (N : Int)) := HO4.out.cell c1 HN5.out.1
      have c2 : w4g.cell? ⟨b6, 2, none⟩ = some (.int .u32 5) := HO4.out.cell c2 HN5.out.1
      clear hR hOA hle HSP1
      go_wp2_with fail
      refine HSP2.out.mono ?_
      rintro e w5 ⟨wA2, rfl, hle, hOA, hR⟩
      have HO5 := Lib.hid (HO4.out.trans (hOA.trans hR.own))
      have HSRa := Lib.hid (HSR1.out.left ⟨hR.tab, hOA.trans hR.own⟩)
      have HSRb := Lib.hid hR
      have HP5 := Lib.hid (HO5.out.blk HP3.out HN5.out.1)
      have HSC5 := Lib.hid (HSEC.out.own HO5.out (Apart.of_ne HN5.out.2.1))
      have HDR5 := Lib.hid (HDR.out.own HO5.out (Apart.of_ne HN5.out.2.2.2.1))
      have HFO5 := Lib.hid (HFO.out.own HO5.out (Apart.of_ne HN5.out.2.2.1))
      have HFF5 := Lib.hid (HFF.out.own HO5.out (Apart.of_ne HN5.out.2.2.2.2.1))
      have HTW : Hid (tb < w5.drew.heap.size) := Lib.hid (Nat.lt_of_lt_of_le HN5.out.2.2.2.2.2.2 HO5.out.size)
      have hP_0 : Own tb w5 w5.drew := (Own.refl _ _).drew
      have HS12 : Hid (SR tb wA1 N L 5 (fun x => shF s d k (x + 1)) w5.drew ∧ SR tb wA2 N L 5 (fun x => shF fo ff k (x + 1)) w5.drew) := Lib.hid ⟨HSRa.out.drew, HSRb.out.drew⟩
      clear hR hOA hle HSP2 c0 c1 c2 HSR1 HO4
      go_wp2_with fail
      refine wp_region_held_drew (S := (Own tb w5)) (by kernel_rfl) ?_ (fun hHeld => ?_)
      · (try dsimp only)
        first | assumption | exact hP_0 | exact hP_1 | exact hP_2 | exact hP_3
      generalize w5.drew = W0 at *
      refine wpAnyH_take (i := 0) (oi := { dst := some 92, op := Go.Op.move (Go.Operand.tmp 12), type := 34, pos := "law.go:242", after := #[], guard := none }) (v := ?_) rfl (by kernel_rfl) (by kernel_rfl) (by kernel_rfl) (fun _ _ _ h => h) (Or.inl ⟨by rfl, ?_⟩) (by assumption) ?_
      rotate_left
      · intro wS hSw
        (try dsimp only at hSw)
        go_simp
        (try with_reducible rfl)
      (try simp only [Act.put, List.setIfInBounds_toArray, List.set_cons_zero, List.set_cons_succ])
      refine wpAnyH_take (i := 1) (oi := { dst := some 93, op := Go.Op.move (Go.Operand.tmp 5), type := 22, pos := "law.go:242", after := #[], guard := none }) (v := ?_) rfl (by kernel_rfl) (by kernel_rfl) (by kernel_rfl) (fun _ _ _ h => h) (Or.inl ⟨by rfl, ?_⟩) (by assumption) ?_
      rotate_left
      · intro wS hSw
        (try dsimp only at hSw)
        go_simp
        (try with_reducible rfl)
      (try simp only [Act.put, List.setIfInBounds_toArray, List.set_cons_zero, List.set_cons_succ])
      refine wpAnyH_take (i := 2) (oi := { dst := some 94, op := Go.Op.move (Go.Operand.tmp 8), type := 22, pos := "law.go:242", after := #[], guard := none }) (v := ?_) rfl (by kernel_rfl) (by kernel_rfl) (by kernel_rfl) (fun _ _ _ h => h) (Or.inl ⟨by rfl, ?_⟩) (by assumption) ?_
      rotate_left
      · intro wS hSw
        (try dsimp only at hSw)
        go_simp
        (try with_reducible rfl)
      (try simp only [Act.put, List.setIfInBounds_toArray, List.set_cons_zero, List.set_cons_succ])
      refine wpAnyH_take (i := 4) (oi := { dst := some 96, op := Go.Op.load 28 (Go.Operand.tmp 6), type := 28, pos := "law.go:242", after := #[], guard := none }) (v := ?_) rfl (by kernel_rfl) (by kernel_rfl) (by kernel_rfl) (fun _ _ _ h => h) (Or.inl ⟨by rfl, ?_⟩) (by assumption) ?_
      rotate_left
      · intro wS hSw
        refine exec_loadM (x := .tmp 6) (cs := [.int .i64 (k1 : Int), .int .i64 (N : Int), .int .u32 5]) ?_ ?_ ((hSw.blk HP5.out HN5.out.1).range0) Tryd.underlying28 rfl info_plan3 <;> rfl
      (try simp only [Act.put, List.setIfInBounds_toArray, List.set_cons_zero, List.set_cons_succ])
      refine wpAnyH_take (i := 5) (oi := { dst := some 97, op := Go.Op.move (Go.Operand.tmp 7), type := 22, pos := "law.go:242", after := #[], guard := none }) (v := ?_) rfl (by kernel_rfl) (by kernel_rfl) (by kernel_rfl) (fun _ _ _ h => h) (Or.inl ⟨by rfl, ?_⟩) (by assumption) ?_
      rotate_left
      · intro wS hSw
        (try dsimp only at hSw)
        go_simp
        (try with_reducible rfl)
      (try simp only [Act.put, List.setIfInBounds_toArray, List.set_cons_zero, List.set_cons_succ])
      refine wpAnyH_take (i := 6) (oi := { dst := some 98, op := Go.Op.move (Go.Operand.tmp 9), type := 22, pos := "law.go:242", after := #[], guard := none }) (v := ?_) rfl (by kernel_rfl) (by kernel_rfl) (by kernel_rfl) (fun _ _ _ h => h) (Or.inl ⟨by rfl, ?_⟩) (by assumption) ?_
      rotate_left
      · intro wS hSw
        (try dsimp only at hSw)
        go_simp
        (try with_reducible rfl)
      (try simp only [Act.put, List.setIfInBounds_toArray, List.set_cons_zero, List.set_cons_succ])
      refine wpAnyH_ready (rs := [3]) (by kernel_rfl) (by simp) ?_
      refine AllReadyH.cons (o := { dst := some 95, op := Go.Op.call { callee := Go.Callee.value (Go.Operand.func 26), args := #[Go.Operand.tmp 93, Go.Operand.tmp 94], argTypes := #[22, 22] }, type := 22, pos := "law.go:242", after := #[{ on := 1, ground := Go.Ground.data }, { on := 2, ground := Go.Ground.data }], guard := none }) rfl (fun K hK => ?_) AllReadyH.nil
      go_simp
      (refine (sum_any (some ⟨sb, so, none⟩) (some ⟨go, 0, none⟩) L cs L co s fo W0 (HSC5.out.own hP_0 (Apart.of_ne HN5.out.2.1)) (HFO5.out.own hP_0 (Apart.of_ne HN5.out.2.2.1)) (Nat.le_refl _) HLL.out.1 HLL.out.2.1).mono ?_; rintro e W1 ⟨g1, q1, rfl, hg1, hq1, hB1, hb1⟩; have HG1 := Lib.hid (⟨hg1, hq1, hB1⟩ : W0.heap.size ≤ g1 ∧ L ≤ q1 ∧ Bytes W1 (some ⟨g1, 0, none⟩) L (fun i => s i ^^^ fo i)); have HS1 : Hid (SR tb wA1 N L 5 (fun x => shF s d k (x + 1)) W1 ∧ SR tb wA2 N L 5 (fun x => shF fo ff k (x + 1)) W1) := Lib.hid ⟨HS12.out.1.later hb1, HS12.out.2.later hb1⟩; have hP_1 := hP_0.then_fresh hb1; have HZ1 : Hid (W0.heap.size ≤ W1.heap.size) := Lib.hid hb1.size; clear hg1 hq1 hB1 hb1 hP_0 HS12; skip)
      (try go_wp2_with fail)
      refine hK.out _ _ ?_ (fun hHeld => ?_)
      · (try dsimp only)
        first | assumption | exact hP_0 | exact hP_1 | exact hP_2 | exact hP_3
      clear hK K
      (try simp only [Act.put, List.setIfInBounds_toArray, List.set_cons_zero, List.set_cons_succ])
      refine wpAnyH_ready (rs := [7]) (by kernel_rfl) (by simp) ?_
      refine AllReadyH.cons (o := { dst := some 99, op := Go.Op.call { callee := Go.Callee.value (Go.Operand.func 26), args := #[Go.Operand.tmp 97, Go.Operand.tmp 98], argTypes := #[22, 22] }, type := 22, pos := "law.go:242", after := #[{ on := 5, ground := Go.Ground.data }, { on := 6, ground := Go.Ground.data }, { on := 3, ground := Go.Ground.chain }], guard := none }) rfl (fun K hK => ?_) AllReadyH.nil
      go_simp
      (refine (sum_any (some ⟨db, 0, none⟩) (some ⟨gf, 0, none⟩) M M M M d ff W1 (HDR5.out.own hP_1 (Apart.of_ne HN5.out.2.2.2.1)) (HFF5.out.own hP_1 (Apart.of_ne HN5.out.2.2.2.2.1)) (Nat.le_refl _) HLL.out.2.2.1 HLL.out.2.2.2).mono ?_; rintro e W2 ⟨g2, q2, rfl, hg2, hq2, hB2, hb2⟩; have HG2 := Lib.hid (⟨Nat.le_trans HZ1.out hg2, hq2, hB2⟩ : W0.heap.size ≤ g2 ∧ M ≤ q2 ∧ Bytes W2 (some ⟨g2, 0, none⟩) M (fun i => d i ^^^ ff i)); have HG1b := Lib.hid (HG1.out.2.2.later hb2); have HS2 : Hid (SR tb wA1 N L 5 (fun x => shF s d k (x + 1)) W2 ∧ SR tb wA2 N L 5 (fun x => shF fo ff k (x + 1)) W2) := Lib.hid ⟨HS1.out.1.later hb2, HS1.out.2.later hb2⟩; have hP_2 := hP_1.then_fresh hb2; clear hP_1 hg2 hq2 hB2 hb2 HS1; skip)
      (try go_wp2_with fail)
      refine hK.out _ _ ?_ (fun hHeld => ?_)
      · (try dsimp only)
        first | assumption | exact hP_0 | exact hP_1 | exact hP_2 | exact hP_3
      clear hK K
      (try simp only [Act.put, List.setIfInBounds_toArray, List.set_cons_zero, List.set_cons_succ])
      refine wpAnyH_ready (rs := [8]) (by kernel_rfl) (by simp) ?_
      refine AllReadyH.cons (o := { dst := some 100, op := Go.Op.call { callee := Go.Callee.value (Go.Operand.func 12), args := #[Go.Operand.tmp 92, Go.Operand.tmp 95, Go.Operand.tmp 96, Go.Operand.tmp 99], argTypes := #[34, 22, 28, 22] }, type := 32, pos := "law.go:242", after := #[{ on := 0, ground := Go.Ground.data }, { on := 3, ground := Go.Ground.data }, { on := 4, ground := Go.Ground.data }, { on := 7, ground := Go.Ground.data }, { on := 7, ground := Go.Ground.chain }], guard := none }) rfl (fun K hK => ?_) AllReadyH.nil
      go_simp
      (refine (split_any tb k1 N k 5 L q1 M q2 g1 0 g2 0 (fun i => s i ^^^ fo i) (fun i => d i ^^^ ff i) W2 HS2.out.1.tab HG1b.out (by have := HG1.out.1; have := HTW.out; omega) HG2.out.2.2 (by have := HG2.out.1; have := HTW.out; omega) HKP.out.1 HKP.out.2.1 HKP.out.2.2.1 HKP.out.2.2.2.1 HLL.out.2.1 HKP.out.2.2.2.2.1 HKP.out.2.2.2.2.2 HG2.out.2.1).mono ?_; rintro e w6 ⟨wA3, rfl, hle3, hOA3, hR3⟩; have hL6 : Left tb W2 w6 := ⟨hR3.tab, hOA3.trans hR3.own⟩; have HS6 : Hid (SR tb wA1 N L 5 (fun x => shF s d k (x + 1)) w6 ∧ SR tb wA2 N L 5 (fun x => shF fo ff k (x + 1)) w6 ∧ SR tb wA3 N L 5 (fun x => shF (fun i => s i ^^^ fo i) (fun i => d i ^^^ ff i) k (x + 1)) w6) := Lib.hid ⟨HS2.out.1.left hL6, HS2.out.2.left hL6, hR3⟩; have hP_3 := hP_2.trans hL6.2; clear hP_2 hle3 hOA3 hR3 hL6 HS2; skip)
      (try go_wp2_with fail)
      refine hK.out _ _ ?_ (fun hHeld => ?_)
      · (try dsimp only)
        first | assumption | exact hP_0 | exact hP_1 | exact hP_2 | exact hP_3
      clear hK K
      (try simp only [Act.put, List.setIfInBounds_toArray, List.set_cons_zero, List.set_cons_succ])
      refine wpAnyH_take (i := 9) (oi := { dst := some 91, op := Go.Op.move (Go.Operand.tmp 100), type := 32, pos := "law.go:242", after := #[{ on := 8, ground := Go.Ground.data }], guard := none }) (v := ?_) rfl (by kernel_rfl) (by kernel_rfl) (by kernel_rfl) (fun _ _ _ h => h) (Or.inl ⟨by rfl, ?_⟩) (by assumption) ?_
      rotate_left
      · intro wS hSw
        (try dsimp only at hSw)
        go_simp
        (try with_reducible rfl)
      (try simp only [Act.put, List.setIfInBounds_toArray, List.set_cons_zero, List.set_cons_succ])
      refine wpAnyH_take (i := 10) (oi := { dst := some 101, op := Go.Op.extract (Go.Operand.tmp 91) 0, type := 29, pos := "law.go:242", after := #[{ on := 9, ground := Go.Ground.data }], guard := none }) (v := ?_) rfl (by kernel_rfl) (by kernel_rfl) (by kernel_rfl) (fun _ _ _ h => h) (Or.inl ⟨by rfl, ?_⟩) (by assumption) ?_
      rotate_left
      · intro wS hSw
        (try dsimp only at hSw)
        go_simp
        (try with_reducible rfl)
      (try simp only [Act.put, List.setIfInBounds_toArray, List.set_cons_zero, List.set_cons_succ])
      refine wpAnyH_take (i := 11) (oi := { dst := some 102, op := Go.Op.extract (Go.Operand.tmp 91) 1, type := 31, pos := "law.go:242", after := #[{ on := 9, ground := Go.Ground.data }, { on := 12, ground := Go.Ground.gcOnly Go.Departure.lateStores }], guard := none }) (v := ?_) rfl (by kernel_rfl) (by kernel_rfl) (by kernel_rfl) (fun _ _ _ h => h) (Or.inl ⟨by rfl, ?_⟩) (by assumption) ?_
      rotate_left
      · intro wS hSw
        (try dsimp only at hSw)
        go_simp
        (try with_reducible rfl)
      (try simp only [Act.put, List.setIfInBounds_toArray, List.set_cons_zero, List.set_cons_succ])
      refine wpAnyH_take (i := 12) (oi := { dst := some 17, op := Go.Op.assign (Go.Operand.tmp 101), type := 29, pos := "law.go:242", after := #[{ on := 10, ground := Go.Ground.data }, { on := 8, ground := Go.Ground.chain }, { on := 0, ground := Go.Ground.phase }, { on := 1, ground := Go.Ground.phase }, { on := 2, ground := Go.Ground.phase }, { on := 3, ground := Go.Ground.phase }, { on := 4, ground := Go.Ground.phase }, { on := 5, ground := Go.Ground.phase }, { on := 6, ground := Go.Ground.phase }, { on := 7, ground := Go.Ground.phase }, { on := 8, ground := Go.Ground.phase }, { on := 9, ground := Go.Ground.phase }, { on := 10, ground := Go.Ground.phase }, { on := 11, ground := Go.Ground.textOnly Go.Departure.lateStores }], guard := none }) (v := ?_) rfl (by kernel_rfl) (by kernel_rfl) (by kernel_rfl) (fun _ _ _ h => h) (Or.inl ⟨by rfl, ?_⟩) (by assumption) ?_
      rotate_left
      · intro wS hSw
        (try dsimp only at hSw)
        go_simp
        (try with_reducible rfl)
      (try simp only [Act.put, List.setIfInBounds_toArray, List.set_cons_zero, List.set_cons_succ])
      refine wpAnyH_take (i := 13) (oi := { dst := some 18, op := Go.Op.assign (Go.Operand.tmp 102), type := 31, pos := "law.go:242", after := #[{ on := 11, ground := Go.Ground.data }, { on := 12, ground := Go.Ground.chain }, { on := 0, ground := Go.Ground.phase }, { on := 1, ground := Go.Ground.phase }, { on := 2, ground := Go.Ground.phase }, { on := 3, ground := Go.Ground.phase }, { on := 4, ground := Go.Ground.phase }, { on := 5, ground := Go.Ground.phase }, { on := 6, ground := Go.Ground.phase }, { on := 7, ground := Go.Ground.phase }, { on := 8, ground := Go.Ground.phase }, { on := 9, ground := Go.Ground.phase }, { on := 10, ground := Go.Ground.phase }, { on := 11, ground := Go.Ground.phase }, { on := 12, ground := Go.Ground.phase }], guard := none }) (v := ?_) rfl (by kernel_rfl) (by kernel_rfl) (by kernel_rfl) (fun _ _ _ h => h) (Or.inl ⟨by rfl, ?_⟩) (by assumption) ?_
      rotate_left
      · intro wS hSw
        (try dsimp only at hSw)
        go_simp
        (try with_reducible rfl)
      (try simp only [Act.put, List.setIfInBounds_toArray, List.set_cons_zero, List.set_cons_succ])
      refine wpAnyH_done (by kernel_rfl) ?_ _
      have HO6 := Lib.hid (HO5.out.trans hP_3)
      clear hP_3
      have HP6 := Lib.hid (HO6.out.blk HP3.out HN5.out.1)
      clear HP5 HSC5 HDR5 HFO5 HFF5 HSRa HSRb HTW HG1 HG1b HG2 HZ1 HO5
      have c1 : w6.cell? ⟨b6, 1, none⟩ = some (.int .i64 (N : Int)) := by rw [Blk.cell HP6.out]; rfl
      go_wp2_with fail
      clear c1
      have hN255 : N ≤ 255 := HKP.out.2.2.2.1
      go_loopw [19] (fun x wr => ∃ i : Nat, i ≤ N ∧ x = .int .i64 (i : Int) ∧ Below w6.heap.size w6 wr) (fun x _ => N - (intOf x).toNat)
      case atStart => exact ⟨0, Nat.zero_le _, rfl, Below.refl _ _⟩
      case round =>
        obtain ⟨i, hi, rfl, hb⟩ := hrel
        have HB7 := Lib.hid hb
        clear hb
        have c1 : wr.cell? ⟨b6, 1, none⟩ = some (.int .i64 (N : Int)) := by rw [Blk.cell (Blk.below HP6.out HB7.out (Blk.lt HP6.out))]; rfl
        by_cases hlt : i < N
        · have q0 : (0 : Int) ≤ (i : Int) ∧ (i : Int) < (N : Int) := by omega
          obtain ⟨h1, hh1⟩ : ∃ x, wA1.heap.size + 1 + i = x := ⟨_, rfl⟩
          obtain ⟨h2, hh2⟩ : ∃ x, wA2.heap.size + 1 + i = x := ⟨_, rfl⟩
          obtain ⟨h3, hh3⟩ : ∃ x, wA3.heap.size + 1 + i = x := ⟨_, rfl⟩
          obtain ⟨q, hq⟩ : ∃ x, i + 1 = x := ⟨_, rfl⟩
          have HX2 : Hid (∀ w7, Below w6.heap.size w6 w7 → w7.cell? ⟨wA1.heap.size, i * 3 + 2, none⟩ = some (.slice (some ⟨h1, 0, none⟩) L L)) := Lib.hid fun w7 h7 => by rw [← hh1]; exact ((HS6.out.1.later h7).cells hlt).2.2
          have HY2 : Hid (∀ w7, Below w6.heap.size w6 w7 → w7.cell? ⟨wA2.heap.size, i * 3 + 2, none⟩ = some (.slice (some ⟨h2, 0, none⟩) L L)) := Lib.hid fun w7 h7 => by rw [← hh2]; exact ((HS6.out.2.1.later h7).cells hlt).2.2
          have HZ2 : Hid (∀ w7, Below w6.heap.size w6 w7 → w7.cell? ⟨wA3.heap.size, i * 3 + 2, none⟩ = some (.slice (some ⟨h3, 0, none⟩) L L)) := Lib.hid fun w7 h7 => by rw [← hh3]; exact ((HS6.out.2.2.later h7).cells hlt).2.2
          obtain ⟨S1, hS1⟩ : ∃ x, strF L (shF (fun j => s j ^^^ fo j) (fun i => d i ^^^ ff i) k q) = x := ⟨_, rfl⟩
          have HCZ : Hid (∀ w7, Below w6.heap.size w6 w7 → (convert 22 9 (.slice (some ⟨h3, 0, none⟩) L L)).run Tryd.prog w7 = .ok (.string S1) w7) := Lib.hid fun w7 h7 => by
            rw [← hS1, ← hq, ← hh3]
            exact Bytes.conv (((HS6.out.2.2.later h7).rows i hlt).bytes fun j hj => shF_lt _ _ _ _ _)
          have HEQ : Hid (strF L (fun j => shF s d k q j ^^^ shF fo ff k q j) = S1) := Lib.hid (by
            rw [← hS1]
            exact (sum_strF (fun j hj => (HSEC.out j hj).1) (fun i hi => (HDR.out i (by rw [HKP.out.2.2.2.2.2]; exact hi)).1) HFB.out (fun i hi => HFFB.out i (by rw [HKP.out.2.2.2.2.2]; exact hi))).symm)
          have HB1 : Hid (Bytes wr.drew (some ⟨h1, 0, none⟩) L (shF s d k q)) := Lib.hid (by
            rw [← hq, ← hh1]; exact ((HS6.out.1.later HB7.out.drew).rows i hlt).bytes fun j hj => shF_lt _ _ _ _ _)
          have HB2 : Hid (Bytes wr.drew (some ⟨h2, 0, none⟩) L (shF fo ff k q)) := Lib.hid (by
            rw [← hq, ← hh2]; exact ((HS6.out.2.1.later HB7.out.drew).rows i hlt).bytes fun j hj => shF_lt _ _ _ _ _)
          have hP_0 : Below w6.heap.size w6 wr.drew := HB7.out.drew
          clear hh1 hh2 hh3 hq hS1
          go_wp2_with fail
          refine wp_region_held_drew (S := (Below w6.heap.size w6)) (by kernel_rfl) ?_ (fun hHeld => ?_)
          · (try dsimp only)
            first | assumption | exact hP_0 | exact hP_1
          generalize wr.drew = W7 at *
          refine wpAnyH_take (i := 0) (oi := { dst := some 140, op := Go.Op.move (Go.Operand.tmp 13), type := 29, pos := "law.go:247", after := #[], guard := none }) (v := ?_) rfl (by kernel_rfl) (by kernel_rfl) (by kernel_rfl) (fun _ _ _ h => h) (Or.inl ⟨by rfl, ?_⟩) (by assumption) ?_
          rotate_left
          · intro wS hSw
            (try dsimp only at hSw)
            go_simp
            (try with_reducible rfl)
          (try simp only [Act.put, List.setIfInBounds_toArray, List.set_cons_zero, List.set_cons_succ])
          refine wpAnyH_take (i := 1) (oi := { dst := some 141, op := Go.Op.move (Go.Operand.tmp 19), type := 3, pos := "law.go:247", after := #[], guard := none }) (v := ?_) rfl (by kernel_rfl) (by kernel_rfl) (by kernel_rfl) (fun _ _ _ h => h) (Or.inl ⟨by rfl, ?_⟩) (by assumption) ?_
          rotate_left
          · intro wS hSw
            (try dsimp only at hSw)
            go_simp
            (try with_reducible rfl)
          (try simp only [Act.put, List.setIfInBounds_toArray, List.set_cons_zero, List.set_cons_succ])
          refine wpAnyH_take (i := 2) (oi := { dst := some 142, op := Go.Op.indexAddr 29 (Go.Operand.tmp 140) (Go.Operand.tmp 141), type := 0, pos := "law.go:247", after := #[{ on := 0, ground := Go.Ground.data }, { on := 1, ground := Go.Ground.data }], guard := none }) (v := ?_) rfl (by kernel_rfl) (by kernel_rfl) (by kernel_rfl) (fun _ _ _ h => h) (Or.inl ⟨by rfl, ?_⟩) (by assumption) ?_
          rotate_left
          · intro wS hSw
            (try dsimp only at hSw)
            go_simp
            (try with_reducible rfl)
          (try simp only [Act.put, List.setIfInBounds_toArray, List.set_cons_zero, List.set_cons_succ])
          refine wpAnyH_take (i := 3) (oi := { dst := some 143, op := Go.Op.fieldAddr 52 (Go.Operand.tmp 142) 2, type := 0, pos := "law.go:247", after := #[{ on := 2, ground := Go.Ground.data }], guard := none }) (v := ?_) rfl (by kernel_rfl) (by kernel_rfl) (by kernel_rfl) (fun _ _ _ h => h) (Or.inl ⟨by rfl, ?_⟩) (by assumption) ?_
          rotate_left
          · intro wS hSw
            (try dsimp only at hSw)
            go_simp
            (try with_reducible rfl)
          (try simp only [Act.put, List.setIfInBounds_toArray, List.set_cons_zero, List.set_cons_succ])
          refine wpAnyH_take (i := 4) (oi := { dst := some 144, op := Go.Op.load 22 (Go.Operand.tmp 143), type := 22, pos := "law.go:247", after := #[{ on := 3, ground := Go.Ground.data }], guard := none }) (v := ?_) rfl (by kernel_rfl) (by kernel_rfl) (by kernel_rfl) (fun _ _ _ h => h) (Or.inl ⟨by rfl, ?_⟩) (by assumption) ?_
          rotate_left
          · intro wS hSw
            ((have c9 := HX2.out _ hSw); go_simp; (try with_reducible rfl))
          (try simp only [Act.put, List.setIfInBounds_toArray, List.set_cons_zero, List.set_cons_succ])
          refine wpAnyH_take (i := 5) (oi := { dst := some 145, op := Go.Op.call { callee := Go.Callee.builtin Go.Builtin.len, args := #[Go.Operand.tmp 144], argTypes := #[22] }, type := 3, pos := "law.go:247", after := #[{ on := 4, ground := Go.Ground.data }], guard := none }) (v := ?_) rfl (by kernel_rfl) (by kernel_rfl) (by kernel_rfl) (fun _ _ _ h => h) (Or.inl ⟨by rfl, ?_⟩) (by assumption) ?_
          rotate_left
          · intro wS hSw
            (try dsimp only at hSw)
            go_simp
            (try with_reducible rfl)
          (try simp only [Act.put, List.setIfInBounds_toArray, List.set_cons_zero, List.set_cons_succ])
          refine wpAnyH_take (i := 6) (oi := { dst := some 146, op := Go.Op.move (Go.Operand.tmp 5), type := 22, pos := "law.go:247", after := #[], guard := none }) (v := ?_) rfl (by kernel_rfl) (by kernel_rfl) (by kernel_rfl) (fun _ _ _ h => h) (Or.inl ⟨by rfl, ?_⟩) (by assumption) ?_
          rotate_left
          · intro wS hSw
            (try dsimp only at hSw)
            go_simp
            (try with_reducible rfl)
          (try simp only [Act.put, List.setIfInBounds_toArray, List.set_cons_zero, List.set_cons_succ])
          refine wpAnyH_take (i := 7) (oi := { dst := some 147, op := Go.Op.call { callee := Go.Callee.builtin Go.Builtin.len, args := #[Go.Operand.tmp 146], argTypes := #[22] }, type := 3, pos := "law.go:247", after := #[{ on := 6, ground := Go.Ground.data }], guard := none }) (v := ?_) rfl (by kernel_rfl) (by kernel_rfl) (by kernel_rfl) (fun _ _ _ h => h) (Or.inl ⟨by rfl, ?_⟩) (by assumption) ?_
          rotate_left
          · intro wS hSw
            (try dsimp only at hSw)
            go_simp
            (try with_reducible rfl)
          (try simp only [Act.put, List.setIfInBounds_toArray, List.set_cons_zero, List.set_cons_succ])
          refine wpAnyH_take (i := 8) (oi := { dst := some 148, op := Go.Op.binOp Go.BinOp.neq 3 (Go.Operand.tmp 145) (Go.Operand.tmp 147) 3, type := 4, pos := "law.go:247", after := #[{ on := 5, ground := Go.Ground.data }, { on := 7, ground := Go.Ground.data }], guard := none }) (v := ?_) rfl (by kernel_rfl) (by kernel_rfl) (by kernel_rfl) (fun _ _ _ h => h) (Or.inl ⟨by rfl, ?_⟩) (by assumption) ?_
          rotate_left
          · intro wS hSw
            (try dsimp only at hSw)
            go_simp
            (try with_reducible rfl)
          (try simp only [Act.put, List.setIfInBounds_toArray, List.set_cons_zero, List.set_cons_succ])
          refine wpAnyH_take (i := 9) (oi := { dst := some 149, op := Go.Op.move (Go.Operand.tmp 148), type := 4, pos := "law.go:247", after := #[{ on := 8, ground := Go.Ground.data }], guard := none }) (v := ?_) rfl (by kernel_rfl) (by kernel_rfl) (by kernel_rfl) (fun _ _ _ h => h) (Or.inl ⟨by rfl, ?_⟩) (by assumption) ?_
          rotate_left
          · intro wS hSw
            (try dsimp only at hSw)
            go_simp
            (try with_reducible rfl)
          (try simp only [Act.put, List.setIfInBounds_toArray, List.set_cons_zero, List.set_cons_succ])
          refine wpAnyH_take (i := 10) (oi := { dst := some 150, op := Go.Op.move (Go.Operand.tmp 15), type := 29, pos := "law.go:247", after := #[{ on := 9, ground := Go.Ground.guard }], guard := some (9, false) }) (v := ?_) rfl (by kernel_rfl) (by kernel_rfl) (by kernel_rfl) (fun _ _ _ h => h) (Or.inl ⟨by rfl, ?_⟩) (by assumption) ?_
          rotate_left
          · intro wS hSw
            (try dsimp only at hSw)
            go_simp
            (try with_reducible rfl)
          (try simp only [Act.put, List.setIfInBounds_toArray, List.set_cons_zero, List.set_cons_succ])
          refine wpAnyH_take (i := 11) (oi := { dst := some 151, op := Go.Op.move (Go.Operand.tmp 19), type := 3, pos := "law.go:247", after := #[{ on := 9, ground := Go.Ground.guard }], guard := some (9, false) }) (v := ?_) rfl (by kernel_rfl) (by kernel_rfl) (by kernel_rfl) (fun _ _ _ h => h) (Or.inl ⟨by rfl, ?_⟩) (by assumption) ?_
          rotate_left
          · intro wS hSw
            (try dsimp only at hSw)
            go_simp
            (try with_reducible rfl)
          (try simp only [Act.put, List.setIfInBounds_toArray, List.set_cons_zero, List.set_cons_succ])
          refine wpAnyH_take (i := 12) (oi := { dst := some 152, op := Go.Op.indexAddr 29 (Go.Operand.tmp 150) (Go.Operand.tmp 151), type := 0, pos := "law.go:247", after := #[{ on := 10, ground := Go.Ground.data }, { on := 11, ground := Go.Ground.data }, { on := 9, ground := Go.Ground.guard }], guard := some (9, false) }) (v := ?_) rfl (by kernel_rfl) (by kernel_rfl) (by kernel_rfl) (fun _ _ _ h => h) (Or.inl ⟨by rfl, ?_⟩) (by assumption) ?_
          rotate_left
          · intro wS hSw
            (try dsimp only at hSw)
            go_simp
            (try with_reducible rfl)
          (try simp only [Act.put, List.setIfInBounds_toArray, List.set_cons_zero, List.set_cons_succ])
          refine wpAnyH_take (i := 13) (oi := { dst := some 153, op := Go.Op.fieldAddr 52 (Go.Operand.tmp 152) 2, type := 0, pos := "law.go:247", after := #[{ on := 12, ground := Go.Ground.data }, { on := 9, ground := Go.Ground.guard }], guard := some (9, false) }) (v := ?_) rfl (by kernel_rfl) (by kernel_rfl) (by kernel_rfl) (fun _ _ _ h => h) (Or.inl ⟨by rfl, ?_⟩) (by assumption) ?_
          rotate_left
          · intro wS hSw
            (try dsimp only at hSw)
            go_simp
            (try with_reducible rfl)
          (try simp only [Act.put, List.setIfInBounds_toArray, List.set_cons_zero, List.set_cons_succ])
          refine wpAnyH_take (i := 14) (oi := { dst := some 154, op := Go.Op.load 22 (Go.Operand.tmp 153), type := 22, pos := "law.go:247", after := #[{ on := 13, ground := Go.Ground.data }, { on := 9, ground := Go.Ground.guard }], guard := some (9, false) }) (v := ?_) rfl (by kernel_rfl) (by kernel_rfl) (by kernel_rfl) (fun _ _ _ h => h) (Or.inl ⟨by rfl, ?_⟩) (by assumption) ?_
          rotate_left
          · intro wS hSw
            ((have c9 := HY2.out _ hSw); go_simp; (try with_reducible rfl))
          (try simp only [Act.put, List.setIfInBounds_toArray, List.set_cons_zero, List.set_cons_succ])
          refine wpAnyH_take (i := 15) (oi := { dst := some 155, op := Go.Op.call { callee := Go.Callee.builtin Go.Builtin.len, args := #[Go.Operand.tmp 154], argTypes := #[22] }, type := 3, pos := "law.go:247", after := #[{ on := 14, ground := Go.Ground.data }, { on := 9, ground := Go.Ground.guard }], guard := some (9, false) }) (v := ?_) rfl (by kernel_rfl) (by kernel_rfl) (by kernel_rfl) (fun _ _ _ h => h) (Or.inl ⟨by rfl, ?_⟩) (by assumption) ?_
          rotate_left
          · intro wS hSw
            (try dsimp only at hSw)
            go_simp
            (try with_reducible rfl)
          (try simp only [Act.put, List.setIfInBounds_toArray, List.set_cons_zero, List.set_cons_succ])
          refine wpAnyH_take (i := 16) (oi := { dst := some 156, op := Go.Op.move (Go.Operand.tmp 5), type := 22, pos := "law.go:247", after := #[{ on := 9, ground := Go.Ground.guard }], guard := some (9, false) }) (v := ?_) rfl (by kernel_rfl) (by kernel_rfl) (by kernel_rfl) (fun _ _ _ h => h) (Or.inl ⟨by rfl, ?_⟩) (by assumption) ?_
          rotate_left
          · intro wS hSw
            (try dsimp only at hSw)
            go_simp
            (try with_reducible rfl)
          (try simp only [Act.put, List.setIfInBounds_toArray, List.set_cons_zero, List.set_cons_succ])
          refine wpAnyH_take (i := 17) (oi := { dst := some 157, op := Go.Op.call { callee := Go.Callee.builtin Go.Builtin.len, args := #[Go.Operand.tmp 156], argTypes := #[22] }, type := 3, pos := "law.go:247", after := #[{ on := 16, ground := Go.Ground.data }, { on := 9, ground := Go.Ground.guard }], guard := some (9, false) }) (v := ?_) rfl (by kernel_rfl) (by kernel_rfl) (by kernel_rfl) (fun _ _ _ h => h) (Or.inl ⟨by rfl, ?_⟩) (by assumption) ?_
          rotate_left
          · intro wS hSw
            (try dsimp only at hSw)
            go_simp
            (try with_reducible rfl)
          (try simp only [Act.put, List.setIfInBounds_toArray, List.set_cons_zero, List.set_cons_succ])
          refine wpAnyH_take (i := 18) (oi := { dst := some 158, op := Go.Op.binOp Go.BinOp.neq 3 (Go.Operand.tmp 155) (Go.Operand.tmp 157) 3, type := 4, pos := "law.go:247", after := #[{ on := 15, ground := Go.Ground.data }, { on := 17, ground := Go.Ground.data }, { on := 9, ground := Go.Ground.guard }], guard := some (9, false) }) (v := ?_) rfl (by kernel_rfl) (by kernel_rfl) (by kernel_rfl) (fun _ _ _ h => h) (Or.inl ⟨by rfl, ?_⟩) (by assumption) ?_
          rotate_left
          · intro wS hSw
            (try dsimp only at hSw)
            go_simp
            (try with_reducible rfl)
          (try simp only [Act.put, List.setIfInBounds_toArray, List.set_cons_zero, List.set_cons_succ])
          refine wpAnyH_take (i := 19) (oi := { dst := some 159, op := Go.Op.pick (Go.Operand.tmp 149) (Go.Operand.const (Go.Value.bool true)) (Go.Operand.tmp 158), type := 4, pos := "law.go:247", after := #[{ on := 9, ground := Go.Ground.data }, { on := 18, ground := Go.Ground.data }], guard := none }) (v := ?_) rfl (by kernel_rfl) (by kernel_rfl) (by kernel_rfl) (fun _ _ _ h => h) (Or.inl ⟨by rfl, ?_⟩) (by assumption) ?_
          rotate_left
          · intro wS hSw
            (try dsimp only at hSw)
            go_simp
            (try with_reducible rfl)
          (try simp only [Act.put, List.setIfInBounds_toArray, List.set_cons_zero, List.set_cons_succ])
          refine wpAnyH_take (i := 20) (oi := { dst := some 160, op := Go.Op.move (Go.Operand.tmp 159), type := 4, pos := "law.go:247", after := #[{ on := 19, ground := Go.Ground.data }, { on := 9, ground := Go.Ground.chain }], guard := none }) (v := ?_) rfl (by kernel_rfl) (by kernel_rfl) (by kernel_rfl) (fun _ _ _ h => h) (Or.inl ⟨by rfl, ?_⟩) (by assumption) ?_
          rotate_left
          · intro wS hSw
            (try dsimp only at hSw)
            go_simp
            (try with_reducible rfl)
          (try simp only [Act.put, List.setIfInBounds_toArray, List.set_cons_zero, List.set_cons_succ])
          refine wpAnyH_take (i := 21) (oi := { dst := some 161, op := Go.Op.move (Go.Operand.tmp 17), type := 29, pos := "law.go:247", after := #[{ on := 20, ground := Go.Ground.guard }], guard := some (20, false) }) (v := ?_) rfl (by kernel_rfl) (by kernel_rfl) (by kernel_rfl) (fun _ _ _ h => h) (Or.inl ⟨by rfl, ?_⟩) (by assumption) ?_
          rotate_left
          · intro wS hSw
            (try dsimp only at hSw)
            go_simp
            (try with_reducible rfl)
          (try simp only [Act.put, List.setIfInBounds_toArray, List.set_cons_zero, List.set_cons_succ])
          refine wpAnyH_take (i := 22) (oi := { dst := some 162, op := Go.Op.move (Go.Operand.tmp 19), type := 3, pos := "law.go:247", after := #[{ on := 20, ground := Go.Ground.guard }], guard := some (20, false) }) (v := ?_) rfl (by kernel_rfl) (by kernel_rfl) (by kernel_rfl) (fun _ _ _ h => h) (Or.inl ⟨by rfl, ?_⟩) (by assumption) ?_
          rotate_left
          · intro wS hSw
            (try dsimp only at hSw)
            go_simp
            (try with_reducible rfl)
          (try simp only [Act.put, List.setIfInBounds_toArray, List.set_cons_zero, List.set_cons_succ])
          refine wpAnyH_take (i := 23) (oi := { dst := some 163, op := Go.Op.indexAddr 29 (Go.Operand.tmp 161) (Go.Operand.tmp 162), type := 0, pos := "law.go:247", after := #[{ on := 21, ground := Go.Ground.data }, { on := 22, ground := Go.Ground.data }, { on := 20, ground := Go.Ground.guard }], guard := some (20, false) }) (v := ?_) rfl (by kernel_rfl) (by kernel_rfl) (by kernel_rfl) (fun _ _ _ h => h) (Or.inl ⟨by rfl, ?_⟩) (by assumption) ?_
          rotate_left
          · intro wS hSw
            (try dsimp only at hSw)
            go_simp
            (try with_reducible rfl)
          (try simp only [Act.put, List.setIfInBounds_toArray, List.set_cons_zero, List.set_cons_succ])
          refine wpAnyH_take (i := 24) (oi := { dst := some 164, op := Go.Op.fieldAddr 52 (Go.Operand.tmp 163) 2, type := 0, pos := "law.go:247", after := #[{ on := 23, ground := Go.Ground.data }, { on := 20, ground := Go.Ground.guard }], guard := some (20, false) }) (v := ?_) rfl (by kernel_rfl) (by kernel_rfl) (by kernel_rfl) (fun _ _ _ h => h) (Or.inl ⟨by rfl, ?_⟩) (by assumption) ?_
          rotate_left
          · intro wS hSw
            (try dsimp only at hSw)
            go_simp
            (try with_reducible rfl)
          (try simp only [Act.put, List.setIfInBounds_toArray, List.set_cons_zero, List.set_cons_succ])
          refine wpAnyH_take (i := 25) (oi := { dst := some 165, op := Go.Op.load 22 (Go.Operand.tmp 164), type := 22, pos := "law.go:247", after := #[{ on := 24, ground := Go.Ground.data }, { on := 20, ground := Go.Ground.guard }], guard := some (20, false) }) (v := ?_) rfl (by kernel_rfl) (by kernel_rfl) (by kernel_rfl) (fun _ _ _ h => h) (Or.inl ⟨by rfl, ?_⟩) (by assumption) ?_
          rotate_left
          · intro wS hSw
            ((have c9 := HZ2.out _ hSw); go_simp; (try with_reducible rfl))
          (try simp only [Act.put, List.setIfInBounds_toArray, List.set_cons_zero, List.set_cons_succ])
          refine wpAnyH_take (i := 26) (oi := { dst := some 166, op := Go.Op.convert 22 9 (Go.Operand.tmp 165), type := 9, pos := "law.go:247", after := #[{ on := 25, ground := Go.Ground.data }, { on := 20, ground := Go.Ground.guard }], guard := some (20, false) }) (v := ?_) rfl (by kernel_rfl) (by kernel_rfl) (by kernel_rfl) (fun _ _ _ h => h) (Or.inl ⟨by rfl, ?_⟩) (by assumption) ?_
          rotate_left
          · intro wS hSw
            ((have c9 := HCZ.out _ hSw); go_simp; (try with_reducible rfl))
          (try simp only [Act.put, List.setIfInBounds_toArray, List.set_cons_zero, List.set_cons_succ])
          refine wpAnyH_take (i := 27) (oi := { dst := some 167, op := Go.Op.move (Go.Operand.tmp 13), type := 29, pos := "law.go:247", after := #[{ on := 20, ground := Go.Ground.guard }], guard := some (20, false) }) (v := ?_) rfl (by kernel_rfl) (by kernel_rfl) (by kernel_rfl) (fun _ _ _ h => h) (Or.inl ⟨by rfl, ?_⟩) (by assumption) ?_
          rotate_left
          · intro wS hSw
            (try dsimp only at hSw)
            go_simp
            (try with_reducible rfl)
          (try simp only [Act.put, List.setIfInBounds_toArray, List.set_cons_zero, List.set_cons_succ])
          refine wpAnyH_take (i := 28) (oi := { dst := some 168, op := Go.Op.move (Go.Operand.tmp 19), type := 3, pos := "law.go:247", after := #[{ on := 20, ground := Go.Ground.guard }], guard := some (20, false) }) (v := ?_) rfl (by kernel_rfl) (by kernel_rfl) (by kernel_rfl) (fun _ _ _ h => h) (Or.inl ⟨by rfl, ?_⟩) (by assumption) ?_
          rotate_left
          · intro wS hSw
            (try dsimp only at hSw)
            go_simp
            (try with_reducible rfl)
          (try simp only [Act.put, List.setIfInBounds_toArray, List.set_cons_zero, List.set_cons_succ])
          refine wpAnyH_take (i := 29) (oi := { dst := some 169, op := Go.Op.indexAddr 29 (Go.Operand.tmp 167) (Go.Operand.tmp 168), type := 0, pos := "law.go:247", after := #[{ on := 27, ground := Go.Ground.data }, { on := 28, ground := Go.Ground.data }, { on := 20, ground := Go.Ground.guard }], guard := some (20, false) }) (v := ?_) rfl (by kernel_rfl) (by kernel_rfl) (by kernel_rfl) (fun _ _ _ h => h) (Or.inl ⟨by rfl, ?_⟩) (by assumption) ?_
          rotate_left
          · intro wS hSw
            (try dsimp only at hSw)
            go_simp
            (try with_reducible rfl)
          (try simp only [Act.put, List.setIfInBounds_toArray, List.set_cons_zero, List.set_cons_succ])
          refine wpAnyH_take (i := 30) (oi := { dst := some 170, op := Go.Op.fieldAddr 52 (Go.Operand.tmp 169) 2, type := 0, pos := "law.go:247", after := #[{ on := 29, ground := Go.Ground.data }, { on := 20, ground := Go.Ground.guard }], guard := some (20, false) }) (v := ?_) rfl (by kernel_rfl) (by kernel_rfl) (by kernel_rfl) (fun _ _ _ h => h) (Or.inl ⟨by rfl, ?_⟩) (by assumption) ?_
          rotate_left
          · intro wS hSw
            (try dsimp only at hSw)
            go_simp
            (try with_reducible rfl)
          (try simp only [Act.put, List.setIfInBounds_toArray, List.set_cons_zero, List.set_cons_succ])
          refine wpAnyH_take (i := 31) (oi := { dst := some 171, op := Go.Op.load 22 (Go.Operand.tmp 170), type := 22, pos := "law.go:247", after := #[{ on := 30, ground := Go.Ground.data }, { on := 20, ground := Go.Ground.guard }], guard := some (20, false) }) (v := ?_) rfl (by kernel_rfl) (by kernel_rfl) (by kernel_rfl) (fun _ _ _ h => h) (Or.inl ⟨by rfl, ?_⟩) (by assumption) ?_
          rotate_left
          · intro wS hSw
            ((have c9 := HX2.out _ hSw); go_simp; (try with_reducible rfl))
          (try simp only [Act.put, List.setIfInBounds_toArray, List.set_cons_zero, List.set_cons_succ])
          refine wpAnyH_take (i := 32) (oi := { dst := some 172, op := Go.Op.move (Go.Operand.tmp 15), type := 29, pos := "law.go:247", after := #[{ on := 20, ground := Go.Ground.guard }], guard := some (20, false) }) (v := ?_) rfl (by kernel_rfl) (by kernel_rfl) (by kernel_rfl) (fun _ _ _ h => h) (Or.inl ⟨by rfl, ?_⟩) (by assumption) ?_
          rotate_left
          · intro wS hSw
            (try dsimp only at hSw)
            go_simp
            (try with_reducible rfl)
          (try simp only [Act.put, List.setIfInBounds_toArray, List.set_cons_zero, List.set_cons_succ])
          refine wpAnyH_take (i := 33) (oi := { dst := some 173, op := Go.Op.move (Go.Operand.tmp 19), type := 3, pos := "law.go:247", after := #[{ on := 20, ground := Go.Ground.guard }], guard := some (20, false) }) (v := ?_) rfl (by kernel_rfl) (by kernel_rfl) (by kernel_rfl) (fun _ _ _ h => h) (Or.inl ⟨by rfl, ?_⟩) (by assumption) ?_
          rotate_left
          · intro wS hSw
            (try dsimp only at hSw)
            go_simp
            (try with_reducible rfl)
          (try simp only [Act.put, List.setIfInBounds_toArray, List.set_cons_zero, List.set_cons_succ])
          refine wpAnyH_take (i := 34) (oi := { dst := some 174, op := Go.Op.indexAddr 29 (Go.Operand.tmp 172) (Go.Operand.tmp 173), type := 0, pos := "law.go:247", after := #[{ on := 32, ground := Go.Ground.data }, { on := 33, ground := Go.Ground.data }, { on := 20, ground := Go.Ground.guard }], guard := some (20, false) }) (v := ?_) rfl (by kernel_rfl) (by kernel_rfl) (by kernel_rfl) (fun _ _ _ h => h) (Or.inl ⟨by rfl, ?_⟩) (by assumption) ?_
          rotate_left
          · intro wS hSw
            (try dsimp only at hSw)
            go_simp
            (try with_reducible rfl)
          (try simp only [Act.put, List.setIfInBounds_toArray, List.set_cons_zero, List.set_cons_succ])
          refine wpAnyH_take (i := 35) (oi := { dst := some 175, op := Go.Op.fieldAddr 52 (Go.Operand.tmp 174) 2, type := 0, pos := "law.go:247", after := #[{ on := 34, ground := Go.Ground.data }, { on := 20, ground := Go.Ground.guard }], guard := some (20, false) }) (v := ?_) rfl (by kernel_rfl) (by kernel_rfl) (by kernel_rfl) (fun _ _ _ h => h) (Or.inl ⟨by rfl, ?_⟩) (by assumption) ?_
          rotate_left
          · intro wS hSw
            (try dsimp only at hSw)
            go_simp
            (try with_reducible rfl)
          (try simp only [Act.put, List.setIfInBounds_toArray, List.set_cons_zero, List.set_cons_succ])
          refine wpAnyH_take (i := 36) (oi := { dst := some 176, op := Go.Op.load 22 (Go.Operand.tmp 175), type := 22, pos := "law.go:247", after := #[{ on := 35, ground := Go.Ground.data }, { on := 20, ground := Go.Ground.guard }], guard := some (20, false) }) (v := ?_) rfl (by kernel_rfl) (by kernel_rfl) (by kernel_rfl) (fun _ _ _ h => h) (Or.inl ⟨by rfl, ?_⟩) (by assumption) ?_
          rotate_left
          · intro wS hSw
            ((have c9 := HY2.out _ hSw); go_simp; (try with_reducible rfl))
          (try simp only [Act.put, List.setIfInBounds_toArray, List.set_cons_zero, List.set_cons_succ])
          refine wpAnyH_ready (rs := [37]) (by kernel_rfl) (by simp) ?_
          refine AllReadyH.cons (o := { dst := some 177, op := Go.Op.call { callee := Go.Callee.value (Go.Operand.func 26), args := #[Go.Operand.tmp 171, Go.Operand.tmp 176], argTypes := #[22, 22] }, type := 22, pos := "law.go:247", after := #[{ on := 31, ground := Go.Ground.data }, { on := 36, ground := Go.Ground.data }, { on := 20, ground := Go.Ground.chain }, { on := 20, ground := Go.Ground.guard }], guard := some (20, false) }) rfl (fun K hK => ?_) AllReadyH.nil
          go_simp
          (refine (sum_any (some ⟨h1, 0, none⟩) (some ⟨h2, 0, none⟩) L L L L (shF s d k q) (shF fo ff k q) W7 HB1.out HB2.out (Nat.le_refl _) HLL.out.1 HLL.out.2.1).mono ?_; rintro e W8 ⟨g9, q9, rfl, -, -, hB9, hb9⟩; have HB9 := Lib.hid hB9; have hP_1 := hP_0.trans (hb9.mono hP_0.size); clear hB9 hb9 hP_0; skip)
          (try go_wp2_with fail)
          refine hK.out _ _ ?_ (fun hHeld => ?_)
          · (try dsimp only)
            first | assumption | exact hP_0 | exact hP_1
          clear hK K
          (try simp only [Act.put, List.setIfInBounds_toArray, List.set_cons_zero, List.set_cons_succ])
          refine wpAnyH_ready (rs := [38]) (by kernel_rfl) (by simp) ?_
          refine AllReadyH.cons (o := { dst := some 178, op := Go.Op.convert 22 9 (Go.Operand.tmp 177), type := 9, pos := "law.go:247", after := #[{ on := 37, ground := Go.Ground.data }, { on := 20, ground := Go.Ground.guard }], guard := some (20, false) }) rfl (fun K hK => ?_) AllReadyH.nil
          (refine step_valueG (by rfl) (exec_convO (x := .tmp 177) (oa := some ⟨g9, 0, none⟩) (n := L) (cap := q9) rfl rfl (Bytes.conv HB9.out)) ?_; rw [HEQ.out]; skip)
          refine hK.out _ _ ?_ (fun hHeld => ?_)
          · (try dsimp only)
            first | assumption | exact hP_0 | exact hP_1
          clear hK K
          (try simp only [Act.put, List.setIfInBounds_toArray, List.set_cons_zero, List.set_cons_succ])
          refine wpAnyH_take (i := 39) (oi := { dst := some 179, op := Go.Op.binOp Go.BinOp.neq 9 (Go.Operand.tmp 166) (Go.Operand.tmp 178) 9, type := 4, pos := "law.go:247", after := #[{ on := 26, ground := Go.Ground.data }, { on := 38, ground := Go.Ground.data }, { on := 20, ground := Go.Ground.guard }], guard := some (20, false) }) (v := ?_) rfl (by kernel_rfl) (by kernel_rfl) (by kernel_rfl) (fun _ _ _ h => h) (Or.inl ⟨by rfl, ?_⟩) (by assumption) ?_
          rotate_left
          · intro wS hSw
            (try dsimp only at hSw)
            go_simp
            (try with_reducible rfl)
          (try simp only [Act.put, List.setIfInBounds_toArray, List.set_cons_zero, List.set_cons_succ])
          refine wpAnyH_take (i := 40) (oi := { dst := some 180, op := Go.Op.pick (Go.Operand.tmp 160) (Go.Operand.const (Go.Value.bool true)) (Go.Operand.tmp 179), type := 4, pos := "law.go:247", after := #[{ on := 20, ground := Go.Ground.data }, { on := 39, ground := Go.Ground.data }], guard := none }) (v := ?_) rfl (by kernel_rfl) (by kernel_rfl) (by kernel_rfl) (fun _ _ _ h => h) (Or.inl ⟨by rfl, ?_⟩) (by assumption) ?_
          rotate_left
          · intro wS hSw
            (try dsimp only at hSw)
            go_simp
            (try with_reducible rfl)
          (try simp only [Act.put, List.setIfInBounds_toArray, List.set_cons_zero, List.set_cons_succ])
          refine wpAnyH_done (by kernel_rfl) ?_ _
          have HB8 := Lib.hid hP_1
          clear hP_1
          go_wp2_with fail
          go_roundw
          case rel => exact ⟨i + 1, by omega, by go_num, HB8.out⟩
          case measure => simp [intOf]; omega
        · have HBE := Lib.hid ((HB3.out.trans (HO6.out.below HN5.out.2.2.2.2.2.1 HB3.out.size)).trans (HB7.out.mono (Nat.le_trans HB3.out.size HO6.out.size)))
          have HSU := Lib.hid (sure03 wr (HG.out.below HBE.out HG.out.2))
          go_wp2_with fail
          refine HSU.out.mono ?_
          rintro e w9 ⟨rfl, hb⟩
          have HBF := Lib.hid (HBE.out.trans (hb.mono HBE.out.size))
          clear hb
          go_wp2_with fail
          go_ret
          exact ⟨rfl, HBF.out⟩
end Go.Proofs.YtmhofofidmbgfaaDoor
