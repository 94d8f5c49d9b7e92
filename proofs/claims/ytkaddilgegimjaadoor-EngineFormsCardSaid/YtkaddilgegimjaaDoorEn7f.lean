/- engine.Put where the first one goes. -/
import Derived.Test.YtkaddilgegimjaaDoorEn7
namespace Go.Proofs.YtkaddilgegimjaaDoor
set_option linter.unusedVariables false
set_option linter.unusedSimpArgs false
open Go.RowKit

set_option maxRecDepth 100000 in
set_option maxHeartbeats 4000000 in
theorem put_nf (oa : Option Addr) (n cp last : Nat) (max : Int) (V : Nat → Ver) (w : World) (L : Nat) (hL : last + 1 = L) (hn : (n + 1) ≤ maxLen) (hl : last < 4294967295) (hV : Vers w oa (n + 1) V) (od : Option Addr) (dl dc : Nat) (df : Nat → Nat) (cas : Int) (now : Nat) (h : SecOk (n + 1) last max V) (hd : dl ≤ 100) (hc : cas < 0) (hB : Bytes w od dl df) (hno : od = none → dl = 0) (hx : ((n + 1 : Nat) : Int) = max) (hcp : cp ≠ 1) (hle : n + 1 ≤ cp) :
    Calls Tryd.prog 43 #[.agg #[.slice oa (n + 1) cp, .int .u32 (last : Int), .int .i64 max], .slice od dl dc, .int .i64 cas, .int .u64 (now : Int)] w fun e w' => ∃ v, e = .returned (.tuple #[.agg #[v, .int .u32 (L : Int), .int .i64 max], .nilIface]) ∧ GV w' w.heap.size v (n + 1) (putV V 1 n ⟨L, dl, df, now, 0⟩) ∧ Below w.heap.size w w' := by
  have HV0 := Lib.hid hV
  have HV := Lib.hid (hV.later (((Below.refl _ _).alloc (Nat.le_refl _) _).alloc (by simp) _ : Below w.heap.size w ((w.alloc (.cells #[.slice oa (n + 1) cp, .int .u32 (last : Int), .int .i64 max] 79)).alloc (.cells #[.slice none 0 0, .int .u32 0, .int .i64 0] 79))))
  have HN := Lib.hid hn
  have HS := Lib.hid h
  have HLs := Lib.hid hl
  have HL := Lib.hid fun j (hj : j < (n + 1)) => (h.2 j hj).2.1
  have HN8 := Lib.hid (show (((n + 1) : Nat) : Int) ≤ 8 by have := h.1.2.1; have := h.1.2.2.1; omega)
  have HB := Lib.hid hB
  have HNo := Lib.hid hno
  have HD := Lib.hid (show dl < 100000000000000 by omega)
  have d0 : (dl : Int) ≤ 100 := by omega
  have l0 : (last : Int) ≤ 4294967295 := by omega
  have l1 : (0 : Int) ≤ (last : Int) := by omega
  have l2 : ((last : Int) == 4294967295) = false := by rw [beq_eq_false_iff_ne]; omega
  have l3 : IntKind.u32.wrap ((last : Int) + 1) = (L : Int) := by rw [IntKind.wrap_u32]; omega
  have x0 : (((n + 1 : Nat) : Int) == max) = true := by rw [beq_iff_eq]; exact hx
  have hn0 : 0 < n + 1 := by omega
  obtain ⟨b, off, _, _, rfl, _⟩ := hV.get 0 hn0
  have q0 : (1 : Int) ≤ ((n + 1 : Nat) : Int) := by omega
  have q1 : ((n + 1 : Nat) : Int) ≤ (cp : Int) := by omega
  have q2 : (1 : Int) ≤ (cp : Int) := by omega
  have q3 : ¬ (cp = 1) := hcp
  have c0 : decide (0 ≤ cas) = false := decide_eq_false (by omega)
  clear hL hV hn h hd hB hno hx hl hcp hle hn0 
  go_enter Tryd.func43, Tryd.ntmps43
  go_wp2_with fail
  refine (check_yes (some ⟨b, off, none⟩) (n + 1) cp last max V _ HN.out (Nat.lt_succ_of_lt HLs.out) HV.out HS.out).mono ?_
  rintro e w1 ⟨rfl, hb⟩
  have hX : Blk w1 (w.heap.size + 1) #[.slice none 0 0, .int .u32 0, .int .i64 0] 79 := Blk.below (blk2' _ _ _ _ _) hb (by simp)
  have hS : Blk w1 w.heap.size #[.slice (some ⟨b, off, none⟩) (n + 1) cp, .int .u32 (last : Int), .int .i64 max] 79 := Blk.below (blk2 _ _ _ _ _) hb (by simp; omega)
  have hO : Below w.heap.size w w1 := (((Below.refl _ _).alloc (Nat.le_refl _) _).alloc (by simp) _).trans (hb.mono (by simp; omega))
  have x1 : w1.cell? ⟨w.heap.size, 0, none⟩ = some (.slice (some ⟨b, off, none⟩) (n + 1) cp) := Blk.cell hS 0
  have x2 : w1.cell? ⟨w.heap.size, 1, none⟩ = some (.int .u32 (last : Int)) := Blk.cell hS 1
  have x3 : w1.cell? ⟨w.heap.size, 2, none⟩ = some (.int .i64 max) := Blk.cell hS 2
  have f0 : w1.frozen? ⟨w.heap.size, 0, none⟩ = false := Blk.free hS 0
  have hO1 : Below w.heap.size w (w1.setCell ⟨w.heap.size, 0, none⟩ (.slice (some ⟨b, off + 4, none⟩) n (cp - 1))) := hO.setCell (Nat.le_refl _) _
  have hX1 : Blk (w1.setCell ⟨w.heap.size, 0, none⟩ (.slice (some ⟨b, off + 4, none⟩) n (cp - 1))) (w.heap.size + 1) #[.slice none 0 0, .int .u32 0, .int .i64 0] 79 := Blk.set_other hX (by simp) _
  have hS1 := Blk.set hS 0 (.slice (some ⟨b, off + 4, none⟩) n (cp - 1))
  have e1 : (w1.setCell ⟨w.heap.size, 0, none⟩ (.slice (some ⟨b, off + 4, none⟩) n (cp - 1))).cell? ⟨w.heap.size, 0, none⟩ = some (.slice (some ⟨b, off + 4, none⟩) n (cp - 1)) := Blk.cell hS1 0
  have e2 : (w1.setCell ⟨w.heap.size, 0, none⟩ (.slice (some ⟨b, off + 4, none⟩) n (cp - 1))).cell? ⟨w.heap.size, 1, none⟩ = some (.int .u32 (last : Int)) := Blk.cell hS1 1
  have e3 : (w1.setCell ⟨w.heap.size, 0, none⟩ (.slice (some ⟨b, off + 4, none⟩) n (cp - 1))).cell? ⟨w.heap.size, 2, none⟩ = some (.int .i64 max) := Blk.cell hS1 2
  have HX := Lib.hid hX1
  have HO := Lib.hid hO1
  have HV1 := Lib.hid (HV0.out.from1.later hO1)
  have HB1 := Lib.hid (HB.out.later hO1)
  have hlt1 : w.heap.size + 1 < w1.heap.size := Blk.lt hX
  have HLT := Lib.hid hlt1
  clear hX hS hO hb hO1 hX1 hS1 hlt1
  go_wp2_with fail
  refine (copied_any (some ⟨b, off + 4, none⟩) n (cp - 1) _ _ (fun i => V (i + 1)) _ HV1.out (fun i hi => HL.out (i + 1) (by omega)) (by have := HN8.out; omega)).mono ?_
  rintro e w2 ⟨v, rfl, hG2, hb2⟩
  obtain ⟨ov, cv, rfl, hcv, hcm⟩ := hG2.slice
  have hO2 := HO.out.trans (hb2.mono HO.out.size)
  have hX2 := Blk.below HX.out hb2 (Blk.lt HX.out)
  have HG2 := Lib.hid ((GV.congr (U := (putV V 1 n ⟨L, dl, df, now, 0⟩)) hG2 fun i hi => by show _ = if i = n then _ else _; rw [if_neg (by omega)]).mono (base' := w1.heap.size) (Nat.le_of_eq (by simp [World.setCell])))
  have HX2 := Lib.hid hX2
  have HO2 := Lib.hid hO2
  have HB2 := Lib.hid (HB1.out.later hb2)
  have hs2 : w1.heap.size ≤ w2.heap.size := by have := hb2.size; simp [World.setCell] at this; omega
  have HS2 := Lib.hid hs2
  clear hG2 hO2 hX2 hb2 hs2 HX HO HV1 HB1 hcv hcm x1 x2 x3 e1 e2 e3 f0
  have hY2 := Blk.new w2 #[.slice ov n cv, .int .u32 (L : Int), .int .i64 max] 79
  have HY2 := Lib.hid hY2
  have y0 : (w2.alloc (.cells #[.slice ov n cv, .int .u32 (L : Int), .int .i64 max] 79)).cell? ⟨w2.heap.size, 0, none⟩ = some (.slice ov n cv) := Blk.cell hY2 0
  have y1 : (w2.alloc (.cells #[.slice ov n cv, .int .u32 (L : Int), .int .i64 max] 79)).cell? ⟨w2.heap.size, 1, none⟩ = some (.int .u32 (L : Int)) := Blk.cell hY2 1
  clear hY2
  go_wp2_with fail
  go_region_law (first
    | (refine step_appV rfl (.tmp 55) (.tmp 62) rfl w1.heap.size (.slice ov n cv) n (putV V 1 n ⟨L, dl, df, now, 0⟩) [.int .u32 (L : Int), .slice od' dl cap', .int .u64 (now : Int), .int .i64 0] w3 _ rfl HG3.out HC3.out HAW.out ⟨rfl, rfl, rfl, rfl⟩ rfl HN48.out HS3.out ?_; intro g capg w5 hG5 hg5 hb5 hs5 hat5; have hY5 := HY3.out.grown hg5 HNE.out; have u0 : w5.cell? ⟨w2.heap.size, 0, none⟩ = some (.slice ov n cv) := Blk.cell hY5 0; have f0 : w5.frozen? ⟨w2.heap.size, 0, none⟩ = false := Blk.free hY5 0; have HG5 := Lib.hid hG5; have HGr := Lib.hid hg5; have HB5 := Lib.hid hb5; have HY5 := Lib.hid hY5; have HAT := Lib.hid hat5; clear hG5 hg5 hb5 hY5 hat5)
    | (go_simp; go_at_call 89; refine (clone_any od dl dc df _ ?_ HD.out HNo.out).mono ?_; exact HB2.out.alloc _; rintro e w3 ⟨od', cap', rfl, hB3, hno3, hlc3, hcm3, hge3, hb3⟩; have HY3 := Lib.hid (Blk.below (Blk.drew HY2.out) hb3 (Blk.lt (Blk.drew HY2.out))); have HB23 : Hid (Below w2.heap.size w2 w3) := Lib.hid ((below_drew' ((Below.refl w2.heap.size w2).alloc (Nat.le_refl _) (.cells #[.slice ov n cv, .int .u32 (L : Int), .int .i64 max] 79))).trans (hb3.mono (by simp))); have t0 : w3.cell? ⟨w2.heap.size, 0, none⟩ = some (.slice ov n cv) := Blk.cell HY3.out 0; have t1 : w3.cell? ⟨w2.heap.size, 1, none⟩ = some (.int .u32 (L : Int)) := Blk.cell HY3.out 1; have hlt3 : w2.heap.size < w3.heap.size := Blk.lt HY3.out; have HG3 := Lib.hid (HG2.out.later HB23.out); have HC3 : Hid (IsVer w3 [.int .u32 (L : Int), .slice od' dl cap', .int .u64 (now : Int), .int .i64 0] ((putV V 1 n ⟨L, dl, df, now, 0⟩) n)) := Lib.hid (putV_at ▸ ⟨od', cap', rfl, hB3, hno3, hlc3, hcm3⟩); have HAW : Hid (Away (.slice ov n cv) [.int .u32 (L : Int), .slice od' dl cap', .int .u64 (now : Int), .int .i64 0]) := Lib.hid (away_new (fun q hq => (HG2.out.ownb q hq).2) (fun a ha => by have := hge3 a ha; simp at this; omega)); have HN48 := Lib.hid (show (n + 1) * 48 ≤ 140737488355328 by have := HN8.out; omega); have HS3 := Lib.hid (show w1.heap.size ≤ w3.heap.size from Nat.le_trans HS2.out (Nat.le_of_lt hlt3)); have HNE := Lib.hid (show (Value.slice ov n cv).ownBlock ≠ some w2.heap.size from fun e => Nat.lt_irrefl _ (HG2.out.ownb _ e).2); clear hB3 hno3 hlc3 hcm3 hge3 hb3))
  all_goals
    have hlt := HLT.out
    have hsz2 := HS2.out
    have hX3 := Blk.below HX2.out HB23.out (Nat.lt_of_lt_of_le hlt hsz2)
    have hX5 := hX3.grown HGr.out (fun e => by have := (HG2.out.ownb _ e).1; omega)
    have hX6 := Blk.set_other hX5 (a := ⟨w2.heap.size, 0, none⟩) (by simp; omega) (.slice (some ⟨g, 0, none⟩) (n + 1) capg)
    have hY6 := Blk.set HY5.out 0 (.slice (some ⟨g, 0, none⟩) (n + 1) capg)
    have hG6 := HG5.out.set_ne (k := 0) (x := .slice (some ⟨g, 0, none⟩) (n + 1) capg) HY5.out no_u8_3 (fun e => by
      have e' : g = w2.heap.size := by simpa [Value.ownBlock] using e
      rcases HAT.out with h | h
      · have := (HG2.out.ownb _ h).2; omega
      · omega)
    have hO6 : Below w.heap.size w (w5.setCell ⟨w2.heap.size, 0, none⟩ (.slice (some ⟨g, 0, none⟩) (n + 1) capg)) := ((HO2.out.trans (HB23.out.mono (by omega))).trans (HB5.out.mono (by omega))).setCell (by simp; omega) _
    have y0 : (w5.setCell ⟨w2.heap.size, 0, none⟩ (.slice (some ⟨g, 0, none⟩) (n + 1) capg)).cell? ⟨w2.heap.size, 0, none⟩ = some (.slice (some ⟨g, 0, none⟩) (n + 1) capg) := Blk.cell hY6 0
    have y1 : (w5.setCell ⟨w2.heap.size, 0, none⟩ (.slice (some ⟨g, 0, none⟩) (n + 1) capg)).cell? ⟨w2.heap.size, 1, none⟩ = some (.int .u32 (L : Int)) := Blk.cell hY6 1
    have y2 : (w5.setCell ⟨w2.heap.size, 0, none⟩ (.slice (some ⟨g, 0, none⟩) (n + 1) capg)).cell? ⟨w2.heap.size, 2, none⟩ = some (.int .i64 max) := Blk.cell hY6 2
    have hG7 := hG6.set_apart (k := 0) (x := .slice (some ⟨g, 0, none⟩) (n + 1) capg) hX6 no_u8_3 hlt
    have hG8 := hG7.set_apart (k := 1) (x := .int .u32 (L : Int)) (Blk.set hX6 0 _) no_u8_3 hlt
    have hG9 := hG8.set_apart (k := 2) (x := .int .i64 max) (Blk.set (Blk.set hX6 0 _) 1 _) no_u8_3 hlt
    have HG9 := Lib.hid (hG9.mono (base' := w.heap.size) (by omega))
    have s0 : (w5.setCell ⟨w2.heap.size, 0, none⟩ (.slice (some ⟨g, 0, none⟩) (n + 1) capg)).cell? ⟨w.heap.size + 1, 0, none⟩ = some (.slice none 0 0) := Blk.cell hX6 0
    have z0 : (w5.setCell ⟨w2.heap.size, 0, none⟩ (.slice (some ⟨g, 0, none⟩) (n + 1) capg)).frozen? ⟨w.heap.size + 1, 0, none⟩ = false := Blk.free hX6 0
    have s1 : (w5.setCell ⟨w2.heap.size, 0, none⟩ (.slice (some ⟨g, 0, none⟩) (n + 1) capg)).cell? ⟨w.heap.size + 1, 1, none⟩ = some (.int .u32 0) := Blk.cell hX6 1
    have z1 : (w5.setCell ⟨w2.heap.size, 0, none⟩ (.slice (some ⟨g, 0, none⟩) (n + 1) capg)).frozen? ⟨w.heap.size + 1, 1, none⟩ = false := Blk.free hX6 1
    have s2 : (w5.setCell ⟨w2.heap.size, 0, none⟩ (.slice (some ⟨g, 0, none⟩) (n + 1) capg)).cell? ⟨w.heap.size + 1, 2, none⟩ = some (.int .i64 0) := Blk.cell hX6 2
    have z2 : (w5.setCell ⟨w2.heap.size, 0, none⟩ (.slice (some ⟨g, 0, none⟩) (n + 1) capg)).frozen? ⟨w.heap.size + 1, 2, none⟩ = false := Blk.free hX6 2
    have a0 : ((w5.setCell ⟨w2.heap.size, 0, none⟩ (.slice (some ⟨g, 0, none⟩) (n + 1) capg)).setCell ⟨w.heap.size + 1, 0, none⟩ (.slice (some ⟨g, 0, none⟩) (n + 1) capg)).cell? ⟨w.heap.size + 1, 0, none⟩ = some (.slice (some ⟨g, 0, none⟩) (n + 1) capg) := Blk.cell (Blk.set hX6 0 _) 0
    have a1 : (((w5.setCell ⟨w2.heap.size, 0, none⟩ (.slice (some ⟨g, 0, none⟩) (n + 1) capg)).setCell ⟨w.heap.size + 1, 0, none⟩ (.slice (some ⟨g, 0, none⟩) (n + 1) capg)).setCell ⟨w.heap.size + 1, 1, none⟩ (.int .u32 (L : Int))).cell? ⟨w.heap.size + 1, 1, none⟩ = some (.int .u32 (L : Int)) := Blk.cell (Blk.set (Blk.set hX6 0 _) 1 _) 1
    have a2 : ((((w5.setCell ⟨w2.heap.size, 0, none⟩ (.slice (some ⟨g, 0, none⟩) (n + 1) capg)).setCell ⟨w.heap.size + 1, 0, none⟩ (.slice (some ⟨g, 0, none⟩) (n + 1) capg)).setCell ⟨w.heap.size + 1, 1, none⟩ (.int .u32 (L : Int))).setCell ⟨w.heap.size + 1, 2, none⟩ (.int .i64 max)).cell? ⟨w.heap.size + 1, 2, none⟩ = some (.int .i64 max) := Blk.cell (Blk.set (Blk.set (Blk.set hX6 0 _) 1 _) 2 _) 2
    have A0 := Lib.hid a0
    have A1 := Lib.hid a1
    have A2 := Lib.hid a2
    clear a0 a1 a2
    have HO6 := Lib.hid hO6
    clear hX3 hX5 hX6 hY6 hG6 hO6 hG7 hG8 hG9 HY5 HG5 HGr HB5 HAT HG3 HC3 HAW HS3 HNE HN48 HY3 HB23 HY2 HG2 HX2 HO2 hlt hsz2 hs5 u0 f0 t0 t1 hlt3
    go_wp2_with fail
    refine bodyPost_ret (v := .tuple #[.agg #[.slice (some ⟨g, 0, none⟩) (n + 1) capg, .int .u32 (L : Int), .int .i64 max], .nilIface]) ?_ rfl ⟨_, rfl, HG9.out, ?_⟩
    · simp [results, Tryd.results43, go_sem, A0.out, A1.out, A2.out]
    · exact (((HO6.out).setCell (by simp) _).setCell (by simp) _).setCell (by simp) _
set_option maxRecDepth 100000 in
set_option maxHeartbeats 4000000 in
theorem put_cf (oa : Option Addr) (n cp last : Nat) (max : Int) (V : Nat → Ver) (w : World) (L : Nat) (hL : last + 1 = L) (hn : (n + 1) ≤ maxLen) (hl : last < 4294967295) (hV : Vers w oa (n + 1) V) (od : Option Addr) (dl dc : Nat) (df : Nat → Nat) (cas : Int) (now : Nat) (h : SecOk (n + 1) last max V) (hd : dl ≤ 100) (hc : cas = (last : Int)) (hB : Bytes w od dl df) (hno : od = none → dl = 0) (hx : ((n + 1 : Nat) : Int) = max) (hcp : cp ≠ 1) (hle : n + 1 ≤ cp) :
    Calls Tryd.prog 43 #[.agg #[.slice oa (n + 1) cp, .int .u32 (last : Int), .int .i64 max], .slice od dl dc, .int .i64 cas, .int .u64 (now : Int)] w fun e w' => ∃ v, e = .returned (.tuple #[.agg #[v, .int .u32 (L : Int), .int .i64 max], .nilIface]) ∧ GV w' w.heap.size v (n + 1) (putV V 1 n ⟨L, dl, df, now, 0⟩) ∧ Below w.heap.size w w' := by
  have HV0 := Lib.hid hV
  have HV := Lib.hid (hV.later (((Below.refl _ _).alloc (Nat.le_refl _) _).alloc (by simp) _ : Below w.heap.size w ((w.alloc (.cells #[.slice oa (n + 1) cp, .int .u32 (last : Int), .int .i64 max] 79)).alloc (.cells #[.slice none 0 0, .int .u32 0, .int .i64 0] 79))))
  have HN := Lib.hid hn
  have HS := Lib.hid h
  have HLs := Lib.hid hl
  have HL := Lib.hid fun j (hj : j < (n + 1)) => (h.2 j hj).2.1
  have HN8 := Lib.hid (show (((n + 1) : Nat) : Int) ≤ 8 by have := h.1.2.1; have := h.1.2.2.1; omega)
  have HB := Lib.hid hB
  have HNo := Lib.hid hno
  have HD := Lib.hid (show dl < 100000000000000 by omega)
  have d0 : (dl : Int) ≤ 100 := by omega
  have l0 : (last : Int) ≤ 4294967295 := by omega
  have l1 : (0 : Int) ≤ (last : Int) := by omega
  have l2 : ((last : Int) == 4294967295) = false := by rw [beq_eq_false_iff_ne]; omega
  have l3 : IntKind.u32.wrap ((last : Int) + 1) = (L : Int) := by rw [IntKind.wrap_u32]; omega
  have x0 : (((n + 1 : Nat) : Int) == max) = true := by rw [beq_iff_eq]; exact hx
  have hn0 : 0 < n + 1 := by omega
  obtain ⟨b, off, _, _, rfl, _⟩ := hV.get 0 hn0
  have q0 : (1 : Int) ≤ ((n + 1 : Nat) : Int) := by omega
  have q1 : ((n + 1 : Nat) : Int) ≤ (cp : Int) := by omega
  have q2 : (1 : Int) ≤ (cp : Int) := by omega
  have q3 : ¬ (cp = 1) := hcp
  subst hc
  clear hL hV hn h hd hB hno hx hl hcp hle hn0 
  go_enter Tryd.func43, Tryd.ntmps43
  go_wp2_with fail
  refine (check_yes (some ⟨b, off, none⟩) (n + 1) cp last max V _ HN.out (Nat.lt_succ_of_lt HLs.out) HV.out HS.out).mono ?_
  rintro e w1 ⟨rfl, hb⟩
  have hX : Blk w1 (w.heap.size + 1) #[.slice none 0 0, .int .u32 0, .int .i64 0] 79 := Blk.below (blk2' _ _ _ _ _) hb (by simp)
  have hS : Blk w1 w.heap.size #[.slice (some ⟨b, off, none⟩) (n + 1) cp, .int .u32 (last : Int), .int .i64 max] 79 := Blk.below (blk2 _ _ _ _ _) hb (by simp; omega)
  have hO : Below w.heap.size w w1 := (((Below.refl _ _).alloc (Nat.le_refl _) _).alloc (by simp) _).trans (hb.mono (by simp; omega))
  have x1 : w1.cell? ⟨w.heap.size, 0, none⟩ = some (.slice (some ⟨b, off, none⟩) (n + 1) cp) := Blk.cell hS 0
  have x2 : w1.cell? ⟨w.heap.size, 1, none⟩ = some (.int .u32 (last : Int)) := Blk.cell hS 1
  have x3 : w1.cell? ⟨w.heap.size, 2, none⟩ = some (.int .i64 max) := Blk.cell hS 2
  have f0 : w1.frozen? ⟨w.heap.size, 0, none⟩ = false := Blk.free hS 0
  have hO1 : Below w.heap.size w (w1.setCell ⟨w.heap.size, 0, none⟩ (.slice (some ⟨b, off + 4, none⟩) n (cp - 1))) := hO.setCell (Nat.le_refl _) _
  have hX1 : Blk (w1.setCell ⟨w.heap.size, 0, none⟩ (.slice (some ⟨b, off + 4, none⟩) n (cp - 1))) (w.heap.size + 1) #[.slice none 0 0, .int .u32 0, .int .i64 0] 79 := Blk.set_other hX (by simp) _
  have hS1 := Blk.set hS 0 (.slice (some ⟨b, off + 4, none⟩) n (cp - 1))
  have e1 : (w1.setCell ⟨w.heap.size, 0, none⟩ (.slice (some ⟨b, off + 4, none⟩) n (cp - 1))).cell? ⟨w.heap.size, 0, none⟩ = some (.slice (some ⟨b, off + 4, none⟩) n (cp - 1)) := Blk.cell hS1 0
  have e2 : (w1.setCell ⟨w.heap.size, 0, none⟩ (.slice (some ⟨b, off + 4, none⟩) n (cp - 1))).cell? ⟨w.heap.size, 1, none⟩ = some (.int .u32 (last : Int)) := Blk.cell hS1 1
  have e3 : (w1.setCell ⟨w.heap.size, 0, none⟩ (.slice (some ⟨b, off + 4, none⟩) n (cp - 1))).cell? ⟨w.heap.size, 2, none⟩ = some (.int .i64 max) := Blk.cell hS1 2
  have HX := Lib.hid hX1
  have HO := Lib.hid hO1
  have HV1 := Lib.hid (HV0.out.from1.later hO1)
  have HB1 := Lib.hid (HB.out.later hO1)
  have hlt1 : w.heap.size + 1 < w1.heap.size := Blk.lt hX
  have HLT := Lib.hid hlt1
  clear hX hS hO hb hO1 hX1 hS1 hlt1
  go_wp2_with fail
  refine (copied_any (some ⟨b, off + 4, none⟩) n (cp - 1) _ _ (fun i => V (i + 1)) _ HV1.out (fun i hi => HL.out (i + 1) (by omega)) (by have := HN8.out; omega)).mono ?_
  rintro e w2 ⟨v, rfl, hG2, hb2⟩
  obtain ⟨ov, cv, rfl, hcv, hcm⟩ := hG2.slice
  have hO2 := HO.out.trans (hb2.mono HO.out.size)
  have hX2 := Blk.below HX.out hb2 (Blk.lt HX.out)
  have HG2 := Lib.hid ((GV.congr (U := (putV V 1 n ⟨L, dl, df, now, 0⟩)) hG2 fun i hi => by show _ = if i = n then _ else _; rw [if_neg (by omega)]).mono (base' := w1.heap.size) (Nat.le_of_eq (by simp [World.setCell])))
  have HX2 := Lib.hid hX2
  have HO2 := Lib.hid hO2
  have HB2 := Lib.hid (HB1.out.later hb2)
  have hs2 : w1.heap.size ≤ w2.heap.size := by have := hb2.size; simp [World.setCell] at this; omega
  have HS2 := Lib.hid hs2
  clear hG2 hO2 hX2 hb2 hs2 HX HO HV1 HB1 hcv hcm x1 x2 x3 e1 e2 e3 f0
  have hY2 := Blk.new w2 #[.slice ov n cv, .int .u32 (L : Int), .int .i64 max] 79
  have HY2 := Lib.hid hY2
  have y0 : (w2.alloc (.cells #[.slice ov n cv, .int .u32 (L : Int), .int .i64 max] 79)).cell? ⟨w2.heap.size, 0, none⟩ = some (.slice ov n cv) := Blk.cell hY2 0
  have y1 : (w2.alloc (.cells #[.slice ov n cv, .int .u32 (L : Int), .int .i64 max] 79)).cell? ⟨w2.heap.size, 1, none⟩ = some (.int .u32 (L : Int)) := Blk.cell hY2 1
  clear hY2
  go_wp2_with fail
  go_region_law (first
    | (refine step_appV rfl (.tmp 55) (.tmp 62) rfl w1.heap.size (.slice ov n cv) n (putV V 1 n ⟨L, dl, df, now, 0⟩) [.int .u32 (L : Int), .slice od' dl cap', .int .u64 (now : Int), .int .i64 0] w3 _ rfl HG3.out HC3.out HAW.out ⟨rfl, rfl, rfl, rfl⟩ rfl HN48.out HS3.out ?_; intro g capg w5 hG5 hg5 hb5 hs5 hat5; have hY5 := HY3.out.grown hg5 HNE.out; have u0 : w5.cell? ⟨w2.heap.size, 0, none⟩ = some (.slice ov n cv) := Blk.cell hY5 0; have f0 : w5.frozen? ⟨w2.heap.size, 0, none⟩ = false := Blk.free hY5 0; have HG5 := Lib.hid hG5; have HGr := Lib.hid hg5; have HB5 := Lib.hid hb5; have HY5 := Lib.hid hY5; have HAT := Lib.hid hat5; clear hG5 hg5 hb5 hY5 hat5)
    | (go_simp; go_at_call 89; refine (clone_any od dl dc df _ ?_ HD.out HNo.out).mono ?_; exact HB2.out.alloc _; rintro e w3 ⟨od', cap', rfl, hB3, hno3, hlc3, hcm3, hge3, hb3⟩; have HY3 := Lib.hid (Blk.below (Blk.drew HY2.out) hb3 (Blk.lt (Blk.drew HY2.out))); have HB23 : Hid (Below w2.heap.size w2 w3) := Lib.hid ((below_drew' ((Below.refl w2.heap.size w2).alloc (Nat.le_refl _) (.cells #[.slice ov n cv, .int .u32 (L : Int), .int .i64 max] 79))).trans (hb3.mono (by simp))); have t0 : w3.cell? ⟨w2.heap.size, 0, none⟩ = some (.slice ov n cv) := Blk.cell HY3.out 0; have t1 : w3.cell? ⟨w2.heap.size, 1, none⟩ = some (.int .u32 (L : Int)) := Blk.cell HY3.out 1; have hlt3 : w2.heap.size < w3.heap.size := Blk.lt HY3.out; have HG3 := Lib.hid (HG2.out.later HB23.out); have HC3 : Hid (IsVer w3 [.int .u32 (L : Int), .slice od' dl cap', .int .u64 (now : Int), .int .i64 0] ((putV V 1 n ⟨L, dl, df, now, 0⟩) n)) := Lib.hid (putV_at ▸ ⟨od', cap', rfl, hB3, hno3, hlc3, hcm3⟩); have HAW : Hid (Away (.slice ov n cv) [.int .u32 (L : Int), .slice od' dl cap', .int .u64 (now : Int), .int .i64 0]) := Lib.hid (away_new (fun q hq => (HG2.out.ownb q hq).2) (fun a ha => by have := hge3 a ha; simp at this; omega)); have HN48 := Lib.hid (show (n + 1) * 48 ≤ 140737488355328 by have := HN8.out; omega); have HS3 := Lib.hid (show w1.heap.size ≤ w3.heap.size from Nat.le_trans HS2.out (Nat.le_of_lt hlt3)); have HNE := Lib.hid (show (Value.slice ov n cv).ownBlock ≠ some w2.heap.size from fun e => Nat.lt_irrefl _ (HG2.out.ownb _ e).2); clear hB3 hno3 hlc3 hcm3 hge3 hb3))
  all_goals
    have hlt := HLT.out
    have hsz2 := HS2.out
    have hX3 := Blk.below HX2.out HB23.out (Nat.lt_of_lt_of_le hlt hsz2)
    have hX5 := hX3.grown HGr.out (fun e => by have := (HG2.out.ownb _ e).1; omega)
    have hX6 := Blk.set_other hX5 (a := ⟨w2.heap.size, 0, none⟩) (by simp; omega) (.slice (some ⟨g, 0, none⟩) (n + 1) capg)
    have hY6 := Blk.set HY5.out 0 (.slice (some ⟨g, 0, none⟩) (n + 1) capg)
    have hG6 := HG5.out.set_ne (k := 0) (x := .slice (some ⟨g, 0, none⟩) (n + 1) capg) HY5.out no_u8_3 (fun e => by
      have e' : g = w2.heap.size := by simpa [Value.ownBlock] using e
      rcases HAT.out with h | h
      · have := (HG2.out.ownb _ h).2; omega
      · omega)
    have hO6 : Below w.heap.size w (w5.setCell ⟨w2.heap.size, 0, none⟩ (.slice (some ⟨g, 0, none⟩) (n + 1) capg)) := ((HO2.out.trans (HB23.out.mono (by omega))).trans (HB5.out.mono (by omega))).setCell (by simp; omega) _
    have y0 : (w5.setCell ⟨w2.heap.size, 0, none⟩ (.slice (some ⟨g, 0, none⟩) (n + 1) capg)).cell? ⟨w2.heap.size, 0, none⟩ = some (.slice (some ⟨g, 0, none⟩) (n + 1) capg) := Blk.cell hY6 0
    have y1 : (w5.setCell ⟨w2.heap.size, 0, none⟩ (.slice (some ⟨g, 0, none⟩) (n + 1) capg)).cell? ⟨w2.heap.size, 1, none⟩ = some (.int .u32 (L : Int)) := Blk.cell hY6 1
    have y2 : (w5.setCell ⟨w2.heap.size, 0, none⟩ (.slice (some ⟨g, 0, none⟩) (n + 1) capg)).cell? ⟨w2.heap.size, 2, none⟩ = some (.int .i64 max) := Blk.cell hY6 2
    have hG7 := hG6.set_apart (k := 0) (x := .slice (some ⟨g, 0, none⟩) (n + 1) capg) hX6 no_u8_3 hlt
    have hG8 := hG7.set_apart (k := 1) (x := .int .u32 (L : Int)) (Blk.set hX6 0 _) no_u8_3 hlt
    have hG9 := hG8.set_apart (k := 2) (x := .int .i64 max) (Blk.set (Blk.set hX6 0 _) 1 _) no_u8_3 hlt
    have HG9 := Lib.hid (hG9.mono (base' := w.heap.size) (by omega))
    have s0 : (w5.setCell ⟨w2.heap.size, 0, none⟩ (.slice (some ⟨g, 0, none⟩) (n + 1) capg)).cell? ⟨w.heap.size + 1, 0, none⟩ = some (.slice none 0 0) := Blk.cell hX6 0
    have z0 : (w5.setCell ⟨w2.heap.size, 0, none⟩ (.slice (some ⟨g, 0, none⟩) (n + 1) capg)).frozen? ⟨w.heap.size + 1, 0, none⟩ = false := Blk.free hX6 0
    have s1 : (w5.setCell ⟨w2.heap.size, 0, none⟩ (.slice (some ⟨g, 0, none⟩) (n + 1) capg)).cell? ⟨w.heap.size + 1, 1, none⟩ = some (.int .u32 0) := Blk.cell hX6 1
    have z1 : (w5.setCell ⟨w2.heap.size, 0, none⟩ (.slice (some ⟨g, 0, none⟩) (n + 1) capg)).frozen? ⟨w.heap.size + 1, 1, none⟩ = false := Blk.free hX6 1
    have s2 : (w5.setCell ⟨w2.heap.size, 0, none⟩ (.slice (some ⟨g, 0, none⟩) (n + 1) capg)).cell? ⟨w.heap.size + 1, 2, none⟩ = some (.int .i64 0) := Blk.cell hX6 2
    have z2 : (w5.setCell ⟨w2.heap.size, 0, none⟩ (.slice (some ⟨g, 0, none⟩) (n + 1) capg)).frozen? ⟨w.heap.size + 1, 2, none⟩ = false := Blk.free hX6 2
    have a0 : ((w5.setCell ⟨w2.heap.size, 0, none⟩ (.slice (some ⟨g, 0, none⟩) (n + 1) capg)).setCell ⟨w.heap.size + 1, 0, none⟩ (.slice (some ⟨g, 0, none⟩) (n + 1) capg)).cell? ⟨w.heap.size + 1, 0, none⟩ = some (.slice (some ⟨g, 0, none⟩) (n + 1) capg) := Blk.cell (Blk.set hX6 0 _) 0
    have a1 : (((w5.setCell ⟨w2.heap.size, 0, none⟩ (.slice (some ⟨g, 0, none⟩) (n + 1) capg)).setCell ⟨w.heap.size + 1, 0, none⟩ (.slice (some ⟨g, 0, none⟩) (n + 1) capg)).setCell ⟨w.heap.size + 1, 1, none⟩ (.int .u32 (L : Int))).cell? ⟨w.heap.size + 1, 1, none⟩ = some (.int .u32 (L : Int)) := Blk.cell (Blk.set (Blk.set hX6 0 _) 1 _) 1
    have a2 : ((((w5.setCell ⟨w2.heap.size, 0, none⟩ (.slice (some ⟨g, 0, none⟩) (n + 1) capg)).setCell ⟨w.heap.size + 1, 0, none⟩ (.slice (some ⟨g, 0, none⟩) (n + 1) capg)).setCell ⟨w.heap.size + 1, 1, none⟩ (.int .u32 (L : Int))).setCell ⟨w.heap.size + 1, 2, none⟩ (.int .i64 max)).cell? ⟨w.heap.size + 1, 2, none⟩ = some (.int .i64 max) := Blk.cell (Blk.set (Blk.set (Blk.set hX6 0 _) 1 _) 2 _) 2
    have A0 := Lib.hid a0
    have A1 := Lib.hid a1
    have A2 := Lib.hid a2
    clear a0 a1 a2
    have HO6 := Lib.hid hO6
    clear hX3 hX5 hX6 hY6 hG6 hO6 hG7 hG8 hG9 HY5 HG5 HGr HB5 HAT HG3 HC3 HAW HS3 HNE HN48 HY3 HB23 HY2 HG2 HX2 HO2 hlt hsz2 hs5 u0 f0 t0 t1 hlt3
    go_wp2_with fail
    refine bodyPost_ret (v := .tuple #[.agg #[.slice (some ⟨g, 0, none⟩) (n + 1) capg, .int .u32 (L : Int), .int .i64 max], .nilIface]) ?_ rfl ⟨_, rfl, HG9.out, ?_⟩
    · simp [results, Tryd.results43, go_sem, A0.out, A1.out, A2.out]
    · exact (((HO6.out).setCell (by simp) _).setCell (by simp) _).setCell (by simp) _
end Go.Proofs.YtkaddilgegimjaaDoor
