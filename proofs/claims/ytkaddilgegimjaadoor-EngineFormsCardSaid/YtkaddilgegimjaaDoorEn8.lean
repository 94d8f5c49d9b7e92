/- engine.Put in one; engine.New; engine.turned, engine.Delete. -/
import Derived.Test.YtkaddilgegimjaaDoorEn7m
import Derived.Test.YtkaddilgegimjaaDoorEn7f
import Derived.Test.YtkaddilgegimjaaDoorEn7g
namespace Go.Proofs.YtkaddilgegimjaaDoor
set_option linter.unusedVariables false
set_option linter.unusedSimpArgs false
open Go.RowKit

/-- How many versions there are behind a put. -/
def putN (n : Nat) (max : Int) : Nat := if (n : Int) = max then n else n + 1
theorem put_ok (oa : Option Addr) (n cp last : Nat) (max : Int) (V : Nat → Ver) (w : World) (hn : n ≤ maxLen) (hl : last < 4294967295) (hV : Vers w oa n V) (hcp : n ≤ cp) (od : Option Addr) (dl dc : Nat) (df : Nat → Nat) (cas : Int) (now : Nat)
    (h : SecOk n last max V) (hd : dl ≤ 100) (hc : cas < 0 ∨ cas = (last : Int)) (hB : Bytes w od dl df) (hno : od = none → dl = 0) :
    Calls Tryd.prog 43 #[.agg #[.slice oa n cp, .int .u32 (last : Int), .int .i64 max], .slice od dl dc, .int .i64 cas, .int .u64 (now : Int)] w fun e w' => ∃ v, e = .returned (.tuple #[.agg #[v, .int .u32 ((last + 1 : Nat) : Int), .int .i64 max], .nilIface]) ∧ GV w' w.heap.size v (putN n max) (putV V (fromN n max) (putN n max - 1) ⟨last + 1, dl, df, now, 0⟩) ∧ Below w.heap.size w w' := by
  by_cases hx : (n : Int) = max
  · have e1 : putN n max = n := if_pos hx
    have e2 : fromN n max = 1 := if_pos hx
    rw [e1, e2]
    obtain ⟨m, rfl⟩ : ∃ m, n = m + 1 := ⟨n - 1, by have := h.1.1; omega⟩
    rw [Nat.add_sub_cancel]
    by_cases h1 : cp = 1
    · subst h1
      obtain rfl : m = 0 := by omega
      rcases hc with hc | hc
      · exact put_ng oa last max V w (last + 1) rfl hn hl hV od dl dc df cas now h hd hc hB hno (by omega)
      · exact put_cg oa last max V w (last + 1) rfl hn hl hV od dl dc df cas now h hd hc hB hno (by omega)
    · rcases hc with hc | hc
      · exact put_nf oa m cp last max V w (last + 1) rfl hn hl hV od dl dc df cas now h hd hc hB hno hx h1 hcp
      · exact put_cf oa m cp last max V w (last + 1) rfl hn hl hV od dl dc df cas now h hd hc hB hno hx h1 hcp
  · have e1 : putN n max = n + 1 := if_neg hx
    have e2 : fromN n max = 0 := if_neg hx
    rw [e1, e2, Nat.add_sub_cancel]
    have hlt : (n : Int) < max := by have := h.1.2.2.1; omega
    rcases hc with hc | hc
    · exact put_nm oa n cp last max V w (last + 1) rfl hn hl hV od dl dc df cas now h hd hc hB hno hlt
    · exact put_cm oa n cp last max V w (last + 1) rfl hn hl hV od dl dc df cas now h hd hc hB hno hlt
/-- Behind a put a secret may be again. -/
theorem put_sec {n last : Nat} {max : Int} {V : Nat → Ver} {dl : Nat} {df : Nat → Nat} {now : Nat} (h : SecOk n last max V) (hd : dl ≤ 100) : SecOk (putN n max) (last + 1) max (putV V (fromN n max) (putN n max - 1) ⟨last + 1, dl, df, now, 0⟩) := by
  obtain ⟨⟨h1, h2, h3, h4, h5⟩, h6⟩ := h
  by_cases hx : (n : Int) = max
  · have e1 : putN n max = n := if_pos hx
    have e2 : fromN n max = 1 := if_pos hx
    rw [e1, e2]
    refine ⟨⟨h1, h2, h3, ⟨fun e => by omega, fun e => by omega⟩, by omega⟩, fun i hi => ?_⟩
    unfold putV
    by_cases e : i = n - 1
    · rw [if_pos e]; exact ⟨by show last + 1 + n = _; omega, hd, Int.le_refl 0, (show (0 : Int) ≤ 2 by decide), fun e => by cases e⟩
    · rw [if_neg e]
      have := h6 (i + 1) (by omega)
      exact ⟨by omega, this.2⟩
  · have e1 : putN n max = n + 1 := if_neg hx
    have e2 : fromN n max = 0 := if_neg hx
    rw [e1, e2]
    refine ⟨⟨h1, h2, by omega, ⟨fun e => by omega, fun e => by omega⟩, by omega⟩, fun i hi => ?_⟩
    unfold putV
    by_cases e : i = n + 1 - 1
    · rw [if_pos e]; exact ⟨by show last + 1 + (n + 1) = _; omega, hd, Int.le_refl 0, (show (0 : Int) ≤ 2 by decide), fun e => by cases e⟩
    · rw [if_neg e]
      have := h6 (i + 0) (by omega)
      exact ⟨by omega, this.2⟩

set_option maxRecDepth 100000 in
set_option maxHeartbeats 1000000 in
theorem new2_ok (w : World) :
    Calls Tryd.prog 51 #[.int .i64 2] w fun e w' => e = .returned (.tuple #[.agg #[.slice none 0 0, .int .u32 0, .int .i64 2], .nilIface]) ∧ Below w.heap.size w w' := by
  have HS := Lib.hid (show SecOk 0 0 2 (fun _ => ⟨0, 0, fun _ => 0, 0, 0⟩) from ⟨⟨by decide, by decide, by decide, ⟨fun _ => rfl, fun _ => rfl⟩, Nat.le_refl _⟩, fun i hi => absurd hi (Nat.not_lt_zero _)⟩)
  go_enter Tryd.func51, Tryd.ntmps51
  go_wp2_with fail
  refine (check_yes none 0 0 0 2 (fun _ => ⟨0, 0, fun _ => 0, 0, 0⟩) _ (by unfold maxLen; omega) (by decide) (fun i hi => absurd hi (Nat.not_lt_zero _)) HS.out).mono ?_
  rintro e w1 ⟨rfl, hb⟩
  have hX : Blk w1 w.heap.size #[.slice none 0 0, .int .u32 0, .int .i64 0] 79 := Blk.below (blk2 _ _ _ _ _) hb (by simp; omega)
  have hY : Blk w1 (w.heap.size + 1) #[.slice none 0 0, .int .u32 0, .int .i64 2] 79 := Blk.below (blk2' _ _ _ _ _) hb (by simp)
  have y0 : w1.cell? ⟨w.heap.size + 1, 0, none⟩ = some (.slice none 0 0) := Blk.cell hY 0
  have y1 : w1.cell? ⟨w.heap.size + 1, 1, none⟩ = some (.int .u32 0) := Blk.cell hY 1
  have y2 : w1.cell? ⟨w.heap.size + 1, 2, none⟩ = some (.int .i64 2) := Blk.cell hY 2
  have hO : Below w.heap.size w w1 := (((Below.refl _ _).alloc (Nat.le_refl _) _).alloc (by simp) _).trans (hb.mono (by simp; omega))
  have s0 : w1.cell? ⟨w.heap.size, 0, none⟩ = some (.slice none 0 0) := Blk.cell hX 0
  have z0 : w1.frozen? ⟨w.heap.size, 0, none⟩ = false := Blk.free hX 0
  have s1 : w1.cell? ⟨w.heap.size, 1, none⟩ = some (.int .u32 0) := Blk.cell hX 1
  have z1 : w1.frozen? ⟨w.heap.size, 1, none⟩ = false := Blk.free hX 1
  have s2 : w1.cell? ⟨w.heap.size, 2, none⟩ = some (.int .i64 0) := Blk.cell hX 2
  have z2 : w1.frozen? ⟨w.heap.size, 2, none⟩ = false := Blk.free hX 2
  have a0 : (w1.setCell ⟨w.heap.size, 0, none⟩ (.slice none 0 0)).cell? ⟨w.heap.size, 0, none⟩ = some (.slice none 0 0) := Blk.cell (Blk.set hX 0 _) 0
  have a1 : ((w1.setCell ⟨w.heap.size, 0, none⟩ (.slice none 0 0)).setCell ⟨w.heap.size, 1, none⟩ (.int .u32 0)).cell? ⟨w.heap.size, 1, none⟩ = some (.int .u32 0) := Blk.cell (Blk.set (Blk.set hX 0 _) 1 _) 1
  have a2 : (((w1.setCell ⟨w.heap.size, 0, none⟩ (.slice none 0 0)).setCell ⟨w.heap.size, 1, none⟩ (.int .u32 0)).setCell ⟨w.heap.size, 2, none⟩ (.int .i64 2)).cell? ⟨w.heap.size, 2, none⟩ = some (.int .i64 2) := Blk.cell (Blk.set (Blk.set (Blk.set hX 0 _) 1 _) 2 _) 2
  have A0 := Lib.hid a0
  have A1 := Lib.hid a1
  have A2 := Lib.hid a2
  clear a0 a1 a2
  have HO := Lib.hid hO
  clear hX hY hb hO
  go_wp2_with fail
  refine bodyPost_ret (v := .tuple #[.agg #[.slice none 0 0, .int .u32 0, .int .i64 2], .nilIface]) ?_ rfl ⟨rfl, ?_⟩
  · simp [results, Tryd.results51, go_sem, A0.out, A1.out, A2.out]
  · exact (((HO.out).setCell (by simp) _).setCell (by simp) _).setCell (by simp) _

/-- The versions, one of them in another state. -/
def setV (V : Nat → Ver) (i : Nat) (st : Int) : Nat → Ver := fun q => if q = i then { V i with st := st } else V q
theorem GV.set_st {w : World} {base n g cap : Nat} {V : Nat → Ver} (h : GV w base (.slice (some ⟨g, 0, none⟩) n cap) n V) {i : Nat} (hi : i < n) (st : Int) :
    GV (w.setCell ⟨g, i * 4 + 3, none⟩ (.int .i64 st)) base (.slice (some ⟨g, 0, none⟩) n cap) n (setV V i st) := by
  obtain ⟨C, ⟨h1, h2⟩, h3⟩ := h
  have hlen : ∀ q, q < n → (C q).length = 4 := fun q hq => (h3 q hq).1.len
  rcases h2 with ⟨h2, _⟩ | ⟨g', cap', cur, hv, hg, hh, hnc, hm, hsz, hcur⟩
  · cases h2
  · cases hv
    refine ⟨fun q => if q = i then (C i).set 3 (.int .i64 st) else C q, ⟨?_, .inr ⟨g, cap, cur.setIfInBounds (i * 4 + 3) (.int .i64 st), rfl, hg, ?_, hnc, hm, by simp [hsz], ?_⟩⟩, fun q hq => ?_⟩
    · rw [← rws_set hlen hi (by omega), List.length_set]; exact h1
    · have hX : Blk w g cur 86 := hh
      exact Blk.set hX (i * 4 + 3) (.int .i64 st)
    · rw [← rws_set hlen hi (by omega), ← hcur, Array.toList_setIfInBounds, List.take_set]
    · have hq3 := h3 q hq
      have hby : ∀ (od : Option Addr) (len : Nat) (f : Nat → Nat) (cp : Nat), Value.slice od len cp ∈ C q → Bytes w od len f → Bytes (w.setCell ⟨g, i * 4 + 3, none⟩ (.int .i64 st)) od len f := fun od len f cp hm hB k hk => by
        obtain ⟨b1, d, off, rfl, hc⟩ := hB k hk
        refine ⟨b1, d, off, rfl, ?_⟩
        have hne : d ≠ g := fun e => hq3.2 _ _ _ hm (by omega) (by show some g = some d; rw [e])
        have : (w.setCell ⟨g, i * 4 + 3, none⟩ (.int .i64 st)).heap[d]? = w.heap[d]? := Below.heap_setCell _ _ _ _ hne
        rw [← hc]; simp only [World.cell?, this]
      obtain ⟨⟨od, cp, hC, hB, hr⟩, haw⟩ := hq3
      by_cases e : q = i
      · subst e
        refine ⟨⟨od, cp, by simp [hC, setV], ?_, ?_⟩, ?_⟩
        · simp only [setV, if_pos rfl]; exact hby od _ _ cp (by rw [hC]; simp) hB
        · simp only [setV, if_pos rfl]; exact hr
        · simp only [if_pos rfl]
          intro a l c hm hl
          rw [hC] at hm
          simp at hm
          exact haw a l c (by rw [hC]; simp [hm]) hl
      · simp only [if_neg e]
        have es : setV V i st q = V q := if_neg e
        rw [es]
        exact ⟨⟨od, cp, hC, hby od _ _ cp (by rw [hC]; simp) hB, hr⟩, haw⟩

set_option maxRecDepth 100000 in
set_option maxHeartbeats 4000000 in
theorem turned_ok (oa : Option Addr) (n cp last : Nat) (max : Int) (V : Nat → Ver) (w : World) (hn : n ≤ maxLen) (hl : last < 4294967296) (hV : Vers w oa n V) (q i : Nat) (st' : Int) (h : SecOk n last max V) (hi : i < n) (he : (V i).n = seek last q) (hst : (V i).st ≠ 2) :
    Calls Tryd.prog 92 #[.agg #[.slice oa n cp, .int .u32 (last : Int), .int .i64 max], .int .u32 (q : Int), .int .i64 st'] w fun e w' => ∃ v, e = .returned (.tuple #[.agg #[v, .int .u32 (last : Int), .int .i64 max], .nilIface]) ∧ GV w' w.heap.size v n (setV V i st') ∧ Below w.heap.size w w' := by
  have HV0 := Lib.hid hV
  have HV := Lib.hid (hV.later (((Below.refl _ _).alloc (Nat.le_refl _) _).alloc (by simp) _ : Below w.heap.size w ((w.alloc (.cells #[.slice oa n cp, .int .u32 (last : Int), .int .i64 max] 79)).alloc (.cells #[.slice none 0 0, .int .u32 0, .int .i64 0] 79))))
  have HF := Lib.hid fun w2 (hV2 : Vers w2 oa n V) => find_hit oa n cp last max V w2 hn hl hV2 q i h hi he
  have HL := Lib.hid fun j (hj : j < n) => (h.2 j hj).2.1
  have HN := Lib.hid (show n ≤ 1000 by have := h.1.2.1; have := h.1.2.2.1; omega)
  have HI := Lib.hid hi
  obtain ⟨b, off, od, cap, rfl, hB, hno, hlc, hcm, c0, c1, c2, c3⟩ := hV.get i hi
  have i0 : (0 : Int) ≤ (i : Int) := by omega
  have i1 : (i : Int) < (n : Int) := by omega
  obtain ⟨st, hs⟩ : ∃ s, (V i).st = s := ⟨_, rfl⟩
  rw [hs] at c3 hst
  have hst' : (st == 2) = false := by rw [beq_eq_false_iff_ne]; exact hst
  clear hV hn h he hi hst hB hno hlc hcm hs
  go_enter Tryd.func92, Tryd.ntmps92
  go_wp2_with fail
  refine (HF.out _ HV.out).mono ?_
  rintro e w1 ⟨rfl, hb⟩
  have hX : Blk w1 (w.heap.size + 1) #[.slice none 0 0, .int .u32 0, .int .i64 0] 79 := Blk.below (blk2' _ _ _ _ _) hb (by simp)
  have hS : Blk w1 w.heap.size #[.slice (some ⟨b, off, none⟩) n cp, .int .u32 (last : Int), .int .i64 max] 79 := Blk.below (blk2 _ _ _ _ _) hb (by simp; omega)
  have hO : Below w.heap.size w w1 := (((Below.refl _ _).alloc (Nat.le_refl _) _).alloc (by simp) _).trans (hb.mono (by simp; omega))
  have x0 : w1.cell? ⟨w.heap.size, 0, none⟩ = some (.slice (some ⟨b, off, none⟩) n cp) := Blk.cell hS 0
  have x1 : w1.cell? ⟨w.heap.size, 1, none⟩ = some (.int .u32 (last : Int)) := Blk.cell hS 1
  have x2 : w1.cell? ⟨w.heap.size, 2, none⟩ = some (.int .i64 max) := Blk.cell hS 2
  have d3 := cell_below hO c3
  have HX := Lib.hid hX
  have HO := Lib.hid hO
  have HV1 := Lib.hid (HV0.out.later hO)
  have HLT := Lib.hid (show w.heap.size + 1 < w1.heap.size from Blk.lt hX)
  clear hX hb hO hS c0 c1 c2 c3
  go_wp2_with fail
  refine (copied_any _ n cp _ _ V _ HV1.out HL.out HN.out).mono ?_
  rintro e w2 ⟨v, rfl, hG, hb2⟩
  obtain ⟨g, cv, rfl, hge, hgl, hncv⟩ : ∃ g cv, v = .slice (some ⟨g, 0, none⟩) n cv ∧ w1.heap.size ≤ g ∧ g < w2.heap.size ∧ n ≤ cv := by
    obtain ⟨C, h1, _⟩ := hG
    rcases h1.2 with ⟨_, h0⟩ | ⟨g, cp, cur, rfl, hg, hh, hnc, _⟩
    · have := HI.out; omega
    · exact ⟨g, cp, rfl, hg, lt_of_block hh, hnc⟩
  have hX2 := Blk.below HX.out hb2 (Blk.lt HX.out)
  have hO2 := HO.out.trans (hb2.mono HO.out.size)
  have hs2 := hb2.size
  have hlt2 : w.heap.size + 1 < w2.heap.size := Nat.lt_of_lt_of_le HLT.out hs2
  -- the world behind the secret of its own
  have hG3 := hG.later ((Below.refl _ _).alloc (Nat.le_refl _) (.cells #[.slice (some ⟨g, 0, none⟩) n cv, .int .u32 (last : Int), .int .i64 max] 79))
  have hX3 := Blk.alloc hX2 (.cells #[.slice (some ⟨g, 0, none⟩) n cv, .int .u32 (last : Int), .int .i64 max] 79)
  have hY3 := Blk.new w2 #[.slice (some ⟨g, 0, none⟩) n cv, .int .u32 (last : Int), .int .i64 max] 79
  have hO3 := hO2.alloc (Nat.le_of_lt (by omega)) (.cells #[.slice (some ⟨g, 0, none⟩) n cv, .int .u32 (last : Int), .int .i64 max] 79)
  have hgc : ∃ old, (w2.alloc (.cells #[.slice (some ⟨g, 0, none⟩) n cv, .int .u32 (last : Int), .int .i64 max] 79)).cell? ⟨g, i * 4 + 3, none⟩ = some old ∧ (w2.alloc (.cells #[.slice (some ⟨g, 0, none⟩) n cv, .int .u32 (last : Int), .int .i64 max] 79)).frozen? ⟨g, i * 4 + 3, none⟩ = false := by
    obtain ⟨_, cv', ev, _, _, hVv⟩ := hG3.vers
    cases ev
    obtain ⟨b', off', _, _, e', _, _, _, _, _, _, _, g3⟩ := hVv.get i HI.out
    cases e'
    obtain ⟨C, h1, _⟩ := hG3
    rcases h1.2 with ⟨h0, _⟩ | ⟨g', cp', cur, hv', _, hh, _⟩
    · cases h0
    · cases hv'
      exact ⟨_, by rw [Nat.zero_add] at g3; exact g3, Blk.free (show Blk _ g cur _ from hh) _⟩
  obtain ⟨old, o1, o2⟩ := hgc
  have hltw := HLT.out
  have hGa := hG.set_st HI.out st'
  have hXa : Blk (w2.setCell ⟨g, i * 4 + 3, none⟩ (.int .i64 st')) (w.heap.size + 1) #[.slice none 0 0, .int .u32 0, .int .i64 0] 79 := Blk.set_other hX2 (by simp; omega) _
  have hOa : Below w.heap.size w (w2.setCell ⟨g, i * 4 + 3, none⟩ (.int .i64 st')) := hO2.setCell (by simp; omega) _
  have hG5 := hGa.set_apart (k := 0) (x := .slice (some ⟨g, 0, none⟩) n cv) hXa no_u8_3 hltw
  have hG6 := hG5.set_apart (k := 1) (x := .int .u32 (last : Int)) (Blk.set hXa 0 _) no_u8_3 hltw
  have hG7 := hG6.set_apart (k := 2) (x := .int .i64 max) (Blk.set (Blk.set hXa 0 _) 1 _) no_u8_3 hltw
  have HG7 := Lib.hid ((hG7.later ((Below.refl _ _).alloc (Nat.le_refl _) (.cells #[.slice (some ⟨g, 0, none⟩) n cv, .int .u32 (last : Int), .int .i64 max] 79))).mono (base' := w.heap.size) (by omega))
  have hR := Blk.alloc (Blk.set (Blk.set (Blk.set hXa 0 (.slice (some ⟨g, 0, none⟩) n cv)) 1 (.int .u32 (last : Int))) 2 (.int .i64 max)) (.cells #[.slice (some ⟨g, 0, none⟩) n cv, .int .u32 (last : Int), .int .i64 max] 79)
  have HR := Lib.hid hR
  clear hR
  have hn1 : ¬ (w.heap.size + 1 = g) := by omega
  have hn2 : ¬ (g = w.heap.size + 1) := by omega
  have t0 : w2.cell? ⟨w.heap.size + 1, 0, none⟩ = some (.slice none 0 0) := Blk.cell hX2 0
  have u0 : w2.frozen? ⟨w.heap.size + 1, 0, none⟩ = false := Blk.free hX2 0
  have t1 : w2.cell? ⟨w.heap.size + 1, 1, none⟩ = some (.int .u32 0) := Blk.cell hX2 1
  have u1 : w2.frozen? ⟨w.heap.size + 1, 1, none⟩ = false := Blk.free hX2 1
  have t2 : w2.cell? ⟨w.heap.size + 1, 2, none⟩ = some (.int .i64 0) := Blk.cell hX2 2
  have u2 : w2.frozen? ⟨w.heap.size + 1, 2, none⟩ = false := Blk.free hX2 2
  have s0 : (w2.setCell ⟨g, i * 4 + 3, none⟩ (.int .i64 st')).cell? ⟨w.heap.size + 1, 0, none⟩ = some (.slice none 0 0) := Blk.cell hXa 0
  have z0 : (w2.setCell ⟨g, i * 4 + 3, none⟩ (.int .i64 st')).frozen? ⟨w.heap.size + 1, 0, none⟩ = false := Blk.free hXa 0
  have s1 : (w2.setCell ⟨g, i * 4 + 3, none⟩ (.int .i64 st')).cell? ⟨w.heap.size + 1, 1, none⟩ = some (.int .u32 0) := Blk.cell hXa 1
  have z1 : (w2.setCell ⟨g, i * 4 + 3, none⟩ (.int .i64 st')).frozen? ⟨w.heap.size + 1, 1, none⟩ = false := Blk.free hXa 1
  have s2 : (w2.setCell ⟨g, i * 4 + 3, none⟩ (.int .i64 st')).cell? ⟨w.heap.size + 1, 2, none⟩ = some (.int .i64 0) := Blk.cell hXa 2
  have z2 : (w2.setCell ⟨g, i * 4 + 3, none⟩ (.int .i64 st')).frozen? ⟨w.heap.size + 1, 2, none⟩ = false := Blk.free hXa 2
  have a0 : ((w2.setCell ⟨g, i * 4 + 3, none⟩ (.int .i64 st')).setCell ⟨w.heap.size + 1, 0, none⟩ (.slice (some ⟨g, 0, none⟩) n cv)).cell? ⟨w.heap.size + 1, 0, none⟩ = some (.slice (some ⟨g, 0, none⟩) n cv) := Blk.cell (Blk.set hXa 0 _) 0
  have a1 : (((w2.setCell ⟨g, i * 4 + 3, none⟩ (.int .i64 st')).setCell ⟨w.heap.size + 1, 0, none⟩ (.slice (some ⟨g, 0, none⟩) n cv)).setCell ⟨w.heap.size + 1, 1, none⟩ (.int .u32 (last : Int))).cell? ⟨w.heap.size + 1, 1, none⟩ = some (.int .u32 (last : Int)) := Blk.cell (Blk.set (Blk.set hXa 0 _) 1 _) 1
  have a2 : ((((w2.setCell ⟨g, i * 4 + 3, none⟩ (.int .i64 st')).setCell ⟨w.heap.size + 1, 0, none⟩ (.slice (some ⟨g, 0, none⟩) n cv)).setCell ⟨w.heap.size + 1, 1, none⟩ (.int .u32 (last : Int))).setCell ⟨w.heap.size + 1, 2, none⟩ (.int .i64 max)).cell? ⟨w.heap.size + 1, 2, none⟩ = some (.int .i64 max) := Blk.cell (Blk.set (Blk.set (Blk.set hXa 0 _) 1 _) 2 _) 2
  have A0 := Lib.hid a0
  have A1 := Lib.hid a1
  have A2 := Lib.hid a2
  clear a0 a1 a2
  have HOa := Lib.hid hOa
  have HLT2 := Lib.hid hge
  clear hGa hXa hOa hG5 hG6 hG7 hX3 hY3 hO3 hG3 hG hX2 hO2 hb2 HX HO HV1 hltw
  go_wp2_with fail
  refine bodyPost_ret (v := .tuple #[.agg #[.slice (some ⟨g, 0, none⟩) n cv, .int .u32 (last : Int), .int .i64 max], .nilIface]) ?_ rfl ⟨_, rfl, HG7.out, ?_⟩
  · simp [results, Tryd.results92, go_sem, Blk.cell HR.out]
  · exact (((HOa.out.setCell (by simp) _).setCell (by simp) _).setCell (by simp) _).alloc (by simp [World.setCell]; omega) _
theorem delete_ok (oa : Option Addr) (n cp last : Nat) (max : Int) (V : Nat → Ver) (w : World) (hn : n ≤ maxLen) (hl : last < 4294967296) (hV : Vers w oa n V) (q i : Nat) (h : SecOk n last max V) (hi : i < n) (he : (V i).n = seek last q) (hst : (V i).st ≠ 2) :
    Calls Tryd.prog 47 #[.agg #[.slice oa n cp, .int .u32 (last : Int), .int .i64 max], .int .u32 (q : Int)] w fun e w' => ∃ v, e = .returned (.tuple #[.agg #[v, .int .u32 (last : Int), .int .i64 max], .nilIface]) ∧ GV w' w.heap.size v n (setV V i 1) ∧ Below w.heap.size w w' := by
  have HV := Lib.hid (hV.later (((Below.refl _ _).alloc (Nat.le_refl _) _).alloc (by simp) _ : Below w.heap.size w ((w.alloc (.cells #[.slice oa n cp, .int .u32 (last : Int), .int .i64 max] 79)).alloc (.cells #[.slice none 0 0, .int .u32 0, .int .i64 0] 79))))
  have HF := Lib.hid fun w2 (hV2 : Vers w2 oa n V) => turned_ok oa n cp last max V w2 hn hl hV2 q i 1 h hi he hst
  clear hV hn h hst he
  go_enter Tryd.func47, Tryd.ntmps47
  go_wp2_with fail
  refine (HF.out _ HV.out).mono ?_
  rintro e w1 ⟨v, rfl, hG, hb⟩
  obtain ⟨ov, cv, rfl, hcv, hcm⟩ := hG.slice
  have hX : Blk w1 (w.heap.size + 1) #[.slice none 0 0, .int .u32 0, .int .i64 0] 79 := Blk.below (blk2' _ _ _ _ _) hb (by simp)
  have hO : Below w.heap.size w w1 := (((Below.refl _ _).alloc (Nat.le_refl _) _).alloc (by simp) _).trans (hb.mono (by simp; omega))
  have hG5 := hG.set_apart (k := 0) (x := .slice ov n cv) hX no_u8_3 (by simp)
  have hG6 := hG5.set_apart (k := 1) (x := .int .u32 (last : Int)) (Blk.set hX 0 _) no_u8_3 (by simp)
  have hG7 := hG6.set_apart (k := 2) (x := .int .i64 max) (Blk.set (Blk.set hX 0 _) 1 _) no_u8_3 (by simp)
  have HG7 := Lib.hid (hG7.mono (base' := w.heap.size) (by simp; omega))
  have s0 : w1.cell? ⟨w.heap.size + 1, 0, none⟩ = some (.slice none 0 0) := Blk.cell hX 0
  have z0 : w1.frozen? ⟨w.heap.size + 1, 0, none⟩ = false := Blk.free hX 0
  have s1 : w1.cell? ⟨w.heap.size + 1, 1, none⟩ = some (.int .u32 0) := Blk.cell hX 1
  have z1 : w1.frozen? ⟨w.heap.size + 1, 1, none⟩ = false := Blk.free hX 1
  have s2 : w1.cell? ⟨w.heap.size + 1, 2, none⟩ = some (.int .i64 0) := Blk.cell hX 2
  have z2 : w1.frozen? ⟨w.heap.size + 1, 2, none⟩ = false := Blk.free hX 2
  have a0 : (w1.setCell ⟨w.heap.size + 1, 0, none⟩ (.slice ov n cv)).cell? ⟨w.heap.size + 1, 0, none⟩ = some (.slice ov n cv) := Blk.cell (Blk.set hX 0 _) 0
  have a1 : ((w1.setCell ⟨w.heap.size + 1, 0, none⟩ (.slice ov n cv)).setCell ⟨w.heap.size + 1, 1, none⟩ (.int .u32 (last : Int))).cell? ⟨w.heap.size + 1, 1, none⟩ = some (.int .u32 (last : Int)) := Blk.cell (Blk.set (Blk.set hX 0 _) 1 _) 1
  have a2 : (((w1.setCell ⟨w.heap.size + 1, 0, none⟩ (.slice ov n cv)).setCell ⟨w.heap.size + 1, 1, none⟩ (.int .u32 (last : Int))).setCell ⟨w.heap.size + 1, 2, none⟩ (.int .i64 max)).cell? ⟨w.heap.size + 1, 2, none⟩ = some (.int .i64 max) := Blk.cell (Blk.set (Blk.set (Blk.set hX 0 _) 1 _) 2 _) 2
  have A0 := Lib.hid a0
  have A1 := Lib.hid a1
  have A2 := Lib.hid a2
  clear a0 a1 a2
  have HO := Lib.hid hO
  clear hX hb hO hG hG5 hG6 hG7 hcv hcm
  go_wp2_with fail
  refine bodyPost_ret (v := .tuple #[.agg #[.slice ov n cv, .int .u32 (last : Int), .int .i64 max], .nilIface]) ?_ rfl ⟨_, rfl, HG7.out, ?_⟩
  · simp [results, Tryd.results47, go_sem, A0.out, A1.out, A2.out]
  · exact (((HO.out).setCell (by simp) _).setCell (by simp) _).setCell (by simp) _
end Go.Proofs.YtkaddilgegimjaaDoor
