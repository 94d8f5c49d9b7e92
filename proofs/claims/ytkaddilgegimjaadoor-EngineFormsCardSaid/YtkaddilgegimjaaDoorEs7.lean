/- The document's Set, where the version is there. -/
import Derived.Test.YtkaddilgegimjaaDoorEs6
namespace Go.Proofs.YtkaddilgegimjaaDoor
set_option linter.unusedVariables false
set_option linter.unusedSimpArgs false
open Go.RowKit

/-- append of a row of versions, at least one, onto nil, at the operation. -/
theorem wpList_rows {ops : Array Oper} {rest : List Oper} {o : Oper} {a : Act} {Q : Exit → Act → World → Prop} (hgd : o.guard = none) (s x : Operand)
    (ho : o.op = .call { callee := .builtin .append, args := #[s, x], argTypes := #[71, 71] })
    (base b off m c : Nat) (V : Nat → Ver) (W : World) (hs : a.eval s = .slice none 0 0) (hx : a.eval x = .slice (some ⟨b, off, none⟩) m c) (hV : Vers W (some ⟨b, off, none⟩) m V) (hm : 0 < m)
    (hn : m * 48 ≤ 140737488355328) (hbase : base ≤ W.heap.size) (H : Nat) (hH : W.heap.size = H)
    (h : ∀ cap w', RGV w' base (.slice (some ⟨H, 0, none⟩) m cap) m V → Below H W w' → H < w'.heap.size → wpList Tryd.prog ops Q rest (a.put o.dst (.slice (some ⟨H, 0, none⟩) m cap)) w') :
    wpList Tryd.prog ops Q (o :: rest) a W := by
  subst hH
  obtain ⟨i0, hi, hz0, hz1, hz2⟩ := info_parts info_verR
  obtain ⟨C, hC⟩ := hV.row
  have hl : ∀ i, i < m → (C i).length = 4 := fun i hi => (hC i hi).1.len
  refine wpList_append_lies _ hgd s x 71 ho base 89 i0 _ 4 48 Tryd.underlying71 hi hz0 hz1 hz2 rfl (by decide) (.slice none 0 0) 0 [] hs (World.ownsRow_nil W base _ 4) ⟨b, off, none⟩ m c (rws m C) hx (rws_len hl)
    (rws_news hl fun i hi => (hC i hi).2) (rws_one fun i hi => (hC i hi).1.one) hm (by unfold maxLen; omega) (by omega) hbase W.heap.size rfl ?_
  intro g cap w' hown hg hat hlt
  rcases hat with e | e
  · simp [Value.ownBlock] at e
  subst e
  have hb : Below W.heap.size W w' := ⟨hg.os, hg.tape, hg.output, hg.size, fun k hk => hg.block k hk (by simp [Value.ownBlock])⟩
  rw [Nat.zero_add] at hown ⊢
  refine h cap w' ⟨C, by simpa using hown, fun i hi => ⟨(hC i hi).1.later hb, fun ad l cp hmem hl0 hq => ?_⟩⟩ hb hlt
  have := (hC i hi).1.old ad l cp hmem hl0
  simp [Value.ownBlock] at hq
  omega
set_option maxRecDepth 100000 in
set_option maxHeartbeats 4000000 in
theorem rset_ok0 (oa : Option Addr) (n cp last : Nat) (max : Int) (V : Nat → Ver) (w : World) (hn : n ≤ maxLen) (hl : last < 4294967296) (hV : Vers w oa n V) (hm : ∀ i, i < n → (V i).n < 4294967296) (q i : Nat) (h : SecOk n last max V) (hi : i < n) (he : (V i).n = seek last q) (hst : (V i).st ≠ 2) :
    Calls Tryd.prog 48 #[.agg #[.slice oa n cp, .int .u32 (last : Int), .int .i64 max], .int .u32 (q : Int), .int .i64 0] w fun e w' => ∃ v, e = .returned (.tuple #[.agg #[v, .int .u32 (last : Int), .int .i64 max], .int .i64 0]) ∧ RGV w' w.heap.size v n (setV V i 0) ∧ Below w.heap.size w w' := by
  have HV0 := Lib.hid hV
  have HV := Lib.hid (hV.later (((Below.refl _ _).alloc (Nat.le_refl _) _).alloc (by simp) _ : Below w.heap.size w ((w.alloc (.cells #[.slice oa n cp, .int .u32 (last : Int), .int .i64 max] 73)).alloc (.cells #[.slice none 0 0, .int .u32 0, .int .i64 0] 73))))
  have HF := Lib.hid fun w2 (hV2 : Vers w2 oa n V) => rat_hit oa n cp last max V w2 hn hl hV2 hm q i h hi he
  have HN := Lib.hid (show n * 48 ≤ 140737488355328 by have := h.1.2.1; have := h.1.2.2.1; omega)
  have HNP := Lib.hid (show 0 < n by omega)
  have HI := Lib.hid hi
  obtain ⟨b, off, od, cap, rfl, hB, hno, hlc, hcm, c0, c1, c2, c3⟩ := hV.get i hi
  have i0 : (0 : Int) ≤ (i : Int) := by omega
  have i1 : (i : Int) < (n : Int) := by omega
  obtain ⟨st, hs⟩ : ∃ s, (V i).st = s := ⟨_, rfl⟩
  rw [hs] at c3 hst
  have hst' : (st == 2) = false := by rw [beq_eq_false_iff_ne]; exact hst
  clear hs
  clear hV hn hm h he hi hst hB hno hlc hcm
  go_enter Tryd.func48, Tryd.ntmps48
  go_wp2_with fail
  refine (HF.out _ HV.out).mono ?_
  rintro e w1 ⟨rfl, hb⟩
  have hX : Blk w1 (w.heap.size + 1) #[.slice none 0 0, .int .u32 0, .int .i64 0] 73 := Blk.below (blk2' _ _ _ _ _) hb (by simp)
  have hS : Blk w1 w.heap.size #[.slice (some ⟨b, off, none⟩) n cp, .int .u32 (last : Int), .int .i64 max] 73 := Blk.below (blk2 _ _ _ _ _) hb (by simp; omega)
  have hO : Below w.heap.size w w1 := (((Below.refl _ _).alloc (Nat.le_refl _) _).alloc (by simp) _).trans (hb.mono (by simp; omega))
  have x0 : w1.cell? ⟨w.heap.size, 0, none⟩ = some (.slice (some ⟨b, off, none⟩) n cp) := Blk.cell hS 0
  have x1 : w1.cell? ⟨w.heap.size, 1, none⟩ = some (.int .u32 (last : Int)) := Blk.cell hS 1
  have x2 : w1.cell? ⟨w.heap.size, 2, none⟩ = some (.int .i64 max) := Blk.cell hS 2
  have d3 := cell_below hO c3
  have hltw : w.heap.size + 1 < w1.heap.size := Blk.lt hX
  have k0 : w.heap.size < w1.heap.size := by omega
  have HX := Lib.hid hX
  have HO := Lib.hid hO
  have HV1 := Lib.hid ((HV0.out.later hO).later ((Below.refl _ _).alloc (Nat.le_refl _) (.cells #[.slice none 0 0, .int .u32 (last : Int), .int .i64 max] 73)))
  have HLT := Lib.hid hltw
  clear hX hb hO hS c0 c1 c2 c3 hltw
  go_wp2_with (at_builtin; refine wpList_rows rfl (.tmp 39) (.tmp 41) rfl (w1.heap.size + 1) b off n cp V _ rfl rfl HV1.out HNP.out HN.out (by simp) (w1.heap.size + 1) (by simp) ?_)
  intro cap3 w3 hG hb3 hs3
  have hltw := HLT.out
  have hOut3 : Blk w3 w1.heap.size #[.slice none 0 0, .int .u32 (last : Int), .int .i64 max] 73 := Blk.below (Blk.new _ _ _) hb3 (by omega)
  have hX3 : Blk w3 (w.heap.size + 1) #[.slice none 0 0, .int .u32 0, .int .i64 0] 73 := Blk.below (HX.out.alloc _) hb3 (by omega)
  have hO3 : Below w.heap.size w w3 := (HO.out.alloc (by omega) _).trans (hb3.mono (by omega))
  obtain ⟨Cg, tg, hBg, g1, g3⟩ : ∃ Cg tg, Blk w3 (w1.heap.size + 1) Cg tg ∧ (∃ o1, Cg[i * 4 + 1]? = some o1) ∧ (∃ o3, Cg[i * 4 + 3]? = some o3) := by
    obtain ⟨_, cv', ev, _, _, hVv⟩ := hG.vers
    cases ev
    obtain ⟨b', off', _, _, e', _, _, _, _, _, g1, _, g3⟩ := hVv.get i HI.out
    cases e'
    obtain ⟨C, h1, _⟩ := hG
    rcases h1.2 with ⟨h0, _⟩ | ⟨g', cp', cur, hv', _, hh, _⟩
    · cases h0
    · cases hv'
      rw [Nat.zero_add] at g1 g3
      have hB' : Blk w3 (w1.heap.size + 1) cur _ := hh
      rw [Blk.cell hB'] at g1 g3
      exact ⟨cur, _, hB', ⟨_, g1⟩, ⟨_, g3⟩⟩
  obtain ⟨q1, g1⟩ := g1
  obtain ⟨q3, g3⟩ := g3
  have y0 : w3.cell? ⟨w1.heap.size, 0, none⟩ = some (.slice none 0 0) := Blk.cell hOut3 0
  have y1 : w3.cell? ⟨w1.heap.size, 1, none⟩ = some (.int .u32 (last : Int)) := Blk.cell hOut3 1
  have y2 : w3.cell? ⟨w1.heap.size, 2, none⟩ = some (.int .i64 max) := Blk.cell hOut3 2
  have f0 : w3.frozen? ⟨w1.heap.size, 0, none⟩ = false := Blk.free hOut3 0
  have hB4 : Blk (w3.setCell ⟨w1.heap.size, 0, none⟩ (.slice (some ⟨w1.heap.size + 1, 0, none⟩) n cap3)) (w1.heap.size + 1) Cg tg := Blk.set_other hBg (by simp) _
  have o1 : (w3.setCell ⟨w1.heap.size, 0, none⟩ (.slice (some ⟨w1.heap.size + 1, 0, none⟩) n cap3)).cell? ⟨w1.heap.size + 1, i * 4 + 3, none⟩ = some q3 := (Blk.cell hB4 _).trans g3
  have o2 : (w3.setCell ⟨w1.heap.size, 0, none⟩ (.slice (some ⟨w1.heap.size + 1, 0, none⟩) n cap3)).frozen? ⟨w1.heap.size + 1, i * 4 + 3, none⟩ = false := Blk.free hB4 _
  have o3 : w3.cell? ⟨w1.heap.size + 1, i * 4 + 3, none⟩ = some q3 := (Blk.cell hBg _).trans g3
  have o4 : w3.frozen? ⟨w1.heap.size + 1, i * 4 + 3, none⟩ = false := Blk.free hBg _
  have o5 : w3.cell? ⟨w1.heap.size + 1, i * 4 + 1, none⟩ = some q1 := (Blk.cell hBg _).trans g1
  have o6 : w3.frozen? ⟨w1.heap.size + 1, i * 4 + 1, none⟩ = false := Blk.free hBg _
  have hB5 := Blk.set hB4 (i * 4 + 3) (.int .i64 0)
  have o7 : ((w3.setCell ⟨w1.heap.size, 0, none⟩ (.slice (some ⟨w1.heap.size + 1, 0, none⟩) n cap3)).setCell ⟨w1.heap.size + 1, i * 4 + 3, none⟩ (.int .i64 0)).cell? ⟨w1.heap.size + 1, i * 4 + 1, none⟩ = some q1 := (Blk.cell hB5 _).trans (by rw [Array.getElem?_setIfInBounds, if_neg (by omega)]; exact g1)
  have o8 : ((w3.setCell ⟨w1.heap.size, 0, none⟩ (.slice (some ⟨w1.heap.size + 1, 0, none⟩) n cap3)).setCell ⟨w1.heap.size + 1, i * 4 + 3, none⟩ (.int .i64 0)).frozen? ⟨w1.heap.size + 1, i * 4 + 1, none⟩ = false := Blk.free hB5 _
  have hG4 := hG.set_apart (k := 0) (x := .slice (some ⟨w1.heap.size + 1, 0, none⟩) n cap3) hOut3 no_u8_3 (by omega)
  have hG5 := hG4.set_st HI.out 0
  have hGf := hG5
  have hOutf := (Blk.set_other (Blk.set hOut3 0 (.slice (some ⟨w1.heap.size + 1, 0, none⟩) n cap3)) (a := ⟨w1.heap.size + 1, i * 4 + 3, none⟩) (by simp; try omega) (.int .i64 0))
  have hXf : Blk ((w3.setCell ⟨w1.heap.size, 0, none⟩ (.slice (some ⟨w1.heap.size + 1, 0, none⟩) n cap3)).setCell ⟨w1.heap.size + 1, i * 4 + 3, none⟩ (.int .i64 0)) (w.heap.size + 1) #[.slice none 0 0, .int .u32 0, .int .i64 0] 73 := (Blk.set_other (Blk.set_other hX3 (a := ⟨w1.heap.size, 0, none⟩) (by simp; omega) (.slice (some ⟨w1.heap.size + 1, 0, none⟩) n cap3)) (a := ⟨w1.heap.size + 1, i * 4 + 3, none⟩) (by simp; try omega) (.int .i64 0))
  have hOf : Below w.heap.size w ((w3.setCell ⟨w1.heap.size, 0, none⟩ (.slice (some ⟨w1.heap.size + 1, 0, none⟩) n cap3)).setCell ⟨w1.heap.size + 1, i * 4 + 3, none⟩ (.int .i64 0)) := ((hO3.setCell (by simp; omega) _).setCell (by simp; omega) _)
  have r0 : ((w3.setCell ⟨w1.heap.size, 0, none⟩ (.slice (some ⟨w1.heap.size + 1, 0, none⟩) n cap3)).setCell ⟨w1.heap.size + 1, i * 4 + 3, none⟩ (.int .i64 0)).cell? ⟨w1.heap.size, 0, none⟩ = some (.slice (some ⟨w1.heap.size + 1, 0, none⟩) n cap3) := Blk.cell hOutf 0
  have r1 : ((w3.setCell ⟨w1.heap.size, 0, none⟩ (.slice (some ⟨w1.heap.size + 1, 0, none⟩) n cap3)).setCell ⟨w1.heap.size + 1, i * 4 + 3, none⟩ (.int .i64 0)).cell? ⟨w1.heap.size, 1, none⟩ = some (.int .u32 (last : Int)) := Blk.cell hOutf 1
  have r2 : ((w3.setCell ⟨w1.heap.size, 0, none⟩ (.slice (some ⟨w1.heap.size + 1, 0, none⟩) n cap3)).setCell ⟨w1.heap.size + 1, i * 4 + 3, none⟩ (.int .i64 0)).cell? ⟨w1.heap.size, 2, none⟩ = some (.int .i64 max) := Blk.cell hOutf 2
  have n1 : ¬ (w.heap.size + 1 = w1.heap.size + 1) := by omega
  have n2 : ¬ (w1.heap.size + 1 = w.heap.size + 1) := by omega
  have n3 : ¬ (w.heap.size + 1 = w1.heap.size) := by omega
  have n4 : ¬ (w1.heap.size = w.heap.size + 1) := by omega
  have n5 : ¬ (w.heap.size = w1.heap.size) := by omega
  have n6 : ¬ (w1.heap.size = w.heap.size) := by omega
  have t0 : w3.cell? ⟨w.heap.size + 1, 0, none⟩ = some (.slice none 0 0) := Blk.cell hX3 0
  have u0 : w3.frozen? ⟨w.heap.size + 1, 0, none⟩ = false := Blk.free hX3 0
  have t1 : w3.cell? ⟨w.heap.size + 1, 1, none⟩ = some (.int .u32 0) := Blk.cell hX3 1
  have u1 : w3.frozen? ⟨w.heap.size + 1, 1, none⟩ = false := Blk.free hX3 1
  have t2 : w3.cell? ⟨w.heap.size + 1, 2, none⟩ = some (.int .i64 0) := Blk.cell hX3 2
  have u2 : w3.frozen? ⟨w.heap.size + 1, 2, none⟩ = false := Blk.free hX3 2
  have s0 : ((w3.setCell ⟨w1.heap.size, 0, none⟩ (.slice (some ⟨w1.heap.size + 1, 0, none⟩) n cap3)).setCell ⟨w1.heap.size + 1, i * 4 + 3, none⟩ (.int .i64 0)).cell? ⟨w.heap.size + 1, 0, none⟩ = some (.slice none 0 0) := Blk.cell hXf 0
  have z0 : ((w3.setCell ⟨w1.heap.size, 0, none⟩ (.slice (some ⟨w1.heap.size + 1, 0, none⟩) n cap3)).setCell ⟨w1.heap.size + 1, i * 4 + 3, none⟩ (.int .i64 0)).frozen? ⟨w.heap.size + 1, 0, none⟩ = false := Blk.free hXf 0
  have s1 : ((w3.setCell ⟨w1.heap.size, 0, none⟩ (.slice (some ⟨w1.heap.size + 1, 0, none⟩) n cap3)).setCell ⟨w1.heap.size + 1, i * 4 + 3, none⟩ (.int .i64 0)).cell? ⟨w.heap.size + 1, 1, none⟩ = some (.int .u32 0) := Blk.cell hXf 1
  have z1 : ((w3.setCell ⟨w1.heap.size, 0, none⟩ (.slice (some ⟨w1.heap.size + 1, 0, none⟩) n cap3)).setCell ⟨w1.heap.size + 1, i * 4 + 3, none⟩ (.int .i64 0)).frozen? ⟨w.heap.size + 1, 1, none⟩ = false := Blk.free hXf 1
  have s2 : ((w3.setCell ⟨w1.heap.size, 0, none⟩ (.slice (some ⟨w1.heap.size + 1, 0, none⟩) n cap3)).setCell ⟨w1.heap.size + 1, i * 4 + 3, none⟩ (.int .i64 0)).cell? ⟨w.heap.size + 1, 2, none⟩ = some (.int .i64 0) := Blk.cell hXf 2
  have z2 : ((w3.setCell ⟨w1.heap.size, 0, none⟩ (.slice (some ⟨w1.heap.size + 1, 0, none⟩) n cap3)).setCell ⟨w1.heap.size + 1, i * 4 + 3, none⟩ (.int .i64 0)).frozen? ⟨w.heap.size + 1, 2, none⟩ = false := Blk.free hXf 2
  have a0 : (((w3.setCell ⟨w1.heap.size, 0, none⟩ (.slice (some ⟨w1.heap.size + 1, 0, none⟩) n cap3)).setCell ⟨w1.heap.size + 1, i * 4 + 3, none⟩ (.int .i64 0)).setCell ⟨w.heap.size + 1, 0, none⟩ (.slice (some ⟨w1.heap.size + 1, 0, none⟩) n cap3)).cell? ⟨w.heap.size + 1, 0, none⟩ = some (.slice (some ⟨w1.heap.size + 1, 0, none⟩) n cap3) := Blk.cell (Blk.set hXf 0 _) 0
  have a1 : ((((w3.setCell ⟨w1.heap.size, 0, none⟩ (.slice (some ⟨w1.heap.size + 1, 0, none⟩) n cap3)).setCell ⟨w1.heap.size + 1, i * 4 + 3, none⟩ (.int .i64 0)).setCell ⟨w.heap.size + 1, 0, none⟩ (.slice (some ⟨w1.heap.size + 1, 0, none⟩) n cap3)).setCell ⟨w.heap.size + 1, 1, none⟩ (.int .u32 (last : Int))).cell? ⟨w.heap.size + 1, 1, none⟩ = some (.int .u32 (last : Int)) := Blk.cell (Blk.set (Blk.set hXf 0 _) 1 _) 1
  have a2 : (((((w3.setCell ⟨w1.heap.size, 0, none⟩ (.slice (some ⟨w1.heap.size + 1, 0, none⟩) n cap3)).setCell ⟨w1.heap.size + 1, i * 4 + 3, none⟩ (.int .i64 0)).setCell ⟨w.heap.size + 1, 0, none⟩ (.slice (some ⟨w1.heap.size + 1, 0, none⟩) n cap3)).setCell ⟨w.heap.size + 1, 1, none⟩ (.int .u32 (last : Int))).setCell ⟨w.heap.size + 1, 2, none⟩ (.int .i64 max)).cell? ⟨w.heap.size + 1, 2, none⟩ = some (.int .i64 max) := Blk.cell (Blk.set (Blk.set (Blk.set hXf 0 _) 1 _) 2 _) 2
  have A0 := Lib.hid a0
  have A1 := Lib.hid a1
  have A2 := Lib.hid a2
  clear a0 a1 a2
  have hG7 := ((hGf.set_apart (k := 0) (x := .slice (some ⟨w1.heap.size + 1, 0, none⟩) n cap3) hXf no_u8_3 (by omega)).set_apart (k := 1) (x := .int .u32 (last : Int)) (Blk.set hXf 0 _) no_u8_3 (by omega)).set_apart (k := 2) (x := .int .i64 max) (Blk.set (Blk.set hXf 0 _) 1 _) no_u8_3 (by omega)
  have HG7 := Lib.hid (hG7.mono (base' := w.heap.size) (by omega))
  have HOf := Lib.hid hOf
  clear hG hb3 hs3 hOut3 hX3 hO3 hBg g1 g3 hB4 hB5 hG4 hG5 hGf hOutf hXf hOf hG7 HX HO HV1 hltw
  go_wp2_with fail
  refine bodyPost_ret (v := .tuple #[.agg #[.slice (some ⟨w1.heap.size + 1, 0, none⟩) n cap3, .int .u32 (last : Int), .int .i64 max], .int .i64 0]) ?_ rfl ⟨_, rfl, HG7.out, ?_⟩
  · simp [results, Tryd.results48, go_sem, A0.out, A1.out, A2.out]
  · exact (((HOf.out).setCell (by simp) _).setCell (by simp) _).setCell (by simp) _
set_option maxRecDepth 100000 in
set_option maxHeartbeats 4000000 in
theorem rset_ok1 (oa : Option Addr) (n cp last : Nat) (max : Int) (V : Nat → Ver) (w : World) (hn : n ≤ maxLen) (hl : last < 4294967296) (hV : Vers w oa n V) (hm : ∀ i, i < n → (V i).n < 4294967296) (q i : Nat) (h : SecOk n last max V) (hi : i < n) (he : (V i).n = seek last q) (hst : (V i).st ≠ 2) :
    Calls Tryd.prog 48 #[.agg #[.slice oa n cp, .int .u32 (last : Int), .int .i64 max], .int .u32 (q : Int), .int .i64 1] w fun e w' => ∃ v, e = .returned (.tuple #[.agg #[v, .int .u32 (last : Int), .int .i64 max], .int .i64 0]) ∧ RGV w' w.heap.size v n (setV V i 1) ∧ Below w.heap.size w w' := by
  have HV0 := Lib.hid hV
  have HV := Lib.hid (hV.later (((Below.refl _ _).alloc (Nat.le_refl _) _).alloc (by simp) _ : Below w.heap.size w ((w.alloc (.cells #[.slice oa n cp, .int .u32 (last : Int), .int .i64 max] 73)).alloc (.cells #[.slice none 0 0, .int .u32 0, .int .i64 0] 73))))
  have HF := Lib.hid fun w2 (hV2 : Vers w2 oa n V) => rat_hit oa n cp last max V w2 hn hl hV2 hm q i h hi he
  have HN := Lib.hid (show n * 48 ≤ 140737488355328 by have := h.1.2.1; have := h.1.2.2.1; omega)
  have HNP := Lib.hid (show 0 < n by omega)
  have HI := Lib.hid hi
  obtain ⟨b, off, od, cap, rfl, hB, hno, hlc, hcm, c0, c1, c2, c3⟩ := hV.get i hi
  have i0 : (0 : Int) ≤ (i : Int) := by omega
  have i1 : (i : Int) < (n : Int) := by omega
  obtain ⟨st, hs⟩ : ∃ s, (V i).st = s := ⟨_, rfl⟩
  rw [hs] at c3 hst
  have hst' : (st == 2) = false := by rw [beq_eq_false_iff_ne]; exact hst
  clear hs
  clear hV hn hm h he hi hst hB hno hlc hcm
  go_enter Tryd.func48, Tryd.ntmps48
  go_wp2_with fail
  refine (HF.out _ HV.out).mono ?_
  rintro e w1 ⟨rfl, hb⟩
  have hX : Blk w1 (w.heap.size + 1) #[.slice none 0 0, .int .u32 0, .int .i64 0] 73 := Blk.below (blk2' _ _ _ _ _) hb (by simp)
  have hS : Blk w1 w.heap.size #[.slice (some ⟨b, off, none⟩) n cp, .int .u32 (last : Int), .int .i64 max] 73 := Blk.below (blk2 _ _ _ _ _) hb (by simp; omega)
  have hO : Below w.heap.size w w1 := (((Below.refl _ _).alloc (Nat.le_refl _) _).alloc (by simp) _).trans (hb.mono (by simp; omega))
  have x0 : w1.cell? ⟨w.heap.size, 0, none⟩ = some (.slice (some ⟨b, off, none⟩) n cp) := Blk.cell hS 0
  have x1 : w1.cell? ⟨w.heap.size, 1, none⟩ = some (.int .u32 (last : Int)) := Blk.cell hS 1
  have x2 : w1.cell? ⟨w.heap.size, 2, none⟩ = some (.int .i64 max) := Blk.cell hS 2
  have d3 := cell_below hO c3
  have hltw : w.heap.size + 1 < w1.heap.size := Blk.lt hX
  have k0 : w.heap.size < w1.heap.size := by omega
  have HX := Lib.hid hX
  have HO := Lib.hid hO
  have HV1 := Lib.hid ((HV0.out.later hO).later ((Below.refl _ _).alloc (Nat.le_refl _) (.cells #[.slice none 0 0, .int .u32 (last : Int), .int .i64 max] 73)))
  have HLT := Lib.hid hltw
  clear hX hb hO hS c0 c1 c2 c3 hltw
  go_wp2_with (at_builtin; refine wpList_rows rfl (.tmp 39) (.tmp 41) rfl (w1.heap.size + 1) b off n cp V _ rfl rfl HV1.out HNP.out HN.out (by simp) (w1.heap.size + 1) (by simp) ?_)
  intro cap3 w3 hG hb3 hs3
  have hltw := HLT.out
  have hOut3 : Blk w3 w1.heap.size #[.slice none 0 0, .int .u32 (last : Int), .int .i64 max] 73 := Blk.below (Blk.new _ _ _) hb3 (by omega)
  have hX3 : Blk w3 (w.heap.size + 1) #[.slice none 0 0, .int .u32 0, .int .i64 0] 73 := Blk.below (HX.out.alloc _) hb3 (by omega)
  have hO3 : Below w.heap.size w w3 := (HO.out.alloc (by omega) _).trans (hb3.mono (by omega))
  obtain ⟨Cg, tg, hBg, g1, g3⟩ : ∃ Cg tg, Blk w3 (w1.heap.size + 1) Cg tg ∧ (∃ o1, Cg[i * 4 + 1]? = some o1) ∧ (∃ o3, Cg[i * 4 + 3]? = some o3) := by
    obtain ⟨_, cv', ev, _, _, hVv⟩ := hG.vers
    cases ev
    obtain ⟨b', off', _, _, e', _, _, _, _, _, g1, _, g3⟩ := hVv.get i HI.out
    cases e'
    obtain ⟨C, h1, _⟩ := hG
    rcases h1.2 with ⟨h0, _⟩ | ⟨g', cp', cur, hv', _, hh, _⟩
    · cases h0
    · cases hv'
      rw [Nat.zero_add] at g1 g3
      have hB' : Blk w3 (w1.heap.size + 1) cur _ := hh
      rw [Blk.cell hB'] at g1 g3
      exact ⟨cur, _, hB', ⟨_, g1⟩, ⟨_, g3⟩⟩
  obtain ⟨q1, g1⟩ := g1
  obtain ⟨q3, g3⟩ := g3
  have y0 : w3.cell? ⟨w1.heap.size, 0, none⟩ = some (.slice none 0 0) := Blk.cell hOut3 0
  have y1 : w3.cell? ⟨w1.heap.size, 1, none⟩ = some (.int .u32 (last : Int)) := Blk.cell hOut3 1
  have y2 : w3.cell? ⟨w1.heap.size, 2, none⟩ = some (.int .i64 max) := Blk.cell hOut3 2
  have f0 : w3.frozen? ⟨w1.heap.size, 0, none⟩ = false := Blk.free hOut3 0
  have hB4 : Blk (w3.setCell ⟨w1.heap.size, 0, none⟩ (.slice (some ⟨w1.heap.size + 1, 0, none⟩) n cap3)) (w1.heap.size + 1) Cg tg := Blk.set_other hBg (by simp) _
  have o1 : (w3.setCell ⟨w1.heap.size, 0, none⟩ (.slice (some ⟨w1.heap.size + 1, 0, none⟩) n cap3)).cell? ⟨w1.heap.size + 1, i * 4 + 3, none⟩ = some q3 := (Blk.cell hB4 _).trans g3
  have o2 : (w3.setCell ⟨w1.heap.size, 0, none⟩ (.slice (some ⟨w1.heap.size + 1, 0, none⟩) n cap3)).frozen? ⟨w1.heap.size + 1, i * 4 + 3, none⟩ = false := Blk.free hB4 _
  have o3 : w3.cell? ⟨w1.heap.size + 1, i * 4 + 3, none⟩ = some q3 := (Blk.cell hBg _).trans g3
  have o4 : w3.frozen? ⟨w1.heap.size + 1, i * 4 + 3, none⟩ = false := Blk.free hBg _
  have o5 : w3.cell? ⟨w1.heap.size + 1, i * 4 + 1, none⟩ = some q1 := (Blk.cell hBg _).trans g1
  have o6 : w3.frozen? ⟨w1.heap.size + 1, i * 4 + 1, none⟩ = false := Blk.free hBg _
  have hB5 := Blk.set hB4 (i * 4 + 3) (.int .i64 1)
  have o7 : ((w3.setCell ⟨w1.heap.size, 0, none⟩ (.slice (some ⟨w1.heap.size + 1, 0, none⟩) n cap3)).setCell ⟨w1.heap.size + 1, i * 4 + 3, none⟩ (.int .i64 1)).cell? ⟨w1.heap.size + 1, i * 4 + 1, none⟩ = some q1 := (Blk.cell hB5 _).trans (by rw [Array.getElem?_setIfInBounds, if_neg (by omega)]; exact g1)
  have o8 : ((w3.setCell ⟨w1.heap.size, 0, none⟩ (.slice (some ⟨w1.heap.size + 1, 0, none⟩) n cap3)).setCell ⟨w1.heap.size + 1, i * 4 + 3, none⟩ (.int .i64 1)).frozen? ⟨w1.heap.size + 1, i * 4 + 1, none⟩ = false := Blk.free hB5 _
  have hG4 := hG.set_apart (k := 0) (x := .slice (some ⟨w1.heap.size + 1, 0, none⟩) n cap3) hOut3 no_u8_3 (by omega)
  have hG5 := hG4.set_st HI.out 1
  have hGf := hG5
  have hOutf := (Blk.set_other (Blk.set hOut3 0 (.slice (some ⟨w1.heap.size + 1, 0, none⟩) n cap3)) (a := ⟨w1.heap.size + 1, i * 4 + 3, none⟩) (by simp; try omega) (.int .i64 1))
  have hXf : Blk ((w3.setCell ⟨w1.heap.size, 0, none⟩ (.slice (some ⟨w1.heap.size + 1, 0, none⟩) n cap3)).setCell ⟨w1.heap.size + 1, i * 4 + 3, none⟩ (.int .i64 1)) (w.heap.size + 1) #[.slice none 0 0, .int .u32 0, .int .i64 0] 73 := (Blk.set_other (Blk.set_other hX3 (a := ⟨w1.heap.size, 0, none⟩) (by simp; omega) (.slice (some ⟨w1.heap.size + 1, 0, none⟩) n cap3)) (a := ⟨w1.heap.size + 1, i * 4 + 3, none⟩) (by simp; try omega) (.int .i64 1))
  have hOf : Below w.heap.size w ((w3.setCell ⟨w1.heap.size, 0, none⟩ (.slice (some ⟨w1.heap.size + 1, 0, none⟩) n cap3)).setCell ⟨w1.heap.size + 1, i * 4 + 3, none⟩ (.int .i64 1)) := ((hO3.setCell (by simp; omega) _).setCell (by simp; omega) _)
  have r0 : ((w3.setCell ⟨w1.heap.size, 0, none⟩ (.slice (some ⟨w1.heap.size + 1, 0, none⟩) n cap3)).setCell ⟨w1.heap.size + 1, i * 4 + 3, none⟩ (.int .i64 1)).cell? ⟨w1.heap.size, 0, none⟩ = some (.slice (some ⟨w1.heap.size + 1, 0, none⟩) n cap3) := Blk.cell hOutf 0
  have r1 : ((w3.setCell ⟨w1.heap.size, 0, none⟩ (.slice (some ⟨w1.heap.size + 1, 0, none⟩) n cap3)).setCell ⟨w1.heap.size + 1, i * 4 + 3, none⟩ (.int .i64 1)).cell? ⟨w1.heap.size, 1, none⟩ = some (.int .u32 (last : Int)) := Blk.cell hOutf 1
  have r2 : ((w3.setCell ⟨w1.heap.size, 0, none⟩ (.slice (some ⟨w1.heap.size + 1, 0, none⟩) n cap3)).setCell ⟨w1.heap.size + 1, i * 4 + 3, none⟩ (.int .i64 1)).cell? ⟨w1.heap.size, 2, none⟩ = some (.int .i64 max) := Blk.cell hOutf 2
  have n1 : ¬ (w.heap.size + 1 = w1.heap.size + 1) := by omega
  have n2 : ¬ (w1.heap.size + 1 = w.heap.size + 1) := by omega
  have n3 : ¬ (w.heap.size + 1 = w1.heap.size) := by omega
  have n4 : ¬ (w1.heap.size = w.heap.size + 1) := by omega
  have n5 : ¬ (w.heap.size = w1.heap.size) := by omega
  have n6 : ¬ (w1.heap.size = w.heap.size) := by omega
  have t0 : w3.cell? ⟨w.heap.size + 1, 0, none⟩ = some (.slice none 0 0) := Blk.cell hX3 0
  have u0 : w3.frozen? ⟨w.heap.size + 1, 0, none⟩ = false := Blk.free hX3 0
  have t1 : w3.cell? ⟨w.heap.size + 1, 1, none⟩ = some (.int .u32 0) := Blk.cell hX3 1
  have u1 : w3.frozen? ⟨w.heap.size + 1, 1, none⟩ = false := Blk.free hX3 1
  have t2 : w3.cell? ⟨w.heap.size + 1, 2, none⟩ = some (.int .i64 0) := Blk.cell hX3 2
  have u2 : w3.frozen? ⟨w.heap.size + 1, 2, none⟩ = false := Blk.free hX3 2
  have s0 : ((w3.setCell ⟨w1.heap.size, 0, none⟩ (.slice (some ⟨w1.heap.size + 1, 0, none⟩) n cap3)).setCell ⟨w1.heap.size + 1, i * 4 + 3, none⟩ (.int .i64 1)).cell? ⟨w.heap.size + 1, 0, none⟩ = some (.slice none 0 0) := Blk.cell hXf 0
  have z0 : ((w3.setCell ⟨w1.heap.size, 0, none⟩ (.slice (some ⟨w1.heap.size + 1, 0, none⟩) n cap3)).setCell ⟨w1.heap.size + 1, i * 4 + 3, none⟩ (.int .i64 1)).frozen? ⟨w.heap.size + 1, 0, none⟩ = false := Blk.free hXf 0
  have s1 : ((w3.setCell ⟨w1.heap.size, 0, none⟩ (.slice (some ⟨w1.heap.size + 1, 0, none⟩) n cap3)).setCell ⟨w1.heap.size + 1, i * 4 + 3, none⟩ (.int .i64 1)).cell? ⟨w.heap.size + 1, 1, none⟩ = some (.int .u32 0) := Blk.cell hXf 1
  have z1 : ((w3.setCell ⟨w1.heap.size, 0, none⟩ (.slice (some ⟨w1.heap.size + 1, 0, none⟩) n cap3)).setCell ⟨w1.heap.size + 1, i * 4 + 3, none⟩ (.int .i64 1)).frozen? ⟨w.heap.size + 1, 1, none⟩ = false := Blk.free hXf 1
  have s2 : ((w3.setCell ⟨w1.heap.size, 0, none⟩ (.slice (some ⟨w1.heap.size + 1, 0, none⟩) n cap3)).setCell ⟨w1.heap.size + 1, i * 4 + 3, none⟩ (.int .i64 1)).cell? ⟨w.heap.size + 1, 2, none⟩ = some (.int .i64 0) := Blk.cell hXf 2
  have z2 : ((w3.setCell ⟨w1.heap.size, 0, none⟩ (.slice (some ⟨w1.heap.size + 1, 0, none⟩) n cap3)).setCell ⟨w1.heap.size + 1, i * 4 + 3, none⟩ (.int .i64 1)).frozen? ⟨w.heap.size + 1, 2, none⟩ = false := Blk.free hXf 2
  have a0 : (((w3.setCell ⟨w1.heap.size, 0, none⟩ (.slice (some ⟨w1.heap.size + 1, 0, none⟩) n cap3)).setCell ⟨w1.heap.size + 1, i * 4 + 3, none⟩ (.int .i64 1)).setCell ⟨w.heap.size + 1, 0, none⟩ (.slice (some ⟨w1.heap.size + 1, 0, none⟩) n cap3)).cell? ⟨w.heap.size + 1, 0, none⟩ = some (.slice (some ⟨w1.heap.size + 1, 0, none⟩) n cap3) := Blk.cell (Blk.set hXf 0 _) 0
  have a1 : ((((w3.setCell ⟨w1.heap.size, 0, none⟩ (.slice (some ⟨w1.heap.size + 1, 0, none⟩) n cap3)).setCell ⟨w1.heap.size + 1, i * 4 + 3, none⟩ (.int .i64 1)).setCell ⟨w.heap.size + 1, 0, none⟩ (.slice (some ⟨w1.heap.size + 1, 0, none⟩) n cap3)).setCell ⟨w.heap.size + 1, 1, none⟩ (.int .u32 (last : Int))).cell? ⟨w.heap.size + 1, 1, none⟩ = some (.int .u32 (last : Int)) := Blk.cell (Blk.set (Blk.set hXf 0 _) 1 _) 1
  have a2 : (((((w3.setCell ⟨w1.heap.size, 0, none⟩ (.slice (some ⟨w1.heap.size + 1, 0, none⟩) n cap3)).setCell ⟨w1.heap.size + 1, i * 4 + 3, none⟩ (.int .i64 1)).setCell ⟨w.heap.size + 1, 0, none⟩ (.slice (some ⟨w1.heap.size + 1, 0, none⟩) n cap3)).setCell ⟨w.heap.size + 1, 1, none⟩ (.int .u32 (last : Int))).setCell ⟨w.heap.size + 1, 2, none⟩ (.int .i64 max)).cell? ⟨w.heap.size + 1, 2, none⟩ = some (.int .i64 max) := Blk.cell (Blk.set (Blk.set (Blk.set hXf 0 _) 1 _) 2 _) 2
  have A0 := Lib.hid a0
  have A1 := Lib.hid a1
  have A2 := Lib.hid a2
  clear a0 a1 a2
  have hG7 := ((hGf.set_apart (k := 0) (x := .slice (some ⟨w1.heap.size + 1, 0, none⟩) n cap3) hXf no_u8_3 (by omega)).set_apart (k := 1) (x := .int .u32 (last : Int)) (Blk.set hXf 0 _) no_u8_3 (by omega)).set_apart (k := 2) (x := .int .i64 max) (Blk.set (Blk.set hXf 0 _) 1 _) no_u8_3 (by omega)
  have HG7 := Lib.hid (hG7.mono (base' := w.heap.size) (by omega))
  have HOf := Lib.hid hOf
  clear hG hb3 hs3 hOut3 hX3 hO3 hBg g1 g3 hB4 hB5 hG4 hG5 hGf hOutf hXf hOf hG7 HX HO HV1 hltw
  go_wp2_with fail
  refine bodyPost_ret (v := .tuple #[.agg #[.slice (some ⟨w1.heap.size + 1, 0, none⟩) n cap3, .int .u32 (last : Int), .int .i64 max], .int .i64 0]) ?_ rfl ⟨_, rfl, HG7.out, ?_⟩
  · simp [results, Tryd.results48, go_sem, A0.out, A1.out, A2.out]
  · exact (((HOf.out).setCell (by simp) _).setCell (by simp) _).setCell (by simp) _
set_option maxRecDepth 100000 in
set_option maxHeartbeats 4000000 in
theorem rset_ok2n (oa : Option Addr) (n cp last : Nat) (max : Int) (V : Nat → Ver) (w : World) (hn : n ≤ maxLen) (hl : last < 4294967296) (hV : Vers w oa n V) (hm : ∀ i, i < n → (V i).n < 4294967296) (q i : Nat) (h : SecOk n last max V) (hi : i < n) (he : (V i).n = seek last q) (hst : (V i).st ≠ 2) :
    Calls Tryd.prog 48 #[.agg #[.slice oa n cp, .int .u32 (last : Int), .int .i64 max], .int .u32 (q : Int), .int .i64 2] w fun e w' => ∃ v, e = .returned (.tuple #[.agg #[v, .int .u32 (last : Int), .int .i64 max], .int .i64 0]) ∧ RGV w' w.heap.size v n (cutV (setV V i 2) i) ∧ Below w.heap.size w w' := by
  have HV0 := Lib.hid hV
  have HV := Lib.hid (hV.later (((Below.refl _ _).alloc (Nat.le_refl _) _).alloc (by simp) _ : Below w.heap.size w ((w.alloc (.cells #[.slice oa n cp, .int .u32 (last : Int), .int .i64 max] 73)).alloc (.cells #[.slice none 0 0, .int .u32 0, .int .i64 0] 73))))
  have HF := Lib.hid fun w2 (hV2 : Vers w2 oa n V) => rat_hit oa n cp last max V w2 hn hl hV2 hm q i h hi he
  have HN := Lib.hid (show n * 48 ≤ 140737488355328 by have := h.1.2.1; have := h.1.2.2.1; omega)
  have HNP := Lib.hid (show 0 < n by omega)
  have HI := Lib.hid hi
  obtain ⟨b, off, od, cap, rfl, hB, hno, hlc, hcm, c0, c1, c2, c3⟩ := hV.get i hi
  have i0 : (0 : Int) ≤ (i : Int) := by omega
  have i1 : (i : Int) < (n : Int) := by omega
  obtain ⟨st, hs⟩ : ∃ s, (V i).st = s := ⟨_, rfl⟩
  rw [hs] at c3 hst
  have hst' : (st == 2) = false := by rw [beq_eq_false_iff_ne]; exact hst
  clear hs
  clear hV hn hm h he hi hst hB hno hlc hcm
  go_enter Tryd.func48, Tryd.ntmps48
  go_wp2_with fail
  refine (HF.out _ HV.out).mono ?_
  rintro e w1 ⟨rfl, hb⟩
  have hX : Blk w1 (w.heap.size + 1) #[.slice none 0 0, .int .u32 0, .int .i64 0] 73 := Blk.below (blk2' _ _ _ _ _) hb (by simp)
  have hS : Blk w1 w.heap.size #[.slice (some ⟨b, off, none⟩) n cp, .int .u32 (last : Int), .int .i64 max] 73 := Blk.below (blk2 _ _ _ _ _) hb (by simp; omega)
  have hO : Below w.heap.size w w1 := (((Below.refl _ _).alloc (Nat.le_refl _) _).alloc (by simp) _).trans (hb.mono (by simp; omega))
  have x0 : w1.cell? ⟨w.heap.size, 0, none⟩ = some (.slice (some ⟨b, off, none⟩) n cp) := Blk.cell hS 0
  have x1 : w1.cell? ⟨w.heap.size, 1, none⟩ = some (.int .u32 (last : Int)) := Blk.cell hS 1
  have x2 : w1.cell? ⟨w.heap.size, 2, none⟩ = some (.int .i64 max) := Blk.cell hS 2
  have d3 := cell_below hO c3
  have hltw : w.heap.size + 1 < w1.heap.size := Blk.lt hX
  have k0 : w.heap.size < w1.heap.size := by omega
  have HX := Lib.hid hX
  have HO := Lib.hid hO
  have HV1 := Lib.hid ((HV0.out.later hO).later ((Below.refl _ _).alloc (Nat.le_refl _) (.cells #[.slice none 0 0, .int .u32 (last : Int), .int .i64 max] 73)))
  have HLT := Lib.hid hltw
  clear hX hb hO hS c0 c1 c2 c3 hltw
  go_wp2_with (at_builtin; refine wpList_rows rfl (.tmp 39) (.tmp 41) rfl (w1.heap.size + 1) b off n cp V _ rfl rfl HV1.out HNP.out HN.out (by simp) (w1.heap.size + 1) (by simp) ?_)
  intro cap3 w3 hG hb3 hs3
  have hltw := HLT.out
  have hOut3 : Blk w3 w1.heap.size #[.slice none 0 0, .int .u32 (last : Int), .int .i64 max] 73 := Blk.below (Blk.new _ _ _) hb3 (by omega)
  have hX3 : Blk w3 (w.heap.size + 1) #[.slice none 0 0, .int .u32 0, .int .i64 0] 73 := Blk.below (HX.out.alloc _) hb3 (by omega)
  have hO3 : Below w.heap.size w w3 := (HO.out.alloc (by omega) _).trans (hb3.mono (by omega))
  obtain ⟨Cg, tg, hBg, g1, g3⟩ : ∃ Cg tg, Blk w3 (w1.heap.size + 1) Cg tg ∧ (∃ o1, Cg[i * 4 + 1]? = some o1) ∧ (∃ o3, Cg[i * 4 + 3]? = some o3) := by
    obtain ⟨_, cv', ev, _, _, hVv⟩ := hG.vers
    cases ev
    obtain ⟨b', off', _, _, e', _, _, _, _, _, g1, _, g3⟩ := hVv.get i HI.out
    cases e'
    obtain ⟨C, h1, _⟩ := hG
    rcases h1.2 with ⟨h0, _⟩ | ⟨g', cp', cur, hv', _, hh, _⟩
    · cases h0
    · cases hv'
      rw [Nat.zero_add] at g1 g3
      have hB' : Blk w3 (w1.heap.size + 1) cur _ := hh
      rw [Blk.cell hB'] at g1 g3
      exact ⟨cur, _, hB', ⟨_, g1⟩, ⟨_, g3⟩⟩
  obtain ⟨q1, g1⟩ := g1
  obtain ⟨q3, g3⟩ := g3
  have y0 : w3.cell? ⟨w1.heap.size, 0, none⟩ = some (.slice none 0 0) := Blk.cell hOut3 0
  have y1 : w3.cell? ⟨w1.heap.size, 1, none⟩ = some (.int .u32 (last : Int)) := Blk.cell hOut3 1
  have y2 : w3.cell? ⟨w1.heap.size, 2, none⟩ = some (.int .i64 max) := Blk.cell hOut3 2
  have f0 : w3.frozen? ⟨w1.heap.size, 0, none⟩ = false := Blk.free hOut3 0
  have hB4 : Blk (w3.setCell ⟨w1.heap.size, 0, none⟩ (.slice (some ⟨w1.heap.size + 1, 0, none⟩) n cap3)) (w1.heap.size + 1) Cg tg := Blk.set_other hBg (by simp) _
  have o1 : (w3.setCell ⟨w1.heap.size, 0, none⟩ (.slice (some ⟨w1.heap.size + 1, 0, none⟩) n cap3)).cell? ⟨w1.heap.size + 1, i * 4 + 3, none⟩ = some q3 := (Blk.cell hB4 _).trans g3
  have o2 : (w3.setCell ⟨w1.heap.size, 0, none⟩ (.slice (some ⟨w1.heap.size + 1, 0, none⟩) n cap3)).frozen? ⟨w1.heap.size + 1, i * 4 + 3, none⟩ = false := Blk.free hB4 _
  have o3 : w3.cell? ⟨w1.heap.size + 1, i * 4 + 3, none⟩ = some q3 := (Blk.cell hBg _).trans g3
  have o4 : w3.frozen? ⟨w1.heap.size + 1, i * 4 + 3, none⟩ = false := Blk.free hBg _
  have o5 : w3.cell? ⟨w1.heap.size + 1, i * 4 + 1, none⟩ = some q1 := (Blk.cell hBg _).trans g1
  have o6 : w3.frozen? ⟨w1.heap.size + 1, i * 4 + 1, none⟩ = false := Blk.free hBg _
  have hB5 := Blk.set hB4 (i * 4 + 3) (.int .i64 2)
  have o7 : ((w3.setCell ⟨w1.heap.size, 0, none⟩ (.slice (some ⟨w1.heap.size + 1, 0, none⟩) n cap3)).setCell ⟨w1.heap.size + 1, i * 4 + 3, none⟩ (.int .i64 2)).cell? ⟨w1.heap.size + 1, i * 4 + 1, none⟩ = some q1 := (Blk.cell hB5 _).trans (by rw [Array.getElem?_setIfInBounds, if_neg (by omega)]; exact g1)
  have o8 : ((w3.setCell ⟨w1.heap.size, 0, none⟩ (.slice (some ⟨w1.heap.size + 1, 0, none⟩) n cap3)).setCell ⟨w1.heap.size + 1, i * 4 + 3, none⟩ (.int .i64 2)).frozen? ⟨w1.heap.size + 1, i * 4 + 1, none⟩ = false := Blk.free hB5 _
  have hG4 := hG.set_apart (k := 0) (x := .slice (some ⟨w1.heap.size + 1, 0, none⟩) n cap3) hOut3 no_u8_3 (by omega)
  have hG5 := hG4.set_st HI.out 2
  have hGf := hG5.set_nil HI.out
  have hOutf := (Blk.set_other (Blk.set_other (Blk.set hOut3 0 (.slice (some ⟨w1.heap.size + 1, 0, none⟩) n cap3)) (a := ⟨w1.heap.size + 1, i * 4 + 3, none⟩) (by simp; try omega) (.int .i64 2)) (a := ⟨w1.heap.size + 1, i * 4 + 1, none⟩) (by simp; try omega) (.slice none 0 0))
  have hXf : Blk (((w3.setCell ⟨w1.heap.size, 0, none⟩ (.slice (some ⟨w1.heap.size + 1, 0, none⟩) n cap3)).setCell ⟨w1.heap.size + 1, i * 4 + 3, none⟩ (.int .i64 2)).setCell ⟨w1.heap.size + 1, i * 4 + 1, none⟩ (.slice none 0 0)) (w.heap.size + 1) #[.slice none 0 0, .int .u32 0, .int .i64 0] 73 := (Blk.set_other (Blk.set_other (Blk.set_other hX3 (a := ⟨w1.heap.size, 0, none⟩) (by simp; omega) (.slice (some ⟨w1.heap.size + 1, 0, none⟩) n cap3)) (a := ⟨w1.heap.size + 1, i * 4 + 3, none⟩) (by simp; try omega) (.int .i64 2)) (a := ⟨w1.heap.size + 1, i * 4 + 1, none⟩) (by simp; try omega) (.slice none 0 0))
  have hOf : Below w.heap.size w (((w3.setCell ⟨w1.heap.size, 0, none⟩ (.slice (some ⟨w1.heap.size + 1, 0, none⟩) n cap3)).setCell ⟨w1.heap.size + 1, i * 4 + 3, none⟩ (.int .i64 2)).setCell ⟨w1.heap.size + 1, i * 4 + 1, none⟩ (.slice none 0 0)) := (((hO3.setCell (by simp; omega) _).setCell (by simp; omega) _)).setCell (by simp; omega) _
  have r0 : (((w3.setCell ⟨w1.heap.size, 0, none⟩ (.slice (some ⟨w1.heap.size + 1, 0, none⟩) n cap3)).setCell ⟨w1.heap.size + 1, i * 4 + 3, none⟩ (.int .i64 2)).setCell ⟨w1.heap.size + 1, i * 4 + 1, none⟩ (.slice none 0 0)).cell? ⟨w1.heap.size, 0, none⟩ = some (.slice (some ⟨w1.heap.size + 1, 0, none⟩) n cap3) := Blk.cell hOutf 0
  have r1 : (((w3.setCell ⟨w1.heap.size, 0, none⟩ (.slice (some ⟨w1.heap.size + 1, 0, none⟩) n cap3)).setCell ⟨w1.heap.size + 1, i * 4 + 3, none⟩ (.int .i64 2)).setCell ⟨w1.heap.size + 1, i * 4 + 1, none⟩ (.slice none 0 0)).cell? ⟨w1.heap.size, 1, none⟩ = some (.int .u32 (last : Int)) := Blk.cell hOutf 1
  have r2 : (((w3.setCell ⟨w1.heap.size, 0, none⟩ (.slice (some ⟨w1.heap.size + 1, 0, none⟩) n cap3)).setCell ⟨w1.heap.size + 1, i * 4 + 3, none⟩ (.int .i64 2)).setCell ⟨w1.heap.size + 1, i * 4 + 1, none⟩ (.slice none 0 0)).cell? ⟨w1.heap.size, 2, none⟩ = some (.int .i64 max) := Blk.cell hOutf 2
  have n1 : ¬ (w.heap.size + 1 = w1.heap.size + 1) := by omega
  have n2 : ¬ (w1.heap.size + 1 = w.heap.size + 1) := by omega
  have n3 : ¬ (w.heap.size + 1 = w1.heap.size) := by omega
  have n4 : ¬ (w1.heap.size = w.heap.size + 1) := by omega
  have n5 : ¬ (w.heap.size = w1.heap.size) := by omega
  have n6 : ¬ (w1.heap.size = w.heap.size) := by omega
  have t0 : w3.cell? ⟨w.heap.size + 1, 0, none⟩ = some (.slice none 0 0) := Blk.cell hX3 0
  have u0 : w3.frozen? ⟨w.heap.size + 1, 0, none⟩ = false := Blk.free hX3 0
  have t1 : w3.cell? ⟨w.heap.size + 1, 1, none⟩ = some (.int .u32 0) := Blk.cell hX3 1
  have u1 : w3.frozen? ⟨w.heap.size + 1, 1, none⟩ = false := Blk.free hX3 1
  have t2 : w3.cell? ⟨w.heap.size + 1, 2, none⟩ = some (.int .i64 0) := Blk.cell hX3 2
  have u2 : w3.frozen? ⟨w.heap.size + 1, 2, none⟩ = false := Blk.free hX3 2
  have s0 : (((w3.setCell ⟨w1.heap.size, 0, none⟩ (.slice (some ⟨w1.heap.size + 1, 0, none⟩) n cap3)).setCell ⟨w1.heap.size + 1, i * 4 + 3, none⟩ (.int .i64 2)).setCell ⟨w1.heap.size + 1, i * 4 + 1, none⟩ (.slice none 0 0)).cell? ⟨w.heap.size + 1, 0, none⟩ = some (.slice none 0 0) := Blk.cell hXf 0
  have z0 : (((w3.setCell ⟨w1.heap.size, 0, none⟩ (.slice (some ⟨w1.heap.size + 1, 0, none⟩) n cap3)).setCell ⟨w1.heap.size + 1, i * 4 + 3, none⟩ (.int .i64 2)).setCell ⟨w1.heap.size + 1, i * 4 + 1, none⟩ (.slice none 0 0)).frozen? ⟨w.heap.size + 1, 0, none⟩ = false := Blk.free hXf 0
  have s1 : (((w3.setCell ⟨w1.heap.size, 0, none⟩ (.slice (some ⟨w1.heap.size + 1, 0, none⟩) n cap3)).setCell ⟨w1.heap.size + 1, i * 4 + 3, none⟩ (.int .i64 2)).setCell ⟨w1.heap.size + 1, i * 4 + 1, none⟩ (.slice none 0 0)).cell? ⟨w.heap.size + 1, 1, none⟩ = some (.int .u32 0) := Blk.cell hXf 1
  have z1 : (((w3.setCell ⟨w1.heap.size, 0, none⟩ (.slice (some ⟨w1.heap.size + 1, 0, none⟩) n cap3)).setCell ⟨w1.heap.size + 1, i * 4 + 3, none⟩ (.int .i64 2)).setCell ⟨w1.heap.size + 1, i * 4 + 1, none⟩ (.slice none 0 0)).frozen? ⟨w.heap.size + 1, 1, none⟩ = false := Blk.free hXf 1
  have s2 : (((w3.setCell ⟨w1.heap.size, 0, none⟩ (.slice (some ⟨w1.heap.size + 1, 0, none⟩) n cap3)).setCell ⟨w1.heap.size + 1, i * 4 + 3, none⟩ (.int .i64 2)).setCell ⟨w1.heap.size + 1, i * 4 + 1, none⟩ (.slice none 0 0)).cell? ⟨w.heap.size + 1, 2, none⟩ = some (.int .i64 0) := Blk.cell hXf 2
  have z2 : (((w3.setCell ⟨w1.heap.size, 0, none⟩ (.slice (some ⟨w1.heap.size + 1, 0, none⟩) n cap3)).setCell ⟨w1.heap.size + 1, i * 4 + 3, none⟩ (.int .i64 2)).setCell ⟨w1.heap.size + 1, i * 4 + 1, none⟩ (.slice none 0 0)).frozen? ⟨w.heap.size + 1, 2, none⟩ = false := Blk.free hXf 2
  have a0 : ((((w3.setCell ⟨w1.heap.size, 0, none⟩ (.slice (some ⟨w1.heap.size + 1, 0, none⟩) n cap3)).setCell ⟨w1.heap.size + 1, i * 4 + 3, none⟩ (.int .i64 2)).setCell ⟨w1.heap.size + 1, i * 4 + 1, none⟩ (.slice none 0 0)).setCell ⟨w.heap.size + 1, 0, none⟩ (.slice (some ⟨w1.heap.size + 1, 0, none⟩) n cap3)).cell? ⟨w.heap.size + 1, 0, none⟩ = some (.slice (some ⟨w1.heap.size + 1, 0, none⟩) n cap3) := Blk.cell (Blk.set hXf 0 _) 0
  have a1 : (((((w3.setCell ⟨w1.heap.size, 0, none⟩ (.slice (some ⟨w1.heap.size + 1, 0, none⟩) n cap3)).setCell ⟨w1.heap.size + 1, i * 4 + 3, none⟩ (.int .i64 2)).setCell ⟨w1.heap.size + 1, i * 4 + 1, none⟩ (.slice none 0 0)).setCell ⟨w.heap.size + 1, 0, none⟩ (.slice (some ⟨w1.heap.size + 1, 0, none⟩) n cap3)).setCell ⟨w.heap.size + 1, 1, none⟩ (.int .u32 (last : Int))).cell? ⟨w.heap.size + 1, 1, none⟩ = some (.int .u32 (last : Int)) := Blk.cell (Blk.set (Blk.set hXf 0 _) 1 _) 1
  have a2 : ((((((w3.setCell ⟨w1.heap.size, 0, none⟩ (.slice (some ⟨w1.heap.size + 1, 0, none⟩) n cap3)).setCell ⟨w1.heap.size + 1, i * 4 + 3, none⟩ (.int .i64 2)).setCell ⟨w1.heap.size + 1, i * 4 + 1, none⟩ (.slice none 0 0)).setCell ⟨w.heap.size + 1, 0, none⟩ (.slice (some ⟨w1.heap.size + 1, 0, none⟩) n cap3)).setCell ⟨w.heap.size + 1, 1, none⟩ (.int .u32 (last : Int))).setCell ⟨w.heap.size + 1, 2, none⟩ (.int .i64 max)).cell? ⟨w.heap.size + 1, 2, none⟩ = some (.int .i64 max) := Blk.cell (Blk.set (Blk.set (Blk.set hXf 0 _) 1 _) 2 _) 2
  have A0 := Lib.hid a0
  have A1 := Lib.hid a1
  have A2 := Lib.hid a2
  clear a0 a1 a2
  have hG7 := ((hGf.set_apart (k := 0) (x := .slice (some ⟨w1.heap.size + 1, 0, none⟩) n cap3) hXf no_u8_3 (by omega)).set_apart (k := 1) (x := .int .u32 (last : Int)) (Blk.set hXf 0 _) no_u8_3 (by omega)).set_apart (k := 2) (x := .int .i64 max) (Blk.set (Blk.set hXf 0 _) 1 _) no_u8_3 (by omega)
  have HG7 := Lib.hid (hG7.mono (base' := w.heap.size) (by omega))
  have HOf := Lib.hid hOf
  clear hG hb3 hs3 hOut3 hX3 hO3 hBg g1 g3 hB4 hB5 hG4 hG5 hGf hOutf hXf hOf hG7 HX HO HV1 hltw
  go_wp2_with fail
  refine bodyPost_ret (v := .tuple #[.agg #[.slice (some ⟨w1.heap.size + 1, 0, none⟩) n cap3, .int .u32 (last : Int), .int .i64 max], .int .i64 0]) ?_ rfl ⟨_, rfl, HG7.out, ?_⟩
  · simp [results, Tryd.results48, go_sem, A0.out, A1.out, A2.out]
  · exact (((HOf.out).setCell (by simp) _).setCell (by simp) _).setCell (by simp) _
set_option maxRecDepth 100000 in
set_option maxHeartbeats 4000000 in
theorem rset_ok2g (oa : Option Addr) (n cp last : Nat) (max : Int) (V : Nat → Ver) (w : World) (hn : n ≤ maxLen) (hl : last < 4294967296) (hV : Vers w oa n V) (hm : ∀ i, i < n → (V i).n < 4294967296) (q i : Nat) (h : SecOk n last max V) (hi : i < n) (he : (V i).n = seek last q) (hst : (V i).st = 2) :
    Calls Tryd.prog 48 #[.agg #[.slice oa n cp, .int .u32 (last : Int), .int .i64 max], .int .u32 (q : Int), .int .i64 2] w fun e w' => ∃ v, e = .returned (.tuple #[.agg #[v, .int .u32 (last : Int), .int .i64 max], .int .i64 0]) ∧ RGV w' w.heap.size v n (cutV (setV V i 2) i) ∧ Below w.heap.size w w' := by
  have HV0 := Lib.hid hV
  have HV := Lib.hid (hV.later (((Below.refl _ _).alloc (Nat.le_refl _) _).alloc (by simp) _ : Below w.heap.size w ((w.alloc (.cells #[.slice oa n cp, .int .u32 (last : Int), .int .i64 max] 73)).alloc (.cells #[.slice none 0 0, .int .u32 0, .int .i64 0] 73))))
  have HF := Lib.hid fun w2 (hV2 : Vers w2 oa n V) => rat_hit oa n cp last max V w2 hn hl hV2 hm q i h hi he
  have HN := Lib.hid (show n * 48 ≤ 140737488355328 by have := h.1.2.1; have := h.1.2.2.1; omega)
  have HNP := Lib.hid (show 0 < n by omega)
  have HI := Lib.hid hi
  obtain ⟨b, off, od, cap, rfl, hB, hno, hlc, hcm, c0, c1, c2, c3⟩ := hV.get i hi
  have i0 : (0 : Int) ≤ (i : Int) := by omega
  have i1 : (i : Int) < (n : Int) := by omega
  rw [hst] at c3
  clear hV hn hm h he hi hst hB hno hlc hcm
  go_enter Tryd.func48, Tryd.ntmps48
  go_wp2_with fail
  refine (HF.out _ HV.out).mono ?_
  rintro e w1 ⟨rfl, hb⟩
  have hX : Blk w1 (w.heap.size + 1) #[.slice none 0 0, .int .u32 0, .int .i64 0] 73 := Blk.below (blk2' _ _ _ _ _) hb (by simp)
  have hS : Blk w1 w.heap.size #[.slice (some ⟨b, off, none⟩) n cp, .int .u32 (last : Int), .int .i64 max] 73 := Blk.below (blk2 _ _ _ _ _) hb (by simp; omega)
  have hO : Below w.heap.size w w1 := (((Below.refl _ _).alloc (Nat.le_refl _) _).alloc (by simp) _).trans (hb.mono (by simp; omega))
  have x0 : w1.cell? ⟨w.heap.size, 0, none⟩ = some (.slice (some ⟨b, off, none⟩) n cp) := Blk.cell hS 0
  have x1 : w1.cell? ⟨w.heap.size, 1, none⟩ = some (.int .u32 (last : Int)) := Blk.cell hS 1
  have x2 : w1.cell? ⟨w.heap.size, 2, none⟩ = some (.int .i64 max) := Blk.cell hS 2
  have d3 := cell_below hO c3
  have hltw : w.heap.size + 1 < w1.heap.size := Blk.lt hX
  have k0 : w.heap.size < w1.heap.size := by omega
  have HX := Lib.hid hX
  have HO := Lib.hid hO
  have HV1 := Lib.hid ((HV0.out.later hO).later ((Below.refl _ _).alloc (Nat.le_refl _) (.cells #[.slice none 0 0, .int .u32 (last : Int), .int .i64 max] 73)))
  have HLT := Lib.hid hltw
  clear hX hb hO hS c0 c1 c2 c3 hltw
  go_wp2_with (at_builtin; refine wpList_rows rfl (.tmp 39) (.tmp 41) rfl (w1.heap.size + 1) b off n cp V _ rfl rfl HV1.out HNP.out HN.out (by simp) (w1.heap.size + 1) (by simp) ?_)
  intro cap3 w3 hG hb3 hs3
  have hltw := HLT.out
  have hOut3 : Blk w3 w1.heap.size #[.slice none 0 0, .int .u32 (last : Int), .int .i64 max] 73 := Blk.below (Blk.new _ _ _) hb3 (by omega)
  have hX3 : Blk w3 (w.heap.size + 1) #[.slice none 0 0, .int .u32 0, .int .i64 0] 73 := Blk.below (HX.out.alloc _) hb3 (by omega)
  have hO3 : Below w.heap.size w w3 := (HO.out.alloc (by omega) _).trans (hb3.mono (by omega))
  obtain ⟨Cg, tg, hBg, g1, g3⟩ : ∃ Cg tg, Blk w3 (w1.heap.size + 1) Cg tg ∧ (∃ o1, Cg[i * 4 + 1]? = some o1) ∧ (∃ o3, Cg[i * 4 + 3]? = some o3) := by
    obtain ⟨_, cv', ev, _, _, hVv⟩ := hG.vers
    cases ev
    obtain ⟨b', off', _, _, e', _, _, _, _, _, g1, _, g3⟩ := hVv.get i HI.out
    cases e'
    obtain ⟨C, h1, _⟩ := hG
    rcases h1.2 with ⟨h0, _⟩ | ⟨g', cp', cur, hv', _, hh, _⟩
    · cases h0
    · cases hv'
      rw [Nat.zero_add] at g1 g3
      have hB' : Blk w3 (w1.heap.size + 1) cur _ := hh
      rw [Blk.cell hB'] at g1 g3
      exact ⟨cur, _, hB', ⟨_, g1⟩, ⟨_, g3⟩⟩
  obtain ⟨q1, g1⟩ := g1
  obtain ⟨q3, g3⟩ := g3
  have y0 : w3.cell? ⟨w1.heap.size, 0, none⟩ = some (.slice none 0 0) := Blk.cell hOut3 0
  have y1 : w3.cell? ⟨w1.heap.size, 1, none⟩ = some (.int .u32 (last : Int)) := Blk.cell hOut3 1
  have y2 : w3.cell? ⟨w1.heap.size, 2, none⟩ = some (.int .i64 max) := Blk.cell hOut3 2
  have f0 : w3.frozen? ⟨w1.heap.size, 0, none⟩ = false := Blk.free hOut3 0
  have hB4 : Blk (w3.setCell ⟨w1.heap.size, 0, none⟩ (.slice (some ⟨w1.heap.size + 1, 0, none⟩) n cap3)) (w1.heap.size + 1) Cg tg := Blk.set_other hBg (by simp) _
  have o1 : (w3.setCell ⟨w1.heap.size, 0, none⟩ (.slice (some ⟨w1.heap.size + 1, 0, none⟩) n cap3)).cell? ⟨w1.heap.size + 1, i * 4 + 3, none⟩ = some q3 := (Blk.cell hB4 _).trans g3
  have o2 : (w3.setCell ⟨w1.heap.size, 0, none⟩ (.slice (some ⟨w1.heap.size + 1, 0, none⟩) n cap3)).frozen? ⟨w1.heap.size + 1, i * 4 + 3, none⟩ = false := Blk.free hB4 _
  have o3 : w3.cell? ⟨w1.heap.size + 1, i * 4 + 3, none⟩ = some q3 := (Blk.cell hBg _).trans g3
  have o4 : w3.frozen? ⟨w1.heap.size + 1, i * 4 + 3, none⟩ = false := Blk.free hBg _
  have o5 : w3.cell? ⟨w1.heap.size + 1, i * 4 + 1, none⟩ = some q1 := (Blk.cell hBg _).trans g1
  have o6 : w3.frozen? ⟨w1.heap.size + 1, i * 4 + 1, none⟩ = false := Blk.free hBg _
  have hB5 := Blk.set hB4 (i * 4 + 3) (.int .i64 2)
  have o7 : ((w3.setCell ⟨w1.heap.size, 0, none⟩ (.slice (some ⟨w1.heap.size + 1, 0, none⟩) n cap3)).setCell ⟨w1.heap.size + 1, i * 4 + 3, none⟩ (.int .i64 2)).cell? ⟨w1.heap.size + 1, i * 4 + 1, none⟩ = some q1 := (Blk.cell hB5 _).trans (by rw [Array.getElem?_setIfInBounds, if_neg (by omega)]; exact g1)
  have o8 : ((w3.setCell ⟨w1.heap.size, 0, none⟩ (.slice (some ⟨w1.heap.size + 1, 0, none⟩) n cap3)).setCell ⟨w1.heap.size + 1, i * 4 + 3, none⟩ (.int .i64 2)).frozen? ⟨w1.heap.size + 1, i * 4 + 1, none⟩ = false := Blk.free hB5 _
  have hG4 := hG.set_apart (k := 0) (x := .slice (some ⟨w1.heap.size + 1, 0, none⟩) n cap3) hOut3 no_u8_3 (by omega)
  have hG5 := hG4.set_st HI.out 2
  have hGf := hG5.set_nil HI.out
  have hOutf := (Blk.set_other (Blk.set_other (Blk.set hOut3 0 (.slice (some ⟨w1.heap.size + 1, 0, none⟩) n cap3)) (a := ⟨w1.heap.size + 1, i * 4 + 3, none⟩) (by simp; try omega) (.int .i64 2)) (a := ⟨w1.heap.size + 1, i * 4 + 1, none⟩) (by simp; try omega) (.slice none 0 0))
  have hXf : Blk (((w3.setCell ⟨w1.heap.size, 0, none⟩ (.slice (some ⟨w1.heap.size + 1, 0, none⟩) n cap3)).setCell ⟨w1.heap.size + 1, i * 4 + 3, none⟩ (.int .i64 2)).setCell ⟨w1.heap.size + 1, i * 4 + 1, none⟩ (.slice none 0 0)) (w.heap.size + 1) #[.slice none 0 0, .int .u32 0, .int .i64 0] 73 := (Blk.set_other (Blk.set_other (Blk.set_other hX3 (a := ⟨w1.heap.size, 0, none⟩) (by simp; omega) (.slice (some ⟨w1.heap.size + 1, 0, none⟩) n cap3)) (a := ⟨w1.heap.size + 1, i * 4 + 3, none⟩) (by simp; try omega) (.int .i64 2)) (a := ⟨w1.heap.size + 1, i * 4 + 1, none⟩) (by simp; try omega) (.slice none 0 0))
  have hOf : Below w.heap.size w (((w3.setCell ⟨w1.heap.size, 0, none⟩ (.slice (some ⟨w1.heap.size + 1, 0, none⟩) n cap3)).setCell ⟨w1.heap.size + 1, i * 4 + 3, none⟩ (.int .i64 2)).setCell ⟨w1.heap.size + 1, i * 4 + 1, none⟩ (.slice none 0 0)) := (((hO3.setCell (by simp; omega) _).setCell (by simp; omega) _)).setCell (by simp; omega) _
  have r0 : (((w3.setCell ⟨w1.heap.size, 0, none⟩ (.slice (some ⟨w1.heap.size + 1, 0, none⟩) n cap3)).setCell ⟨w1.heap.size + 1, i * 4 + 3, none⟩ (.int .i64 2)).setCell ⟨w1.heap.size + 1, i * 4 + 1, none⟩ (.slice none 0 0)).cell? ⟨w1.heap.size, 0, none⟩ = some (.slice (some ⟨w1.heap.size + 1, 0, none⟩) n cap3) := Blk.cell hOutf 0
  have r1 : (((w3.setCell ⟨w1.heap.size, 0, none⟩ (.slice (some ⟨w1.heap.size + 1, 0, none⟩) n cap3)).setCell ⟨w1.heap.size + 1, i * 4 + 3, none⟩ (.int .i64 2)).setCell ⟨w1.heap.size + 1, i * 4 + 1, none⟩ (.slice none 0 0)).cell? ⟨w1.heap.size, 1, none⟩ = some (.int .u32 (last : Int)) := Blk.cell hOutf 1
  have r2 : (((w3.setCell ⟨w1.heap.size, 0, none⟩ (.slice (some ⟨w1.heap.size + 1, 0, none⟩) n cap3)).setCell ⟨w1.heap.size + 1, i * 4 + 3, none⟩ (.int .i64 2)).setCell ⟨w1.heap.size + 1, i * 4 + 1, none⟩ (.slice none 0 0)).cell? ⟨w1.heap.size, 2, none⟩ = some (.int .i64 max) := Blk.cell hOutf 2
  have n1 : ¬ (w.heap.size + 1 = w1.heap.size + 1) := by omega
  have n2 : ¬ (w1.heap.size + 1 = w.heap.size + 1) := by omega
  have n3 : ¬ (w.heap.size + 1 = w1.heap.size) := by omega
  have n4 : ¬ (w1.heap.size = w.heap.size + 1) := by omega
  have n5 : ¬ (w.heap.size = w1.heap.size) := by omega
  have n6 : ¬ (w1.heap.size = w.heap.size) := by omega
  have t0 : w3.cell? ⟨w.heap.size + 1, 0, none⟩ = some (.slice none 0 0) := Blk.cell hX3 0
  have u0 : w3.frozen? ⟨w.heap.size + 1, 0, none⟩ = false := Blk.free hX3 0
  have t1 : w3.cell? ⟨w.heap.size + 1, 1, none⟩ = some (.int .u32 0) := Blk.cell hX3 1
  have u1 : w3.frozen? ⟨w.heap.size + 1, 1, none⟩ = false := Blk.free hX3 1
  have t2 : w3.cell? ⟨w.heap.size + 1, 2, none⟩ = some (.int .i64 0) := Blk.cell hX3 2
  have u2 : w3.frozen? ⟨w.heap.size + 1, 2, none⟩ = false := Blk.free hX3 2
  have s0 : (((w3.setCell ⟨w1.heap.size, 0, none⟩ (.slice (some ⟨w1.heap.size + 1, 0, none⟩) n cap3)).setCell ⟨w1.heap.size + 1, i * 4 + 3, none⟩ (.int .i64 2)).setCell ⟨w1.heap.size + 1, i * 4 + 1, none⟩ (.slice none 0 0)).cell? ⟨w.heap.size + 1, 0, none⟩ = some (.slice none 0 0) := Blk.cell hXf 0
  have z0 : (((w3.setCell ⟨w1.heap.size, 0, none⟩ (.slice (some ⟨w1.heap.size + 1, 0, none⟩) n cap3)).setCell ⟨w1.heap.size + 1, i * 4 + 3, none⟩ (.int .i64 2)).setCell ⟨w1.heap.size + 1, i * 4 + 1, none⟩ (.slice none 0 0)).frozen? ⟨w.heap.size + 1, 0, none⟩ = false := Blk.free hXf 0
  have s1 : (((w3.setCell ⟨w1.heap.size, 0, none⟩ (.slice (some ⟨w1.heap.size + 1, 0, none⟩) n cap3)).setCell ⟨w1.heap.size + 1, i * 4 + 3, none⟩ (.int .i64 2)).setCell ⟨w1.heap.size + 1, i * 4 + 1, none⟩ (.slice none 0 0)).cell? ⟨w.heap.size + 1, 1, none⟩ = some (.int .u32 0) := Blk.cell hXf 1
  have z1 : (((w3.setCell ⟨w1.heap.size, 0, none⟩ (.slice (some ⟨w1.heap.size + 1, 0, none⟩) n cap3)).setCell ⟨w1.heap.size + 1, i * 4 + 3, none⟩ (.int .i64 2)).setCell ⟨w1.heap.size + 1, i * 4 + 1, none⟩ (.slice none 0 0)).frozen? ⟨w.heap.size + 1, 1, none⟩ = false := Blk.free hXf 1
  have s2 : (((w3.setCell ⟨w1.heap.size, 0, none⟩ (.slice (some ⟨w1.heap.size + 1, 0, none⟩) n cap3)).setCell ⟨w1.heap.size + 1, i * 4 + 3, none⟩ (.int .i64 2)).setCell ⟨w1.heap.size + 1, i * 4 + 1, none⟩ (.slice none 0 0)).cell? ⟨w.heap.size + 1, 2, none⟩ = some (.int .i64 0) := Blk.cell hXf 2
  have z2 : (((w3.setCell ⟨w1.heap.size, 0, none⟩ (.slice (some ⟨w1.heap.size + 1, 0, none⟩) n cap3)).setCell ⟨w1.heap.size + 1, i * 4 + 3, none⟩ (.int .i64 2)).setCell ⟨w1.heap.size + 1, i * 4 + 1, none⟩ (.slice none 0 0)).frozen? ⟨w.heap.size + 1, 2, none⟩ = false := Blk.free hXf 2
  have a0 : ((((w3.setCell ⟨w1.heap.size, 0, none⟩ (.slice (some ⟨w1.heap.size + 1, 0, none⟩) n cap3)).setCell ⟨w1.heap.size + 1, i * 4 + 3, none⟩ (.int .i64 2)).setCell ⟨w1.heap.size + 1, i * 4 + 1, none⟩ (.slice none 0 0)).setCell ⟨w.heap.size + 1, 0, none⟩ (.slice (some ⟨w1.heap.size + 1, 0, none⟩) n cap3)).cell? ⟨w.heap.size + 1, 0, none⟩ = some (.slice (some ⟨w1.heap.size + 1, 0, none⟩) n cap3) := Blk.cell (Blk.set hXf 0 _) 0
  have a1 : (((((w3.setCell ⟨w1.heap.size, 0, none⟩ (.slice (some ⟨w1.heap.size + 1, 0, none⟩) n cap3)).setCell ⟨w1.heap.size + 1, i * 4 + 3, none⟩ (.int .i64 2)).setCell ⟨w1.heap.size + 1, i * 4 + 1, none⟩ (.slice none 0 0)).setCell ⟨w.heap.size + 1, 0, none⟩ (.slice (some ⟨w1.heap.size + 1, 0, none⟩) n cap3)).setCell ⟨w.heap.size + 1, 1, none⟩ (.int .u32 (last : Int))).cell? ⟨w.heap.size + 1, 1, none⟩ = some (.int .u32 (last : Int)) := Blk.cell (Blk.set (Blk.set hXf 0 _) 1 _) 1
  have a2 : ((((((w3.setCell ⟨w1.heap.size, 0, none⟩ (.slice (some ⟨w1.heap.size + 1, 0, none⟩) n cap3)).setCell ⟨w1.heap.size + 1, i * 4 + 3, none⟩ (.int .i64 2)).setCell ⟨w1.heap.size + 1, i * 4 + 1, none⟩ (.slice none 0 0)).setCell ⟨w.heap.size + 1, 0, none⟩ (.slice (some ⟨w1.heap.size + 1, 0, none⟩) n cap3)).setCell ⟨w.heap.size + 1, 1, none⟩ (.int .u32 (last : Int))).setCell ⟨w.heap.size + 1, 2, none⟩ (.int .i64 max)).cell? ⟨w.heap.size + 1, 2, none⟩ = some (.int .i64 max) := Blk.cell (Blk.set (Blk.set (Blk.set hXf 0 _) 1 _) 2 _) 2
  have A0 := Lib.hid a0
  have A1 := Lib.hid a1
  have A2 := Lib.hid a2
  clear a0 a1 a2
  have hG7 := ((hGf.set_apart (k := 0) (x := .slice (some ⟨w1.heap.size + 1, 0, none⟩) n cap3) hXf no_u8_3 (by omega)).set_apart (k := 1) (x := .int .u32 (last : Int)) (Blk.set hXf 0 _) no_u8_3 (by omega)).set_apart (k := 2) (x := .int .i64 max) (Blk.set (Blk.set hXf 0 _) 1 _) no_u8_3 (by omega)
  have HG7 := Lib.hid (hG7.mono (base' := w.heap.size) (by omega))
  have HOf := Lib.hid hOf
  clear hG hb3 hs3 hOut3 hX3 hO3 hBg g1 g3 hB4 hB5 hG4 hG5 hGf hOutf hXf hOf hG7 HX HO HV1 hltw
  go_wp2_with fail
  refine bodyPost_ret (v := .tuple #[.agg #[.slice (some ⟨w1.heap.size + 1, 0, none⟩) n cap3, .int .u32 (last : Int), .int .i64 max], .int .i64 0]) ?_ rfl ⟨_, rfl, HG7.out, ?_⟩
  · simp [results, Tryd.results48, go_sem, A0.out, A1.out, A2.out]
  · exact (((HOf.out).setCell (by simp) _).setCell (by simp) _).setCell (by simp) _
end Go.Proofs.YtkaddilgegimjaaDoor
