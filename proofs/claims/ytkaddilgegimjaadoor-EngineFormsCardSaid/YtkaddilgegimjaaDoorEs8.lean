/- append of a row of versions that came in, whatever it is, onto nil. -/
import Derived.Test.YtkaddilgegimjaaDoorEs7
import Derived.Test.YtkaddilgegimjaaDoorEn8
namespace Go.Proofs.YtkaddilgegimjaaDoor
set_option linter.unusedVariables false
set_option linter.unusedSimpArgs false
open Go.RowKit

theorem step_src {ops : Array Oper} {o : Oper} {a : Act} {K : Act → World → Prop} {Q : Exit → Act → World → Prop} {E : Prop} (hgd : o.guard = none) (s x : Operand)
    (ho : o.op = .call { callee := .builtin .append, args := #[s, x], argTypes := #[71, 71] })
    (base : Nat) (oa : Option Addr) (m c : Nat) (V : Nat → Ver) (W : World) (hs : a.eval s = .slice none 0 0) (hx : a.eval x = .slice oa m c) (hV : Vers W oa m V) (hno : oa = none → c = 0)
    (hn : m * 48 ≤ 140737488355328) (hbase : base ≤ W.heap.size)
    (h : ∀ ov cv w', RGV w' base (.slice ov m cv) m V → Below W.heap.size W w' → K (a.put o.dst (.slice ov m cv)) w') :
    if Region.wanted o (yielded ops a.tmps) = true then Oper.wp Tryd.prog o a W K Q else E := by
  have hw : Region.wanted o (yielded ops a.tmps) = true := by simp [Region.wanted, hgd]
  rw [if_pos hw]
  obtain ⟨i0, hi, hz0, hz1, hz2⟩ := info_parts info_verR
  by_cases hm : m = 0
  · subst hm
    cases oa with
    | none =>
      obtain rfl := hno rfl
      have hrun := run_append_owned_none (P := Tryd.prog) (w := W) base 71 o.type 89 i0 4 Tryd.underlying71 hi (.slice none 0 0) 0 [] (World.ownsRow_nil W base _ 4)
      unfold Oper.wp execOp
      simp only [ho, resolve, invoke, builtin, Sem.run_bind, Sem.run_pure, Result.andThen_ok, List.map_toArray, List.map_cons, List.map_nil, hs, hx, hrun]
      exact h none 0 W (RGV.nil W base V) (Below.refl _ _)
    | some ad =>
      obtain ⟨v', w', hrun, hown, hg, hnil, _⟩ := run_append_own_at (P := Tryd.prog) W base 71 o.type 89 i0 _ 4 48 Tryd.underlying71 hi hz0 hz1 hz2 rfl (by decide) (.slice none 0 0) 0 [] (World.ownsRow_nil W base _ 4) ad 0 c [] rfl (fun j u h => by simp at h) (fun u h => by simp at h) (by unfold maxLen; omega) (by omega) hbase
      obtain rfl := hnil.2 ⟨rfl, rfl⟩
      unfold Oper.wp execOp
      simp only [ho, resolve, invoke, builtin, Sem.run_bind, Sem.run_pure, Result.andThen_ok, List.map_toArray, List.map_cons, List.map_nil, hs, hx, hrun]
      exact h none 0 w' (RGV.nil w' base V) ⟨hg.os, hg.tape, hg.output, hg.size, fun k hk => hg.block k hk (by simp [Value.ownBlock])⟩
  · obtain ⟨b, off, _, rfl, _⟩ := hV 0 (by omega)
    have := step_rows (E := E) (Q := Q) (K := K) (ops := ops) hgd s x ho base b off m c V W hs hx hV (by omega) hn hbase W.heap.size rfl (fun cap w' h1 h2 _ => h _ _ w' h1 h2)
    rw [if_pos hw] at this
    exact this
set_option maxRecDepth 100000 in
set_option maxHeartbeats 4000000 in
theorem rput_nm (oa : Option Addr) (n cp last : Nat) (max : Int) (V : Nat → Ver) (w : World) (L : Nat) (hL : last + 1 = L) (hn : n ≤ maxLen) (hl : last < 4294967295) (hV : Vers w oa n V) (hm : ∀ i, i < n → (V i).n < 4294967296) (hcp : n ≤ cp) (hz : oa = none → cp = 0)  (od : Option Addr) (dl dc : Nat) (df : Nat → Nat) (cas : Int) (now : Nat) (h : SecOk n last max V) (hd : dl ≤ 100) (hc : cas < 0) (hB : Bytes w od dl df) (hno : od = none → dl = 0) (hdc : dl ≤ dc) (hdm : dc ≤ maxLen) (hx : (n : Int) < max) :
    Calls Tryd.prog 44 #[.agg #[.slice oa n cp, .int .u32 (last : Int), .int .i64 max], .slice od dl dc, .int .i64 cas, .int .u64 (now : Int)] w fun e w' => ∃ v, e = .returned (.tuple #[.agg #[v, .int .u32 (L : Int), .int .i64 max], .int .i64 0]) ∧ RGV w' w.heap.size v (n + 1) (putV V 0 n ⟨L, dl, df, now, 0⟩) ∧ Below w.heap.size w w' := by
  have HV0 := Lib.hid hV
  have HV := Lib.hid (hV.later (((Below.refl _ _).alloc (Nat.le_refl _) _).alloc (by simp) _ : Below w.heap.size w ((w.alloc (.cells #[.slice oa n cp, .int .u32 (last : Int), .int .i64 max] 73)).alloc (.cells #[.slice none 0 0, .int .u32 0, .int .i64 0] 73))))
  have HF := Lib.hid fun w2 (hV2 : Vers w2 oa n V) => rmay_yes oa n cp last max V w2 hn (Nat.lt_succ_of_lt hl) hV2 hm h
  have HN8 := Lib.hid (show ((n : Nat) : Int) ≤ 8 by have := h.1.2.1; have := h.1.2.2.1; omega)
  have HB := Lib.hid hB
  have HD := Lib.hid (And.intro hno (And.intro hdc hdm))
  have d0 : (dl : Int) ≤ 100 := by omega
  have l0 : (last : Int) ≤ 4294967295 := by omega
  have l1 : (0 : Int) ≤ (last : Int) := by omega
  have l2 : ((last : Int) == 4294967295) = false := by rw [beq_eq_false_iff_ne]; omega
  have l3 : IntKind.u32.wrap ((last : Int) + 1) = (L : Int) := by rw [IntKind.wrap_u32]; omega
  have x0 : (((n : Nat) : Int) == max) = false := by rw [beq_eq_false_iff_ne]; omega
  have q0 : (0 : Int) ≤ ((n : Nat) : Int) := by omega
  have q1 : ((n : Nat) : Int) ≤ (cp : Int) := by omega
  have q2 : (0 : Int) ≤ (cp : Int) := by omega
  have HZ := Lib.hid hz
  clear hz
  have c0 : decide (cas ≥ 0) = false := decide_eq_false (by omega)
  clear hL hV hn hm h hd hB hno hx hl hdc hdm hcp 
  go_enter Tryd.func44, Tryd.ntmps44
  go_wp2_with fail
  refine (HF.out _ HV.out).mono ?_
  rintro e w1 ⟨rfl, hb⟩
  have hX : Blk w1 (w.heap.size + 1) #[.slice none 0 0, .int .u32 0, .int .i64 0] 73 := Blk.below (blk2' _ _ _ _ _) hb (by simp)
  have hS : Blk w1 w.heap.size #[.slice oa n cp, .int .u32 (last : Int), .int .i64 max] 73 := Blk.below (blk2 _ _ _ _ _) hb (by simp; omega)
  have hO : Below w.heap.size w w1 := (((Below.refl _ _).alloc (Nat.le_refl _) _).alloc (by simp) _).trans (hb.mono (by simp; omega))
  have x1 : w1.cell? ⟨w.heap.size, 0, none⟩ = some (.slice oa n cp) := Blk.cell hS 0
  have x2 : w1.cell? ⟨w.heap.size, 1, none⟩ = some (.int .u32 (last : Int)) := Blk.cell hS 1
  have x3 : w1.cell? ⟨w.heap.size, 2, none⟩ = some (.int .i64 max) := Blk.cell hS 2
  have k0 : w.heap.size < w1.heap.size := Blk.lt hS
  have HX := Lib.hid hX
  have HO := Lib.hid hO
  have HS := Lib.hid hS
  have HLT := Lib.hid (Blk.lt hX)
  have HV1 := Lib.hid ((HV0.out.later hO).later ((Below.refl _ _).alloc (Nat.le_refl _) (.cells #[.slice none 0 0, .int .u32 (L : Int), .int .i64 max] 73)))
  clear hX hO hS hb
  have HNew := Lib.hid (Blk.new w1 #[.slice none 0 0, .int .u32 (L : Int), .int .i64 max] 73)
  have HSz := Lib.hid (show w1.heap.size + 1 ≤ (w1.alloc (.cells #[.slice none 0 0, .int .u32 (L : Int), .int .i64 max] 73)).heap.size by simp)
  have HN48 := Lib.hid (show n * 48 ≤ 140737488355328 by have := HN8.out; omega)
  go_wp2_with fail
  go_region_law (first | (refine step_src rfl (.tmp 48) (.tmp 52) rfl (w1.heap.size + 1) oa n cp V _ rfl rfl ?_ ?_ ?_ ?_ ?_; exact HV1.out; exact HZ.out; exact HN48.out; exact HSz.out; intro ov cv w3 hG hb3; have hOut3 : Blk w3 w1.heap.size #[.slice none 0 0, .int .u32 (L : Int), .int .i64 max] 73 := Blk.below HNew.out ⟨hb3.os, hb3.tape, hb3.output, hb3.size, hb3.block⟩ (by simp); have u0 : w3.cell? ⟨w1.heap.size, 0, none⟩ = some (.slice none 0 0) := Blk.cell hOut3 0; have f0 : w3.frozen? ⟨w1.heap.size, 0, none⟩ = false := Blk.free hOut3 0; have HG := Lib.hid hG; have HB3 : Hid (Below (w1.alloc (.cells #[.slice none 0 0, .int .u32 (L : Int), .int .i64 max] 73)).heap.size (w1.alloc (.cells #[.slice none 0 0, .int .u32 (L : Int), .int .i64 max] 73)) w3) := Lib.hid ⟨hb3.os, hb3.tape, hb3.output, hb3.size, hb3.block⟩; have HOut3 := Lib.hid hOut3; clear hG hb3 hOut3))
  all_goals
    have hltw := HLT.out
    have hs3 : w1.heap.size + 1 ≤ w3.heap.size := by have := HB3.out.size; simpa using this
    have hX3 : Blk w3 (w.heap.size + 1) #[.slice none 0 0, .int .u32 0, .int .i64 0] 73 := Blk.below (HX.out.alloc _) HB3.out (by simp; omega)
    have hS3 : Blk w3 w.heap.size #[.slice oa n cp, .int .u32 (last : Int), .int .i64 max] 73 := Blk.below (HS.out.alloc _) HB3.out (by simp; omega)
    have hO3 : Below w.heap.size w w3 := (HO.out.alloc (by omega) _).trans (HB3.out.mono (by simp; omega))
    have hG4 := RGV.congr (U := (putV V 0 n ⟨L, dl, df, now, 0⟩)) (HG.out.set_apart (k := 0) (x := .slice ov n cv) HOut3.out no_u8_3 (by omega)) fun i hi => by show _ = if i = n then _ else _; rw [if_neg (by omega)]; rfl
    have hOut4 := Blk.set HOut3.out 0 (.slice ov n cv)
    have hX4 : Blk (w3.setCell ⟨w1.heap.size, 0, none⟩ (.slice ov n cv)) (w.heap.size + 1) #[.slice none 0 0, .int .u32 0, .int .i64 0] 73 := Blk.set_other hX3 (by simp; omega) _
    have hS4 : Blk (w3.setCell ⟨w1.heap.size, 0, none⟩ (.slice ov n cv)) w.heap.size #[.slice oa n cp, .int .u32 (last : Int), .int .i64 max] 73 := Blk.set_other hS3 (by simp; omega) _
    have hO4 : Below w.heap.size w (w3.setCell ⟨w1.heap.size, 0, none⟩ (.slice ov n cv)) := hO3.setCell (by simp; omega) _
    have y0 : (w3.setCell ⟨w1.heap.size, 0, none⟩ (.slice ov n cv)).cell? ⟨w1.heap.size, 0, none⟩ = some (.slice ov n cv) := Blk.cell hOut4 0
    have y1 : (w3.setCell ⟨w1.heap.size, 0, none⟩ (.slice ov n cv)).cell? ⟨w.heap.size, 1, none⟩ = some (.int .u32 (last : Int)) := Blk.cell hS4 1
    have y2 : w3.cell? ⟨w.heap.size, 1, none⟩ = some (.int .u32 (last : Int)) := Blk.cell hS3 1
    have hc : IsVer (w3.setCell ⟨w1.heap.size, 0, none⟩ (.slice ov n cv)) [.int .u32 (L : Int), .slice od dl dc, .int .u64 (now : Int), .int .i64 0] ((putV V 0 n ⟨L, dl, df, now, 0⟩) n) := putV_at ▸ ⟨od, dc, rfl, (HB.out.later hO3).set_apart HOut3.out no_u8_3, HD.out.1, HD.out.2.1, HD.out.2.2⟩
    have haw : Away (.slice ov n cv) [.int .u32 (L : Int), .slice od dl dc, .int .u64 (now : Int), .int .i64 0] := fun a l c hmem hl0 hq => by
      simp at hmem
      obtain ⟨h1, h2, _⟩ := hmem
      have h4 := addr_of_bytes (h1 ▸ HB.out) (h2 ▸ hl0)
      have h5 := (HG.out.ownb _ hq).1
      omega
    have HG4 := Lib.hid hG4
    have HC := Lib.hid hc
    have HAW := Lib.hid haw
    have HN48b := Lib.hid (show (n + 1) * 48 ≤ 140737488355328 by have := HN8.out; omega)
    have HS4 := Lib.hid (show w1.heap.size + 1 ≤ (w3.setCell ⟨w1.heap.size, 0, none⟩ (.slice ov n cv)).heap.size by simp [World.setCell]; omega)
    have HH := Lib.hid (show (w3.setCell ⟨w1.heap.size, 0, none⟩ (.slice ov n cv)).heap.size = w3.heap.size by simp [World.setCell])
    have hown : ∀ q, q < w1.heap.size + 1 → (Value.slice ov n cv).ownBlock ≠ some q := fun q hq e => by have := (HG.out.ownb _ e).1; omega
    have HOwn := Lib.hid hown
    have HX4 := Lib.hid hX4
    have HO4 := Lib.hid hO4
    have HOut4 := Lib.hid hOut4
    have n5 : ¬ (w.heap.size = w1.heap.size) := by omega
    have n6 : ¬ (w1.heap.size = w.heap.size) := by omega
    clear hX3 hS3 hO3 hG4 hOut4 hX4 hS4 hO4 hc haw hown HG HB3 HOut3 HX HS HO HV1 HNew HB hltw u0 f0 x1 x2 x3
    go_wp2_with (at_builtin; refine wpList_appVR rfl (.tmp 56) (.tmp 63) rfl (w1.heap.size + 1) (.slice ov n cv) n (putV V 0 n ⟨L, dl, df, now, 0⟩) [.int .u32 (L : Int), .slice od dl dc, .int .u64 (now : Int), .int .i64 0] _ rfl HG4.out HC.out HAW.out w3.heap.size HH.out rfl HN48b.out HS4.out ?_)
    intro v' w5 hG5 hg5 hb5 hs5
    obtain ⟨ov', cv', rfl, _, _⟩ := hG5.slice
    have hltw := HLT.out
    have hO5 := HO4.out.trans (hb5.mono (by omega))
    have hOut5 := HOut4.out.grown hg5 (HOwn.out _ (by omega))
    have hX5 := HX4.out.grown hg5 (HOwn.out _ (by omega))
    have t0 : w5.cell? ⟨w1.heap.size, 0, none⟩ = some (.slice ov n cv) := Blk.cell hOut5 0
    have t1 : w5.cell? ⟨w1.heap.size, 1, none⟩ = some (.int .u32 (L : Int)) := Blk.cell hOut5 1
    have t2 : w5.cell? ⟨w1.heap.size, 2, none⟩ = some (.int .i64 max) := Blk.cell hOut5 2
    have f1 : w5.frozen? ⟨w1.heap.size, 0, none⟩ = false := Blk.free hOut5 0
    have hOut6 := Blk.set hOut5 0 (.slice ov' (n + 1) cv')
    have hX6 : Blk (w5.setCell ⟨w1.heap.size, 0, none⟩ (.slice ov' (n + 1) cv')) (w.heap.size + 1) #[.slice none 0 0, .int .u32 0, .int .i64 0] 73 := Blk.set_other hX5 (by simp; omega) _
    have hG6 := hG5.set_apart (k := 0) (x := (.slice ov' (n + 1) cv')) hOut5 no_u8_3 (by omega)
    have hO6 : Below w.heap.size w (w5.setCell ⟨w1.heap.size, 0, none⟩ (.slice ov' (n + 1) cv')) := hO5.setCell (by simp; omega) _
    have r0 : (w5.setCell ⟨w1.heap.size, 0, none⟩ (.slice ov' (n + 1) cv')).cell? ⟨w1.heap.size, 0, none⟩ = some ((.slice ov' (n + 1) cv')) := Blk.cell hOut6 0
    have r1 : (w5.setCell ⟨w1.heap.size, 0, none⟩ (.slice ov' (n + 1) cv')).cell? ⟨w1.heap.size, 1, none⟩ = some (.int .u32 (L : Int)) := Blk.cell hOut6 1
    have r2 : (w5.setCell ⟨w1.heap.size, 0, none⟩ (.slice ov' (n + 1) cv')).cell? ⟨w1.heap.size, 2, none⟩ = some (.int .i64 max) := Blk.cell hOut6 2
    have s0 : (w5.setCell ⟨w1.heap.size, 0, none⟩ (.slice ov' (n + 1) cv')).cell? ⟨w.heap.size + 1, 0, none⟩ = some (.slice none 0 0) := Blk.cell hX6 0
    have z0 : (w5.setCell ⟨w1.heap.size, 0, none⟩ (.slice ov' (n + 1) cv')).frozen? ⟨w.heap.size + 1, 0, none⟩ = false := Blk.free hX6 0
    have s1 : (w5.setCell ⟨w1.heap.size, 0, none⟩ (.slice ov' (n + 1) cv')).cell? ⟨w.heap.size + 1, 1, none⟩ = some (.int .u32 0) := Blk.cell hX6 1
    have z1 : (w5.setCell ⟨w1.heap.size, 0, none⟩ (.slice ov' (n + 1) cv')).frozen? ⟨w.heap.size + 1, 1, none⟩ = false := Blk.free hX6 1
    have s2 : (w5.setCell ⟨w1.heap.size, 0, none⟩ (.slice ov' (n + 1) cv')).cell? ⟨w.heap.size + 1, 2, none⟩ = some (.int .i64 0) := Blk.cell hX6 2
    have z2 : (w5.setCell ⟨w1.heap.size, 0, none⟩ (.slice ov' (n + 1) cv')).frozen? ⟨w.heap.size + 1, 2, none⟩ = false := Blk.free hX6 2
    have a0 : ((w5.setCell ⟨w1.heap.size, 0, none⟩ (.slice ov' (n + 1) cv')).setCell ⟨w.heap.size + 1, 0, none⟩ (.slice ov' (n + 1) cv')).cell? ⟨w.heap.size + 1, 0, none⟩ = some (.slice ov' (n + 1) cv') := Blk.cell (Blk.set hX6 0 _) 0
    have a1 : (((w5.setCell ⟨w1.heap.size, 0, none⟩ (.slice ov' (n + 1) cv')).setCell ⟨w.heap.size + 1, 0, none⟩ (.slice ov' (n + 1) cv')).setCell ⟨w.heap.size + 1, 1, none⟩ (.int .u32 (L : Int))).cell? ⟨w.heap.size + 1, 1, none⟩ = some (.int .u32 (L : Int)) := Blk.cell (Blk.set (Blk.set hX6 0 _) 1 _) 1
    have a2 : ((((w5.setCell ⟨w1.heap.size, 0, none⟩ (.slice ov' (n + 1) cv')).setCell ⟨w.heap.size + 1, 0, none⟩ (.slice ov' (n + 1) cv')).setCell ⟨w.heap.size + 1, 1, none⟩ (.int .u32 (L : Int))).setCell ⟨w.heap.size + 1, 2, none⟩ (.int .i64 max)).cell? ⟨w.heap.size + 1, 2, none⟩ = some (.int .i64 max) := Blk.cell (Blk.set (Blk.set (Blk.set hX6 0 _) 1 _) 2 _) 2
    have A0 := Lib.hid a0
    have A1 := Lib.hid a1
    have A2 := Lib.hid a2
    clear a0 a1 a2
    have hG9 := ((hG6.set_apart (k := 0) (x := (.slice ov' (n + 1) cv')) hX6 no_u8_3 (by omega)).set_apart (k := 1) (x := .int .u32 (L : Int)) (Blk.set hX6 0 _) no_u8_3 (by omega)).set_apart (k := 2) (x := .int .i64 max) (Blk.set (Blk.set hX6 0 _) 1 _) no_u8_3 (by omega)
    have HG9 := Lib.hid (hG9.mono (base' := w.heap.size) (by omega))
    have HO6 := Lib.hid hO6
    clear hG5 hg5 hb5 hs5 hltw hO5 hOut5 hX5 hOut6 hX6 hG6 hO6 hG9 HG4 HC HAW HN48b HS4 HOwn HX4 HO4 HOut4 y0 y1 y2
    go_wp2_with fail
    refine bodyPost_ret (v := .tuple #[.agg #[.slice ov' (n + 1) cv', .int .u32 (L : Int), .int .i64 max], .int .i64 0]) ?_ rfl ⟨_, rfl, HG9.out, ?_⟩
    · simp [results, Tryd.results44, go_sem, A0.out, A1.out, A2.out]
    · exact (((HO6.out).setCell (by simp) _).setCell (by simp) _).setCell (by simp) _
set_option maxRecDepth 100000 in
set_option maxHeartbeats 4000000 in
theorem rput_cm (oa : Option Addr) (n cp last : Nat) (max : Int) (V : Nat → Ver) (w : World) (L : Nat) (hL : last + 1 = L) (hn : n ≤ maxLen) (hl : last < 4294967295) (hV : Vers w oa n V) (hm : ∀ i, i < n → (V i).n < 4294967296) (hcp : n ≤ cp) (hz : oa = none → cp = 0)  (od : Option Addr) (dl dc : Nat) (df : Nat → Nat) (cas : Int) (now : Nat) (h : SecOk n last max V) (hd : dl ≤ 100) (hc : cas = (last : Int)) (hB : Bytes w od dl df) (hno : od = none → dl = 0) (hdc : dl ≤ dc) (hdm : dc ≤ maxLen) (hx : (n : Int) < max) :
    Calls Tryd.prog 44 #[.agg #[.slice oa n cp, .int .u32 (last : Int), .int .i64 max], .slice od dl dc, .int .i64 cas, .int .u64 (now : Int)] w fun e w' => ∃ v, e = .returned (.tuple #[.agg #[v, .int .u32 (L : Int), .int .i64 max], .int .i64 0]) ∧ RGV w' w.heap.size v (n + 1) (putV V 0 n ⟨L, dl, df, now, 0⟩) ∧ Below w.heap.size w w' := by
  have HV0 := Lib.hid hV
  have HV := Lib.hid (hV.later (((Below.refl _ _).alloc (Nat.le_refl _) _).alloc (by simp) _ : Below w.heap.size w ((w.alloc (.cells #[.slice oa n cp, .int .u32 (last : Int), .int .i64 max] 73)).alloc (.cells #[.slice none 0 0, .int .u32 0, .int .i64 0] 73))))
  have HF := Lib.hid fun w2 (hV2 : Vers w2 oa n V) => rmay_yes oa n cp last max V w2 hn (Nat.lt_succ_of_lt hl) hV2 hm h
  have HN8 := Lib.hid (show ((n : Nat) : Int) ≤ 8 by have := h.1.2.1; have := h.1.2.2.1; omega)
  have HB := Lib.hid hB
  have HD := Lib.hid (And.intro hno (And.intro hdc hdm))
  have d0 : (dl : Int) ≤ 100 := by omega
  have l0 : (last : Int) ≤ 4294967295 := by omega
  have l1 : (0 : Int) ≤ (last : Int) := by omega
  have l2 : ((last : Int) == 4294967295) = false := by rw [beq_eq_false_iff_ne]; omega
  have l3 : IntKind.u32.wrap ((last : Int) + 1) = (L : Int) := by rw [IntKind.wrap_u32]; omega
  have x0 : (((n : Nat) : Int) == max) = false := by rw [beq_eq_false_iff_ne]; omega
  have q0 : (0 : Int) ≤ ((n : Nat) : Int) := by omega
  have q1 : ((n : Nat) : Int) ≤ (cp : Int) := by omega
  have q2 : (0 : Int) ≤ (cp : Int) := by omega
  have HZ := Lib.hid hz
  clear hz
  subst hc
  clear hL hV hn hm h hd hB hno hx hl hdc hdm hcp 
  go_enter Tryd.func44, Tryd.ntmps44
  go_wp2_with fail
  refine (HF.out _ HV.out).mono ?_
  rintro e w1 ⟨rfl, hb⟩
  have hX : Blk w1 (w.heap.size + 1) #[.slice none 0 0, .int .u32 0, .int .i64 0] 73 := Blk.below (blk2' _ _ _ _ _) hb (by simp)
  have hS : Blk w1 w.heap.size #[.slice oa n cp, .int .u32 (last : Int), .int .i64 max] 73 := Blk.below (blk2 _ _ _ _ _) hb (by simp; omega)
  have hO : Below w.heap.size w w1 := (((Below.refl _ _).alloc (Nat.le_refl _) _).alloc (by simp) _).trans (hb.mono (by simp; omega))
  have x1 : w1.cell? ⟨w.heap.size, 0, none⟩ = some (.slice oa n cp) := Blk.cell hS 0
  have x2 : w1.cell? ⟨w.heap.size, 1, none⟩ = some (.int .u32 (last : Int)) := Blk.cell hS 1
  have x3 : w1.cell? ⟨w.heap.size, 2, none⟩ = some (.int .i64 max) := Blk.cell hS 2
  have k0 : w.heap.size < w1.heap.size := Blk.lt hS
  have HX := Lib.hid hX
  have HO := Lib.hid hO
  have HS := Lib.hid hS
  have HLT := Lib.hid (Blk.lt hX)
  have HV1 := Lib.hid ((HV0.out.later hO).later ((Below.refl _ _).alloc (Nat.le_refl _) (.cells #[.slice none 0 0, .int .u32 (L : Int), .int .i64 max] 73)))
  clear hX hO hS hb
  have HNew := Lib.hid (Blk.new w1 #[.slice none 0 0, .int .u32 (L : Int), .int .i64 max] 73)
  have HSz := Lib.hid (show w1.heap.size + 1 ≤ (w1.alloc (.cells #[.slice none 0 0, .int .u32 (L : Int), .int .i64 max] 73)).heap.size by simp)
  have HN48 := Lib.hid (show n * 48 ≤ 140737488355328 by have := HN8.out; omega)
  go_wp2_with fail
  go_region_law (first | (refine step_src rfl (.tmp 48) (.tmp 52) rfl (w1.heap.size + 1) oa n cp V _ rfl rfl ?_ ?_ ?_ ?_ ?_; exact HV1.out; exact HZ.out; exact HN48.out; exact HSz.out; intro ov cv w3 hG hb3; have hOut3 : Blk w3 w1.heap.size #[.slice none 0 0, .int .u32 (L : Int), .int .i64 max] 73 := Blk.below HNew.out ⟨hb3.os, hb3.tape, hb3.output, hb3.size, hb3.block⟩ (by simp); have u0 : w3.cell? ⟨w1.heap.size, 0, none⟩ = some (.slice none 0 0) := Blk.cell hOut3 0; have f0 : w3.frozen? ⟨w1.heap.size, 0, none⟩ = false := Blk.free hOut3 0; have HG := Lib.hid hG; have HB3 : Hid (Below (w1.alloc (.cells #[.slice none 0 0, .int .u32 (L : Int), .int .i64 max] 73)).heap.size (w1.alloc (.cells #[.slice none 0 0, .int .u32 (L : Int), .int .i64 max] 73)) w3) := Lib.hid ⟨hb3.os, hb3.tape, hb3.output, hb3.size, hb3.block⟩; have HOut3 := Lib.hid hOut3; clear hG hb3 hOut3))
  all_goals
    have hltw := HLT.out
    have hs3 : w1.heap.size + 1 ≤ w3.heap.size := by have := HB3.out.size; simpa using this
    have hX3 : Blk w3 (w.heap.size + 1) #[.slice none 0 0, .int .u32 0, .int .i64 0] 73 := Blk.below (HX.out.alloc _) HB3.out (by simp; omega)
    have hS3 : Blk w3 w.heap.size #[.slice oa n cp, .int .u32 (last : Int), .int .i64 max] 73 := Blk.below (HS.out.alloc _) HB3.out (by simp; omega)
    have hO3 : Below w.heap.size w w3 := (HO.out.alloc (by omega) _).trans (HB3.out.mono (by simp; omega))
    have hG4 := RGV.congr (U := (putV V 0 n ⟨L, dl, df, now, 0⟩)) (HG.out.set_apart (k := 0) (x := .slice ov n cv) HOut3.out no_u8_3 (by omega)) fun i hi => by show _ = if i = n then _ else _; rw [if_neg (by omega)]; rfl
    have hOut4 := Blk.set HOut3.out 0 (.slice ov n cv)
    have hX4 : Blk (w3.setCell ⟨w1.heap.size, 0, none⟩ (.slice ov n cv)) (w.heap.size + 1) #[.slice none 0 0, .int .u32 0, .int .i64 0] 73 := Blk.set_other hX3 (by simp; omega) _
    have hS4 : Blk (w3.setCell ⟨w1.heap.size, 0, none⟩ (.slice ov n cv)) w.heap.size #[.slice oa n cp, .int .u32 (last : Int), .int .i64 max] 73 := Blk.set_other hS3 (by simp; omega) _
    have hO4 : Below w.heap.size w (w3.setCell ⟨w1.heap.size, 0, none⟩ (.slice ov n cv)) := hO3.setCell (by simp; omega) _
    have y0 : (w3.setCell ⟨w1.heap.size, 0, none⟩ (.slice ov n cv)).cell? ⟨w1.heap.size, 0, none⟩ = some (.slice ov n cv) := Blk.cell hOut4 0
    have y1 : (w3.setCell ⟨w1.heap.size, 0, none⟩ (.slice ov n cv)).cell? ⟨w.heap.size, 1, none⟩ = some (.int .u32 (last : Int)) := Blk.cell hS4 1
    have y2 : w3.cell? ⟨w.heap.size, 1, none⟩ = some (.int .u32 (last : Int)) := Blk.cell hS3 1
    have hc : IsVer (w3.setCell ⟨w1.heap.size, 0, none⟩ (.slice ov n cv)) [.int .u32 (L : Int), .slice od dl dc, .int .u64 (now : Int), .int .i64 0] ((putV V 0 n ⟨L, dl, df, now, 0⟩) n) := putV_at ▸ ⟨od, dc, rfl, (HB.out.later hO3).set_apart HOut3.out no_u8_3, HD.out.1, HD.out.2.1, HD.out.2.2⟩
    have haw : Away (.slice ov n cv) [.int .u32 (L : Int), .slice od dl dc, .int .u64 (now : Int), .int .i64 0] := fun a l c hmem hl0 hq => by
      simp at hmem
      obtain ⟨h1, h2, _⟩ := hmem
      have h4 := addr_of_bytes (h1 ▸ HB.out) (h2 ▸ hl0)
      have h5 := (HG.out.ownb _ hq).1
      omega
    have HG4 := Lib.hid hG4
    have HC := Lib.hid hc
    have HAW := Lib.hid haw
    have HN48b := Lib.hid (show (n + 1) * 48 ≤ 140737488355328 by have := HN8.out; omega)
    have HS4 := Lib.hid (show w1.heap.size + 1 ≤ (w3.setCell ⟨w1.heap.size, 0, none⟩ (.slice ov n cv)).heap.size by simp [World.setCell]; omega)
    have HH := Lib.hid (show (w3.setCell ⟨w1.heap.size, 0, none⟩ (.slice ov n cv)).heap.size = w3.heap.size by simp [World.setCell])
    have hown : ∀ q, q < w1.heap.size + 1 → (Value.slice ov n cv).ownBlock ≠ some q := fun q hq e => by have := (HG.out.ownb _ e).1; omega
    have HOwn := Lib.hid hown
    have HX4 := Lib.hid hX4
    have HO4 := Lib.hid hO4
    have HOut4 := Lib.hid hOut4
    have n5 : ¬ (w.heap.size = w1.heap.size) := by omega
    have n6 : ¬ (w1.heap.size = w.heap.size) := by omega
    clear hX3 hS3 hO3 hG4 hOut4 hX4 hS4 hO4 hc haw hown HG HB3 HOut3 HX HS HO HV1 HNew HB hltw u0 f0 x1 x2 x3
    go_wp2_with (at_builtin; refine wpList_appVR rfl (.tmp 56) (.tmp 63) rfl (w1.heap.size + 1) (.slice ov n cv) n (putV V 0 n ⟨L, dl, df, now, 0⟩) [.int .u32 (L : Int), .slice od dl dc, .int .u64 (now : Int), .int .i64 0] _ rfl HG4.out HC.out HAW.out w3.heap.size HH.out rfl HN48b.out HS4.out ?_)
    intro v' w5 hG5 hg5 hb5 hs5
    obtain ⟨ov', cv', rfl, _, _⟩ := hG5.slice
    have hltw := HLT.out
    have hO5 := HO4.out.trans (hb5.mono (by omega))
    have hOut5 := HOut4.out.grown hg5 (HOwn.out _ (by omega))
    have hX5 := HX4.out.grown hg5 (HOwn.out _ (by omega))
    have t0 : w5.cell? ⟨w1.heap.size, 0, none⟩ = some (.slice ov n cv) := Blk.cell hOut5 0
    have t1 : w5.cell? ⟨w1.heap.size, 1, none⟩ = some (.int .u32 (L : Int)) := Blk.cell hOut5 1
    have t2 : w5.cell? ⟨w1.heap.size, 2, none⟩ = some (.int .i64 max) := Blk.cell hOut5 2
    have f1 : w5.frozen? ⟨w1.heap.size, 0, none⟩ = false := Blk.free hOut5 0
    have hOut6 := Blk.set hOut5 0 (.slice ov' (n + 1) cv')
    have hX6 : Blk (w5.setCell ⟨w1.heap.size, 0, none⟩ (.slice ov' (n + 1) cv')) (w.heap.size + 1) #[.slice none 0 0, .int .u32 0, .int .i64 0] 73 := Blk.set_other hX5 (by simp; omega) _
    have hG6 := hG5.set_apart (k := 0) (x := (.slice ov' (n + 1) cv')) hOut5 no_u8_3 (by omega)
    have hO6 : Below w.heap.size w (w5.setCell ⟨w1.heap.size, 0, none⟩ (.slice ov' (n + 1) cv')) := hO5.setCell (by simp; omega) _
    have r0 : (w5.setCell ⟨w1.heap.size, 0, none⟩ (.slice ov' (n + 1) cv')).cell? ⟨w1.heap.size, 0, none⟩ = some ((.slice ov' (n + 1) cv')) := Blk.cell hOut6 0
    have r1 : (w5.setCell ⟨w1.heap.size, 0, none⟩ (.slice ov' (n + 1) cv')).cell? ⟨w1.heap.size, 1, none⟩ = some (.int .u32 (L : Int)) := Blk.cell hOut6 1
    have r2 : (w5.setCell ⟨w1.heap.size, 0, none⟩ (.slice ov' (n + 1) cv')).cell? ⟨w1.heap.size, 2, none⟩ = some (.int .i64 max) := Blk.cell hOut6 2
    have s0 : (w5.setCell ⟨w1.heap.size, 0, none⟩ (.slice ov' (n + 1) cv')).cell? ⟨w.heap.size + 1, 0, none⟩ = some (.slice none 0 0) := Blk.cell hX6 0
    have z0 : (w5.setCell ⟨w1.heap.size, 0, none⟩ (.slice ov' (n + 1) cv')).frozen? ⟨w.heap.size + 1, 0, none⟩ = false := Blk.free hX6 0
    have s1 : (w5.setCell ⟨w1.heap.size, 0, none⟩ (.slice ov' (n + 1) cv')).cell? ⟨w.heap.size + 1, 1, none⟩ = some (.int .u32 0) := Blk.cell hX6 1
    have z1 : (w5.setCell ⟨w1.heap.size, 0, none⟩ (.slice ov' (n + 1) cv')).frozen? ⟨w.heap.size + 1, 1, none⟩ = false := Blk.free hX6 1
    have s2 : (w5.setCell ⟨w1.heap.size, 0, none⟩ (.slice ov' (n + 1) cv')).cell? ⟨w.heap.size + 1, 2, none⟩ = some (.int .i64 0) := Blk.cell hX6 2
    have z2 : (w5.setCell ⟨w1.heap.size, 0, none⟩ (.slice ov' (n + 1) cv')).frozen? ⟨w.heap.size + 1, 2, none⟩ = false := Blk.free hX6 2
    have a0 : ((w5.setCell ⟨w1.heap.size, 0, none⟩ (.slice ov' (n + 1) cv')).setCell ⟨w.heap.size + 1, 0, none⟩ (.slice ov' (n + 1) cv')).cell? ⟨w.heap.size + 1, 0, none⟩ = some (.slice ov' (n + 1) cv') := Blk.cell (Blk.set hX6 0 _) 0
    have a1 : (((w5.setCell ⟨w1.heap.size, 0, none⟩ (.slice ov' (n + 1) cv')).setCell ⟨w.heap.size + 1, 0, none⟩ (.slice ov' (n + 1) cv')).setCell ⟨w.heap.size + 1, 1, none⟩ (.int .u32 (L : Int))).cell? ⟨w.heap.size + 1, 1, none⟩ = some (.int .u32 (L : Int)) := Blk.cell (Blk.set (Blk.set hX6 0 _) 1 _) 1
    have a2 : ((((w5.setCell ⟨w1.heap.size, 0, none⟩ (.slice ov' (n + 1) cv')).setCell ⟨w.heap.size + 1, 0, none⟩ (.slice ov' (n + 1) cv')).setCell ⟨w.heap.size + 1, 1, none⟩ (.int .u32 (L : Int))).setCell ⟨w.heap.size + 1, 2, none⟩ (.int .i64 max)).cell? ⟨w.heap.size + 1, 2, none⟩ = some (.int .i64 max) := Blk.cell (Blk.set (Blk.set (Blk.set hX6 0 _) 1 _) 2 _) 2
    have A0 := Lib.hid a0
    have A1 := Lib.hid a1
    have A2 := Lib.hid a2
    clear a0 a1 a2
    have hG9 := ((hG6.set_apart (k := 0) (x := (.slice ov' (n + 1) cv')) hX6 no_u8_3 (by omega)).set_apart (k := 1) (x := .int .u32 (L : Int)) (Blk.set hX6 0 _) no_u8_3 (by omega)).set_apart (k := 2) (x := .int .i64 max) (Blk.set (Blk.set hX6 0 _) 1 _) no_u8_3 (by omega)
    have HG9 := Lib.hid (hG9.mono (base' := w.heap.size) (by omega))
    have HO6 := Lib.hid hO6
    clear hG5 hg5 hb5 hs5 hltw hO5 hOut5 hX5 hOut6 hX6 hG6 hO6 hG9 HG4 HC HAW HN48b HS4 HOwn HX4 HO4 HOut4 y0 y1 y2
    go_wp2_with fail
    refine bodyPost_ret (v := .tuple #[.agg #[.slice ov' (n + 1) cv', .int .u32 (L : Int), .int .i64 max], .int .i64 0]) ?_ rfl ⟨_, rfl, HG9.out, ?_⟩
    · simp [results, Tryd.results44, go_sem, A0.out, A1.out, A2.out]
    · exact (((HO6.out).setCell (by simp) _).setCell (by simp) _).setCell (by simp) _
end Go.Proofs.YtkaddilgegimjaaDoor
