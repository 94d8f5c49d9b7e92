/- The law's giveSecret: the document's secret as the program's. -/
import Derived.Test.YtkaddilgegimjaaDoorEn4
import Derived.Deep.RegionLaw
namespace Go.Proofs.YtkaddilgegimjaaDoor
set_option linter.unusedVariables false
set_option linter.unusedSimpArgs false
open Go.RowKit

/-- append of one version, at a step of a region that draws its order. -/
theorem step_appV {ops : Array Oper} {o : Oper} {a : Act} {K : Act → World → Prop} {Q : Exit → Act → World → Prop} {E : Prop} (hgd : o.guard = none) (s x : Operand)
    (ho : o.op = .call { callee := .builtin .append, args := #[s, x], argTypes := #[77, 77] })
    (base : Nat) (v : Value) (n : Nat) (V : Nat → Ver) (c : List Value) (W U : World) (hs : a.eval s = v) (hG : GV W base v n V) (hc : IsVer W c (V n)) (haw : Away v c)
    (hU : U.heap = (W.alloc (.cells c.toArray 86)).heap ∧ U.os = W.os ∧ U.tape = W.tape ∧ U.output = W.output)
    (hx : a.eval x = .slice (some ⟨W.heap.size, 0, none⟩) 1 1)
    (hn : (n + 1) * 48 ≤ 140737488355328) (hbase : base ≤ W.heap.size)
    (h : ∀ g cap w', GV w' base (.slice (some ⟨g, 0, none⟩) (n + 1) cap) (n + 1) V → W.grownBy w' v.ownBlock → Below base W w' → W.heap.size < w'.heap.size → (v.ownBlock = some g ∨ W.heap.size ≤ g) → K (a.put o.dst (.slice (some ⟨g, 0, none⟩) (n + 1) cap)) w') :
    if Region.wanted o (yielded ops a.tmps) = true then Oper.wp Tryd.prog o a U K Q else E := by
  obtain ⟨i0, hi, hz0, hz1, hz2⟩ := info_parts info_ver
  obtain ⟨C, hown, hC⟩ := hG
  obtain ⟨u1, u2, u3, u4⟩ := hU
  have hsz : U.heap.size = W.heap.size + 1 := by rw [u1]; simp
  have hbA : Below W.heap.size W U := by
    have h0 : Below W.heap.size W (W.alloc (.cells c.toArray 86)) := (Below.refl _ _).alloc (Nat.le_refl _) _
    exact ⟨u2, u3, u4, by rw [hsz]; omega, fun k hk => by rw [u1]; exact h0.block k hk⟩
  have hnews : ∀ j u, c[j]? = some u → U.cell? ((⟨W.heap.size, 0, none⟩ : Addr).add j) = some u := fun j u hju => by
    have := news_lit (w := W) (t := 86) j u hju
    rw [← this]; exact World.cell?_of_block (by rw [u1])
  refine step_append_lies _ hgd s x 77 ho base 86 i0 _ 4 48 Tryd.underlying77 hi hz0 hz1 hz2 rfl (by decide) v n (rws n C) hs (owns_later hown hbA) ⟨W.heap.size, 0, none⟩ 1 1 c hx (by rw [hc.len])
    hnews hc.one (by omega) (by unfold maxLen; omega) hn (by rw [hsz]; omega) (W.heap.size + 1) hsz ?_
  intro g cap w' hown' hg hat _
  have hne : ∀ q, v.ownBlock = some q → q < W.heap.size := fun q hq => by
    rcases hown.2 with ⟨rfl, _⟩ | ⟨g, cap, cur, rfl, _, hh, _⟩
    · simp [Value.ownBlock] at hq
    · simp [Value.ownBlock] at hq; subst hq; exact lt_of_block hh
  have hg2 : W.grownBy w' v.ownBlock := ⟨hg.os.trans hbA.os, hg.tape.trans hbA.tape, hg.output.trans hbA.output, Nat.le_trans hbA.size hg.size, fun k hk hkn => by rw [hg.block k (by rw [hsz]; omega) hkn]; exact hbA.block k hk⟩
  have haw' : ∀ d : List Value, Away v d → (∀ a l cp, Value.slice (some a) l cp ∈ d → 0 < l → a.block < W.heap.size) → Away (.slice (some ⟨g, 0, none⟩) (n + 1) cap) d := fun d h1 h2 a l cp hm hl => by
    rcases hat with e | e
    · show some g ≠ _; rw [← e]; exact h1 a l cp hm hl
    · show some g ≠ _; have := h2 a l cp hm hl; subst e; simp; omega
  refine h g cap w' ⟨addC C n c, by rw [rws_add]; exact hown', fun i hi => ?_⟩ hg2 ((hbA.mono hbase).grown hg (by rw [hsz]; omega) (owns_block hown)) (by have := hg.size; rw [hsz] at this; omega) (by rcases hat with e | e; exact .inl e; exact .inr (by omega))
  by_cases e : i = n
  · subst e
    unfold addC; rw [if_pos rfl]
    exact ⟨hc.grown hg2 haw, haw' c haw hc.old⟩
  · unfold addC; rw [if_neg e]
    have h1 := hC i (by omega)
    exact ⟨h1.1.grown hg2 h1.2, haw' _ h1.2 h1.1.old⟩

set_option maxRecDepth 100000 in
set_option maxHeartbeats 4000000 in
theorem give_any (oa : Option Addr) (n cp : Nat) (last max : Int) (V : Nat → Ver) (w : World) (hV : Vers w oa n V) (hn : n * 48 ≤ 140737488355328) :
    Calls Tryd.prog 42 #[.agg #[.slice oa n cp, .int .u32 last, .int .i64 max]] w fun e w' => ∃ v, e = .returned (.agg #[v, .int .u32 last, .int .i64 max]) ∧ GV w' w.heap.size v n V ∧ Below w.heap.size w w' := by
  have HV := Lib.hid hV
  have hn0 : (n : Int) ≤ 9223372036854775807 := by omega
  have HN0 := Lib.hid hn
  clear hV hn
  go_enter Tryd.func42, Tryd.ntmps42
  go_wp2_with fail
  go_loopw [4] (fun i wr => ∃ k v, k ≤ n ∧ i = .int .i64 (k : Nat) ∧ Blk wr w.heap.size #[.slice oa n cp, .int .u32 last, .int .i64 max] 73 ∧ Blk wr (w.heap.size + 1) #[.slice none 0 0, .int .u32 0, .int .i64 0] 79 ∧ Blk wr (w.heap.size + 2) #[v, .int .u32 last, .int .i64 max] 79 ∧ GV wr (w.heap.size + 3) v k V ∧ Below w.heap.size w wr ∧ w.heap.size + 3 ≤ wr.heap.size) (fun i _ => n - (intOf i).toNat)
  case atStart => exact ⟨0, .slice none 0 0, Nat.zero_le _, rfl, (blk2 _ _ _ _ _).alloc _, (blk3 _ _ _ _ _ _ _).1, (blk3 _ _ _ _ _ _ _).2, GV.nil _ _ _, (((Below.refl _ _).alloc (Nat.le_refl _) _).alloc (by simp) _).alloc (by simp; omega) _, by simp⟩
  case round =>
    obtain ⟨k, v, hk, rfl, hP, hX, hY, hG, hO, hs⟩ := hrel
    obtain ⟨ov, cv, rfl, hcv, hcm⟩ := hG.slice
    by_cases hlt : k < n
    · obtain ⟨b, off, od, cap, rfl, hB0, hno, hlc, hcm2, e0, e1, e2, e3⟩ := HV.out.get k hlt
      have hB := hB0.later hO
      have c0 := cell_below hO e0
      have c1 := cell_below hO e1
      have c2 := cell_below hO e2
      have c3 := cell_below hO e3
      have k0 : (0 : Int) ≤ (k : Int) := by omega
      have k1 : (k : Int) < (n : Int) := by omega
      have p0 : wr.cell? ⟨w.heap.size, 0, none⟩ = some (.slice (some ⟨b, off, none⟩) n cp) := Blk.cell hP 0
      have y0 : wr.cell? ⟨w.heap.size + 2, 0, none⟩ = some (.slice ov k cv) := Blk.cell hY 0
      have hblt : b < wr.heap.size := lt_of_cell c0
      have hs1 : w.heap.size < wr.heap.size := by omega
      have hs2 : w.heap.size + 2 < wr.heap.size := by omega
      have hc : IsVer wr [.int .u32 ((V k).n : Int), .slice od (V k).len cap, .int .u64 ((V k).t : Int), .int .i64 (V k).st] (V k) := ⟨od, cap, rfl, hB, hno, hlc, hcm2⟩
      have haw : Away (.slice ov k cv) [.int .u32 ((V k).n : Int), .slice od (V k).len cap, .int .u64 ((V k).t : Int), .int .i64 (V k).st] := fun a l c hmem hl0 hq => by
        simp at hmem
        obtain ⟨rfl, rfl, _⟩ := hmem
        have h2 := addr_of_bytes hB0 hl0
        have h3 := (hG.ownb _ hq).1
        omega
      have HP := Lib.hid hP
      have HX := Lib.hid hX
      have HY := Lib.hid hY
      have HG := Lib.hid hG
      have HO := Lib.hid hO
      have HS := Lib.hid hs
      have HC := Lib.hid hc
      have HAW := Lib.hid haw
      have HN := Lib.hid (show (k + 1) * 48 ≤ 140737488355328 by have := HN0.out; omega)
      have hown : ∀ q, q < w.heap.size + 3 → (Value.slice ov k cv).ownBlock ≠ some q := fun q hq e => by have := (hG.ownb _ e).1; omega
      have HOwn := Lib.hid hown
      clear hP hX hY hG hO hs hc haw hown hB hB0 hno hlc hcm2 e0 e1 e2 e3
      generalize (V k).n = m at *
      generalize (V k).len = len at *
      generalize (V k).t = t at *
      generalize (V k).st = st at *
      go_wp2_with fail
      go_region_law (first | (refine step_appV rfl (.tmp 18) (.tmp 24) rfl (w.heap.size + 3) (.slice ov k cv) k V [.int .u32 (m : Int), .slice od len cap, .int .u64 (t : Int), .int .i64 st] wr _ rfl HG.out HC.out HAW.out ⟨rfl, rfl, rfl, rfl⟩ rfl HN.out HS.out ?_; intro g cap' w5 hG5 hg5 hb5 hs5 _; have hY5 := HY.out.grown hg5 (HOwn.out _ (by omega)); have u0 : w5.cell? ⟨w.heap.size + 2, 0, none⟩ = some (.slice ov k cv) := Blk.cell hY5 0; have f0 : w5.frozen? ⟨w.heap.size + 2, 0, none⟩ = false := Blk.free hY5 0; have HG5 := Lib.hid hG5; have HGr := Lib.hid hg5; have HB5 := Lib.hid hb5; have HY5 := Lib.hid hY5; clear hG5 hg5 hb5 hY5))
      all_goals
        have hP5 := HP.out.grown HGr.out (HOwn.out _ (by omega))
        have hX5 := HX.out.grown HGr.out (HOwn.out _ (by omega))
        have hP6 := Blk.set_other hP5 (a := ⟨w.heap.size + 2, 0, none⟩) (by simp) (.slice (some ⟨g, 0, none⟩) (k + 1) cap')
        have hX6 := Blk.set_other hX5 (a := ⟨w.heap.size + 2, 0, none⟩) (by simp) (.slice (some ⟨g, 0, none⟩) (k + 1) cap')
        have hY6 := Blk.set HY5.out 0 (.slice (some ⟨g, 0, none⟩) (k + 1) cap')
        have hG6 := HG5.out.set_apart (k := 0) (x := .slice (some ⟨g, 0, none⟩) (k + 1) cap') HY5.out no_u8_3 (by omega)
        have hO6 : Below w.heap.size w (w5.setCell ⟨w.heap.size + 2, 0, none⟩ (.slice (some ⟨g, 0, none⟩) (k + 1) cap')) := (HO.out.trans (HB5.out.mono (by omega))).setCell (by simp) _
        have HP6 := Lib.hid hP6
        have HX6 := Lib.hid hX6
        have HY6 := Lib.hid hY6
        have HG6 := Lib.hid hG6
        have HO6 := Lib.hid hO6
        have HS6 := Lib.hid (show w.heap.size + 3 ≤ (w5.setCell ⟨w.heap.size + 2, 0, none⟩ (.slice (some ⟨g, 0, none⟩) (k + 1) cap')).heap.size by simp [World.setCell]; have := HS.out; omega)
        clear hP5 hX5 hP6 hX6 hY6 hG6 hO6 hs5 u0 f0 HGr HB5 HG5 HY5 HC HAW HN HOwn HP HX HY HG HO HS
        go_wp2_with fail
        go_roundw
        case rel => exact ⟨k + 1, _, by omega, by go_num, by first | exact HP6.out | exact Blk.drew HP6.out, by first | exact HX6.out | exact Blk.drew HX6.out, by first | exact HY6.out | exact Blk.drew HY6.out, HG6.out, HO6.out, HS6.out⟩
        case measure => simp [intOf]; omega
    · obtain rfl : k = n := by omega
      have p0 : wr.cell? ⟨w.heap.size, 0, none⟩ = some (.slice oa k cp) := Blk.cell hP 0
      have y0 : wr.cell? ⟨w.heap.size + 2, 0, none⟩ = some (.slice ov k cv) := Blk.cell hY 0
      have y1 : wr.cell? ⟨w.heap.size + 2, 1, none⟩ = some (.int .u32 last) := Blk.cell hY 1
      have y2 : wr.cell? ⟨w.heap.size + 2, 2, none⟩ = some (.int .i64 max) := Blk.cell hY 2
      have s0 : wr.cell? ⟨w.heap.size + 1, 0, none⟩ = some (.slice none 0 0) := Blk.cell hX 0
      have s1 : wr.cell? ⟨w.heap.size + 1, 1, none⟩ = some (.int .u32 0) := Blk.cell hX 1
      have s2 : wr.cell? ⟨w.heap.size + 1, 2, none⟩ = some (.int .i64 0) := Blk.cell hX 2
      have z0 : wr.frozen? ⟨w.heap.size + 1, 0, none⟩ = false := Blk.free hX 0
      have z1 : wr.frozen? ⟨w.heap.size + 1, 1, none⟩ = false := Blk.free hX 1
      have z2 : wr.frozen? ⟨w.heap.size + 1, 2, none⟩ = false := Blk.free hX 2
      have a0 : (wr.setCell ⟨w.heap.size + 1, 0, none⟩ (.slice ov k cv)).cell? ⟨w.heap.size + 1, 0, none⟩ = some (.slice ov k cv) := Blk.cell (Blk.set hX 0 _) 0
      have a1 : ((wr.setCell ⟨w.heap.size + 1, 0, none⟩ (.slice ov k cv)).setCell ⟨w.heap.size + 1, 1, none⟩ (.int .u32 last)).cell? ⟨w.heap.size + 1, 1, none⟩ = some (.int .u32 last) := Blk.cell (Blk.set (Blk.set hX 0 _) 1 _) 1
      have a2 : (((wr.setCell ⟨w.heap.size + 1, 0, none⟩ (.slice ov k cv)).setCell ⟨w.heap.size + 1, 1, none⟩ (.int .u32 last)).setCell ⟨w.heap.size + 1, 2, none⟩ (.int .i64 max)).cell? ⟨w.heap.size + 1, 2, none⟩ = some (.int .i64 max) := Blk.cell (Blk.set (Blk.set (Blk.set hX 0 _) 1 _) 2 _) 2
      have hG1 := hG.set_apart (k := 0) (x := .slice ov k cv) hX no_u8_3 (by omega)
      have hG2 := hG1.set_apart (k := 1) (x := .int .u32 last) (Blk.set hX 0 _) no_u8_3 (by omega)
      have hG3 := hG2.set_apart (k := 2) (x := .int .i64 max) (Blk.set (Blk.set hX 0 _) 1 _) no_u8_3 (by omega)
      have A0 := Lib.hid a0
      have A1 := Lib.hid a1
      have A2 := Lib.hid a2
      have HG := Lib.hid (hG3.mono (base' := w.heap.size) (by omega))
      have HO := Lib.hid hO
      clear a0 a1 a2 hG hG1 hG2 hG3 hO hP hX hY hs
      go_wp2_with fail
      refine bodyPost_ret (v := .agg #[.slice ov k cv, .int .u32 last, .int .i64 max]) ?_ rfl ⟨_, rfl, ?_, ?_⟩
      · simp [results, Tryd.results42, go_sem, A0.out, A1.out, A2.out]
      · exact HG.out
      · exact ((HO.out.setCell (by simp) _).setCell (by simp) _).setCell (by simp) _
end Go.Proofs.YtkaddilgegimjaaDoor
