/- engine.copied. -/
import Derived.Test.YtkaddilgegimjaaDoorEn3
import Derived.Deep.AppendLies
namespace Go.Proofs.YtkaddilgegimjaaDoor
set_option linter.unusedVariables false
set_option linter.unusedSimpArgs false
open Go.RowKit

theorem GV.slice {w : World} {base n : Nat} {v : Value} {V : Nat → Ver} (h : GV w base v n V) : ∃ oa cap, v = .slice oa n cap ∧ n ≤ cap ∧ cap ≤ maxLen := by
  obtain ⟨C, h1, h2⟩ := h
  obtain ⟨oa, cap, hv, hc, hm, _⟩ := rws_cells h1 fun i hi => (h2 i hi).1.len
  exact ⟨oa, cap, hv, hc, hm⟩
theorem GV.vers {w : World} {base n : Nat} {v : Value} {V : Nat → Ver} (h : GV w base v n V) : ∃ oa cap, v = .slice oa n cap ∧ n ≤ cap ∧ cap ≤ maxLen ∧ Vers w oa n V := by
  obtain ⟨C, h1, h2⟩ := h
  obtain ⟨oa, cap, hv, hc, hm, _, hcell⟩ := rws_cells h1 fun i hi => (h2 i hi).1.len
  refine ⟨oa, cap, hv, hc, hm, fun i hi => ?_⟩
  obtain ⟨b, off, rfl, _, _⟩ := hcell i 0 hi (by omega)
  refine ⟨b, off, C i, rfl, (h2 i hi).1, fun j hj => ?_⟩
  obtain ⟨b', off', e, _, hc'⟩ := hcell i j hi hj
  cases e
  exact hc'
theorem GV.mono {w : World} {base base' n : Nat} {v : Value} {V : Nat → Ver} (h : GV w base v n V) (hb : base' ≤ base) : GV w base' v n V := by
  obtain ⟨C, ⟨h1, h2⟩, h3⟩ := h
  refine ⟨C, ⟨h1, ?_⟩, h3⟩
  rcases h2 with h2 | ⟨g, cap, cur, hv, hg, r⟩
  · exact .inl h2
  · exact .inr ⟨g, cap, cur, hv, Nat.le_trans hb hg, r⟩
theorem GV.congr {w : World} {base n : Nat} {v : Value} {V U : Nat → Ver} (h : GV w base v n V) (he : ∀ i, i < n → V i = U i) : GV w base v n U := by
  obtain ⟨C, h1, h2⟩ := h
  exact ⟨C, h1, fun i hi => ⟨he i hi ▸ (h2 i hi).1, (h2 i hi).2⟩⟩
theorem GV.ownb {w : World} {base n : Nat} {v : Value} {V : Nat → Ver} (h : GV w base v n V) : ∀ q, v.ownBlock = some q → base ≤ q ∧ q < w.heap.size := fun q hq => by
  obtain ⟨C, h1, _⟩ := h
  rcases h1.2 with ⟨rfl, _⟩ | ⟨g, cap, cur, rfl, hg, hh, _⟩
  · simp [Value.ownBlock] at hq
  · simp [Value.ownBlock] at hq; subst hq; exact ⟨hg, lt_of_block hh⟩
/-- No byte among a struct's cells. -/
theorem lt_of_cell {w : World} {a : Addr} {v : Value} (hc : w.cell? a = some v) : a.block < w.heap.size := by
  rcases Nat.lt_or_ge a.block w.heap.size with h' | h'
  · exact h'
  · simp [World.cell?, Array.getElem?_eq_none h'] at hc
theorem no_u8_3 {a : Option Addr} {n c : Nat} {x y : Int} : ∀ (j : Nat) (z : Int), (#[Value.slice a n c, .int .u32 x, .int .i64 y] : Array Value)[j]? ≠ some (Value.int .u8 z) := fun j z h => by
  match j, h with
  | 0, h => simp at h
  | 1, h => simp at h
  | 2, h => simp at h
  | j + 3, h => simp at h
theorem no_u8_4 {a : Option Addr} {n c : Nat} {x y z' : Int} : ∀ (j : Nat) (z : Int), (#[Value.int .u32 x, .slice a n c, .int .u64 y, .int .i64 z'] : Array Value)[j]? ≠ some (Value.int .u8 z) := fun j z h => by
  match j, h with
  | 0, h => simp at h
  | 1, h => simp at h
  | 2, h => simp at h
  | 3, h => simp at h
  | j + 4, h => simp at h

theorem blk3 (w : World) (C D E : Array Value) (t u s : TypeId) : Blk (((w.alloc (.cells C t)).alloc (.cells D u)).alloc (.cells E s)) (w.heap.size + 1) D u ∧ Blk (((w.alloc (.cells C t)).alloc (.cells D u)).alloc (.cells E s)) (w.heap.size + 2) E s := by
  refine ⟨(blk2' w C D t u).alloc _, ?_⟩
  have := Blk.new ((w.alloc (.cells C t)).alloc (.cells D u)) E s
  simpa using this

set_option maxRecDepth 100000 in
set_option maxHeartbeats 4000000 in
theorem copied_any (oa : Option Addr) (n cp : Nat) (last max : Int) (V : Nat → Ver) (w : World) (hV : Vers w oa n V) (hl : ∀ i, i < n → (V i).len ≤ 100) (hn : n ≤ 1000) :
    Calls Tryd.prog 88 #[.agg #[.slice oa n cp, .int .u32 last, .int .i64 max]] w fun e w' => ∃ v, e = .returned (.agg #[v, .int .u32 last, .int .i64 max]) ∧ GV w' w.heap.size v n V ∧ Below w.heap.size w w' := by
  have HV := Lib.hid hV
  have HL := Lib.hid hl
  have hn0 : (n : Int) ≤ 1000 := by omega
  clear hV hl
  go_enter Tryd.func88, Tryd.ntmps88
  go_wp2_with fail
  go_loopw [14] (fun i wr => ∃ k v, k ≤ n ∧ i = .int .i64 (k : Nat) ∧ Blk wr (w.heap.size + 1) #[.slice none 0 0, .int .u32 0, .int .i64 0] 79 ∧ Blk wr (w.heap.size + 2) #[v, .int .u32 last, .int .i64 max] 79 ∧ GV wr (w.heap.size + 3) v k V ∧ Below w.heap.size w wr ∧ w.heap.size + 3 ≤ wr.heap.size) (fun i _ => n - (intOf i).toNat)
  case atStart => exact ⟨0, .slice none 0 0, Nat.zero_le _, rfl, (blk3 _ _ _ _ _ _ _).1, (blk3 _ _ _ _ _ _ _).2, GV.nil _ _ _, (((Below.refl _ _).alloc (Nat.le_refl _) _).alloc (by simp) _).alloc (by simp; omega) _, by simp⟩
  case round =>
    obtain ⟨k, v, hk, rfl, hX, hY, hG, hO, hs⟩ := hrel
    obtain ⟨ov, cv, rfl, hcv, hcm⟩ := hG.slice
    by_cases hlt : k < n
    · obtain ⟨b, off, od, cap, rfl, hB, hno, hlc, hcm2, c0, c1, c2, c3⟩ := (Vers.later HV.out hO).get k hlt
      have k0 : (0 : Int) ≤ (k : Int) := by omega
      have k1 : (k : Int) < (n : Int) := by omega
      obtain ⟨m, hm⟩ : ∃ m, (V k).n = m := ⟨_, rfl⟩
      obtain ⟨len, hlen⟩ : ∃ m, (V k).len = m := ⟨_, rfl⟩
      obtain ⟨t, ht⟩ : ∃ m, (V k).t = m := ⟨_, rfl⟩
      obtain ⟨st, hst⟩ : ∃ m, (V k).st = m := ⟨_, rfl⟩
      obtain ⟨f, hf⟩ : ∃ m, (V k).f = m := ⟨_, rfl⟩
      have hl100 : len ≤ 100 := by have := HL.out k hlt; omega
      rw [hm] at c0
      rw [hlen] at c1 hno hlc
      rw [ht] at c2
      rw [hst] at c3
      rw [hlen, hf] at hB
      have HK := Lib.hid (show V k = ⟨m, len, f, t, st⟩ by rw [← hm, ← hlen, ← hf, ← ht, ← hst])
      have HX := Lib.hid hX
      have HY := Lib.hid hY
      have HG := Lib.hid hG
      have HO := Lib.hid hO
      have HS := Lib.hid hs
      have HB := Lib.hid (hB.alloc (.cells #[.int .u32 (m : Int), .slice od len cap, .int .u64 (t : Int), .int .i64 st] 86))
      have HNo := Lib.hid hno
      have HL1 := Lib.hid (show len < 100000000000000 by omega)
      have HVB := Lib.hid (Blk.new wr #[.int .u32 (m : Int), .slice od len cap, .int .u64 (t : Int), .int .i64 st] 86)
      clear hm hlen ht hst hf hX hY hG hO hs hB hno hlc hcm2 hl100
      go_wp2_with fail
      refine (clone_any od len cap f _ HB.out HL1.out HNo.out).mono ?_
      rintro e w2 ⟨od', cap', rfl, hB2, hno2, hlc2, hcm2, hge, hb2⟩
      have hV2 := Blk.below HVB.out hb2 (Blk.lt HVB.out)
      have x1 : w2.cell? ⟨wr.heap.size, 1, none⟩ = some (.slice od len cap) := Blk.cell hV2 1
      have z1 : w2.frozen? ⟨wr.heap.size, 1, none⟩ = false := Blk.free hV2 1
      have hV3 := Blk.set hV2 1 (.slice od' len cap')
      have hb3 : Below wr.heap.size wr (w2.setCell ⟨wr.heap.size, 1, none⟩ (.slice od' len cap')) := (((Below.refl _ _).alloc (Nat.le_refl _) _).trans (hb2.mono (by simp))).setCell (Nat.le_refl _) _
      have hB3 := hB2.set_apart (k := 1) (x := .slice od' len cap') hV2 no_u8_4
      have hG3 := HG.out.later hb3
      have hX3 := Blk.below HX.out hb3 (Blk.lt HX.out)
      have hY3 := Blk.below HY.out hb3 (Blk.lt HY.out)
      have y0 : (w2.setCell ⟨wr.heap.size, 1, none⟩ (.slice od' len cap')).cell? ⟨w.heap.size + 2, 0, none⟩ = some (.slice ov k cv) := Blk.cell hY3 0
      have v0 : (w2.setCell ⟨wr.heap.size, 1, none⟩ (.slice od' len cap')).cell? ⟨wr.heap.size, 0, none⟩ = some (.int .u32 (m : Int)) := Blk.cell hV3 0
      have v1 : (w2.setCell ⟨wr.heap.size, 1, none⟩ (.slice od' len cap')).cell? ⟨wr.heap.size, 1, none⟩ = some (.slice od' len cap') := Blk.cell hV3 1
      have v2 : (w2.setCell ⟨wr.heap.size, 1, none⟩ (.slice od' len cap')).cell? ⟨wr.heap.size, 2, none⟩ = some (.int .u64 (t : Int)) := Blk.cell hV3 2
      have v3 : (w2.setCell ⟨wr.heap.size, 1, none⟩ (.slice od' len cap')).cell? ⟨wr.heap.size, 3, none⟩ = some (.int .i64 st) := Blk.cell hV3 3
      have hO3 : Below w.heap.size w (w2.setCell ⟨wr.heap.size, 1, none⟩ (.slice od' len cap')) := HO.out.trans (hb3.mono HO.out.size)
      have hc3 : IsVer (w2.setCell ⟨wr.heap.size, 1, none⟩ (.slice od' len cap')) [.int .u32 (m : Int), .slice od' len cap', .int .u64 (t : Int), .int .i64 st] (V k) := by rw [HK.out]; exact ⟨od', cap', rfl, hB3, hno2, hlc2, hcm2⟩
      have haw : Away (.slice ov k cv) [.int .u32 (m : Int), .slice od' len cap', .int .u64 (t : Int), .int .i64 st] := fun a l c hmem hl0 hq => by
        simp at hmem
        obtain ⟨h1, _, _⟩ := hmem
        have h2 := hge a h1.symm
        have h3 := (HG.out.ownb _ hq).2
        simp at h2; omega
      have HG3 := Lib.hid hG3
      have HX3 := Lib.hid hX3
      have HY3 := Lib.hid hY3
      have HO3 := Lib.hid hO3
      have HC3 := Lib.hid hc3
      have HAW := Lib.hid haw
      have HS3 := Lib.hid (show w.heap.size + 3 ≤ (w2.setCell ⟨wr.heap.size, 1, none⟩ (.slice od' len cap')).heap.size from Nat.le_trans HS.out hb3.size)
      have HH3 := Lib.hid (show (w2.setCell ⟨wr.heap.size, 1, none⟩ (.slice od' len cap')).heap.size = w2.heap.size by simp [World.setCell])
      have HN := Lib.hid (show (k + 1) * 48 ≤ 140737488355328 by omega)
      clear HX HY HG HO HS HB HNo HL1 HVB hV2 hV3 hb2 hb3 hB2 hB3 hG3 hX3 hY3 hO3 hc3 haw hno2 hlc2 hcm2 hge
      go_wp2_with (at_builtin; refine wpList_appV rfl (.tmp 23) (.tmp 25) rfl (w.heap.size + 3) (.slice ov k cv) k V [.int .u32 (m : Int), .slice od' len cap', .int .u64 (t : Int), .int .i64 st] _ rfl HG3.out HC3.out HAW.out w2.heap.size HH3.out rfl HN.out HS3.out ?_)
      intro v' w5 hG5 hg5 hb5 hs5
      obtain ⟨ov', cv', rfl, _, _⟩ := hG5.slice
      have hown : ∀ q, q < w.heap.size + 3 → (Value.slice ov k cv).ownBlock ≠ some q := fun q hq e => by have := (HG3.out.ownb _ e).1; omega
      have hX5 := HX3.out.grown hg5 (hown _ (by omega))
      have hY5 := HY3.out.grown hg5 (hown _ (by omega))
      have u0 : w5.cell? ⟨w.heap.size + 2, 0, none⟩ = some (.slice ov k cv) := Blk.cell hY5 0
      have f0 : w5.frozen? ⟨w.heap.size + 2, 0, none⟩ = false := Blk.free hY5 0
      have hX6 := Blk.set_other hX5 (a := ⟨w.heap.size + 2, 0, none⟩) (by simp) (.slice ov' (k + 1) cv')
      have hY6 := Blk.set hY5 0 (.slice ov' (k + 1) cv')
      have hG6 := hG5.set_apart (k := 0) (x := .slice ov' (k + 1) cv') hY5 no_u8_3 (by omega)
      have hO6 : Below w.heap.size w (w5.setCell ⟨w.heap.size + 2, 0, none⟩ (.slice ov' (k + 1) cv')) := (HO3.out.trans (hb5.mono (by omega))).setCell (by simp) _
      have HX6 := Lib.hid hX6
      have HY6 := Lib.hid hY6
      have HG6 := Lib.hid hG6
      have HO6 := Lib.hid hO6
      have HS6 := Lib.hid (show w.heap.size + 3 ≤ (w5.setCell ⟨w.heap.size + 2, 0, none⟩ (.slice ov' (k + 1) cv')).heap.size from Nat.le_trans HS3.out (by rw [HH3.out]; simp [World.setCell]; omega))
      clear HG3 HX3 HY3 HO3 HC3 HAW HS3 HN hX5 hY5 hX6 hY6 hG6 hO6 hG5 hg5 hb5 hs5 hown y0 v0 v1 v2 v3 x1 z1
      go_wp2_with fail
      go_roundw
      case rel => exact ⟨k + 1, _, by omega, by go_num, HX6.out, HY6.out, HG6.out, HO6.out, HS6.out⟩
      case measure => simp [intOf]; omega
    · obtain rfl : k = n := by omega
      have y0 : wr.cell? ⟨w.heap.size + 2, 0, none⟩ = some (.slice ov k cv) := Blk.cell hY 0
      have y1 : wr.cell? ⟨w.heap.size + 2, 1, none⟩ = some (.int .u32 last) := Blk.cell hY 1
      have y2 : wr.cell? ⟨w.heap.size + 2, 2, none⟩ = some (.int .i64 max) := Blk.cell hY 2
      have s0 : wr.cell? ⟨w.heap.size + 1, 0, none⟩ = some (.slice none 0 0) := Blk.cell hX 0
      have s1 : wr.cell? ⟨w.heap.size + 1, 1, none⟩ = some (.int .u32 0) := Blk.cell hX 1
      have s2 : wr.cell? ⟨w.heap.size + 1, 2, none⟩ = some (.int .i64 0) := Blk.cell hX 2
      have z0 : wr.frozen? ⟨w.heap.size + 1, 0, none⟩ = false := Blk.free hX 0
      have z1 : wr.frozen? ⟨w.heap.size + 1, 1, none⟩ = false := Blk.free hX 1
      have z2 : wr.frozen? ⟨w.heap.size + 1, 2, none⟩ = false := Blk.free hX 2
      have a0 : (wr.setCell ⟨w.heap.size + 1, 0, none⟩ (.slice ov k cv)).cell? ⟨w.heap.size + 1, 0, none⟩ = some (.slice ov k cv) := Blk.cell (Blk.set hX 0 _) 0
      have a1 : ((wr.setCell ⟨w.heap.size + 1, 0, none⟩ (.slice ov k cv)).setCell ⟨w.heap.size + 1, 1, none⟩ (.int .u32 last)).cell? ⟨w.heap.size + 1, 1, none⟩ = some (.int .u32 last) := Blk.cell (Blk.set (Blk.set hX 0 _) 1 _) 1
      have a2 : (((wr.setCell ⟨w.heap.size + 1, 0, none⟩ (.slice ov k cv)).setCell ⟨w.heap.size + 1, 1, none⟩ (.int .u32 last)).setCell ⟨w.heap.size + 1, 2, none⟩ (.int .i64 max)).cell? ⟨w.heap.size + 1, 2, none⟩ = some (.int .i64 max) := Blk.cell (Blk.set (Blk.set (Blk.set hX 0 _) 1 _) 2 _) 2
      have hG1 := hG.set_apart (k := 0) (x := .slice ov k cv) hX no_u8_3 (by omega)
      have hG2 := hG1.set_apart (k := 1) (x := .int .u32 last) (Blk.set hX 0 _) no_u8_3 (by omega)
      have hG3 := hG2.set_apart (k := 2) (x := .int .i64 max) (Blk.set (Blk.set hX 0 _) 1 _) no_u8_3 (by omega)
      have A0 := Lib.hid a0
      have A1 := Lib.hid a1
      have A2 := Lib.hid a2
      have HG := Lib.hid (hG3.mono (base' := w.heap.size) (by omega))
      have HO := Lib.hid hO
      clear a0 a1 a2 hG hG1 hG2 hG3 hO hX hY hs
      go_wp2_with fail
      refine bodyPost_ret (v := .agg #[.slice ov k cv, .int .u32 last, .int .i64 max]) ?_ rfl ⟨_, rfl, ?_, ?_⟩
      · simp [results, Tryd.results88, go_sem, A0.out, A1.out, A2.out]
      · exact HG.out
      · exact ((HO.out.setCell (by simp) _).setCell (by simp) _).setCell (by simp) _
end Go.Proofs.YtkaddilgegimjaaDoor
