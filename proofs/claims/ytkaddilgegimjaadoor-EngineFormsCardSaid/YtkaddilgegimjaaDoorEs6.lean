/- engine.New of any number, Undelete, Destroy. -/
import Derived.Test.YtkaddilgegimjaaDoorEs5
namespace Go.Proofs.YtkaddilgegimjaaDoor
set_option linter.unusedVariables false
set_option linter.unusedSimpArgs false
open Go.RowKit

set_option maxRecDepth 100000 in
set_option maxHeartbeats 1000000 in
theorem new_ok (m : Int) (h1 : 1 ≤ m) (h8 : m ≤ 8) (w : World) :
    Calls Tryd.prog 51 #[.int .i64 m] w fun e w' => e = .returned (.tuple #[.agg #[.slice none 0 0, .int .u32 0, .int .i64 m], .nilIface]) ∧ Below w.heap.size w w' := by
  have HS := Lib.hid (show SecOk 0 0 m (fun _ => ⟨0, 0, fun _ => 0, 0, 0⟩) from ⟨⟨h1, h8, by simp; omega, ⟨fun _ => rfl, fun _ => rfl⟩, Nat.le_refl _⟩, fun i hi => absurd hi (Nat.not_lt_zero _)⟩)
  go_enter Tryd.func51, Tryd.ntmps51
  go_wp2_with fail
  refine (check_yes none 0 0 0 m (fun _ => ⟨0, 0, fun _ => 0, 0, 0⟩) _ (by unfold maxLen; omega) (by decide) (fun i hi => absurd hi (Nat.not_lt_zero _)) HS.out).mono ?_
  rintro e w1 ⟨rfl, hb⟩
  have hX : Blk w1 w.heap.size #[.slice none 0 0, .int .u32 0, .int .i64 0] 79 := Blk.below (blk2 _ _ _ _ _) hb (by simp; omega)
  have hY : Blk w1 (w.heap.size + 1) #[.slice none 0 0, .int .u32 0, .int .i64 m] 79 := Blk.below (blk2' _ _ _ _ _) hb (by simp)
  have y0 : w1.cell? ⟨w.heap.size + 1, 0, none⟩ = some (.slice none 0 0) := Blk.cell hY 0
  have y1 : w1.cell? ⟨w.heap.size + 1, 1, none⟩ = some (.int .u32 0) := Blk.cell hY 1
  have y2 : w1.cell? ⟨w.heap.size + 1, 2, none⟩ = some (.int .i64 m) := Blk.cell hY 2
  have hO : Below w.heap.size w w1 := (((Below.refl _ _).alloc (Nat.le_refl _) _).alloc (by simp) _).trans (hb.mono (by simp; omega))
  have s0 : w1.cell? ⟨w.heap.size, 0, none⟩ = some (.slice none 0 0) := Blk.cell hX 0
  have z0 : w1.frozen? ⟨w.heap.size, 0, none⟩ = false := Blk.free hX 0
  have s1 : w1.cell? ⟨w.heap.size, 1, none⟩ = some (.int .u32 0) := Blk.cell hX 1
  have z1 : w1.frozen? ⟨w.heap.size, 1, none⟩ = false := Blk.free hX 1
  have s2 : w1.cell? ⟨w.heap.size, 2, none⟩ = some (.int .i64 0) := Blk.cell hX 2
  have z2 : w1.frozen? ⟨w.heap.size, 2, none⟩ = false := Blk.free hX 2
  have a0 : (w1.setCell ⟨w.heap.size, 0, none⟩ (.slice none 0 0)).cell? ⟨w.heap.size, 0, none⟩ = some (.slice none 0 0) := Blk.cell (Blk.set hX 0 _) 0
  have a1 : ((w1.setCell ⟨w.heap.size, 0, none⟩ (.slice none 0 0)).setCell ⟨w.heap.size, 1, none⟩ (.int .u32 0)).cell? ⟨w.heap.size, 1, none⟩ = some (.int .u32 0) := Blk.cell (Blk.set (Blk.set hX 0 _) 1 _) 1
  have a2 : (((w1.setCell ⟨w.heap.size, 0, none⟩ (.slice none 0 0)).setCell ⟨w.heap.size, 1, none⟩ (.int .u32 0)).setCell ⟨w.heap.size, 2, none⟩ (.int .i64 m)).cell? ⟨w.heap.size, 2, none⟩ = some (.int .i64 m) := Blk.cell (Blk.set (Blk.set (Blk.set hX 0 _) 1 _) 2 _) 2
  have A0 := Lib.hid a0
  have A1 := Lib.hid a1
  have A2 := Lib.hid a2
  clear a0 a1 a2
  have HO := Lib.hid hO
  clear hX hY hb hO
  go_wp2_with fail
  refine bodyPost_ret (v := .tuple #[.agg #[.slice none 0 0, .int .u32 0, .int .i64 m], .nilIface]) ?_ rfl ⟨rfl, ?_⟩
  · simp [results, Tryd.results51, go_sem, A0.out, A1.out, A2.out]
  · exact (((HO.out).setCell (by simp) _).setCell (by simp) _).setCell (by simp) _

set_option maxRecDepth 100000 in
set_option maxHeartbeats 1000000 in
theorem new_bad (m : Int) (hm : m < 1 ∨ 8 < m) (w : World) :
    Calls Tryd.prog 51 #[.int .i64 m] w fun e w' => e = .returned (.tuple #[.agg #[.slice none 0 0, .int .u32 0, .int .i64 0], .iface 146 (.int .i64 1)]) ∧ Below w.heap.size w w' := by
  have HS := Lib.hid (show ¬ SecOk 0 0 m (fun _ => ⟨0, 0, fun _ => 0, 0, 0⟩) from fun h => by have h1 := h.1.1; have h2 := h.1.2.1; omega)
  go_enter Tryd.func51, Tryd.ntmps51
  go_wp2_with fail
  refine (check_bad none 0 0 0 m (fun _ => ⟨0, 0, fun _ => 0, 0, 0⟩) _ (by unfold maxLen; omega) (by decide) (fun i hi => absurd hi (Nat.not_lt_zero _)) HS.out).mono ?_
  rintro e w1 ⟨rfl, hb⟩
  have hX : Blk w1 w.heap.size #[.slice none 0 0, .int .u32 0, .int .i64 0] 79 := Blk.below (blk2 _ _ _ _ _) hb (by simp; omega)
  have hO : Below w.heap.size w w1 := (((Below.refl _ _).alloc (Nat.le_refl _) _).alloc (by simp) _).trans (hb.mono (by simp; omega))
  have s0 : w1.cell? ⟨w.heap.size, 0, none⟩ = some (.slice none 0 0) := Blk.cell hX 0
  have z0 : w1.frozen? ⟨w.heap.size, 0, none⟩ = false := Blk.free hX 0
  have s1 : w1.cell? ⟨w.heap.size, 1, none⟩ = some (.int .u32 0) := Blk.cell hX 1
  have z1 : w1.frozen? ⟨w.heap.size, 1, none⟩ = false := Blk.free hX 1
  have s2 : w1.cell? ⟨w.heap.size, 2, none⟩ = some (.int .i64 0) := Blk.cell hX 2
  have z2 : w1.frozen? ⟨w.heap.size, 2, none⟩ = false := Blk.free hX 2
  have a0 : (w1.setCell ⟨w.heap.size, 0, none⟩ (.slice none 0 0)).cell? ⟨w.heap.size, 0, none⟩ = some (.slice none 0 0) := Blk.cell (Blk.set hX 0 _) 0
  have a1 : ((w1.setCell ⟨w.heap.size, 0, none⟩ (.slice none 0 0)).setCell ⟨w.heap.size, 1, none⟩ (.int .u32 0)).cell? ⟨w.heap.size, 1, none⟩ = some (.int .u32 0) := Blk.cell (Blk.set (Blk.set hX 0 _) 1 _) 1
  have a2 : (((w1.setCell ⟨w.heap.size, 0, none⟩ (.slice none 0 0)).setCell ⟨w.heap.size, 1, none⟩ (.int .u32 0)).setCell ⟨w.heap.size, 2, none⟩ (.int .i64 0)).cell? ⟨w.heap.size, 2, none⟩ = some (.int .i64 0) := Blk.cell (Blk.set (Blk.set (Blk.set hX 0 _) 1 _) 2 _) 2
  have A0 := Lib.hid a0
  have A1 := Lib.hid a1
  have A2 := Lib.hid a2
  clear a0 a1 a2
  have HO := Lib.hid hO
  clear hX hb hO
  go_wp2_with fail
  refine bodyPost_ret (v := .tuple #[.agg #[.slice none 0 0, .int .u32 0, .int .i64 0], .iface 146 (.int .i64 1)]) ?_ rfl ⟨rfl, ?_⟩
  · simp [results, Tryd.results51, go_sem, A0.out, A1.out, A2.out]
  · exact (((HO.out).setCell (by simp) _).setCell (by simp) _).setCell (by simp) _
theorem undelete_ok (oa : Option Addr) (n cp last : Nat) (max : Int) (V : Nat → Ver) (w : World) (hn : n ≤ maxLen) (hl : last < 4294967296) (hV : Vers w oa n V) (q i : Nat) (h : SecOk n last max V) (hi : i < n) (he : (V i).n = seek last q) (hst : (V i).st ≠ 2) :
    Calls Tryd.prog 49 #[.agg #[.slice oa n cp, .int .u32 (last : Int), .int .i64 max], .int .u32 (q : Int)] w fun e w' => ∃ v, e = .returned (.tuple #[.agg #[v, .int .u32 (last : Int), .int .i64 max], .nilIface]) ∧ GV w' w.heap.size v n (setV V i 0) ∧ Below w.heap.size w w' := by
  have HV := Lib.hid (hV.later (((Below.refl _ _).alloc (Nat.le_refl _) _).alloc (by simp) _ : Below w.heap.size w ((w.alloc (.cells #[.slice oa n cp, .int .u32 (last : Int), .int .i64 max] 79)).alloc (.cells #[.slice none 0 0, .int .u32 0, .int .i64 0] 79))))
  have HF := Lib.hid fun w2 (hV2 : Vers w2 oa n V) => turned_ok oa n cp last max V w2 hn hl hV2 q i 0 h hi he hst
  clear hV hn h hst he
  go_enter Tryd.func49, Tryd.ntmps49
  go_wp2_with fail
  refine (HF.out _ HV.out).mono ?_
  rintro e w1 ⟨v, rfl, hG, hb⟩
  obtain ⟨ov, cv, rfl, hcv, hcm⟩ := hG.slice
  have hX : Blk w1 (w.heap.size + 1) #[.slice none 0 0, .int .u32 0, .int .i64 0] 79 := Blk.below (blk2' _ _ _ _ _) hb (by simp)
  have hO : Below w.heap.size w w1 := (((Below.refl _ _).alloc (Nat.le_refl _) _).alloc (by simp) _).trans (hb.mono (by simp; omega))
  have hG5 := hG.set_apart (k := 0) (x := .slice ov n cv) hX no_u8_3 (by simp)
  have hG6 := hG5.set_apart (k := 1) (x := .int .u32 (last : Int)) (Blk.set hX 0 _) no_u8_3 (by simp)
  have hG7 := hG6.set_apart (k := 2) (x := .int .i64 max) (Blk.set (Blk.set hX 0 _) 1 _) no_u8_3 (by simp)
  have HG7 := Lib.hid (hG7.mono (base' := w.heap.size) (by simp; omega))
  have s0 : w1.cell? ⟨w.heap.size + 1, 0, none⟩ = some (.slice none 0 0) := Blk.cell hX 0
  have z0 : w1.frozen? ⟨w.heap.size + 1, 0, none⟩ = false := Blk.free hX 0
  have s1 : w1.cell? ⟨w.heap.size + 1, 1, none⟩ = some (.int .u32 0) := Blk.cell hX 1
  have z1 : w1.frozen? ⟨w.heap.size + 1, 1, none⟩ = false := Blk.free hX 1
  have s2 : w1.cell? ⟨w.heap.size + 1, 2, none⟩ = some (.int .i64 0) := Blk.cell hX 2
  have z2 : w1.frozen? ⟨w.heap.size + 1, 2, none⟩ = false := Blk.free hX 2
  have a0 : (w1.setCell ⟨w.heap.size + 1, 0, none⟩ (.slice ov n cv)).cell? ⟨w.heap.size + 1, 0, none⟩ = some (.slice ov n cv) := Blk.cell (Blk.set hX 0 _) 0
  have a1 : ((w1.setCell ⟨w.heap.size + 1, 0, none⟩ (.slice ov n cv)).setCell ⟨w.heap.size + 1, 1, none⟩ (.int .u32 (last : Int))).cell? ⟨w.heap.size + 1, 1, none⟩ = some (.int .u32 (last : Int)) := Blk.cell (Blk.set (Blk.set hX 0 _) 1 _) 1
  have a2 : (((w1.setCell ⟨w.heap.size + 1, 0, none⟩ (.slice ov n cv)).setCell ⟨w.heap.size + 1, 1, none⟩ (.int .u32 (last : Int))).setCell ⟨w.heap.size + 1, 2, none⟩ (.int .i64 max)).cell? ⟨w.heap.size + 1, 2, none⟩ = some (.int .i64 max) := Blk.cell (Blk.set (Blk.set (Blk.set hX 0 _) 1 _) 2 _) 2
  have A0 := Lib.hid a0
  have A1 := Lib.hid a1
  have A2 := Lib.hid a2
  clear a0 a1 a2
  have HO := Lib.hid hO
  clear hX hb hO hG hG5 hG6 hG7 hcv hcm
  go_wp2_with fail
  refine bodyPost_ret (v := .tuple #[.agg #[.slice ov n cv, .int .u32 (last : Int), .int .i64 max], .nilIface]) ?_ rfl ⟨_, rfl, HG7.out, ?_⟩
  · simp [results, Tryd.results49, go_sem, A0.out, A1.out, A2.out]
  · exact (((HO.out).setCell (by simp) _).setCell (by simp) _).setCell (by simp) _
/-- The versions, one of them without its bytes. -/
def cutV (V : Nat → Ver) (i : Nat) : Nat → Ver := fun q => if q = i then { V i with len := 0 } else V q
theorem GV.set_nil {w : World} {base n g cap : Nat} {V : Nat → Ver} (h : GV w base (.slice (some ⟨g, 0, none⟩) n cap) n V) {i : Nat} (hi : i < n) :
    GV (w.setCell ⟨g, i * 4 + 1, none⟩ (.slice none 0 0)) base (.slice (some ⟨g, 0, none⟩) n cap) n (cutV V i) := by
  obtain ⟨C, ⟨h1, h2⟩, h3⟩ := h
  have hlen : ∀ q, q < n → (C q).length = 4 := fun q hq => (h3 q hq).1.len
  rcases h2 with ⟨h2, _⟩ | ⟨g', cap', cur, hv, hg, hh, hnc, hm, hsz, hcur⟩
  · cases h2
  · cases hv
    refine ⟨fun q => if q = i then (C i).set 1 (.slice none 0 0) else C q, ⟨?_, .inr ⟨g, cap, cur.setIfInBounds (i * 4 + 1) (.slice none 0 0), rfl, hg, ?_, hnc, hm, by simp [hsz], ?_⟩⟩, fun q hq => ?_⟩
    · rw [← rws_set hlen hi (by omega), List.length_set]; exact h1
    · have hX : Blk w g cur 86 := hh
      exact Blk.set hX (i * 4 + 1) (.slice none 0 0)
    · rw [← rws_set hlen hi (by omega), ← hcur, Array.toList_setIfInBounds, List.take_set]
    · have hq3 := h3 q hq
      have hby : ∀ (od : Option Addr) (len : Nat) (f : Nat → Nat) (cp : Nat), Value.slice od len cp ∈ C q → Bytes w od len f → Bytes (w.setCell ⟨g, i * 4 + 1, none⟩ (.slice none 0 0)) od len f := fun od len f cp hm hB k hk => by
        obtain ⟨b1, d, off, rfl, hc⟩ := hB k hk
        refine ⟨b1, d, off, rfl, ?_⟩
        have hne : d ≠ g := fun e => hq3.2 _ _ _ hm (by omega) (by show some g = some d; rw [e])
        have : (w.setCell ⟨g, i * 4 + 1, none⟩ (.slice none 0 0)).heap[d]? = w.heap[d]? := Below.heap_setCell _ _ _ _ hne
        rw [← hc]; simp only [World.cell?, this]
      obtain ⟨⟨od, cp, hC, hB, hr⟩, haw⟩ := hq3
      by_cases e : q = i
      · subst e
        refine ⟨⟨none, 0, by simp [hC, cutV], fun k hk => ?_, ?_⟩, ?_⟩
        · simp [cutV] at hk
        · simp [cutV]
        · simp only [if_pos rfl]
          intro a l c hm hl
          rw [hC] at hm
          simp at hm
      · simp only [if_neg e]
        have es : cutV V i q = V q := if_neg e
        rw [es]
        exact ⟨⟨od, cp, hC, hby od _ _ cp (by rw [hC]; simp) hB, hr⟩, haw⟩
theorem RGV.set_st {w : World} {base n g cap : Nat} {V : Nat → Ver} (h : RGV w base (.slice (some ⟨g, 0, none⟩) n cap) n V) {i : Nat} (hi : i < n) (st : Int) :
    RGV (w.setCell ⟨g, i * 4 + 3, none⟩ (.int .i64 st)) base (.slice (some ⟨g, 0, none⟩) n cap) n (setV V i st) := by
  obtain ⟨C, ⟨h1, h2⟩, h3⟩ := h
  have hlen : ∀ q, q < n → (C q).length = 4 := fun q hq => (h3 q hq).1.len
  rcases h2 with ⟨h2, _⟩ | ⟨g', cap', cur, hv, hg, hh, hnc, hm, hsz, hcur⟩
  · cases h2
  · cases hv
    refine ⟨fun q => if q = i then (C i).set 3 (.int .i64 st) else C q, ⟨?_, .inr ⟨g, cap, cur.setIfInBounds (i * 4 + 3) (.int .i64 st), rfl, hg, ?_, hnc, hm, by simp [hsz], ?_⟩⟩, fun q hq => ?_⟩
    · rw [← rws_set hlen hi (by omega), List.length_set]; exact h1
    · have hX : Blk w g cur 89 := hh
      exact Blk.set hX (i * 4 + 3) (.int .i64 st)
    · rw [← rws_set hlen hi (by omega), ← hcur, Array.toList_setIfInBounds, List.take_set]
    · have hq3 := h3 q hq
      have hby : ∀ (od : Option Addr) (len : Nat) (f : Nat → Nat) (cp : Nat), Value.slice od len cp ∈ C q → Bytes w od len f → Bytes (w.setCell ⟨g, i * 4 + 3, none⟩ (.int .i64 st)) od len f := fun od len f cp hm hB k hk => by
        obtain ⟨b1, d, off, rfl, hc⟩ := hB k hk
        refine ⟨b1, d, off, rfl, ?_⟩
        have hne : d ≠ g := fun e => hq3.2 _ _ _ hm (by omega) (by show some g = some d; rw [e])
        have : (w.setCell ⟨g, i * 4 + 3, none⟩ (.int .i64 st)).heap[d]? = w.heap[d]? := Below.heap_setCell _ _ _ _ hne
        rw [← hc]; simp only [World.cell?, this]
      obtain ⟨⟨od, cp, hC, hB, hr⟩, haw⟩ := hq3
      by_cases e : q = i
      · subst e
        refine ⟨⟨od, cp, by simp [hC, setV], ?_, ?_⟩, ?_⟩
        · simp only [setV, if_pos rfl]; exact hby od _ _ cp (by rw [hC]; simp) hB
        · simp only [setV, if_pos rfl]; exact hr
        · simp only [if_pos rfl]
          intro a l c hm hl
          rw [hC] at hm
          simp at hm
          exact haw a l c (by rw [hC]; simp [hm]) hl
      · simp only [if_neg e]
        have es : setV V i st q = V q := if_neg e
        rw [es]
        exact ⟨⟨od, cp, hC, hby od _ _ cp (by rw [hC]; simp) hB, hr⟩, haw⟩
theorem RGV.set_nil {w : World} {base n g cap : Nat} {V : Nat → Ver} (h : RGV w base (.slice (some ⟨g, 0, none⟩) n cap) n V) {i : Nat} (hi : i < n) :
    RGV (w.setCell ⟨g, i * 4 + 1, none⟩ (.slice none 0 0)) base (.slice (some ⟨g, 0, none⟩) n cap) n (cutV V i) := by
  obtain ⟨C, ⟨h1, h2⟩, h3⟩ := h
  have hlen : ∀ q, q < n → (C q).length = 4 := fun q hq => (h3 q hq).1.len
  rcases h2 with ⟨h2, _⟩ | ⟨g', cap', cur, hv, hg, hh, hnc, hm, hsz, hcur⟩
  · cases h2
  · cases hv
    refine ⟨fun q => if q = i then (C i).set 1 (.slice none 0 0) else C q, ⟨?_, .inr ⟨g, cap, cur.setIfInBounds (i * 4 + 1) (.slice none 0 0), rfl, hg, ?_, hnc, hm, by simp [hsz], ?_⟩⟩, fun q hq => ?_⟩
    · rw [← rws_set hlen hi (by omega), List.length_set]; exact h1
    · have hX : Blk w g cur 89 := hh
      exact Blk.set hX (i * 4 + 1) (.slice none 0 0)
    · rw [← rws_set hlen hi (by omega), ← hcur, Array.toList_setIfInBounds, List.take_set]
    · have hq3 := h3 q hq
      have hby : ∀ (od : Option Addr) (len : Nat) (f : Nat → Nat) (cp : Nat), Value.slice od len cp ∈ C q → Bytes w od len f → Bytes (w.setCell ⟨g, i * 4 + 1, none⟩ (.slice none 0 0)) od len f := fun od len f cp hm hB k hk => by
        obtain ⟨b1, d, off, rfl, hc⟩ := hB k hk
        refine ⟨b1, d, off, rfl, ?_⟩
        have hne : d ≠ g := fun e => hq3.2 _ _ _ hm (by omega) (by show some g = some d; rw [e])
        have : (w.setCell ⟨g, i * 4 + 1, none⟩ (.slice none 0 0)).heap[d]? = w.heap[d]? := Below.heap_setCell _ _ _ _ hne
        rw [← hc]; simp only [World.cell?, this]
      obtain ⟨⟨od, cp, hC, hB, hr⟩, haw⟩ := hq3
      by_cases e : q = i
      · subst e
        refine ⟨⟨none, 0, by simp [hC, cutV], fun k hk => ?_, ?_⟩, ?_⟩
        · simp [cutV] at hk
        · simp [cutV]
        · simp only [if_pos rfl]
          intro a l c hm hl
          rw [hC] at hm
          simp at hm
      · simp only [if_neg e]
        have es : cutV V i q = V q := if_neg e
        rw [es]
        exact ⟨⟨od, cp, hC, hby od _ _ cp (by rw [hC]; simp) hB, hr⟩, haw⟩
set_option maxRecDepth 100000 in
set_option maxHeartbeats 4000000 in
theorem destroy_ok (oa : Option Addr) (n cp last : Nat) (max : Int) (V : Nat → Ver) (w : World) (hn : n ≤ maxLen) (hl : last < 4294967296) (hV : Vers w oa n V) (q i : Nat) (h : SecOk n last max V) (hi : i < n) (he : (V i).n = seek last q) :
    Calls Tryd.prog 50 #[.agg #[.slice oa n cp, .int .u32 (last : Int), .int .i64 max], .int .u32 (q : Int) ] w fun e w' => ∃ v, e = .returned (.tuple #[.agg #[v, .int .u32 (last : Int), .int .i64 max], .nilIface]) ∧ GV w' w.heap.size v n (cutV (setV V i 2) i) ∧ Below w.heap.size w w' := by
  have HV0 := Lib.hid hV
  have HV := Lib.hid (hV.later (((Below.refl _ _).alloc (Nat.le_refl _) _).alloc (by simp) _ : Below w.heap.size w ((w.alloc (.cells #[.slice oa n cp, .int .u32 (last : Int), .int .i64 max] 79)).alloc (.cells #[.slice none 0 0, .int .u32 0, .int .i64 0] 79))))
  have HF := Lib.hid fun w2 (hV2 : Vers w2 oa n V) => find_hit oa n cp last max V w2 hn hl hV2 q i h hi he
  have HL := Lib.hid fun j (hj : j < n) => (h.2 j hj).2.1
  have HN := Lib.hid (show n ≤ 1000 by have := h.1.2.1; have := h.1.2.2.1; omega)
  have HI := Lib.hid hi
  obtain ⟨b, off, od, cap, rfl, hB, hno, hlc, hcm, c0, c1, c2, c3⟩ := hV.get i hi
  have i0 : (0 : Int) ≤ (i : Int) := by omega
  have i1 : (i : Int) < (n : Int) := by omega
  clear hV hn h he hi hB hno hlc hcm
  go_enter Tryd.func50, Tryd.ntmps50
  go_wp2_with fail
  refine (HF.out _ HV.out).mono ?_
  rintro e w1 ⟨rfl, hb⟩
  have hX : Blk w1 (w.heap.size + 1) #[.slice none 0 0, .int .u32 0, .int .i64 0] 79 := Blk.below (blk2' _ _ _ _ _) hb (by simp)
  have hS : Blk w1 w.heap.size #[.slice (some ⟨b, off, none⟩) n cp, .int .u32 (last : Int), .int .i64 max] 79 := Blk.below (blk2 _ _ _ _ _) hb (by simp; omega)
  have hO : Below w.heap.size w w1 := (((Below.refl _ _).alloc (Nat.le_refl _) _).alloc (by simp) _).trans (hb.mono (by simp; omega))
  have x0 : w1.cell? ⟨w.heap.size, 0, none⟩ = some (.slice (some ⟨b, off, none⟩) n cp) := Blk.cell hS 0
  have x1 : w1.cell? ⟨w.heap.size, 1, none⟩ = some (.int .u32 (last : Int)) := Blk.cell hS 1
  have x2 : w1.cell? ⟨w.heap.size, 2, none⟩ = some (.int .i64 max) := Blk.cell hS 2
  have HX := Lib.hid hX
  have HO := Lib.hid hO
  have HV1 := Lib.hid (HV0.out.later hO)
  have HLT := Lib.hid (show w.heap.size + 1 < w1.heap.size from Blk.lt hX)
  clear hX hb hO hS c0 c1 c2 c3
  go_wp2_with fail
  refine (copied_any _ n cp _ _ V _ HV1.out HL.out HN.out).mono ?_
  rintro e w2 ⟨v, rfl, hG, hb2⟩
  obtain ⟨g, cv, rfl, hge, hgl, hncv⟩ : ∃ g cv, v = .slice (some ⟨g, 0, none⟩) n cv ∧ w1.heap.size ≤ g ∧ g < w2.heap.size ∧ n ≤ cv := by
    obtain ⟨C, h1, _⟩ := hG
    rcases h1.2 with ⟨_, h0⟩ | ⟨g, cp, cur, rfl, hg, hh, hnc, _⟩
    · have := HI.out; omega
    · exact ⟨g, cp, rfl, hg, lt_of_block hh, hnc⟩
  have hX2 := Blk.below HX.out hb2 (Blk.lt HX.out)
  have hO2 := HO.out.trans (hb2.mono HO.out.size)
  have hs2 := hb2.size
  have hlt2 : w.heap.size + 1 < w2.heap.size := Nat.lt_of_lt_of_le HLT.out hs2
  -- the world behind the secret of its own
  have hG3 := hG.later ((Below.refl _ _).alloc (Nat.le_refl _) (.cells #[.slice (some ⟨g, 0, none⟩) n cv, .int .u32 (last : Int), .int .i64 max] 79))
  have hX3 := Blk.alloc hX2 (.cells #[.slice (some ⟨g, 0, none⟩) n cv, .int .u32 (last : Int), .int .i64 max] 79)
  have hY3 := Blk.new w2 #[.slice (some ⟨g, 0, none⟩) n cv, .int .u32 (last : Int), .int .i64 max] 79
  have hO3 := hO2.alloc (Nat.le_of_lt (by omega)) (.cells #[.slice (some ⟨g, 0, none⟩) n cv, .int .u32 (last : Int), .int .i64 max] 79)
  obtain ⟨Cg, tg, hBg, g1, g3⟩ : ∃ Cg tg, Blk w2 g Cg tg ∧ (∃ o1, Cg[i * 4 + 1]? = some o1) ∧ (∃ o3, Cg[i * 4 + 3]? = some o3) := by
    obtain ⟨_, cv', ev, _, _, hVv⟩ := hG.vers
    cases ev
    obtain ⟨b', off', _, _, e', _, _, _, _, _, g1, _, g3⟩ := hVv.get i HI.out
    cases e'
    obtain ⟨C, h1, _⟩ := hG
    rcases h1.2 with ⟨h0, _⟩ | ⟨g', cp', cur, hv', _, hh, _⟩
    · cases h0
    · cases hv'
      rw [Nat.zero_add] at g1 g3
      have hB' : Blk w2 g cur _ := hh
      rw [Blk.cell hB'] at g1 g3
      exact ⟨cur, _, hB', ⟨_, g1⟩, ⟨_, g3⟩⟩
  obtain ⟨q1, g1⟩ := g1
  obtain ⟨q3, g3⟩ := g3
  have o1 : (w2.alloc (.cells #[.slice (some ⟨g, 0, none⟩) n cv, .int .u32 (last : Int), .int .i64 max] 79)).cell? ⟨g, i * 4 + 3, none⟩ = some q3 := (Blk.cell (hBg.alloc _) _).trans g3
  have o2 : (w2.alloc (.cells #[.slice (some ⟨g, 0, none⟩) n cv, .int .u32 (last : Int), .int .i64 max] 79)).frozen? ⟨g, i * 4 + 3, none⟩ = false := Blk.free (hBg.alloc _) _
  have hBs := (Blk.set hBg (i * 4 + 3) (.int .i64 2))
  have p0 : w2.cell? ⟨g, i * 4 + 1, none⟩ = some q1 := (Blk.cell hBg _).trans g1
  have p1 : (w2.setCell ⟨g, i * 4 + 3, none⟩ (.int .i64 2)).cell? ⟨g, i * 4 + 1, none⟩ = some q1 := (Blk.cell hBs _).trans (by rw [Array.getElem?_setIfInBounds, if_neg (by omega)]; exact g1)
  have p2 : (w2.setCell ⟨g, i * 4 + 3, none⟩ (.int .i64 2)).frozen? ⟨g, i * 4 + 1, none⟩ = false := Blk.free hBs _
  have p3 : ((w2.setCell ⟨g, i * 4 + 3, none⟩ (.int .i64 2)).alloc (.cells #[.slice (some ⟨g, 0, none⟩) n cv, .int .u32 (last : Int), .int .i64 max] 79)).cell? ⟨g, i * 4 + 1, none⟩ = some q1 := (Blk.cell (hBs.alloc _) _).trans (by rw [Array.getElem?_setIfInBounds, if_neg (by omega)]; exact g1)
  have p4 : ((w2.setCell ⟨g, i * 4 + 3, none⟩ (.int .i64 2)).alloc (.cells #[.slice (some ⟨g, 0, none⟩) n cv, .int .u32 (last : Int), .int .i64 max] 79)).frozen? ⟨g, i * 4 + 1, none⟩ = false := Blk.free (hBs.alloc _) _
  clear hBg hBs g1 g3
  have hltw := HLT.out
  have hGa := (hG.set_st HI.out 2).set_nil HI.out
  have hXa : Blk ((w2.setCell ⟨g, i * 4 + 3, none⟩ (.int .i64 2)).setCell ⟨g, i * 4 + 1, none⟩ (.slice none 0 0)) (w.heap.size + 1) #[.slice none 0 0, .int .u32 0, .int .i64 0] 79 := Blk.set_other (Blk.set_other hX2 (by simp; omega) _) (by simp; omega) _
  have hOa : Below w.heap.size w ((w2.setCell ⟨g, i * 4 + 3, none⟩ (.int .i64 2)).setCell ⟨g, i * 4 + 1, none⟩ (.slice none 0 0)) := (hO2.setCell (by simp; omega) _).setCell (by simp; omega) _
  have hG5 := hGa.set_apart (k := 0) (x := .slice (some ⟨g, 0, none⟩) n cv) hXa no_u8_3 hltw
  have hG6 := hG5.set_apart (k := 1) (x := .int .u32 (last : Int)) (Blk.set hXa 0 _) no_u8_3 hltw
  have hG7 := hG6.set_apart (k := 2) (x := .int .i64 max) (Blk.set (Blk.set hXa 0 _) 1 _) no_u8_3 hltw
  have HG7 := Lib.hid ((hG7.later ((Below.refl _ _).alloc (Nat.le_refl _) (.cells #[.slice (some ⟨g, 0, none⟩) n cv, .int .u32 (last : Int), .int .i64 max] 79))).mono (base' := w.heap.size) (by omega))
  have hR := Blk.alloc (Blk.set (Blk.set (Blk.set hXa 0 (.slice (some ⟨g, 0, none⟩) n cv)) 1 (.int .u32 (last : Int))) 2 (.int .i64 max)) (.cells #[.slice (some ⟨g, 0, none⟩) n cv, .int .u32 (last : Int), .int .i64 max] 79)
  have HR := Lib.hid hR
  clear hR
  have hn1 : ¬ (w.heap.size + 1 = g) := by omega
  have hn2 : ¬ (g = w.heap.size + 1) := by omega
  have t0 : w2.cell? ⟨w.heap.size + 1, 0, none⟩ = some (.slice none 0 0) := Blk.cell hX2 0
  have u0 : w2.frozen? ⟨w.heap.size + 1, 0, none⟩ = false := Blk.free hX2 0
  have t1 : w2.cell? ⟨w.heap.size + 1, 1, none⟩ = some (.int .u32 0) := Blk.cell hX2 1
  have u1 : w2.frozen? ⟨w.heap.size + 1, 1, none⟩ = false := Blk.free hX2 1
  have t2 : w2.cell? ⟨w.heap.size + 1, 2, none⟩ = some (.int .i64 0) := Blk.cell hX2 2
  have u2 : w2.frozen? ⟨w.heap.size + 1, 2, none⟩ = false := Blk.free hX2 2
  have s0 : ((w2.setCell ⟨g, i * 4 + 3, none⟩ (.int .i64 2)).setCell ⟨g, i * 4 + 1, none⟩ (.slice none 0 0)).cell? ⟨w.heap.size + 1, 0, none⟩ = some (.slice none 0 0) := Blk.cell hXa 0
  have z0 : ((w2.setCell ⟨g, i * 4 + 3, none⟩ (.int .i64 2)).setCell ⟨g, i * 4 + 1, none⟩ (.slice none 0 0)).frozen? ⟨w.heap.size + 1, 0, none⟩ = false := Blk.free hXa 0
  have s1 : ((w2.setCell ⟨g, i * 4 + 3, none⟩ (.int .i64 2)).setCell ⟨g, i * 4 + 1, none⟩ (.slice none 0 0)).cell? ⟨w.heap.size + 1, 1, none⟩ = some (.int .u32 0) := Blk.cell hXa 1
  have z1 : ((w2.setCell ⟨g, i * 4 + 3, none⟩ (.int .i64 2)).setCell ⟨g, i * 4 + 1, none⟩ (.slice none 0 0)).frozen? ⟨w.heap.size + 1, 1, none⟩ = false := Blk.free hXa 1
  have s2 : ((w2.setCell ⟨g, i * 4 + 3, none⟩ (.int .i64 2)).setCell ⟨g, i * 4 + 1, none⟩ (.slice none 0 0)).cell? ⟨w.heap.size + 1, 2, none⟩ = some (.int .i64 0) := Blk.cell hXa 2
  have z2 : ((w2.setCell ⟨g, i * 4 + 3, none⟩ (.int .i64 2)).setCell ⟨g, i * 4 + 1, none⟩ (.slice none 0 0)).frozen? ⟨w.heap.size + 1, 2, none⟩ = false := Blk.free hXa 2
  have a0 : (((w2.setCell ⟨g, i * 4 + 3, none⟩ (.int .i64 2)).setCell ⟨g, i * 4 + 1, none⟩ (.slice none 0 0)).setCell ⟨w.heap.size + 1, 0, none⟩ (.slice (some ⟨g, 0, none⟩) n cv)).cell? ⟨w.heap.size + 1, 0, none⟩ = some (.slice (some ⟨g, 0, none⟩) n cv) := Blk.cell (Blk.set hXa 0 _) 0
  have a1 : ((((w2.setCell ⟨g, i * 4 + 3, none⟩ (.int .i64 2)).setCell ⟨g, i * 4 + 1, none⟩ (.slice none 0 0)).setCell ⟨w.heap.size + 1, 0, none⟩ (.slice (some ⟨g, 0, none⟩) n cv)).setCell ⟨w.heap.size + 1, 1, none⟩ (.int .u32 (last : Int))).cell? ⟨w.heap.size + 1, 1, none⟩ = some (.int .u32 (last : Int)) := Blk.cell (Blk.set (Blk.set hXa 0 _) 1 _) 1
  have a2 : (((((w2.setCell ⟨g, i * 4 + 3, none⟩ (.int .i64 2)).setCell ⟨g, i * 4 + 1, none⟩ (.slice none 0 0)).setCell ⟨w.heap.size + 1, 0, none⟩ (.slice (some ⟨g, 0, none⟩) n cv)).setCell ⟨w.heap.size + 1, 1, none⟩ (.int .u32 (last : Int))).setCell ⟨w.heap.size + 1, 2, none⟩ (.int .i64 max)).cell? ⟨w.heap.size + 1, 2, none⟩ = some (.int .i64 max) := Blk.cell (Blk.set (Blk.set (Blk.set hXa 0 _) 1 _) 2 _) 2
  have A0 := Lib.hid a0
  have A1 := Lib.hid a1
  have A2 := Lib.hid a2
  clear a0 a1 a2
  have HOa := Lib.hid hOa
  have HLT2 := Lib.hid hge
  clear hGa hXa hOa hG5 hG6 hG7 hX3 hY3 hO3 hG3 hG hX2 hO2 hb2 HX HO HV1 hltw
  go_wp2_with fail
  refine bodyPost_ret (v := .tuple #[.agg #[.slice (some ⟨g, 0, none⟩) n cv, .int .u32 (last : Int), .int .i64 max], .nilIface]) ?_ rfl ⟨_, rfl, HG7.out, ?_⟩
  · simp [results, Tryd.results50, go_sem, Blk.cell HR.out]
  · exact (((HOa.out.setCell (by simp) _).setCell (by simp) _).setCell (by simp) _).alloc (by simp [World.setCell]; omega) _
end Go.Proofs.YtkaddilgegimjaaDoor
