/- Errors: engine.turned, Delete, Undelete, Destroy, New; the document's Set, Put. -/
import Derived.Test.YtkaddilgegimjaaDoorEn8
import Derived.Test.YtkaddilgegimjaaDoorEs4
namespace Go.Proofs.YtkaddilgegimjaaDoor
set_option linter.unusedVariables false
set_option linter.unusedSimpArgs false
open Go.RowKit

set_option maxRecDepth 100000 in
set_option maxHeartbeats 1000000 in
theorem turned_bad (oa : Option Addr) (n cp last : Nat) (max : Int) (V : Nat → Ver) (w : World) (hn : n ≤ maxLen) (hl : last < 4294967296) (hV : Vers w oa n V)  (q : Nat) (st : Int) (h : ¬ SecOk n last max V) :
    Calls Tryd.prog 92 #[.agg #[.slice oa n cp, .int .u32 (last : Int), .int .i64 max], .int .u32 (q : Int), .int .i64 st] w fun e w' => e = .returned (.tuple #[.agg #[.slice none 0 0, .int .u32 0, .int .i64 0], .iface 146 (.int .i64 1)]) ∧ Below w.heap.size w w' := by
  have HV := Lib.hid (hV.later (((Below.refl _ _).alloc (Nat.le_refl _) _).alloc (by simp) _ : Below w.heap.size w ((w.alloc (.cells #[.slice oa n cp, .int .u32 (last : Int), .int .i64 max] 79)).alloc (.cells #[.slice none 0 0, .int .u32 0, .int .i64 0] 79))))
  have HF := Lib.hid fun w2 (hV2 : Vers w2 oa n V) => find_bad oa n cp last max V w2 hn hl hV2 q h
  clear hV hn  h
  go_enter Tryd.func92, Tryd.ntmps92
  go_wp2_with fail
  refine (HF.out _ HV.out).mono ?_
  rintro e w1 ⟨rfl, hb⟩
  have hX : Blk w1 (w.heap.size + 1) #[.slice none 0 0, .int .u32 0, .int .i64 0] 79 := Blk.below (blk2' _ _ _ _ _) hb (by simp)
  have hS : Blk w1 w.heap.size #[.slice oa n cp, .int .u32 (last : Int), .int .i64 max] 79 := Blk.below (blk2 _ _ _ _ _) hb (by simp; omega)
  have hO : Below w.heap.size w w1 := (((Below.refl _ _).alloc (Nat.le_refl _) _).alloc (by simp) _).trans (hb.mono (by simp; omega))
  have x0 : w1.cell? ⟨w.heap.size, 0, none⟩ = some (.slice oa n cp) := Blk.cell hS 0
  have x1 : w1.cell? ⟨w.heap.size, 1, none⟩ = some (.int .u32 (last : Int)) := Blk.cell hS 1
  have s0 : w1.cell? ⟨w.heap.size + 1, 0, none⟩ = some (.slice none 0 0) := Blk.cell hX 0
  have z0 : w1.frozen? ⟨w.heap.size + 1, 0, none⟩ = false := Blk.free hX 0
  have s1 : w1.cell? ⟨w.heap.size + 1, 1, none⟩ = some (.int .u32 0) := Blk.cell hX 1
  have z1 : w1.frozen? ⟨w.heap.size + 1, 1, none⟩ = false := Blk.free hX 1
  have s2 : w1.cell? ⟨w.heap.size + 1, 2, none⟩ = some (.int .i64 0) := Blk.cell hX 2
  have z2 : w1.frozen? ⟨w.heap.size + 1, 2, none⟩ = false := Blk.free hX 2
  have a0 : (w1.setCell ⟨w.heap.size + 1, 0, none⟩ (.slice none 0 0)).cell? ⟨w.heap.size + 1, 0, none⟩ = some (.slice none 0 0) := Blk.cell (Blk.set hX 0 _) 0
  have a1 : ((w1.setCell ⟨w.heap.size + 1, 0, none⟩ (.slice none 0 0)).setCell ⟨w.heap.size + 1, 1, none⟩ (.int .u32 0)).cell? ⟨w.heap.size + 1, 1, none⟩ = some (.int .u32 0) := Blk.cell (Blk.set (Blk.set hX 0 _) 1 _) 1
  have a2 : (((w1.setCell ⟨w.heap.size + 1, 0, none⟩ (.slice none 0 0)).setCell ⟨w.heap.size + 1, 1, none⟩ (.int .u32 0)).setCell ⟨w.heap.size + 1, 2, none⟩ (.int .i64 0)).cell? ⟨w.heap.size + 1, 2, none⟩ = some (.int .i64 0) := Blk.cell (Blk.set (Blk.set (Blk.set hX 0 _) 1 _) 2 _) 2
  have A0 := Lib.hid a0
  have A1 := Lib.hid a1
  have A2 := Lib.hid a2
  clear a0 a1 a2
  have HO := Lib.hid hO
  clear hX hb hO hS
  go_wp2_with fail
  refine bodyPost_ret (v := .tuple #[.agg #[.slice none 0 0, .int .u32 0, .int .i64 0], .iface 146 (.int .i64 1)]) ?_ rfl ⟨rfl, ?_⟩
  · simp [results, Tryd.results92, go_sem, A0.out, A1.out, A2.out]
  · exact (((HO.out).setCell (by simp) _).setCell (by simp) _).setCell (by simp) _
set_option maxRecDepth 100000 in
set_option maxHeartbeats 1000000 in
theorem turned_miss (oa : Option Addr) (n cp last : Nat) (max : Int) (V : Nat → Ver) (w : World) (hn : n ≤ maxLen) (hl : last < 4294967296) (hV : Vers w oa n V)  (q : Nat) (st : Int) (h : SecOk n last max V) (hno : ∀ i, i < n → (V i).n ≠ seek last q) :
    Calls Tryd.prog 92 #[.agg #[.slice oa n cp, .int .u32 (last : Int), .int .i64 max], .int .u32 (q : Int), .int .i64 st] w fun e w' => e = .returned (.tuple #[.agg #[.slice none 0 0, .int .u32 0, .int .i64 0], .iface 146 (.int .i64 5)]) ∧ Below w.heap.size w w' := by
  have HV := Lib.hid (hV.later (((Below.refl _ _).alloc (Nat.le_refl _) _).alloc (by simp) _ : Below w.heap.size w ((w.alloc (.cells #[.slice oa n cp, .int .u32 (last : Int), .int .i64 max] 79)).alloc (.cells #[.slice none 0 0, .int .u32 0, .int .i64 0] 79))))
  have HF := Lib.hid fun w2 (hV2 : Vers w2 oa n V) => find_miss oa n cp last max V w2 hn hl hV2 q h hno
  clear hV hn  h hno
  go_enter Tryd.func92, Tryd.ntmps92
  go_wp2_with fail
  refine (HF.out _ HV.out).mono ?_
  rintro e w1 ⟨rfl, hb⟩
  have hX : Blk w1 (w.heap.size + 1) #[.slice none 0 0, .int .u32 0, .int .i64 0] 79 := Blk.below (blk2' _ _ _ _ _) hb (by simp)
  have hS : Blk w1 w.heap.size #[.slice oa n cp, .int .u32 (last : Int), .int .i64 max] 79 := Blk.below (blk2 _ _ _ _ _) hb (by simp; omega)
  have hO : Below w.heap.size w w1 := (((Below.refl _ _).alloc (Nat.le_refl _) _).alloc (by simp) _).trans (hb.mono (by simp; omega))
  have x0 : w1.cell? ⟨w.heap.size, 0, none⟩ = some (.slice oa n cp) := Blk.cell hS 0
  have x1 : w1.cell? ⟨w.heap.size, 1, none⟩ = some (.int .u32 (last : Int)) := Blk.cell hS 1
  have s0 : w1.cell? ⟨w.heap.size + 1, 0, none⟩ = some (.slice none 0 0) := Blk.cell hX 0
  have z0 : w1.frozen? ⟨w.heap.size + 1, 0, none⟩ = false := Blk.free hX 0
  have s1 : w1.cell? ⟨w.heap.size + 1, 1, none⟩ = some (.int .u32 0) := Blk.cell hX 1
  have z1 : w1.frozen? ⟨w.heap.size + 1, 1, none⟩ = false := Blk.free hX 1
  have s2 : w1.cell? ⟨w.heap.size + 1, 2, none⟩ = some (.int .i64 0) := Blk.cell hX 2
  have z2 : w1.frozen? ⟨w.heap.size + 1, 2, none⟩ = false := Blk.free hX 2
  have a0 : (w1.setCell ⟨w.heap.size + 1, 0, none⟩ (.slice none 0 0)).cell? ⟨w.heap.size + 1, 0, none⟩ = some (.slice none 0 0) := Blk.cell (Blk.set hX 0 _) 0
  have a1 : ((w1.setCell ⟨w.heap.size + 1, 0, none⟩ (.slice none 0 0)).setCell ⟨w.heap.size + 1, 1, none⟩ (.int .u32 0)).cell? ⟨w.heap.size + 1, 1, none⟩ = some (.int .u32 0) := Blk.cell (Blk.set (Blk.set hX 0 _) 1 _) 1
  have a2 : (((w1.setCell ⟨w.heap.size + 1, 0, none⟩ (.slice none 0 0)).setCell ⟨w.heap.size + 1, 1, none⟩ (.int .u32 0)).setCell ⟨w.heap.size + 1, 2, none⟩ (.int .i64 0)).cell? ⟨w.heap.size + 1, 2, none⟩ = some (.int .i64 0) := Blk.cell (Blk.set (Blk.set (Blk.set hX 0 _) 1 _) 2 _) 2
  have A0 := Lib.hid a0
  have A1 := Lib.hid a1
  have A2 := Lib.hid a2
  clear a0 a1 a2
  have HO := Lib.hid hO
  clear hX hb hO hS
  go_wp2_with fail
  refine bodyPost_ret (v := .tuple #[.agg #[.slice none 0 0, .int .u32 0, .int .i64 0], .iface 146 (.int .i64 5)]) ?_ rfl ⟨rfl, ?_⟩
  · simp [results, Tryd.results92, go_sem, A0.out, A1.out, A2.out]
  · exact (((HO.out).setCell (by simp) _).setCell (by simp) _).setCell (by simp) _
set_option maxRecDepth 100000 in
set_option maxHeartbeats 1000000 in
theorem turned_gone (oa : Option Addr) (n cp last : Nat) (max : Int) (V : Nat → Ver) (w : World) (hn : n ≤ maxLen) (hl : last < 4294967296) (hV : Vers w oa n V)  (q : Nat) (st : Int) (i : Nat) (h : SecOk n last max V) (hi : i < n) (he : (V i).n = seek last q) (hst : (V i).st = 2) :
    Calls Tryd.prog 92 #[.agg #[.slice oa n cp, .int .u32 (last : Int), .int .i64 max], .int .u32 (q : Int), .int .i64 st] w fun e w' => e = .returned (.tuple #[.agg #[.slice none 0 0, .int .u32 0, .int .i64 0], .iface 146 (.int .i64 21)]) ∧ Below w.heap.size w w' := by
  have HV := Lib.hid (hV.later (((Below.refl _ _).alloc (Nat.le_refl _) _).alloc (by simp) _ : Below w.heap.size w ((w.alloc (.cells #[.slice oa n cp, .int .u32 (last : Int), .int .i64 max] 79)).alloc (.cells #[.slice none 0 0, .int .u32 0, .int .i64 0] 79))))
  have HF := Lib.hid fun w2 (hV2 : Vers w2 oa n V) => find_hit oa n cp last max V w2 hn hl hV2 q i h hi he
  obtain ⟨b, off, od, cap, rfl, hB, hno, hlc, hcm, c0, c1, c2, c3⟩ := hV.get i hi
  have i0 : (0 : Int) ≤ (i : Int) := by omega
  have i1 : (i : Int) < (n : Int) := by omega
  rw [hst] at c3
  clear hV hn  h he hi hst hB hno hlc hcm
  go_enter Tryd.func92, Tryd.ntmps92
  go_wp2_with fail
  refine (HF.out _ HV.out).mono ?_
  rintro e w1 ⟨rfl, hb⟩
  have hX : Blk w1 (w.heap.size + 1) #[.slice none 0 0, .int .u32 0, .int .i64 0] 79 := Blk.below (blk2' _ _ _ _ _) hb (by simp)
  have hS : Blk w1 w.heap.size #[.slice (some ⟨b, off, none⟩) n cp, .int .u32 (last : Int), .int .i64 max] 79 := Blk.below (blk2 _ _ _ _ _) hb (by simp; omega)
  have hO : Below w.heap.size w w1 := (((Below.refl _ _).alloc (Nat.le_refl _) _).alloc (by simp) _).trans (hb.mono (by simp; omega))
  have x0 : w1.cell? ⟨w.heap.size, 0, none⟩ = some (.slice (some ⟨b, off, none⟩) n cp) := Blk.cell hS 0
  have x1 : w1.cell? ⟨w.heap.size, 1, none⟩ = some (.int .u32 (last : Int)) := Blk.cell hS 1
  have d3 := cell_below hO c3
  clear c0 c1 c2 c3
  have s0 : w1.cell? ⟨w.heap.size + 1, 0, none⟩ = some (.slice none 0 0) := Blk.cell hX 0
  have z0 : w1.frozen? ⟨w.heap.size + 1, 0, none⟩ = false := Blk.free hX 0
  have s1 : w1.cell? ⟨w.heap.size + 1, 1, none⟩ = some (.int .u32 0) := Blk.cell hX 1
  have z1 : w1.frozen? ⟨w.heap.size + 1, 1, none⟩ = false := Blk.free hX 1
  have s2 : w1.cell? ⟨w.heap.size + 1, 2, none⟩ = some (.int .i64 0) := Blk.cell hX 2
  have z2 : w1.frozen? ⟨w.heap.size + 1, 2, none⟩ = false := Blk.free hX 2
  have a0 : (w1.setCell ⟨w.heap.size + 1, 0, none⟩ (.slice none 0 0)).cell? ⟨w.heap.size + 1, 0, none⟩ = some (.slice none 0 0) := Blk.cell (Blk.set hX 0 _) 0
  have a1 : ((w1.setCell ⟨w.heap.size + 1, 0, none⟩ (.slice none 0 0)).setCell ⟨w.heap.size + 1, 1, none⟩ (.int .u32 0)).cell? ⟨w.heap.size + 1, 1, none⟩ = some (.int .u32 0) := Blk.cell (Blk.set (Blk.set hX 0 _) 1 _) 1
  have a2 : (((w1.setCell ⟨w.heap.size + 1, 0, none⟩ (.slice none 0 0)).setCell ⟨w.heap.size + 1, 1, none⟩ (.int .u32 0)).setCell ⟨w.heap.size + 1, 2, none⟩ (.int .i64 0)).cell? ⟨w.heap.size + 1, 2, none⟩ = some (.int .i64 0) := Blk.cell (Blk.set (Blk.set (Blk.set hX 0 _) 1 _) 2 _) 2
  have A0 := Lib.hid a0
  have A1 := Lib.hid a1
  have A2 := Lib.hid a2
  clear a0 a1 a2
  have HO := Lib.hid hO
  clear hX hb hO hS
  go_wp2_with fail
  refine bodyPost_ret (v := .tuple #[.agg #[.slice none 0 0, .int .u32 0, .int .i64 0], .iface 146 (.int .i64 21)]) ?_ rfl ⟨rfl, ?_⟩
  · simp [results, Tryd.results92, go_sem, A0.out, A1.out, A2.out]
  · exact (((HO.out).setCell (by simp) _).setCell (by simp) _).setCell (by simp) _
set_option maxRecDepth 100000 in
set_option maxHeartbeats 1000000 in
theorem delete_bad (oa : Option Addr) (n cp last : Nat) (max : Int) (V : Nat → Ver) (w : World) (hn : n ≤ maxLen) (hl : last < 4294967296) (hV : Vers w oa n V)  (q : Nat) (h : ¬ SecOk n last max V) :
    Calls Tryd.prog 47 #[.agg #[.slice oa n cp, .int .u32 (last : Int), .int .i64 max], .int .u32 (q : Int)] w fun e w' => e = .returned (.tuple #[.agg #[.slice none 0 0, .int .u32 0, .int .i64 0], .iface 146 (.int .i64 1)]) ∧ Below w.heap.size w w' := by
  have HV := Lib.hid (hV.later (((Below.refl _ _).alloc (Nat.le_refl _) _).alloc (by simp) _ : Below w.heap.size w ((w.alloc (.cells #[.slice oa n cp, .int .u32 (last : Int), .int .i64 max] 79)).alloc (.cells #[.slice none 0 0, .int .u32 0, .int .i64 0] 79))))
  have HF := Lib.hid fun w2 (hV2 : Vers w2 oa n V) => turned_bad oa n cp last max V w2 hn hl hV2 q 1 h
  clear hV hn  h
  go_enter Tryd.func47, Tryd.ntmps47
  go_wp2_with fail
  refine (HF.out _ HV.out).mono ?_
  rintro e w1 ⟨rfl, hb⟩
  have hX : Blk w1 (w.heap.size + 1) #[.slice none 0 0, .int .u32 0, .int .i64 0] 79 := Blk.below (blk2' _ _ _ _ _) hb (by simp)
  have hS : Blk w1 w.heap.size #[.slice oa n cp, .int .u32 (last : Int), .int .i64 max] 79 := Blk.below (blk2 _ _ _ _ _) hb (by simp; omega)
  have hO : Below w.heap.size w w1 := (((Below.refl _ _).alloc (Nat.le_refl _) _).alloc (by simp) _).trans (hb.mono (by simp; omega))
  have x0 : w1.cell? ⟨w.heap.size, 0, none⟩ = some (.slice oa n cp) := Blk.cell hS 0
  have x1 : w1.cell? ⟨w.heap.size, 1, none⟩ = some (.int .u32 (last : Int)) := Blk.cell hS 1
  have s0 : w1.cell? ⟨w.heap.size + 1, 0, none⟩ = some (.slice none 0 0) := Blk.cell hX 0
  have z0 : w1.frozen? ⟨w.heap.size + 1, 0, none⟩ = false := Blk.free hX 0
  have s1 : w1.cell? ⟨w.heap.size + 1, 1, none⟩ = some (.int .u32 0) := Blk.cell hX 1
  have z1 : w1.frozen? ⟨w.heap.size + 1, 1, none⟩ = false := Blk.free hX 1
  have s2 : w1.cell? ⟨w.heap.size + 1, 2, none⟩ = some (.int .i64 0) := Blk.cell hX 2
  have z2 : w1.frozen? ⟨w.heap.size + 1, 2, none⟩ = false := Blk.free hX 2
  have a0 : (w1.setCell ⟨w.heap.size + 1, 0, none⟩ (.slice none 0 0)).cell? ⟨w.heap.size + 1, 0, none⟩ = some (.slice none 0 0) := Blk.cell (Blk.set hX 0 _) 0
  have a1 : ((w1.setCell ⟨w.heap.size + 1, 0, none⟩ (.slice none 0 0)).setCell ⟨w.heap.size + 1, 1, none⟩ (.int .u32 0)).cell? ⟨w.heap.size + 1, 1, none⟩ = some (.int .u32 0) := Blk.cell (Blk.set (Blk.set hX 0 _) 1 _) 1
  have a2 : (((w1.setCell ⟨w.heap.size + 1, 0, none⟩ (.slice none 0 0)).setCell ⟨w.heap.size + 1, 1, none⟩ (.int .u32 0)).setCell ⟨w.heap.size + 1, 2, none⟩ (.int .i64 0)).cell? ⟨w.heap.size + 1, 2, none⟩ = some (.int .i64 0) := Blk.cell (Blk.set (Blk.set (Blk.set hX 0 _) 1 _) 2 _) 2
  have A0 := Lib.hid a0
  have A1 := Lib.hid a1
  have A2 := Lib.hid a2
  clear a0 a1 a2
  have HO := Lib.hid hO
  clear hX hb hO hS
  go_wp2_with fail
  refine bodyPost_ret (v := .tuple #[.agg #[.slice none 0 0, .int .u32 0, .int .i64 0], .iface 146 (.int .i64 1)]) ?_ rfl ⟨rfl, ?_⟩
  · simp [results, Tryd.results47, go_sem, A0.out, A1.out, A2.out]
  · exact (((HO.out).setCell (by simp) _).setCell (by simp) _).setCell (by simp) _
set_option maxRecDepth 100000 in
set_option maxHeartbeats 1000000 in
theorem delete_miss (oa : Option Addr) (n cp last : Nat) (max : Int) (V : Nat → Ver) (w : World) (hn : n ≤ maxLen) (hl : last < 4294967296) (hV : Vers w oa n V)  (q : Nat) (h : SecOk n last max V) (hno : ∀ i, i < n → (V i).n ≠ seek last q) :
    Calls Tryd.prog 47 #[.agg #[.slice oa n cp, .int .u32 (last : Int), .int .i64 max], .int .u32 (q : Int)] w fun e w' => e = .returned (.tuple #[.agg #[.slice none 0 0, .int .u32 0, .int .i64 0], .iface 146 (.int .i64 5)]) ∧ Below w.heap.size w w' := by
  have HV := Lib.hid (hV.later (((Below.refl _ _).alloc (Nat.le_refl _) _).alloc (by simp) _ : Below w.heap.size w ((w.alloc (.cells #[.slice oa n cp, .int .u32 (last : Int), .int .i64 max] 79)).alloc (.cells #[.slice none 0 0, .int .u32 0, .int .i64 0] 79))))
  have HF := Lib.hid fun w2 (hV2 : Vers w2 oa n V) => turned_miss oa n cp last max V w2 hn hl hV2 q 1 h hno
  clear hV hn  h hno
  go_enter Tryd.func47, Tryd.ntmps47
  go_wp2_with fail
  refine (HF.out _ HV.out).mono ?_
  rintro e w1 ⟨rfl, hb⟩
  have hX : Blk w1 (w.heap.size + 1) #[.slice none 0 0, .int .u32 0, .int .i64 0] 79 := Blk.below (blk2' _ _ _ _ _) hb (by simp)
  have hS : Blk w1 w.heap.size #[.slice oa n cp, .int .u32 (last : Int), .int .i64 max] 79 := Blk.below (blk2 _ _ _ _ _) hb (by simp; omega)
  have hO : Below w.heap.size w w1 := (((Below.refl _ _).alloc (Nat.le_refl _) _).alloc (by simp) _).trans (hb.mono (by simp; omega))
  have x0 : w1.cell? ⟨w.heap.size, 0, none⟩ = some (.slice oa n cp) := Blk.cell hS 0
  have x1 : w1.cell? ⟨w.heap.size, 1, none⟩ = some (.int .u32 (last : Int)) := Blk.cell hS 1
  have s0 : w1.cell? ⟨w.heap.size + 1, 0, none⟩ = some (.slice none 0 0) := Blk.cell hX 0
  have z0 : w1.frozen? ⟨w.heap.size + 1, 0, none⟩ = false := Blk.free hX 0
  have s1 : w1.cell? ⟨w.heap.size + 1, 1, none⟩ = some (.int .u32 0) := Blk.cell hX 1
  have z1 : w1.frozen? ⟨w.heap.size + 1, 1, none⟩ = false := Blk.free hX 1
  have s2 : w1.cell? ⟨w.heap.size + 1, 2, none⟩ = some (.int .i64 0) := Blk.cell hX 2
  have z2 : w1.frozen? ⟨w.heap.size + 1, 2, none⟩ = false := Blk.free hX 2
  have a0 : (w1.setCell ⟨w.heap.size + 1, 0, none⟩ (.slice none 0 0)).cell? ⟨w.heap.size + 1, 0, none⟩ = some (.slice none 0 0) := Blk.cell (Blk.set hX 0 _) 0
  have a1 : ((w1.setCell ⟨w.heap.size + 1, 0, none⟩ (.slice none 0 0)).setCell ⟨w.heap.size + 1, 1, none⟩ (.int .u32 0)).cell? ⟨w.heap.size + 1, 1, none⟩ = some (.int .u32 0) := Blk.cell (Blk.set (Blk.set hX 0 _) 1 _) 1
  have a2 : (((w1.setCell ⟨w.heap.size + 1, 0, none⟩ (.slice none 0 0)).setCell ⟨w.heap.size + 1, 1, none⟩ (.int .u32 0)).setCell ⟨w.heap.size + 1, 2, none⟩ (.int .i64 0)).cell? ⟨w.heap.size + 1, 2, none⟩ = some (.int .i64 0) := Blk.cell (Blk.set (Blk.set (Blk.set hX 0 _) 1 _) 2 _) 2
  have A0 := Lib.hid a0
  have A1 := Lib.hid a1
  have A2 := Lib.hid a2
  clear a0 a1 a2
  have HO := Lib.hid hO
  clear hX hb hO hS
  go_wp2_with fail
  refine bodyPost_ret (v := .tuple #[.agg #[.slice none 0 0, .int .u32 0, .int .i64 0], .iface 146 (.int .i64 5)]) ?_ rfl ⟨rfl, ?_⟩
  · simp [results, Tryd.results47, go_sem, A0.out, A1.out, A2.out]
  · exact (((HO.out).setCell (by simp) _).setCell (by simp) _).setCell (by simp) _
set_option maxRecDepth 100000 in
set_option maxHeartbeats 1000000 in
theorem delete_gone (oa : Option Addr) (n cp last : Nat) (max : Int) (V : Nat → Ver) (w : World) (hn : n ≤ maxLen) (hl : last < 4294967296) (hV : Vers w oa n V)  (q : Nat) (i : Nat) (h : SecOk n last max V) (hi : i < n) (he : (V i).n = seek last q) (hst : (V i).st = 2) :
    Calls Tryd.prog 47 #[.agg #[.slice oa n cp, .int .u32 (last : Int), .int .i64 max], .int .u32 (q : Int)] w fun e w' => e = .returned (.tuple #[.agg #[.slice none 0 0, .int .u32 0, .int .i64 0], .iface 146 (.int .i64 21)]) ∧ Below w.heap.size w w' := by
  have HV := Lib.hid (hV.later (((Below.refl _ _).alloc (Nat.le_refl _) _).alloc (by simp) _ : Below w.heap.size w ((w.alloc (.cells #[.slice oa n cp, .int .u32 (last : Int), .int .i64 max] 79)).alloc (.cells #[.slice none 0 0, .int .u32 0, .int .i64 0] 79))))
  have HF := Lib.hid fun w2 (hV2 : Vers w2 oa n V) => turned_gone oa n cp last max V w2 hn hl hV2 q 1 i h hi he hst
  clear hV hn  h hi he hst
  go_enter Tryd.func47, Tryd.ntmps47
  go_wp2_with fail
  refine (HF.out _ HV.out).mono ?_
  rintro e w1 ⟨rfl, hb⟩
  have hX : Blk w1 (w.heap.size + 1) #[.slice none 0 0, .int .u32 0, .int .i64 0] 79 := Blk.below (blk2' _ _ _ _ _) hb (by simp)
  have hS : Blk w1 w.heap.size #[.slice oa n cp, .int .u32 (last : Int), .int .i64 max] 79 := Blk.below (blk2 _ _ _ _ _) hb (by simp; omega)
  have hO : Below w.heap.size w w1 := (((Below.refl _ _).alloc (Nat.le_refl _) _).alloc (by simp) _).trans (hb.mono (by simp; omega))
  have x0 : w1.cell? ⟨w.heap.size, 0, none⟩ = some (.slice oa n cp) := Blk.cell hS 0
  have x1 : w1.cell? ⟨w.heap.size, 1, none⟩ = some (.int .u32 (last : Int)) := Blk.cell hS 1
  have s0 : w1.cell? ⟨w.heap.size + 1, 0, none⟩ = some (.slice none 0 0) := Blk.cell hX 0
  have z0 : w1.frozen? ⟨w.heap.size + 1, 0, none⟩ = false := Blk.free hX 0
  have s1 : w1.cell? ⟨w.heap.size + 1, 1, none⟩ = some (.int .u32 0) := Blk.cell hX 1
  have z1 : w1.frozen? ⟨w.heap.size + 1, 1, none⟩ = false := Blk.free hX 1
  have s2 : w1.cell? ⟨w.heap.size + 1, 2, none⟩ = some (.int .i64 0) := Blk.cell hX 2
  have z2 : w1.frozen? ⟨w.heap.size + 1, 2, none⟩ = false := Blk.free hX 2
  have a0 : (w1.setCell ⟨w.heap.size + 1, 0, none⟩ (.slice none 0 0)).cell? ⟨w.heap.size + 1, 0, none⟩ = some (.slice none 0 0) := Blk.cell (Blk.set hX 0 _) 0
  have a1 : ((w1.setCell ⟨w.heap.size + 1, 0, none⟩ (.slice none 0 0)).setCell ⟨w.heap.size + 1, 1, none⟩ (.int .u32 0)).cell? ⟨w.heap.size + 1, 1, none⟩ = some (.int .u32 0) := Blk.cell (Blk.set (Blk.set hX 0 _) 1 _) 1
  have a2 : (((w1.setCell ⟨w.heap.size + 1, 0, none⟩ (.slice none 0 0)).setCell ⟨w.heap.size + 1, 1, none⟩ (.int .u32 0)).setCell ⟨w.heap.size + 1, 2, none⟩ (.int .i64 0)).cell? ⟨w.heap.size + 1, 2, none⟩ = some (.int .i64 0) := Blk.cell (Blk.set (Blk.set (Blk.set hX 0 _) 1 _) 2 _) 2
  have A0 := Lib.hid a0
  have A1 := Lib.hid a1
  have A2 := Lib.hid a2
  clear a0 a1 a2
  have HO := Lib.hid hO
  clear hX hb hO hS
  go_wp2_with fail
  refine bodyPost_ret (v := .tuple #[.agg #[.slice none 0 0, .int .u32 0, .int .i64 0], .iface 146 (.int .i64 21)]) ?_ rfl ⟨rfl, ?_⟩
  · simp [results, Tryd.results47, go_sem, A0.out, A1.out, A2.out]
  · exact (((HO.out).setCell (by simp) _).setCell (by simp) _).setCell (by simp) _
set_option maxRecDepth 100000 in
set_option maxHeartbeats 1000000 in
theorem undelete_bad (oa : Option Addr) (n cp last : Nat) (max : Int) (V : Nat → Ver) (w : World) (hn : n ≤ maxLen) (hl : last < 4294967296) (hV : Vers w oa n V)  (q : Nat) (h : ¬ SecOk n last max V) :
    Calls Tryd.prog 49 #[.agg #[.slice oa n cp, .int .u32 (last : Int), .int .i64 max], .int .u32 (q : Int)] w fun e w' => e = .returned (.tuple #[.agg #[.slice none 0 0, .int .u32 0, .int .i64 0], .iface 146 (.int .i64 1)]) ∧ Below w.heap.size w w' := by
  have HV := Lib.hid (hV.later (((Below.refl _ _).alloc (Nat.le_refl _) _).alloc (by simp) _ : Below w.heap.size w ((w.alloc (.cells #[.slice oa n cp, .int .u32 (last : Int), .int .i64 max] 79)).alloc (.cells #[.slice none 0 0, .int .u32 0, .int .i64 0] 79))))
  have HF := Lib.hid fun w2 (hV2 : Vers w2 oa n V) => turned_bad oa n cp last max V w2 hn hl hV2 q 0 h
  clear hV hn  h
  go_enter Tryd.func49, Tryd.ntmps49
  go_wp2_with fail
  refine (HF.out _ HV.out).mono ?_
  rintro e w1 ⟨rfl, hb⟩
  have hX : Blk w1 (w.heap.size + 1) #[.slice none 0 0, .int .u32 0, .int .i64 0] 79 := Blk.below (blk2' _ _ _ _ _) hb (by simp)
  have hS : Blk w1 w.heap.size #[.slice oa n cp, .int .u32 (last : Int), .int .i64 max] 79 := Blk.below (blk2 _ _ _ _ _) hb (by simp; omega)
  have hO : Below w.heap.size w w1 := (((Below.refl _ _).alloc (Nat.le_refl _) _).alloc (by simp) _).trans (hb.mono (by simp; omega))
  have x0 : w1.cell? ⟨w.heap.size, 0, none⟩ = some (.slice oa n cp) := Blk.cell hS 0
  have x1 : w1.cell? ⟨w.heap.size, 1, none⟩ = some (.int .u32 (last : Int)) := Blk.cell hS 1
  have s0 : w1.cell? ⟨w.heap.size + 1, 0, none⟩ = some (.slice none 0 0) := Blk.cell hX 0
  have z0 : w1.frozen? ⟨w.heap.size + 1, 0, none⟩ = false := Blk.free hX 0
  have s1 : w1.cell? ⟨w.heap.size + 1, 1, none⟩ = some (.int .u32 0) := Blk.cell hX 1
  have z1 : w1.frozen? ⟨w.heap.size + 1, 1, none⟩ = false := Blk.free hX 1
  have s2 : w1.cell? ⟨w.heap.size + 1, 2, none⟩ = some (.int .i64 0) := Blk.cell hX 2
  have z2 : w1.frozen? ⟨w.heap.size + 1, 2, none⟩ = false := Blk.free hX 2
  have a0 : (w1.setCell ⟨w.heap.size + 1, 0, none⟩ (.slice none 0 0)).cell? ⟨w.heap.size + 1, 0, none⟩ = some (.slice none 0 0) := Blk.cell (Blk.set hX 0 _) 0
  have a1 : ((w1.setCell ⟨w.heap.size + 1, 0, none⟩ (.slice none 0 0)).setCell ⟨w.heap.size + 1, 1, none⟩ (.int .u32 0)).cell? ⟨w.heap.size + 1, 1, none⟩ = some (.int .u32 0) := Blk.cell (Blk.set (Blk.set hX 0 _) 1 _) 1
  have a2 : (((w1.setCell ⟨w.heap.size + 1, 0, none⟩ (.slice none 0 0)).setCell ⟨w.heap.size + 1, 1, none⟩ (.int .u32 0)).setCell ⟨w.heap.size + 1, 2, none⟩ (.int .i64 0)).cell? ⟨w.heap.size + 1, 2, none⟩ = some (.int .i64 0) := Blk.cell (Blk.set (Blk.set (Blk.set hX 0 _) 1 _) 2 _) 2
  have A0 := Lib.hid a0
  have A1 := Lib.hid a1
  have A2 := Lib.hid a2
  clear a0 a1 a2
  have HO := Lib.hid hO
  clear hX hb hO hS
  go_wp2_with fail
  refine bodyPost_ret (v := .tuple #[.agg #[.slice none 0 0, .int .u32 0, .int .i64 0], .iface 146 (.int .i64 1)]) ?_ rfl ⟨rfl, ?_⟩
  · simp [results, Tryd.results49, go_sem, A0.out, A1.out, A2.out]
  · exact (((HO.out).setCell (by simp) _).setCell (by simp) _).setCell (by simp) _
set_option maxRecDepth 100000 in
set_option maxHeartbeats 1000000 in
theorem undelete_miss (oa : Option Addr) (n cp last : Nat) (max : Int) (V : Nat → Ver) (w : World) (hn : n ≤ maxLen) (hl : last < 4294967296) (hV : Vers w oa n V)  (q : Nat) (h : SecOk n last max V) (hno : ∀ i, i < n → (V i).n ≠ seek last q) :
    Calls Tryd.prog 49 #[.agg #[.slice oa n cp, .int .u32 (last : Int), .int .i64 max], .int .u32 (q : Int)] w fun e w' => e = .returned (.tuple #[.agg #[.slice none 0 0, .int .u32 0, .int .i64 0], .iface 146 (.int .i64 5)]) ∧ Below w.heap.size w w' := by
  have HV := Lib.hid (hV.later (((Below.refl _ _).alloc (Nat.le_refl _) _).alloc (by simp) _ : Below w.heap.size w ((w.alloc (.cells #[.slice oa n cp, .int .u32 (last : Int), .int .i64 max] 79)).alloc (.cells #[.slice none 0 0, .int .u32 0, .int .i64 0] 79))))
  have HF := Lib.hid fun w2 (hV2 : Vers w2 oa n V) => turned_miss oa n cp last max V w2 hn hl hV2 q 0 h hno
  clear hV hn  h hno
  go_enter Tryd.func49, Tryd.ntmps49
  go_wp2_with fail
  refine (HF.out _ HV.out).mono ?_
  rintro e w1 ⟨rfl, hb⟩
  have hX : Blk w1 (w.heap.size + 1) #[.slice none 0 0, .int .u32 0, .int .i64 0] 79 := Blk.below (blk2' _ _ _ _ _) hb (by simp)
  have hS : Blk w1 w.heap.size #[.slice oa n cp, .int .u32 (last : Int), .int .i64 max] 79 := Blk.below (blk2 _ _ _ _ _) hb (by simp; omega)
  have hO : Below w.heap.size w w1 := (((Below.refl _ _).alloc (Nat.le_refl _) _).alloc (by simp) _).trans (hb.mono (by simp; omega))
  have x0 : w1.cell? ⟨w.heap.size, 0, none⟩ = some (.slice oa n cp) := Blk.cell hS 0
  have x1 : w1.cell? ⟨w.heap.size, 1, none⟩ = some (.int .u32 (last : Int)) := Blk.cell hS 1
  have s0 : w1.cell? ⟨w.heap.size + 1, 0, none⟩ = some (.slice none 0 0) := Blk.cell hX 0
  have z0 : w1.frozen? ⟨w.heap.size + 1, 0, none⟩ = false := Blk.free hX 0
  have s1 : w1.cell? ⟨w.heap.size + 1, 1, none⟩ = some (.int .u32 0) := Blk.cell hX 1
  have z1 : w1.frozen? ⟨w.heap.size + 1, 1, none⟩ = false := Blk.free hX 1
  have s2 : w1.cell? ⟨w.heap.size + 1, 2, none⟩ = some (.int .i64 0) := Blk.cell hX 2
  have z2 : w1.frozen? ⟨w.heap.size + 1, 2, none⟩ = false := Blk.free hX 2
  have a0 : (w1.setCell ⟨w.heap.size + 1, 0, none⟩ (.slice none 0 0)).cell? ⟨w.heap.size + 1, 0, none⟩ = some (.slice none 0 0) := Blk.cell (Blk.set hX 0 _) 0
  have a1 : ((w1.setCell ⟨w.heap.size + 1, 0, none⟩ (.slice none 0 0)).setCell ⟨w.heap.size + 1, 1, none⟩ (.int .u32 0)).cell? ⟨w.heap.size + 1, 1, none⟩ = some (.int .u32 0) := Blk.cell (Blk.set (Blk.set hX 0 _) 1 _) 1
  have a2 : (((w1.setCell ⟨w.heap.size + 1, 0, none⟩ (.slice none 0 0)).setCell ⟨w.heap.size + 1, 1, none⟩ (.int .u32 0)).setCell ⟨w.heap.size + 1, 2, none⟩ (.int .i64 0)).cell? ⟨w.heap.size + 1, 2, none⟩ = some (.int .i64 0) := Blk.cell (Blk.set (Blk.set (Blk.set hX 0 _) 1 _) 2 _) 2
  have A0 := Lib.hid a0
  have A1 := Lib.hid a1
  have A2 := Lib.hid a2
  clear a0 a1 a2
  have HO := Lib.hid hO
  clear hX hb hO hS
  go_wp2_with fail
  refine bodyPost_ret (v := .tuple #[.agg #[.slice none 0 0, .int .u32 0, .int .i64 0], .iface 146 (.int .i64 5)]) ?_ rfl ⟨rfl, ?_⟩
  · simp [results, Tryd.results49, go_sem, A0.out, A1.out, A2.out]
  · exact (((HO.out).setCell (by simp) _).setCell (by simp) _).setCell (by simp) _
set_option maxRecDepth 100000 in
set_option maxHeartbeats 1000000 in
theorem undelete_gone (oa : Option Addr) (n cp last : Nat) (max : Int) (V : Nat → Ver) (w : World) (hn : n ≤ maxLen) (hl : last < 4294967296) (hV : Vers w oa n V)  (q : Nat) (i : Nat) (h : SecOk n last max V) (hi : i < n) (he : (V i).n = seek last q) (hst : (V i).st = 2) :
    Calls Tryd.prog 49 #[.agg #[.slice oa n cp, .int .u32 (last : Int), .int .i64 max], .int .u32 (q : Int)] w fun e w' => e = .returned (.tuple #[.agg #[.slice none 0 0, .int .u32 0, .int .i64 0], .iface 146 (.int .i64 21)]) ∧ Below w.heap.size w w' := by
  have HV := Lib.hid (hV.later (((Below.refl _ _).alloc (Nat.le_refl _) _).alloc (by simp) _ : Below w.heap.size w ((w.alloc (.cells #[.slice oa n cp, .int .u32 (last : Int), .int .i64 max] 79)).alloc (.cells #[.slice none 0 0, .int .u32 0, .int .i64 0] 79))))
  have HF := Lib.hid fun w2 (hV2 : Vers w2 oa n V) => turned_gone oa n cp last max V w2 hn hl hV2 q 0 i h hi he hst
  clear hV hn  h hi he hst
  go_enter Tryd.func49, Tryd.ntmps49
  go_wp2_with fail
  refine (HF.out _ HV.out).mono ?_
  rintro e w1 ⟨rfl, hb⟩
  have hX : Blk w1 (w.heap.size + 1) #[.slice none 0 0, .int .u32 0, .int .i64 0] 79 := Blk.below (blk2' _ _ _ _ _) hb (by simp)
  have hS : Blk w1 w.heap.size #[.slice oa n cp, .int .u32 (last : Int), .int .i64 max] 79 := Blk.below (blk2 _ _ _ _ _) hb (by simp; omega)
  have hO : Below w.heap.size w w1 := (((Below.refl _ _).alloc (Nat.le_refl _) _).alloc (by simp) _).trans (hb.mono (by simp; omega))
  have x0 : w1.cell? ⟨w.heap.size, 0, none⟩ = some (.slice oa n cp) := Blk.cell hS 0
  have x1 : w1.cell? ⟨w.heap.size, 1, none⟩ = some (.int .u32 (last : Int)) := Blk.cell hS 1
  have s0 : w1.cell? ⟨w.heap.size + 1, 0, none⟩ = some (.slice none 0 0) := Blk.cell hX 0
  have z0 : w1.frozen? ⟨w.heap.size + 1, 0, none⟩ = false := Blk.free hX 0
  have s1 : w1.cell? ⟨w.heap.size + 1, 1, none⟩ = some (.int .u32 0) := Blk.cell hX 1
  have z1 : w1.frozen? ⟨w.heap.size + 1, 1, none⟩ = false := Blk.free hX 1
  have s2 : w1.cell? ⟨w.heap.size + 1, 2, none⟩ = some (.int .i64 0) := Blk.cell hX 2
  have z2 : w1.frozen? ⟨w.heap.size + 1, 2, none⟩ = false := Blk.free hX 2
  have a0 : (w1.setCell ⟨w.heap.size + 1, 0, none⟩ (.slice none 0 0)).cell? ⟨w.heap.size + 1, 0, none⟩ = some (.slice none 0 0) := Blk.cell (Blk.set hX 0 _) 0
  have a1 : ((w1.setCell ⟨w.heap.size + 1, 0, none⟩ (.slice none 0 0)).setCell ⟨w.heap.size + 1, 1, none⟩ (.int .u32 0)).cell? ⟨w.heap.size + 1, 1, none⟩ = some (.int .u32 0) := Blk.cell (Blk.set (Blk.set hX 0 _) 1 _) 1
  have a2 : (((w1.setCell ⟨w.heap.size + 1, 0, none⟩ (.slice none 0 0)).setCell ⟨w.heap.size + 1, 1, none⟩ (.int .u32 0)).setCell ⟨w.heap.size + 1, 2, none⟩ (.int .i64 0)).cell? ⟨w.heap.size + 1, 2, none⟩ = some (.int .i64 0) := Blk.cell (Blk.set (Blk.set (Blk.set hX 0 _) 1 _) 2 _) 2
  have A0 := Lib.hid a0
  have A1 := Lib.hid a1
  have A2 := Lib.hid a2
  clear a0 a1 a2
  have HO := Lib.hid hO
  clear hX hb hO hS
  go_wp2_with fail
  refine bodyPost_ret (v := .tuple #[.agg #[.slice none 0 0, .int .u32 0, .int .i64 0], .iface 146 (.int .i64 21)]) ?_ rfl ⟨rfl, ?_⟩
  · simp [results, Tryd.results49, go_sem, A0.out, A1.out, A2.out]
  · exact (((HO.out).setCell (by simp) _).setCell (by simp) _).setCell (by simp) _
set_option maxRecDepth 100000 in
set_option maxHeartbeats 1000000 in
theorem destroy_bad (oa : Option Addr) (n cp last : Nat) (max : Int) (V : Nat → Ver) (w : World) (hn : n ≤ maxLen) (hl : last < 4294967296) (hV : Vers w oa n V)  (q : Nat) (h : ¬ SecOk n last max V) :
    Calls Tryd.prog 50 #[.agg #[.slice oa n cp, .int .u32 (last : Int), .int .i64 max], .int .u32 (q : Int)] w fun e w' => e = .returned (.tuple #[.agg #[.slice none 0 0, .int .u32 0, .int .i64 0], .iface 146 (.int .i64 1)]) ∧ Below w.heap.size w w' := by
  have HV := Lib.hid (hV.later (((Below.refl _ _).alloc (Nat.le_refl _) _).alloc (by simp) _ : Below w.heap.size w ((w.alloc (.cells #[.slice oa n cp, .int .u32 (last : Int), .int .i64 max] 79)).alloc (.cells #[.slice none 0 0, .int .u32 0, .int .i64 0] 79))))
  have HF := Lib.hid fun w2 (hV2 : Vers w2 oa n V) => find_bad oa n cp last max V w2 hn hl hV2 q h
  clear hV hn  h
  go_enter Tryd.func50, Tryd.ntmps50
  go_wp2_with fail
  refine (HF.out _ HV.out).mono ?_
  rintro e w1 ⟨rfl, hb⟩
  have hX : Blk w1 (w.heap.size + 1) #[.slice none 0 0, .int .u32 0, .int .i64 0] 79 := Blk.below (blk2' _ _ _ _ _) hb (by simp)
  have hS : Blk w1 w.heap.size #[.slice oa n cp, .int .u32 (last : Int), .int .i64 max] 79 := Blk.below (blk2 _ _ _ _ _) hb (by simp; omega)
  have hO : Below w.heap.size w w1 := (((Below.refl _ _).alloc (Nat.le_refl _) _).alloc (by simp) _).trans (hb.mono (by simp; omega))
  have x0 : w1.cell? ⟨w.heap.size, 0, none⟩ = some (.slice oa n cp) := Blk.cell hS 0
  have x1 : w1.cell? ⟨w.heap.size, 1, none⟩ = some (.int .u32 (last : Int)) := Blk.cell hS 1
  have s0 : w1.cell? ⟨w.heap.size + 1, 0, none⟩ = some (.slice none 0 0) := Blk.cell hX 0
  have z0 : w1.frozen? ⟨w.heap.size + 1, 0, none⟩ = false := Blk.free hX 0
  have s1 : w1.cell? ⟨w.heap.size + 1, 1, none⟩ = some (.int .u32 0) := Blk.cell hX 1
  have z1 : w1.frozen? ⟨w.heap.size + 1, 1, none⟩ = false := Blk.free hX 1
  have s2 : w1.cell? ⟨w.heap.size + 1, 2, none⟩ = some (.int .i64 0) := Blk.cell hX 2
  have z2 : w1.frozen? ⟨w.heap.size + 1, 2, none⟩ = false := Blk.free hX 2
  have a0 : (w1.setCell ⟨w.heap.size + 1, 0, none⟩ (.slice none 0 0)).cell? ⟨w.heap.size + 1, 0, none⟩ = some (.slice none 0 0) := Blk.cell (Blk.set hX 0 _) 0
  have a1 : ((w1.setCell ⟨w.heap.size + 1, 0, none⟩ (.slice none 0 0)).setCell ⟨w.heap.size + 1, 1, none⟩ (.int .u32 0)).cell? ⟨w.heap.size + 1, 1, none⟩ = some (.int .u32 0) := Blk.cell (Blk.set (Blk.set hX 0 _) 1 _) 1
  have a2 : (((w1.setCell ⟨w.heap.size + 1, 0, none⟩ (.slice none 0 0)).setCell ⟨w.heap.size + 1, 1, none⟩ (.int .u32 0)).setCell ⟨w.heap.size + 1, 2, none⟩ (.int .i64 0)).cell? ⟨w.heap.size + 1, 2, none⟩ = some (.int .i64 0) := Blk.cell (Blk.set (Blk.set (Blk.set hX 0 _) 1 _) 2 _) 2
  have A0 := Lib.hid a0
  have A1 := Lib.hid a1
  have A2 := Lib.hid a2
  clear a0 a1 a2
  have HO := Lib.hid hO
  clear hX hb hO hS
  go_wp2_with fail
  refine bodyPost_ret (v := .tuple #[.agg #[.slice none 0 0, .int .u32 0, .int .i64 0], .iface 146 (.int .i64 1)]) ?_ rfl ⟨rfl, ?_⟩
  · simp [results, Tryd.results50, go_sem, A0.out, A1.out, A2.out]
  · exact (((HO.out).setCell (by simp) _).setCell (by simp) _).setCell (by simp) _
set_option maxRecDepth 100000 in
set_option maxHeartbeats 1000000 in
theorem destroy_miss (oa : Option Addr) (n cp last : Nat) (max : Int) (V : Nat → Ver) (w : World) (hn : n ≤ maxLen) (hl : last < 4294967296) (hV : Vers w oa n V)  (q : Nat) (h : SecOk n last max V) (hno : ∀ i, i < n → (V i).n ≠ seek last q) :
    Calls Tryd.prog 50 #[.agg #[.slice oa n cp, .int .u32 (last : Int), .int .i64 max], .int .u32 (q : Int)] w fun e w' => e = .returned (.tuple #[.agg #[.slice none 0 0, .int .u32 0, .int .i64 0], .iface 146 (.int .i64 5)]) ∧ Below w.heap.size w w' := by
  have HV := Lib.hid (hV.later (((Below.refl _ _).alloc (Nat.le_refl _) _).alloc (by simp) _ : Below w.heap.size w ((w.alloc (.cells #[.slice oa n cp, .int .u32 (last : Int), .int .i64 max] 79)).alloc (.cells #[.slice none 0 0, .int .u32 0, .int .i64 0] 79))))
  have HF := Lib.hid fun w2 (hV2 : Vers w2 oa n V) => find_miss oa n cp last max V w2 hn hl hV2 q h hno
  clear hV hn  h hno
  go_enter Tryd.func50, Tryd.ntmps50
  go_wp2_with fail
  refine (HF.out _ HV.out).mono ?_
  rintro e w1 ⟨rfl, hb⟩
  have hX : Blk w1 (w.heap.size + 1) #[.slice none 0 0, .int .u32 0, .int .i64 0] 79 := Blk.below (blk2' _ _ _ _ _) hb (by simp)
  have hS : Blk w1 w.heap.size #[.slice oa n cp, .int .u32 (last : Int), .int .i64 max] 79 := Blk.below (blk2 _ _ _ _ _) hb (by simp; omega)
  have hO : Below w.heap.size w w1 := (((Below.refl _ _).alloc (Nat.le_refl _) _).alloc (by simp) _).trans (hb.mono (by simp; omega))
  have x0 : w1.cell? ⟨w.heap.size, 0, none⟩ = some (.slice oa n cp) := Blk.cell hS 0
  have x1 : w1.cell? ⟨w.heap.size, 1, none⟩ = some (.int .u32 (last : Int)) := Blk.cell hS 1
  have s0 : w1.cell? ⟨w.heap.size + 1, 0, none⟩ = some (.slice none 0 0) := Blk.cell hX 0
  have z0 : w1.frozen? ⟨w.heap.size + 1, 0, none⟩ = false := Blk.free hX 0
  have s1 : w1.cell? ⟨w.heap.size + 1, 1, none⟩ = some (.int .u32 0) := Blk.cell hX 1
  have z1 : w1.frozen? ⟨w.heap.size + 1, 1, none⟩ = false := Blk.free hX 1
  have s2 : w1.cell? ⟨w.heap.size + 1, 2, none⟩ = some (.int .i64 0) := Blk.cell hX 2
  have z2 : w1.frozen? ⟨w.heap.size + 1, 2, none⟩ = false := Blk.free hX 2
  have a0 : (w1.setCell ⟨w.heap.size + 1, 0, none⟩ (.slice none 0 0)).cell? ⟨w.heap.size + 1, 0, none⟩ = some (.slice none 0 0) := Blk.cell (Blk.set hX 0 _) 0
  have a1 : ((w1.setCell ⟨w.heap.size + 1, 0, none⟩ (.slice none 0 0)).setCell ⟨w.heap.size + 1, 1, none⟩ (.int .u32 0)).cell? ⟨w.heap.size + 1, 1, none⟩ = some (.int .u32 0) := Blk.cell (Blk.set (Blk.set hX 0 _) 1 _) 1
  have a2 : (((w1.setCell ⟨w.heap.size + 1, 0, none⟩ (.slice none 0 0)).setCell ⟨w.heap.size + 1, 1, none⟩ (.int .u32 0)).setCell ⟨w.heap.size + 1, 2, none⟩ (.int .i64 0)).cell? ⟨w.heap.size + 1, 2, none⟩ = some (.int .i64 0) := Blk.cell (Blk.set (Blk.set (Blk.set hX 0 _) 1 _) 2 _) 2
  have A0 := Lib.hid a0
  have A1 := Lib.hid a1
  have A2 := Lib.hid a2
  clear a0 a1 a2
  have HO := Lib.hid hO
  clear hX hb hO hS
  go_wp2_with fail
  refine bodyPost_ret (v := .tuple #[.agg #[.slice none 0 0, .int .u32 0, .int .i64 0], .iface 146 (.int .i64 5)]) ?_ rfl ⟨rfl, ?_⟩
  · simp [results, Tryd.results50, go_sem, A0.out, A1.out, A2.out]
  · exact (((HO.out).setCell (by simp) _).setCell (by simp) _).setCell (by simp) _
set_option maxRecDepth 100000 in
set_option maxHeartbeats 1000000 in
theorem rset_bad0 (oa : Option Addr) (n cp last : Nat) (max : Int) (V : Nat → Ver) (w : World) (hn : n ≤ maxLen) (hl : last < 4294967296) (hV : Vers w oa n V) (hm : ∀ i, i < n → (V i).n < 4294967296) (q : Nat) (h : ¬ SecOk n last max V) :
    Calls Tryd.prog 48 #[.agg #[.slice oa n cp, .int .u32 (last : Int), .int .i64 max], .int .u32 (q : Int), .int .i64 0] w fun e w' => e = .returned (.tuple #[.agg #[.slice none 0 0, .int .u32 0, .int .i64 0], .int .i64 1]) ∧ Below w.heap.size w w' := by
  have HV := Lib.hid (hV.later (((Below.refl _ _).alloc (Nat.le_refl _) _).alloc (by simp) _ : Below w.heap.size w ((w.alloc (.cells #[.slice oa n cp, .int .u32 (last : Int), .int .i64 max] 73)).alloc (.cells #[.slice none 0 0, .int .u32 0, .int .i64 0] 73))))
  have HF := Lib.hid fun w2 (hV2 : Vers w2 oa n V) => rat_bad oa n cp last max V w2 hn hl hV2 hm q h
  clear hV hn hm h
  go_enter Tryd.func48, Tryd.ntmps48
  go_wp2_with fail
  refine (HF.out _ HV.out).mono ?_
  rintro e w1 ⟨rfl, hb⟩
  have hX : Blk w1 (w.heap.size + 1) #[.slice none 0 0, .int .u32 0, .int .i64 0] 73 := Blk.below (blk2' _ _ _ _ _) hb (by simp)
  have hS : Blk w1 w.heap.size #[.slice oa n cp, .int .u32 (last : Int), .int .i64 max] 73 := Blk.below (blk2 _ _ _ _ _) hb (by simp; omega)
  have hO : Below w.heap.size w w1 := (((Below.refl _ _).alloc (Nat.le_refl _) _).alloc (by simp) _).trans (hb.mono (by simp; omega))
  have x0 : w1.cell? ⟨w.heap.size, 0, none⟩ = some (.slice oa n cp) := Blk.cell hS 0
  have x1 : w1.cell? ⟨w.heap.size, 1, none⟩ = some (.int .u32 (last : Int)) := Blk.cell hS 1
  have s0 : w1.cell? ⟨w.heap.size + 1, 0, none⟩ = some (.slice none 0 0) := Blk.cell hX 0
  have z0 : w1.frozen? ⟨w.heap.size + 1, 0, none⟩ = false := Blk.free hX 0
  have s1 : w1.cell? ⟨w.heap.size + 1, 1, none⟩ = some (.int .u32 0) := Blk.cell hX 1
  have z1 : w1.frozen? ⟨w.heap.size + 1, 1, none⟩ = false := Blk.free hX 1
  have s2 : w1.cell? ⟨w.heap.size + 1, 2, none⟩ = some (.int .i64 0) := Blk.cell hX 2
  have z2 : w1.frozen? ⟨w.heap.size + 1, 2, none⟩ = false := Blk.free hX 2
  have a0 : (w1.setCell ⟨w.heap.size + 1, 0, none⟩ (.slice none 0 0)).cell? ⟨w.heap.size + 1, 0, none⟩ = some (.slice none 0 0) := Blk.cell (Blk.set hX 0 _) 0
  have a1 : ((w1.setCell ⟨w.heap.size + 1, 0, none⟩ (.slice none 0 0)).setCell ⟨w.heap.size + 1, 1, none⟩ (.int .u32 0)).cell? ⟨w.heap.size + 1, 1, none⟩ = some (.int .u32 0) := Blk.cell (Blk.set (Blk.set hX 0 _) 1 _) 1
  have a2 : (((w1.setCell ⟨w.heap.size + 1, 0, none⟩ (.slice none 0 0)).setCell ⟨w.heap.size + 1, 1, none⟩ (.int .u32 0)).setCell ⟨w.heap.size + 1, 2, none⟩ (.int .i64 0)).cell? ⟨w.heap.size + 1, 2, none⟩ = some (.int .i64 0) := Blk.cell (Blk.set (Blk.set (Blk.set hX 0 _) 1 _) 2 _) 2
  have A0 := Lib.hid a0
  have A1 := Lib.hid a1
  have A2 := Lib.hid a2
  clear a0 a1 a2
  have HO := Lib.hid hO
  clear hX hb hO hS
  go_wp2_with fail
  refine bodyPost_ret (v := .tuple #[.agg #[.slice none 0 0, .int .u32 0, .int .i64 0], .int .i64 1]) ?_ rfl ⟨rfl, ?_⟩
  · simp [results, Tryd.results48, go_sem, A0.out, A1.out, A2.out]
  · exact (((HO.out).setCell (by simp) _).setCell (by simp) _).setCell (by simp) _
set_option maxRecDepth 100000 in
set_option maxHeartbeats 1000000 in
theorem rset_none0 (oa : Option Addr) (n cp last : Nat) (max : Int) (V : Nat → Ver) (w : World) (hn : n ≤ maxLen) (hl : last < 4294967296) (hV : Vers w oa n V) (hm : ∀ i, i < n → (V i).n < 4294967296) (q : Nat) (h : SecOk n last max V) (hno : ∀ i, i < n → (V i).n ≠ seek last q) :
    Calls Tryd.prog 48 #[.agg #[.slice oa n cp, .int .u32 (last : Int), .int .i64 max], .int .u32 (q : Int), .int .i64 0] w fun e w' => e = .returned (.tuple #[.agg #[.slice none 0 0, .int .u32 0, .int .i64 0], .int .i64 5]) ∧ Below w.heap.size w w' := by
  have HV := Lib.hid (hV.later (((Below.refl _ _).alloc (Nat.le_refl _) _).alloc (by simp) _ : Below w.heap.size w ((w.alloc (.cells #[.slice oa n cp, .int .u32 (last : Int), .int .i64 max] 73)).alloc (.cells #[.slice none 0 0, .int .u32 0, .int .i64 0] 73))))
  have HF := Lib.hid fun w2 (hV2 : Vers w2 oa n V) => rat_miss oa n cp last max V w2 hn hl hV2 hm q h hno
  clear hV hn hm h hno
  go_enter Tryd.func48, Tryd.ntmps48
  go_wp2_with fail
  refine (HF.out _ HV.out).mono ?_
  rintro e w1 ⟨rfl, hb⟩
  have hX : Blk w1 (w.heap.size + 1) #[.slice none 0 0, .int .u32 0, .int .i64 0] 73 := Blk.below (blk2' _ _ _ _ _) hb (by simp)
  have hS : Blk w1 w.heap.size #[.slice oa n cp, .int .u32 (last : Int), .int .i64 max] 73 := Blk.below (blk2 _ _ _ _ _) hb (by simp; omega)
  have hO : Below w.heap.size w w1 := (((Below.refl _ _).alloc (Nat.le_refl _) _).alloc (by simp) _).trans (hb.mono (by simp; omega))
  have x0 : w1.cell? ⟨w.heap.size, 0, none⟩ = some (.slice oa n cp) := Blk.cell hS 0
  have x1 : w1.cell? ⟨w.heap.size, 1, none⟩ = some (.int .u32 (last : Int)) := Blk.cell hS 1
  have s0 : w1.cell? ⟨w.heap.size + 1, 0, none⟩ = some (.slice none 0 0) := Blk.cell hX 0
  have z0 : w1.frozen? ⟨w.heap.size + 1, 0, none⟩ = false := Blk.free hX 0
  have s1 : w1.cell? ⟨w.heap.size + 1, 1, none⟩ = some (.int .u32 0) := Blk.cell hX 1
  have z1 : w1.frozen? ⟨w.heap.size + 1, 1, none⟩ = false := Blk.free hX 1
  have s2 : w1.cell? ⟨w.heap.size + 1, 2, none⟩ = some (.int .i64 0) := Blk.cell hX 2
  have z2 : w1.frozen? ⟨w.heap.size + 1, 2, none⟩ = false := Blk.free hX 2
  have a0 : (w1.setCell ⟨w.heap.size + 1, 0, none⟩ (.slice none 0 0)).cell? ⟨w.heap.size + 1, 0, none⟩ = some (.slice none 0 0) := Blk.cell (Blk.set hX 0 _) 0
  have a1 : ((w1.setCell ⟨w.heap.size + 1, 0, none⟩ (.slice none 0 0)).setCell ⟨w.heap.size + 1, 1, none⟩ (.int .u32 0)).cell? ⟨w.heap.size + 1, 1, none⟩ = some (.int .u32 0) := Blk.cell (Blk.set (Blk.set hX 0 _) 1 _) 1
  have a2 : (((w1.setCell ⟨w.heap.size + 1, 0, none⟩ (.slice none 0 0)).setCell ⟨w.heap.size + 1, 1, none⟩ (.int .u32 0)).setCell ⟨w.heap.size + 1, 2, none⟩ (.int .i64 0)).cell? ⟨w.heap.size + 1, 2, none⟩ = some (.int .i64 0) := Blk.cell (Blk.set (Blk.set (Blk.set hX 0 _) 1 _) 2 _) 2
  have A0 := Lib.hid a0
  have A1 := Lib.hid a1
  have A2 := Lib.hid a2
  clear a0 a1 a2
  have HO := Lib.hid hO
  clear hX hb hO hS
  go_wp2_with fail
  refine bodyPost_ret (v := .tuple #[.agg #[.slice none 0 0, .int .u32 0, .int .i64 0], .int .i64 5]) ?_ rfl ⟨rfl, ?_⟩
  · simp [results, Tryd.results48, go_sem, A0.out, A1.out, A2.out]
  · exact (((HO.out).setCell (by simp) _).setCell (by simp) _).setCell (by simp) _
set_option maxRecDepth 100000 in
set_option maxHeartbeats 1000000 in
theorem rset_gone0 (oa : Option Addr) (n cp last : Nat) (max : Int) (V : Nat → Ver) (w : World) (hn : n ≤ maxLen) (hl : last < 4294967296) (hV : Vers w oa n V) (hm : ∀ i, i < n → (V i).n < 4294967296) (q : Nat) (i : Nat) (h : SecOk n last max V) (hi : i < n) (he : (V i).n = seek last q) (hst : (V i).st = 2) :
    Calls Tryd.prog 48 #[.agg #[.slice oa n cp, .int .u32 (last : Int), .int .i64 max], .int .u32 (q : Int), .int .i64 0] w fun e w' => e = .returned (.tuple #[.agg #[.slice none 0 0, .int .u32 0, .int .i64 0], .int .i64 21]) ∧ Below w.heap.size w w' := by
  have HV := Lib.hid (hV.later (((Below.refl _ _).alloc (Nat.le_refl _) _).alloc (by simp) _ : Below w.heap.size w ((w.alloc (.cells #[.slice oa n cp, .int .u32 (last : Int), .int .i64 max] 73)).alloc (.cells #[.slice none 0 0, .int .u32 0, .int .i64 0] 73))))
  have HF := Lib.hid fun w2 (hV2 : Vers w2 oa n V) => rat_hit oa n cp last max V w2 hn hl hV2 hm q i h hi he
  obtain ⟨b, off, od, cap, rfl, hB, hno, hlc, hcm, c0, c1, c2, c3⟩ := hV.get i hi
  have i0 : (0 : Int) ≤ (i : Int) := by omega
  have i1 : (i : Int) < (n : Int) := by omega
  rw [hst] at c3
  clear hV hn hm h he hi hst hB hno hlc hcm
  go_enter Tryd.func48, Tryd.ntmps48
  go_wp2_with fail
  refine (HF.out _ HV.out).mono ?_
  rintro e w1 ⟨rfl, hb⟩
  have hX : Blk w1 (w.heap.size + 1) #[.slice none 0 0, .int .u32 0, .int .i64 0] 73 := Blk.below (blk2' _ _ _ _ _) hb (by simp)
  have hS : Blk w1 w.heap.size #[.slice (some ⟨b, off, none⟩) n cp, .int .u32 (last : Int), .int .i64 max] 73 := Blk.below (blk2 _ _ _ _ _) hb (by simp; omega)
  have hO : Below w.heap.size w w1 := (((Below.refl _ _).alloc (Nat.le_refl _) _).alloc (by simp) _).trans (hb.mono (by simp; omega))
  have x0 : w1.cell? ⟨w.heap.size, 0, none⟩ = some (.slice (some ⟨b, off, none⟩) n cp) := Blk.cell hS 0
  have x1 : w1.cell? ⟨w.heap.size, 1, none⟩ = some (.int .u32 (last : Int)) := Blk.cell hS 1
  have d3 := cell_below hO c3
  clear c0 c1 c2 c3
  have s0 : w1.cell? ⟨w.heap.size + 1, 0, none⟩ = some (.slice none 0 0) := Blk.cell hX 0
  have z0 : w1.frozen? ⟨w.heap.size + 1, 0, none⟩ = false := Blk.free hX 0
  have s1 : w1.cell? ⟨w.heap.size + 1, 1, none⟩ = some (.int .u32 0) := Blk.cell hX 1
  have z1 : w1.frozen? ⟨w.heap.size + 1, 1, none⟩ = false := Blk.free hX 1
  have s2 : w1.cell? ⟨w.heap.size + 1, 2, none⟩ = some (.int .i64 0) := Blk.cell hX 2
  have z2 : w1.frozen? ⟨w.heap.size + 1, 2, none⟩ = false := Blk.free hX 2
  have a0 : (w1.setCell ⟨w.heap.size + 1, 0, none⟩ (.slice none 0 0)).cell? ⟨w.heap.size + 1, 0, none⟩ = some (.slice none 0 0) := Blk.cell (Blk.set hX 0 _) 0
  have a1 : ((w1.setCell ⟨w.heap.size + 1, 0, none⟩ (.slice none 0 0)).setCell ⟨w.heap.size + 1, 1, none⟩ (.int .u32 0)).cell? ⟨w.heap.size + 1, 1, none⟩ = some (.int .u32 0) := Blk.cell (Blk.set (Blk.set hX 0 _) 1 _) 1
  have a2 : (((w1.setCell ⟨w.heap.size + 1, 0, none⟩ (.slice none 0 0)).setCell ⟨w.heap.size + 1, 1, none⟩ (.int .u32 0)).setCell ⟨w.heap.size + 1, 2, none⟩ (.int .i64 0)).cell? ⟨w.heap.size + 1, 2, none⟩ = some (.int .i64 0) := Blk.cell (Blk.set (Blk.set (Blk.set hX 0 _) 1 _) 2 _) 2
  have A0 := Lib.hid a0
  have A1 := Lib.hid a1
  have A2 := Lib.hid a2
  clear a0 a1 a2
  have HO := Lib.hid hO
  clear hX hb hO hS
  go_wp2_with fail
  refine bodyPost_ret (v := .tuple #[.agg #[.slice none 0 0, .int .u32 0, .int .i64 0], .int .i64 21]) ?_ rfl ⟨rfl, ?_⟩
  · simp [results, Tryd.results48, go_sem, A0.out, A1.out, A2.out]
  · exact (((HO.out).setCell (by simp) _).setCell (by simp) _).setCell (by simp) _
set_option maxRecDepth 100000 in
set_option maxHeartbeats 1000000 in
theorem rset_bad1 (oa : Option Addr) (n cp last : Nat) (max : Int) (V : Nat → Ver) (w : World) (hn : n ≤ maxLen) (hl : last < 4294967296) (hV : Vers w oa n V) (hm : ∀ i, i < n → (V i).n < 4294967296) (q : Nat) (h : ¬ SecOk n last max V) :
    Calls Tryd.prog 48 #[.agg #[.slice oa n cp, .int .u32 (last : Int), .int .i64 max], .int .u32 (q : Int), .int .i64 1] w fun e w' => e = .returned (.tuple #[.agg #[.slice none 0 0, .int .u32 0, .int .i64 0], .int .i64 1]) ∧ Below w.heap.size w w' := by
  have HV := Lib.hid (hV.later (((Below.refl _ _).alloc (Nat.le_refl _) _).alloc (by simp) _ : Below w.heap.size w ((w.alloc (.cells #[.slice oa n cp, .int .u32 (last : Int), .int .i64 max] 73)).alloc (.cells #[.slice none 0 0, .int .u32 0, .int .i64 0] 73))))
  have HF := Lib.hid fun w2 (hV2 : Vers w2 oa n V) => rat_bad oa n cp last max V w2 hn hl hV2 hm q h
  clear hV hn hm h
  go_enter Tryd.func48, Tryd.ntmps48
  go_wp2_with fail
  refine (HF.out _ HV.out).mono ?_
  rintro e w1 ⟨rfl, hb⟩
  have hX : Blk w1 (w.heap.size + 1) #[.slice none 0 0, .int .u32 0, .int .i64 0] 73 := Blk.below (blk2' _ _ _ _ _) hb (by simp)
  have hS : Blk w1 w.heap.size #[.slice oa n cp, .int .u32 (last : Int), .int .i64 max] 73 := Blk.below (blk2 _ _ _ _ _) hb (by simp; omega)
  have hO : Below w.heap.size w w1 := (((Below.refl _ _).alloc (Nat.le_refl _) _).alloc (by simp) _).trans (hb.mono (by simp; omega))
  have x0 : w1.cell? ⟨w.heap.size, 0, none⟩ = some (.slice oa n cp) := Blk.cell hS 0
  have x1 : w1.cell? ⟨w.heap.size, 1, none⟩ = some (.int .u32 (last : Int)) := Blk.cell hS 1
  have s0 : w1.cell? ⟨w.heap.size + 1, 0, none⟩ = some (.slice none 0 0) := Blk.cell hX 0
  have z0 : w1.frozen? ⟨w.heap.size + 1, 0, none⟩ = false := Blk.free hX 0
  have s1 : w1.cell? ⟨w.heap.size + 1, 1, none⟩ = some (.int .u32 0) := Blk.cell hX 1
  have z1 : w1.frozen? ⟨w.heap.size + 1, 1, none⟩ = false := Blk.free hX 1
  have s2 : w1.cell? ⟨w.heap.size + 1, 2, none⟩ = some (.int .i64 0) := Blk.cell hX 2
  have z2 : w1.frozen? ⟨w.heap.size + 1, 2, none⟩ = false := Blk.free hX 2
  have a0 : (w1.setCell ⟨w.heap.size + 1, 0, none⟩ (.slice none 0 0)).cell? ⟨w.heap.size + 1, 0, none⟩ = some (.slice none 0 0) := Blk.cell (Blk.set hX 0 _) 0
  have a1 : ((w1.setCell ⟨w.heap.size + 1, 0, none⟩ (.slice none 0 0)).setCell ⟨w.heap.size + 1, 1, none⟩ (.int .u32 0)).cell? ⟨w.heap.size + 1, 1, none⟩ = some (.int .u32 0) := Blk.cell (Blk.set (Blk.set hX 0 _) 1 _) 1
  have a2 : (((w1.setCell ⟨w.heap.size + 1, 0, none⟩ (.slice none 0 0)).setCell ⟨w.heap.size + 1, 1, none⟩ (.int .u32 0)).setCell ⟨w.heap.size + 1, 2, none⟩ (.int .i64 0)).cell? ⟨w.heap.size + 1, 2, none⟩ = some (.int .i64 0) := Blk.cell (Blk.set (Blk.set (Blk.set hX 0 _) 1 _) 2 _) 2
  have A0 := Lib.hid a0
  have A1 := Lib.hid a1
  have A2 := Lib.hid a2
  clear a0 a1 a2
  have HO := Lib.hid hO
  clear hX hb hO hS
  go_wp2_with fail
  refine bodyPost_ret (v := .tuple #[.agg #[.slice none 0 0, .int .u32 0, .int .i64 0], .int .i64 1]) ?_ rfl ⟨rfl, ?_⟩
  · simp [results, Tryd.results48, go_sem, A0.out, A1.out, A2.out]
  · exact (((HO.out).setCell (by simp) _).setCell (by simp) _).setCell (by simp) _
set_option maxRecDepth 100000 in
set_option maxHeartbeats 1000000 in
theorem rset_none1 (oa : Option Addr) (n cp last : Nat) (max : Int) (V : Nat → Ver) (w : World) (hn : n ≤ maxLen) (hl : last < 4294967296) (hV : Vers w oa n V) (hm : ∀ i, i < n → (V i).n < 4294967296) (q : Nat) (h : SecOk n last max V) (hno : ∀ i, i < n → (V i).n ≠ seek last q) :
    Calls Tryd.prog 48 #[.agg #[.slice oa n cp, .int .u32 (last : Int), .int .i64 max], .int .u32 (q : Int), .int .i64 1] w fun e w' => e = .returned (.tuple #[.agg #[.slice none 0 0, .int .u32 0, .int .i64 0], .int .i64 5]) ∧ Below w.heap.size w w' := by
  have HV := Lib.hid (hV.later (((Below.refl _ _).alloc (Nat.le_refl _) _).alloc (by simp) _ : Below w.heap.size w ((w.alloc (.cells #[.slice oa n cp, .int .u32 (last : Int), .int .i64 max] 73)).alloc (.cells #[.slice none 0 0, .int .u32 0, .int .i64 0] 73))))
  have HF := Lib.hid fun w2 (hV2 : Vers w2 oa n V) => rat_miss oa n cp last max V w2 hn hl hV2 hm q h hno
  clear hV hn hm h hno
  go_enter Tryd.func48, Tryd.ntmps48
  go_wp2_with fail
  refine (HF.out _ HV.out).mono ?_
  rintro e w1 ⟨rfl, hb⟩
  have hX : Blk w1 (w.heap.size + 1) #[.slice none 0 0, .int .u32 0, .int .i64 0] 73 := Blk.below (blk2' _ _ _ _ _) hb (by simp)
  have hS : Blk w1 w.heap.size #[.slice oa n cp, .int .u32 (last : Int), .int .i64 max] 73 := Blk.below (blk2 _ _ _ _ _) hb (by simp; omega)
  have hO : Below w.heap.size w w1 := (((Below.refl _ _).alloc (Nat.le_refl _) _).alloc (by simp) _).trans (hb.mono (by simp; omega))
  have x0 : w1.cell? ⟨w.heap.size, 0, none⟩ = some (.slice oa n cp) := Blk.cell hS 0
  have x1 : w1.cell? ⟨w.heap.size, 1, none⟩ = some (.int .u32 (last : Int)) := Blk.cell hS 1
  have s0 : w1.cell? ⟨w.heap.size + 1, 0, none⟩ = some (.slice none 0 0) := Blk.cell hX 0
  have z0 : w1.frozen? ⟨w.heap.size + 1, 0, none⟩ = false := Blk.free hX 0
  have s1 : w1.cell? ⟨w.heap.size + 1, 1, none⟩ = some (.int .u32 0) := Blk.cell hX 1
  have z1 : w1.frozen? ⟨w.heap.size + 1, 1, none⟩ = false := Blk.free hX 1
  have s2 : w1.cell? ⟨w.heap.size + 1, 2, none⟩ = some (.int .i64 0) := Blk.cell hX 2
  have z2 : w1.frozen? ⟨w.heap.size + 1, 2, none⟩ = false := Blk.free hX 2
  have a0 : (w1.setCell ⟨w.heap.size + 1, 0, none⟩ (.slice none 0 0)).cell? ⟨w.heap.size + 1, 0, none⟩ = some (.slice none 0 0) := Blk.cell (Blk.set hX 0 _) 0
  have a1 : ((w1.setCell ⟨w.heap.size + 1, 0, none⟩ (.slice none 0 0)).setCell ⟨w.heap.size + 1, 1, none⟩ (.int .u32 0)).cell? ⟨w.heap.size + 1, 1, none⟩ = some (.int .u32 0) := Blk.cell (Blk.set (Blk.set hX 0 _) 1 _) 1
  have a2 : (((w1.setCell ⟨w.heap.size + 1, 0, none⟩ (.slice none 0 0)).setCell ⟨w.heap.size + 1, 1, none⟩ (.int .u32 0)).setCell ⟨w.heap.size + 1, 2, none⟩ (.int .i64 0)).cell? ⟨w.heap.size + 1, 2, none⟩ = some (.int .i64 0) := Blk.cell (Blk.set (Blk.set (Blk.set hX 0 _) 1 _) 2 _) 2
  have A0 := Lib.hid a0
  have A1 := Lib.hid a1
  have A2 := Lib.hid a2
  clear a0 a1 a2
  have HO := Lib.hid hO
  clear hX hb hO hS
  go_wp2_with fail
  refine bodyPost_ret (v := .tuple #[.agg #[.slice none 0 0, .int .u32 0, .int .i64 0], .int .i64 5]) ?_ rfl ⟨rfl, ?_⟩
  · simp [results, Tryd.results48, go_sem, A0.out, A1.out, A2.out]
  · exact (((HO.out).setCell (by simp) _).setCell (by simp) _).setCell (by simp) _
set_option maxRecDepth 100000 in
set_option maxHeartbeats 1000000 in
theorem rset_gone1 (oa : Option Addr) (n cp last : Nat) (max : Int) (V : Nat → Ver) (w : World) (hn : n ≤ maxLen) (hl : last < 4294967296) (hV : Vers w oa n V) (hm : ∀ i, i < n → (V i).n < 4294967296) (q : Nat) (i : Nat) (h : SecOk n last max V) (hi : i < n) (he : (V i).n = seek last q) (hst : (V i).st = 2) :
    Calls Tryd.prog 48 #[.agg #[.slice oa n cp, .int .u32 (last : Int), .int .i64 max], .int .u32 (q : Int), .int .i64 1] w fun e w' => e = .returned (.tuple #[.agg #[.slice none 0 0, .int .u32 0, .int .i64 0], .int .i64 21]) ∧ Below w.heap.size w w' := by
  have HV := Lib.hid (hV.later (((Below.refl _ _).alloc (Nat.le_refl _) _).alloc (by simp) _ : Below w.heap.size w ((w.alloc (.cells #[.slice oa n cp, .int .u32 (last : Int), .int .i64 max] 73)).alloc (.cells #[.slice none 0 0, .int .u32 0, .int .i64 0] 73))))
  have HF := Lib.hid fun w2 (hV2 : Vers w2 oa n V) => rat_hit oa n cp last max V w2 hn hl hV2 hm q i h hi he
  obtain ⟨b, off, od, cap, rfl, hB, hno, hlc, hcm, c0, c1, c2, c3⟩ := hV.get i hi
  have i0 : (0 : Int) ≤ (i : Int) := by omega
  have i1 : (i : Int) < (n : Int) := by omega
  rw [hst] at c3
  clear hV hn hm h he hi hst hB hno hlc hcm
  go_enter Tryd.func48, Tryd.ntmps48
  go_wp2_with fail
  refine (HF.out _ HV.out).mono ?_
  rintro e w1 ⟨rfl, hb⟩
  have hX : Blk w1 (w.heap.size + 1) #[.slice none 0 0, .int .u32 0, .int .i64 0] 73 := Blk.below (blk2' _ _ _ _ _) hb (by simp)
  have hS : Blk w1 w.heap.size #[.slice (some ⟨b, off, none⟩) n cp, .int .u32 (last : Int), .int .i64 max] 73 := Blk.below (blk2 _ _ _ _ _) hb (by simp; omega)
  have hO : Below w.heap.size w w1 := (((Below.refl _ _).alloc (Nat.le_refl _) _).alloc (by simp) _).trans (hb.mono (by simp; omega))
  have x0 : w1.cell? ⟨w.heap.size, 0, none⟩ = some (.slice (some ⟨b, off, none⟩) n cp) := Blk.cell hS 0
  have x1 : w1.cell? ⟨w.heap.size, 1, none⟩ = some (.int .u32 (last : Int)) := Blk.cell hS 1
  have d3 := cell_below hO c3
  clear c0 c1 c2 c3
  have s0 : w1.cell? ⟨w.heap.size + 1, 0, none⟩ = some (.slice none 0 0) := Blk.cell hX 0
  have z0 : w1.frozen? ⟨w.heap.size + 1, 0, none⟩ = false := Blk.free hX 0
  have s1 : w1.cell? ⟨w.heap.size + 1, 1, none⟩ = some (.int .u32 0) := Blk.cell hX 1
  have z1 : w1.frozen? ⟨w.heap.size + 1, 1, none⟩ = false := Blk.free hX 1
  have s2 : w1.cell? ⟨w.heap.size + 1, 2, none⟩ = some (.int .i64 0) := Blk.cell hX 2
  have z2 : w1.frozen? ⟨w.heap.size + 1, 2, none⟩ = false := Blk.free hX 2
  have a0 : (w1.setCell ⟨w.heap.size + 1, 0, none⟩ (.slice none 0 0)).cell? ⟨w.heap.size + 1, 0, none⟩ = some (.slice none 0 0) := Blk.cell (Blk.set hX 0 _) 0
  have a1 : ((w1.setCell ⟨w.heap.size + 1, 0, none⟩ (.slice none 0 0)).setCell ⟨w.heap.size + 1, 1, none⟩ (.int .u32 0)).cell? ⟨w.heap.size + 1, 1, none⟩ = some (.int .u32 0) := Blk.cell (Blk.set (Blk.set hX 0 _) 1 _) 1
  have a2 : (((w1.setCell ⟨w.heap.size + 1, 0, none⟩ (.slice none 0 0)).setCell ⟨w.heap.size + 1, 1, none⟩ (.int .u32 0)).setCell ⟨w.heap.size + 1, 2, none⟩ (.int .i64 0)).cell? ⟨w.heap.size + 1, 2, none⟩ = some (.int .i64 0) := Blk.cell (Blk.set (Blk.set (Blk.set hX 0 _) 1 _) 2 _) 2
  have A0 := Lib.hid a0
  have A1 := Lib.hid a1
  have A2 := Lib.hid a2
  clear a0 a1 a2
  have HO := Lib.hid hO
  clear hX hb hO hS
  go_wp2_with fail
  refine bodyPost_ret (v := .tuple #[.agg #[.slice none 0 0, .int .u32 0, .int .i64 0], .int .i64 21]) ?_ rfl ⟨rfl, ?_⟩
  · simp [results, Tryd.results48, go_sem, A0.out, A1.out, A2.out]
  · exact (((HO.out).setCell (by simp) _).setCell (by simp) _).setCell (by simp) _
set_option maxRecDepth 100000 in
set_option maxHeartbeats 1000000 in
theorem rset_bad2 (oa : Option Addr) (n cp last : Nat) (max : Int) (V : Nat → Ver) (w : World) (hn : n ≤ maxLen) (hl : last < 4294967296) (hV : Vers w oa n V) (hm : ∀ i, i < n → (V i).n < 4294967296) (q : Nat) (h : ¬ SecOk n last max V) :
    Calls Tryd.prog 48 #[.agg #[.slice oa n cp, .int .u32 (last : Int), .int .i64 max], .int .u32 (q : Int), .int .i64 2] w fun e w' => e = .returned (.tuple #[.agg #[.slice none 0 0, .int .u32 0, .int .i64 0], .int .i64 1]) ∧ Below w.heap.size w w' := by
  have HV := Lib.hid (hV.later (((Below.refl _ _).alloc (Nat.le_refl _) _).alloc (by simp) _ : Below w.heap.size w ((w.alloc (.cells #[.slice oa n cp, .int .u32 (last : Int), .int .i64 max] 73)).alloc (.cells #[.slice none 0 0, .int .u32 0, .int .i64 0] 73))))
  have HF := Lib.hid fun w2 (hV2 : Vers w2 oa n V) => rat_bad oa n cp last max V w2 hn hl hV2 hm q h
  clear hV hn hm h
  go_enter Tryd.func48, Tryd.ntmps48
  go_wp2_with fail
  refine (HF.out _ HV.out).mono ?_
  rintro e w1 ⟨rfl, hb⟩
  have hX : Blk w1 (w.heap.size + 1) #[.slice none 0 0, .int .u32 0, .int .i64 0] 73 := Blk.below (blk2' _ _ _ _ _) hb (by simp)
  have hS : Blk w1 w.heap.size #[.slice oa n cp, .int .u32 (last : Int), .int .i64 max] 73 := Blk.below (blk2 _ _ _ _ _) hb (by simp; omega)
  have hO : Below w.heap.size w w1 := (((Below.refl _ _).alloc (Nat.le_refl _) _).alloc (by simp) _).trans (hb.mono (by simp; omega))
  have x0 : w1.cell? ⟨w.heap.size, 0, none⟩ = some (.slice oa n cp) := Blk.cell hS 0
  have x1 : w1.cell? ⟨w.heap.size, 1, none⟩ = some (.int .u32 (last : Int)) := Blk.cell hS 1
  have s0 : w1.cell? ⟨w.heap.size + 1, 0, none⟩ = some (.slice none 0 0) := Blk.cell hX 0
  have z0 : w1.frozen? ⟨w.heap.size + 1, 0, none⟩ = false := Blk.free hX 0
  have s1 : w1.cell? ⟨w.heap.size + 1, 1, none⟩ = some (.int .u32 0) := Blk.cell hX 1
  have z1 : w1.frozen? ⟨w.heap.size + 1, 1, none⟩ = false := Blk.free hX 1
  have s2 : w1.cell? ⟨w.heap.size + 1, 2, none⟩ = some (.int .i64 0) := Blk.cell hX 2
  have z2 : w1.frozen? ⟨w.heap.size + 1, 2, none⟩ = false := Blk.free hX 2
  have a0 : (w1.setCell ⟨w.heap.size + 1, 0, none⟩ (.slice none 0 0)).cell? ⟨w.heap.size + 1, 0, none⟩ = some (.slice none 0 0) := Blk.cell (Blk.set hX 0 _) 0
  have a1 : ((w1.setCell ⟨w.heap.size + 1, 0, none⟩ (.slice none 0 0)).setCell ⟨w.heap.size + 1, 1, none⟩ (.int .u32 0)).cell? ⟨w.heap.size + 1, 1, none⟩ = some (.int .u32 0) := Blk.cell (Blk.set (Blk.set hX 0 _) 1 _) 1
  have a2 : (((w1.setCell ⟨w.heap.size + 1, 0, none⟩ (.slice none 0 0)).setCell ⟨w.heap.size + 1, 1, none⟩ (.int .u32 0)).setCell ⟨w.heap.size + 1, 2, none⟩ (.int .i64 0)).cell? ⟨w.heap.size + 1, 2, none⟩ = some (.int .i64 0) := Blk.cell (Blk.set (Blk.set (Blk.set hX 0 _) 1 _) 2 _) 2
  have A0 := Lib.hid a0
  have A1 := Lib.hid a1
  have A2 := Lib.hid a2
  clear a0 a1 a2
  have HO := Lib.hid hO
  clear hX hb hO hS
  go_wp2_with fail
  refine bodyPost_ret (v := .tuple #[.agg #[.slice none 0 0, .int .u32 0, .int .i64 0], .int .i64 1]) ?_ rfl ⟨rfl, ?_⟩
  · simp [results, Tryd.results48, go_sem, A0.out, A1.out, A2.out]
  · exact (((HO.out).setCell (by simp) _).setCell (by simp) _).setCell (by simp) _
set_option maxRecDepth 100000 in
set_option maxHeartbeats 1000000 in
theorem rset_none2 (oa : Option Addr) (n cp last : Nat) (max : Int) (V : Nat → Ver) (w : World) (hn : n ≤ maxLen) (hl : last < 4294967296) (hV : Vers w oa n V) (hm : ∀ i, i < n → (V i).n < 4294967296) (q : Nat) (h : SecOk n last max V) (hno : ∀ i, i < n → (V i).n ≠ seek last q) :
    Calls Tryd.prog 48 #[.agg #[.slice oa n cp, .int .u32 (last : Int), .int .i64 max], .int .u32 (q : Int), .int .i64 2] w fun e w' => e = .returned (.tuple #[.agg #[.slice none 0 0, .int .u32 0, .int .i64 0], .int .i64 5]) ∧ Below w.heap.size w w' := by
  have HV := Lib.hid (hV.later (((Below.refl _ _).alloc (Nat.le_refl _) _).alloc (by simp) _ : Below w.heap.size w ((w.alloc (.cells #[.slice oa n cp, .int .u32 (last : Int), .int .i64 max] 73)).alloc (.cells #[.slice none 0 0, .int .u32 0, .int .i64 0] 73))))
  have HF := Lib.hid fun w2 (hV2 : Vers w2 oa n V) => rat_miss oa n cp last max V w2 hn hl hV2 hm q h hno
  clear hV hn hm h hno
  go_enter Tryd.func48, Tryd.ntmps48
  go_wp2_with fail
  refine (HF.out _ HV.out).mono ?_
  rintro e w1 ⟨rfl, hb⟩
  have hX : Blk w1 (w.heap.size + 1) #[.slice none 0 0, .int .u32 0, .int .i64 0] 73 := Blk.below (blk2' _ _ _ _ _) hb (by simp)
  have hS : Blk w1 w.heap.size #[.slice oa n cp, .int .u32 (last : Int), .int .i64 max] 73 := Blk.below (blk2 _ _ _ _ _) hb (by simp; omega)
  have hO : Below w.heap.size w w1 := (((Below.refl _ _).alloc (Nat.le_refl _) _).alloc (by simp) _).trans (hb.mono (by simp; omega))
  have x0 : w1.cell? ⟨w.heap.size, 0, none⟩ = some (.slice oa n cp) := Blk.cell hS 0
  have x1 : w1.cell? ⟨w.heap.size, 1, none⟩ = some (.int .u32 (last : Int)) := Blk.cell hS 1
  have s0 : w1.cell? ⟨w.heap.size + 1, 0, none⟩ = some (.slice none 0 0) := Blk.cell hX 0
  have z0 : w1.frozen? ⟨w.heap.size + 1, 0, none⟩ = false := Blk.free hX 0
  have s1 : w1.cell? ⟨w.heap.size + 1, 1, none⟩ = some (.int .u32 0) := Blk.cell hX 1
  have z1 : w1.frozen? ⟨w.heap.size + 1, 1, none⟩ = false := Blk.free hX 1
  have s2 : w1.cell? ⟨w.heap.size + 1, 2, none⟩ = some (.int .i64 0) := Blk.cell hX 2
  have z2 : w1.frozen? ⟨w.heap.size + 1, 2, none⟩ = false := Blk.free hX 2
  have a0 : (w1.setCell ⟨w.heap.size + 1, 0, none⟩ (.slice none 0 0)).cell? ⟨w.heap.size + 1, 0, none⟩ = some (.slice none 0 0) := Blk.cell (Blk.set hX 0 _) 0
  have a1 : ((w1.setCell ⟨w.heap.size + 1, 0, none⟩ (.slice none 0 0)).setCell ⟨w.heap.size + 1, 1, none⟩ (.int .u32 0)).cell? ⟨w.heap.size + 1, 1, none⟩ = some (.int .u32 0) := Blk.cell (Blk.set (Blk.set hX 0 _) 1 _) 1
  have a2 : (((w1.setCell ⟨w.heap.size + 1, 0, none⟩ (.slice none 0 0)).setCell ⟨w.heap.size + 1, 1, none⟩ (.int .u32 0)).setCell ⟨w.heap.size + 1, 2, none⟩ (.int .i64 0)).cell? ⟨w.heap.size + 1, 2, none⟩ = some (.int .i64 0) := Blk.cell (Blk.set (Blk.set (Blk.set hX 0 _) 1 _) 2 _) 2
  have A0 := Lib.hid a0
  have A1 := Lib.hid a1
  have A2 := Lib.hid a2
  clear a0 a1 a2
  have HO := Lib.hid hO
  clear hX hb hO hS
  go_wp2_with fail
  refine bodyPost_ret (v := .tuple #[.agg #[.slice none 0 0, .int .u32 0, .int .i64 0], .int .i64 5]) ?_ rfl ⟨rfl, ?_⟩
  · simp [results, Tryd.results48, go_sem, A0.out, A1.out, A2.out]
  · exact (((HO.out).setCell (by simp) _).setCell (by simp) _).setCell (by simp) _
set_option maxRecDepth 100000 in
set_option maxHeartbeats 1000000 in
theorem rput_bad (oa : Option Addr) (n cp last : Nat) (max : Int) (V : Nat → Ver) (w : World) (hn : n ≤ maxLen) (hl : last < 4294967296) (hV : Vers w oa n V) (hm : ∀ i, i < n → (V i).n < 4294967296) (od : Option Addr) (dl dc : Nat) (cas : Int) (now : Nat) (h : ¬ SecOk n last max V) :
    Calls Tryd.prog 44 #[.agg #[.slice oa n cp, .int .u32 (last : Int), .int .i64 max], .slice od dl dc, .int .i64 cas, .int .u64 (now : Int)] w fun e w' => e = .returned (.tuple #[.agg #[.slice none 0 0, .int .u32 0, .int .i64 0], .int .i64 1]) ∧ Below w.heap.size w w' := by
  have HV := Lib.hid (hV.later (((Below.refl _ _).alloc (Nat.le_refl _) _).alloc (by simp) _ : Below w.heap.size w ((w.alloc (.cells #[.slice oa n cp, .int .u32 (last : Int), .int .i64 max] 73)).alloc (.cells #[.slice none 0 0, .int .u32 0, .int .i64 0] 73))))
  have HF := Lib.hid fun w2 (hV2 : Vers w2 oa n V) => rmay_no' oa n cp last max V w2 hn hl hV2 hm h
  clear hV hn hm h
  go_enter Tryd.func44, Tryd.ntmps44
  go_wp2_with fail
  refine (HF.out _ HV.out).mono ?_
  rintro e w1 ⟨rfl, hb⟩
  have hX : Blk w1 (w.heap.size + 1) #[.slice none 0 0, .int .u32 0, .int .i64 0] 73 := Blk.below (blk2' _ _ _ _ _) hb (by simp)
  have hS : Blk w1 w.heap.size #[.slice oa n cp, .int .u32 (last : Int), .int .i64 max] 73 := Blk.below (blk2 _ _ _ _ _) hb (by simp; omega)
  have hO : Below w.heap.size w w1 := (((Below.refl _ _).alloc (Nat.le_refl _) _).alloc (by simp) _).trans (hb.mono (by simp; omega))
  have x0 : w1.cell? ⟨w.heap.size, 0, none⟩ = some (.slice oa n cp) := Blk.cell hS 0
  have x1 : w1.cell? ⟨w.heap.size, 1, none⟩ = some (.int .u32 (last : Int)) := Blk.cell hS 1
  have s0 : w1.cell? ⟨w.heap.size + 1, 0, none⟩ = some (.slice none 0 0) := Blk.cell hX 0
  have z0 : w1.frozen? ⟨w.heap.size + 1, 0, none⟩ = false := Blk.free hX 0
  have s1 : w1.cell? ⟨w.heap.size + 1, 1, none⟩ = some (.int .u32 0) := Blk.cell hX 1
  have z1 : w1.frozen? ⟨w.heap.size + 1, 1, none⟩ = false := Blk.free hX 1
  have s2 : w1.cell? ⟨w.heap.size + 1, 2, none⟩ = some (.int .i64 0) := Blk.cell hX 2
  have z2 : w1.frozen? ⟨w.heap.size + 1, 2, none⟩ = false := Blk.free hX 2
  have a0 : (w1.setCell ⟨w.heap.size + 1, 0, none⟩ (.slice none 0 0)).cell? ⟨w.heap.size + 1, 0, none⟩ = some (.slice none 0 0) := Blk.cell (Blk.set hX 0 _) 0
  have a1 : ((w1.setCell ⟨w.heap.size + 1, 0, none⟩ (.slice none 0 0)).setCell ⟨w.heap.size + 1, 1, none⟩ (.int .u32 0)).cell? ⟨w.heap.size + 1, 1, none⟩ = some (.int .u32 0) := Blk.cell (Blk.set (Blk.set hX 0 _) 1 _) 1
  have a2 : (((w1.setCell ⟨w.heap.size + 1, 0, none⟩ (.slice none 0 0)).setCell ⟨w.heap.size + 1, 1, none⟩ (.int .u32 0)).setCell ⟨w.heap.size + 1, 2, none⟩ (.int .i64 0)).cell? ⟨w.heap.size + 1, 2, none⟩ = some (.int .i64 0) := Blk.cell (Blk.set (Blk.set (Blk.set hX 0 _) 1 _) 2 _) 2
  have A0 := Lib.hid a0
  have A1 := Lib.hid a1
  have A2 := Lib.hid a2
  clear a0 a1 a2
  have HO := Lib.hid hO
  clear hX hb hO hS
  go_wp2_with fail
  refine bodyPost_ret (v := .tuple #[.agg #[.slice none 0 0, .int .u32 0, .int .i64 0], .int .i64 1]) ?_ rfl ⟨rfl, ?_⟩
  · simp [results, Tryd.results44, go_sem, A0.out, A1.out, A2.out]
  · exact (((HO.out).setCell (by simp) _).setCell (by simp) _).setCell (by simp) _
set_option maxRecDepth 100000 in
set_option maxHeartbeats 1000000 in
theorem rput_big (oa : Option Addr) (n cp last : Nat) (max : Int) (V : Nat → Ver) (w : World) (hn : n ≤ maxLen) (hl : last < 4294967296) (hV : Vers w oa n V) (hm : ∀ i, i < n → (V i).n < 4294967296) (od : Option Addr) (dl dc : Nat) (cas : Int) (now : Nat) (h : SecOk n last max V) (hd : 100 < dl) :
    Calls Tryd.prog 44 #[.agg #[.slice oa n cp, .int .u32 (last : Int), .int .i64 max], .slice od dl dc, .int .i64 cas, .int .u64 (now : Int)] w fun e w' => e = .returned (.tuple #[.agg #[.slice none 0 0, .int .u32 0, .int .i64 0], .int .i64 1]) ∧ Below w.heap.size w w' := by
  have HV := Lib.hid (hV.later (((Below.refl _ _).alloc (Nat.le_refl _) _).alloc (by simp) _ : Below w.heap.size w ((w.alloc (.cells #[.slice oa n cp, .int .u32 (last : Int), .int .i64 max] 73)).alloc (.cells #[.slice none 0 0, .int .u32 0, .int .i64 0] 73))))
  have HF := Lib.hid fun w2 (hV2 : Vers w2 oa n V) => rmay_yes oa n cp last max V w2 hn hl hV2 hm h
  have hd' : decide ((dl : Int) > 100) = true := by rw [decide_eq_true_iff]; omega
  clear hV hn hm h
  go_enter Tryd.func44, Tryd.ntmps44
  go_wp2_with fail
  refine (HF.out _ HV.out).mono ?_
  rintro e w1 ⟨rfl, hb⟩
  have hX : Blk w1 (w.heap.size + 1) #[.slice none 0 0, .int .u32 0, .int .i64 0] 73 := Blk.below (blk2' _ _ _ _ _) hb (by simp)
  have hS : Blk w1 w.heap.size #[.slice oa n cp, .int .u32 (last : Int), .int .i64 max] 73 := Blk.below (blk2 _ _ _ _ _) hb (by simp; omega)
  have hO : Below w.heap.size w w1 := (((Below.refl _ _).alloc (Nat.le_refl _) _).alloc (by simp) _).trans (hb.mono (by simp; omega))
  have x0 : w1.cell? ⟨w.heap.size, 0, none⟩ = some (.slice oa n cp) := Blk.cell hS 0
  have x1 : w1.cell? ⟨w.heap.size, 1, none⟩ = some (.int .u32 (last : Int)) := Blk.cell hS 1
  have s0 : w1.cell? ⟨w.heap.size + 1, 0, none⟩ = some (.slice none 0 0) := Blk.cell hX 0
  have z0 : w1.frozen? ⟨w.heap.size + 1, 0, none⟩ = false := Blk.free hX 0
  have s1 : w1.cell? ⟨w.heap.size + 1, 1, none⟩ = some (.int .u32 0) := Blk.cell hX 1
  have z1 : w1.frozen? ⟨w.heap.size + 1, 1, none⟩ = false := Blk.free hX 1
  have s2 : w1.cell? ⟨w.heap.size + 1, 2, none⟩ = some (.int .i64 0) := Blk.cell hX 2
  have z2 : w1.frozen? ⟨w.heap.size + 1, 2, none⟩ = false := Blk.free hX 2
  have a0 : (w1.setCell ⟨w.heap.size + 1, 0, none⟩ (.slice none 0 0)).cell? ⟨w.heap.size + 1, 0, none⟩ = some (.slice none 0 0) := Blk.cell (Blk.set hX 0 _) 0
  have a1 : ((w1.setCell ⟨w.heap.size + 1, 0, none⟩ (.slice none 0 0)).setCell ⟨w.heap.size + 1, 1, none⟩ (.int .u32 0)).cell? ⟨w.heap.size + 1, 1, none⟩ = some (.int .u32 0) := Blk.cell (Blk.set (Blk.set hX 0 _) 1 _) 1
  have a2 : (((w1.setCell ⟨w.heap.size + 1, 0, none⟩ (.slice none 0 0)).setCell ⟨w.heap.size + 1, 1, none⟩ (.int .u32 0)).setCell ⟨w.heap.size + 1, 2, none⟩ (.int .i64 0)).cell? ⟨w.heap.size + 1, 2, none⟩ = some (.int .i64 0) := Blk.cell (Blk.set (Blk.set (Blk.set hX 0 _) 1 _) 2 _) 2
  have A0 := Lib.hid a0
  have A1 := Lib.hid a1
  have A2 := Lib.hid a2
  clear a0 a1 a2
  have HO := Lib.hid hO
  clear hX hb hO hS
  go_wp2_with fail
  refine bodyPost_ret (v := .tuple #[.agg #[.slice none 0 0, .int .u32 0, .int .i64 0], .int .i64 1]) ?_ rfl ⟨rfl, ?_⟩
  · simp [results, Tryd.results44, go_sem, A0.out, A1.out, A2.out]
  · exact (((HO.out).setCell (by simp) _).setCell (by simp) _).setCell (by simp) _
set_option maxRecDepth 100000 in
set_option maxHeartbeats 1000000 in
theorem rput_version (oa : Option Addr) (n cp last : Nat) (max : Int) (V : Nat → Ver) (w : World) (hn : n ≤ maxLen) (hl : last < 4294967296) (hV : Vers w oa n V) (hm : ∀ i, i < n → (V i).n < 4294967296) (od : Option Addr) (dl dc : Nat) (cas : Int) (now : Nat) (h : SecOk n last max V) (hd : dl ≤ 100) (hc : 0 ≤ cas) (hcl : cas ≠ (last : Int)) :
    Calls Tryd.prog 44 #[.agg #[.slice oa n cp, .int .u32 (last : Int), .int .i64 max], .slice od dl dc, .int .i64 cas, .int .u64 (now : Int)] w fun e w' => e = .returned (.tuple #[.agg #[.slice none 0 0, .int .u32 0, .int .i64 0], .int .i64 20]) ∧ Below w.heap.size w w' := by
  have HV := Lib.hid (hV.later (((Below.refl _ _).alloc (Nat.le_refl _) _).alloc (by simp) _ : Below w.heap.size w ((w.alloc (.cells #[.slice oa n cp, .int .u32 (last : Int), .int .i64 max] 73)).alloc (.cells #[.slice none 0 0, .int .u32 0, .int .i64 0] 73))))
  have HF := Lib.hid fun w2 (hV2 : Vers w2 oa n V) => rmay_yes oa n cp last max V w2 hn hl hV2 hm h
  have hcl' : (cas != (last : Int)) = true := by rw [bne_iff_ne]; exact hcl
  clear hV hn hm h hcl
  go_enter Tryd.func44, Tryd.ntmps44
  go_wp2_with fail
  refine (HF.out _ HV.out).mono ?_
  rintro e w1 ⟨rfl, hb⟩
  have hX : Blk w1 (w.heap.size + 1) #[.slice none 0 0, .int .u32 0, .int .i64 0] 73 := Blk.below (blk2' _ _ _ _ _) hb (by simp)
  have hS : Blk w1 w.heap.size #[.slice oa n cp, .int .u32 (last : Int), .int .i64 max] 73 := Blk.below (blk2 _ _ _ _ _) hb (by simp; omega)
  have hO : Below w.heap.size w w1 := (((Below.refl _ _).alloc (Nat.le_refl _) _).alloc (by simp) _).trans (hb.mono (by simp; omega))
  have x0 : w1.cell? ⟨w.heap.size, 0, none⟩ = some (.slice oa n cp) := Blk.cell hS 0
  have x1 : w1.cell? ⟨w.heap.size, 1, none⟩ = some (.int .u32 (last : Int)) := Blk.cell hS 1
  have s0 : w1.cell? ⟨w.heap.size + 1, 0, none⟩ = some (.slice none 0 0) := Blk.cell hX 0
  have z0 : w1.frozen? ⟨w.heap.size + 1, 0, none⟩ = false := Blk.free hX 0
  have s1 : w1.cell? ⟨w.heap.size + 1, 1, none⟩ = some (.int .u32 0) := Blk.cell hX 1
  have z1 : w1.frozen? ⟨w.heap.size + 1, 1, none⟩ = false := Blk.free hX 1
  have s2 : w1.cell? ⟨w.heap.size + 1, 2, none⟩ = some (.int .i64 0) := Blk.cell hX 2
  have z2 : w1.frozen? ⟨w.heap.size + 1, 2, none⟩ = false := Blk.free hX 2
  have a0 : (w1.setCell ⟨w.heap.size + 1, 0, none⟩ (.slice none 0 0)).cell? ⟨w.heap.size + 1, 0, none⟩ = some (.slice none 0 0) := Blk.cell (Blk.set hX 0 _) 0
  have a1 : ((w1.setCell ⟨w.heap.size + 1, 0, none⟩ (.slice none 0 0)).setCell ⟨w.heap.size + 1, 1, none⟩ (.int .u32 0)).cell? ⟨w.heap.size + 1, 1, none⟩ = some (.int .u32 0) := Blk.cell (Blk.set (Blk.set hX 0 _) 1 _) 1
  have a2 : (((w1.setCell ⟨w.heap.size + 1, 0, none⟩ (.slice none 0 0)).setCell ⟨w.heap.size + 1, 1, none⟩ (.int .u32 0)).setCell ⟨w.heap.size + 1, 2, none⟩ (.int .i64 0)).cell? ⟨w.heap.size + 1, 2, none⟩ = some (.int .i64 0) := Blk.cell (Blk.set (Blk.set (Blk.set hX 0 _) 1 _) 2 _) 2
  have A0 := Lib.hid a0
  have A1 := Lib.hid a1
  have A2 := Lib.hid a2
  clear a0 a1 a2
  have HO := Lib.hid hO
  clear hX hb hO hS
  go_wp2_with fail
  refine bodyPost_ret (v := .tuple #[.agg #[.slice none 0 0, .int .u32 0, .int .i64 0], .int .i64 20]) ?_ rfl ⟨rfl, ?_⟩
  · simp [results, Tryd.results44, go_sem, A0.out, A1.out, A2.out]
  · exact (((HO.out).setCell (by simp) _).setCell (by simp) _).setCell (by simp) _
set_option maxRecDepth 100000 in
set_option maxHeartbeats 1000000 in
theorem rput_overn (oa : Option Addr) (n cp last : Nat) (max : Int) (V : Nat → Ver) (w : World) (hn : n ≤ maxLen) (hl : last < 4294967296) (hV : Vers w oa n V) (hm : ∀ i, i < n → (V i).n < 4294967296) (od : Option Addr) (dl dc : Nat) (cas : Int) (now : Nat) (h : SecOk n last max V) (hd : dl ≤ 100) (hc : cas < 0) (hL : last = 4294967295) :
    Calls Tryd.prog 44 #[.agg #[.slice oa n cp, .int .u32 (last : Int), .int .i64 max], .slice od dl dc, .int .i64 cas, .int .u64 (now : Int)] w fun e w' => e = .returned (.tuple #[.agg #[.slice none 0 0, .int .u32 0, .int .i64 0], .int .i64 19]) ∧ Below w.heap.size w w' := by
  have HV := Lib.hid (hV.later (((Below.refl _ _).alloc (Nat.le_refl _) _).alloc (by simp) _ : Below w.heap.size w ((w.alloc (.cells #[.slice oa n cp, .int .u32 (last : Int), .int .i64 max] 73)).alloc (.cells #[.slice none 0 0, .int .u32 0, .int .i64 0] 73))))
  have HF := Lib.hid fun w2 (hV2 : Vers w2 oa n V) => rmay_yes oa n cp last max V w2 hn hl hV2 hm h
  have hL' : ((last : Int) == 4294967295) = true := by rw [beq_iff_eq]; omega
  clear hV hn hm h hL
  go_enter Tryd.func44, Tryd.ntmps44
  go_wp2_with fail
  refine (HF.out _ HV.out).mono ?_
  rintro e w1 ⟨rfl, hb⟩
  have hX : Blk w1 (w.heap.size + 1) #[.slice none 0 0, .int .u32 0, .int .i64 0] 73 := Blk.below (blk2' _ _ _ _ _) hb (by simp)
  have hS : Blk w1 w.heap.size #[.slice oa n cp, .int .u32 (last : Int), .int .i64 max] 73 := Blk.below (blk2 _ _ _ _ _) hb (by simp; omega)
  have hO : Below w.heap.size w w1 := (((Below.refl _ _).alloc (Nat.le_refl _) _).alloc (by simp) _).trans (hb.mono (by simp; omega))
  have x0 : w1.cell? ⟨w.heap.size, 0, none⟩ = some (.slice oa n cp) := Blk.cell hS 0
  have x1 : w1.cell? ⟨w.heap.size, 1, none⟩ = some (.int .u32 (last : Int)) := Blk.cell hS 1
  have s0 : w1.cell? ⟨w.heap.size + 1, 0, none⟩ = some (.slice none 0 0) := Blk.cell hX 0
  have z0 : w1.frozen? ⟨w.heap.size + 1, 0, none⟩ = false := Blk.free hX 0
  have s1 : w1.cell? ⟨w.heap.size + 1, 1, none⟩ = some (.int .u32 0) := Blk.cell hX 1
  have z1 : w1.frozen? ⟨w.heap.size + 1, 1, none⟩ = false := Blk.free hX 1
  have s2 : w1.cell? ⟨w.heap.size + 1, 2, none⟩ = some (.int .i64 0) := Blk.cell hX 2
  have z2 : w1.frozen? ⟨w.heap.size + 1, 2, none⟩ = false := Blk.free hX 2
  have a0 : (w1.setCell ⟨w.heap.size + 1, 0, none⟩ (.slice none 0 0)).cell? ⟨w.heap.size + 1, 0, none⟩ = some (.slice none 0 0) := Blk.cell (Blk.set hX 0 _) 0
  have a1 : ((w1.setCell ⟨w.heap.size + 1, 0, none⟩ (.slice none 0 0)).setCell ⟨w.heap.size + 1, 1, none⟩ (.int .u32 0)).cell? ⟨w.heap.size + 1, 1, none⟩ = some (.int .u32 0) := Blk.cell (Blk.set (Blk.set hX 0 _) 1 _) 1
  have a2 : (((w1.setCell ⟨w.heap.size + 1, 0, none⟩ (.slice none 0 0)).setCell ⟨w.heap.size + 1, 1, none⟩ (.int .u32 0)).setCell ⟨w.heap.size + 1, 2, none⟩ (.int .i64 0)).cell? ⟨w.heap.size + 1, 2, none⟩ = some (.int .i64 0) := Blk.cell (Blk.set (Blk.set (Blk.set hX 0 _) 1 _) 2 _) 2
  have A0 := Lib.hid a0
  have A1 := Lib.hid a1
  have A2 := Lib.hid a2
  clear a0 a1 a2
  have HO := Lib.hid hO
  clear hX hb hO hS
  go_wp2_with fail
  refine bodyPost_ret (v := .tuple #[.agg #[.slice none 0 0, .int .u32 0, .int .i64 0], .int .i64 19]) ?_ rfl ⟨rfl, ?_⟩
  · simp [results, Tryd.results44, go_sem, A0.out, A1.out, A2.out]
  · exact (((HO.out).setCell (by simp) _).setCell (by simp) _).setCell (by simp) _
set_option maxRecDepth 100000 in
set_option maxHeartbeats 1000000 in
theorem rput_overc (oa : Option Addr) (n cp last : Nat) (max : Int) (V : Nat → Ver) (w : World) (hn : n ≤ maxLen) (hl : last < 4294967296) (hV : Vers w oa n V) (hm : ∀ i, i < n → (V i).n < 4294967296) (od : Option Addr) (dl dc : Nat) (cas : Int) (now : Nat) (h : SecOk n last max V) (hd : dl ≤ 100) (hc : cas = (last : Int)) (hL : last = 4294967295) :
    Calls Tryd.prog 44 #[.agg #[.slice oa n cp, .int .u32 (last : Int), .int .i64 max], .slice od dl dc, .int .i64 cas, .int .u64 (now : Int)] w fun e w' => e = .returned (.tuple #[.agg #[.slice none 0 0, .int .u32 0, .int .i64 0], .int .i64 19]) ∧ Below w.heap.size w w' := by
  have HV := Lib.hid (hV.later (((Below.refl _ _).alloc (Nat.le_refl _) _).alloc (by simp) _ : Below w.heap.size w ((w.alloc (.cells #[.slice oa n cp, .int .u32 (last : Int), .int .i64 max] 73)).alloc (.cells #[.slice none 0 0, .int .u32 0, .int .i64 0] 73))))
  have HF := Lib.hid fun w2 (hV2 : Vers w2 oa n V) => rmay_yes oa n cp last max V w2 hn hl hV2 hm h
  have hL' : ((last : Int) == 4294967295) = true := by rw [beq_iff_eq]; omega
  subst hc
  clear hV hn hm h hL
  go_enter Tryd.func44, Tryd.ntmps44
  go_wp2_with fail
  refine (HF.out _ HV.out).mono ?_
  rintro e w1 ⟨rfl, hb⟩
  have hX : Blk w1 (w.heap.size + 1) #[.slice none 0 0, .int .u32 0, .int .i64 0] 73 := Blk.below (blk2' _ _ _ _ _) hb (by simp)
  have hS : Blk w1 w.heap.size #[.slice oa n cp, .int .u32 (last : Int), .int .i64 max] 73 := Blk.below (blk2 _ _ _ _ _) hb (by simp; omega)
  have hO : Below w.heap.size w w1 := (((Below.refl _ _).alloc (Nat.le_refl _) _).alloc (by simp) _).trans (hb.mono (by simp; omega))
  have x0 : w1.cell? ⟨w.heap.size, 0, none⟩ = some (.slice oa n cp) := Blk.cell hS 0
  have x1 : w1.cell? ⟨w.heap.size, 1, none⟩ = some (.int .u32 (last : Int)) := Blk.cell hS 1
  have s0 : w1.cell? ⟨w.heap.size + 1, 0, none⟩ = some (.slice none 0 0) := Blk.cell hX 0
  have z0 : w1.frozen? ⟨w.heap.size + 1, 0, none⟩ = false := Blk.free hX 0
  have s1 : w1.cell? ⟨w.heap.size + 1, 1, none⟩ = some (.int .u32 0) := Blk.cell hX 1
  have z1 : w1.frozen? ⟨w.heap.size + 1, 1, none⟩ = false := Blk.free hX 1
  have s2 : w1.cell? ⟨w.heap.size + 1, 2, none⟩ = some (.int .i64 0) := Blk.cell hX 2
  have z2 : w1.frozen? ⟨w.heap.size + 1, 2, none⟩ = false := Blk.free hX 2
  have a0 : (w1.setCell ⟨w.heap.size + 1, 0, none⟩ (.slice none 0 0)).cell? ⟨w.heap.size + 1, 0, none⟩ = some (.slice none 0 0) := Blk.cell (Blk.set hX 0 _) 0
  have a1 : ((w1.setCell ⟨w.heap.size + 1, 0, none⟩ (.slice none 0 0)).setCell ⟨w.heap.size + 1, 1, none⟩ (.int .u32 0)).cell? ⟨w.heap.size + 1, 1, none⟩ = some (.int .u32 0) := Blk.cell (Blk.set (Blk.set hX 0 _) 1 _) 1
  have a2 : (((w1.setCell ⟨w.heap.size + 1, 0, none⟩ (.slice none 0 0)).setCell ⟨w.heap.size + 1, 1, none⟩ (.int .u32 0)).setCell ⟨w.heap.size + 1, 2, none⟩ (.int .i64 0)).cell? ⟨w.heap.size + 1, 2, none⟩ = some (.int .i64 0) := Blk.cell (Blk.set (Blk.set (Blk.set hX 0 _) 1 _) 2 _) 2
  have A0 := Lib.hid a0
  have A1 := Lib.hid a1
  have A2 := Lib.hid a2
  clear a0 a1 a2
  have HO := Lib.hid hO
  clear hX hb hO hS
  go_wp2_with fail
  refine bodyPost_ret (v := .tuple #[.agg #[.slice none 0 0, .int .u32 0, .int .i64 0], .int .i64 19]) ?_ rfl ⟨rfl, ?_⟩
  · simp [results, Tryd.results44, go_sem, A0.out, A1.out, A2.out]
  · exact (((HO.out).setCell (by simp) _).setCell (by simp) _).setCell (by simp) _
end Go.Proofs.YtkaddilgegimjaaDoor
