/- engine.Put. -/
import Derived.Test.YtkaddilgegimjaaDoorEn5
import Derived.Test.YtkaddilgegimjaaDoorEn6
namespace Go.Proofs.YtkaddilgegimjaaDoor
set_option linter.unusedVariables false
set_option linter.unusedSimpArgs false
open Go.RowKit

theorem GV.set_ne {w : World} {base n : Nat} {v : Value} {V : Nat → Ver} {b k : Nat} {C : Array Value} {t : TypeId} {x : Value} (h : GV w base v n V) (hB : Blk w b C t) (hn : ∀ (j : Nat) (z : Int), C[j]? ≠ some (Value.int .u8 z)) (hb : v.ownBlock ≠ some b) : GV (w.setCell ⟨b, k, none⟩ x) base v n V := by
  obtain ⟨D, h1, h2⟩ := h
  refine ⟨D, ⟨h1.1, ?_⟩, fun i hi => ⟨(h2 i hi).1.set_apart hB hn, (h2 i hi).2⟩⟩
  rcases h1.2 with h3 | ⟨g, cap, cur, hv, hg, hh, r⟩
  · exact .inl h3
  · refine .inr ⟨g, cap, cur, hv, hg, ?_, r⟩
    have hne : g ≠ b := fun e => hb (by rw [hv, e]; rfl)
    rw [Below.heap_setCell _ _ _ _ hne]; exact hh
/-- May a version more be put? -/
def PutOk (n last : Nat) (max : Int) (V : Nat → Ver) (dl : Nat) (cas : Int) : Prop := SecOk n last max V ∧ dl ≤ 100 ∧ (cas < 0 ∨ cas = (last : Int)) ∧ last < 4294967295
/-- How many versions stand from which one on. -/
def fromN (n : Nat) (max : Int) : Nat := if (n : Int) = max then 1 else 0
/-- The versions, one more behind them. -/
def putV (V : Nat → Ver) (s m : Nat) (x : Ver) : Nat → Ver := fun i => if i = m then x else V (i + s)
theorem Vers.from1 {w : World} {b off n : Nat} {V : Nat → Ver} (h : Vers w (some ⟨b, off, none⟩) (n + 1) V) : Vers w (some ⟨b, off + 4, none⟩) n (fun i => V (i + 1)) := fun i hi => by
  obtain ⟨b', off', C, e, hC, hc⟩ := h (i + 1) (by omega)
  cases e
  refine ⟨b, off + 4, C, rfl, hC, fun j hj => ?_⟩
  rw [← hc j hj, show off + 4 + i * 4 + j = off + (i + 1) * 4 + j from by omega]
set_option maxRecDepth 100000 in
set_option maxHeartbeats 1000000 in
theorem put_bad (oa : Option Addr) (n cp last : Nat) (max : Int) (V : Nat → Ver) (w : World) (hn : n ≤ maxLen) (hl : last < 4294967296) (hV : Vers w oa n V) (od : Option Addr) (dl dc : Nat) (df : Nat → Nat) (cas : Int) (now : Nat) (h : ¬ SecOk n last max V) :
    Calls Tryd.prog 43 #[.agg #[.slice oa n cp, .int .u32 (last : Int), .int .i64 max], .slice od dl dc, .int .i64 cas, .int .u64 (now : Int)] w fun e w' => e = .returned (.tuple #[.agg #[.slice none 0 0, .int .u32 0, .int .i64 0], .iface 146 (.int .i64 1)]) ∧ Below w.heap.size w w' := by
  have HV := Lib.hid (hV.later (((Below.refl _ _).alloc (Nat.le_refl _) _).alloc (by simp) _ : Below w.heap.size w ((w.alloc (.cells #[.slice oa n cp, .int .u32 (last : Int), .int .i64 max] 79)).alloc (.cells #[.slice none 0 0, .int .u32 0, .int .i64 0] 79))))
  have HN := Lib.hid hn
  have HS := Lib.hid h
  clear h
  clear hV hn
  go_enter Tryd.func43, Tryd.ntmps43
  go_wp2_with fail
  refine (check_bad oa n cp last max V _ HN.out hl HV.out HS.out).mono ?_
  rintro e w1 ⟨rfl, hb⟩
  have hX : Blk w1 (w.heap.size + 1) #[.slice none 0 0, .int .u32 0, .int .i64 0] 79 := Blk.below (blk2' _ _ _ _ _) hb (by simp)
  have hS : Blk w1 w.heap.size #[.slice oa n cp, .int .u32 (last : Int), .int .i64 max] 79 := Blk.below (blk2 _ _ _ _ _) hb (by simp; omega)
  have hO : Below w.heap.size w w1 := (((Below.refl _ _).alloc (Nat.le_refl _) _).alloc (by simp) _).trans (hb.mono (by simp; omega))
  have x1 : w1.cell? ⟨w.heap.size, 1, none⟩ = some (.int .u32 (last : Int)) := Blk.cell hS 1
  have s0 : w1.cell? ⟨w.heap.size + 1, 0, none⟩ = some (.slice none 0 0) := Blk.cell hX 0
  have z0 : w1.frozen? ⟨w.heap.size + 1, 0, none⟩ = false := Blk.free hX 0
  have s1 : w1.cell? ⟨w.heap.size + 1, 1, none⟩ = some (.int .u32 0) := Blk.cell hX 1
  have z1 : w1.frozen? ⟨w.heap.size + 1, 1, none⟩ = false := Blk.free hX 1
  have s2 : w1.cell? ⟨w.heap.size + 1, 2, none⟩ = some (.int .i64 0) := Blk.cell hX 2
  have z2 : w1.frozen? ⟨w.heap.size + 1, 2, none⟩ = false := Blk.free hX 2
  have a0 : (w1.setCell ⟨w.heap.size + 1, 0, none⟩ (.slice none 0 0)).cell? ⟨w.heap.size + 1, 0, none⟩ = some (.slice none 0 0) := Blk.cell (Blk.set hX 0 _) 0
  have a1 : ((w1.setCell ⟨w.heap.size + 1, 0, none⟩ (.slice none 0 0)).setCell ⟨w.heap.size + 1, 1, none⟩ (.int .u32 0)).cell? ⟨w.heap.size + 1, 1, none⟩ = some (.int .u32 0) := Blk.cell (Blk.set (Blk.set hX 0 _) 1 _) 1
  have a2 : (((w1.setCell ⟨w.heap.size + 1, 0, none⟩ (.slice none 0 0)).setCell ⟨w.heap.size + 1, 1, none⟩ (.int .u32 0)).setCell ⟨w.heap.size + 1, 2, none⟩ (.int .i64 0)).cell? ⟨w.heap.size + 1, 2, none⟩ = some (.int .i64 0) := Blk.cell (Blk.set (Blk.set (Blk.set hX 0 _) 1 _) 2 _) 2
  have A0 := Lib.hid a0
  have A1 := Lib.hid a1
  have A2 := Lib.hid a2
  clear a0 a1 a2
  have HO := Lib.hid hO
  clear hX hb hO hS
  go_wp2_with fail
  refine bodyPost_ret (v := .tuple #[.agg #[.slice none 0 0, .int .u32 0, .int .i64 0], .iface 146 (.int .i64 1)]) ?_ rfl ⟨rfl, ?_⟩
  · simp [results, Tryd.results43, go_sem, A0.out, A1.out, A2.out]
  · exact (((HO.out).setCell (by simp) _).setCell (by simp) _).setCell (by simp) _
set_option maxRecDepth 100000 in
set_option maxHeartbeats 1000000 in
theorem put_long (oa : Option Addr) (n cp last : Nat) (max : Int) (V : Nat → Ver) (w : World) (hn : n ≤ maxLen) (hl : last < 4294967296) (hV : Vers w oa n V) (od : Option Addr) (dl dc : Nat) (df : Nat → Nat) (cas : Int) (now : Nat) (h : SecOk n last max V) (hd : 100 < dl) :
    Calls Tryd.prog 43 #[.agg #[.slice oa n cp, .int .u32 (last : Int), .int .i64 max], .slice od dl dc, .int .i64 cas, .int .u64 (now : Int)] w fun e w' => e = .returned (.tuple #[.agg #[.slice none 0 0, .int .u32 0, .int .i64 0], .iface 146 (.int .i64 1)]) ∧ Below w.heap.size w w' := by
  have HV := Lib.hid (hV.later (((Below.refl _ _).alloc (Nat.le_refl _) _).alloc (by simp) _ : Below w.heap.size w ((w.alloc (.cells #[.slice oa n cp, .int .u32 (last : Int), .int .i64 max] 79)).alloc (.cells #[.slice none 0 0, .int .u32 0, .int .i64 0] 79))))
  have HN := Lib.hid hn
  have HS := Lib.hid h
  have d0 : (100 : Int) < (dl : Int) := by omega
  clear h hd
  clear hV hn
  go_enter Tryd.func43, Tryd.ntmps43
  go_wp2_with fail
  refine (check_yes oa n cp last max V _ HN.out hl HV.out HS.out).mono ?_
  rintro e w1 ⟨rfl, hb⟩
  have hX : Blk w1 (w.heap.size + 1) #[.slice none 0 0, .int .u32 0, .int .i64 0] 79 := Blk.below (blk2' _ _ _ _ _) hb (by simp)
  have hS : Blk w1 w.heap.size #[.slice oa n cp, .int .u32 (last : Int), .int .i64 max] 79 := Blk.below (blk2 _ _ _ _ _) hb (by simp; omega)
  have hO : Below w.heap.size w w1 := (((Below.refl _ _).alloc (Nat.le_refl _) _).alloc (by simp) _).trans (hb.mono (by simp; omega))
  have x1 : w1.cell? ⟨w.heap.size, 1, none⟩ = some (.int .u32 (last : Int)) := Blk.cell hS 1
  have s0 : w1.cell? ⟨w.heap.size + 1, 0, none⟩ = some (.slice none 0 0) := Blk.cell hX 0
  have z0 : w1.frozen? ⟨w.heap.size + 1, 0, none⟩ = false := Blk.free hX 0
  have s1 : w1.cell? ⟨w.heap.size + 1, 1, none⟩ = some (.int .u32 0) := Blk.cell hX 1
  have z1 : w1.frozen? ⟨w.heap.size + 1, 1, none⟩ = false := Blk.free hX 1
  have s2 : w1.cell? ⟨w.heap.size + 1, 2, none⟩ = some (.int .i64 0) := Blk.cell hX 2
  have z2 : w1.frozen? ⟨w.heap.size + 1, 2, none⟩ = false := Blk.free hX 2
  have a0 : (w1.setCell ⟨w.heap.size + 1, 0, none⟩ (.slice none 0 0)).cell? ⟨w.heap.size + 1, 0, none⟩ = some (.slice none 0 0) := Blk.cell (Blk.set hX 0 _) 0
  have a1 : ((w1.setCell ⟨w.heap.size + 1, 0, none⟩ (.slice none 0 0)).setCell ⟨w.heap.size + 1, 1, none⟩ (.int .u32 0)).cell? ⟨w.heap.size + 1, 1, none⟩ = some (.int .u32 0) := Blk.cell (Blk.set (Blk.set hX 0 _) 1 _) 1
  have a2 : (((w1.setCell ⟨w.heap.size + 1, 0, none⟩ (.slice none 0 0)).setCell ⟨w.heap.size + 1, 1, none⟩ (.int .u32 0)).setCell ⟨w.heap.size + 1, 2, none⟩ (.int .i64 0)).cell? ⟨w.heap.size + 1, 2, none⟩ = some (.int .i64 0) := Blk.cell (Blk.set (Blk.set (Blk.set hX 0 _) 1 _) 2 _) 2
  have A0 := Lib.hid a0
  have A1 := Lib.hid a1
  have A2 := Lib.hid a2
  clear a0 a1 a2
  have HO := Lib.hid hO
  clear hX hb hO hS
  go_wp2_with fail
  refine bodyPost_ret (v := .tuple #[.agg #[.slice none 0 0, .int .u32 0, .int .i64 0], .iface 146 (.int .i64 1)]) ?_ rfl ⟨rfl, ?_⟩
  · simp [results, Tryd.results43, go_sem, A0.out, A1.out, A2.out]
  · exact (((HO.out).setCell (by simp) _).setCell (by simp) _).setCell (by simp) _
set_option maxRecDepth 100000 in
set_option maxHeartbeats 1000000 in
theorem put_ver (oa : Option Addr) (n cp last : Nat) (max : Int) (V : Nat → Ver) (w : World) (hn : n ≤ maxLen) (hl : last < 4294967296) (hV : Vers w oa n V) (od : Option Addr) (dl dc : Nat) (df : Nat → Nat) (cas : Int) (now : Nat) (h : SecOk n last max V) (hd : dl ≤ 100) (hc : 0 ≤ cas) (hcm : cas ≤ 9223372036854775807) (hne : cas ≠ (last : Int)) :
    Calls Tryd.prog 43 #[.agg #[.slice oa n cp, .int .u32 (last : Int), .int .i64 max], .slice od dl dc, .int .i64 cas, .int .u64 (now : Int)] w fun e w' => e = .returned (.tuple #[.agg #[.slice none 0 0, .int .u32 0, .int .i64 0], .iface 146 (.int .i64 20)]) ∧ Below w.heap.size w w' := by
  have HV := Lib.hid (hV.later (((Below.refl _ _).alloc (Nat.le_refl _) _).alloc (by simp) _ : Below w.heap.size w ((w.alloc (.cells #[.slice oa n cp, .int .u32 (last : Int), .int .i64 max] 79)).alloc (.cells #[.slice none 0 0, .int .u32 0, .int .i64 0] 79))))
  have HN := Lib.hid hn
  have HS := Lib.hid h
  have d0 : (dl : Int) ≤ 100 := by omega
  have w1 : IntKind.u64.wrap cas = cas := by simp [IntKind.wrap, IntKind.bits, IntKind.signed]; omega
  have w2 : (cas != (last : Int)) = true := by rw [bne_iff_ne]; exact hne
  have l0 : (last : Int) ≤ 4294967295 := by omega
  clear h hd hne
  clear hV hn
  go_enter Tryd.func43, Tryd.ntmps43
  go_wp2_with fail
  refine (check_yes oa n cp last max V _ HN.out hl HV.out HS.out).mono ?_
  rintro e w1 ⟨rfl, hb⟩
  have hX : Blk w1 (w.heap.size + 1) #[.slice none 0 0, .int .u32 0, .int .i64 0] 79 := Blk.below (blk2' _ _ _ _ _) hb (by simp)
  have hS : Blk w1 w.heap.size #[.slice oa n cp, .int .u32 (last : Int), .int .i64 max] 79 := Blk.below (blk2 _ _ _ _ _) hb (by simp; omega)
  have hO : Below w.heap.size w w1 := (((Below.refl _ _).alloc (Nat.le_refl _) _).alloc (by simp) _).trans (hb.mono (by simp; omega))
  have x1 : w1.cell? ⟨w.heap.size, 1, none⟩ = some (.int .u32 (last : Int)) := Blk.cell hS 1
  have s0 : w1.cell? ⟨w.heap.size + 1, 0, none⟩ = some (.slice none 0 0) := Blk.cell hX 0
  have z0 : w1.frozen? ⟨w.heap.size + 1, 0, none⟩ = false := Blk.free hX 0
  have s1 : w1.cell? ⟨w.heap.size + 1, 1, none⟩ = some (.int .u32 0) := Blk.cell hX 1
  have z1 : w1.frozen? ⟨w.heap.size + 1, 1, none⟩ = false := Blk.free hX 1
  have s2 : w1.cell? ⟨w.heap.size + 1, 2, none⟩ = some (.int .i64 0) := Blk.cell hX 2
  have z2 : w1.frozen? ⟨w.heap.size + 1, 2, none⟩ = false := Blk.free hX 2
  have a0 : (w1.setCell ⟨w.heap.size + 1, 0, none⟩ (.slice none 0 0)).cell? ⟨w.heap.size + 1, 0, none⟩ = some (.slice none 0 0) := Blk.cell (Blk.set hX 0 _) 0
  have a1 : ((w1.setCell ⟨w.heap.size + 1, 0, none⟩ (.slice none 0 0)).setCell ⟨w.heap.size + 1, 1, none⟩ (.int .u32 0)).cell? ⟨w.heap.size + 1, 1, none⟩ = some (.int .u32 0) := Blk.cell (Blk.set (Blk.set hX 0 _) 1 _) 1
  have a2 : (((w1.setCell ⟨w.heap.size + 1, 0, none⟩ (.slice none 0 0)).setCell ⟨w.heap.size + 1, 1, none⟩ (.int .u32 0)).setCell ⟨w.heap.size + 1, 2, none⟩ (.int .i64 0)).cell? ⟨w.heap.size + 1, 2, none⟩ = some (.int .i64 0) := Blk.cell (Blk.set (Blk.set (Blk.set hX 0 _) 1 _) 2 _) 2
  have A0 := Lib.hid a0
  have A1 := Lib.hid a1
  have A2 := Lib.hid a2
  clear a0 a1 a2
  have HO := Lib.hid hO
  clear hX hb hO hS
  go_wp2_with fail
  refine bodyPost_ret (v := .tuple #[.agg #[.slice none 0 0, .int .u32 0, .int .i64 0], .iface 146 (.int .i64 20)]) ?_ rfl ⟨rfl, ?_⟩
  · simp [results, Tryd.results43, go_sem, A0.out, A1.out, A2.out]
  · exact (((HO.out).setCell (by simp) _).setCell (by simp) _).setCell (by simp) _
set_option maxRecDepth 100000 in
set_option maxHeartbeats 1000000 in
theorem put_over_n (oa : Option Addr) (n cp last : Nat) (max : Int) (V : Nat → Ver) (w : World) (hn : n ≤ maxLen) (hl : last < 4294967296) (hV : Vers w oa n V) (od : Option Addr) (dl dc : Nat) (df : Nat → Nat) (cas : Int) (now : Nat) (h : SecOk n last max V) (hd : dl ≤ 100) (hc : cas < 0) (hm : last = 4294967295) :
    Calls Tryd.prog 43 #[.agg #[.slice oa n cp, .int .u32 (last : Int), .int .i64 max], .slice od dl dc, .int .i64 cas, .int .u64 (now : Int)] w fun e w' => e = .returned (.tuple #[.agg #[.slice none 0 0, .int .u32 0, .int .i64 0], .iface 146 (.int .i64 19)]) ∧ Below w.heap.size w w' := by
  have HV := Lib.hid (hV.later (((Below.refl _ _).alloc (Nat.le_refl _) _).alloc (by simp) _ : Below w.heap.size w ((w.alloc (.cells #[.slice oa n cp, .int .u32 (last : Int), .int .i64 max] 79)).alloc (.cells #[.slice none 0 0, .int .u32 0, .int .i64 0] 79))))
  have HN := Lib.hid hn
  have HS := Lib.hid h
  have d0 : (dl : Int) ≤ 100 := by omega
  have l0 : (last : Int) ≤ 4294967295 := by omega
  have l2 : ((last : Int) == 4294967295) = true := by rw [beq_iff_eq]; omega
  have c0 : decide (0 ≤ cas) = false := decide_eq_false (by omega)
  clear h hd hm
  clear hV hn
  go_enter Tryd.func43, Tryd.ntmps43
  go_wp2_with fail
  refine (check_yes oa n cp last max V _ HN.out hl HV.out HS.out).mono ?_
  rintro e w1 ⟨rfl, hb⟩
  have hX : Blk w1 (w.heap.size + 1) #[.slice none 0 0, .int .u32 0, .int .i64 0] 79 := Blk.below (blk2' _ _ _ _ _) hb (by simp)
  have hS : Blk w1 w.heap.size #[.slice oa n cp, .int .u32 (last : Int), .int .i64 max] 79 := Blk.below (blk2 _ _ _ _ _) hb (by simp; omega)
  have hO : Below w.heap.size w w1 := (((Below.refl _ _).alloc (Nat.le_refl _) _).alloc (by simp) _).trans (hb.mono (by simp; omega))
  have x1 : w1.cell? ⟨w.heap.size, 1, none⟩ = some (.int .u32 (last : Int)) := Blk.cell hS 1
  have s0 : w1.cell? ⟨w.heap.size + 1, 0, none⟩ = some (.slice none 0 0) := Blk.cell hX 0
  have z0 : w1.frozen? ⟨w.heap.size + 1, 0, none⟩ = false := Blk.free hX 0
  have s1 : w1.cell? ⟨w.heap.size + 1, 1, none⟩ = some (.int .u32 0) := Blk.cell hX 1
  have z1 : w1.frozen? ⟨w.heap.size + 1, 1, none⟩ = false := Blk.free hX 1
  have s2 : w1.cell? ⟨w.heap.size + 1, 2, none⟩ = some (.int .i64 0) := Blk.cell hX 2
  have z2 : w1.frozen? ⟨w.heap.size + 1, 2, none⟩ = false := Blk.free hX 2
  have a0 : (w1.setCell ⟨w.heap.size + 1, 0, none⟩ (.slice none 0 0)).cell? ⟨w.heap.size + 1, 0, none⟩ = some (.slice none 0 0) := Blk.cell (Blk.set hX 0 _) 0
  have a1 : ((w1.setCell ⟨w.heap.size + 1, 0, none⟩ (.slice none 0 0)).setCell ⟨w.heap.size + 1, 1, none⟩ (.int .u32 0)).cell? ⟨w.heap.size + 1, 1, none⟩ = some (.int .u32 0) := Blk.cell (Blk.set (Blk.set hX 0 _) 1 _) 1
  have a2 : (((w1.setCell ⟨w.heap.size + 1, 0, none⟩ (.slice none 0 0)).setCell ⟨w.heap.size + 1, 1, none⟩ (.int .u32 0)).setCell ⟨w.heap.size + 1, 2, none⟩ (.int .i64 0)).cell? ⟨w.heap.size + 1, 2, none⟩ = some (.int .i64 0) := Blk.cell (Blk.set (Blk.set (Blk.set hX 0 _) 1 _) 2 _) 2
  have A0 := Lib.hid a0
  have A1 := Lib.hid a1
  have A2 := Lib.hid a2
  clear a0 a1 a2
  have HO := Lib.hid hO
  clear hX hb hO hS
  go_wp2_with fail
  refine bodyPost_ret (v := .tuple #[.agg #[.slice none 0 0, .int .u32 0, .int .i64 0], .iface 146 (.int .i64 19)]) ?_ rfl ⟨rfl, ?_⟩
  · simp [results, Tryd.results43, go_sem, A0.out, A1.out, A2.out]
  · exact (((HO.out).setCell (by simp) _).setCell (by simp) _).setCell (by simp) _
set_option maxRecDepth 100000 in
set_option maxHeartbeats 1000000 in
theorem put_over_c (oa : Option Addr) (n cp last : Nat) (max : Int) (V : Nat → Ver) (w : World) (hn : n ≤ maxLen) (hl : last < 4294967296) (hV : Vers w oa n V) (od : Option Addr) (dl dc : Nat) (df : Nat → Nat) (cas : Int) (now : Nat) (h : SecOk n last max V) (hd : dl ≤ 100) (hc : cas = (last : Int)) (hm : last = 4294967295) :
    Calls Tryd.prog 43 #[.agg #[.slice oa n cp, .int .u32 (last : Int), .int .i64 max], .slice od dl dc, .int .i64 cas, .int .u64 (now : Int)] w fun e w' => e = .returned (.tuple #[.agg #[.slice none 0 0, .int .u32 0, .int .i64 0], .iface 146 (.int .i64 19)]) ∧ Below w.heap.size w w' := by
  have HV := Lib.hid (hV.later (((Below.refl _ _).alloc (Nat.le_refl _) _).alloc (by simp) _ : Below w.heap.size w ((w.alloc (.cells #[.slice oa n cp, .int .u32 (last : Int), .int .i64 max] 79)).alloc (.cells #[.slice none 0 0, .int .u32 0, .int .i64 0] 79))))
  have HN := Lib.hid hn
  have HS := Lib.hid h
  have d0 : (dl : Int) ≤ 100 := by omega
  have l0 : (last : Int) ≤ 4294967295 := by omega
  have l2 : ((last : Int) == 4294967295) = true := by rw [beq_iff_eq]; omega
  have l1 : (0 : Int) ≤ (last : Int) := by omega
  clear h hd hm
  subst hc
  clear hV hn
  go_enter Tryd.func43, Tryd.ntmps43
  go_wp2_with fail
  refine (check_yes oa n cp last max V _ HN.out hl HV.out HS.out).mono ?_
  rintro e w1 ⟨rfl, hb⟩
  have hX : Blk w1 (w.heap.size + 1) #[.slice none 0 0, .int .u32 0, .int .i64 0] 79 := Blk.below (blk2' _ _ _ _ _) hb (by simp)
  have hS : Blk w1 w.heap.size #[.slice oa n cp, .int .u32 (last : Int), .int .i64 max] 79 := Blk.below (blk2 _ _ _ _ _) hb (by simp; omega)
  have hO : Below w.heap.size w w1 := (((Below.refl _ _).alloc (Nat.le_refl _) _).alloc (by simp) _).trans (hb.mono (by simp; omega))
  have x1 : w1.cell? ⟨w.heap.size, 1, none⟩ = some (.int .u32 (last : Int)) := Blk.cell hS 1
  have s0 : w1.cell? ⟨w.heap.size + 1, 0, none⟩ = some (.slice none 0 0) := Blk.cell hX 0
  have z0 : w1.frozen? ⟨w.heap.size + 1, 0, none⟩ = false := Blk.free hX 0
  have s1 : w1.cell? ⟨w.heap.size + 1, 1, none⟩ = some (.int .u32 0) := Blk.cell hX 1
  have z1 : w1.frozen? ⟨w.heap.size + 1, 1, none⟩ = false := Blk.free hX 1
  have s2 : w1.cell? ⟨w.heap.size + 1, 2, none⟩ = some (.int .i64 0) := Blk.cell hX 2
  have z2 : w1.frozen? ⟨w.heap.size + 1, 2, none⟩ = false := Blk.free hX 2
  have a0 : (w1.setCell ⟨w.heap.size + 1, 0, none⟩ (.slice none 0 0)).cell? ⟨w.heap.size + 1, 0, none⟩ = some (.slice none 0 0) := Blk.cell (Blk.set hX 0 _) 0
  have a1 : ((w1.setCell ⟨w.heap.size + 1, 0, none⟩ (.slice none 0 0)).setCell ⟨w.heap.size + 1, 1, none⟩ (.int .u32 0)).cell? ⟨w.heap.size + 1, 1, none⟩ = some (.int .u32 0) := Blk.cell (Blk.set (Blk.set hX 0 _) 1 _) 1
  have a2 : (((w1.setCell ⟨w.heap.size + 1, 0, none⟩ (.slice none 0 0)).setCell ⟨w.heap.size + 1, 1, none⟩ (.int .u32 0)).setCell ⟨w.heap.size + 1, 2, none⟩ (.int .i64 0)).cell? ⟨w.heap.size + 1, 2, none⟩ = some (.int .i64 0) := Blk.cell (Blk.set (Blk.set (Blk.set hX 0 _) 1 _) 2 _) 2
  have A0 := Lib.hid a0
  have A1 := Lib.hid a1
  have A2 := Lib.hid a2
  clear a0 a1 a2
  have HO := Lib.hid hO
  clear hX hb hO hS
  go_wp2_with fail
  refine bodyPost_ret (v := .tuple #[.agg #[.slice none 0 0, .int .u32 0, .int .i64 0], .iface 146 (.int .i64 19)]) ?_ rfl ⟨rfl, ?_⟩
  · simp [results, Tryd.results43, go_sem, A0.out, A1.out, A2.out]
  · exact (((HO.out).setCell (by simp) _).setCell (by simp) _).setCell (by simp) _
theorem putV_at {V : Nat → Ver} {s m : Nat} {x : Ver} : putV V s m x m = x := if_pos rfl
theorem below_drew' {B : Nat} {a w : World} (h : Below B a w) : Below B a w.drew := ⟨h.os, h.tape, h.output, h.size, h.block⟩
theorem away_new {v : Value} {H : Nat} {od : Option Addr} {dl cap : Nat} {a b c : Int} (h1 : ∀ q, v.ownBlock = some q → q < H) (h2 : ∀ x, od = some x → H ≤ x.block) : Away v [.int .u32 a, .slice od dl cap, .int .u64 b, .int .i64 c] := fun x l cp hm _ hq => by
  simp at hm
  have := h2 x hm.1.symm
  have := h1 _ hq
  omega
end Go.Proofs.YtkaddilgegimjaaDoor
