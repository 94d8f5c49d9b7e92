/- A key found by its term. A ring from its bytes. -/
import Derived.Laws.Cover3
import Derived.Test.YtncfocjmdecapaaGreatDoorZB0
import Derived.Test.YtncfocjmdecapaaGreatDoorZS1
import Derived.Test.YtncfocjmdecapaaGreatDoorZS2
import Derived.Test.YtncfocjmdecapaaGreatDoorZSh4
import Derived.Test.YtncfocjmdecapaaGreatDoorZA0
import Derived.Test.YtncfocjmdecapaaGreatDoorZS5
import Derived.Test.YtncfocjmdecapaaGreatDoorZSh7
import Derived.Test.YtncfocjmdecapaaGreatDoorZS8
import Derived.Test.YtncfocjmdecapaaGreatDoorZHm2
import Derived.Test.YtncfocjmdecapaaGreatDoorZR0
import Derived.Test.YtncfocjmdecapaaGreatDoorZK0
import Derived.Test.YtncfocjmdecapaaGreatDoorZK1
import Derived.Test.YtncfocjmdecapaaGreatDoorZK4
import Derived.Test.YtncfocjmdecapaaGreatDoorZKr5
namespace Go.Proofs.YtncfocjmdecapaaGreatDoor
set_option linter.unusedVariables false
set_option linter.unusedSimpArgs false
open Go.RowKit
/-- Between two rounds. -/
structure FV (n cs : Nat) (oa : Option Addr) (N : Nat → Nat) (t b3 b4 b5 Bn : Nat) (w : World) (i : Nat) (A : World) : Prop where
  tm : Blk A b3 #[.int .u32 (t : Int)] 23
  ky : Blk A b4 zeroA 22
  er : Blk A b5 #[.nilIface] 26
  rng : Blk A Bn #[.slice oa n cs] 32
  bel : Below w.heap.size w A
  no : ∀ j, j < i → N j ≠ t
theorem FV.drew {n cs t b3 b4 b5 Bn i : Nat} {oa : Option Addr} {N : Nat → Nat} {w A : World} (h : FV n cs oa N t b3 b4 b5 Bn w i A) : FV n cs oa N t b3 b4 b5 Bn w i A.drew := ⟨h.tm, h.ky, h.er, h.rng, h.bel.drew, h.no⟩
theorem FV.later {n cs t b3 b4 b5 Bn i : Nat} {oa : Option Addr} {N : Nat → Nat} {w A A' : World} (h : FV n cs oa N t b3 b4 b5 Bn w i A) (hb : Below A.heap.size A A') : FV n cs oa N t b3 b4 b5 Bn w i A' :=
  ⟨Blk.below h.tm hb (Blk.lt h.tm), Blk.below h.ky hb (Blk.lt h.ky), Blk.below h.er hb (Blk.lt h.er), Blk.below h.rng hb (Blk.lt h.rng), h.bel.trans (hb.mono h.bel.size), h.no⟩
end Go.Proofs.YtncfocjmdecapaaGreatDoor
namespace Go.Proofs.YtncfocjmdecapaaGreatDoor
set_option linter.unusedVariables false
set_option linter.unusedSimpArgs false
open Go.RowKit
theorem exec_s2a22 {o : Oper} {a : Act} {w : World} {x : Operand} {oa : Option Addr} {len cap : Nat} (ho : o.op = .sliceToArrayPointer 22 x) (hx : a.eval x = .slice oa len cap) (hn : 32 ≤ len) : (execOp a.eval o).run Tryz.prog w = .ok (.value (.pointer oa)) w := by
  unfold execOp
  simp only [ho, hx, Sem.run_bind, run_arrayAt w 22 5 32 oa len cap Tryz.underlying22 hn, Result.andThen_ok]
  rfl
/-- Bytes that are a ring's. -/
def IsRing (m : Nat) (B : Nat → Nat) : Prop := 3 ≤ m ∧ B 0 = 107 ∧ B 1 = 114 ∧ 1 ≤ B 2 ∧ B 2 ≤ 16 ∧ m = 3 + 32 * B 2
/-- What Decode answers. -/
def DecR (m : Nat) (B : Nat → Nat) (w : World) (e : Ending) (w' : World) : Prop := Below w.heap.size w w' ∧
  ((e = .returned (.tuple #[.agg #[.slice none 0 0], .iface 53 (.int .i64 4)]) ∧ ¬ IsRing m B) ∨
   (IsRing m B ∧ ∃ o c, e = .returned (.tuple #[.agg #[.slice o (B 2) c], .nilIface]) ∧ TL w' o (B 2) (fun i => i + 1) (fun i j => B (3 + 32 * i + j))))
theorem DecR.no {m : Nat} {B : Nat → Nat} {w w' : World} (h : ¬ IsRing m B) (hb : Below w.heap.size w w') : DecR m B w (.returned (.tuple #[.agg #[.slice none 0 0], .iface 53 (.int .i64 4)])) w' := ⟨hb, .inl ⟨rfl, h⟩⟩
theorem DecR.ok {m : Nat} {B : Nat → Nat} {w w' : World} {o : Option Addr} {c : Nat} (h : IsRing m B) (hb : Below w.heap.size w w') (hT : TL w' o (B 2) (fun i => i + 1) (fun i j => B (3 + 32 * i + j))) : DecR m B w (.returned (.tuple #[.agg #[.slice o (B 2) c], .nilIface])) w' := ⟨hb, .inr ⟨h, o, c, rfl, hT⟩⟩
/-- While the terms come. -/
structure DV (B : Nat → Nat) (b2 b5 base : Nat) (w : World) (i : Nat) (v r : Value) (A : World) : Prop where
  row : TO 37 A base v i (fun i => i + 1) (fun i j => B (3 + 32 * i + j))
  c5 : Blk A b5 #[r] 32
  c2 : Blk A b2 #[.slice none 0 0] 32
  bel : Below w.heap.size w A
  sz : base ≤ A.heap.size
theorem DV.later {B : Nat → Nat} {b2 b5 base i : Nat} {v r : Value} {w A A' : World} (h : DV B b2 b5 base w i v r A) (hb : Below A.heap.size A A') : DV B b2 b5 base w i v r A' :=
  ⟨h.row.later hb, Blk.below h.c5 hb (Blk.lt h.c5), Blk.below h.c2 hb (Blk.lt h.c2), h.bel.trans (hb.mono h.bel.size), Nat.le_trans h.sz hb.size⟩
theorem DV.grew {B : Nat → Nat} {b2 b5 base i i' : Nat} {v v' r : Value} {w A A' : World} (h : DV B b2 b5 base w i v r A) (hB : w.heap.size ≤ b2 ∧ b2 < b5 ∧ b5 < base) (hg : A.grownBy A' v.ownBlock) (hb : Below base A A') (hr : TO 37 A' base v' i' (fun i => i + 1) (fun i j => B (3 + 32 * i + j))) : DV B b2 b5 base w i' v' r A' :=
  ⟨hr, Blk.below h.c5 hb hB.2.2, Blk.below h.c2 hb (by omega), h.bel.trans (hb.mono (by omega)), Nat.le_trans h.sz hg.size⟩
theorem TO.own {T b base n : Nat} {v : Value} {N : Nat → Nat} {S : Nat → Nat → Nat} {w w' : World} (h : TO T w base v n N S) (hO : Own b w w') (hb : b < base) : TO T w' base v n N S :=
  owns_own h hO hb
theorem DV.put {B : Nat → Nat} {b2 b5 base i : Nat} {v r : Value} {w A : World} (h : DV B b2 b5 base w i v r A) (hB : w.heap.size ≤ b2 ∧ b2 < b5 ∧ b5 < base) : DV B b2 b5 base w i v v (A.setCell ⟨b5, 0, none⟩ v) := by
  have hO := (Own.refl b5 A).set 0 v
  exact ⟨h.row.own hO hB.2.2, h.c5.set 0 v, hO.blk h.c2 (by omega), h.bel.trans (hO.below (by omega) h.bel.size), Nat.le_trans h.sz hO.size⟩
set_option maxRecDepth 100000 in
set_option maxHeartbeats 8000000 in
theorem decode_any (m cb : Nat) (ob : Option Addr) (B : Nat → Nat) (w : World) (hB : Bytes w ob m B) (hm : m ≤ cb) (hs : m < 1000000) :
    Calls Tryz.prog 25 #[.slice ob m cb] w (DecR m B w) := by
  obtain ⟨b2, hb2⟩ : ∃ q, w.heap.size = q := ⟨_, rfl⟩
  obtain ⟨w0, hw0⟩ : ∃ q, w.alloc (.cells #[.slice none 0 0] 32) = q := ⟨_, rfl⟩
  have hb0 : Below w.heap.size w w0 := by rw [← hw0]; exact (Below.refl _ _).alloc (Nat.le_refl _) _
  have hZ : Blk w0 b2 #[.slice none 0 0] 32 := by rw [← hw0, ← hb2]; exact Blk.new _ _ _
  have c2 : w0.cell? ⟨b2, 0, none⟩ = some (.slice none 0 0) := by rw [Blk.cell hZ]; rfl
  have f2 : w0.frozen? ⟨b2, 0, none⟩ = false := Blk.free hZ 0
  have HX : Hid (Blk (w0.setCell ⟨b2, 0, none⟩ (.slice none 0 0)) b2 #[.slice none 0 0] 32) := Lib.hid (hZ.set 0 _)
  have HBX : Hid (Below w.heap.size w (w0.setCell ⟨b2, 0, none⟩ (.slice none 0 0))) := Lib.hid (hb0.trans (((Own.refl b2 w0).set 0 _).below (Nat.le_of_eq hb2) hb0.size))
  have HZ := Lib.hid hZ
  have HB0 := Lib.hid hb0
  have HW2 := Lib.hid hb2
  have HBW := Lib.hid hB
  have hB0 := hB.later hb0
  have HBY := Lib.hid hB0
  clear hb0 hZ hB
  by_cases g : m < 3
  · have hno : ¬ IsRing m B := fun h => by have := h.1; omega
    have g1 : (m : Int) < (3 : Int) := by omega
    have g2 : decide ((m : Int) < (3 : Int)) = true := decide_eq_true g1
    have g7 : m < 3 := by omega
    have g8 : decide (m < 3) = true := decide_eq_true g7
    clear hB0 hs
    go_enter Tryz.func25, Tryz.ntmps25
    go_wp2_with fail
    refine bodyPost_ret (v := .tuple #[.agg #[.slice none 0 0], .iface 53 (.int .i64 4)]) ?_ rfl (DecR.no hno HBX.out)
    exact results_cell_tmp1 (q := 3) Tryz.results25 _ _ b2 32 #[.slice none 0 0] (0, 0) _ rfl HX.out Tryz.underlying32 rfl (info_rg _)
  obtain ⟨_, bo, oo, e, x0⟩ := hB0 0 (by omega)
  subst e
  rw [Nat.add_zero] at x0
  obtain ⟨l1, _, _, e, x1⟩ := hB0 1 (by omega)
  cases e
  obtain ⟨l2, _, _, e, x2⟩ := hB0 2 (by omega)
  cases e
  obtain ⟨a0, ha0⟩ : ∃ q, B 0 = q := ⟨_, rfl⟩
  obtain ⟨a1, ha1⟩ : ∃ q, B 1 = q := ⟨_, rfl⟩
  obtain ⟨a2, ha2⟩ : ∃ q, B 2 = q := ⟨_, rfl⟩
  rw [ha0] at x0
  rw [ha1] at x1 l1
  rw [ha2] at x2 l2
  have HA := Lib.hid (And.intro ha0 (And.intro ha1 ha2))
  have g1 : ¬ (m : Int) < (3 : Int) := by omega
  have g2 : decide ((m : Int) < (3 : Int)) = false := decide_eq_false g1
  have g7 : ¬ m < 3 := by omega
  have g8 : decide (m < 3) = false := decide_eq_false g7
  have i0 : (0 : Int) < (m : Int) := by omega
  have i1 : (1 : Int) < (m : Int) := by omega
  have i2 : (2 : Int) < (m : Int) := by omega
  have n0 : 0 < m := by omega
  have n1 : 1 < m := by omega
  have n2 : 2 < m := by omega
  have HL := Lib.hid (And.intro l1 l2)
  have HG := Lib.hid (show 3 ≤ m by omega)
  clear hB0 ha0 ha1 ha2 hs
  by_cases k0 : a0 = 107
  case neg =>
    have hno : ¬ IsRing m B := fun h => k0 (by have := h.2.1; have := HA.out; omega)
    have u1 : ¬ (a0 : Int) = 107 := by omega
    have u2 : decide ((a0 : Int) = 107) = false := decide_eq_false u1
    have u3 : ((a0 : Int) == 107) = false := by simp only [beq_eq_false_iff_ne]; exact u1
    have u4 : decide (a0 = 107) = false := decide_eq_false (by omega)
    have u5 : (a0 == 107) = false := by simp only [beq_eq_false_iff_ne]; omega
    have u6 : ¬ a0 = 107 := by omega
    go_enter Tryz.func25, Tryz.ntmps25
    go_wp2_with fail
    refine bodyPost_ret (v := .tuple #[.agg #[.slice none 0 0], .iface 53 (.int .i64 4)]) ?_ rfl (DecR.no hno HBX.out)
    exact results_cell_tmp1 (q := 3) Tryz.results25 _ _ b2 32 #[.slice none 0 0] (0, 0) _ rfl HX.out Tryz.underlying32 rfl (info_rg _)
  have u1 : (a0 : Int) = 107 := by omega
  have u2 : decide ((a0 : Int) = 107) = true := decide_eq_true u1
  have u3 : ((a0 : Int) == 107) = true := by simp only [beq_iff_eq]; exact u1
  have u4 : decide (a0 = 107) = true := decide_eq_true (by omega)
  have u5 : (a0 == 107) = true := by simp only [beq_iff_eq]; omega
  by_cases k1 : a1 = 114
  case neg =>
    have hno : ¬ IsRing m B := fun h => k1 (by have := h.2.2.1; have := HA.out; omega)
    have v1 : ¬ (a1 : Int) = 114 := by omega
    have v2 : decide ((a1 : Int) = 114) = false := decide_eq_false v1
    have v3 : ((a1 : Int) == 114) = false := by simp only [beq_eq_false_iff_ne]; exact v1
    have v4 : decide (a1 = 114) = false := decide_eq_false (by omega)
    have v5 : (a1 == 114) = false := by simp only [beq_eq_false_iff_ne]; omega
    have v6 : ¬ a1 = 114 := by omega
    go_enter Tryz.func25, Tryz.ntmps25
    go_wp2_with fail
    refine bodyPost_ret (v := .tuple #[.agg #[.slice none 0 0], .iface 53 (.int .i64 4)]) ?_ rfl (DecR.no hno HBX.out)
    exact results_cell_tmp1 (q := 3) Tryz.results25 _ _ b2 32 #[.slice none 0 0] (0, 0) _ rfl HX.out Tryz.underlying32 rfl (info_rg _)
  have v1 : (a1 : Int) = 114 := by omega
  have v2 : decide ((a1 : Int) = 114) = true := decide_eq_true v1
  have v3 : ((a1 : Int) == 114) = true := by simp only [beq_iff_eq]; exact v1
  have v4 : decide (a1 = 114) = true := decide_eq_true (by omega)
  have v5 : (a1 == 114) = true := by simp only [beq_iff_eq]; omega
  have kc : IntKind.i64.wrap (a2 : Int) = (a2 : Int) := IntWalk.i64_in _ (by have := HL.out; omega)
  by_cases k2 : a2 < 1
  case pos =>
    have hno : ¬ IsRing m B := fun h => by have := h.2.2.2.1; have := HA.out; omega
    have p1 : (a2 : Int) < (1 : Int) := by omega
    have p2 : decide ((a2 : Int) < (1 : Int)) = true := decide_eq_true p1
    have p7 : a2 < 1 := by omega
    have p8 : decide (a2 < 1) = true := decide_eq_true p7
    go_enter Tryz.func25, Tryz.ntmps25
    go_wp2_with fail
    refine bodyPost_ret (v := .tuple #[.agg #[.slice none 0 0], .iface 53 (.int .i64 4)]) ?_ rfl (DecR.no hno HBX.out)
    exact results_cell_tmp1 (q := 3) Tryz.results25 _ _ b2 32 #[.slice none 0 0] (0, 0) _ rfl HX.out Tryz.underlying32 rfl (info_rg _)
  have p1 : ¬ (a2 : Int) < (1 : Int) := by omega
  have p2 : decide ((a2 : Int) < (1 : Int)) = false := decide_eq_false p1
  have p7 : ¬ a2 < 1 := by omega
  have p8 : decide (a2 < 1) = false := decide_eq_false p7
  by_cases k3 : 16 < a2
  case pos =>
    have hno : ¬ IsRing m B := fun h => by have := h.2.2.2.2.1; have := HA.out; omega
    have q1 : (16 : Int) < (a2 : Int) := by omega
    have q2 : decide ((16 : Int) < (a2 : Int)) = true := decide_eq_true q1
    have q7 : 16 < a2 := by omega
    have q8 : decide (16 < a2) = true := decide_eq_true q7
    go_enter Tryz.func25, Tryz.ntmps25
    go_wp2_with fail
    refine bodyPost_ret (v := .tuple #[.agg #[.slice none 0 0], .iface 53 (.int .i64 4)]) ?_ rfl (DecR.no hno HBX.out)
    exact results_cell_tmp1 (q := 3) Tryz.results25 _ _ b2 32 #[.slice none 0 0] (0, 0) _ rfl HX.out Tryz.underlying32 rfl (info_rg _)
  have q1 : ¬ (16 : Int) < (a2 : Int) := by omega
  have q2 : decide ((16 : Int) < (a2 : Int)) = false := decide_eq_false q1
  have q7 : ¬ 16 < a2 := by omega
  have q8 : decide (16 < a2) = false := decide_eq_false q7
  obtain ⟨M32, hM32⟩ : ∃ q, a2 * 32 = q := ⟨_, rfl⟩
  obtain ⟨LL, hLL⟩ : ∃ q, 3 + M32 = q := ⟨_, rfl⟩
  have km1 : (a2 : Int) * 32 = (M32 : Int) := by omega
  have km2 : IntKind.i64.wrap (M32 : Int) = (M32 : Int) := IntWalk.i64_in _ (by omega)
  have km3 : (3 : Int) + (M32 : Int) = (LL : Int) := by omega
  have km4 : IntKind.i64.wrap (LL : Int) = (LL : Int) := IntWalk.i64_in _ (by omega)
  by_cases k4 : m = LL
  case neg =>
    have hno : ¬ IsRing m B := fun h => k4 (by have := h.2.2.2.2.2; have := HA.out; omega)
    have r1 : ¬ (m : Int) = LL := by omega
    have r2 : decide ((m : Int) = LL) = false := decide_eq_false r1
    have r3 : ((m : Int) == LL) = false := by simp only [beq_eq_false_iff_ne]; exact r1
    have r4 : decide (m = LL) = false := decide_eq_false (by omega)
    have r5 : (m == LL) = false := by simp only [beq_eq_false_iff_ne]; omega
    have r6 : ¬ m = LL := by omega
    go_enter Tryz.func25, Tryz.ntmps25
    go_wp2_with fail
    refine bodyPost_ret (v := .tuple #[.agg #[.slice none 0 0], .iface 53 (.int .i64 4)]) ?_ rfl (DecR.no hno HBX.out)
    exact results_cell_tmp1 (q := 3) Tryz.results25 _ _ b2 32 #[.slice none 0 0] (0, 0) _ rfl HX.out Tryz.underlying32 rfl (info_rg _)
  have r1 : (m : Int) = LL := by omega
  have r2 : decide ((m : Int) = LL) = true := decide_eq_true r1
  have r3 : ((m : Int) == LL) = true := by simp only [beq_iff_eq]; exact r1
  have r4 : decide (m = LL) = true := decide_eq_true (by omega)
  have r5 : (m == LL) = true := by simp only [beq_iff_eq]; omega
  have s1 : ¬ (LL : Int) < (3 : Int) := by omega
  have s2 : decide ((LL : Int) < (3 : Int)) = false := decide_eq_false s1
  have s7 : ¬ LL < 3 := by omega
  have s8 : decide (LL < 3) = false := decide_eq_false s7
  have HOK : Hid (IsRing m B) := Lib.hid ⟨HG.out, by have := HA.out; omega, by have := HA.out; omega, by have := HA.out; omega, by have := HA.out; omega, by have := HA.out; omega⟩
  have HN := Lib.hid (show 1 ≤ a2 ∧ a2 ≤ 16 ∧ m = 3 + 32 * a2 ∧ m ≤ cb by omega)
  clear k0 k1 k2 k3 k4 hM32 hLL hm
  go_enter Tryz.func25, Tryz.ntmps25
  go_upto_region 6 with fail
  clear c2 f2 x0 x1 x2 i0 i1 i2 n0 n1 n2 kc km1 km2 km3 km4 r1 r2 r3 r4 r5 s1 s2 s7 s8 g1 g2 g7 g8 u1 u2 u3 u4 u5 v1 v2 v3 v4 v5 p1 p2 p7 p8 q1 q2 q7 q8
  obtain ⟨b5, hb5⟩ : ∃ q, w0.heap.size = q := ⟨_, rfl⟩
  obtain ⟨w1, hw1⟩ : ∃ q, w0.alloc (.cells #[.slice none 0 0] 32) = q := ⟨_, rfl⟩
  obtain ⟨base, hbase⟩ : ∃ q, w1.heap.size = q := ⟨_, rfl⟩
  have hb01 : Below w0.heap.size w0 w1 := by rw [← hw1]; exact (Below.refl _ _).alloc (Nat.le_refl _) _
  have hD1 : DV B b2 b5 base w 0 (.slice none 0 0) (.slice none 0 0) w1 := ⟨TO.nil _ _ _ _ _, by rw [← hw1, ← hb5]; exact Blk.new _ _ _, Blk.below HZ.out hb01 (Blk.lt HZ.out), HB0.out.trans (hb01.mono HB0.out.size), Nat.le_of_eq hbase.symm⟩
  have HBB := Lib.hid (show w.heap.size ≤ b2 ∧ b2 < b5 ∧ b5 < base from ⟨Nat.le_of_eq HW2.out, by have := Blk.lt HZ.out; omega, by have := Blk.lt hD1.c5; omega⟩)
  have HD1 := Lib.hid hD1
  clear hb01 hD1 hw0 hb2 hbase
  go_wp2_with fail
  go_loopw [46] (fun y wr => ∃ (i : Nat) (v : Value), i ≤ a2 ∧ y = .int .i64 (i : Int) ∧ DV B b2 b5 base w i v v wr) (fun y _ => a2 - (intOf y).toNat)
  case atStart => exact ⟨0, _, Nat.zero_le _, rfl, HD1.out⟩
  case round =>
    obtain ⟨i, v, hi, rfl, hDwr⟩ := hrel
    have HDW := Lib.hid hDwr
    by_cases hlt : i < a2
    · have HI := Lib.hid (show i < a2 ∧ i < 16 by have := HN.out; omega)
      have za1 : (i : Int) < (a2 : Int) := by omega
      have za2 : decide ((i : Int) < (a2 : Int)) = true := decide_eq_true za1
      have za7 : i < a2 := by omega
      have za8 : decide (i < a2) = true := decide_eq_true za7
      obtain ⟨i32, hi32⟩ : ∃ q, i * 32 = q := ⟨_, rfl⟩
      obtain ⟨at0, hat⟩ : ∃ q, 3 + i32 = q := ⟨_, rfl⟩
      obtain ⟨i1, hi1⟩ : ∃ q, i + 1 = q := ⟨_, rfl⟩
      obtain ⟨en, hen⟩ : ∃ q, at0 + 32 = q := ⟨_, rfl⟩
      have k1 : (i : Int) * 32 = (i32 : Int) := by omega
      have k2 : IntKind.i64.wrap (i32 : Int) = (i32 : Int) := IntWalk.i64_in _ (by have := HN.out; omega)
      have k3 : (3 : Int) + (i32 : Int) = (at0 : Int) := by omega
      have k4 : IntKind.i64.wrap (at0 : Int) = (at0 : Int) := IntWalk.i64_in _ (by have := HN.out; omega)
      have k5 : (i : Int) + 1 = (i1 : Int) := by omega
      have k6 : IntKind.i64.wrap (i1 : Int) = (i1 : Int) := IntWalk.i64_in _ (by have := HN.out; omega)
      have k7 : IntKind.u32.wrap (i1 : Int) = (i1 : Int) := IntWalk.u32_in _ (by have := HN.out; omega)
      have k8 : (at0 : Int) + 32 = (en : Int) := by omega
      have k9 : IntKind.i64.wrap (en : Int) = (en : Int) := IntWalk.i64_in _ (by have := HN.out; omega)
      have e1 : (0 : Int) ≤ (at0 : Int) := by omega
      have e2 : (at0 : Int) ≤ (en : Int) := by omega
      have e3 : (en : Int) ≤ (cb : Int) := by have := HN.out; omega
      have e4 : ¬ cb = at0 := by have := HN.out; omega
      have e5 : en - at0 = 32 := by omega
      obtain ⟨Ky, hKy⟩ : ∃ q, (fun j => B (at0 + j)) = q := ⟨_, rfl⟩
      obtain ⟨F, hF⟩ : ∃ q, (rowC 32 Ky).toArray = q := ⟨_, rfl⟩
      obtain ⟨C, hC⟩ : ∃ q, (tmL i1 Ky).toArray = q := ⟨_, rfl⟩
      have HCC := Lib.hid hC
      have HIF : Hid ((Tryz.prog.info? 22).map (·.size) = some F.size) := Lib.hid (by rw [← hF, List.size_toArray, rowC_len]; exact info_a32)
      have HBT : Hid (∀ w, (Instr.build 37 #[(0, .int .u32 (i1 : Int)), (1, .agg F)]).run Tryz.prog w = .ok (.agg C) w) := Lib.hid (by rw [← hF, ← hC]; exact build_t1 i1 Ky)
      have HBS : Hid (∀ w, (Instr.buildSlice 30 1 #[(0, .agg C)]).run Tryz.prog w = .ok (.slice (some ⟨w.heap.size, 0, none⟩) 1 1) (w.alloc (.cells C 37))) := Lib.hid (by rw [← hC]; exact bs_t1 i1 Ky)
      have HRF : Hid (∀ A, Below w.heap.size w A → A.rangeAt bo (oo + at0) F.toList) := Lib.hid fun A hA j u hu => by
        rw [← hF] at hu
        have hj : j < 32 := by have := (List.getElem?_eq_some_iff.1 hu).1; simpa [rowC_len] using this
        have hu' : (rowC 32 Ky)[j]? = some u := by simpa using hu
        rw [rowC_get Ky hj] at hu'
        cases hu'
        obtain ⟨_, _, _, e, hc⟩ := (HBW.out.later hA) (at0 + j) (by have := HN.out; omega)
        cases e
        rw [← hKy, Nat.add_assoc]; exact hc
      have HCG : Hid (∀ (A : World) (v' : Value), TO 37 A base v' (i + 1) (catN i (fun i => i + 1) (fun _ => i1)) (catT i (fun i j => B (3 + 32 * i + j)) (fun _ => Ky)) → TO 37 A base v' (i + 1) (fun i => i + 1) (fun i j => B (3 + 32 * i + j))) := Lib.hid fun A v' h => h.congr fun q hq => by
        unfold catN catT
        by_cases e : q < i
        · rw [if_pos e, if_pos e]; exact ⟨rfl, rfl⟩
        · obtain rfl : q = i := by omega
          rw [if_neg e, if_neg e]
          exact ⟨by show i1 = q + 1; omega, by rw [← hKy]; funext j; rw [show at0 = 3 + 32 * q by omega]⟩
      clear hi32 hat hi1 hen hKy hF hC hlt hi hDwr
      go_upto_region 11 with fail
      have hDW0 : DV B b2 b5 base w i v v wr.drew := HDW.out.later (Below.refl _ _).drew
      have hSW0 : wr.drew.rangeAt bo (oo + at0) F.toList := HRF.out _ hDW0.bel
      refine wp_region_held_drew (S := (fun A => A.rangeAt bo (oo + at0) F.toList)) (by kernel_rfl) ?_ (fun hHeld => ?_)
      · (try dsimp only)
        (first | assumption | (dsimp only; assumption))
      generalize wr.drew = W0 at *
      refine wpAnyH_take (i := 0) (oi := { dst := some 52, op := Go.Op.fieldAddr 32 (Go.Operand.tmp 5) 0, type := 0, pos := "keyring.go:107", after := #[], guard := none }) (v := ?_) rfl (by kernel_rfl) (by kernel_rfl) (by kernel_rfl) (fun _ _ _ h => h) (Or.inl ⟨by rfl, ?_⟩) (by assumption) ?_
      rotate_left
      · intro wS hSw
        (try dsimp only at hSw)
        go_simp
        (try with_reducible rfl)
      (try simp only [Act.put, List.setIfInBounds_toArray, List.set_cons_zero, List.set_cons_succ])
      refine wpAnyH_take (i := 2) (oi := { dst := some 54, op := Go.Op.move (Go.Operand.tmp 6), type := 3, pos := "keyring.go:107", after := #[], guard := none }) (v := ?_) rfl (by kernel_rfl) (by kernel_rfl) (by kernel_rfl) (fun _ _ _ h => h) (Or.inl ⟨by rfl, ?_⟩) (by assumption) ?_
      rotate_left
      · intro wS hSw
        (try dsimp only at hSw)
        go_simp
        (try with_reducible rfl)
      (try simp only [Act.put, List.setIfInBounds_toArray, List.set_cons_zero, List.set_cons_succ])
      refine wpAnyH_take (i := 3) (oi := { dst := some 55, op := Go.Op.binOp Go.BinOp.add 3 (Go.Operand.tmp 54) (Go.Operand.const (Go.Value.int Go.IntKind.i64 1)) 3, type := 3, pos := "keyring.go:107", after := #[{ on := 2, ground := Go.Ground.data }], guard := none }) (v := ?_) rfl (by kernel_rfl) (by kernel_rfl) (by kernel_rfl) (fun _ _ _ h => h) (Or.inl ⟨by rfl, ?_⟩) (by assumption) ?_
      rotate_left
      · intro wS hSw
        (try dsimp only at hSw)
        go_simp
        (try with_reducible rfl)
      (try simp only [Act.put, List.setIfInBounds_toArray, List.set_cons_zero, List.set_cons_succ])
      refine wpAnyH_take (i := 4) (oi := { dst := some 56, op := Go.Op.convert 3 23 (Go.Operand.tmp 55), type := 23, pos := "keyring.go:107", after := #[{ on := 3, ground := Go.Ground.data }], guard := none }) (v := ?_) rfl (by kernel_rfl) (by kernel_rfl) (by kernel_rfl) (fun _ _ _ h => h) (Or.inl ⟨by rfl, ?_⟩) (by assumption) ?_
      rotate_left
      · intro wS hSw
        (try dsimp only at hSw)
        go_simp
        (try with_reducible rfl)
      (try simp only [Act.put, List.setIfInBounds_toArray, List.set_cons_zero, List.set_cons_succ])
      refine wpAnyH_take (i := 5) (oi := { dst := some 57, op := Go.Op.move (Go.Operand.tmp 0), type := 24, pos := "keyring.go:107", after := #[], guard := none }) (v := ?_) rfl (by kernel_rfl) (by kernel_rfl) (by kernel_rfl) (fun _ _ _ h => h) (Or.inl ⟨by rfl, ?_⟩) (by assumption) ?_
      rotate_left
      · intro wS hSw
        (try dsimp only at hSw)
        go_simp
        (try with_reducible rfl)
      (try simp only [Act.put, List.setIfInBounds_toArray, List.set_cons_zero, List.set_cons_succ])
      refine wpAnyH_take (i := 6) (oi := { dst := some 58, op := Go.Op.move (Go.Operand.tmp 7), type := 3, pos := "keyring.go:107", after := #[], guard := none }) (v := ?_) rfl (by kernel_rfl) (by kernel_rfl) (by kernel_rfl) (fun _ _ _ h => h) (Or.inl ⟨by rfl, ?_⟩) (by assumption) ?_
      rotate_left
      · intro wS hSw
        (try dsimp only at hSw)
        go_simp
        (try with_reducible rfl)
      (try simp only [Act.put, List.setIfInBounds_toArray, List.set_cons_zero, List.set_cons_succ])
      refine wpAnyH_take (i := 7) (oi := { dst := some 59, op := Go.Op.move (Go.Operand.tmp 7), type := 3, pos := "keyring.go:107", after := #[], guard := none }) (v := ?_) rfl (by kernel_rfl) (by kernel_rfl) (by kernel_rfl) (fun _ _ _ h => h) (Or.inl ⟨by rfl, ?_⟩) (by assumption) ?_
      rotate_left
      · intro wS hSw
        (try dsimp only at hSw)
        go_simp
        (try with_reducible rfl)
      (try simp only [Act.put, List.setIfInBounds_toArray, List.set_cons_zero, List.set_cons_succ])
      refine wpAnyH_take (i := 8) (oi := { dst := some 60, op := Go.Op.binOp Go.BinOp.add 3 (Go.Operand.tmp 59) (Go.Operand.const (Go.Value.int Go.IntKind.i64 32)) 3, type := 3, pos := "keyring.go:107", after := #[{ on := 7, ground := Go.Ground.data }], guard := none }) (v := ?_) rfl (by kernel_rfl) (by kernel_rfl) (by kernel_rfl) (fun _ _ _ h => h) (Or.inl ⟨by rfl, ?_⟩) (by assumption) ?_
      rotate_left
      · intro wS hSw
        (try dsimp only at hSw)
        go_simp
        (try with_reducible rfl)
      (try simp only [Act.put, List.setIfInBounds_toArray, List.set_cons_zero, List.set_cons_succ])
      refine wpAnyH_take (i := 9) (oi := { dst := some 61, op := Go.Op.slice 24 (Go.Operand.tmp 57) (some (Go.Operand.tmp 58)) (some (Go.Operand.tmp 60)) none, type := 24, pos := "keyring.go:107", after := #[{ on := 5, ground := Go.Ground.data }, { on := 6, ground := Go.Ground.data }, { on := 8, ground := Go.Ground.data }], guard := none }) (v := ?_) rfl (by kernel_rfl) (by kernel_rfl) (by kernel_rfl) (fun _ _ _ h => h) (Or.inl ⟨by rfl, ?_⟩) (by assumption) ?_
      rotate_left
      · intro wS hSw
        (try dsimp only at hSw)
        go_simp
        (try with_reducible rfl)
      (try simp only [Act.put, List.setIfInBounds_toArray, List.set_cons_zero, List.set_cons_succ])
      refine wpAnyH_take (i := 10) (oi := { dst := some 62, op := Go.Op.sliceToArrayPointer 22 (Go.Operand.tmp 61), type := 0, pos := "keyring.go:107", after := #[{ on := 9, ground := Go.Ground.data }], guard := none }) (v := ?_) rfl (by kernel_rfl) (by kernel_rfl) (by kernel_rfl) (fun _ _ _ h => h) (Or.inl ⟨by rfl, ?_⟩) (by assumption) ?_
      rotate_left
      · intro wS hSw
        (refine exec_s2a22 (x := .tmp 61) (oa := some ⟨bo, oo + at0, none⟩) (len := 32) (cap := cb - at0) ?_ ?_ (by decide) <;> rfl)
      (try simp only [Act.put, List.setIfInBounds_toArray, List.set_cons_zero, List.set_cons_succ])
      refine wpAnyH_take (i := 11) (oi := { dst := some 63, op := Go.Op.load 22 (Go.Operand.tmp 62), type := 22, pos := "keyring.go:107", after := #[{ on := 10, ground := Go.Ground.data }], guard := none }) (v := ?_) rfl (by kernel_rfl) (by kernel_rfl) (by kernel_rfl) (fun _ _ _ h => h) (Or.inl ⟨by rfl, ?_⟩) (by assumption) ?_
      rotate_left
      · intro wS hSw
        (refine exec_loadA (x := .tmp 62) (C := F) ?_ ?_ hSw Tryz.underlying22 rfl HIF.out <;> rfl)
      (try simp only [Act.put, List.setIfInBounds_toArray, List.set_cons_zero, List.set_cons_succ])
      refine wpAnyH_take (i := 12) (oi := { dst := some 64, op := Go.Op.build 37 #[(0, Go.Operand.tmp 56), (1, Go.Operand.tmp 63)], type := 37, pos := "keyring.go:107", after := #[{ on := 4, ground := Go.Ground.data }, { on := 11, ground := Go.Ground.data }], guard := none }) (v := ?_) rfl (by kernel_rfl) (by kernel_rfl) (by kernel_rfl) (fun _ _ _ h => h) (Or.inl ⟨by rfl, ?_⟩) (by assumption) ?_
      rotate_left
      · intro wS hSw
        (refine exec_buildM (parts := #[(0, .tmp 56), (1, .tmp 63)]) (ps := #[(0, .int .u32 (i1 : Int)), (1, .agg F)]) ?_ ?_ HBT.out <;> (first | rfl | (simp [Act.eval]; done) | (go_simp; done)))
      (try simp only [Act.put, List.setIfInBounds_toArray, List.set_cons_zero, List.set_cons_succ])
      refine wpAnyH_ready (rs := [1, 13]) (by kernel_rfl) (by simp) ?_
      refine AllReadyH.cons (o := { dst := some 53, op := Go.Op.load 30 (Go.Operand.tmp 52), type := 30, pos := "keyring.go:107", after := #[{ on := 0, ground := Go.Ground.data }], guard := none }) rfl (fun K hK => ?_) ?_
      · skip
        (have c5 : W0.cell? ⟨b5, 0, none⟩ = some v := (by rw [Blk.cell hDW0.c5]; rfl); go_simp; clear c5; skip)
        refine hK.out _ _ ?_ (fun hHeld => ?_)
        · (try dsimp only)
          (first | assumption | (dsimp only; assumption))
        clear hK K
        (try simp only [Act.put, List.setIfInBounds_toArray, List.set_cons_zero, List.set_cons_succ])
        refine wpAnyH_ready (rs := [13]) (by kernel_rfl) (by simp) ?_
        refine AllReadyH.cons (o := { dst := some 65, op := Go.Op.buildSlice 30 1 #[(0, Go.Operand.tmp 64)], type := 30, pos := "keyring.go:107", after := #[{ on := 12, ground := Go.Ground.data }], guard := none }) rfl (fun K hK => ?_) AllReadyH.nil
        (refine step_bs1 rfl (.tmp 64) rfl C rfl HBS.out ?_; obtain ⟨VBx1, hw⟩ : ∃ q, W0.alloc (.cells C 37) = q := ⟨_, rfl⟩; rw [hw]; have hv : Below W0.heap.size W0 VBx1 := (by rw [← hw]; exact (Below.refl _ _).alloc (Nat.le_refl _) _); have hDVBx1 := hDW0.later hv; have HTN : Hid (TL VBx1 (some ⟨W0.heap.size, 0, none⟩) 1 (fun _ => i1) (fun _ => Ky)) := Lib.hid (by have h9 : Blk VBx1 W0.heap.size C 37 := (by rw [← hw]; exact Blk.new _ _ _); rw [← HCC.out] at h9; exact TL.one h9); have hSVBx1 : VBx1.rangeAt bo (oo + at0) F.toList := HRF.out _ hDVBx1.bel; clear hv hw; skip)
        refine hK.out _ _ ?_ (fun hHeld => ?_)
        · (try dsimp only)
          (first | assumption | (dsimp only; assumption))
        clear hK K
        (try simp only [Act.put, List.setIfInBounds_toArray, List.set_cons_zero, List.set_cons_succ])
        refine wpAnyH_ready (rs := [14]) (by kernel_rfl) (by simp) ?_
        refine AllReadyH.cons (o := { dst := some 66, op := Go.Op.call { callee := Go.Callee.builtin Go.Builtin.append, args := #[Go.Operand.tmp 53, Go.Operand.tmp 65], argTypes := #[30, 30] }, type := 30, pos := "keyring.go:107", after := #[{ on := 1, ground := Go.Ground.data }, { on := 13, ground := Go.Ground.data }], guard := none }) rfl (fun K hK => ?_) AllReadyH.nil
        (refine step_TO und_ts info_f1 rfl (.tmp 53) (.tmp 65) rfl base v i 1 1 (fun i => i + 1) (fun _ => i1) (fun i j => B (3 + 32 * i + j)) (fun _ => Ky) (some ⟨W0.heap.size, 0, none⟩) VBx1 rfl hDVBx1.row rfl HTN.out (fun e => by cases e) (by have := HI.out; omega) hDVBx1.sz ?_; intro v2 W2 hto2 hb2 hg2; have hD2 := hDVBx1.grew HBB.out hg2 hb2 (HCG.out _ _ hto2); obtain ⟨o2, cp2, hv2, -, -, -, -, -⟩ := hto2.out; subst hv2; have hSW2 : W2.rangeAt bo (oo + at0) F.toList := HRF.out _ hD2.bel; clear hto2 hb2 hg2; skip)
        refine hK.out _ _ ?_ (fun hHeld => ?_)
        · (try dsimp only)
          (first | assumption | (dsimp only; assumption))
        clear hK K
        (try simp only [Act.put, List.setIfInBounds_toArray, List.set_cons_zero, List.set_cons_succ])
        refine wpAnyH_take (i := 15) (oi := { dst := some 67, op := Go.Op.fieldAddr 32 (Go.Operand.tmp 5) 0, type := 0, pos := "keyring.go:107", after := #[{ on := 0, ground := Go.Ground.phase }, { on := 1, ground := Go.Ground.phase }, { on := 2, ground := Go.Ground.phase }, { on := 3, ground := Go.Ground.phase }, { on := 4, ground := Go.Ground.phase }, { on := 5, ground := Go.Ground.phase }, { on := 6, ground := Go.Ground.phase }, { on := 7, ground := Go.Ground.phase }, { on := 8, ground := Go.Ground.phase }, { on := 9, ground := Go.Ground.phase }, { on := 10, ground := Go.Ground.phase }, { on := 11, ground := Go.Ground.phase }, { on := 12, ground := Go.Ground.phase }, { on := 13, ground := Go.Ground.phase }, { on := 14, ground := Go.Ground.phase }], guard := none }) (v := ?_) rfl (by kernel_rfl) (by kernel_rfl) (by kernel_rfl) (fun _ _ _ h => h) (Or.inl ⟨by rfl, ?_⟩) (by assumption) ?_
        rotate_left
        · intro wS hSw
          (try dsimp only at hSw)
          go_simp
          (try with_reducible rfl)
        (try simp only [Act.put, List.setIfInBounds_toArray, List.set_cons_zero, List.set_cons_succ])
        refine wpAnyH_ready (rs := [16]) (by kernel_rfl) (by simp) ?_
        refine AllReadyH.cons (o := { dst := none, op := Go.Op.store 30 (Go.Operand.tmp 67) (Go.Operand.tmp 66), type := 0, pos := "keyring.go:107", after := #[{ on := 15, ground := Go.Ground.data }, { on := 14, ground := Go.Ground.data }, { on := 14, ground := Go.Ground.chain }, { on := 0, ground := Go.Ground.phase }, { on := 1, ground := Go.Ground.phase }, { on := 2, ground := Go.Ground.phase }, { on := 3, ground := Go.Ground.phase }, { on := 4, ground := Go.Ground.phase }, { on := 5, ground := Go.Ground.phase }, { on := 6, ground := Go.Ground.phase }, { on := 7, ground := Go.Ground.phase }, { on := 8, ground := Go.Ground.phase }, { on := 9, ground := Go.Ground.phase }, { on := 10, ground := Go.Ground.phase }, { on := 11, ground := Go.Ground.phase }, { on := 12, ground := Go.Ground.phase }, { on := 13, ground := Go.Ground.phase }, { on := 14, ground := Go.Ground.phase }], guard := none }) rfl (fun K hK => ?_) AllReadyH.nil
        (have c5 : W2.cell? ⟨b5, 0, none⟩ = some v := (by rw [Blk.cell hD2.c5]; rfl); have f5 : W2.frozen? ⟨b5, 0, none⟩ = false := Blk.free hD2.c5 _; go_simp; have hD3 := hD2.put HBB.out; have hSW3 := HRF.out _ hD3.bel; clear c5 f5; skip)
        refine hK.out _ _ ?_ (fun hHeld => ?_)
        · (try dsimp only)
          (first | assumption | (dsimp only; assumption))
        clear hK K
        (try simp only [Act.put, List.setIfInBounds_toArray, List.set_cons_zero, List.set_cons_succ])
        refine wpAnyH_done (by kernel_rfl) ?_ _
        have HD3 := Lib.hid hD3
        clear hD3 hSW3 hD2 hSW2
        go_wp2_with fail
        go_roundw
        case rel => exact ⟨i + 1, _, HI.out.1, by first | rfl | go_num, HD3.out⟩
        case measure => have := HI.out.1; simp [intOf]; omega
      refine AllReadyH.cons (o := { dst := some 65, op := Go.Op.buildSlice 30 1 #[(0, Go.Operand.tmp 64)], type := 30, pos := "keyring.go:107", after := #[{ on := 12, ground := Go.Ground.data }], guard := none }) rfl (fun K hK => ?_) AllReadyH.nil
      (refine step_bs1 rfl (.tmp 64) rfl C rfl HBS.out ?_; obtain ⟨VBx13, hw⟩ : ∃ q, W0.alloc (.cells C 37) = q := ⟨_, rfl⟩; rw [hw]; have hv : Below W0.heap.size W0 VBx13 := (by rw [← hw]; exact (Below.refl _ _).alloc (Nat.le_refl _) _); have hDVBx13 := hDW0.later hv; have HTN : Hid (TL VBx13 (some ⟨W0.heap.size, 0, none⟩) 1 (fun _ => i1) (fun _ => Ky)) := Lib.hid (by have h9 : Blk VBx13 W0.heap.size C 37 := (by rw [← hw]; exact Blk.new _ _ _); rw [← HCC.out] at h9; exact TL.one h9); have hSVBx13 : VBx13.rangeAt bo (oo + at0) F.toList := HRF.out _ hDVBx13.bel; clear hv hw; skip)
      refine hK.out _ _ ?_ (fun hHeld => ?_)
      · (try dsimp only)
        (first | assumption | (dsimp only; assumption))
      clear hK K
      (try simp only [Act.put, List.setIfInBounds_toArray, List.set_cons_zero, List.set_cons_succ])
      refine wpAnyH_ready (rs := [1]) (by kernel_rfl) (by simp) ?_
      refine AllReadyH.cons (o := { dst := some 53, op := Go.Op.load 30 (Go.Operand.tmp 52), type := 30, pos := "keyring.go:107", after := #[{ on := 0, ground := Go.Ground.data }], guard := none }) rfl (fun K hK => ?_) AllReadyH.nil
      (have c5 : VBx13.cell? ⟨b5, 0, none⟩ = some v := (by rw [Blk.cell hDVBx13.c5]; rfl); go_simp; clear c5; skip)
      refine hK.out _ _ ?_ (fun hHeld => ?_)
      · (try dsimp only)
        (first | assumption | (dsimp only; assumption))
      clear hK K
      (try simp only [Act.put, List.setIfInBounds_toArray, List.set_cons_zero, List.set_cons_succ])
      refine wpAnyH_ready (rs := [14]) (by kernel_rfl) (by simp) ?_
      refine AllReadyH.cons (o := { dst := some 66, op := Go.Op.call { callee := Go.Callee.builtin Go.Builtin.append, args := #[Go.Operand.tmp 53, Go.Operand.tmp 65], argTypes := #[30, 30] }, type := 30, pos := "keyring.go:107", after := #[{ on := 1, ground := Go.Ground.data }, { on := 13, ground := Go.Ground.data }], guard := none }) rfl (fun K hK => ?_) AllReadyH.nil
      (refine step_TO und_ts info_f1 rfl (.tmp 53) (.tmp 65) rfl base v i 1 1 (fun i => i + 1) (fun _ => i1) (fun i j => B (3 + 32 * i + j)) (fun _ => Ky) (some ⟨W0.heap.size, 0, none⟩) VBx13 rfl hDVBx13.row rfl HTN.out (fun e => by cases e) (by have := HI.out; omega) hDVBx13.sz ?_; intro v2 W2 hto2 hb2 hg2; have hD2 := hDVBx13.grew HBB.out hg2 hb2 (HCG.out _ _ hto2); obtain ⟨o2, cp2, hv2, -, -, -, -, -⟩ := hto2.out; subst hv2; have hSW2 : W2.rangeAt bo (oo + at0) F.toList := HRF.out _ hD2.bel; clear hto2 hb2 hg2; skip)
      refine hK.out _ _ ?_ (fun hHeld => ?_)
      · (try dsimp only)
        (first | assumption | (dsimp only; assumption))
      clear hK K
      (try simp only [Act.put, List.setIfInBounds_toArray, List.set_cons_zero, List.set_cons_succ])
      refine wpAnyH_take (i := 15) (oi := { dst := some 67, op := Go.Op.fieldAddr 32 (Go.Operand.tmp 5) 0, type := 0, pos := "keyring.go:107", after := #[{ on := 0, ground := Go.Ground.phase }, { on := 1, ground := Go.Ground.phase }, { on := 2, ground := Go.Ground.phase }, { on := 3, ground := Go.Ground.phase }, { on := 4, ground := Go.Ground.phase }, { on := 5, ground := Go.Ground.phase }, { on := 6, ground := Go.Ground.phase }, { on := 7, ground := Go.Ground.phase }, { on := 8, ground := Go.Ground.phase }, { on := 9, ground := Go.Ground.phase }, { on := 10, ground := Go.Ground.phase }, { on := 11, ground := Go.Ground.phase }, { on := 12, ground := Go.Ground.phase }, { on := 13, ground := Go.Ground.phase }, { on := 14, ground := Go.Ground.phase }], guard := none }) (v := ?_) rfl (by kernel_rfl) (by kernel_rfl) (by kernel_rfl) (fun _ _ _ h => h) (Or.inl ⟨by rfl, ?_⟩) (by assumption) ?_
      rotate_left
      · intro wS hSw
        (try dsimp only at hSw)
        go_simp
        (try with_reducible rfl)
      (try simp only [Act.put, List.setIfInBounds_toArray, List.set_cons_zero, List.set_cons_succ])
      refine wpAnyH_ready (rs := [16]) (by kernel_rfl) (by simp) ?_
      refine AllReadyH.cons (o := { dst := none, op := Go.Op.store 30 (Go.Operand.tmp 67) (Go.Operand.tmp 66), type := 0, pos := "keyring.go:107", after := #[{ on := 15, ground := Go.Ground.data }, { on := 14, ground := Go.Ground.data }, { on := 14, ground := Go.Ground.chain }, { on := 0, ground := Go.Ground.phase }, { on := 1, ground := Go.Ground.phase }, { on := 2, ground := Go.Ground.phase }, { on := 3, ground := Go.Ground.phase }, { on := 4, ground := Go.Ground.phase }, { on := 5, ground := Go.Ground.phase }, { on := 6, ground := Go.Ground.phase }, { on := 7, ground := Go.Ground.phase }, { on := 8, ground := Go.Ground.phase }, { on := 9, ground := Go.Ground.phase }, { on := 10, ground := Go.Ground.phase }, { on := 11, ground := Go.Ground.phase }, { on := 12, ground := Go.Ground.phase }, { on := 13, ground := Go.Ground.phase }, { on := 14, ground := Go.Ground.phase }], guard := none }) rfl (fun K hK => ?_) AllReadyH.nil
      (have c5 : W2.cell? ⟨b5, 0, none⟩ = some v := (by rw [Blk.cell hD2.c5]; rfl); have f5 : W2.frozen? ⟨b5, 0, none⟩ = false := Blk.free hD2.c5 _; go_simp; have hD3 := hD2.put HBB.out; have hSW3 := HRF.out _ hD3.bel; clear c5 f5; skip)
      refine hK.out _ _ ?_ (fun hHeld => ?_)
      · (try dsimp only)
        (first | assumption | (dsimp only; assumption))
      clear hK K
      (try simp only [Act.put, List.setIfInBounds_toArray, List.set_cons_zero, List.set_cons_succ])
      refine wpAnyH_done (by kernel_rfl) ?_ _
      have HD3 := Lib.hid hD3
      clear hD3 hSW3 hD2 hSW2
      go_wp2_with fail
      go_roundw
      case rel => exact ⟨i + 1, _, HI.out.1, by first | rfl | go_num, HD3.out⟩
      case measure => have := HI.out.1; simp [intOf]; omega
    · obtain rfl : i = a2 := by omega
      have za1 : ¬ (i : Int) < (i : Int) := by omega
      have za2 : decide ((i : Int) < (i : Int)) = false := decide_eq_false za1
      have za7 : ¬ i < i := by omega
      have za8 : decide (i < i) = false := decide_eq_false za7
      obtain ⟨o, c, rfl, hnc, hmx, hno, hbl, hTL⟩ := hDwr.row.out
      have c5 : wr.cell? ⟨b5, 0, none⟩ = some (.slice o i c) := by rw [Blk.cell hDwr.c5]; rfl
      have c2 : wr.cell? ⟨b2, 0, none⟩ = some (.slice none 0 0) := by rw [Blk.cell hDwr.c2]; rfl
      have f2 : wr.frozen? ⟨b2, 0, none⟩ = false := Blk.free hDwr.c2 0
      have HTL := Lib.hid (And.intro hTL hbl)
      clear hDwr hnc hmx hno hbl hTL
      go_wp2_with fail
      have hO := (Own.refl b2 wr).set 0 (.slice o i c)
      have hbb := HBB.out
      have HTX : Hid (TL (wr.setCell ⟨b2, 0, none⟩ (.slice o i c)) o (B 2) (fun i => i + 1) (fun i j => B (3 + 32 * i + j))) := Lib.hid (by rw [HA.out.2.2]; exact HTL.out.1.away hO (fun a ha => by have := (HTL.out.2 a ha).1; omega))
      have HBX9 : Hid (Below w.heap.size w (wr.setCell ⟨b2, 0, none⟩ (.slice o i c))) := Lib.hid (HDW.out.bel.trans (hO.below (by omega) HDW.out.bel.size))
      have HR9 : Hid (Blk (wr.setCell ⟨b2, 0, none⟩ (.slice o i c)) b2 #[.slice o i c] 32) := Lib.hid (HDW.out.c2.set 0 _)
      refine bodyPost_ret (v := .tuple #[.agg #[.slice o i c], .nilIface]) ?_ rfl (by have h9 := DecR.ok (c := c) HOK.out HBX9.out HTX.out; rw [HA.out.2.2] at h9; exact h9)
      exact results_cell_tmp1 (q := 3) Tryz.results25 _ _ b2 32 #[.slice o i c] (0, 0) _ rfl HR9.out Tryz.underlying32 rfl (info_rg _)
end Go.Proofs.YtncfocjmdecapaaGreatDoor
