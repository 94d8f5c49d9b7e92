/- Part of the proof: what stands here serves the walks of the functions that the statement calls. -/
import Derived.Test.YtncfocjmdecapaaGreatDoorY26
namespace Go.Proofs.YtncfocjmdecapaaGreatDoor
set_option linter.unusedVariables false
set_option linter.unusedSimpArgs false
open Go.RowKit
theorem und_rts : Tryz.prog.underlying 44 = some (.slice 76) := by kernel_rfl
theorem bs_t2 (n : Nat) (S : Nat → Nat) (w : World) : (Instr.buildSlice 44 1 #[(0, .agg (tmL n S).toArray)]).run Tryz.prog w = .ok (.slice (some ⟨w.heap.size, 0, none⟩) 1 1) (w.alloc (.cells (tmL n S).toArray 76)) := by kernel_rfl
theorem wpList_bs2 {ops : Array Oper} {rest : List Oper} {o : Oper} {a : Act} {w : World} {Q : Exit → Act → World → Prop} (hgd : o.guard = none) (x : Operand) (ho : o.op = .buildSlice 44 1 #[(0, x)]) (C : Array Value) (hx : a.eval x = .agg C)
  (h : ∀ w, (Instr.buildSlice 44 1 #[(0, .agg C)]).run Tryz.prog w = .ok (.slice (some ⟨w.heap.size, 0, none⟩) 1 1) (w.alloc (.cells C 76)))
  (hk : wpList Tryz.prog ops Q rest (a.put o.dst (.slice (some ⟨w.heap.size, 0, none⟩) 1 1)) (w.alloc (.cells C 76))) : wpList Tryz.prog ops Q (o :: rest) a w := by
 refine wpList_plain hgd fun K hK => ?_
 have e : (#[((0 : Nat), x)].map fun (i, x) => (i, a.eval x)) = #[(0, .agg C)] := by simp [hx]
 unfold Oper.wp execOp
 simp only [ho, e, h, Sem.run_bind, Result.andThen_ok]
 exact hK _ _ hk
def RRot (n : Nat) (N : Nat → Nat) (S : Nat → Nat → Nat) (Ky : Nat → Nat) (w : World) (e : Ending) (w' : World) : Prop := Below w.heap.size w w' ∧
 ((e = .returned (.tuple #[.slice none 0 0, .int .i64 1]) ∧ ¬ OkT n N) ∨ (e = .returned (.tuple #[.slice none 0 0, .int .i64 7]) ∧ OkT n N ∧ n = 16) ∨
 (OkT n N ∧ n < 16 ∧ ∃ o c, e = .returned (.tuple #[.slice o (n + 1) c, .int .i64 0]) ∧ TL w' o (n + 1) (fun i => i + 1) (catT n S (fun _ => Ky))))
theorem RRot.ok {n : Nat} {N : Nat → Nat} {S : Nat → Nat → Nat} {Ky : Nat → Nat} {w w' : World} {o : Option Addr} {c : Nat} (h : OkT n N) (hn : n < 16) (hT : TL w' o (n + 1) (fun i => i + 1) (catT n S (fun _ => Ky))) (hb : Below w.heap.size w w') : RRot n N S Ky w (.returned (.tuple #[.slice o (n + 1) c, .int .i64 0])) w' := ⟨hb, .inr (.inr ⟨h, hn, o, c, rfl, hT⟩)⟩
set_option maxRecDepth 100000
set_option maxHeartbeats 8000000
def RDec (m : Nat) (B : Nat → Nat) (w : World) (e : Ending) (w' : World) : Prop := Below w.heap.size w w' ∧
 ((e = .returned (.tuple #[.slice none 0 0, .int .i64 4]) ∧ ¬ IsRing m B) ∨
  (IsRing m B ∧ ∃ o c, e = .returned (.tuple #[.slice o (B 2) c, .int .i64 0]) ∧ TL w' o (B 2) (fun i => i + 1) (fun i j => B (3 + 32 * i + j))))
def fstF (k : Nat) (f : Nat → Nat) : Nat → Nat := fun j => if j < k then f j else 0
theorem fst_set (n k : Nat) (f : Nat → Nat) (hk : k < 32) : (tmL n (fstF k f)).toArray.setIfInBounds (1 + k) (.int .u8 (f k : Nat)) = (tmL n (fstF (k + 1) f)).toArray := by
 rw [List.setIfInBounds_toArray]
 congr 1
 refine List.ext_getElem? fun i => ?_
 rw [List.getElem?_set]
 by_cases e : 1 + k = i
 ·subst e
  rw [if_pos rfl, if_pos (by rw [tmL_len]; omega), tmL_at _ _ hk]
  unfold fstF
  rw [if_pos (Nat.lt_succ_self k)]
 ·rw [if_neg e]
  by_cases e0 : i = 0
  ·subst e0; rfl
  ·obtain ⟨j, rfl⟩ : ∃ j, i = 1 + j := ⟨i - 1, by omega⟩
   by_cases hj : j < 32
   ·rw [tmL_at _ _ hj, tmL_at _ _ hj]
    unfold fstF
    by_cases e1 : j < k
    ·rw [if_pos e1, if_pos (by omega)]
    ·rw [if_neg e1, if_neg (by omega)]
   ·rw [List.getElem?_eq_none (by rw [tmL_len]; omega), List.getElem?_eq_none (by rw [tmL_len]; omega)]
theorem TO.congr32 {T : TypeId} {w : World} {base n : Nat} {v : Value} {N M : Nat → Nat} {S U : Nat → Nat → Nat} (h : TO T w base v n N S) (he : ∀ i, i < n → N i = M i ∧ ∀ j, j < 32 → S i j = U i j) : TO T w base v n M U := by
 unfold TO at h ⊢
 rw [rws_congr (D := tmC M U) fun i hi => by unfold tmC; rw [(he i hi).1, tmL_congr (he i hi).2]] at h
 exact h
theorem rdecode_any (m cb : Nat) (ob : Option Addr) (B : Nat → Nat) (w : World) (hB : Bytes w ob m B) (hm : m ≤ cb) (hs : m < 1000000) :
  Calls Tryz.prog 34 #[.slice ob m cb] w (RDec m B w) := by
 have HBW := zh hB
 by_cases g : m < 3
 ·have hno : ¬ IsRing m B := fun h => by have := h.1; omega
  have g1 : (m : Int) < (3 : Int) := by omega
  have g2 : decide ((m : Int) < (3 : Int)) = true := decide_eq_true g1
  have g7 : m < 3 := by omega
  have g8 : decide (m < 3) = true := decide_eq_true g7
  clear hB hs
  go_enter Tryz.func34, Tryz.ntmps34
  go_wp2_with fail
  refine bodyPost_ret (v := .tuple #[.slice none 0 0, .int .i64 4]) ?_ rfl ⟨Below.refl _ _, .inl ⟨rfl, hno⟩⟩
  exact results_tmp2 (t := 2) (u := 3) Tryz.results34 _ _ _
 obtain ⟨_, bo, oo, e, x0⟩ := hB 0 (by omega)
 subst e
 rw [Nat.add_zero] at x0
 obtain ⟨l1, _, _, e, x1⟩ := hB 1 (by omega)
 cases e
 obtain ⟨l2, _, _, e, x2⟩ := hB 2 (by omega)
 cases e
 obtain ⟨a0, ha0⟩ := zX (B 0)
 obtain ⟨a1, ha1⟩ := zX (B 1)
 obtain ⟨a2, ha2⟩ := zX (B 2)
 rw [ha0] at x0
 rw [ha1] at x1 l1
 rw [ha2] at x2 l2
 have HA := zh (And.intro ha0 (And.intro ha1 ha2))
 have g1 : ¬ (m : Int) < (3 : Int) := by omega
 have g2 : decide ((m : Int) < (3 : Int)) = false := decide_eq_false g1
 have g7 : ¬ m < 3 := by omega
 have g8 : decide (m < 3) = false := decide_eq_false g7
 have i0 : (0 : Int) < (m : Int) := by omega
 have i1 : (1 : Int) < (m : Int) := by omega
 have i2 : (2 : Int) < (m : Int) := by omega
 have n0 : 0 < m := by omega
 have n1 : 1 < m := by omega
 have n2 : 2 < m := by omega
 have HL := zh (And.intro l1 l2)
 have HG := zh (show 3 ≤ m by omega)
 clear hB ha0 ha1 ha2 hs
 by_cases k0 : a0 = 107
 case neg =>
  have hno : ¬ IsRing m B := fun h => k0 (by have := h.2.1; have := HA.out; omega)
  have u1 : ¬ (a0 : Int) = 107 := by omega
  have u2 : decide ((a0 : Int) = 107) = false := decide_eq_false u1
  have u3 : ((a0 : Int) == 107) = false := by simp only [beq_eq_false_iff_ne]; exact u1
  have u4 : decide (a0 = 107) = false := decide_eq_false (by omega)
  have u5 : (a0 == 107) = false := by simp only [beq_eq_false_iff_ne]; omega
  have u6 : ¬ a0 = 107 := by omega
  go_enter Tryz.func34, Tryz.ntmps34
  go_wp2_with fail
  refine bodyPost_ret (v := .tuple #[.slice none 0 0, .int .i64 4]) ?_ rfl ⟨Below.refl _ _, .inl ⟨rfl, hno⟩⟩
  exact results_tmp2 (t := 2) (u := 3) Tryz.results34 _ _ _
 have u1 : (a0 : Int) = 107 := by omega
 have u2 : decide ((a0 : Int) = 107) = true := decide_eq_true u1
 have u3 : ((a0 : Int) == 107) = true := by simp only [beq_iff_eq]; exact u1
 have u4 : decide (a0 = 107) = true := decide_eq_true (by omega)
 have u5 : (a0 == 107) = true := by simp only [beq_iff_eq]; omega
 by_cases k1 : a1 = 114
 case neg =>
  have hno : ¬ IsRing m B := fun h => k1 (by have := h.2.2.1; have := HA.out; omega)
  have v1 : ¬ (a1 : Int) = 114 := by omega
  have v2 : decide ((a1 : Int) = 114) = false := decide_eq_false v1
  have v3 : ((a1 : Int) == 114) = false := by simp only [beq_eq_false_iff_ne]; exact v1
  have v4 : decide (a1 = 114) = false := decide_eq_false (by omega)
  have v5 : (a1 == 114) = false := by simp only [beq_eq_false_iff_ne]; omega
  have v6 : ¬ a1 = 114 := by omega
  go_enter Tryz.func34, Tryz.ntmps34
  go_wp2_with fail
  refine bodyPost_ret (v := .tuple #[.slice none 0 0, .int .i64 4]) ?_ rfl ⟨Below.refl _ _, .inl ⟨rfl, hno⟩⟩
  exact results_tmp2 (t := 2) (u := 3) Tryz.results34 _ _ _
 have v1 : (a1 : Int) = 114 := by omega
 have v2 : decide ((a1 : Int) = 114) = true := decide_eq_true v1
 have v3 : ((a1 : Int) == 114) = true := by simp only [beq_iff_eq]; exact v1
 have v4 : decide (a1 = 114) = true := decide_eq_true (by omega)
 have v5 : (a1 == 114) = true := by simp only [beq_iff_eq]; omega
 have kc : IntKind.i64.wrap (a2 : Int) = (a2 : Int) := IntWalk.i64_in _ (by have := HL.out; omega)
 by_cases k2 : a2 < 1
 case pos =>
  have hno : ¬ IsRing m B := fun h => by have := h.2.2.2.1; have := HA.out; omega
  have p1 : (a2 : Int) < (1 : Int) := by omega
  have p2 : decide ((a2 : Int) < (1 : Int)) = true := decide_eq_true p1
  have p7 : a2 < 1 := by omega
  have p8 : decide (a2 < 1) = true := decide_eq_true p7
  go_enter Tryz.func34, Tryz.ntmps34
  go_wp2_with fail
  refine bodyPost_ret (v := .tuple #[.slice none 0 0, .int .i64 4]) ?_ rfl ⟨Below.refl _ _, .inl ⟨rfl, hno⟩⟩
  exact results_tmp2 (t := 2) (u := 3) Tryz.results34 _ _ _
 have p1 : ¬ (a2 : Int) < (1 : Int) := by omega
 have p2 : decide ((a2 : Int) < (1 : Int)) = false := decide_eq_false p1
 have p7 : ¬ a2 < 1 := by omega
 have p8 : decide (a2 < 1) = false := decide_eq_false p7
 by_cases k3 : 16 < a2
 case pos =>
  have hno : ¬ IsRing m B := fun h => by have := h.2.2.2.2.1; have := HA.out; omega
  have q1 : (16 : Int) < (a2 : Int) := by omega
  have q2 : decide ((16 : Int) < (a2 : Int)) = true := decide_eq_true q1
  have q7 : 16 < a2 := by omega
  have q8 : decide (16 < a2) = true := decide_eq_true q7
  go_enter Tryz.func34, Tryz.ntmps34
  go_wp2_with fail
  refine bodyPost_ret (v := .tuple #[.slice none 0 0, .int .i64 4]) ?_ rfl ⟨Below.refl _ _, .inl ⟨rfl, hno⟩⟩
  exact results_tmp2 (t := 2) (u := 3) Tryz.results34 _ _ _
 have q1 : ¬ (16 : Int) < (a2 : Int) := by omega
 have q2 : decide ((16 : Int) < (a2 : Int)) = false := decide_eq_false q1
 have q7 : ¬ 16 < a2 := by omega
 have q8 : decide (16 < a2) = false := decide_eq_false q7
 obtain ⟨M32, hM32⟩ := zX (a2 * 32)
 obtain ⟨LL, hLL⟩ := zX (3 + M32)
 have km1 : (32 : Int) * (a2 : Int) = (M32 : Int) := by omega
 have km2 : IntKind.i64.wrap (M32 : Int) = (M32 : Int) := IntWalk.i64_in _ (by omega)
 have km3 : (3 : Int) + (M32 : Int) = (LL : Int) := by omega
 have km4 : IntKind.i64.wrap (LL : Int) = (LL : Int) := IntWalk.i64_in _ (by omega)
 by_cases k4 : m = LL
 case neg =>
  have hno : ¬ IsRing m B := fun h => k4 (by have := h.2.2.2.2.2; have := HA.out; omega)
  have r1 : ¬ (m : Int) = LL := by omega
  have r2 : decide ((m : Int) = LL) = false := decide_eq_false r1
  have r3 : ((m : Int) == LL) = false := by simp only [beq_eq_false_iff_ne]; exact r1
  have r4 : decide (m = LL) = false := decide_eq_false (by omega)
  have r5 : (m == LL) = false := by simp only [beq_eq_false_iff_ne]; omega
  have r6 : ¬ m = LL := by omega
  go_enter Tryz.func34, Tryz.ntmps34
  go_wp2_with fail
  refine bodyPost_ret (v := .tuple #[.slice none 0 0, .int .i64 4]) ?_ rfl ⟨Below.refl _ _, .inl ⟨rfl, hno⟩⟩
  exact results_tmp2 (t := 2) (u := 3) Tryz.results34 _ _ _
 have r1 : (m : Int) = LL := by omega
 have r2 : decide ((m : Int) = LL) = true := decide_eq_true r1
 have r3 : ((m : Int) == LL) = true := by simp only [beq_iff_eq]; exact r1
 have r4 : decide (m = LL) = true := decide_eq_true (by omega)
 have r5 : (m == LL) = true := by simp only [beq_iff_eq]; omega
 have s1 : ¬ (LL : Int) < (3 : Int) := by omega
 have s2 : decide ((LL : Int) < (3 : Int)) = false := decide_eq_false s1
 have s7 : ¬ LL < 3 := by omega
 have s8 : decide (LL < 3) = false := decide_eq_false s7
 have HOK : Hid (IsRing m B) := zh ⟨HG.out, by have := HA.out; omega, by have := HA.out; omega, by have := HA.out; omega, by have := HA.out; omega, by have := HA.out; omega⟩
 have HN := zh (show 1 ≤ a2 ∧ a2 ≤ 16 ∧ m = 3 + 32 * a2 ∧ m ≤ cb by omega)
 clear k0 k1 k2 k3 k4 hM32 hLL hm
 go_enter Tryz.func34, Tryz.ntmps34
 go_wp2_with fail
 clear n0 n1 kc km1 km2 km3 km4 r1 r2 r3 r4 r5 s1 s2 s7 s8 g1 g2 g7 g8 u1 u2 u3 u4 u5 v1 v2 v3 v4 v5 p1 p2 p7 p8 q1 q2 q7 q8 x0 x1 x2 i0 i1
 go_loopw [4, 5] (fun y4 y5 wr => ∃ (i : Nat) (v : Value), i ≤ a2 ∧ y4 = v ∧ y5 = .int .i64 (i : Int) ∧ TO 76 wr w.heap.size v i (fun i => i + 1) (fun i j => B (3 + 32 * i + j)) ∧ Below w.heap.size w wr) (fun _ y _ => a2 - (intOf y).toNat)
 case atStart => exact ⟨0, _, Nat.zero_le _, rfl, rfl, TO.nil _ _ _ _ _, Below.refl _ _⟩
 case round =>
  obtain ⟨i, v, hi, rfl, rfl, hTO, hbw⟩ := hrel
  obtain ⟨wo, hwo⟩ : ∃ q, q = wr := ⟨_, rfl⟩
  subst hwo
  have kc : IntKind.i64.wrap (a2 : Int) = (a2 : Int) := IntWalk.i64_in _ (by have := HL.out; omega)
  have x2 : wo.cell? ⟨bo, oo + 2, none⟩ = some (.int .u8 (a2 : Int)) := by
   obtain ⟨_, _, _, e, h9⟩ := (HBW.out.later hbw) 2 (by have := HG.out; omega)
   cases e
   rw [HA.out.2.2] at h9; exact h9
  by_cases hlt : i < a2
  ·have HI := zh (show i < a2 ∧ i < 16 by have := HN.out; omega)
   have za1 : (i : Int) < (a2 : Int) := by omega
   have za2 : decide ((i : Int) < (a2 : Int)) = true := decide_eq_true za1
   have za7 : i < a2 := by omega
   have za8 : decide (i < a2) = true := decide_eq_true za7
   obtain ⟨i32, hi32⟩ := zX (32 * i)
   obtain ⟨at0, hat⟩ := zX (3 + i32)
   obtain ⟨i1, hi1⟩ := zX (i + 1)
   have k1 : (32 : Int) * (i : Int) = (i32 : Int) := by omega
   have k2 : IntKind.i64.wrap (i32 : Int) = (i32 : Int) := IntWalk.i64_in _ (by have := HN.out; omega)
   have k3 : (3 : Int) + (i32 : Int) = (at0 : Int) := by omega
   have k4 : IntKind.i64.wrap (at0 : Int) = (at0 : Int) := IntWalk.i64_in _ (by have := HN.out; omega)
   have k5 : (i : Int) + 1 = (i1 : Int) := by omega
   have k6 : IntKind.i64.wrap (i1 : Int) = (i1 : Int) := IntWalk.i64_in _ (by have := HN.out; omega)
   have k7 : IntKind.u32.wrap (i1 : Int) = (i1 : Int) := IntWalk.u32_in _ (by have := HN.out; omega)
   obtain ⟨Ky, hKy⟩ := zX ((fun j => B (at0 + j)))
   obtain ⟨CZ, hCZ⟩ := zX ((tmL i1 (fun _ => 0)).toArray)
   obtain ⟨C, hC⟩ := zX ((tmL i1 (fstF 32 Ky)).toArray)
   have HCC := zh hC
   have HSZ : Hid (CZ.size = 33) := zh (by rw [← hCZ]; exact tm_size _ _)
   have HON : Hid (CZ.all (·.oneCell') = true) := zh (by rw [← hCZ]; exact tm_one _ _)
   have HIZ : Hid ((Tryz.prog.info? 76).map (·.size) = some CZ.size) := zh (by rw [HSZ.out]; exact info_t2)
   have HIC : Hid ((Tryz.prog.info? 76).map (·.size) = some C.size) := zh (by rw [← hC, tm_size]; exact info_t2)
   have HBT : Hid (∀ w, (Instr.build 76 #[(0, .int .u32 (i1 : Int))]).run Tryz.prog w = .ok (.agg CZ) w) := zh (by rw [← hCZ]; exact build_n2 i1)
   have HBS : Hid (∀ w, (Instr.buildSlice 44 1 #[(0, .agg C)]).run Tryz.prog w = .ok (.slice (some ⟨w.heap.size, 0, none⟩) 1 1) (w.alloc (.cells C 76))) := zh (by rw [← hC]; exact bs_t2 i1 (fstF 32 Ky))
   have HCG : Hid (∀ (A : World) (v' : Value), TO 76 A w.heap.size v' (i + 1) (catN i (fun i => i + 1) (fun _ => i1)) (catT i (fun i j => B (3 + 32 * i + j)) (fun _ => fstF 32 Ky)) → TO 76 A w.heap.size v' (i + 1) (fun i => i + 1) (fun i j => B (3 + 32 * i + j))) := zh fun A v' h => h.congr32 fun q hq => by
    unfold catN catT
    by_cases e : q < i
    ·rw [if_pos e, if_pos e]; exact ⟨rfl, fun _ _ => rfl⟩
    ·obtain rfl : q = i := by omega
     rw [if_neg e, if_neg e]
     exact ⟨by show i1 = q + 1; omega, fun j hj => by show fstF 32 Ky j = _; unfold fstF; rw [if_pos hj, ← hKy, show at0 = 3 + 32 * q by omega]⟩
   have HTO := zh (And.intro hTO hbw)
   have HAT := zh (And.intro hat (And.intro hi32 (And.intro hi1 hKy)))
   obtain ⟨b6, hqb6⟩ := zX wo.heap.size
   obtain ⟨wz, hwz⟩ := zX (wo.alloc (.cells zeroT 76))
   have hbz : Below wo.heap.size wo wz := by rw [← hwz]; exact zA
   have hXz : Blk wz b6 zeroT 76 := by rw [← hwz, ← hqb6]; exact Blk.new _ _ _
   have HTZb6 : Hid (wz.there b6 0 CZ.size) := zh (hXz.there (by rw [zeroT_size, HSZ.out]; exact Nat.le_refl _))
   obtain ⟨w5, hw5⟩ := zX (wz.setCells b6 0 CZ.toList)
   have hOz : Own b6 wz w5 := by rw [← hw5]; exact Own.setCells _ _ _
   have HBw5 : Hid (Below wo.heap.size wo w5) := zh (hbz.trans (hOz.below (by omega) hbz.size))
   have HNw5 : Hid (Blk w5 b6 CZ 76) := zh (by rw [← hw5]; exact Blk.setCells hXz CZ.toList (by rw [zeroT_size, Array.length_toList]; exact HSZ.out))
   have HWw5 := zh hw5
   clear hbz hXz hOz hw5
   have HB6 : Hid (wo.heap.size ≤ b6) := zh (Nat.le_of_eq hqb6)
   have HBZ : Hid (Blk w5 b6 (tmL i1 (fstF 0 Ky)).toArray 76) := zh (by have h9 := HNw5.out; rw [← hCZ] at h9; exact h9)
   clear hi32 hat hi1 hKy hCZ hC hlt hi hTO hbw
   go_wp2_with (first | (refine wpList_value rfl (exec_buildM (parts := #[(0, .tmp 56)]) (ps := #[(0, .int .u32 (i1 : Int))]) rfl (by first | rfl | (simp [Act.eval]; done) | (go_simp; done)) HBT.out) ?_) | (refine wpList_zero rfl rfl zero_t2 ?_; rw [hwz, hqb6]; (try simp only [Act.put, zS])) | (refine wpList_store_mid rfl 76 (.tmp 6) (.tmp 57) rfl b6 0 CZ rfl rfl HTZb6.out HIZ.out HON.out ?_; rw [HWw5.out]))
   go_loopw [7] (fun y wr => ∃ k : Nat, k ≤ 32 ∧ y = .int .i64 (k : Int) ∧ Blk wr b6 (tmL i1 (fstF k Ky)).toArray 76 ∧ Below wo.heap.size wo wr) (fun y _ => 32 - (intOf y).toNat)
   case atStart => exact ⟨0, Nat.zero_le _, rfl, HBZ.out, HBw5.out⟩
   case round =>
    obtain ⟨k, hk, rfl, hBk, hbq⟩ := hrel
    have HBQ := zh (And.intro hBk hbq)
    by_cases hkl : k < 32
    ·have HK := zh hkl
     have zb1 : (k : Int) < (32 : Int) := by omega
     have zb2 : decide ((k : Int) < (32 : Int)) = true := decide_eq_true zb1
     have zb7 : k < 32 := by omega
     have zb8 : decide (k < 32) = true := decide_eq_true zb7
     obtain ⟨p, hp⟩ := zX (at0 + k)
     have j0 : (0 : Int) ≤ (k : Int) := by omega
     have j1 : (at0 : Int) + (k : Int) = (p : Int) := by omega
     have j2 : IntKind.i64.wrap (p : Int) = (p : Int) := IntWalk.i64_in _ (by have := HN.out; have := HAT.out; have := HI.out; omega)
     have j3 : (0 : Int) ≤ (p : Int) := by omega
     have j4 : (p : Int) < (m : Int) := by have := HN.out; have := HAT.out; have := HI.out; omega
     have j5 : p < m := by omega
     have j6 : IntKind.i64.wrap ((k : Int) + 1) = ((k + 1 : Nat) : Int) := by rw [IntWalk.i64_in _ (by omega)]; omega
     obtain ⟨x, hx⟩ := zX (B p)
     have c1 : wr.cell? ⟨bo, oo + p, none⟩ = some (.int .u8 (x : Int)) := by
      obtain ⟨_, _, _, e, h9⟩ := (HBW.out.later (HTO.out.2.trans (hbq.mono HTO.out.2.size))) p j5
      cases e
      rw [hx] at h9; exact h9
     have f6 : wr.frozen? ⟨b6, 1 + k, none⟩ = false := Blk.free hBk _
     have c6 : wr.cell? ⟨b6, 1 + k, none⟩ = some (.int .u8 (fstF k Ky k : Nat)) := by rw [Blk.cell hBk, List.getElem?_toArray]; exact tmL_at _ _ hkl
     have HX : Hid (Ky k = x) := zh (by rw [← HAT.out.2.2.2]; show B (at0 + k) = x; rw [hp]; exact hx)
     clear hp hx hBk hbq hk hkl
     go_wp2_with fail
     go_roundw
     case rel => exact ⟨k + 1, HK.out, by first | rfl | go_num, by rw [← fst_set i1 k Ky HK.out, HX.out]; exact HBQ.out.1.set _ _, HBQ.out.2.trans (((Own.refl b6 wr).set _ _).below HB6.out HBQ.out.2.size)⟩
     case measure => have := HK.out; simp [intOf]; omega
    ·obtain rfl : k = 32 := by omega
     rw [HCC.out] at HBQ
     have HRC : Hid (wr.rangeAt b6 0 C.toList) := zh HBQ.out.1.rangeA
     have HTN : Hid (TL (wr.alloc (.cells C 76)) (some ⟨wr.heap.size, 0, none⟩) 1 (fun _ => i1) (fun _ => fstF 32 Ky)) := zh (by
      have h9 : Blk (wr.alloc (.cells C 76)) wr.heap.size (tmL i1 (fstF 32 Ky)).toArray 76 := (by rw [HCC.out]; exact Blk.new _ _ _)
      exact TL.one h9)
     have hal : Below wr.heap.size wr (wr.alloc (.cells C 76)) := zA
     have HTV := zh ((HTO.out.1.later HBQ.out.2).later hal)
     have HBV := zh ((HTO.out.2.trans (HBQ.out.2.mono HTO.out.2.size)).trans (hal.mono (Nat.le_trans HTO.out.2.size HBQ.out.2.size)))
     clear hal hBk hbq hk hkl
     go_wp2_with (first | (refine wpList_value rfl (exec_loadA (x := .tmp 6) (C := C) rfl rfl HRC.out Tryz.underlying76 rfl HIC.out) ?_) | (refine wpList_bs2 rfl (.tmp 74) rfl C rfl HBS.out ?_) | (refine app_TO und_rts info_f2 rfl (.tmp 73) (.tmp 75) rfl w.heap.size u4 i 1 1 (fun i => i + 1) (fun _ => i1) (fun i j => B (3 + 32 * i + j)) (fun _ => fstF 32 Ky) (some ⟨wr.heap.size, 0, none⟩) (wr.alloc (.cells C 76)) rfl HTV.out rfl HTN.out (fun e => by cases e) (by have := HI.out; omega) HBV.out.size ?_; intro v' w9 ht9 hb9 hg9; have HT9 := zh (HCG.out w9 v' ht9); have HB9 := zh (HBV.out.trans hb9); clear ht9 hb9 hg9))
     go_roundw
     case rel => exact ⟨i + 1, v', HI.out.1, rfl, by first | rfl | go_num, HT9.out, HB9.out⟩
     case measure => have := HI.out; simp [intOf]; omega
  ·obtain rfl : i = a2 := by omega
   have za1 : ¬ (i : Int) < (i : Int) := by omega
   have za2 : decide ((i : Int) < (i : Int)) = false := decide_eq_false za1
   have za7 : ¬ i < i := by omega
   have za8 : decide (i < i) = false := decide_eq_false za7
   obtain ⟨o, c, rfl, hnc, hmx, hno, hbl, hTL⟩ := hTO.out
   have HTL := zh (And.intro hTL hbw)
   clear hTO hnc hmx hno hbl hTL hbw hlt hi
   go_wp2_with fail
   refine bodyPost_ret (v := .tuple #[.slice o i c, .int .i64 0]) ?_ rfl ⟨HTL.out.2, .inr ⟨HOK.out, o, c, by rw [HA.out.2.2], by rw [HA.out.2.2]; exact HTL.out.1⟩⟩
   exact results_tmp2 (t := 2) (u := 3) Tryz.results34 _ _ _
set_option maxHeartbeats 4000000
def ROpenD (K Q : Nat → Nat) (en : Nat) (w : World) (e : Ending) (w' : World) : Prop := Below w.heap.size w w' ∧
 (((rtB K Q en = true ∧ IsRing en (rdF K Q)) ∧ ∃ o c, e = .returned (.tuple #[.slice o (rdF K Q 2) c, .int .i64 0]) ∧ TL w' o (rdF K Q 2) (fun i => i + 1) (fun i j => rdF K Q (3 + 32 * i + j))) ∨
  (¬ (rtB K Q en = true ∧ IsRing en (rdF K Q)) ∧ e = .returned (.tuple #[.slice none 0 0, .int .i64 11])))
theorem ROpenD.no {K Q : Nat → Nat} {en : Nat} {w w' : World} (h : ¬ (rtB K Q en = true ∧ IsRing en (rdF K Q))) (hb : Below w.heap.size w w') : ROpenD K Q en w (.returned (.tuple #[.slice none 0 0, .int .i64 11])) w' := ⟨hb, .inr ⟨h, rfl⟩⟩
theorem ROpenD.ok {K Q : Nat → Nat} {en c : Nat} {o : Option Addr} {w w' : World} (h : rtB K Q en = true ∧ IsRing en (rdF K Q)) (hT : TL w' o (rdF K Q 2) (fun i => i + 1) (fun i j => rdF K Q (3 + 32 * i + j))) (hb : Below w.heap.size w w') : ROpenD K Q en w (.returned (.tuple #[.slice o (rdF K Q 2) c, .int .i64 0])) w' := ⟨hb, .inl ⟨h, o, c, rfl, hT⟩⟩
theorem ropenring_any (oa : Option Addr) (bo oo cn m cm en : Nat) (K Q : Nat → Nat) (w : World) (hb : Bytes w oa 32 K) (hr : Bytes w (some ⟨bo, oo, none⟩) m Q) (hm : m = 12 + (en + 16)) (hmc : m ≤ cm) (hmm : cm ≤ maxLen) (hen : en ≤ 2000) :
  Calls Tryz.prog 16 #[.slice oa 32 cn, .slice (some ⟨bo, oo, none⟩) m cm] w (ROpenD K Q en w) := by
 obtain ⟨KC, hKC⟩ := zX (kyC (ekW K sR 0))
 have HKY : Hid (∀ A, Below w.heap.size w A → Calls Tryz.prog 28 #[.slice oa 32 cn, .string sR, .int .u32 0] A fun e w' => e = .returned (.agg KC) ∧ Below A.heap.size A w') := zh fun A hA => by
  rw [← hKC]; exact rkey22_any oa cn K sR 0 A (hb.later hA) (by decide) (by decide) (by decide)
 have HEN := zh hen
 obtain ⟨D, hD⟩ := zX (rdF K Q)
 obtain ⟨T, hT⟩ := zX (rtB K Q en)
 have HD := zh hD
 have HT := zh hT
 have HDL : Hid (∀ i, i < en → D i < 256) := zh fun i hi => by rw [← hD]; exact cphF_lt (n := en) (fun i hi => (hr i (by omega)).1) (fun i hi => (hr (12 + i) (by omega)).1) i hi
 have HOP : Hid (∀ (A : World) (g5 : Nat), Below w.heap.size w A → Bytes A (some ⟨g5, 0, none⟩) 9 beR → Calls Tryz.prog 30 #[.agg KC, .slice (some ⟨bo, oo, none⟩) 12 cm, .slice (some ⟨bo, oo + 12, none⟩) (m - 12) (cm - 12), .slice (some ⟨g5, 0, none⟩) 9 9] A fun e w' => ∃ v q, e = .returned (.tuple #[v, q]) ∧
   ((Below w.heap.size w w' ∧ T = true ∧ q = .int .i64 0 ∧ Grow w' A.heap.size v en D) ∨ (Below w.heap.size w w' ∧ T = false ∧ v = .slice none 0 0 ∧ q = .int .i64 11))) := zh fun A g5 hA hB5 => by
  have hRA := hr.later hA
  rw [show m - 12 = en + 16 by omega, ← hKC, ← hT, ← hD]
  have hR2 : Bytes A (some ⟨bo, oo + 12, none⟩) (en + 16) (fun i => Q (12 + i)) := fun k hk => by
   obtain ⟨h1, b, o, e, h2⟩ := hRA (12 + k) (by omega)
   cases e
   exact ⟨h1, _, _, rfl, by rw [Nat.add_assoc]; exact h2⟩
  cases hq : rtB K Q en with
  | true =>
   refine (ropen_any (ekW K sR 0) Q (fun i => Q (12 + i)) beR en 9 bo (oo + 12) _ _ cm (cm - 12) 9 A (fun k hk => hRA k (by omega)) hR2 hB5 (by omega) (by omega) (by omega) (by decide) (eqF_iff.1 hq)).mono ?_
   rintro e w' ⟨v, rfl, hG, hb'⟩
   exact ⟨v, _, rfl, .inl ⟨hA.trans (hb'.mono hA.size), rfl, rfl, hG⟩⟩
  | false =>
   refine (ropen_unlike (ekW K sR 0) Q (fun i => Q (12 + i)) beR en 9 bo (oo + 12) _ _ cm (cm - 12) 9 A (fun k hk => hRA k (by omega)) hR2 hB5 (by omega) (by omega) (by omega) (by decide) (eqF_not hq)).mono ?_
   rintro e w' ⟨rfl, hb'⟩
   exact ⟨_, _, rfl, .inr ⟨hA.trans (hb'.mono hA.size), rfl, rfl, rfl⟩⟩
 have g1 : ¬ (m : Int) < (28 : Int) := by omega
 have g2 : decide ((m : Int) < (28 : Int)) = false := decide_eq_false g1
 have g7 : ¬ m < 28 := by omega
 have g8 : decide (m < 28) = false := decide_eq_false g7
 have i1 : (12 : Int) ≤ (cm : Int) := by omega
 have i2 : (12 : Int) ≤ (m : Int) := by omega
 have i3 : (m : Int) ≤ (cm : Int) := by omega
 have i4 : ¬ cm = 12 := by omega
 clear hb hr hm hmc hmm hen hKC hD hT
 go_enter Tryz.func16, Tryz.ntmps16
 go_upto_region 5 with fail
 have hvW0 : Below w.heap.size w w.drew := (Below.refl _ _).drew
 refine wp_region_held_drew (S := (fun _ => True)) (by kernel_rfl) ?_ (fun hHeld => ?_)
 ·(try dsimp only)
  (try trivial)
 generalize w.drew = W0 at *
 refine wT 0 ?_ rfl ?_ ?_
 rotate_left
 ·intro wS hSw
  (try dsimp only at hSw)
  go_simp
  (try with_reducible rfl)
 (try simp only [Act.put, zS])
 refine wT 2 ?_ rfl ?_ ?_
 rotate_left
 ·intro wS hSw
  (try dsimp only at hSw)
  go_simp
  (try with_reducible rfl)
 (try simp only [Act.put, zS])
 refine wT 3 ?_ rfl ?_ ?_
 rotate_left
 ·intro wS hSw
  (try dsimp only at hSw)
  go_simp
  (try with_reducible rfl)
 (try simp only [Act.put, zS])
 refine wT 4 ?_ rfl ?_ ?_
 rotate_left
 ·intro wS hSw
  (try dsimp only at hSw)
  go_simp
  (try with_reducible rfl)
 (try simp only [Act.put, zS])
 refine wT 5 ?_ rfl ?_ ?_
 rotate_left
 ·intro wS hSw
  (try dsimp only at hSw)
  go_simp
  (try with_reducible rfl)
 (try simp only [Act.put, zS])
 refine wR [1, 6] ?_
 refine aC rfl (fun K hK => ?_) ?_
 ·skip
  go_simp
  (refine (HKY.out W0 hvW0).mono ?_; rintro e WKx1 ⟨rfl, hb⟩; have hvWKx1 := Below.trans hvW0 (hb.mono (Below.size hvW0)); clear hb; skip)
  (try go_wp2_with fail)
  refine hK.out _ _ ?_ fun hHeld => ?_
  ·(try dsimp only)
   (try trivial)
  clear hK K
  (try simp only [Act.put, zS])
  refine wR [6] ?_
  refine aN rfl fun K hK => ?_
  (refine step_bsN (by rfl) #[(0, .const (.int .u8 99)), (1, .const (.int .u8 111)), (2, .const (.int .u8 114)), (3, .const (.int .u8 101)), (4, .const (.int .u8 47)), (5, .const (.int .u8 114)), (6, .const (.int .u8 105)), (7, .const (.int .u8 110)), (8, .const (.int .u8 103))] #[(0, .int .u8 99), (1, .int .u8 111), (2, .int .u8 114), (3, .int .u8 101), (4, .int .u8 47), (5, .int .u8 114), (6, .int .u8 105), (7, .int .u8 110), (8, .int .u8 103)] (rowC 9 beR).toArray rfl (by first | (simp [Act.eval]; done) | (go_simp; done)) bs9_run ?_; obtain ⟨g5, hq5⟩ := zX WKx1.heap.size; obtain ⟨WBx1, hw1⟩ := zX (WKx1.alloc (.cells (rowC 9 beR).toArray 5)); rw [hw1, hq5]; have hBWBx1 : Blk WBx1 g5 (rowC 9 beR).toArray 5 := (by rw [← hw1, ← hq5]; exact Blk.new _ _ _); have hvWBx1 : Below w.heap.size w WBx1 := Below.trans hvWKx1 (by rw [← hw1]; exact (Below.refl _ _).alloc (Below.size hvWKx1) _); have hge : w.heap.size ≤ g5 := (by rw [← hq5]; exact Below.size hvWKx1); clear hw1 hq5; skip)
  refine hK.out _ _ ?_ fun hHeld => ?_
  ·(try dsimp only)
   (try trivial)
  clear hK K
  (try simp only [Act.put, zS])
  refine wR [7] ?_
  refine aN rfl fun K hK => ?_
  (refine step_convB (by rfl) (.tmp 22) rfl g5 9 9 9 rfl (Shp.blk hBWBx1) ?_; obtain ⟨WCx1, hw2⟩ := zX (WBx1.freeze ⟨g5, 9, none⟩ 1); rw [hw2]; have hAWCx1 : Bytes WCx1 (some ⟨g5, 0, none⟩) 9 beR := (by rw [← hw2]; exact (be_bytes hBWBx1 beR_lt).frz _ _); have hvWCx1 : Below w.heap.size w WCx1 := Below.trans hvWBx1 (by rw [← hw2]; exact (Own.frz _ _ _ _).below hge (Below.size hvWBx1)); clear hw2; skip)
  refine hK.out _ _ ?_ fun hHeld => ?_
  ·(try dsimp only)
   (try trivial)
  clear hK K
  (try simp only [Act.put, zS])
  refine wR [8] ?_
  refine aN rfl fun K hK => ?_
  go_simp
  (refine (HOP.out WCx1 g5 hvWCx1 hAWCx1).mono ?_; rintro e W9 ⟨v, q, rfl, hR⟩; have HR9 := zh hR; clear hR; skip)
  (try go_wp2_with fail)
  refine hK.out _ _ ?_ fun hHeld => ?_
  ·(try dsimp only)
   (try trivial)
  clear hK K
  (try simp only [Act.put, zS])
  refine wT 9 ?_ rfl ?_ ?_
  rotate_left
  ·intro wS hSw
   (try dsimp only at hSw)
   go_simp
   (try with_reducible rfl)
  (try simp only [Act.put, zS])
  refine wT 10 ?_ rfl ?_ ?_
  rotate_left
  ·intro wS hSw
   (try dsimp only at hSw)
   go_simp
   (try with_reducible rfl)
  (try simp only [Act.put, zS])
  refine wT 11 ?_ rfl ?_ ?_
  rotate_left
  ·intro wS hSw
   (try dsimp only at hSw)
   go_simp
   (try with_reducible rfl)
  (try simp only [Act.put, zS])
  refine wT 12 ?_ rfl ?_ ?_
  rotate_left
  ·intro wS hSw
   (try dsimp only at hSw)
   go_simp
   (try with_reducible rfl)
  (try simp only [Act.put, zS])
  refine wT 13 ?_ rfl ?_ ?_
  rotate_left
  ·intro wS hSw
   (try dsimp only at hSw)
   go_simp
   (try with_reducible rfl)
  (try simp only [Act.put, zS])
  refine wpAnyH_done (by kernel_rfl) ?_ _
  rcases HR9.out with ⟨hb9, hq, rfl, hG⟩ | ⟨hb9, hq, rfl, rfl⟩
  ·obtain ⟨oc, cc, rfl, hBc, hcc, hcm, hno⟩ := hG.bytesM (fun i hi => HDL.out i hi)
   have HBC := zh (And.intro hBc hcc)
   have HB9 := zh hb9
   have HQ := zh hq
   clear hb9 hq hG hBc hcc hcm hno
   go_wp2_with fail
   refine (rdecode_any en cc oc D W9 HBC.out.1 HBC.out.2 (by have := HEN.out; omega)).mono ?_
   rintro e W4 ⟨hb4, ⟨rfl, hno⟩ | ⟨hrg, o, c, rfl, hT⟩⟩
   ·have HNO : Hid (¬ (T = true ∧ IsRing en D)) := zh fun h => hno h.2
    have HB4 := zh (HB9.out.trans (hb4.mono HB9.out.size))
    clear hb4 hno
    go_wp2_with fail
    refine bodyPost_ret (v := .tuple #[.slice none 0 0, .int .i64 11]) ?_ rfl (ROpenD.no (by rw [HD.out, HT.out]; exact HNO.out) HB4.out)
    exact results_tmp2 (t := 4) (u := 5) Tryz.results16 _ _ _
   ·have HB4 := zh (HB9.out.trans (hb4.mono HB9.out.size))
    have HRG := zh (And.intro hrg hT)
    clear hb4 hrg hT
    go_wp2_with fail
    refine bodyPost_ret (v := .tuple #[.slice o (D 2) c, .int .i64 0]) ?_ rfl (by have h9 := ROpenD.ok (K := K) (Q := Q) (en := en) (w := w) (o := o) (c := c) ⟨by rw [HT.out]; exact HQ.out, by rw [HD.out]; exact HRG.out.1⟩ (by rw [HD.out]; exact HRG.out.2) HB4.out; rw [HD.out] at h9; exact h9)
    exact results_tmp2 (t := 4) (u := 5) Tryz.results16 _ _ _
  ·have HNO : Hid (¬ (T = true ∧ IsRing en D)) := zh fun h => by rw [hq] at h; cases h.1
   have HB9 := zh hb9
   clear hb9 hq
   go_wp2_with fail
   refine bodyPost_ret (v := .tuple #[.slice none 0 0, .int .i64 11]) ?_ rfl (ROpenD.no (by rw [HD.out, HT.out]; exact HNO.out) HB9.out)
   exact results_tmp2 (t := 4) (u := 5) Tryz.results16 _ _ _
 refine aN rfl fun K hK => ?_
 (refine step_bsN (by rfl) #[(0, .const (.int .u8 99)), (1, .const (.int .u8 111)), (2, .const (.int .u8 114)), (3, .const (.int .u8 101)), (4, .const (.int .u8 47)), (5, .const (.int .u8 114)), (6, .const (.int .u8 105)), (7, .const (.int .u8 110)), (8, .const (.int .u8 103))] #[(0, .int .u8 99), (1, .int .u8 111), (2, .int .u8 114), (3, .int .u8 101), (4, .int .u8 47), (5, .int .u8 114), (6, .int .u8 105), (7, .int .u8 110), (8, .int .u8 103)] (rowC 9 beR).toArray rfl (by first | (simp [Act.eval]; done) | (go_simp; done)) bs9_run ?_; obtain ⟨g5, hq5⟩ := zX W0.heap.size; obtain ⟨WBx6, hw1⟩ := zX (W0.alloc (.cells (rowC 9 beR).toArray 5)); rw [hw1, hq5]; have hBWBx6 : Blk WBx6 g5 (rowC 9 beR).toArray 5 := (by rw [← hw1, ← hq5]; exact Blk.new _ _ _); have hvWBx6 : Below w.heap.size w WBx6 := Below.trans hvW0 (by rw [← hw1]; exact (Below.refl _ _).alloc (Below.size hvW0) _); have hge : w.heap.size ≤ g5 := (by rw [← hq5]; exact Below.size hvW0); clear hw1 hq5; skip)
 refine hK.out _ _ ?_ fun hHeld => ?_
 ·(try dsimp only)
  (try trivial)
 clear hK K
 (try simp only [Act.put, zS])
 refine wR [1, 7] ?_
 refine aC rfl (fun K hK => ?_) ?_
 ·skip
  go_simp
  (refine (HKY.out WBx6 hvWBx6).mono ?_; rintro e WKx6x1 ⟨rfl, hb⟩; have hvWKx6x1 := Below.trans hvWBx6 (hb.mono (Below.size hvWBx6)); have hBWKx6x1 := Blk.below hBWBx6 hb (Blk.lt hBWBx6); clear hb; skip)
  (try go_wp2_with fail)
  refine hK.out _ _ ?_ fun hHeld => ?_
  ·(try dsimp only)
   (try trivial)
  clear hK K
  (try simp only [Act.put, zS])
  refine wR [7] ?_
  refine aN rfl fun K hK => ?_
  (refine step_convB (by rfl) (.tmp 22) rfl g5 9 9 9 rfl (Shp.blk hBWKx6x1) ?_; obtain ⟨WCx6x1, hw2⟩ := zX (WKx6x1.freeze ⟨g5, 9, none⟩ 1); rw [hw2]; have hAWCx6x1 : Bytes WCx6x1 (some ⟨g5, 0, none⟩) 9 beR := (by rw [← hw2]; exact (be_bytes hBWKx6x1 beR_lt).frz _ _); have hvWCx6x1 : Below w.heap.size w WCx6x1 := Below.trans hvWKx6x1 (by rw [← hw2]; exact (Own.frz _ _ _ _).below hge (Below.size hvWKx6x1)); clear hw2; skip)
  refine hK.out _ _ ?_ fun hHeld => ?_
  ·(try dsimp only)
   (try trivial)
  clear hK K
  (try simp only [Act.put, zS])
  refine wR [8] ?_
  refine aN rfl fun K hK => ?_
  go_simp
  (refine (HOP.out WCx6x1 g5 hvWCx6x1 hAWCx6x1).mono ?_; rintro e W9 ⟨v, q, rfl, hR⟩; have HR9 := zh hR; clear hR; skip)
  (try go_wp2_with fail)
  refine hK.out _ _ ?_ fun hHeld => ?_
  ·(try dsimp only)
   (try trivial)
  clear hK K
  (try simp only [Act.put, zS])
  refine wT 9 ?_ rfl ?_ ?_
  rotate_left
  ·intro wS hSw
   (try dsimp only at hSw)
   go_simp
   (try with_reducible rfl)
  (try simp only [Act.put, zS])
  refine wT 10 ?_ rfl ?_ ?_
  rotate_left
  ·intro wS hSw
   (try dsimp only at hSw)
   go_simp
   (try with_reducible rfl)
  (try simp only [Act.put, zS])
  refine wT 11 ?_ rfl ?_ ?_
  rotate_left
  ·intro wS hSw
   (try dsimp only at hSw)
   go_simp
   (try with_reducible rfl)
  (try simp only [Act.put, zS])
  refine wT 12 ?_ rfl ?_ ?_
  rotate_left
  ·intro wS hSw
   (try dsimp only at hSw)
   go_simp
   (try with_reducible rfl)
  (try simp only [Act.put, zS])
  refine wT 13 ?_ rfl ?_ ?_
  rotate_left
  ·intro wS hSw
   (try dsimp only at hSw)
   go_simp
   (try with_reducible rfl)
  (try simp only [Act.put, zS])
  refine wpAnyH_done (by kernel_rfl) ?_ _
  rcases HR9.out with ⟨hb9, hq, rfl, hG⟩ | ⟨hb9, hq, rfl, rfl⟩
  ·obtain ⟨oc, cc, rfl, hBc, hcc, hcm, hno⟩ := hG.bytesM (fun i hi => HDL.out i hi)
   have HBC := zh (And.intro hBc hcc)
   have HB9 := zh hb9
   have HQ := zh hq
   clear hb9 hq hG hBc hcc hcm hno
   go_wp2_with fail
   refine (rdecode_any en cc oc D W9 HBC.out.1 HBC.out.2 (by have := HEN.out; omega)).mono ?_
   rintro e W4 ⟨hb4, ⟨rfl, hno⟩ | ⟨hrg, o, c, rfl, hT⟩⟩
   ·have HNO : Hid (¬ (T = true ∧ IsRing en D)) := zh fun h => hno h.2
    have HB4 := zh (HB9.out.trans (hb4.mono HB9.out.size))
    clear hb4 hno
    go_wp2_with fail
    refine bodyPost_ret (v := .tuple #[.slice none 0 0, .int .i64 11]) ?_ rfl (ROpenD.no (by rw [HD.out, HT.out]; exact HNO.out) HB4.out)
    exact results_tmp2 (t := 4) (u := 5) Tryz.results16 _ _ _
   ·have HB4 := zh (HB9.out.trans (hb4.mono HB9.out.size))
    have HRG := zh (And.intro hrg hT)
    clear hb4 hrg hT
    go_wp2_with fail
    refine bodyPost_ret (v := .tuple #[.slice o (D 2) c, .int .i64 0]) ?_ rfl (by have h9 := ROpenD.ok (K := K) (Q := Q) (en := en) (w := w) (o := o) (c := c) ⟨by rw [HT.out]; exact HQ.out, by rw [HD.out]; exact HRG.out.1⟩ (by rw [HD.out]; exact HRG.out.2) HB4.out; rw [HD.out] at h9; exact h9)
    exact results_tmp2 (t := 4) (u := 5) Tryz.results16 _ _ _
  ·have HNO : Hid (¬ (T = true ∧ IsRing en D)) := zh fun h => by rw [hq] at h; cases h.1
   have HB9 := zh hb9
   clear hb9 hq
   go_wp2_with fail
   refine bodyPost_ret (v := .tuple #[.slice none 0 0, .int .i64 11]) ?_ rfl (ROpenD.no (by rw [HD.out, HT.out]; exact HNO.out) HB9.out)
   exact results_tmp2 (t := 4) (u := 5) Tryz.results16 _ _ _
 refine aN rfl fun K hK => ?_
 (refine step_convB (by rfl) (.tmp 22) rfl g5 9 9 9 rfl (Shp.blk hBWBx6) ?_; obtain ⟨WCx6x7, hw2⟩ := zX (WBx6.freeze ⟨g5, 9, none⟩ 1); rw [hw2]; have hAWCx6x7 : Bytes WCx6x7 (some ⟨g5, 0, none⟩) 9 beR := (by rw [← hw2]; exact (be_bytes hBWBx6 beR_lt).frz _ _); have hvWCx6x7 : Below w.heap.size w WCx6x7 := Below.trans hvWBx6 (by rw [← hw2]; exact (Own.frz _ _ _ _).below hge (Below.size hvWBx6)); clear hw2; skip)
 refine hK.out _ _ ?_ fun hHeld => ?_
 ·(try dsimp only)
  (try trivial)
 clear hK K
 (try simp only [Act.put, zS])
 refine wR [1] ?_
 refine aN rfl fun K hK => ?_
 go_simp
 (refine (HKY.out WCx6x7 hvWCx6x7).mono ?_; rintro e WKx6x7 ⟨rfl, hb⟩; have hvWKx6x7 := Below.trans hvWCx6x7 (hb.mono (Below.size hvWCx6x7)); have hAWKx6x7 := Bytes.later hAWCx6x7 hb; clear hb; skip)
 (try go_wp2_with fail)
 refine hK.out _ _ ?_ fun hHeld => ?_
 ·(try dsimp only)
  (try trivial)
 clear hK K
 (try simp only [Act.put, zS])
 refine wR [8] ?_
 refine aN rfl fun K hK => ?_
 go_simp
 (refine (HOP.out WKx6x7 g5 hvWKx6x7 hAWKx6x7).mono ?_; rintro e W9 ⟨v, q, rfl, hR⟩; have HR9 := zh hR; clear hR; skip)
 (try go_wp2_with fail)
 refine hK.out _ _ ?_ fun hHeld => ?_
 ·(try dsimp only)
  (try trivial)
 clear hK K
 (try simp only [Act.put, zS])
 refine wT 9 ?_ rfl ?_ ?_
 rotate_left
 ·intro wS hSw
  (try dsimp only at hSw)
  go_simp
  (try with_reducible rfl)
 (try simp only [Act.put, zS])
 refine wT 10 ?_ rfl ?_ ?_
 rotate_left
 ·intro wS hSw
  (try dsimp only at hSw)
  go_simp
  (try with_reducible rfl)
 (try simp only [Act.put, zS])
 refine wT 11 ?_ rfl ?_ ?_
 rotate_left
 ·intro wS hSw
  (try dsimp only at hSw)
  go_simp
  (try with_reducible rfl)
 (try simp only [Act.put, zS])
 refine wT 12 ?_ rfl ?_ ?_
 rotate_left
 ·intro wS hSw
  (try dsimp only at hSw)
  go_simp
  (try with_reducible rfl)
 (try simp only [Act.put, zS])
 refine wT 13 ?_ rfl ?_ ?_
 rotate_left
 ·intro wS hSw
  (try dsimp only at hSw)
  go_simp
  (try with_reducible rfl)
 (try simp only [Act.put, zS])
 refine wpAnyH_done (by kernel_rfl) ?_ _
 rcases HR9.out with ⟨hb9, hq, rfl, hG⟩ | ⟨hb9, hq, rfl, rfl⟩
 ·obtain ⟨oc, cc, rfl, hBc, hcc, hcm, hno⟩ := hG.bytesM (fun i hi => HDL.out i hi)
  have HBC := zh (And.intro hBc hcc)
  have HB9 := zh hb9
  have HQ := zh hq
  clear hb9 hq hG hBc hcc hcm hno
  go_wp2_with fail
  refine (rdecode_any en cc oc D W9 HBC.out.1 HBC.out.2 (by have := HEN.out; omega)).mono ?_
  rintro e W4 ⟨hb4, ⟨rfl, hno⟩ | ⟨hrg, o, c, rfl, hT⟩⟩
  ·have HNO : Hid (¬ (T = true ∧ IsRing en D)) := zh fun h => hno h.2
   have HB4 := zh (HB9.out.trans (hb4.mono HB9.out.size))
   clear hb4 hno
   go_wp2_with fail
   refine bodyPost_ret (v := .tuple #[.slice none 0 0, .int .i64 11]) ?_ rfl (ROpenD.no (by rw [HD.out, HT.out]; exact HNO.out) HB4.out)
   exact results_tmp2 (t := 4) (u := 5) Tryz.results16 _ _ _
  ·have HB4 := zh (HB9.out.trans (hb4.mono HB9.out.size))
   have HRG := zh (And.intro hrg hT)
   clear hb4 hrg hT
   go_wp2_with fail
   refine bodyPost_ret (v := .tuple #[.slice o (D 2) c, .int .i64 0]) ?_ rfl (by have h9 := ROpenD.ok (K := K) (Q := Q) (en := en) (w := w) (o := o) (c := c) ⟨by rw [HT.out]; exact HQ.out, by rw [HD.out]; exact HRG.out.1⟩ (by rw [HD.out]; exact HRG.out.2) HB4.out; rw [HD.out] at h9; exact h9)
   exact results_tmp2 (t := 4) (u := 5) Tryz.results16 _ _ _
 ·have HNO : Hid (¬ (T = true ∧ IsRing en D)) := zh fun h => by rw [hq] at h; cases h.1
  have HB9 := zh hb9
  clear hb9 hq
  go_wp2_with fail
  refine bodyPost_ret (v := .tuple #[.slice none 0 0, .int .i64 11]) ?_ rfl (ROpenD.no (by rw [HD.out, HT.out]; exact HNO.out) HB9.out)
  exact results_tmp2 (t := 4) (u := 5) Tryz.results16 _ _ _
end Go.Proofs.YtncfocjmdecapaaGreatDoor
