/- Part of the proof: what stands here serves the walks of the functions that the statement calls. -/
import Derived.Test.YtncfocjmdecapaaGreatDoorY00
namespace Go.Proofs.YtncfocjmdecapaaGreatDoor
set_option linter.unusedVariables false
set_option linter.unusedSimpArgs false
open Go.RowKit
set_option maxRecDepth 100000
set_option maxHeartbeats 4000000
def zero64w : Array Value := (rowW 64 (fun _ => 0)).toArray
theorem zero64w_run (w : World) : (zeroValue 168).run Tryz.prog w = .ok (.agg zero64w) w := by kernel_rfl
theorem info70 (v : Nat → Nat) : (Tryz.prog.info? 168).map (·.size) = some (rowW 64 v).toArray.size := by rw [rowW_size]; kernel_rfl
theorem one64w (v : Nat → Nat) : (rowW 64 v).toArray.all (·.oneCell') = true := all_oneCell_toArray (rowW_one _ _)
structure SPR (w0 : World) (b : Nat → Nat) (n : Nat) (wr : World) : Prop where
 s : RB 124 64 w0.heap.size b wr
 r : WB 168 64 (w0.heap.size + 1) (fun _ => 0) wr
 y : WB 168 64 (w0.heap.size + 1 + 1) (fun t => if t < n then spK b 64 t else 0) wr
 o : Below w0.heap.size w0 wr
theorem SPR.start (b : Nat → Nat) (w : World) : SPR w b 0 (((w.alloc (.cells (rowC 64 b).toArray 124)).alloc (.cells zero64w 168)).alloc (.cells zero64w 168)) := by
 refine ⟨((Blk.new w _ 124).alloc _).alloc _, ?_, ?_, ((zA).alloc (by simp) _).alloc (by simp; omega) _⟩
 ·have := (Blk.new (w.alloc (.cells (rowC 64 b).toArray 124)) zero64w 168).alloc (.cells zero64w 168)
  show Blk _ _ zero64w _; simpa using this
 ·have := Blk.new ((w.alloc (.cells (rowC 64 b).toArray 124)).alloc (.cells zero64w 168)) zero64w 168
  refine WB.congr (f := fun _ => 0) ?_ fun i _ => (if_neg (Nat.not_lt_zero _)).symm
  show Blk _ _ zero64w _; simpa using this
theorem SPR.below {w0 : World} {b : Nat → Nat} {n : Nat} {wr w' : World} (h : SPR w0 b n wr) (hb : Below wr.heap.size wr w') : SPR w0 b n w' :=
 ⟨Blk.below h.s hb (Blk.lt h.s), Blk.below h.r hb (Blk.lt h.r), Blk.below h.y hb (Blk.lt h.y), h.o.trans (hb.mono h.o.size)⟩
theorem SPR.drew {w0 : World} {b : Nat → Nat} {n : Nat} {wr : World} (h : SPR w0 b n wr) : SPR w0 b n wr.drew := h.below (Below.refl _ wr).drew
theorem SPR.set {w0 : World} {b : Nat → Nat} {n x : Nat} {wr : World} (h : SPR w0 b n wr) (hx : spK b 64 n = x) : SPR w0 b (n + 1) (wr.setCell ⟨w0.heap.size + 1 + 1, n, none⟩ (.int .u32 (x : Nat))) := by
 refine ⟨Blk.set_other h.s (by simp; omega) _, Blk.set_other h.r (by simp) _, (h.y.set n x).congr fun j _ => ?_, h.o.setCell (by simp; omega) _⟩
 unfold upd
 by_cases e : j = n
 ·rw [if_pos e, e, if_pos (by omega), hx]
 ·rw [if_neg e]
  show (if j < n then spK b 64 j else 0) = if j < n + 1 then spK b 64 j else 0
  by_cases h5 : j < n
  ·rw [if_pos h5, if_pos (by omega)]
  ·rw [if_neg h5, if_neg (by omega)]
theorem SPR.word {w0 : World} {b : Nat → Nat} {n i x : Nat} {wr : World} (h : SPR w0 b n wr) (hi : i < n) (hn : n ≤ 64) (hx : spK b 64 i = x) : wr.cell? ⟨w0.heap.size + 1 + 1, i, none⟩ = some (.int .u32 (x : Nat)) :=
 h.y.val (by omega) (by rw [← hx]; exact if_pos hi)
theorem SPR.none {w0 : World} {b : Nat → Nat} {n : Nat} {wr : World} (h : SPR w0 b n wr) (hn : n < 64) : wr.cell? ⟨w0.heap.size + 1 + 1, n, none⟩ = some (.int .u32 0) :=
 h.y.val hn (if_neg (Nat.lt_irrefl _))
theorem spread_any (b : Nat → Nat) (w : World) (hb : ∀ i, i < 64 → b i < 256) :
  Calls Tryz.prog 98 #[.agg (rowC 64 b).toArray] w fun e w' => e = .returned (.agg (rowW 64 (spK b 64)).toArray) ∧ Below w.heap.size w w' := by
 have hz := zero64w_run
 have HT := zh (SPR.start b w)
 obtain ⟨C, hC⟩ := zX ((rowC 64 b).toArray)
 have HB8 := zh hb
 have HL := zh (fun t => spK_lt hb 64 t)
 rw [hC] at HT ⊢
 clear hb hC
 go_enter Tryz.func98, Tryz.ntmps98
 go_wp2_with fail
 clear hz
 go_loopw [8] (fun v wr => ∃ i : Nat, i ≤ 16 ∧ v = .int .i64 (i : Int) ∧ SPR w b i wr) (fun v _ => 16 - (intOf v).toNat)
 case atStart => exact ⟨0, Nat.zero_le _, rfl, HT.out⟩
 case round =>
  clear HT
  obtain ⟨i, hi, rfl, hW⟩ := hrel
  have HW := zh hW
  clear hW
  by_cases hlt : i < 16
  ·have i0 : (0 : Int) ≤ (i : Int) := by omega
   have i1 : (i : Int) < 16 := by omega
   have i6 : (i : Int) < 64 := by omega
   obtain ⟨j0, hj0⟩ := zX (4 * i)
   obtain ⟨j1, hj1⟩ := zX (j0 + 1)
   obtain ⟨j2, hj2⟩ := zX (j0 + 2)
   obtain ⟨j3, hj3⟩ := zX (j0 + 3)
   have k0 := wrn (m := 4) rfl hj0 (by omega)
   have k1 := wrk (m := 1) rfl hj1 (by omega)
   have k2 := wrk (m := 2) rfl hj2 (by omega)
   have k3 := wrk (m := 3) rfl hj3 (by omega)
   obtain ⟨a0, b0⟩ : (0 : Int) ≤ (j0 : Int) ∧ (j0 : Int) < 64 := by omega
   obtain ⟨a1, b1⟩ : (0 : Int) ≤ (j1 : Int) ∧ (j1 : Int) < 64 := by omega
   obtain ⟨a2, b2⟩ : (0 : Int) ≤ (j2 : Int) ∧ (j2 : Int) < 64 := by omega
   obtain ⟨a3, b3⟩ : (0 : Int) ≤ (j3 : Int) ∧ (j3 : Int) < 64 := by omega
   have HP := HW.out.drew
   have hkw : spK b 64 i = b j0 * 16777216 + b j1 * 65536 + b j2 * 256 + b j3 := by
    rw [spK_lo b hlt]; unfold wd; rw [← hj1, ← hj2, ← hj3, ← hj0]
   have l0 := HB8.out j0 (by omega)
   have l1 := HB8.out j1 (by omega)
   have l2 := HB8.out j2 (by omega)
   have l3 := HB8.out j3 (by omega)
   have q0 := HP.s.cell (i := j0) (by omega)
   have q1 := HP.s.cell (i := j1) (by omega)
   have q2 := HP.s.cell (i := j2) (by omega)
   have q3 := HP.s.cell (i := j3) (by omega)
   generalize b j0 = x0 at *
   generalize b j1 = x1 at *
   generalize b j2 = x2 at *
   generalize b j3 = x3 at *
   have c0 : IntKind.u32.wrap (x0 : Int) = (x0 : Int) := by rw [IntKind.wrap_u32]; omega
   have c1 : IntKind.u32.wrap (x1 : Int) = (x1 : Int) := by rw [IntKind.wrap_u32]; omega
   have c2 : IntKind.u32.wrap (x2 : Int) = (x2 : Int) := by rw [IntKind.wrap_u32]; omega
   have c3 : IntKind.u32.wrap (x3 : Int) = (x3 : Int) := by rw [IntKind.wrap_u32]; omega
   have d0 : IntKind.u32.wrap ((x0 : Int) * 16777216) = (x0 : Int) * 16777216 := by rw [IntKind.wrap_u32]; omega
   have d1 : IntKind.u32.wrap ((x1 : Int) * 65536) = (x1 : Int) * 65536 := by rw [IntKind.wrap_u32]; omega
   have d2 : IntKind.u32.wrap ((x2 : Int) * 256) = (x2 : Int) * 256 := by rw [IntKind.wrap_u32]; omega
   have e4 := u32_join4 (y3 := (x0 : Int)) (y2 := x1) (y1 := x2) (y0 := x3) (by omega) (by omega) (by omega) (by omega)
   obtain ⟨V, hV⟩ := zX (spK b 64 i)
   rw [hV] at hkw
   have e5 : (x0 : Int) * 16777216 + (x1 : Int) * 65536 + (x2 : Int) * 256 + (x3 : Int) = (V : Int) := by omega
   rw [e5] at e4
   have c8 := HP.none (show i < 64 by omega)
   have z8 : wr.drew.frozen? ⟨w.heap.size + 1 + 1, i, none⟩ = false := HP.y.free _
   have HN := zh (HP.set hV)
   clear e5 hkw l0 l1 l2 l3 hV hj0 hj1 hj2 hj3 HP hlt hi HW
   go_wp2_with fail
   refine still_tail 31 (by kernel_rfl) (by kernel_rfl) ?_
   simp only [List.take_succ_cons, List.take_zero, List.drop_succ_cons, List.drop_zero]
   generalize wr.drew = W0 at *
   repeat still_step
   refine wpStill_nil ?_
   clear k0 k1 k2 k3
   go_wp2_with fail
   go_roundw
   case rel => exact ⟨i + 1, by omega, by go_num, HN.out⟩
   case measure => simp [intOf] <;> omega
  ·obtain rfl : i = 16 := by omega
   clear hi hlt
   rw [show ((16 : Nat) : Int) = 16 from rfl]
   go_wp2_with fail
   go_loopw [5] (fun v wr => ∃ t : Nat, 16 ≤ t ∧ t ≤ 64 ∧ v = .int .i64 (t : Int) ∧ SPR w b t wr) (fun v _ => 64 - (intOf v).toNat)
   case atStart => exact ⟨16, by decide, by decide, rfl, HW.out⟩
   case round =>
    clear HW
    obtain ⟨t, ht, ht6, rfl, hW⟩ := hrel
    have HW := zh hW
    clear hW
    by_cases hlt : t < 64
    ·have t0 : (0 : Int) ≤ (t : Int) := by omega
     have t1 : (t : Int) < 64 := by omega
     have t16 : (16 : Int) ≤ (t : Int) := by omega
     obtain ⟨p, hp⟩ : ∃ p, t = p + 15 := ⟨t - 15, by omega⟩
     obtain ⟨q, hq⟩ : ∃ p, t = p + 2 := ⟨t - 2, by omega⟩
     obtain ⟨r, hr⟩ : ∃ p, t = p + 7 := ⟨t - 7, by omega⟩
     obtain ⟨s, hs⟩ : ∃ p, t = p + 16 := ⟨t - 16, by omega⟩
     have m1 := wrb (m := 15) rfl hp (by omega)
     have m2 := wrb (m := 2) rfl hq (by omega)
     have m3 := wrb (m := 7) rfl hr (by omega)
     have m4 := wrb (m := 16) rfl hs (by omega)
     obtain ⟨p0, p1⟩ : (0 : Int) ≤ (p : Int) ∧ (p : Int) < 64 := by omega
     obtain ⟨q0, q1⟩ : (0 : Int) ≤ (q : Int) ∧ (q : Int) < 64 := by omega
     obtain ⟨r0, r1⟩ : (0 : Int) ≤ (r : Int) ∧ (r : Int) < 64 := by omega
     obtain ⟨s0, s1⟩ : (0 : Int) ≤ (s : Int) ∧ (s : Int) < 64 := by omega
     have hre := spK_hi b ht hlt
     unfold spS at hre
     rw [show t - 2 = q by omega, show t - 7 = r by omega, show t - 15 = p by omega, show t - 16 = s by omega] at hre
     obtain ⟨x, hx⟩ := zX (spK b 64 p)
     obtain ⟨y, hy⟩ := zX (spK b 64 q)
     obtain ⟨u, hu⟩ := zX (spK b 64 r)
     obtain ⟨z, hz⟩ := zX (spK b 64 s)
     obtain ⟨V, hV⟩ := zX (spK b 64 t)
     have lx : x < 4294967296 := hx ▸ HL.out p
     have ly : y < 4294967296 := hy ▸ HL.out q
     have lu : u < 4294967296 := hu ▸ HL.out r
     have lz : z < 4294967296 := hz ▸ HL.out s
     rw [hx, hy, hu, hz, hV] at hre
     have HP := zh HW.out.drew
     have cx : wr.drew.cell? ⟨w.heap.size + 1 + 1, p, none⟩ = some (.int .u32 (x : Nat)) := HP.out.word (by omega) ht6 hx
     have cy : wr.drew.cell? ⟨w.heap.size + 1 + 1, q, none⟩ = some (.int .u32 (y : Nat)) := HP.out.word (by omega) ht6 hy
     have HU : Hid (spK b 64 r = u ∧ spK b 64 s = z ∧ r < t ∧ s < t ∧ t < 64) := zh ⟨hu, hz, by omega, by omega, hlt⟩
     have HVV := zh hV
     have hX7 := ror7_any x
     have R7 := zh (fun w' => ror7_any x w' lx)
     have R18 := zh (fun w' => ror18_any x w' lx)
     have R17 := zh (fun w' => ror17_any y w' ly)
     have R19 := zh (fun w' => ror19_any y w' ly)
     have x3 : (x : Int) / 8 = ((x / 8 : Nat) : Int) := by omega
     have y3 : (y : Int) / 1024 = ((y / 1024 : Nat) : Int) := by omega
     have w3 : IntKind.u32.wrap ((x / 8 : Nat) : Int) = ((x / 8 : Nat) : Int) := by rw [IntKind.wrap_u32]; omega
     have w4 : IntKind.u32.wrap ((y / 1024 : Nat) : Int) = ((y / 1024 : Nat) : Int) := by rw [IntKind.wrap_u32]; omega
     have f1 : bits .xor .u32 (rorN 7 x : Nat) (rorN 18 x : Nat) = ((rorN 7 x ^^^ rorN 18 x : Nat) : Int) := u32_xor_nat _ _ (rorN_lt lx) (rorN_lt lx)
     have f2 : bits .xor .u32 ((rorN 7 x ^^^ rorN 18 x : Nat) : Int) ((x / 8 : Nat) : Int) = ((sg0 x : Nat) : Int) := u32_xor_nat _ _ (xor32 (rorN_lt lx) (rorN_lt lx)) (by omega)
     have g1 : bits .xor .u32 (rorN 17 y : Nat) (rorN 19 y : Nat) = ((rorN 17 y ^^^ rorN 19 y : Nat) : Int) := u32_xor_nat _ _ (rorN_lt ly) (rorN_lt ly)
     have g2 : bits .xor .u32 ((rorN 17 y ^^^ rorN 19 y : Nat) : Int) ((y / 1024 : Nat) : Int) = ((sg1 y : Nat) : Int) := u32_xor_nat _ _ (xor32 (rorN_lt ly) (rorN_lt ly)) (by omega)
     have l0 := sg0_lt lx
     have l1 := sg1_lt ly
     clear hX7
     generalize rorN 7 x ^^^ rorN 18 x = o1 at *
     generalize rorN 17 y ^^^ rorN 19 y = o2 at *
     generalize rorN 7 x = o3 at *
     generalize rorN 18 x = o4 at *
     generalize rorN 17 y = o5 at *
     generalize rorN 19 y = o6 at *
     generalize sg0 x = S0 at *
     generalize sg1 y = S1 at *
     generalize x / 8 = x8 at *
     generalize y / 1024 = y8 at *
     obtain ⟨v1, hv1⟩ := zX ((S1 + u) % 4294967296)
     obtain ⟨v2, hv2⟩ := zX ((v1 + S0) % 4294967296)
     have h1 := u32m (S1 : Int) (u : Int) rfl rfl hv1
     have h2 := u32m (v1 : Int) (S0 : Int) rfl rfl hv2
     have h3 := u32m (v2 : Int) (z : Int) (e := V) rfl rfl (by omega)
     have HH1 := zh h1
     have HH2 := zh h2
     have HH3 := zh h3
     clear hv1 hv2 hre h1 h2 h3 lx ly lu lz l0 l1 hx hy hu hz hV hp hq hr hs ht ht6 hlt HW
     go_wp2_with fail
     refine still_lit (by kernel_rfl) (by kernel_rfl) ?_
     generalize wr.drew = W0 at *
     repeat still_step
     refine wpStill_step (fun K hK => ?_)
     go_simp
     with_reducible refine ⟨_, R7.out _, hK _ ?_⟩
     clear hK K
     repeat still_step
     refine wpStill_step (fun K hK => ?_)
     go_simp
     with_reducible refine ⟨_, R18.out _, hK _ ?_⟩
     clear hK K
     repeat still_step
     refine wpStill_nil ?_
     clear cx R7 R18
     go_wp2_with fail
     have HP1 := zh HP.out.drew
     have cy' : W0.drew.cell? ⟨w.heap.size + 1 + 1, q, none⟩ = some (.int .u32 (y : Nat)) := cy
     clear HP cy
     refine still_lit (by kernel_rfl) (by kernel_rfl) ?_
     generalize W0.drew = W1 at *
     repeat still_step
     refine wpStill_step (fun K hK => ?_)
     go_simp
     with_reducible refine ⟨_, R17.out _, hK _ ?_⟩
     clear hK K
     repeat still_step
     refine wpStill_step (fun K hK => ?_)
     go_simp
     with_reducible refine ⟨_, R19.out _, hK _ ?_⟩
     clear hK K
     repeat still_step
     refine wpStill_nil ?_
     clear cy' R17 R19
     go_wp2_with fail
     have HP2 := zh HP1.out.drew
     clear HP1
     have cu : W1.drew.cell? ⟨w.heap.size + 1 + 1, r, none⟩ = some (.int .u32 (u : Nat)) := HP2.out.word HU.out.2.2.1 (Nat.le_of_lt HU.out.2.2.2.2) HU.out.1
     have cz : W1.drew.cell? ⟨w.heap.size + 1 + 1, s, none⟩ = some (.int .u32 (z : Nat)) := HP2.out.word HU.out.2.2.2.1 (Nat.le_of_lt HU.out.2.2.2.2) HU.out.2.1
     have c8 := HP2.out.none HU.out.2.2.2.2
     have z8 : W1.drew.frozen? ⟨w.heap.size + 1 + 1, t, none⟩ = false := HP2.out.y.free _
     have HN := zh (HP2.out.set HVV.out)
     have h1 := HH1.out
     have h2 := HH2.out
     have h3 := HH3.out
     clear HP2 HH1 HH2 HH3
     refine still_tail 15 (by kernel_rfl) (by kernel_rfl) ?_
     simp only [List.take_succ_cons, List.take_zero, List.drop_succ_cons, List.drop_zero]
     generalize W1.drew = W2 at *
     repeat still_step
     refine wpStill_nil ?_
     clear cu cz m1 m2 m3 m4 h1 h2 h3
     go_wp2_with fail
     have h64 := HU.out.2.2.2.2
     go_roundw
     case rel => exact ⟨t + 1, by omega, by omega, by go_num, HN.out⟩
     case measure => simp [intOf] <;> omega
    ·obtain rfl : t = 64 := by omega
     have hY : WB 168 64 (w.heap.size + 1 + 1) (spK b 64) wr := HW.out.y.congr fun j hj => if_pos hj
     have hN : WB 168 64 (w.heap.size + 1) (spK b 64) (wr.setCells (w.heap.size + 1) 0 (rowW 64 (spK b 64)).toArray.toList) := Blk.setCells HW.out.r (rowW 64 (spK b 64)) (by rw [rowW_size, rowW_len])
     have hO : Below w.heap.size w (wr.setCells (w.heap.size + 1) 0 (rowW 64 (spK b 64)).toArray.toList) := HW.out.o.trans ((Own.setCells _ 0 wr).below (by omega) HW.out.o.size)
     have hTH : wr.there (w.heap.size + 1) 0 (rowW 64 (spK b 64)).toArray.size := Blk.there HW.out.r (by rw [rowW_size, rowW_size]; exact Nat.le_refl _)
     have hI := info70 (spK b 64)
     have hI1 := one64w (spK b 64)
     obtain ⟨E, hE⟩ := zX ((rowW 64 (spK b 64)).toArray)
     unfold WB at hN hY
     rw [hE] at hN hY hO hTH hI hI1
     have HN := zh hN
     have HY := zh hY
     have HO := zh hO
     have HTH := zh hTH
     have HI := zh hI
     have HI1 := zh hI1
     have HE := zh hE
     clear hN hY hO hTH hI hI1 hE hlt ht ht6 HW
     go_wp2_with (first
      | (refine wpList_load_row rfl 168 (.tmp 3) rfl (w.heap.size + 1 + 1) rfl 168 E (0, 0) _ HY.out Tryz.underlying168 rfl HI.out ?_)
      | (refine wpList_store_mid rfl 168 (.tmp 2) (.tmp 96) rfl (w.heap.size + 1) 0 E rfl rfl HTH.out HI.out HI1.out ?_))
     refine bodyPost_ret (v := .agg E) ?_ rfl ⟨by rw [HE.out], HO.out⟩
     exact results_cell_row Tryz.results98 _ _ (w.heap.size + 1) 168 E (0, 0) _ rfl HN.out Tryz.underlying168 rfl HI.out
set_option maxHeartbeats 8000000
theorem run_index70 (W : Nat → Nat) (t : Nat) (ht : t < 64) (w : World) : (Instr.index 168 (.agg (rowW 64 W).toArray) (.int .i64 (t : Int))).run Tryz.prog w = .ok (.int .u32 (W t : Nat)) w := by
 have h1 : Tryz.prog.underlying 168 = some (.array 64 23) := Tryz.underlying168
 have h2 : (isAgg 23).run Tryz.prog w = .ok false w := by
  unfold isAgg; rw [Sem.run_bind, run_underlying Tryz.underlying23 w]; rfl
 have h3 : (sizeOf 23).run Tryz.prog w = .ok 1 w := by kernel_rfl
 have h4 : (0 : Int) ≤ (t : Int) ∧ (t : Int) < ((64 : Nat) : Int) := by omega
 have h5 : (t : Int).toNat * 1 = t := by omega
 have h6 : (rowW 64 W).toArray[t]? = some (.int .u32 (W t : Nat)) := by rw [List.getElem?_toArray]; exact rowW_get W ht
 unfold Instr.index part
 simp only [asIntOf, Sem.run_bind, Sem.run_pure, Result.andThen_ok, run_underlying h1]
 rw [if_pos h4]
 simp only [Sem.run_bind, Result.andThen_ok, h2, h3, h5, h6, Bool.false_eq_true, if_false, Sem.run_pure]
theorem exec_index {o : Oper} {a : Act} {w : World} {ty : TypeId} {C : Array Value} {n : Int} {v : Value} (x y : Operand) (ho : o.op = .index ty x y) (hx : a.eval x = .agg C) (hy : a.eval y = .int .i64 n) (h : (Instr.index ty (.agg C) (.int .i64 n)).run Tryz.prog w = .ok v w) : (execOp a.eval o).run Tryz.prog w = .ok (.value v) w := by
 unfold execOp
 simp only [ho, hx, hy, Sem.run_bind, h, Result.andThen_ok]
 rfl
def zero8w : Array Value := (rowW 8 (fun _ => 0)).toArray
theorem zero8w_run (w : World) : (zeroValue 149).run Tryz.prog w = .ok (.agg zero8w) w := by kernel_rfl
theorem info56 (v : Nat → Nat) : (Tryz.prog.info? 149).map (·.size) = some (rowW 8 v).toArray.size := by rw [rowW_size]; kernel_rfl
theorem one8w (v : Nat → Nat) : (rowW 8 v).toArray.all (·.oneCell') = true := all_oneCell_toArray (rowW_one _ _)
theorem info57 (v : Nat → Nat) : (Tryz.prog.info? 124).map (·.size) = some (rowC 64 v).toArray.size := by rw [rowC_size]; kernel_rfl
theorem info_u32 : (Tryz.prog.info? 23).map (·.size) = some 1 := by kernel_rfl
structure MI (w0 : World) (H b V : Nat → Nat) (wr : World) : Prop where
 s : WB 149 8 w0.heap.size H wr
 b : RB 124 64 (w0.heap.size + 1) b wr
 r : WB 149 8 (w0.heap.size + 1 + 1) (fun _ => 0) wr
 v : WB 149 8 (w0.heap.size + 1 + 1 + 1) V wr
 o : Below w0.heap.size w0 wr
 g : GV wr
theorem MI.below {w0 : World} {H b V : Nat → Nat} {wr w' : World} (h : MI w0 H b V wr) (hb : Below wr.heap.size wr w') : MI w0 H b V w' :=
 ⟨Blk.below h.s hb (Blk.lt h.s), Blk.below h.b hb (Blk.lt h.b), Blk.below h.r hb (Blk.lt h.r), Blk.below h.v hb (Blk.lt h.v), h.o.trans (hb.mono h.o.size), h.g.later hb⟩
theorem MI.drew {w0 : World} {H b V : Nat → Nat} {wr : World} (h : MI w0 H b V wr) : MI w0 H b V wr.drew := h.below (Below.refl _ wr).drew
theorem MI.set {w0 : World} {H b V : Nat → Nat} {wr : World} (h : MI w0 H b V wr) (hg : GV w0) (k x : Nat) : MI w0 H b (upd V k x) (wr.setCell ⟨w0.heap.size + 1 + 1 + 1, k, none⟩ (.int .u32 (x : Nat))) := by
 have := hg.lt
 exact ⟨Blk.set_other h.s (by simp; omega) _, Blk.set_other h.b (by simp) _, Blk.set_other h.r (by simp) _, h.v.set k x, h.o.setCell (by simp; omega) _, h.g.own ((Own.refl _ wr).set k _) (by omega) (by omega)⟩
theorem MI.congr {w0 : World} {H b V V' : Nat → Nat} {wr : World} (h : MI w0 H b V wr) (he : ∀ i, i < 8 → V i = V' i) : MI w0 H b V' wr := ⟨h.s, h.b, h.r, h.v.congr he, h.o, h.g⟩
theorem MI.turned {w0 : World} {H b V V' : Nat → Nat} {wr w' : World} (h : MI w0 H b V wr) (hb : Below (w0.heap.size + 1 + 1 + 1) wr w') (hv : WB 149 8 (w0.heap.size + 1 + 1 + 1) V' w') (hg : GV w0) : MI w0 H b V' w' := by
 have hl := hg.lt
 exact ⟨Blk.below h.s hb (by omega), Blk.below h.b hb (by omega), Blk.below h.r hb (by omega), hv, h.o.trans (hb.mono (by omega)),
  ⟨fun i hi => cell_belowB hb (show 1 < w0.heap.size + 1 + 1 + 1 by omega) (h.g.1 i hi), fun i hi => cell_belowB hb (show 2 < w0.heap.size + 1 + 1 + 1 by omega) (h.g.2 i hi)⟩⟩
def shf (V : Nat → Nat) : Nat → Nat := fun j => if j = 0 then V 0 else V (j - 1)
theorem splice_shf (V : Nat → Nat) : splice (rowW 8 V) 1 (rowW 7 V) = rowW 8 (shf V) := by
 refine List.ext_getElem? fun i => ?_
 rw [splice_get (by rw [rowW_len, rowW_len]; exact Nat.le_refl 8)]
 by_cases h0 : i < 1
 ·obtain rfl : i = 0 := by omega
  rw [if_pos (by omega), rowW_get V (by omega), rowW_get (shf V) (by omega)]; rfl
 ·rw [if_neg h0, rowW_len]
  by_cases h8 : i < 8
  ·rw [if_pos (by omega), rowW_get V (show i - 1 < 7 by omega), rowW_get (shf V) h8]
   show _ = some (Value.int .u32 ((if i = 0 then V 0 else V (i - 1) : Nat) : Int))
   rw [if_neg (by omega)]
  ·rw [if_neg (by omega), List.getElem?_eq_none (by rw [rowW_len]; omega), List.getElem?_eq_none (by rw [rowW_len]; omega)]
theorem rd_shf (V : Nat → Nat) (k w j : Nat) : upd (upd (shf V) 4 ((V 3 + t1N V k w) % 4294967296)) 0 ((t1N V k w + t2N V) % 4294967296) j = rdS V k w j := by
 unfold upd rdS shf
 by_cases h0 : j = 0
 ·simp only [if_pos h0]
 ·simp only [if_neg h0]
theorem allx {x : Nat} (h : x < 4294967296) : 4294967295 ^^^ x = 4294967295 - x := by
 refine Nat.eq_of_testBit_eq fun i => ?_
 rw [show 4294967295 - x = 2 ^ 32 - (x + 1) by omega, Nat.testBit_xor, Nat.testBit_two_pow_sub_succ h, show 4294967295 = 2 ^ 32 - 1 by rfl, Nat.testBit_two_pow_sub_one]
 by_cases hi : i < 32
 ·simp [hi]
 ·have : x.testBit i = false := Nat.testBit_lt_two_pow (Nat.lt_of_lt_of_le h (by show 2 ^ 32 ≤ 2 ^ i; exact Nat.pow_le_pow_right (by decide) (by omega)))
  simp [hi, this]
theorem mixed_any (H b : Nat → Nat) (w : World) (hH : ∀ j, j < 8 → H j < 4294967296) (hb : ∀ i, i < 64 → b i < 256) (hg : GV w) :
  Calls Tryz.prog 85 #[.agg (rowW 8 H).toArray, .agg (rowC 64 b).toArray] w fun e w' => e = .returned (.agg (rowW 8 (mixN H b)).toArray) ∧ Below w.heap.size w w' := by
 have hz := zero8w_run
 have HG := zh hg
 have HL := zh (fun n => rdK_lt (W := spK b 64) hH n)
 have HHL := zh hH
 obtain ⟨CH, hCH⟩ := zX ((rowW 8 H).toArray)
 obtain ⟨CB, hCB⟩ := zX ((rowC 64 b).toArray)
 obtain ⟨E, hE⟩ := zX ((rowW 64 (spK b 64)).toArray)
 have HSP : Hid (∀ w', Calls Tryz.prog 98 #[.agg CB] w' fun e w'' => e = .returned (.agg E) ∧ Below w'.heap.size w' w'') := zh fun w' => by rw [← hCB, ← hE]; exact spread_any b w' hb
 have HIX : Hid (∀ t w', t < 64 → (Instr.index 168 (.agg E) (.int .i64 (t : Nat))).run Tryz.prog w' = .ok (.int .u32 (spK b 64 t : Nat)) w') := zh fun t w' ht => by rw [← hE]; exact run_index70 _ t ht w'
 have HWL := zh (fun t => spK_lt hb 64 t)
 have HMX : Hid (mixN H b = fun j => (rdK H (spK b 64) 64 j + H j) % 4294967296) := zh rfl
 obtain ⟨M, hM⟩ := zX (mixN H b)
 rw [hM] at HMX ⊢
 obtain ⟨W, hW⟩ := zX (spK b 64)
 rw [hW] at HL HIX HWL HMX
 have HI1 : Hid ((Tryz.prog.info? 149).map (·.size) = some CH.size) := zh (by rw [← hCH]; exact info56 H)
 have HO1 : Hid (CH.all (·.oneCell') = true) := zh (by rw [← hCH]; exact one8w H)
 have HI2 : Hid ((Tryz.prog.info? 124).map (·.size) = some CB.size) := zh (by rw [← hCB]; exact info57 b)
 obtain ⟨wa, hwa⟩ := zX ((((w.alloc (.cells CH 149)).alloc (.cells CB 124)).alloc (.cells zero8w 149)).alloc (.cells zero8w 149))
 obtain ⟨wb, hwb⟩ := zX (wa.setCells (w.heap.size + 1 + 1 + 1) 0 CH.toList)
 have HA : Hid (MI w H b (fun _ => 0) wa) := zh (by
  have hl := HG.out.lt
  rw [← hwa, ← hCH, ← hCB]
  have hbl : Below w.heap.size w ((((w.alloc (.cells (rowW 8 H).toArray 149)).alloc (.cells (rowC 64 b).toArray 124)).alloc (.cells zero8w 149)).alloc (.cells zero8w 149)) := (((zA).alloc (by simp) _).alloc (by simp; omega) _).alloc (by simp; omega) _
  refine ⟨(((Blk.new w _ 149).alloc _).alloc _).alloc _, ?_, ?_, ?_, hbl, HG.out.later hbl⟩
  ·have := ((Blk.new (w.alloc (.cells (rowW 8 H).toArray 149)) (rowC 64 b).toArray 124).alloc (.cells zero8w 149)).alloc (.cells zero8w 149)
   show Blk _ _ (rowC 64 b).toArray _; simpa using this
  ·have := (Blk.new ((w.alloc (.cells (rowW 8 H).toArray 149)).alloc (.cells (rowC 64 b).toArray 124)) zero8w 149).alloc (.cells zero8w 149)
   show Blk _ _ zero8w _; simpa using this
  ·have := Blk.new (((w.alloc (.cells (rowW 8 H).toArray 149)).alloc (.cells (rowC 64 b).toArray 124)).alloc (.cells zero8w 149)) zero8w 149
   show Blk _ _ zero8w _; simpa using this)
 have HT : Hid (MI w H b H wb) := zh (by
  have hO : Own (w.heap.size + 1 + 1 + 1) wa wb := by rw [← hwb]; exact Own.setCells _ _ _
  refine HA.out.turned (hO.below (Nat.le_refl _) (Nat.le_of_lt (Blk.lt HA.out.v))) ?_ HG.out
  rw [← hwb, ← hCH]
  exact Blk.setCells HA.out.v (rowW 8 H) (by rw [rowW_size, rowW_len]))
 have HTH : Hid (wa.there (w.heap.size + 1 + 1 + 1) 0 CH.size) := zh (by rw [← hCH]; exact Blk.there HA.out.v (by rw [rowW_size, rowW_size]; exact Nat.le_refl _))
 obtain ⟨w3, hw3⟩ := zX (((w.alloc (.cells CH 149)).alloc (.cells CB 124)).alloc (.cells zero8w 149))
 have HL3 : Hid (Blk w3 w.heap.size CH 149) := zh (by rw [← hw3]; exact ((Blk.new w _ 149).alloc _).alloc _)
 have HLB : Hid (Blk wb (w.heap.size + 1) CB 124) := zh (hCB ▸ HT.out.b)
 have hs3 : w3.heap.size = w.heap.size + 1 + 1 + 1 := by rw [← hw3]; simp
 rw [hw3] at hwa
 rw [hCH, hCB]
 clear hCH hCB hE hM hW hH hb hg HA
 go_enter Tryz.func85, Tryz.ntmps85
 go_wp2_with (first
  | (refine wpList_load_row rfl 149 (.tmp 2) rfl w.heap.size rfl 149 CH (0, 0) _ HL3.out Tryz.underlying149 rfl HI1.out ?_)
  | (refine wpList_store_mid rfl 149 (.tmp 5) (.tmp 13) rfl (w.heap.size + 1 + 1 + 1) 0 CH rfl rfl HTH.out HI1.out HO1.out ?_; rw [hwb])
  | (refine wpList_load_row rfl 124 (.tmp 3) rfl (w.heap.size + 1) rfl 124 CB (0, 0) _ HLB.out Tryz.underlying124 rfl HI2.out ?_))
 clear hz hwb hwa hw3 hs3 HTH HL3 HLB HO1 HI2
 refine (HSP.out _).mono ?_
 rintro e w4 ⟨rfl, hb4⟩
 have H4 := zh (HT.out.below hb4)
 clear hb4 HT HSP
 go_wp2_with fail
 go_loopw [16] (fun v wr => ∃ t : Nat, t ≤ 64 ∧ v = .int .i64 (t : Int) ∧ MI w H b (rdK H W t) wr) (fun v _ => 64 - (intOf v).toNat)
 case atStart => exact ⟨0, Nat.zero_le _, rfl, H4.out⟩
 case round =>
  clear H4
  obtain ⟨t, ht, rfl, hX⟩ := hrel
  have HX := zh hX
  clear hX
  by_cases hlt : t < 64
  ·have t0 : (0 : Int) ≤ (t : Int) := by omega
   have t1 : (t : Int) < 64 := by omega
   have HIT := zh (fun w' => HIX.out t w' hlt)
   have HLV := zh (HL.out t)
   have HNX : Hid (rdK H W (t + 1) = rdS (rdK H W t) (kN t) (W t)) := zh rfl
   obtain ⟨V, hV⟩ := zX (rdK H W t)
   rw [hV] at HX HLV HNX
   have lw := HWL.out t
   obtain ⟨wt, hwt⟩ := zX (W t)
   rw [hwt] at HIT lw HNX
   have lk := kN_lt t
   obtain ⟨kt, hkt⟩ := zX (kN t)
   rw [hkt] at lk HNX
   obtain ⟨x0, h0⟩ := zX (V 0)
   obtain ⟨x1, h1⟩ := zX (V 1)
   obtain ⟨x2, h2⟩ := zX (V 2)
   obtain ⟨x3, h3⟩ := zX (V 3)
   obtain ⟨x4, h4⟩ := zX (V 4)
   obtain ⟨x5, h5⟩ := zX (V 5)
   obtain ⟨x6, h6⟩ := zX (V 6)
   obtain ⟨x7, h7⟩ := zX (V 7)
   have l0 : x0 < 4294967296 := h0 ▸ HLV.out 0 (by decide)
   have l1 : x1 < 4294967296 := h1 ▸ HLV.out 1 (by decide)
   have l2 : x2 < 4294967296 := h2 ▸ HLV.out 2 (by decide)
   have l3 : x3 < 4294967296 := h3 ▸ HLV.out 3 (by decide)
   have l4 : x4 < 4294967296 := h4 ▸ HLV.out 4 (by decide)
   have l5 : x5 < 4294967296 := h5 ▸ HLV.out 5 (by decide)
   have l6 : x6 < 4294967296 := h6 ▸ HLV.out 6 (by decide)
   have l7 : x7 < 4294967296 := h7 ▸ HLV.out 7 (by decide)
   have ht1 : t1N V kt wt = (x7 + bg1 x4 + chN x4 x5 x6 + kt + wt) % 4294967296 := by unfold t1N; rw [h7, h4, h5, h6]
   have ht2 : t2N V = (bg0 x0 + mjN x0 x1 x2) % 4294967296 := by unfold t2N; rw [h0, h1, h2]
   have HCV : Hid (∀ w', MI w H b V w' → w'.cell? ⟨w.heap.size + 1 + 1 + 1, 0, none⟩ = some (.int .u32 (x0 : Nat)) ∧ w'.cell? ⟨w.heap.size + 1 + 1 + 1, 1, none⟩ = some (.int .u32 (x1 : Nat)) ∧ w'.cell? ⟨w.heap.size + 1 + 1 + 1, 2, none⟩ = some (.int .u32 (x2 : Nat)) ∧ w'.cell? ⟨w.heap.size + 1 + 1 + 1, 3, none⟩ = some (.int .u32 (x3 : Nat)) ∧ w'.cell? ⟨w.heap.size + 1 + 1 + 1, 4, none⟩ = some (.int .u32 (x4 : Nat)) ∧ w'.cell? ⟨w.heap.size + 1 + 1 + 1, 5, none⟩ = some (.int .u32 (x5 : Nat)) ∧ w'.cell? ⟨w.heap.size + 1 + 1 + 1, 6, none⟩ = some (.int .u32 (x6 : Nat)) ∧ w'.cell? ⟨w.heap.size + 1 + 1 + 1, 7, none⟩ = some (.int .u32 (x7 : Nat))) := zh fun w' h =>
    ⟨h.v.val (by decide) h0, h.v.val (by decide) h1, h.v.val (by decide) h2, h.v.val (by decide) h3, h.v.val (by decide) h4, h.v.val (by decide) h5, h.v.val (by decide) h6, h.v.val (by decide) h7⟩
   have H03 := zh h3
   have HKT := zh hkt
   clear h0 h1 h2 h3 h4 h5 h6 h7
   have R6 := zh (fun w' => ror6_any x4 w' l4)
   have R11 := zh (fun w' => ror11_any x4 w' l4)
   have R25 := zh (fun w' => ror25_any x4 w' l4)
   have R2 := zh (fun w' => ror2_any x0 w' l0)
   have R13 := zh (fun w' => ror13_any x0 w' l0)
   have R22 := zh (fun w' => ror22_any x0 w' l0)
   have f1 : bits .xor .u32 (rorN 6 x4 : Nat) (rorN 11 x4 : Nat) = ((rorN 6 x4 ^^^ rorN 11 x4 : Nat) : Int) := u32_xor_nat _ _ (rorN_lt l4) (rorN_lt l4)
   have f2 : bits .xor .u32 ((rorN 6 x4 ^^^ rorN 11 x4 : Nat) : Int) (rorN 25 x4 : Nat) = ((bg1 x4 : Nat) : Int) := u32_xor_nat _ _ (xor32 (rorN_lt l4) (rorN_lt l4)) (rorN_lt l4)
   have g1 : bits .xor .u32 (rorN 2 x0 : Nat) (rorN 13 x0 : Nat) = ((rorN 2 x0 ^^^ rorN 13 x0 : Nat) : Int) := u32_xor_nat _ _ (rorN_lt l0) (rorN_lt l0)
   have g2 : bits .xor .u32 ((rorN 2 x0 ^^^ rorN 13 x0 : Nat) : Int) (rorN 22 x0 : Nat) = ((bg0 x0 : Nat) : Int) := u32_xor_nat _ _ (xor32 (rorN_lt l0) (rorN_lt l0)) (rorN_lt l0)
   have n1 : bits .and .u32 (x4 : Int) (x5 : Int) = ((x4 &&& x5 : Nat) : Int) := u32_and_nat _ _ l4 l5
   have n2 : bits .and .u32 ((4294967295 - x4 : Nat) : Int) (x6 : Int) = (((4294967295 - x4) &&& x6 : Nat) : Int) := u32_and_nat _ _ (by omega) l6
   have n3 : bits .xor .u32 ((x4 &&& x5 : Nat) : Int) (((4294967295 - x4) &&& x6 : Nat) : Int) = ((chN x4 x5 x6 : Nat) : Int) := u32_xor_nat _ _ (and32 (b := x5) l4) (and32 (b := x6) (by omega))
   have n4 : bits .xor .u32 4294967295 (x4 : Int) = ((4294967295 - x4 : Nat) : Int) := by rw [← allx l4]; exact u32_xor_nat 4294967295 x4 (by decide) l4
   have n0 : (if IntKind.u32.signed = true then (-1 : Int) else IntKind.u32.max) = 4294967295 := rfl
   have p1 : bits .and .u32 (x0 : Int) (x1 : Int) = ((x0 &&& x1 : Nat) : Int) := u32_and_nat _ _ l0 l1
   have p2 : bits .and .u32 (x0 : Int) (x2 : Int) = ((x0 &&& x2 : Nat) : Int) := u32_and_nat _ _ l0 l2
   have p3 : bits .and .u32 (x1 : Int) (x2 : Int) = ((x1 &&& x2 : Nat) : Int) := u32_and_nat _ _ l1 l2
   have p4 : bits .xor .u32 ((x0 &&& x1 : Nat) : Int) ((x0 &&& x2 : Nat) : Int) = (((x0 &&& x1) ^^^ (x0 &&& x2) : Nat) : Int) := u32_xor_nat _ _ (and32 (b := x1) l0) (and32 (b := x2) l0)
   have p5 : bits .xor .u32 (((x0 &&& x1) ^^^ (x0 &&& x2) : Nat) : Int) ((x1 &&& x2 : Nat) : Int) = ((mjN x0 x1 x2 : Nat) : Int) := u32_xor_nat _ _ (xor32 (and32 (b := x1) l0) (and32 (b := x2) l0)) (and32 (b := x2) l1)
   generalize rorN 6 x4 ^^^ rorN 11 x4 = o1 at *
   generalize rorN 2 x0 ^^^ rorN 13 x0 = o2 at *
   generalize rorN 6 x4 = o3 at *
   generalize rorN 11 x4 = o4 at *
   generalize rorN 25 x4 = o5 at *
   generalize rorN 2 x0 = o6 at *
   generalize rorN 13 x0 = o7 at *
   generalize rorN 22 x0 = o8 at *
   generalize bg1 x4 = B1 at *
   generalize bg0 x0 = B0 at *
   generalize chN x4 x5 x6 = ch at *
   generalize mjN x0 x1 x2 = mj at *
   generalize (x0 &&& x1) ^^^ (x0 &&& x2) = o9 at *
   generalize x4 &&& x5 = oa at *
   generalize (4294967295 - x4) &&& x6 = ob at *
   generalize x0 &&& x1 = oc at *
   generalize x0 &&& x2 = od at *
   generalize x1 &&& x2 = oe at *
   generalize 4294967295 - x4 = nx at *
   obtain ⟨v1, hv1⟩ := zX ((x7 + B1) % 4294967296)
   obtain ⟨v2, hv2⟩ := zX ((v1 + ch) % 4294967296)
   obtain ⟨v3, hv3⟩ := zX ((v2 + kt) % 4294967296)
   obtain ⟨T1, hT1⟩ := zX (t1N V kt wt)
   obtain ⟨T2, hT2⟩ := zX (t2N V)
   obtain ⟨U4, hU4⟩ := zX ((x3 + T1) % 4294967296)
   obtain ⟨U0, hU0⟩ := zX ((T1 + T2) % 4294967296)
   rw [hT1] at ht1
   rw [hT2] at ht2
   have s1 := u32m (x7 : Int) (B1 : Int) rfl rfl hv1
   have s2 := u32m (v1 : Int) (ch : Int) rfl rfl hv2
   have s3 := u32m (v2 : Int) (kt : Int) rfl rfl hv3
   have s4 := u32m (v3 : Int) (wt : Int) (e := T1) rfl rfl (by omega)
   have s5 := u32m (B0 : Int) (mj : Int) rfl rfl ht2.symm
   have s6 := u32m (x3 : Int) (T1 : Int) rfl rfl hU4
   have s7 := u32m (T1 : Int) (T2 : Int) rfl rfl hU0
   have HRD : Hid (∀ j, upd (upd (shf V) 4 U4) 0 U0 j = rdK H W (t + 1) j) := zh fun j => by
    rw [HNX.out, ← rd_shf V kt wt j, hT1, hT2, H03.out, hU4, hU0]
   have HTT := zh hlt
   have HS6 := zh s6
   have HS7 := zh s7
   clear hv1 hv2 hv3 ht1 ht2 hT1 hT2 hU4 hU0 l0 l1 l2 l3 l4 l5 l6 l7 lw lk hV hwt hkt hlt ht s6 s7
   go_wp2_with (first | (refine wpList_value rfl (exec_index (.tmp 15) (.tmp 16) rfl rfl rfl (HIT.out _)) ?_))
   have HP0 := zh HX.out.drew
   have c := HCV.out _ HP0.out
   have c0 := c.1
   have c4 := c.2.2.2.2.1
   clear c HX
   refine still_lit (by kernel_rfl) (by kernel_rfl) ?_
   generalize wr.drew = W0 at *
   repeat still_step
   refine wpStill_nil ?_
   clear c0 c4
   go_wp2_with fail
   have HP1 := zh HP0.out.drew
   have c := HCV.out _ HP1.out
   have c5 := c.2.2.2.2.2.1
   have c6 := c.2.2.2.2.2.2.1
   have c7 := c.2.2.2.2.2.2.2
   have ck := HP1.out.g.2 t HTT.out
   rw [HKT.out] at ck
   clear c HP0
   refine still_lit (by kernel_rfl) (by kernel_rfl) ?_
   generalize W0.drew = W1 at *
   repeat still_step
   refine wpStill_step (fun K hK => ?_)
   go_simp
   with_reducible refine ⟨_, R6.out _, hK _ ?_⟩
   clear hK K
   repeat still_step
   refine wpStill_step (fun K hK => ?_)
   go_simp
   with_reducible refine ⟨_, R11.out _, hK _ ?_⟩
   clear hK K
   repeat still_step
   refine wpStill_step (fun K hK => ?_)
   go_simp
   with_reducible refine ⟨_, R25.out _, hK _ ?_⟩
   clear hK K
   repeat still_step
   refine wpStill_nil ?_
   clear c5 c6 c7 ck R6 R11 R25 f1 f2 n0 n1 n2 n3 n4 s1 s2 s3 s4
   go_wp2_with fail
   have HP2 := zh HP1.out.drew
   have c := HCV.out _ HP2.out
   have c1 := c.2.1
   have c2 := c.2.2.1
   clear c HP1
   refine still_lit (by kernel_rfl) (by kernel_rfl) ?_
   generalize W1.drew = W2 at *
   repeat still_step
   refine wpStill_step (fun K hK => ?_)
   go_simp
   with_reducible refine ⟨_, R2.out _, hK _ ?_⟩
   clear hK K
   repeat still_step
   refine wpStill_step (fun K hK => ?_)
   go_simp
   with_reducible refine ⟨_, R13.out _, hK _ ?_⟩
   clear hK K
   repeat still_step
   refine wpStill_step (fun K hK => ?_)
   go_simp
   with_reducible refine ⟨_, R22.out _, hK _ ?_⟩
   clear hK K
   repeat still_step
   refine wpStill_nil ?_
   clear c1 c2 R2 R13 R22 g1 g2 p1 p2 p3 p4 p5 s5
   go_wp2_with fail
   have HP3 := zh HP2.out.drew
   clear HP2
   have HSRC : Hid (∀ j v, (rowW 7 V)[j]? = some v → W2.drew.cell? ((⟨(w.heap.size + 1 + 1 + 1), 0, none⟩ : Addr).add j) = some v) := zh fun j v hv => by
    have hj : j < 7 := by have := (List.getElem?_eq_some_iff.1 hv).1; rw [rowW_len] at this; exact this
    rw [rowW_get V hj] at hv
    rw [Addr.add_mid, Nat.zero_add, HP3.out.v.cell (show j < 8 by omega)]; exact hv
   refine still_tail 2 (by kernel_rfl) (by kernel_rfl) ?_
   simp only [List.take_succ_cons, List.take_zero, List.drop_succ_cons, List.drop_zero]
   generalize W2.drew = W3 at *
   repeat still_step
   refine wpStill_nil ?_
   refine wpList_copy_splice rfl (.tmp 76) (.tmp 77) 190 190 rfl 23 Tryz.underlying190 info_u32 (some ⟨(w.heap.size + 1 + 1 + 1), 1, none⟩) (some ⟨(w.heap.size + 1 + 1 + 1), 0, none⟩) 7 7 7 8 rfl rfl (w.heap.size + 1 + 1 + 1) 1 (rowW 8 V) 149 HP3.out.v (rowW 7 V) (by rw [rowW_len]; rfl) (fun _ => ⟨rfl, _, rfl, HSRC.out⟩) (by rw [rowW_len, rowW_len]; exact Nat.le_refl 8) (rowW_one _ _) (w.heap.size + 1 + 1 + 1) W3 (Below.refl _ _) (Nat.le_refl _) ?_
   intro w5 HG5 hB5
   have HX5 : Hid (MI w H b (shf V) w5) := zh (HP3.out.turned hB5 (by have := HG5.out; rw [splice_shf] at this; exact this) HG.out)
   obtain ⟨w6, hw6⟩ := zX (w5.setCell ⟨(w.heap.size + 1 + 1 + 1), 4, none⟩ (.int .u32 (U4 : Nat)))
   have HX6 : Hid (MI w H b (upd (shf V) 4 U4) w6) := zh (by rw [← hw6]; exact HX5.out.set HG.out 4 U4)
   have c4 : w5.cell? ⟨(w.heap.size + 1 + 1 + 1), 4, none⟩ = some (.int .u32 (x3 : Nat)) := HX5.out.v.val (by decide) H03.out
   have z4 : w5.frozen? ⟨(w.heap.size + 1 + 1 + 1), 4, none⟩ = false := HX5.out.v.free _
   have c0 := HX6.out.v.cell (i := 0) (by decide)
   have z0 : w6.frozen? ⟨(w.heap.size + 1 + 1 + 1), 0, none⟩ = false := HX6.out.v.free _
   have HN : Hid (MI w H b (rdK H W (t + 1)) (w6.setCell ⟨(w.heap.size + 1 + 1 + 1), 0, none⟩ (.int .u32 (U0 : Nat)))) := zh ((HX6.out.set HG.out 0 U0).congr fun j _ => HRD.out j)
   have s6 := HS6.out
   have s7 := HS7.out
   generalize upd (shf V) 4 U4 0 = q0 at *
   clear HG5 hB5 HP3 HSRC HX5 HX6 HRD HS6 HS7 HCV HNX HKT H03
   have HTT' := HTT.out
   rw [show (rowW 7 V).length = 7 from rowW_len 7 V]
   go_wp2_with fail
   go_roundw
   case rel => exact ⟨t + 1, by omega, by go_num, HN.out⟩
   case measure => simp [intOf] <;> omega
  ·obtain rfl : t = 64 := by omega
   obtain ⟨R, hR⟩ := zX (rdK H W 64)
   have HRL := zh (HL.out 64)
   rw [hR] at HX HMX HRL
   have HMJ : Hid (∀ j, (R j + H j) % 4294967296 = M j) := zh fun j => by rw [HMX.out]
   clear hR hlt ht HMX HL HIX HWL
   rw [show ((64 : Nat) : Int) = 64 from rfl]
   go_wp2_with fail
   go_loopw [89] (fun v wr => ∃ i : Nat, i ≤ 8 ∧ v = .int .i64 (i : Int) ∧ MI w H b (fun j => if j < i then M j else R j) wr) (fun v _ => 8 - (intOf v).toNat)
   case atStart => exact ⟨0, Nat.zero_le _, rfl, HX.out.congr fun i _ => (if_neg (Nat.not_lt_zero _)).symm⟩
   case round =>
    clear HX
    obtain ⟨i, hi, rfl, hX⟩ := hrel
    have HX := zh hX
    clear hX
    by_cases hli : i < 8
    ·have i0 : (0 : Int) ≤ (i : Int) := by omega
     have i1 : (i : Int) < 8 := by omega
     obtain ⟨x, hx⟩ := zX (R i)
     obtain ⟨y, hy⟩ := zX (H i)
     obtain ⟨z, hz⟩ := zX (M i)
     have hs := HMJ.out i
     rw [hx, hy, hz] at hs
     have s1 := u32m (x : Int) (y : Int) rfl rfl hs
     have HP := zh HX.out.drew
     have ca : wr.drew.cell? ⟨(w.heap.size + 1 + 1 + 1), i, none⟩ = some (.int .u32 (x : Nat)) := HP.out.v.val hli (by rw [← hx]; exact if_neg (Nat.lt_irrefl _))
     have za : wr.drew.frozen? ⟨(w.heap.size + 1 + 1 + 1), i, none⟩ = false := HP.out.v.free _
     have cb : wr.drew.cell? ⟨w.heap.size, i, none⟩ = some (.int .u32 (y : Nat)) := HP.out.s.val hli hy
     have HN : Hid (MI w H b (fun j => if j < i + 1 then M j else R j) (wr.drew.setCell ⟨(w.heap.size + 1 + 1 + 1), i, none⟩ (.int .u32 (z : Nat)))) := zh ((HP.out.set HG.out i z).congr fun j _ => by
      unfold upd
      by_cases e : j = i
      ·rw [if_pos e, e, if_pos (by omega), hz]
      ·rw [if_neg e]
       show (if j < i then M j else R j) = if j < i + 1 then M j else R j
       by_cases h5 : j < i
       ·rw [if_pos h5, if_pos (by omega)]
       ·rw [if_neg h5, if_neg (by omega)])
     clear hs hx hy hz HX HP hli hi
     go_wp2_with fail
     refine still_tail 8 (by kernel_rfl) (by kernel_rfl) ?_
     simp only [List.take_succ_cons, List.take_zero, List.drop_succ_cons, List.drop_zero]
     generalize wr.drew = W0 at *
     repeat still_step
     refine wpStill_nil ?_
     clear cb s1
     go_wp2_with fail
     go_roundw
     case rel => exact ⟨i + 1, by omega, by go_num, HN.out⟩
     case measure => simp [intOf] <;> omega
    ·obtain rfl : i = 8 := by omega
     have hY : WB 149 8 (w.heap.size + 1 + 1 + 1) M wr := HX.out.v.congr fun j hj => if_pos hj
     have hN : WB 149 8 (w.heap.size + 1 + 1) M (wr.setCells (w.heap.size + 1 + 1) 0 (rowW 8 M).toArray.toList) := Blk.setCells HX.out.r (rowW 8 M) (by rw [rowW_size, rowW_len])
     have hO : Below w.heap.size w (wr.setCells (w.heap.size + 1 + 1) 0 (rowW 8 M).toArray.toList) := HX.out.o.trans ((Own.setCells _ 0 wr).below (by omega) HX.out.o.size)
     have hTH : wr.there (w.heap.size + 1 + 1) 0 (rowW 8 M).toArray.size := Blk.there HX.out.r (by rw [rowW_size, rowW_size]; exact Nat.le_refl _)
     have hI := info56 M
     have hI1 := one8w M
     obtain ⟨E, hE⟩ := zX ((rowW 8 M).toArray)
     unfold WB at hN hY
     rw [hE] at hN hY hO hTH hI hI1
     have HN := zh hN
     have HY := zh hY
     have HO := zh hO
     have HTH := zh hTH
     have HI := zh hI
     have HI1 := zh hI1
     have HE := zh hE
     clear hN hY hO hTH hI hI1 hE hli hi HX
     go_wp2_with (first
      | (refine wpList_load_row rfl 149 (.tmp 5) rfl (w.heap.size + 1 + 1 + 1) rfl 149 E (0, 0) _ HY.out Tryz.underlying149 rfl HI.out ?_)
      | (refine wpList_store_mid rfl 149 (.tmp 4) (.tmp 101) rfl (w.heap.size + 1 + 1) 0 E rfl rfl HTH.out HI.out HI1.out ?_))
     refine bodyPost_ret (v := .agg E) ?_ rfl ⟨by rw [HE.out], HO.out⟩
     exact results_cell_row Tryz.results85 _ _ (w.heap.size + 1 + 1) 149 E (0, 0) _ rfl HN.out Tryz.underlying149 rfl HI.out
set_option maxHeartbeats 1000000
theorem Own.setRow {g : Nat} (w : World) (cs : Array Value) : Own g w (w.setRow g cs) := ⟨rfl, rfl, rfl, by simp, fun k _ hn => setRow_other w g k cs hn⟩
theorem Blk.setRow {w : World} {g : Nat} {C : Array Value} {t : TypeId} (h : Blk w g C t) (D : Array Value) : Blk (w.setRow g D) g D t := setRow_heap w g C D t (0, 0) h
def HS (w : World) (g n : Nat) (F : Nat → Nat) : Prop := (g ≠ 1 ∧ g ≠ 2) ∧ ∃ R, HB w g (chK F (n / 64)) R (n % 64) n ∧ (∀ i, i < n % 64 → R i = F (64 * (n / 64) + i)) ∧ ∀ i, i < 64 → R i < 256
theorem HS.congr {w : World} {g n : Nat} {F G : Nat → Nat} (h : HS w g n F) (he : ∀ i, i < n → F i = G i) : HS w g n G := by
 obtain ⟨h0, R, h1, h2, h3⟩ := h
 refine ⟨h0, R, ?_, fun i hi => ?_, h3⟩
 ·rw [← chK_congr (n / 64) (fun i hi => he i (by omega))]; exact h1
 ·rw [h2 i hi, he _ (by omega)]
theorem HS.lt {w : World} {g n : Nat} {F : Nat → Nat} (h : HS w g n F) : g < w.heap.size := by
 obtain ⟨_, R, h1, _⟩ := h; exact Blk.lt h1
theorem HS.later {w w' : World} {g n : Nat} {F : Nat → Nat} (h : HS w g n F) (hb : Below w.heap.size w w') : HS w' g n F := by
 obtain ⟨h0, R, h1, h2, h3⟩ := h; exact ⟨h0, R, Blk.below h1 hb (Blk.lt h1), h2, h3⟩
theorem HS.own {w w' : World} {g b n : Nat} {F : Nat → Nat} (h : HS w g n F) (hO : Own b w w') (hn : g ≠ b) : HS w' g n F := by
 obtain ⟨h0, R, h1, h2, h3⟩ := h; exact ⟨h0, R, hO.blk h1 hn, h2, h3⟩
theorem build60 (H : Nat → Nat) (w : World) : (Instr.build 162 #[(0, .agg (rowW 8 H).toArray)]).run Tryz.prog w = .ok (.agg (hshC H (fun _ => 0) 0 0).toArray) w :=
 run_build w 162 _ _ (by kernel_rfl)
theorem exec_buildH {o : Oper} {a : Act} {w : World} {C : Array Value} {parts : Array (Nat × Operand)} {ps : Array (Nat × Value)} (ho : o.op = .build 162 parts) (hp : (parts.map fun (i, x) => (i, a.eval x)) = ps) (h : ∀ w, (Instr.build 162 ps).run Tryz.prog w = .ok (.agg C) w) : (execOp a.eval o).run Tryz.prog w = .ok (.value (.agg C)) w := by
 unfold execOp
 simp only [ho, hp, Sem.run_bind, h, Result.andThen_ok]
 rfl
theorem info60 (H R : Nat → Nat) (k n : Nat) : (Tryz.prog.info? 162).map (·.size) = some (hshC H R k n).toArray.size := by rw [hshC_size]; kernel_rfl
theorem one60 (H R : Nat → Nat) (k n : Nat) : (hshC H R k n).toArray.all (·.oneCell') = true := all_oneCell_toArray (hshC_one _ _ _ _)
def zero74 : Array Value := (hshC (fun _ => 0) (fun _ => 0) 0 0).toArray
theorem zero74_run (w : World) : (zeroValue 162).run Tryz.prog w = .ok (.agg zero74) w := by kernel_rfl
theorem GV.range {w : World} (h : GV w) : w.rangeAt 1 0 (rowW 8 hN) := fun j v hv => by
 have hj : j < 8 := by have := (List.getElem?_eq_some_iff.1 hv).1; rw [rowW_len] at this; exact this
 rw [rowW_get hN hj] at hv
 rw [Nat.zero_add, h.1 j hj]; exact hv
theorem info56l (v : Nat → Nat) : (Tryz.prog.info? 149).map (·.size) = some (rowW 8 v).length := by rw [rowW_len]; kernel_rfl
theorem info57l (v : Nat → Nat) : (Tryz.prog.info? 124).map (·.size) = some (rowC 64 v).length := by rw [rowC_len]; kernel_rfl
theorem hnew_any (w : World) (hg : GV w) :
  Calls Tryz.prog 84 #[] w fun e w' => ∃ g, e = .returned (.pointer (some ⟨g, 0, none⟩)) ∧ (∀ F, HS w' g 0 F) ∧ Below w.heap.size w w' ∧ w.heap.size ≤ g := by
 have hl := hg.lt
 obtain ⟨L, hL⟩ := zX (rowW 8 hN)
 obtain ⟨C, hC⟩ := zX ((hshC hN (fun _ => 0) 0 0).toArray)
 have HR : Hid (w.rangeAt 1 0 L) := zh (by rw [← hL]; exact hg.range)
 have HI : Hid ((Tryz.prog.info? 149).map (·.size) = some L.length) := zh (by rw [← hL]; exact info56l _)
 have HB : Hid (∀ w', (Instr.build 162 #[(0, .agg L.toArray)]).run Tryz.prog w' = .ok (.agg C) w') := zh fun w' => by rw [← hL, build60, hC]
 have HN : Hid (∀ F, HS (w.alloc (.cells C 162)) w.heap.size 0 F) := zh fun F => by
  refine ⟨⟨by omega, by omega⟩, fun _ => 0, ?_, fun i hi => ?_, fun i _ => by show 0 < _; decide⟩
  ·rw [← hC]; exact Blk.new w _ _
  ·rw [Nat.zero_mod] at hi; exact absurd hi (Nat.not_lt_zero _)
 clear hl hL hC hg
 go_enter Tryz.func84, Tryz.ntmps84
 go_wp2_with (first
  | (refine wpList_load_mid rfl 149 (.global 1) rfl 1 0 rfl L _ HR.out Tryz.underlying149 rfl HI.out ?_)
  | (refine wpList_value rfl (exec_buildH (parts := #[(0, .tmp 1)]) (ps := #[(0, .agg L.toArray)]) rfl (by simp; rfl) HB.out) ?_))
 go_ret
 exact ⟨_, rfl, HN.out, zA, Nat.le_refl _⟩
theorem hclone_any (g n : Nat) (F : Nat → Nat) (w : World) (h : HS w g n F) (hg : GV w) :
  Calls Tryz.prog 65 #[.pointer (some ⟨g, 0, none⟩)] w fun e w' => ∃ g', e = .returned (.pointer (some ⟨g', 0, none⟩)) ∧ HS w' g' n F ∧ Below w.heap.size w w' ∧ w.heap.size ≤ g' := by
 have hl := hg.lt
 obtain ⟨_, R, hB, hR1, hR2⟩ := h
 have hz := zero74_run
 obtain ⟨wa, hwa⟩ := zX (w.alloc (.cells zero74 162))
 have hba : Below w.heap.size w wa := by rw [← hwa]; exact zA
 have hA : HB wa w.heap.size (fun _ => 0) (fun _ => 0) 0 0 := by rw [← hwa]; exact Blk.new w _ _
 have hI := info60 (chK F (n / 64)) R (n % 64) n
 have hI1 := one60 (chK F (n / 64)) R (n % 64) n
 have hTH : wa.there w.heap.size 0 (hshC (chK F (n / 64)) R (n % 64) n).toArray.size := Blk.there hA (by rw [hshC_size, hshC_size]; exact Nat.le_refl _)
 have hN : HB (wa.setCells w.heap.size 0 (hshC (chK F (n / 64)) R (n % 64) n).toArray.toList) w.heap.size (chK F (n / 64)) R (n % 64) n := Blk.setCells hA (hshC _ _ _ _) (by rw [hshC_size, hshC_len])
 have hO : Below w.heap.size w (wa.setCells w.heap.size 0 (hshC (chK F (n / 64)) R (n % 64) n).toArray.toList) := hba.trans ((Own.setCells _ 0 wa).below (Nat.le_refl _) hba.size)
 obtain ⟨C, hC⟩ := zX ((hshC (chK F (n / 64)) R (n % 64) n).toArray)
 have hNN : HS (wa.setCells w.heap.size 0 C.toList) w.heap.size n F := ⟨⟨by omega, by omega⟩, R, by rw [← hC]; exact hN, hR1, hR2⟩
 unfold HB at hB
 rw [hC] at hB hI hI1 hTH hO
 have HB1 := zh hB
 have HI := zh hI
 have HI1 := zh hI1
 have HTH := zh hTH
 have HO := zh hO
 have HN := zh hNN
 clear hl hB hI hI1 hTH hO hN hNN hA hba hC hR1 hR2 hg
 go_enter Tryz.func65, Tryz.ntmps65
 go_wp2_with (first
  | (refine wpList_load_row rfl 162 (.tmp 7) rfl g rfl 162 C (0, 0) _ HB1.out Tryz.underlying162 rfl HI.out ?_)
  | (refine wpList_store_mid rfl 162 (.tmp 3) (.tmp 8) rfl w.heap.size 0 C rfl rfl HTH.out HI.out HI1.out ?_))
 go_ret
 exact ⟨_, rfl, HN.out, HO.out, Nat.le_refl _⟩
set_option maxRecDepth 512
set_option maxHeartbeats 200000
def catF (n : Nat) (f g : Nat → Nat) : Nat → Nat := fun i => if i < n then f i else g (i - n)
theorem rowC_cat (n m : Nat) (f g : Nat → Nat) : rowC (n + m) (catF n f g) = rowC n f ++ rowC m g := by
 refine List.ext_getElem? fun i => ?_
 by_cases h : i < n
 ·rw [rowC_get _ (by omega), List.getElem?_append_left (by rw [rowC_len]; exact h), rowC_get _ h]; simp [catF, h]
 ·rw [List.getElem?_append_right (by rw [rowC_len]; omega), rowC_len]
  by_cases h2 : i < n + m
  ·rw [rowC_get _ h2, rowC_get _ (by omega)]; simp [catF, h]
  ·rw [List.getElem?_eq_none (by rw [rowC_len]; omega), List.getElem?_eq_none (by rw [rowC_len]; omega)]
theorem Bytes.news {w : World} {b off m : Nat} {g : Nat → Nat} (h : Bytes w (some ⟨b, off, none⟩) m g) : ∀ j u, (rowC m g)[j]? = some u → w.cell? ((⟨b, off, none⟩ : Addr).add j) = some u := fun j u hu => by
 have hj : j < m := by
  rcases Nat.lt_or_ge j m with h' | h'
  ·exact h'
  ·rw [List.getElem?_eq_none (by rw [rowC_len]; exact h')] at hu; cases hu
 rw [rowC_get _ hj] at hu
 cases hu
 obtain ⟨_, b', off', e, hc⟩ := h j hj
 cases e
 have ha : (Addr.mk b off none).add j = ⟨b, off + j, none⟩ := by
  unfold Addr.add; split
  ·rename_i hk0; subst hk0; rfl
  ·rfl
 rw [ha]; exact hc
end Go.Proofs.YtncfocjmdecapaaGreatDoor
