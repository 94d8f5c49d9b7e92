/- A block, mixed in as the document does it. -/
import Derived.Test.YtloajfbehejehaaDoorSrN
namespace Go.Proofs.YtloajfbehejehaaDoor
set_option linter.unusedVariables false
set_option linter.unusedSimpArgs false
open Go.RowKit

def partsT : Array (Nat × Operand) := ((List.range 64).map fun i => (i, Operand.const (.int .u32 (kN i : Nat)))).toArray
def psT : Array (Nat × Value) := ((List.range 64).map fun i => (i, Value.int .u32 (kN i : Nat))).toArray
set_option maxRecDepth 100000 in
theorem buildT (w : World) : (Instr.build 121 psT).run Tryd.prog w = .ok (.agg (rowW 64 kN).toArray) w :=
  run_build w 121 _ _ (by kernel_rfl)
theorem exec_buildT {o : Oper} {a : Act} {w : World} (ho : o.op = .build 121 partsT) : (execOp a.eval o).run Tryd.prog w = .ok (.value (.agg (rowW 64 kN).toArray)) w := by
  have hp : (partsT.map fun (i, x) => (i, a.eval x)) = psT := by
    unfold partsT psT
    rw [List.map_toArray, List.map_map]; rfl
  unfold execOp
  simp only [ho, hp, Sem.run_bind, buildT, Result.andThen_ok]
  rfl
theorem exec_build8 {o : Oper} {a : Act} {w : World} {M : Nat → Nat} {x0 x1 x2 x3 x4 x5 x6 x7 : Operand} (ho : o.op = .build 115 #[(0, x0), (1, x1), (2, x2), (3, x3), (4, x4), (5, x5), (6, x6), (7, x7)])
    (h0 : a.eval x0 = .int .u32 (M 0 : Nat)) (h1 : a.eval x1 = .int .u32 (M 1 : Nat)) (h2 : a.eval x2 = .int .u32 (M 2 : Nat)) (h3 : a.eval x3 = .int .u32 (M 3 : Nat)) (h4 : a.eval x4 = .int .u32 (M 4 : Nat)) (h5 : a.eval x5 = .int .u32 (M 5 : Nat)) (h6 : a.eval x6 = .int .u32 (M 6 : Nat)) (h7 : a.eval x7 = .int .u32 (M 7 : Nat)) :
    (execOp a.eval o).run Tryd.prog w = .ok (.value (.agg (rowW 8 M).toArray)) w := by
  have hb : (Instr.build 115 #[(0, .int .u32 (M 0 : Nat)), (1, .int .u32 (M 1 : Nat)), (2, .int .u32 (M 2 : Nat)), (3, .int .u32 (M 3 : Nat)), (4, .int .u32 (M 4 : Nat)), (5, .int .u32 (M 5 : Nat)), (6, .int .u32 (M 6 : Nat)), (7, .int .u32 (M 7 : Nat))]).run Tryd.prog w = .ok (.agg (rowW 8 M).toArray) w := run_build w 115 _ _ (by kernel_rfl)
  unfold execOp
  simp only [ho, List.map_toArray, List.map_cons, List.map_nil, h0, h1, h2, h3, h4, h5, h6, h7, Sem.run_bind, hb, Result.andThen_ok]
  rfl
theorem sizeSet (b : Nat) : ∀ (vs : List Value) (o : Nat) (w : World), (w.setCells b o vs).heap.size = w.heap.size
  | [], _, _ => rfl
  | v :: r, o, w => by rw [World.setCells, sizeSet b r]; simp
/-- While the document's words are made. -/
structure RO (w0 : World) (H W : Nat → Nat) (wr : World) : Prop where
  h : WB 115 8 w0.heap.size H wr
  r : WB 115 8 (w0.heap.size + 1) (fun _ => 0) wr
  k : WB 121 64 (w0.heap.size + 1 + 1) kN wr
  y : WB 121 64 (w0.heap.size + 1 + 1 + 1) W wr
  o : Below w0.heap.size w0 wr
theorem RO.below {w0 : World} {H W : Nat → Nat} {wr w' : World} (h : RO w0 H W wr) (hb : Below wr.heap.size wr w') : RO w0 H W w' :=
  ⟨Blk.below h.h hb (Blk.lt h.h), Blk.below h.r hb (Blk.lt h.r), Blk.below h.k hb (Blk.lt h.k), Blk.below h.y hb (Blk.lt h.y), h.o.trans (hb.mono h.o.size)⟩
theorem RO.drew {w0 : World} {H W : Nat → Nat} {wr : World} (h : RO w0 H W wr) : RO w0 H W wr.drew := h.below (Below.refl _ wr).drew
theorem RO.congr {w0 : World} {H W W' : Nat → Nat} {wr : World} (h : RO w0 H W wr) (he : ∀ i, i < 64 → W i = W' i) : RO w0 H W' wr := ⟨h.h, h.r, h.k, h.y.congr he, h.o⟩
theorem RO.set {w0 : World} {H : Nat → Nat} {b : Nat → Nat} {n x : Nat} {wr : World} (h : RO w0 H (fun t => if t < n then spK b 64 t else 0) wr) (hx : spK b 64 n = x) : RO w0 H (fun t => if t < n + 1 then spK b 64 t else 0) (wr.setCell ⟨w0.heap.size + 1 + 1 + 1, n, none⟩ (.int .u32 (x : Nat))) := by
  refine ⟨Blk.set_other h.h (by simp; omega) _, Blk.set_other h.r (by first | (simp; done) | (simp; omega)) _, Blk.set_other h.k (by simp) _, (h.y.set n x).congr fun j _ => ?_, h.o.setCell (by simp; omega) _⟩
  unfold upd
  by_cases e : j = n
  · rw [if_pos e, e, if_pos (by omega), hx]
  · rw [if_neg e]
    show (if j < n then spK b 64 j else 0) = if j < n + 1 then spK b 64 j else 0
    by_cases h5 : j < n
    · rw [if_pos h5, if_pos (by omega)]
    · rw [if_neg h5, if_neg (by omega)]
theorem RO.word {w0 : World} {H b : Nat → Nat} {n i x : Nat} {wr : World} (h : RO w0 H (fun t => if t < n then spK b 64 t else 0) wr) (hi : i < n) (hn : n ≤ 64) (hx : spK b 64 i = x) : wr.cell? ⟨w0.heap.size + 1 + 1 + 1, i, none⟩ = some (.int .u32 (x : Nat)) :=
  h.y.val (by omega) (by rw [← hx]; exact if_pos hi)
theorem RO.none {w0 : World} {H b : Nat → Nat} {n : Nat} {wr : World} (h : RO w0 H (fun t => if t < n then spK b 64 t else 0) wr) (hn : n < 64) : wr.cell? ⟨w0.heap.size + 1 + 1 + 1, n, none⟩ = some (.int .u32 0) :=
  h.y.val hn (if_neg (Nat.lt_irrefl _))
set_option maxRecDepth 100000 in
set_option maxHeartbeats 8000000 in
theorem rone_any (H b : Nat → Nat) (mb mo mc : Nat) (w : World) (hH : ∀ j, j < 8 → H j < 4294967296) (hB : Bytes w (some ⟨mb, mo, none⟩) 64 b) :
    Calls Tryd.prog 50 #[.agg (rowW 8 H).toArray, .slice (some ⟨mb, mo, none⟩) 64 mc] w fun e w' => e = .returned (.agg (rowW 8 (mixN H b)).toArray) ∧ Below w.heap.size w w' := by
  have hz := zero64w_run
  have hz8 := zero8w_run
  have HB8 : Hid (∀ i, i < 64 → b i < 256) := Lib.hid fun i hi => (hB i hi).1
  have HBY : Hid (∀ w', Below w.heap.size w w' → ∀ i, i < 64 → w'.cell? ⟨mb, mo + i, none⟩ = some (.int .u8 (b i : Nat))) := Lib.hid fun w' h i hi => by
    obtain ⟨_, b2, off, e, hc⟩ := (hB.later h) i hi
    cases e; exact hc
  have HWL := Lib.hid (fun t => spK_lt HB8.out 64 t)
  have HL := Lib.hid (fun n => rdK_lt (W := spK b 64) hH n)
  have HHL := Lib.hid hH
  obtain ⟨CH, hCH⟩ : ∃ C, (rowW 8 H).toArray = C := ⟨_, rfl⟩
  obtain ⟨CK, hCK⟩ : ∃ C, (rowW 64 kN).toArray = C := ⟨_, rfl⟩
  have HIK : Hid ((Tryd.prog.info? 121).map (·.size) = some CK.size) := Lib.hid (by rw [← hCK]; exact info70 kN)
  have HIK1 : Hid (CK.all (·.oneCell') = true) := Lib.hid (by rw [← hCK]; exact one64w kN)
  have HBT : Hid (∀ (o : Oper) (a : Act) w, o.dst = some 21 → o.op = .build 121 partsT → (execOp a.eval o).run Tryd.prog w = .ok (.value (.agg CK)) w) := Lib.hid fun o a w _ ho => by rw [← hCK]; exact exec_buildT ho
  obtain ⟨wa, hwa⟩ : ∃ q, ((w.alloc (.cells CH 115)).alloc (.cells zero8w 115)).alloc (.cells zero64w 121) = q := ⟨_, rfl⟩
  obtain ⟨wb, hwb⟩ : ∃ q, wa.setCells (w.heap.size + 1 + 1) 0 CK.toList = q := ⟨_, rfl⟩
  have hA : WB 121 64 (w.heap.size + 1 + 1) (fun _ => 0) wa := by
    rw [← hwa]
    have := Blk.new ((w.alloc (.cells CH 115)).alloc (.cells zero8w 115)) zero64w 121
    show Blk _ _ zero64w _; simpa using this
  have HTH : Hid (wa.there (w.heap.size + 1 + 1) 0 CK.size) := Lib.hid (by rw [← hCK]; exact Blk.there hA (by rw [rowW_size, rowW_size]; exact Nat.le_refl _))
  have HT : Hid (RO w H (fun t => if t < 0 then spK b 64 t else 0) (wb.alloc (.cells zero64w 121))) := Lib.hid (by
    have hO : Own (w.heap.size + 1 + 1) wa wb := by rw [← hwb]; exact Own.setCells _ _ _
    have hs : wb.heap.size = w.heap.size + 1 + 1 + 1 := by rw [← hwb, sizeSet, ← hwa]; simp
    have hbl : Below w.heap.size w wa := by rw [← hwa]; exact (((Below.refl _ _).alloc (Nat.le_refl _) _).alloc (by simp) _).alloc (by simp; omega) _
    have hbb : Below w.heap.size w wb := hbl.trans (hO.below (by omega) hbl.size)
    refine ⟨?_, ?_, ?_, ?_, hbb.alloc hbb.size _⟩
    · refine Blk.alloc (hO.blk ?_ (by omega)) _
      rw [← hwa, ← hCH]; exact ((Blk.new w _ 115).alloc _).alloc _
    · refine Blk.alloc (hO.blk ?_ (by omega)) _
      rw [← hwa]
      have := (Blk.new (w.alloc (.cells CH 115)) zero8w 115).alloc (.cells zero64w 121)
      show Blk _ _ zero8w _; simpa using this
    · refine Blk.alloc ?_ _
      rw [← hwb, ← hCK]
      exact Blk.setCells hA (rowW 64 kN) (by rw [rowW_size, rowW_len])
    · refine WB.congr (f := fun _ => 0) ?_ fun i _ => (if_neg (Nat.not_lt_zero _)).symm
      have := Blk.new wb zero64w 121
      rw [hs] at this
      exact this)
  have hs3 : wb.heap.size = w.heap.size + 1 + 1 + 1 := by rw [← hwb, sizeSet, ← hwa]; simp
  obtain ⟨M, hM⟩ : ∃ M, mixN H b = M := ⟨_, rfl⟩
  have HMM := Lib.hid hM
  rw [hCH, hM]
  clear hCH hCK hA hH hB hM
  go_enter Tryd.func50, Tryd.ntmps50
  go_wp2_with (first
    | (refine wpList_value rfl (HBT.out _ _ _ rfl (by kernel_rfl)) ?_)
    | (refine wpList_store_mid rfl 121 (.tmp 5) (.tmp 21) rfl (w.heap.size + 1 + 1) 0 CK rfl rfl HTH.out HIK.out HIK1.out ?_; rw [hwb]))
  clear hz hz8 hwa hwb hs3 HTH HIK HIK1 HBT
  go_loopw [7] (fun v wr => ∃ t : Nat, t ≤ 64 ∧ v = .int .i64 (t : Int) ∧ RO w H (fun u => if u < t then spK b 64 u else 0) wr) (fun v _ => 64 - (intOf v).toNat)
  case atStart => exact ⟨0, Nat.zero_le _, rfl, HT.out⟩
  case round =>
    clear HT
    obtain ⟨t, ht, rfl, hW⟩ := hrel
    have HW := Lib.hid hW
    clear hW
    by_cases hlt : t < 64
    · have t0 : (0 : Int) ≤ (t : Int) := by omega
      have t1 : (t : Int) < 64 := by omega
      by_cases h16 : t < 16
      · as_aux_lemma =>
        have t6 : (t : Int) < 16 := by omega
        obtain ⟨j0, hj0⟩ : ∃ j, 4 * t = j := ⟨_, rfl⟩
        obtain ⟨j1, hj1⟩ : ∃ j, j0 + 1 = j := ⟨_, rfl⟩
        obtain ⟨j2, hj2⟩ : ∃ j, j0 + 2 = j := ⟨_, rfl⟩
        obtain ⟨j3, hj3⟩ : ∃ j, j0 + 3 = j := ⟨_, rfl⟩
        have k0 := wrn (m := 4) rfl hj0 (by omega)
        have k1 := wrk (m := 1) rfl hj1 (by omega)
        have k2 := wrk (m := 2) rfl hj2 (by omega)
        have k3 := wrk (m := 3) rfl hj3 (by omega)
        obtain ⟨a0, b0⟩ : (0 : Int) ≤ (j0 : Int) ∧ (j0 : Int) < 64 := by omega
        obtain ⟨a1, b1⟩ : (0 : Int) ≤ (j1 : Int) ∧ (j1 : Int) < 64 := by omega
        obtain ⟨a2, b2⟩ : (0 : Int) ≤ (j2 : Int) ∧ (j2 : Int) < 64 := by omega
        obtain ⟨a3, b3⟩ : (0 : Int) ≤ (j3 : Int) ∧ (j3 : Int) < 64 := by omega
        have HP := HW.out.drew
        have hkw : spK b 64 t = b j0 * 16777216 + b j1 * 65536 + b j2 * 256 + b j3 := by
          rw [spK_lo b h16]; unfold wd; rw [← hj1, ← hj2, ← hj3, ← hj0]
        have l0 := HB8.out j0 (by omega)
        have l1 := HB8.out j1 (by omega)
        have l2 := HB8.out j2 (by omega)
        have l3 := HB8.out j3 (by omega)
        have q0 := HBY.out _ HP.o j0 (by omega)
        have q1 := HBY.out _ HP.o j1 (by omega)
        have q2 := HBY.out _ HP.o j2 (by omega)
        have q3 := HBY.out _ HP.o j3 (by omega)
        generalize b j0 = x0 at *
        generalize b j1 = x1 at *
        generalize b j2 = x2 at *
        generalize b j3 = x3 at *
        have c0 : IntKind.u32.wrap (x0 : Int) = (x0 : Int) := by rw [IntKind.wrap_u32]; omega
        have c1 : IntKind.u32.wrap (x1 : Int) = (x1 : Int) := by rw [IntKind.wrap_u32]; omega
        have c2 : IntKind.u32.wrap (x2 : Int) = (x2 : Int) := by rw [IntKind.wrap_u32]; omega
        have c3 : IntKind.u32.wrap (x3 : Int) = (x3 : Int) := by rw [IntKind.wrap_u32]; omega
        obtain ⟨n1, hn1⟩ : ∃ v, x0 * 16777216 = v := ⟨_, rfl⟩
        obtain ⟨n2, hn2⟩ : ∃ v, x1 * 65536 = v := ⟨_, rfl⟩
        obtain ⟨n3, hn3⟩ : ∃ v, x2 * 256 = v := ⟨_, rfl⟩
        obtain ⟨n4, hn4⟩ : ∃ v, n1 + n2 = v := ⟨_, rfl⟩
        obtain ⟨n5, hn5⟩ : ∃ v, n4 + n3 = v := ⟨_, rfl⟩
        obtain ⟨V, hV⟩ : ∃ V, spK b 64 t = V := ⟨_, rfl⟩
        rw [hV] at hkw
        have d0 : IntKind.u32.wrap ((x0 : Int) * 16777216) = (n1 : Int) := by rw [IntKind.wrap_u32]; omega
        have d1 : IntKind.u32.wrap ((x1 : Int) * 65536) = (n2 : Int) := by rw [IntKind.wrap_u32]; omega
        have d2 : IntKind.u32.wrap ((x2 : Int) * 256) = (n3 : Int) := by rw [IntKind.wrap_u32]; omega
        have d3 : IntKind.u32.wrap ((n1 : Int) + (n2 : Int)) = (n4 : Int) := by rw [IntKind.wrap_u32]; omega
        have d4 : IntKind.u32.wrap ((n4 : Int) + (n3 : Int)) = (n5 : Int) := by rw [IntKind.wrap_u32]; omega
        have d5 : IntKind.u32.wrap ((n5 : Int) + (x3 : Int)) = (V : Int) := by rw [IntKind.wrap_u32]; omega
        have c8 := HP.none (show t < 64 by omega)
        have z8 : wr.drew.frozen? ⟨w.heap.size + 1 + 1 + 1, t, none⟩ = false := HP.y.free _
        have HN := Lib.hid (HP.set hV)
        clear hkw l0 l1 l2 l3 hV hj0 hj1 hj2 hj3 HP hn1 hn2 hn3 hn4 hn5 HW ht h16
        go_wp2_with fail
        refine still_tail 35 (by kernel_rfl) (by kernel_rfl) ?_
        simp only [List.take_succ_cons, List.take_zero, List.drop_succ_cons, List.drop_zero]
        generalize wr.drew = W0 at *
        repeat still_step
        refine wpStill_nil ?_
        clear k0 k1 k2 k3
        go_wp2_with fail
        go_roundw
        case rel => exact ⟨t + 1, by omega, by go_num, HN.out⟩
        case measure => simp [intOf] <;> omega
      · as_aux_lemma =>
        have t6 : ¬ (t : Int) < 16 := by omega
        have t16 : (16 : Int) ≤ (t : Int) := by omega
        obtain ⟨p, hp⟩ : ∃ p, t = p + 15 := ⟨t - 15, by omega⟩
        obtain ⟨q, hq⟩ : ∃ p, t = p + 2 := ⟨t - 2, by omega⟩
        obtain ⟨r, hr⟩ : ∃ p, t = p + 7 := ⟨t - 7, by omega⟩
        obtain ⟨s, hs⟩ : ∃ p, t = p + 16 := ⟨t - 16, by omega⟩
        have m1 := wrb (m := 15) rfl hp (by omega)
        have m2 := wrb (m := 2) rfl hq (by omega)
        have m3 := wrb (m := 7) rfl hr (by omega)
        have m4 := wrb (m := 16) rfl hs (by omega)
        obtain ⟨p0, p1⟩ : (0 : Int) ≤ (p : Int) ∧ (p : Int) < 64 := by omega
        obtain ⟨q0, q1⟩ : (0 : Int) ≤ (q : Int) ∧ (q : Int) < 64 := by omega
        obtain ⟨r0, r1⟩ : (0 : Int) ≤ (r : Int) ∧ (r : Int) < 64 := by omega
        obtain ⟨s0, s1⟩ : (0 : Int) ≤ (s : Int) ∧ (s : Int) < 64 := by omega
        have hre := spK_hi b (show 16 ≤ t by omega) hlt
        unfold spS at hre
        rw [show t - 2 = q by omega, show t - 7 = r by omega, show t - 15 = p by omega, show t - 16 = s by omega] at hre
        obtain ⟨x, hx⟩ : ∃ x, spK b 64 p = x := ⟨_, rfl⟩
        obtain ⟨y, hy⟩ : ∃ x, spK b 64 q = x := ⟨_, rfl⟩
        obtain ⟨u, hu⟩ : ∃ x, spK b 64 r = x := ⟨_, rfl⟩
        obtain ⟨z, hz⟩ : ∃ x, spK b 64 s = x := ⟨_, rfl⟩
        obtain ⟨V, hV⟩ : ∃ x, spK b 64 t = x := ⟨_, rfl⟩
        have lx : x < 4294967296 := hx ▸ HWL.out p
        have ly : y < 4294967296 := hy ▸ HWL.out q
        have lu : u < 4294967296 := hu ▸ HWL.out r
        have lz : z < 4294967296 := hz ▸ HWL.out s
        rw [hx, hy, hu, hz, hV] at hre
        have HP := Lib.hid HW.out.drew
        have cx : wr.drew.cell? ⟨w.heap.size + 1 + 1 + 1, p, none⟩ = some (.int .u32 (x : Nat)) := HP.out.word (by omega) ht hx
        have cy : wr.drew.cell? ⟨w.heap.size + 1 + 1 + 1, q, none⟩ = some (.int .u32 (y : Nat)) := HP.out.word (by omega) ht hy
        have HU : Hid (spK b 64 r = u ∧ spK b 64 s = z ∧ r < t ∧ s < t ∧ t < 64) := Lib.hid ⟨hu, hz, by omega, by omega, hlt⟩
        have HVV := Lib.hid hV
        have R7 := Lib.hid (fun w' => rror_any x 7 7 rfl w' lx (by decide))
        have R18 := Lib.hid (fun w' => rror_any x 18 18 rfl w' lx (by decide))
        have R17 := Lib.hid (fun w' => rror_any y 17 17 rfl w' ly (by decide))
        have R19 := Lib.hid (fun w' => rror_any y 19 19 rfl w' ly (by decide))
        have S3 : Hid (∀ w', Calls Tryd.prog 54 #[.int .u32 (x : Nat), .int .i64 3] w' fun e w'' => e = .returned (.int .u32 (x / 8 : Nat)) ∧ w'' = w') := Lib.hid (fun w' => rshr_any x 3 3 rfl w' lx (by decide))
        have S10 : Hid (∀ w', Calls Tryd.prog 54 #[.int .u32 (y : Nat), .int .i64 10] w' fun e w'' => e = .returned (.int .u32 (y / 1024 : Nat)) ∧ w'' = w') := Lib.hid (fun w' => rshr_any y 10 10 rfl w' ly (by decide))
        have f1 : bits .xor .u32 (rorN 7 x : Nat) (rorN 18 x : Nat) = ((rorN 7 x ^^^ rorN 18 x : Nat) : Int) := u32_xor_nat _ _ (rorN_lt lx) (rorN_lt lx)
        have f2 : bits .xor .u32 ((rorN 7 x ^^^ rorN 18 x : Nat) : Int) ((x / 8 : Nat) : Int) = ((sg0 x : Nat) : Int) := u32_xor_nat _ _ (xor32 (rorN_lt lx) (rorN_lt lx)) (by omega)
        have g1 : bits .xor .u32 (rorN 17 y : Nat) (rorN 19 y : Nat) = ((rorN 17 y ^^^ rorN 19 y : Nat) : Int) := u32_xor_nat _ _ (rorN_lt ly) (rorN_lt ly)
        have g2 : bits .xor .u32 ((rorN 17 y ^^^ rorN 19 y : Nat) : Int) ((y / 1024 : Nat) : Int) = ((sg1 y : Nat) : Int) := u32_xor_nat _ _ (xor32 (rorN_lt ly) (rorN_lt ly)) (by omega)
        generalize rorN 7 x ^^^ rorN 18 x = o1 at *
        generalize rorN 17 y ^^^ rorN 19 y = o2 at *
        generalize rorN 7 x = o3 at *
        generalize rorN 18 x = o4 at *
        generalize rorN 17 y = o5 at *
        generalize rorN 19 y = o6 at *
        generalize sg0 x = S0 at *
        generalize sg1 y = S1 at *
        generalize x / 8 = x8 at *
        generalize y / 1024 = y8 at *
        obtain ⟨v1, hv1⟩ : ∃ v, (S1 + u) % 4294967296 = v := ⟨_, rfl⟩
        obtain ⟨v2, hv2⟩ : ∃ v, (v1 + S0) % 4294967296 = v := ⟨_, rfl⟩
        have h1 := u32m (S1 : Int) (u : Int) rfl rfl hv1
        have h2 := u32m (v1 : Int) (S0 : Int) rfl rfl hv2
        have h3 := u32m (v2 : Int) (z : Int) (e := V) rfl rfl (by omega)
        have HH1 := Lib.hid h1
        have HH2 := Lib.hid h2
        have HH3 := Lib.hid h3
        have HF := Lib.hid (And.intro (And.intro f1 f2) (And.intro g1 g2))
        have HM := Lib.hid (And.intro m3 m4)
        clear hv1 hv2 hre h1 h2 h3 lx ly lu lz hx hy hu hz hV hp hq hr hs ht h16 hlt HW f1 f2 g1 g2 m3 m4
        go_wp2_with fail
        refine still_lit (by kernel_rfl) (by kernel_rfl) ?_
        generalize wr.drew = W0 at *
        repeat still_step
        refine wpStill_nil ?_
        clear cx cy m1 m2
        go_wp2_with fail
        have HP2 := Lib.hid HP.out.drew
        clear HP
        have cu : W0.drew.cell? ⟨w.heap.size + 1 + 1 + 1, r, none⟩ = some (.int .u32 (u : Nat)) := HP2.out.word HU.out.2.2.1 (Nat.le_of_lt HU.out.2.2.2.2) HU.out.1
        have cz : W0.drew.cell? ⟨w.heap.size + 1 + 1 + 1, s, none⟩ = some (.int .u32 (z : Nat)) := HP2.out.word HU.out.2.2.2.1 (Nat.le_of_lt HU.out.2.2.2.2) HU.out.2.1
        have c8 := HP2.out.none HU.out.2.2.2.2
        have z8 : W0.drew.frozen? ⟨w.heap.size + 1 + 1 + 1, t, none⟩ = false := HP2.out.y.free _
        have HN := Lib.hid (HP2.out.set HVV.out)
        have h1 := HH1.out
        have h2 := HH2.out
        have h3 := HH3.out
        have f1 := HF.out.1.1
        have f2 := HF.out.1.2
        have g1 := HF.out.2.1
        have g2 := HF.out.2.2
        have m3 := HM.out.1
        have m4 := HM.out.2
        clear HP2 HH1 HH2 HH3 HF HM
        refine still_tail 29 (by kernel_rfl) (by kernel_rfl) ?_
        simp only [List.take_succ_cons, List.take_zero, List.drop_succ_cons, List.drop_zero]
        generalize W0.drew = W1 at *
        repeat still_step
        refine wpStill_step (fun K hK => ?_)
        go_simp
        with_reducible refine ⟨_, R17.out _, hK _ ?_⟩
        clear hK K
        repeat still_step
        refine wpStill_step (fun K hK => ?_)
        go_simp
        with_reducible refine ⟨_, R19.out _, hK _ ?_⟩
        clear hK K
        repeat still_step
        refine wpStill_step (fun K hK => ?_)
        go_simp
        with_reducible refine ⟨_, S10.out _, hK _ ?_⟩
        clear hK K
        repeat still_step
        refine wpStill_step (fun K hK => ?_)
        go_simp
        with_reducible refine ⟨_, R7.out _, hK _ ?_⟩
        clear hK K
        repeat still_step
        refine wpStill_step (fun K hK => ?_)
        go_simp
        with_reducible refine ⟨_, R18.out _, hK _ ?_⟩
        clear hK K
        repeat still_step
        refine wpStill_step (fun K hK => ?_)
        go_simp
        with_reducible refine ⟨_, S3.out _, hK _ ?_⟩
        clear hK K
        repeat still_step
        refine wpStill_nil ?_
        clear cu cz m3 m4 h1 h2 h3 f1 f2 g1 g2
        go_wp2_with fail
        have h64 := HU.out.2.2.2.2
        go_roundw
        case rel => exact ⟨t + 1, by omega, by go_num, HN.out⟩
        case measure => simp [intOf] <;> omega
    · as_aux_lemma =>
      obtain rfl : t = 64 := by omega
      obtain ⟨W, hWe⟩ : ∃ W, spK b 64 = W := ⟨_, rfl⟩
      have HR : Hid (RO w H W wr) := Lib.hid (hWe ▸ HW.out.congr fun i hi => if_pos hi)
      have HMX : Hid (M = fun j => (rdK H W 64 j + H j) % 4294967296) := Lib.hid (by rw [← HMM.out, ← hWe]; rfl)
      rw [hWe] at HL HWL
      clear hWe ht hlt HW HBY HB8 HMM
      rw [show ((64 : Nat) : Int) = 64 from rfl]
      obtain ⟨y0, hy0⟩ : ∃ x, H 0 = x := ⟨_, rfl⟩
      obtain ⟨y1, hy1⟩ : ∃ x, H 1 = x := ⟨_, rfl⟩
      obtain ⟨y2, hy2⟩ : ∃ x, H 2 = x := ⟨_, rfl⟩
      obtain ⟨y3, hy3⟩ : ∃ x, H 3 = x := ⟨_, rfl⟩
      obtain ⟨y4, hy4⟩ : ∃ x, H 4 = x := ⟨_, rfl⟩
      obtain ⟨y5, hy5⟩ : ∃ x, H 5 = x := ⟨_, rfl⟩
      obtain ⟨y6, hy6⟩ : ∃ x, H 6 = x := ⟨_, rfl⟩
      obtain ⟨y7, hy7⟩ : ∃ x, H 7 = x := ⟨_, rfl⟩
      have HR1 := Lib.hid HR.out.drew
      clear HR
      have e0 : wr.drew.cell? ⟨w.heap.size, 0, none⟩ = some (.int .u32 (y0 : Nat)) := HR1.out.h.val (by decide) hy0
      have e1 : wr.drew.cell? ⟨w.heap.size, 1, none⟩ = some (.int .u32 (y1 : Nat)) := HR1.out.h.val (by decide) hy1
      have e2 : wr.drew.cell? ⟨w.heap.size, 2, none⟩ = some (.int .u32 (y2 : Nat)) := HR1.out.h.val (by decide) hy2
      have e3 : wr.drew.cell? ⟨w.heap.size, 3, none⟩ = some (.int .u32 (y3 : Nat)) := HR1.out.h.val (by decide) hy3
      have e4 : wr.drew.cell? ⟨w.heap.size, 4, none⟩ = some (.int .u32 (y4 : Nat)) := HR1.out.h.val (by decide) hy4
      have e5 : wr.drew.cell? ⟨w.heap.size, 5, none⟩ = some (.int .u32 (y5 : Nat)) := HR1.out.h.val (by decide) hy5
      have e6 : wr.drew.cell? ⟨w.heap.size, 6, none⟩ = some (.int .u32 (y6 : Nat)) := HR1.out.h.val (by decide) hy6
      have e7 : wr.drew.cell? ⟨w.heap.size, 7, none⟩ = some (.int .u32 (y7 : Nat)) := HR1.out.h.val (by decide) hy7
      have HYS : Hid (H 0 = y0 ∧ H 1 = y1 ∧ H 2 = y2 ∧ H 3 = y3 ∧ H 4 = y4 ∧ H 5 = y5 ∧ H 6 = y6 ∧ H 7 = y7) := Lib.hid ⟨hy0, hy1, hy2, hy3, hy4, hy5, hy6, hy7⟩
      clear hy0 hy1 hy2 hy3 hy4 hy5 hy6 hy7
      go_wp2_with fail
      refine still_lit (by kernel_rfl) (by kernel_rfl) ?_
      generalize wr.drew = W0 at *
      repeat still_step
      refine wpStill_nil ?_
      clear e0 e1 e2 e3 e4 e5 e6 e7
      go_wp2_with fail
      go_loopw [10, 11, 12, 13, 14, 15, 16, 17, 18] (fun a b c d e f g z i wr => ∃ t x0 x1 x2 x3 x4 x5 x6 x7 : Nat, t ≤ 64 ∧ i = .int .i64 (t : Int) ∧ a = .int .u32 (x0 : Nat) ∧ b = .int .u32 (x1 : Nat) ∧ c = .int .u32 (x2 : Nat) ∧ d = .int .u32 (x3 : Nat) ∧ e = .int .u32 (x4 : Nat) ∧ f = .int .u32 (x5 : Nat) ∧ g = .int .u32 (x6 : Nat) ∧ z = .int .u32 (x7 : Nat) ∧ (rdK H W t 0 = x0 ∧ rdK H W t 1 = x1 ∧ rdK H W t 2 = x2 ∧ rdK H W t 3 = x3 ∧ rdK H W t 4 = x4 ∧ rdK H W t 5 = x5 ∧ rdK H W t 6 = x6 ∧ rdK H W t 7 = x7) ∧ RO w H W wr) (fun _ _ _ _ _ _ _ _ i _ => 64 - (intOf i).toNat)
      case atStart => exact ⟨0, y0, y1, y2, y3, y4, y5, y6, y7, Nat.zero_le _, rfl, rfl, rfl, rfl, rfl, rfl, rfl, rfl, rfl, HYS.out, HR1.out⟩
      case round =>
        clear HR1
        obtain ⟨t, x0, x1, x2, x3, x4, x5, x6, x7, ht, rfl, rfl, rfl, rfl, rfl, rfl, rfl, rfl, rfl, ⟨hx0, hx1, hx2, hx3, hx4, hx5, hx6, hx7⟩, hX⟩ := hrel
        have HX := Lib.hid hX
        clear hX
        by_cases hlt : t < 64
        · as_aux_lemma =>
          have t0 : (0 : Int) ≤ (t : Int) := by omega
          have t1 : (t : Int) < 64 := by omega
          have hl := HL.out t
          have l0 : x0 < 4294967296 := hx0 ▸ hl 0 (by decide)
          have l1 : x1 < 4294967296 := hx1 ▸ hl 1 (by decide)
          have l2 : x2 < 4294967296 := hx2 ▸ hl 2 (by decide)
          have l3 : x3 < 4294967296 := hx3 ▸ hl 3 (by decide)
          have l4 : x4 < 4294967296 := hx4 ▸ hl 4 (by decide)
          have l5 : x5 < 4294967296 := hx5 ▸ hl 5 (by decide)
          have l6 : x6 < 4294967296 := hx6 ▸ hl 6 (by decide)
          have l7 : x7 < 4294967296 := hx7 ▸ hl 7 (by decide)
          obtain ⟨o1, o2, o3, o4, o5, o6, o7, o8, o9, oa, ob, oc, od, oe, nx, B1, B0, ch, mj, v1, v2, v3, T1, T2, U4, U0, ⟨r6, r11, r25, r2, r13, r22⟩, ⟨f1, f2, n1, n2, n3, n4, s1, s2, s3, s4⟩, ⟨g1, g2, p1, p2, p3, p4, p5, s5, s6, s7⟩, hrd⟩ := rnd_nums (rdK H W t) (kN t) (W t) x0 x1 x2 x3 x4 x5 x6 x7 l0 l1 l2 l3 l4 l5 l6 l7 (kN_lt t) (HWL.out t) hx0 hx1 hx2 hx3 hx4 hx5 hx6 hx7
          have HRD : Hid (rdK H W (t + 1) 0 = U0 ∧ rdK H W (t + 1) 1 = x0 ∧ rdK H W (t + 1) 2 = x1 ∧ rdK H W (t + 1) 3 = x2 ∧ rdK H W (t + 1) 4 = U4 ∧ rdK H W (t + 1) 5 = x4 ∧ rdK H W (t + 1) 6 = x5 ∧ rdK H W (t + 1) 7 = x6) := Lib.hid hrd
          have HP := Lib.hid HX.out.drew
          have ck : wr.drew.cell? ⟨w.heap.size + 1 + 1, t, none⟩ = some (.int .u32 (kN t : Nat)) := HP.out.k.cell hlt
          have cw : wr.drew.cell? ⟨w.heap.size + 1 + 1 + 1, t, none⟩ = some (.int .u32 (W t : Nat)) := HP.out.y.cell hlt
          have R6 : Hid (∀ w', Calls Tryd.prog 53 #[.int .u32 (x4 : Nat), .int .i64 6] w' fun e w'' => e = .returned (.int .u32 (o3 : Nat)) ∧ w'' = w') := Lib.hid (fun w' => by rw [← r6]; exact rror_any x4 6 6 rfl w' l4 (by decide))
          have R11 : Hid (∀ w', Calls Tryd.prog 53 #[.int .u32 (x4 : Nat), .int .i64 11] w' fun e w'' => e = .returned (.int .u32 (o4 : Nat)) ∧ w'' = w') := Lib.hid (fun w' => by rw [← r11]; exact rror_any x4 11 11 rfl w' l4 (by decide))
          have R25 : Hid (∀ w', Calls Tryd.prog 53 #[.int .u32 (x4 : Nat), .int .i64 25] w' fun e w'' => e = .returned (.int .u32 (o5 : Nat)) ∧ w'' = w') := Lib.hid (fun w' => by rw [← r25]; exact rror_any x4 25 25 rfl w' l4 (by decide))
          have R2 : Hid (∀ w', Calls Tryd.prog 53 #[.int .u32 (x0 : Nat), .int .i64 2] w' fun e w'' => e = .returned (.int .u32 (o6 : Nat)) ∧ w'' = w') := Lib.hid (fun w' => by rw [← r2]; exact rror_any x0 2 2 rfl w' l0 (by decide))
          have R13 : Hid (∀ w', Calls Tryd.prog 53 #[.int .u32 (x0 : Nat), .int .i64 13] w' fun e w'' => e = .returned (.int .u32 (o7 : Nat)) ∧ w'' = w') := Lib.hid (fun w' => by rw [← r13]; exact rror_any x0 13 13 rfl w' l0 (by decide))
          have R22 : Hid (∀ w', Calls Tryd.prog 53 #[.int .u32 (x0 : Nat), .int .i64 22] w' fun e w'' => e = .returned (.int .u32 (o8 : Nat)) ∧ w'' = w') := Lib.hid (fun w' => by rw [← r22]; exact rror_any x0 22 22 rfl w' l0 (by decide))
          have HTT := Lib.hid hlt
          clear r6 r11 r25 r2 r13 r22 hrd hl l0 l1 l2 l3 l4 l5 l6 l7 hx0 hx1 hx2 hx3 hx4 hx5 hx6 hx7 hlt ht HX
          as_aux_lemma =>
            go_wp2_with fail
            refine still_lit (by kernel_rfl) (by kernel_rfl) ?_
            generalize wr.drew = W0 at *
            repeat still_step
            refine wpStill_step (fun K hK => ?_)
            go_simp
            with_reducible refine ⟨_, R6.out _, hK _ ?_⟩
            clear hK K
            repeat still_step
            refine wpStill_step (fun K hK => ?_)
            go_simp
            with_reducible refine ⟨_, R11.out _, hK _ ?_⟩
            clear hK K
            repeat still_step
            refine wpStill_step (fun K hK => ?_)
            go_simp
            with_reducible refine ⟨_, R25.out _, hK _ ?_⟩
            clear hK K
            repeat still_step
            refine wpStill_nil ?_
            clear ck cw R6 R11 R25 f1 f2 n1 n2 n3 n4 s1 s2 s3 s4
            as_aux_lemma =>
              go_wp2_with fail
              have HP1 := Lib.hid HP.out
              clear HP
              refine (R2.out _).mono ?_
              rintro e w5 ⟨rfl, rfl⟩
              go_wp2_with fail
              as_aux_lemma =>
                refine (R13.out _).mono ?_
                rintro e w6 ⟨rfl, rfl⟩
                go_wp2_with fail
                refine (R22.out _).mono ?_
                rintro e w7 ⟨rfl, rfl⟩
                clear R2 R13 R22
                go_wp2_with fail
                have h64 := HTT.out
                trace_state
                go_roundw
                case rel => exact ⟨t + 1, U0, x0, x1, x2, U4, x4, x5, x6, by omega, by go_num, rfl, rfl, rfl, rfl, rfl, rfl, rfl, rfl, HRD.out, HP1.out⟩
                case measure => simp [intOf] <;> omega
        · as_aux_lemma =>
          obtain rfl : t = 64 := by omega
          obtain ⟨hy0, hy1, hy2, hy3, hy4, hy5, hy6, hy7⟩ := HYS.out
          have hM : ∀ j, M j = (rdK H W 64 j + H j) % 4294967296 := fun j => by rw [HMX.out]
          have s0 := u32m (y0 : Int) (x0 : Int) (e := M 0) rfl rfl (by rw [hM 0, hx0, hy0, Nat.add_comm])
          have e0 : wr.cell? ⟨w.heap.size, 0, none⟩ = some (.int .u32 (y0 : Nat)) := HX.out.h.val (by decide) hy0
          have s1 := u32m (y1 : Int) (x1 : Int) (e := M 1) rfl rfl (by rw [hM 1, hx1, hy1, Nat.add_comm])
          have e1 : wr.cell? ⟨w.heap.size, 1, none⟩ = some (.int .u32 (y1 : Nat)) := HX.out.h.val (by decide) hy1
          have s2 := u32m (y2 : Int) (x2 : Int) (e := M 2) rfl rfl (by rw [hM 2, hx2, hy2, Nat.add_comm])
          have e2 : wr.cell? ⟨w.heap.size, 2, none⟩ = some (.int .u32 (y2 : Nat)) := HX.out.h.val (by decide) hy2
          have s3 := u32m (y3 : Int) (x3 : Int) (e := M 3) rfl rfl (by rw [hM 3, hx3, hy3, Nat.add_comm])
          have e3 : wr.cell? ⟨w.heap.size, 3, none⟩ = some (.int .u32 (y3 : Nat)) := HX.out.h.val (by decide) hy3
          have s4 := u32m (y4 : Int) (x4 : Int) (e := M 4) rfl rfl (by rw [hM 4, hx4, hy4, Nat.add_comm])
          have e4 : wr.cell? ⟨w.heap.size, 4, none⟩ = some (.int .u32 (y4 : Nat)) := HX.out.h.val (by decide) hy4
          have s5 := u32m (y5 : Int) (x5 : Int) (e := M 5) rfl rfl (by rw [hM 5, hx5, hy5, Nat.add_comm])
          have e5 : wr.cell? ⟨w.heap.size, 5, none⟩ = some (.int .u32 (y5 : Nat)) := HX.out.h.val (by decide) hy5
          have s6 := u32m (y6 : Int) (x6 : Int) (e := M 6) rfl rfl (by rw [hM 6, hx6, hy6, Nat.add_comm])
          have e6 : wr.cell? ⟨w.heap.size, 6, none⟩ = some (.int .u32 (y6 : Nat)) := HX.out.h.val (by decide) hy6
          have s7 := u32m (y7 : Int) (x7 : Int) (e := M 7) rfl rfl (by rw [hM 7, hx7, hy7, Nat.add_comm])
          have e7 : wr.cell? ⟨w.heap.size, 7, none⟩ = some (.int .u32 (y7 : Nat)) := HX.out.h.val (by decide) hy7
          have hN : WB 115 8 (w.heap.size + 1) M (wr.setCells (w.heap.size + 1) 0 (rowW 8 M).toArray.toList) := Blk.setCells HX.out.r (rowW 8 M) (by rw [rowW_size, rowW_len])
          have hO : Below w.heap.size w (wr.setCells (w.heap.size + 1) 0 (rowW 8 M).toArray.toList) := HX.out.o.trans ((Own.setCells _ 0 wr).below (by omega) HX.out.o.size)
          have hTH : wr.there (w.heap.size + 1) 0 (rowW 8 M).toArray.size := Blk.there HX.out.r (by rw [rowW_size, rowW_size]; exact Nat.le_refl _)
          have hI := info56 M
          have hI1 := one8w M
          obtain ⟨E, hE⟩ : ∃ C, (rowW 8 M).toArray = C := ⟨_, rfl⟩
          unfold WB at hN
          rw [hE] at hN hO hTH hI hI1
          have HN := Lib.hid hN
          have HO := Lib.hid hO
          have HTH := Lib.hid hTH
          have HI := Lib.hid hI
          have HI1 := Lib.hid hI1
          have HE := Lib.hid hE
          clear hN hO hTH hI hI1 hM hlt ht HX HMX hx0 hx1 hx2 hx3 hx4 hx5 hx6 hx7 hy0 hy1 hy2 hy3 hy4 hy5 hy6 hy7
          rw [show ((64 : Nat) : Int) = 64 from rfl]
          go_wp2_with (first
            | (refine wpList_value rfl (exec_build8 (M := M) (x0 := .tmp 182) (x1 := .tmp 186) (x2 := .tmp 190) (x3 := .tmp 194) (x4 := .tmp 198) (x5 := .tmp 202) (x6 := .tmp 206) (x7 := .tmp 210) rfl rfl rfl rfl rfl rfl rfl rfl rfl) ?_; rw [hE])
            | (refine wpList_store_mid rfl 115 (.tmp 4) (.tmp 211) rfl (w.heap.size + 1) 0 E rfl rfl HTH.out HI.out HI1.out ?_))
          refine bodyPost_ret (v := .agg E) ?_ rfl ⟨by rw [HE.out], HO.out⟩
          exact results_cell_row Tryd.results50 _ _ (w.heap.size + 1) 115 E (0, 0) _ rfl HN.out Tryd.underlying115 rfl HI.out
end Go.Proofs.YtloajfbehejehaaDoor
