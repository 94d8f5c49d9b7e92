/- A block, mixed in. -/
import Derived.Test.YtncfocjmdecapaaGreatDoorZB0
import Derived.Test.YtncfocjmdecapaaGreatDoorZS1
import Derived.Test.YtncfocjmdecapaaGreatDoorZS2
namespace Go.Proofs.YtncfocjmdecapaaGreatDoor
set_option linter.unusedVariables false
set_option linter.unusedSimpArgs false
open Go.RowKit
theorem run_index70 (W : Nat → Nat) (t : Nat) (ht : t < 64) (w : World) : (Instr.index 168 (.agg (rowW 64 W).toArray) (.int .i64 (t : Int))).run Tryz.prog w = .ok (.int .u32 (W t : Nat)) w := by
  have h1 : Tryz.prog.underlying 168 = some (.array 64 23) := Tryz.underlying168
  have h2 : (isAgg 23).run Tryz.prog w = .ok false w := by
    unfold isAgg; rw [Sem.run_bind, run_underlying Tryz.underlying23 w]; rfl
  have h3 : (sizeOf 23).run Tryz.prog w = .ok 1 w := by kernel_rfl
  have h4 : (0 : Int) ≤ (t : Int) ∧ (t : Int) < ((64 : Nat) : Int) := by omega
  have h5 : (t : Int).toNat * 1 = t := by omega
  have h6 : (rowW 64 W).toArray[t]? = some (.int .u32 (W t : Nat)) := by rw [List.getElem?_toArray]; exact rowW_get W ht
  unfold Instr.index part
  simp only [asIntOf, Sem.run_bind, Sem.run_pure, Result.andThen_ok, run_underlying h1]
  rw [if_pos h4]
  simp only [Sem.run_bind, Result.andThen_ok, h2, h3, h5, h6, Bool.false_eq_true, if_false, Sem.run_pure]
theorem exec_index {o : Oper} {a : Act} {w : World} {ty : TypeId} {C : Array Value} {n : Int} {v : Value} (x y : Operand) (ho : o.op = .index ty x y) (hx : a.eval x = .agg C) (hy : a.eval y = .int .i64 n) (h : (Instr.index ty (.agg C) (.int .i64 n)).run Tryz.prog w = .ok v w) : (execOp a.eval o).run Tryz.prog w = .ok (.value v) w := by
  unfold execOp
  simp only [ho, hx, hy, Sem.run_bind, h, Result.andThen_ok]
  rfl
def zero8w : Array Value := (rowW 8 (fun _ => 0)).toArray
theorem zero8w_run (w : World) : (zeroValue 149).run Tryz.prog w = .ok (.agg zero8w) w := by kernel_rfl
theorem info56 (v : Nat → Nat) : (Tryz.prog.info? 149).map (·.size) = some (rowW 8 v).toArray.size := by rw [rowW_size]; kernel_rfl
theorem one8w (v : Nat → Nat) : (rowW 8 v).toArray.all (·.oneCell') = true := all_oneCell_toArray (rowW_one _ _)
theorem info57 (v : Nat → Nat) : (Tryz.prog.info? 124).map (·.size) = some (rowC 64 v).toArray.size := by rw [rowC_size]; kernel_rfl
theorem info_u32 : (Tryz.prog.info? 23).map (·.size) = some 1 := by kernel_rfl
/-- While a block is mixed in. -/
structure MI (w0 : World) (H b V : Nat → Nat) (wr : World) : Prop where
  s : WB 149 8 w0.heap.size H wr
  b : RB 124 64 (w0.heap.size + 1) b wr
  r : WB 149 8 (w0.heap.size + 1 + 1) (fun _ => 0) wr
  v : WB 149 8 (w0.heap.size + 1 + 1 + 1) V wr
  o : Below w0.heap.size w0 wr
  g : GV wr
theorem MI.below {w0 : World} {H b V : Nat → Nat} {wr w' : World} (h : MI w0 H b V wr) (hb : Below wr.heap.size wr w') : MI w0 H b V w' :=
  ⟨Blk.below h.s hb (Blk.lt h.s), Blk.below h.b hb (Blk.lt h.b), Blk.below h.r hb (Blk.lt h.r), Blk.below h.v hb (Blk.lt h.v), h.o.trans (hb.mono h.o.size), h.g.later hb⟩
theorem MI.drew {w0 : World} {H b V : Nat → Nat} {wr : World} (h : MI w0 H b V wr) : MI w0 H b V wr.drew := h.below (Below.refl _ wr).drew
theorem MI.set {w0 : World} {H b V : Nat → Nat} {wr : World} (h : MI w0 H b V wr) (hg : GV w0) (k x : Nat) : MI w0 H b (upd V k x) (wr.setCell ⟨w0.heap.size + 1 + 1 + 1, k, none⟩ (.int .u32 (x : Nat))) := by
  have := hg.lt
  exact ⟨Blk.set_other h.s (by simp; omega) _, Blk.set_other h.b (by simp) _, Blk.set_other h.r (by simp) _, h.v.set k x, h.o.setCell (by simp; omega) _, h.g.own ((Own.refl _ wr).set k _) (by omega) (by omega)⟩
theorem MI.congr {w0 : World} {H b V V' : Nat → Nat} {wr : World} (h : MI w0 H b V wr) (he : ∀ i, i < 8 → V i = V' i) : MI w0 H b V' wr := ⟨h.s, h.b, h.r, h.v.congr he, h.o, h.g⟩
/-- Behind a row that was turned, and what is new. -/
theorem MI.turned {w0 : World} {H b V V' : Nat → Nat} {wr w' : World} (h : MI w0 H b V wr) (hb : Below (w0.heap.size + 1 + 1 + 1) wr w') (hv : WB 149 8 (w0.heap.size + 1 + 1 + 1) V' w') (hg : GV w0) : MI w0 H b V' w' := by
  have hl := hg.lt
  exact ⟨Blk.below h.s hb (by omega), Blk.below h.b hb (by omega), Blk.below h.r hb (by omega), hv, h.o.trans (hb.mono (by omega)),
    ⟨fun i hi => cell_belowB hb (show 1 < w0.heap.size + 1 + 1 + 1 by omega) (h.g.1 i hi), fun i hi => cell_belowB hb (show 2 < w0.heap.size + 1 + 1 + 1 by omega) (h.g.2 i hi)⟩⟩
def shf (V : Nat → Nat) : Nat → Nat := fun j => if j = 0 then V 0 else V (j - 1)
theorem splice_shf (V : Nat → Nat) : splice (rowW 8 V) 1 (rowW 7 V) = rowW 8 (shf V) := by
  refine List.ext_getElem? fun i => ?_
  rw [splice_get (by rw [rowW_len, rowW_len]; exact Nat.le_refl 8)]
  by_cases h0 : i < 1
  · obtain rfl : i = 0 := by omega
    rw [if_pos (by omega), rowW_get V (by omega), rowW_get (shf V) (by omega)]; rfl
  · rw [if_neg h0, rowW_len]
    by_cases h8 : i < 8
    · rw [if_pos (by omega), rowW_get V (show i - 1 < 7 by omega), rowW_get (shf V) h8]
      show _ = some (Value.int .u32 ((if i = 0 then V 0 else V (i - 1) : Nat) : Int))
      rw [if_neg (by omega)]
    · rw [if_neg (by omega), List.getElem?_eq_none (by rw [rowW_len]; omega), List.getElem?_eq_none (by rw [rowW_len]; omega)]
theorem rd_shf (V : Nat → Nat) (k w j : Nat) : upd (upd (shf V) 4 ((V 3 + t1N V k w) % 4294967296)) 0 ((t1N V k w + t2N V) % 4294967296) j = rdS V k w j := by
  unfold upd rdS shf
  by_cases h0 : j = 0
  · simp only [if_pos h0]
  · simp only [if_neg h0]
theorem allx {x : Nat} (h : x < 4294967296) : 4294967295 ^^^ x = 4294967295 - x := by
  refine Nat.eq_of_testBit_eq fun i => ?_
  rw [show 4294967295 - x = 2 ^ 32 - (x + 1) by omega, Nat.testBit_xor, Nat.testBit_two_pow_sub_succ h, show 4294967295 = 2 ^ 32 - 1 by rfl, Nat.testBit_two_pow_sub_one]
  by_cases hi : i < 32
  · simp [hi]
  · have : x.testBit i = false := Nat.testBit_lt_two_pow (Nat.lt_of_lt_of_le h (by show 2 ^ 32 ≤ 2 ^ i; exact Nat.pow_le_pow_right (by decide) (by omega)))
    simp [hi, this]
set_option maxRecDepth 100000 in
set_option maxHeartbeats 8000000 in
theorem mixed_any (H b : Nat → Nat) (w : World) (hH : ∀ j, j < 8 → H j < 4294967296) (hb : ∀ i, i < 64 → b i < 256) (hg : GV w) :
    Calls Tryz.prog 85 #[.agg (rowW 8 H).toArray, .agg (rowC 64 b).toArray] w fun e w' => e = .returned (.agg (rowW 8 (mixN H b)).toArray) ∧ Below w.heap.size w w' := by
  have hz := zero8w_run
  have HG := Lib.hid hg
  have HL := Lib.hid (fun n => rdK_lt (W := spK b 64) hH n)
  have HHL := Lib.hid hH
  obtain ⟨CH, hCH⟩ : ∃ C, (rowW 8 H).toArray = C := ⟨_, rfl⟩
  obtain ⟨CB, hCB⟩ : ∃ C, (rowC 64 b).toArray = C := ⟨_, rfl⟩
  obtain ⟨E, hE⟩ : ∃ C, (rowW 64 (spK b 64)).toArray = C := ⟨_, rfl⟩
  have HSP : Hid (∀ w', Calls Tryz.prog 98 #[.agg CB] w' fun e w'' => e = .returned (.agg E) ∧ Below w'.heap.size w' w'') := Lib.hid fun w' => by rw [← hCB, ← hE]; exact spread_any b w' hb
  have HIX : Hid (∀ t w', t < 64 → (Instr.index 168 (.agg E) (.int .i64 (t : Nat))).run Tryz.prog w' = .ok (.int .u32 (spK b 64 t : Nat)) w') := Lib.hid fun t w' ht => by rw [← hE]; exact run_index70 _ t ht w'
  have HWL := Lib.hid (fun t => spK_lt hb 64 t)
  have HMX : Hid (mixN H b = fun j => (rdK H (spK b 64) 64 j + H j) % 4294967296) := Lib.hid rfl
  obtain ⟨M, hM⟩ : ∃ M, mixN H b = M := ⟨_, rfl⟩
  rw [hM] at HMX ⊢
  obtain ⟨W, hW⟩ : ∃ W, spK b 64 = W := ⟨_, rfl⟩
  rw [hW] at HL HIX HWL HMX
  have HI1 : Hid ((Tryz.prog.info? 149).map (·.size) = some CH.size) := Lib.hid (by rw [← hCH]; exact info56 H)
  have HO1 : Hid (CH.all (·.oneCell') = true) := Lib.hid (by rw [← hCH]; exact one8w H)
  have HI2 : Hid ((Tryz.prog.info? 124).map (·.size) = some CB.size) := Lib.hid (by rw [← hCB]; exact info57 b)
  obtain ⟨wa, hwa⟩ : ∃ q, (((w.alloc (.cells CH 149)).alloc (.cells CB 124)).alloc (.cells zero8w 149)).alloc (.cells zero8w 149) = q := ⟨_, rfl⟩
  obtain ⟨wb, hwb⟩ : ∃ q, wa.setCells (w.heap.size + 1 + 1 + 1) 0 CH.toList = q := ⟨_, rfl⟩
  have HA : Hid (MI w H b (fun _ => 0) wa) := Lib.hid (by
    have hl := HG.out.lt
    rw [← hwa, ← hCH, ← hCB]
    have hbl : Below w.heap.size w ((((w.alloc (.cells (rowW 8 H).toArray 149)).alloc (.cells (rowC 64 b).toArray 124)).alloc (.cells zero8w 149)).alloc (.cells zero8w 149)) := ((((Below.refl _ _).alloc (Nat.le_refl _) _).alloc (by simp) _).alloc (by simp; omega) _).alloc (by simp; omega) _
    refine ⟨(((Blk.new w _ 149).alloc _).alloc _).alloc _, ?_, ?_, ?_, hbl, HG.out.later hbl⟩
    · have := ((Blk.new (w.alloc (.cells (rowW 8 H).toArray 149)) (rowC 64 b).toArray 124).alloc (.cells zero8w 149)).alloc (.cells zero8w 149)
      show Blk _ _ (rowC 64 b).toArray _; simpa using this
    · have := (Blk.new ((w.alloc (.cells (rowW 8 H).toArray 149)).alloc (.cells (rowC 64 b).toArray 124)) zero8w 149).alloc (.cells zero8w 149)
      show Blk _ _ zero8w _; simpa using this
    · have := Blk.new (((w.alloc (.cells (rowW 8 H).toArray 149)).alloc (.cells (rowC 64 b).toArray 124)).alloc (.cells zero8w 149)) zero8w 149
      show Blk _ _ zero8w _; simpa using this)
  have HT : Hid (MI w H b H wb) := Lib.hid (by
    have hO : Own (w.heap.size + 1 + 1 + 1) wa wb := by rw [← hwb]; exact Own.setCells _ _ _
    refine HA.out.turned (hO.below (Nat.le_refl _) (Nat.le_of_lt (Blk.lt HA.out.v))) ?_ HG.out
    rw [← hwb, ← hCH]
    exact Blk.setCells HA.out.v (rowW 8 H) (by rw [rowW_size, rowW_len]))
  have HTH : Hid (wa.there (w.heap.size + 1 + 1 + 1) 0 CH.size) := Lib.hid (by rw [← hCH]; exact Blk.there HA.out.v (by rw [rowW_size, rowW_size]; exact Nat.le_refl _))
  obtain ⟨w3, hw3⟩ : ∃ q, ((w.alloc (.cells CH 149)).alloc (.cells CB 124)).alloc (.cells zero8w 149) = q := ⟨_, rfl⟩
  have HL3 : Hid (Blk w3 w.heap.size CH 149) := Lib.hid (by rw [← hw3]; exact ((Blk.new w _ 149).alloc _).alloc _)
  have HLB : Hid (Blk wb (w.heap.size + 1) CB 124) := Lib.hid (hCB ▸ HT.out.b)
  have hs3 : w3.heap.size = w.heap.size + 1 + 1 + 1 := by rw [← hw3]; simp
  rw [hw3] at hwa
  rw [hCH, hCB]
  clear hCH hCB hE hM hW hH hb hg HA
  go_enter Tryz.func85, Tryz.ntmps85
  go_wp2_with (first
    | (refine wpList_load_row rfl 149 (.tmp 2) rfl w.heap.size rfl 149 CH (0, 0) _ HL3.out Tryz.underlying149 rfl HI1.out ?_)
    | (refine wpList_store_mid rfl 149 (.tmp 5) (.tmp 13) rfl (w.heap.size + 1 + 1 + 1) 0 CH rfl rfl HTH.out HI1.out HO1.out ?_; rw [hwb])
    | (refine wpList_load_row rfl 124 (.tmp 3) rfl (w.heap.size + 1) rfl 124 CB (0, 0) _ HLB.out Tryz.underlying124 rfl HI2.out ?_))
  clear hz hwb hwa hw3 hs3 HTH HL3 HLB HO1 HI2
  refine (HSP.out _).mono ?_
  rintro e w4 ⟨rfl, hb4⟩
  have H4 := Lib.hid (HT.out.below hb4)
  clear hb4 HT HSP
  go_wp2_with fail
  go_loopw [16] (fun v wr => ∃ t : Nat, t ≤ 64 ∧ v = .int .i64 (t : Int) ∧ MI w H b (rdK H W t) wr) (fun v _ => 64 - (intOf v).toNat)
  case atStart => exact ⟨0, Nat.zero_le _, rfl, H4.out⟩
  case round =>
    clear H4
    obtain ⟨t, ht, rfl, hX⟩ := hrel
    have HX := Lib.hid hX
    clear hX
    by_cases hlt : t < 64
    · have t0 : (0 : Int) ≤ (t : Int) := by omega
      have t1 : (t : Int) < 64 := by omega
      have HIT := Lib.hid (fun w' => HIX.out t w' hlt)
      have HLV := Lib.hid (HL.out t)
      have HNX : Hid (rdK H W (t + 1) = rdS (rdK H W t) (kN t) (W t)) := Lib.hid rfl
      obtain ⟨V, hV⟩ : ∃ V, rdK H W t = V := ⟨_, rfl⟩
      rw [hV] at HX HLV HNX
      have lw := HWL.out t
      obtain ⟨wt, hwt⟩ : ∃ x, W t = x := ⟨_, rfl⟩
      rw [hwt] at HIT lw HNX
      have lk := kN_lt t
      obtain ⟨kt, hkt⟩ : ∃ x, kN t = x := ⟨_, rfl⟩
      rw [hkt] at lk HNX
      obtain ⟨x0, h0⟩ : ∃ x, V 0 = x := ⟨_, rfl⟩
      obtain ⟨x1, h1⟩ : ∃ x, V 1 = x := ⟨_, rfl⟩
      obtain ⟨x2, h2⟩ : ∃ x, V 2 = x := ⟨_, rfl⟩
      obtain ⟨x3, h3⟩ : ∃ x, V 3 = x := ⟨_, rfl⟩
      obtain ⟨x4, h4⟩ : ∃ x, V 4 = x := ⟨_, rfl⟩
      obtain ⟨x5, h5⟩ : ∃ x, V 5 = x := ⟨_, rfl⟩
      obtain ⟨x6, h6⟩ : ∃ x, V 6 = x := ⟨_, rfl⟩
      obtain ⟨x7, h7⟩ : ∃ x, V 7 = x := ⟨_, rfl⟩
      have l0 : x0 < 4294967296 := h0 ▸ HLV.out 0 (by decide)
      have l1 : x1 < 4294967296 := h1 ▸ HLV.out 1 (by decide)
      have l2 : x2 < 4294967296 := h2 ▸ HLV.out 2 (by decide)
      have l3 : x3 < 4294967296 := h3 ▸ HLV.out 3 (by decide)
      have l4 : x4 < 4294967296 := h4 ▸ HLV.out 4 (by decide)
      have l5 : x5 < 4294967296 := h5 ▸ HLV.out 5 (by decide)
      have l6 : x6 < 4294967296 := h6 ▸ HLV.out 6 (by decide)
      have l7 : x7 < 4294967296 := h7 ▸ HLV.out 7 (by decide)
      have ht1 : t1N V kt wt = (x7 + bg1 x4 + chN x4 x5 x6 + kt + wt) % 4294967296 := by unfold t1N; rw [h7, h4, h5, h6]
      have ht2 : t2N V = (bg0 x0 + mjN x0 x1 x2) % 4294967296 := by unfold t2N; rw [h0, h1, h2]
      have HCV : Hid (∀ w', MI w H b V w' → w'.cell? ⟨w.heap.size + 1 + 1 + 1, 0, none⟩ = some (.int .u32 (x0 : Nat)) ∧ w'.cell? ⟨w.heap.size + 1 + 1 + 1, 1, none⟩ = some (.int .u32 (x1 : Nat)) ∧ w'.cell? ⟨w.heap.size + 1 + 1 + 1, 2, none⟩ = some (.int .u32 (x2 : Nat)) ∧ w'.cell? ⟨w.heap.size + 1 + 1 + 1, 3, none⟩ = some (.int .u32 (x3 : Nat)) ∧ w'.cell? ⟨w.heap.size + 1 + 1 + 1, 4, none⟩ = some (.int .u32 (x4 : Nat)) ∧ w'.cell? ⟨w.heap.size + 1 + 1 + 1, 5, none⟩ = some (.int .u32 (x5 : Nat)) ∧ w'.cell? ⟨w.heap.size + 1 + 1 + 1, 6, none⟩ = some (.int .u32 (x6 : Nat)) ∧ w'.cell? ⟨w.heap.size + 1 + 1 + 1, 7, none⟩ = some (.int .u32 (x7 : Nat))) := Lib.hid fun w' h =>
        ⟨h.v.val (by decide) h0, h.v.val (by decide) h1, h.v.val (by decide) h2, h.v.val (by decide) h3, h.v.val (by decide) h4, h.v.val (by decide) h5, h.v.val (by decide) h6, h.v.val (by decide) h7⟩
      have H03 := Lib.hid h3
      have HKT := Lib.hid hkt
      clear h0 h1 h2 h3 h4 h5 h6 h7
      have R6 := Lib.hid (fun w' => ror6_any x4 w' l4)
      have R11 := Lib.hid (fun w' => ror11_any x4 w' l4)
      have R25 := Lib.hid (fun w' => ror25_any x4 w' l4)
      have R2 := Lib.hid (fun w' => ror2_any x0 w' l0)
      have R13 := Lib.hid (fun w' => ror13_any x0 w' l0)
      have R22 := Lib.hid (fun w' => ror22_any x0 w' l0)
      have f1 : bits .xor .u32 (rorN 6 x4 : Nat) (rorN 11 x4 : Nat) = ((rorN 6 x4 ^^^ rorN 11 x4 : Nat) : Int) := u32_xor_nat _ _ (rorN_lt l4) (rorN_lt l4)
      have f2 : bits .xor .u32 ((rorN 6 x4 ^^^ rorN 11 x4 : Nat) : Int) (rorN 25 x4 : Nat) = ((bg1 x4 : Nat) : Int) := u32_xor_nat _ _ (xor32 (rorN_lt l4) (rorN_lt l4)) (rorN_lt l4)
      have g1 : bits .xor .u32 (rorN 2 x0 : Nat) (rorN 13 x0 : Nat) = ((rorN 2 x0 ^^^ rorN 13 x0 : Nat) : Int) := u32_xor_nat _ _ (rorN_lt l0) (rorN_lt l0)
      have g2 : bits .xor .u32 ((rorN 2 x0 ^^^ rorN 13 x0 : Nat) : Int) (rorN 22 x0 : Nat) = ((bg0 x0 : Nat) : Int) := u32_xor_nat _ _ (xor32 (rorN_lt l0) (rorN_lt l0)) (rorN_lt l0)
      have n1 : bits .and .u32 (x4 : Int) (x5 : Int) = ((x4 &&& x5 : Nat) : Int) := u32_and_nat _ _ l4 l5
      have n2 : bits .and .u32 ((4294967295 - x4 : Nat) : Int) (x6 : Int) = (((4294967295 - x4) &&& x6 : Nat) : Int) := u32_and_nat _ _ (by omega) l6
      have n3 : bits .xor .u32 ((x4 &&& x5 : Nat) : Int) (((4294967295 - x4) &&& x6 : Nat) : Int) = ((chN x4 x5 x6 : Nat) : Int) := u32_xor_nat _ _ (and32 (b := x5) l4) (and32 (b := x6) (by omega))
      have n4 : bits .xor .u32 4294967295 (x4 : Int) = ((4294967295 - x4 : Nat) : Int) := by rw [← allx l4]; exact u32_xor_nat 4294967295 x4 (by decide) l4
      have n0 : (if IntKind.u32.signed = true then (-1 : Int) else IntKind.u32.max) = 4294967295 := rfl
      have p1 : bits .and .u32 (x0 : Int) (x1 : Int) = ((x0 &&& x1 : Nat) : Int) := u32_and_nat _ _ l0 l1
      have p2 : bits .and .u32 (x0 : Int) (x2 : Int) = ((x0 &&& x2 : Nat) : Int) := u32_and_nat _ _ l0 l2
      have p3 : bits .and .u32 (x1 : Int) (x2 : Int) = ((x1 &&& x2 : Nat) : Int) := u32_and_nat _ _ l1 l2
      have p4 : bits .xor .u32 ((x0 &&& x1 : Nat) : Int) ((x0 &&& x2 : Nat) : Int) = (((x0 &&& x1) ^^^ (x0 &&& x2) : Nat) : Int) := u32_xor_nat _ _ (and32 (b := x1) l0) (and32 (b := x2) l0)
      have p5 : bits .xor .u32 (((x0 &&& x1) ^^^ (x0 &&& x2) : Nat) : Int) ((x1 &&& x2 : Nat) : Int) = ((mjN x0 x1 x2 : Nat) : Int) := u32_xor_nat _ _ (xor32 (and32 (b := x1) l0) (and32 (b := x2) l0)) (and32 (b := x2) l1)
      generalize rorN 6 x4 ^^^ rorN 11 x4 = o1 at *
      generalize rorN 2 x0 ^^^ rorN 13 x0 = o2 at *
      generalize rorN 6 x4 = o3 at *
      generalize rorN 11 x4 = o4 at *
      generalize rorN 25 x4 = o5 at *
      generalize rorN 2 x0 = o6 at *
      generalize rorN 13 x0 = o7 at *
      generalize rorN 22 x0 = o8 at *
      generalize bg1 x4 = B1 at *
      generalize bg0 x0 = B0 at *
      generalize chN x4 x5 x6 = ch at *
      generalize mjN x0 x1 x2 = mj at *
      generalize (x0 &&& x1) ^^^ (x0 &&& x2) = o9 at *
      generalize x4 &&& x5 = oa at *
      generalize (4294967295 - x4) &&& x6 = ob at *
      generalize x0 &&& x1 = oc at *
      generalize x0 &&& x2 = od at *
      generalize x1 &&& x2 = oe at *
      generalize 4294967295 - x4 = nx at *
      obtain ⟨v1, hv1⟩ : ∃ v, (x7 + B1) % 4294967296 = v := ⟨_, rfl⟩
      obtain ⟨v2, hv2⟩ : ∃ v, (v1 + ch) % 4294967296 = v := ⟨_, rfl⟩
      obtain ⟨v3, hv3⟩ : ∃ v, (v2 + kt) % 4294967296 = v := ⟨_, rfl⟩
      obtain ⟨T1, hT1⟩ : ∃ v, t1N V kt wt = v := ⟨_, rfl⟩
      obtain ⟨T2, hT2⟩ : ∃ v, t2N V = v := ⟨_, rfl⟩
      obtain ⟨U4, hU4⟩ : ∃ v, (x3 + T1) % 4294967296 = v := ⟨_, rfl⟩
      obtain ⟨U0, hU0⟩ : ∃ v, (T1 + T2) % 4294967296 = v := ⟨_, rfl⟩
      rw [hT1] at ht1
      rw [hT2] at ht2
      have s1 := u32m (x7 : Int) (B1 : Int) rfl rfl hv1
      have s2 := u32m (v1 : Int) (ch : Int) rfl rfl hv2
      have s3 := u32m (v2 : Int) (kt : Int) rfl rfl hv3
      have s4 := u32m (v3 : Int) (wt : Int) (e := T1) rfl rfl (by omega)
      have s5 := u32m (B0 : Int) (mj : Int) rfl rfl ht2.symm
      have s6 := u32m (x3 : Int) (T1 : Int) rfl rfl hU4
      have s7 := u32m (T1 : Int) (T2 : Int) rfl rfl hU0
      have HRD : Hid (∀ j, upd (upd (shf V) 4 U4) 0 U0 j = rdK H W (t + 1) j) := Lib.hid fun j => by
        rw [HNX.out, ← rd_shf V kt wt j, hT1, hT2, H03.out, hU4, hU0]
      have HTT := Lib.hid hlt
      have HS6 := Lib.hid s6
      have HS7 := Lib.hid s7
      clear hv1 hv2 hv3 ht1 ht2 hT1 hT2 hU4 hU0 l0 l1 l2 l3 l4 l5 l6 l7 lw lk hV hwt hkt hlt ht s6 s7
      go_wp2_with (first | (refine wpList_value rfl (exec_index (.tmp 15) (.tmp 16) rfl rfl rfl (HIT.out _)) ?_))
      have HP0 := Lib.hid HX.out.drew
      have c := HCV.out _ HP0.out
      have c0 := c.1
      have c4 := c.2.2.2.2.1
      clear c HX
      refine still_lit (by kernel_rfl) (by kernel_rfl) ?_
      generalize wr.drew = W0 at *
      repeat still_step
      refine wpStill_nil ?_
      clear c0 c4
      go_wp2_with fail
      have HP1 := Lib.hid HP0.out.drew
      have c := HCV.out _ HP1.out
      have c5 := c.2.2.2.2.2.1
      have c6 := c.2.2.2.2.2.2.1
      have c7 := c.2.2.2.2.2.2.2
      have ck := HP1.out.g.2 t HTT.out
      rw [HKT.out] at ck
      clear c HP0
      refine still_lit (by kernel_rfl) (by kernel_rfl) ?_
      generalize W0.drew = W1 at *
      repeat still_step
      refine wpStill_step (fun K hK => ?_)
      go_simp
      with_reducible refine ⟨_, R6.out _, hK _ ?_⟩
      clear hK K
      repeat still_step
      refine wpStill_step (fun K hK => ?_)
      go_simp
      with_reducible refine ⟨_, R11.out _, hK _ ?_⟩
      clear hK K
      repeat still_step
      refine wpStill_step (fun K hK => ?_)
      go_simp
      with_reducible refine ⟨_, R25.out _, hK _ ?_⟩
      clear hK K
      repeat still_step
      refine wpStill_nil ?_
      clear c5 c6 c7 ck R6 R11 R25 f1 f2 n0 n1 n2 n3 n4 s1 s2 s3 s4
      go_wp2_with fail
      have HP2 := Lib.hid HP1.out.drew
      have c := HCV.out _ HP2.out
      have c1 := c.2.1
      have c2 := c.2.2.1
      clear c HP1
      refine still_lit (by kernel_rfl) (by kernel_rfl) ?_
      generalize W1.drew = W2 at *
      repeat still_step
      refine wpStill_step (fun K hK => ?_)
      go_simp
      with_reducible refine ⟨_, R2.out _, hK _ ?_⟩
      clear hK K
      repeat still_step
      refine wpStill_step (fun K hK => ?_)
      go_simp
      with_reducible refine ⟨_, R13.out _, hK _ ?_⟩
      clear hK K
      repeat still_step
      refine wpStill_step (fun K hK => ?_)
      go_simp
      with_reducible refine ⟨_, R22.out _, hK _ ?_⟩
      clear hK K
      repeat still_step
      refine wpStill_nil ?_
      clear c1 c2 R2 R13 R22 g1 g2 p1 p2 p3 p4 p5 s5
      go_wp2_with fail
      have HP3 := Lib.hid HP2.out.drew
      clear HP2
      have HSRC : Hid (∀ j v, (rowW 7 V)[j]? = some v → W2.drew.cell? ((⟨(w.heap.size + 1 + 1 + 1), 0, none⟩ : Addr).add j) = some v) := Lib.hid fun j v hv => by
        have hj : j < 7 := by have := (List.getElem?_eq_some_iff.1 hv).1; rw [rowW_len] at this; exact this
        rw [rowW_get V hj] at hv
        rw [Addr.add_mid, Nat.zero_add, HP3.out.v.cell (show j < 8 by omega)]; exact hv
      refine still_tail 2 (by kernel_rfl) (by kernel_rfl) ?_
      simp only [List.take_succ_cons, List.take_zero, List.drop_succ_cons, List.drop_zero]
      generalize W2.drew = W3 at *
      repeat still_step
      refine wpStill_nil ?_
      refine wpList_copy_splice rfl (.tmp 76) (.tmp 77) 190 190 rfl 23 Tryz.underlying190 info_u32 (some ⟨(w.heap.size + 1 + 1 + 1), 1, none⟩) (some ⟨(w.heap.size + 1 + 1 + 1), 0, none⟩) 7 7 7 8 rfl rfl (w.heap.size + 1 + 1 + 1) 1 (rowW 8 V) 149 HP3.out.v (rowW 7 V) (by rw [rowW_len]; rfl) (fun _ => ⟨rfl, _, rfl, HSRC.out⟩) (by rw [rowW_len, rowW_len]; exact Nat.le_refl 8) (rowW_one _ _) (w.heap.size + 1 + 1 + 1) W3 (Below.refl _ _) (Nat.le_refl _) ?_
      intro w5 HG5 hB5
      have HX5 : Hid (MI w H b (shf V) w5) := Lib.hid (HP3.out.turned hB5 (by have := HG5.out; rw [splice_shf] at this; exact this) HG.out)
      obtain ⟨w6, hw6⟩ : ∃ q, w5.setCell ⟨(w.heap.size + 1 + 1 + 1), 4, none⟩ (.int .u32 (U4 : Nat)) = q := ⟨_, rfl⟩
      have HX6 : Hid (MI w H b (upd (shf V) 4 U4) w6) := Lib.hid (by rw [← hw6]; exact HX5.out.set HG.out 4 U4)
      have c4 : w5.cell? ⟨(w.heap.size + 1 + 1 + 1), 4, none⟩ = some (.int .u32 (x3 : Nat)) := HX5.out.v.val (by decide) H03.out
      have z4 : w5.frozen? ⟨(w.heap.size + 1 + 1 + 1), 4, none⟩ = false := HX5.out.v.free _
      have c0 := HX6.out.v.cell (i := 0) (by decide)
      have z0 : w6.frozen? ⟨(w.heap.size + 1 + 1 + 1), 0, none⟩ = false := HX6.out.v.free _
      have HN : Hid (MI w H b (rdK H W (t + 1)) (w6.setCell ⟨(w.heap.size + 1 + 1 + 1), 0, none⟩ (.int .u32 (U0 : Nat)))) := Lib.hid ((HX6.out.set HG.out 0 U0).congr fun j _ => HRD.out j)
      have s6 := HS6.out
      have s7 := HS7.out
      generalize upd (shf V) 4 U4 0 = q0 at *
      clear HG5 hB5 HP3 HSRC HX5 HX6 HRD HS6 HS7 HCV HNX HKT H03
      have HTT' := HTT.out
      rw [show (rowW 7 V).length = 7 from rowW_len 7 V]
      go_wp2_with fail
      go_roundw
      case rel => exact ⟨t + 1, by omega, by go_num, HN.out⟩
      case measure => simp [intOf] <;> omega
    · obtain rfl : t = 64 := by omega
      obtain ⟨R, hR⟩ : ∃ R, rdK H W 64 = R := ⟨_, rfl⟩
      have HRL := Lib.hid (HL.out 64)
      rw [hR] at HX HMX HRL
      have HMJ : Hid (∀ j, (R j + H j) % 4294967296 = M j) := Lib.hid fun j => by rw [HMX.out]
      clear hR hlt ht HMX HL HIX HWL
      rw [show ((64 : Nat) : Int) = 64 from rfl]
      go_wp2_with fail
      go_loopw [89] (fun v wr => ∃ i : Nat, i ≤ 8 ∧ v = .int .i64 (i : Int) ∧ MI w H b (fun j => if j < i then M j else R j) wr) (fun v _ => 8 - (intOf v).toNat)
      case atStart => exact ⟨0, Nat.zero_le _, rfl, HX.out.congr fun i _ => (if_neg (Nat.not_lt_zero _)).symm⟩
      case round =>
        clear HX
        obtain ⟨i, hi, rfl, hX⟩ := hrel
        have HX := Lib.hid hX
        clear hX
        by_cases hli : i < 8
        · have i0 : (0 : Int) ≤ (i : Int) := by omega
          have i1 : (i : Int) < 8 := by omega
          obtain ⟨x, hx⟩ : ∃ x, R i = x := ⟨_, rfl⟩
          obtain ⟨y, hy⟩ : ∃ x, H i = x := ⟨_, rfl⟩
          obtain ⟨z, hz⟩ : ∃ x, M i = x := ⟨_, rfl⟩
          have hs := HMJ.out i
          rw [hx, hy, hz] at hs
          have s1 := u32m (x : Int) (y : Int) rfl rfl hs
          have HP := Lib.hid HX.out.drew
          have ca : wr.drew.cell? ⟨(w.heap.size + 1 + 1 + 1), i, none⟩ = some (.int .u32 (x : Nat)) := HP.out.v.val hli (by rw [← hx]; exact if_neg (Nat.lt_irrefl _))
          have za : wr.drew.frozen? ⟨(w.heap.size + 1 + 1 + 1), i, none⟩ = false := HP.out.v.free _
          have cb : wr.drew.cell? ⟨w.heap.size, i, none⟩ = some (.int .u32 (y : Nat)) := HP.out.s.val hli hy
          have HN : Hid (MI w H b (fun j => if j < i + 1 then M j else R j) (wr.drew.setCell ⟨(w.heap.size + 1 + 1 + 1), i, none⟩ (.int .u32 (z : Nat)))) := Lib.hid ((HP.out.set HG.out i z).congr fun j _ => by
            unfold upd
            by_cases e : j = i
            · rw [if_pos e, e, if_pos (by omega), hz]
            · rw [if_neg e]
              show (if j < i then M j else R j) = if j < i + 1 then M j else R j
              by_cases h5 : j < i
              · rw [if_pos h5, if_pos (by omega)]
              · rw [if_neg h5, if_neg (by omega)])
          clear hs hx hy hz HX HP hli hi
          go_wp2_with fail
          refine still_tail 8 (by kernel_rfl) (by kernel_rfl) ?_
          simp only [List.take_succ_cons, List.take_zero, List.drop_succ_cons, List.drop_zero]
          generalize wr.drew = W0 at *
          repeat still_step
          refine wpStill_nil ?_
          clear cb s1
          go_wp2_with fail
          go_roundw
          case rel => exact ⟨i + 1, by omega, by go_num, HN.out⟩
          case measure => simp [intOf] <;> omega
        · obtain rfl : i = 8 := by omega
          have hY : WB 149 8 (w.heap.size + 1 + 1 + 1) M wr := HX.out.v.congr fun j hj => if_pos hj
          have hN : WB 149 8 (w.heap.size + 1 + 1) M (wr.setCells (w.heap.size + 1 + 1) 0 (rowW 8 M).toArray.toList) := Blk.setCells HX.out.r (rowW 8 M) (by rw [rowW_size, rowW_len])
          have hO : Below w.heap.size w (wr.setCells (w.heap.size + 1 + 1) 0 (rowW 8 M).toArray.toList) := HX.out.o.trans ((Own.setCells _ 0 wr).below (by omega) HX.out.o.size)
          have hTH : wr.there (w.heap.size + 1 + 1) 0 (rowW 8 M).toArray.size := Blk.there HX.out.r (by rw [rowW_size, rowW_size]; exact Nat.le_refl _)
          have hI := info56 M
          have hI1 := one8w M
          obtain ⟨E, hE⟩ : ∃ C, (rowW 8 M).toArray = C := ⟨_, rfl⟩
          unfold WB at hN hY
          rw [hE] at hN hY hO hTH hI hI1
          have HN := Lib.hid hN
          have HY := Lib.hid hY
          have HO := Lib.hid hO
          have HTH := Lib.hid hTH
          have HI := Lib.hid hI
          have HI1 := Lib.hid hI1
          have HE := Lib.hid hE
          clear hN hY hO hTH hI hI1 hE hli hi HX
          go_wp2_with (first
            | (refine wpList_load_row rfl 149 (.tmp 5) rfl (w.heap.size + 1 + 1 + 1) rfl 149 E (0, 0) _ HY.out Tryz.underlying149 rfl HI.out ?_)
            | (refine wpList_store_mid rfl 149 (.tmp 4) (.tmp 101) rfl (w.heap.size + 1 + 1) 0 E rfl rfl HTH.out HI.out HI1.out ?_))
          refine bodyPost_ret (v := .agg E) ?_ rfl ⟨by rw [HE.out], HO.out⟩
          exact results_cell_row Tryz.results85 _ _ (w.heap.size + 1 + 1) 149 E (0, 0) _ rfl HN.out Tryz.underlying149 rfl HI.out
end Go.Proofs.YtncfocjmdecapaaGreatDoor
