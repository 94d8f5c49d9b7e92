/- Part of the proof: what stands here serves the walks of the functions that the statement calls. -/
import Derived.Test.YtncfocjmdecapaaGreatDoorY11
namespace Go.Proofs.YtncfocjmdecapaaGreatDoor
set_option linter.unusedVariables false
set_option linter.unusedSimpArgs false
open Go.RowKit
def addK (W : Nat → Nat) (r : Nat) (f : Nat → Nat) : Nat → Nat := fun i => f i ^^^ numB (W (4 * r + i / 4)) 4 (i % 4)
def mvA (s : Nat → Nat) (f : Nat → Nat) : Nat → Nat := fun i => s (f (4 * ((i / 4 + i % 4) % 4) + i % 4))
def dbl (a : Nat) : Nat := (a * 2 % 256) ^^^ (27 * (a / 128))
def mxA (f : Nat → Nat) : Nat → Nat := fun i => dbl (f (4 * (i / 4) + i % 4)) ^^^ dbl (f (4 * (i / 4) + (i % 4 + 1) % 4)) ^^^ f (4 * (i / 4) + (i % 4 + 1) % 4) ^^^ (f (4 * (i / 4) + (i % 4 + 2) % 4) ^^^ f (4 * (i / 4) + (i % 4 + 3) % 4))
def encK (s : Nat → Nat) (W : Nat → Nat) (f : Nat → Nat) : Nat → Nat → Nat
 | 0 => addK W 0 f
 | r + 1 => addK W (r + 1) (if r + 1 < 14 then mxA (mvA s (encK s W f r)) else mvA s (encK s W f r))
theorem dbl_lt {a : Nat} (h : a < 256) : dbl a < 256 := by
 unfold dbl
 refine Nat.xor_lt_two_pow (n := 8) (Nat.mod_lt _ (by decide)) ?_
 have : a / 128 < 2 := by omega
 show 27 * (a / 128) < 256
 omega
theorem xlt {a b : Nat} (ha : a < 256) (hb : b < 256) : a ^^^ b < 256 := Nat.xor_lt_two_pow (n := 8) ha hb
theorem mxA_lt {f : Nat → Nat} (hf : ∀ i, i < 16 → f i < 256) (i : Nat) (hi : i < 16) : mxA f i < 256 := by
 have h : ∀ k, f (4 * (i / 4) + (i % 4 + k) % 4) < 256 := fun k => hf _ (by omega)
 have h0 : f (4 * (i / 4) + i % 4) < 256 := hf _ (by omega)
 exact xlt (xlt (xlt (dbl_lt h0) (dbl_lt (h 1))) (h 1)) (xlt (h 2) (h 3))
theorem mvA_lt {s f : Nat → Nat} (hs : ∀ x, s x < 256) (i : Nat) : mvA s f i < 256 := hs _
theorem addK_lt {W f : Nat → Nat} {r : Nat} (hf : ∀ i, i < 16 → f i < 256) (i : Nat) (hi : i < 16) : addK W r f i < 256 := xlt (hf i hi) (numB_lt _ _ _)
theorem encK_lt {s W f : Nat → Nat} (hs : ∀ x, s x < 256) (hf : ∀ i, i < 16 → f i < 256) : ∀ r i, i < 16 → encK s W f r i < 256
 | 0, i, hi => addK_lt hf i hi
 | r + 1, i, hi => by
  show addK W (r + 1) (if r + 1 < 14 then mxA (mvA s (encK s W f r)) else mvA s (encK s W f r)) i < 256
  split
  ·exact addK_lt (mxA_lt fun j _ => mvA_lt hs j) i hi
  ·exact addK_lt (fun j _ => mvA_lt hs j) i hi
def m2 (a c : Nat) : Nat := dbl (dbl a) ^^^ a ^^^ dbl (dbl c)
set_option maxRecDepth 100000
def B16 (w : World) (g : Nat) (f : Nat → Nat) : Prop := Blk w g (rowC 16 f).toArray 82
theorem B16.cell {w : World} {g : Nat} {f : Nat → Nat} (h : B16 w g f) {i : Nat} (hi : i < 16) : w.cell? ⟨g, i, none⟩ = some (.int .u8 (f i : Nat)) := by
 rw [Blk.cell h i]; simpa using rowC_get f hi
theorem B16.set {w : World} {g : Nat} {f : Nat → Nat} (h : B16 w g f) (k x : Nat) : B16 (w.setCell ⟨g, k, none⟩ (.int .u8 (x : Nat))) g (upd f k x) := by
 have := Blk.set h k (.int .u8 (x : Nat))
 rw [List.setIfInBounds_toArray, rowC_set] at this; exact this
theorem B16.congr {w : World} {g : Nat} {f f' : Nat → Nat} (h : B16 w g f) (he : ∀ i, i < 16 → f i = f' i) : B16 w g f' := by
 unfold B16 at h ⊢; rw [← rowC_congr he]; exact h
def zero16 : Array Value := (rowC 16 (fun _ => 0)).toArray
theorem zero16_run (w : World) : (zeroValue 82).run Tryz.prog w = .ok (.agg zero16) w := by kernel_rfl
theorem size16 : (Tryz.prog.info? 82).map (·.size) = some 16 := by kernel_rfl
theorem one16 (f : Nat → Nat) : (rowC 16 f).toArray.all (·.oneCell') = true := all_oneCell_toArray (rowC_one _ _)
theorem size_row (f : Nat → Nat) : (rowC 16 f).toArray.size = 16 := by rw [List.size_toArray, rowC_len]
theorem info16 (f : Nat → Nat) : (Tryz.prog.info? 82).map (·.size) = some (rowC 16 f).toArray.size := by rw [size_row]; exact size16
theorem B16.store {w : World} {g : Nat} {f : Nat → Nat} (h : B16 w g f) (f' : Nat → Nat) : B16 (w.setCells g 0 (rowC 16 f').toArray.toList) g f' := by
 unfold B16 at h ⊢
 exact Blk.setCells h (rowC 16 f') (by rw [size_row, rowC_len])
theorem B16.there {w : World} {g : Nat} {f : Nat → Nat} (h : B16 w g f) (f' : Nat → Nat) : w.there g 0 (rowC 16 f').toArray.size := by
 rw [size_row]; exact Blk.there h (by rw [size_row]; exact Nat.le_refl _)
theorem ld16 {w : World} {g : Nat} {C : Array Value} (h : Blk w g C 82) (hs : (Tryz.prog.info? 82).map (·.size) = some C.size) : (loadVar 82 ⟨g, 0, none⟩).run Tryz.prog w = .ok (.agg C) w :=
 run_loadVar_row w g 82 82 C (0, 0) _ h Tryz.underlying82 rfl hs
theorem exec_load16 {o : Oper} {a : Act} {w : World} {g : Nat} {C : Array Value} {x : Operand} (ho : o.op = .load 82 x) (hx : a.eval x = .pointer (some ⟨g, 0, none⟩)) (h : (loadVar 82 ⟨g, 0, none⟩).run Tryz.prog w = .ok (.agg C) w) : (execOp a.eval o).run Tryz.prog w = .ok (.value (.agg C)) w := by
 unfold execOp
 simp only [ho, hx, Instr.loadAt, Instr.sureAddr, Sem.run_bind, Sem.run_pure, Result.andThen_ok, h]
def SL (L : List (Nat × Array Value)) (w : World) : Prop := ∀ p ∈ L, Blk w p.1 p.2 82
theorem SL.later {L : List (Nat × Array Value)} {w w' : World} (h : SL L w) (hb : Below w.heap.size w w') : SL L w' := fun p hp => Blk.below (h p hp) hb (Blk.lt (h p hp))
theorem SL.drew {L : List (Nat × Array Value)} {w : World} (h : SL L w) : SL L w.drew := h
theorem SL.h0 {p : Nat × Array Value} {L : List (Nat × Array Value)} {w : World} (h : SL (p :: L) w) : Blk w p.1 p.2 82 := h p (by simp)
theorem SL.tl {p : Nat × Array Value} {L : List (Nat × Array Value)} {w : World} (h : SL (p :: L) w) : SL L w := fun q hq => h q (by simp [hq])
theorem SL.nil (w : World) : SL [] w := fun p hp => by cases hp
theorem SL.cons {g : Nat} {C : Array Value} {L : List (Nat × Array Value)} {w : World} (h : Blk w g C 82) (hl : SL L w) : SL ((g, C) :: L) w := fun p hp => by
 rcases List.mem_cons.1 hp with rfl | hp
 ·exact h
 ·exact hl p hp
def eqF (f g : Nat → Nat) : Bool := (List.range 16).all fun i => f i == g i
theorem eqF_iff {f g : Nat → Nat} : eqF f g = true ↔ ∀ i, i < 16 → f i = g i := by
 unfold eqF; rw [List.all_eq_true]
 constructor
 ·intro h i hi; simpa using h i (List.mem_range.2 hi)
 ·intro h i hi; simpa using h i (List.mem_range.1 hi)
theorem items16 (f g : Nat → Nat) (w : World) : ∀ is : List Nat, (∀ i ∈ is, i < 16) → (Op.eqItems 9999 5 1 (rowC 16 f).toArray (rowC 16 g).toArray is).run Tryz.prog w = .ok (is.all fun i => f i == g i) w
 | [], _ => rfl
 | i :: is, h => by
  have hi : i < 16 := h i (by simp)
  have p1 : (rowC 16 f).toArray[i * 1]? = some (.int .u8 (f i : Nat)) := by simpa using rowC_get f hi
  have p2 : (rowC 16 g).toArray[i * 1]? = some (.int .u8 (g i : Nat)) := by simpa using rowC_get g hi
  have hu : Tryz.prog.underlying 5 = some (.int .u8) := Tryz.underlying5
  simp only [Op.eqItems, Sem.run_bind, run_part_plain w plain_u8 p1, run_part_plain w plain_u8 p2, Result.andThen_ok, run_equalIn_int w 9998 _ .u8 .u8 _ _ hu]
  have ih := items16 f g w is (fun j hj => h j (by simp [hj]))
  by_cases e : f i = g i
  ·have : ((f i : Int) == (g i : Int)) = true := by simp [e]
   rw [this]
   simp [ih, e]
  ·have : ((f i : Int) == (g i : Int)) = false := by
    rw [beq_eq_false_iff_ne]; omega
   rw [this]
   simp [e]
theorem eq16 (f g : Nat → Nat) (w : World) : (Op.equalIn 10000 82 (.agg (rowC 16 f).toArray) (.agg (rowC 16 g).toArray)).run Tryz.prog w = .ok (eqF f g) w := by
 obtain ⟨i, hi⟩ : ∃ i, Tryz.prog.info? 5 = some i := ⟨_, rfl⟩
 rw [run_equalIn_array w 9999 _ _ (e := 5) (n := 16) (t := 82) Tryz.underlying82 hi, cells_u8]
 exact items16 f g w _ (fun i hi => List.mem_range.1 hi)
theorem guard16 : Tryz.prog.eqGuardType Tryz.prog.depth 82 = false := by kernel_rfl
theorem SL.set {L : List (Nat × Array Value)} {w : World} {g : Nat} (h : SL L w) (hn : ∀ p ∈ L, p.1 ≠ g) (vs : List Value) : SL L (w.setCells g 0 vs) := fun p hp =>
 (Own.setCells vs 0 w).blk (h p hp) (hn p hp)
theorem step_load16 {ops : Array Oper} {o : Oper} {a : Act} {w : World} {K : Act → World → Prop} {Q : Exit → Act → World → Prop} {E : Prop} (hgd : o.guard = none) (x : Operand) (ho : o.op = .load 82 x) (g : Nat) (hx : a.eval x = .pointer (some ⟨g, 0, none⟩)) (C : Array Value) (hB : Blk w g C 82) (hs : (Tryz.prog.info? 82).map (·.size) = some C.size)
  (h : K (a.put o.dst (.agg C)) w) : if Region.wanted o (yielded ops a.tmps) = true then Oper.wp Tryz.prog o a w K Q else E := by
 have hw : Region.wanted o (yielded ops a.tmps) = true := by simp [Region.wanted, hgd]
 rw [if_pos hw]
 exact wp_load_row 82 x ho g hx 82 C (0, 0) _ hB Tryz.underlying82 rfl hs h
theorem step_store16 {ops : Array Oper} {o : Oper} {a : Act} {w : World} {K : Act → World → Prop} {Q : Exit → Act → World → Prop} {E : Prop} (hgd : o.guard = none) (x y : Operand) (ho : o.op = .store 82 x y) (g : Nat) (hx : a.eval x = .pointer (some ⟨g, 0, none⟩)) (C D : Array Value) (hy : a.eval y = .agg C) (hB : Blk w g D 82) (hC : ∃ f, C = (rowC 16 f).toArray) (hD : ∃ f, D = (rowC 16 f).toArray)
  (h : K (a.put o.dst undef) (w.setCells g 0 C.toList)) : if Region.wanted o (yielded ops a.tmps) = true then Oper.wp Tryz.prog o a w K Q else E := by
 have hw : Region.wanted o (yielded ops a.tmps) = true := by simp [Region.wanted, hgd]
 rw [if_pos hw]
 obtain ⟨f, rfl⟩ := hC
 obtain ⟨f', rfl⟩ := hD
 exact wp_store_mid 82 x y ho g 0 _ hx hy (B16.there hB f) (info16 f) (one16 f) h
theorem Blk.store16 {w : World} {g : Nat} {C D : Array Value} (hB : Blk w g D 82) (hC : ∃ f, C = (rowC 16 f).toArray) (hD : ∃ f, D = (rowC 16 f).toArray) : Blk (w.setCells g 0 C.toList) g C 82 := by
 obtain ⟨f, rfl⟩ := hC
 obtain ⟨f', rfl⟩ := hD
 exact B16.store hB f
theorem Below.set16 {w w0 : World} {g B : Nat} (hb : Below B w0 w) (hg : B ≤ g) (hs : B ≤ w.heap.size) (vs : List Value) : Below B w0 (w.setCells g 0 vs) := hb.trans ((Own.setCells vs 0 w).below hg hs)
theorem exec_build {o : Oper} {a : Act} {w : World} {C : Array Value} {parts : Array (Nat × Operand)} {ps : Array (Nat × Value)} (ho : o.op = .build 82 parts) (hp : (parts.map fun (i, x) => (i, a.eval x)) = ps) (h : ∀ w, (Instr.build 82 ps).run Tryz.prog w = .ok (.agg C) w) : (execOp a.eval o).run Tryz.prog w = .ok (.value (.agg C)) w := by
 unfold execOp
 simp only [ho, hp, Sem.run_bind, h, Result.andThen_ok]
 rfl
theorem exec_neq16 {o : Oper} {a : Act} {w : World} {x y : Operand} {r : TypeId} {C D : Array Value} {b : Bool} (ho : o.op = .binOp .neq 82 x y r) (hx : a.eval x = .agg C) (hy : a.eval y = .agg D) (h : ∀ w, (Op.equalIn 10000 82 (.agg C) (.agg D)).run Tryz.prog w = .ok b w) : (execOp a.eval o).run Tryz.prog w = .ok (.value (.bool (!b))) w := by
 unfold execOp
 simp only [ho, hx, hy, Sem.run_bind, run_eqGuard_agg w _ _ x y C D guard16, Result.andThen_ok, run_neq_struct, h]
 rfl
theorem wpList_build16 {ops : Array Oper} {rest : List Oper} {o : Oper} {a : Act} {w : World} {Q : Exit → Act → World → Prop} {C : Array Value} (hgd : o.guard = none) (parts : Array (Nat × Operand)) (ps : Array (Nat × Value)) (ho : o.op = .build 82 parts) (hp : (parts.map fun (i, x) => (i, a.eval x)) = ps) (h : ∀ w, (Instr.build 82 ps).run Tryz.prog w = .ok (.agg C) w)
  (hk : wpList Tryz.prog ops Q rest (a.put o.dst (.agg C)) w) : wpList Tryz.prog ops Q (o :: rest) a w := by
 refine wpList_plain hgd fun K hK => ?_
 unfold Oper.wp
 rw [exec_build ho hp h]
 exact hK _ _ hk
theorem wpList_store16 {ops : Array Oper} {rest : List Oper} {o : Oper} {a : Act} {w : World} {Q : Exit → Act → World → Prop} (hgd : o.guard = none) (x y : Operand) (ho : o.op = .store 82 x y) (g : Nat) (hx : a.eval x = .pointer (some ⟨g, 0, none⟩)) (C D : Array Value) (hy : a.eval y = .agg C) (hB : Blk w g D 82) (hC : ∃ f, C = (rowC 16 f).toArray) (hD : ∃ f, D = (rowC 16 f).toArray)
  (h : wpList Tryz.prog ops Q rest (a.put o.dst undef) (w.setCells g 0 C.toList)) : wpList Tryz.prog ops Q (o :: rest) a w := by
 obtain ⟨f, rfl⟩ := hC
 obtain ⟨f', rfl⟩ := hD
 exact wpList_store_mid hgd 82 x y ho g 0 _ hx hy (B16.there hB f) (info16 f) (one16 f) h
theorem build_none (w : World) : (Instr.build 82 #[]).run Tryz.prog w = .ok (.agg zero16) w := run_build w 82 #[] zero16 (by kernel_rfl)
theorem splice16 (g : Nat → Nat) (q : Nat) (hq : q ≤ 16) : splice (rowC 16 (fun _ => 0)) 0 (rowC q g) = rowC 16 (fun i => if i < q then g i else 0) := by
 refine List.ext_getElem? fun i => ?_
 unfold splice
 rw [List.take_zero, List.nil_append, Nat.zero_add, rowC_len]
 by_cases hi : i < q
 ·rw [List.getElem?_append_left (by rw [rowC_len]; exact hi), rowC_get g hi, rowC_get _ (show i < 16 by omega), if_pos hi]
 ·rw [List.getElem?_append_right (by rw [rowC_len]; omega), rowC_len, List.getElem?_drop, show q + (i - q) = i by omega]
  by_cases h2 : i < 16
  ·rw [rowC_get _ h2, rowC_get _ h2, if_neg hi]
  ·rw [List.getElem?_eq_none (by rw [rowC_len]; omega), List.getElem?_eq_none (by rw [rowC_len]; omega)]
theorem wpList_load16 {ops : Array Oper} {rest : List Oper} {o : Oper} {a : Act} {w : World} {Q : Exit → Act → World → Prop} (hgd : o.guard = none) (x : Operand) (ho : o.op = .load 82 x) (g : Nat) (hx : a.eval x = .pointer (some ⟨g, 0, none⟩)) (C : Array Value) (hB : Blk w g C 82) (hC : ∃ f, C = (rowC 16 f).toArray)
  (h : wpList Tryz.prog ops Q rest (a.put o.dst (.agg C)) w) : wpList Tryz.prog ops Q (o :: rest) a w := by
 obtain ⟨f, rfl⟩ := hC
 exact wpList_load_row hgd 82 x ho g hx 82 _ (0, 0) _ hB Tryz.underlying82 rfl (info16 f) h
theorem res16 {fn : Func} {p : Tmp} (h : fn.results = #[.cell p 82]) (tmps : Array Value) (w : World) (g : Nat) (C : Array Value) (hp : tmps.getD p undef = .pointer (some ⟨g, 0, none⟩)) (hB : Blk w g C 82) (hC : ∃ f, C = (rowC 16 f).toArray) :
  (results fn tmps).run Tryz.prog w = .ok (.agg C) w := by
 obtain ⟨f, rfl⟩ := hC
 exact results_cell_row h tmps w g 82 _ (0, 0) _ hp hB Tryz.underlying82 rfl (info16 f)
set_option maxHeartbeats 4000000
theorem dbl_any (a : Nat) (w : World) (ha : a < 256) :
  Calls Tryz.prog 93 #[.int .u8 (a : Nat)] w fun e w' => e = .returned (.int .u8 (dbl a : Nat)) ∧ Below w.heap.size w w' := by
 have h1 : a / 128 < 2 := by omega
 have e1 : IntKind.u8.wrap ((a : Int) * 2) = ((a * 2 % 256 : Nat) : Int) := by simp [IntKind.wrap, IntKind.bits, IntKind.signed]
 have e2 : IntKind.u8.wrap (27 * ((a : Int) / 128)) = ((27 * (a / 128) : Nat) : Int) := by simp [IntKind.wrap, IntKind.bits, IntKind.signed]; omega
 have e2' : (27 : Int) * ((a : Int) / 128) = ((27 * (a / 128) : Nat) : Int) := by omega
 have e3 : bits .xor .u8 ((a * 2 % 256 : Nat) : Int) ((27 * (a / 128) : Nat) : Int) = ((dbl a : Nat) : Int) := u8_xor_nat _ _ (Nat.mod_lt _ (by decide)) (by omega)
 have e4 : ((a * 2 % 256 : Nat) : Int) = (a : Int) * 2 % 256 := by omega
 rw [e4] at e1 e3
 rw [← e2'] at e2 e3
 clear e2' e4
 generalize dbl a = d at *
 go_enter Tryz.func93, Tryz.ntmps93
 go_wp2_with fail
 go_ret
 exact ⟨rfl, Below.refl _ _⟩
def keyC (W : Nat → Nat) (bx : Nat) : List Value := ((List.range 60).map fun i => Value.int .u32 (W i : Nat)) ++ [.pointer (some ⟨bx, 0, none⟩)]
def KeyB (w : World) (kb : Nat) (W : Nat → Nat) (bx : Nat) : Prop := Blk w kb (keyC W bx).toArray 155
theorem KeyB.word {w : World} {kb bx : Nat} {W : Nat → Nat} (h : KeyB w kb W bx) {i : Nat} (hi : i < 60) : w.cell? ⟨kb, i, none⟩ = some (.int .u32 (W i : Nat)) := by
 rw [Blk.cell h, List.getElem?_toArray]; unfold keyC
 rw [List.getElem?_append_left (by simpa using hi), List.getElem?_map, List.getElem?_range hi]; rfl
theorem KeyB.box {w : World} {kb bx : Nat} {W : Nat → Nat} (h : KeyB w kb W bx) : w.cell? ⟨kb, 60, none⟩ = some (.pointer (some ⟨bx, 0, none⟩)) := by
 rw [Blk.cell h, List.getElem?_toArray]; unfold keyC
 rw [List.getElem?_append_right (by simp)]; simp
theorem KeyB.set {w : World} {kb bx : Nat} {W : Nat → Nat} (h : KeyB w kb W bx) {i x : Nat} (hi : i < 60) : KeyB (w.setCell ⟨kb, i, none⟩ (.int .u32 (x : Nat))) kb (upd W i x) bx := by
 have := Blk.set h i (.int .u32 (x : Nat))
 rw [List.setIfInBounds_toArray] at this
 have e : (keyC W bx).set i (.int .u32 (x : Nat)) = keyC (upd W i x) bx := by
  unfold keyC
  rw [List.set_append_left _ _ (by simpa using hi)]
  congr 1
  refine List.ext_getElem? fun k => ?_
  rw [List.getElem?_set, List.getElem?_map, List.getElem?_map]
  by_cases hk : i = k
  ·subst hk; simp [hi, upd]
  ·rw [if_neg hk]
   by_cases hk2 : k < 60
   ·rw [List.getElem?_range hk2]; simp [upd, Ne.symm hk]
   ·rw [List.getElem?_eq_none (by simpa using hk2)]; rfl
 rw [e] at this; exact this
def AK (w0 : World) (W : Nat → Nat) (r : Nat) (f : Nat → Nat) (c : Nat) (wr : World) : Prop := B16 wr w0.heap.size (fun i => if i / 4 < c then addK W r f i else f i) ∧ B16 wr (w0.heap.size + 1) (fun _ => 0) ∧ Below w0.heap.size w0 wr
theorem added_any (kb bx : Nat) (W : Nat → Nat) (r : Nat) (f : Nat → Nat) (w : World) (hK : KeyB w kb W bx) (hr : r ≤ 14) (hf : ∀ i, i < 16 → f i < 256) :
  Calls Tryz.prog 78 #[.pointer (some ⟨kb, 0, none⟩), .agg (rowC 16 f).toArray, .int .i64 (r : Int)] w fun e w' => e = .returned (.agg (rowC 16 (addK W r f)).toArray) ∧ Below w.heap.size w w' := by
 have hz := zero16_run
 have HF := zh hf
 obtain ⟨C, hC⟩ := zX ((rowC 16 f).toArray)
 have HT : Hid (AK w W r f 0 ((w.alloc (.cells C 82)).alloc (.cells zero16 82))) := zh (by
  rw [← hC]
  refine ⟨?_, ?_, (zA).alloc (by simp) _⟩
  ·exact B16.congr ((Blk.new w _ 82).alloc _) fun i _ => (if_neg (Nat.not_lt_zero _)).symm
  ·have := Blk.new (w.alloc (.cells (rowC 16 f).toArray 82)) zero16 82
   show Blk _ _ zero16 _; simpa using this)
 have HK := zh hK
 have r0 : (0 : Int) ≤ (r : Int) := by omega
 have r1 : (r : Int) ≤ 14 := by omega
 rw [hC]
 clear hf hC hK
 go_enter Tryz.func78, Tryz.ntmps78
 go_wp2_with fail
 clear hz
 go_loopw [9] (fun i wr => ∃ c : Nat, c ≤ 4 ∧ i = .int .i64 (c : Int) ∧ AK w W r f c wr) (fun i _ => 4 - (intOf i).toNat)
 case atStart => exact ⟨0, Nat.zero_le _, rfl, HT.out⟩
 case round =>
  clear HT
  obtain ⟨c, hc, rfl, hX, hY, hO⟩ := hrel
  by_cases hlt : c < 4
  ·have hkb : kb < w.heap.size := Blk.lt HK.out
   have cw : wr.cell? ⟨kb, 4 * r + c, none⟩ = some (.int .u32 (W (4 * r + c) : Nat)) := cell_below hO (HK.out.word (by omega))
   have cf : ∀ k, k < 4 → wr.cell? ⟨w.heap.size, 4 * c + k, none⟩ = some (.int .u8 (f (4 * c + k) : Nat)) := fun k hk => by
    have := hX.cell (show 4 * c + k < 16 by omega); rw [if_neg (by omega)] at this; exact this
   have cz : ∀ k, wr.frozen? ⟨w.heap.size, 4 * c + k, none⟩ = false := fun k => Blk.free hX _
   have hv : ∀ k d, k < 4 → 256 ^ (3 - k) = d → (W (4 * r + c) : Int) / (d : Nat) % 256 = ((numB (W (4 * r + c)) 4 k : Nat) : Int) := fun k d hk hd => num4 _ k d hk hd
   have hxr : ∀ k, k < 4 → bits .xor .u8 (f (4 * c + k) : Int) (numB (W (4 * r + c)) 4 k : Nat) = ((f (4 * c + k) ^^^ numB (W (4 * r + c)) 4 k : Nat) : Int) := fun k hk => u8_xor_nat _ _ (HF.out _ (by omega)) (numB_lt _ _ _)
   have hak : ∀ k, k < 4 → f (4 * c + k) ^^^ numB (W (4 * r + c)) 4 k = addK W r f (4 * c + k) := fun k hk => by
    unfold addK; rw [show (4 * c + k) / 4 = c by omega, show (4 * c + k) % 4 = k by omega]
   have HN := zh (show AK w W r f (c + 1) ((((wr.setCell ⟨w.heap.size, 4 * c, none⟩ (.int .u8 (addK W r f (4 * c + 0) : Nat))).setCell ⟨w.heap.size, 4 * c + 1, none⟩ (.int .u8 (addK W r f (4 * c + 1) : Nat))).setCell ⟨w.heap.size, 4 * c + 2, none⟩ (.int .u8 (addK W r f (4 * c + 2) : Nat))).setCell ⟨w.heap.size, 4 * c + 3, none⟩ (.int .u8 (addK W r f (4 * c + 3) : Nat))) by
    refine ⟨?_, Blk.set_other (Blk.set_other (Blk.set_other (Blk.set_other hY (by simp) _) (by simp) _) (by simp) _) (by simp) _, (((hO.setCell (by simp) _).setCell (by simp) _).setCell (by simp) _).setCell (by simp) _⟩
    refine ((((hX.set (4 * c) _).set (4 * c + 1) _).set (4 * c + 2) _).set (4 * c + 3) _).congr fun i hi => ?_
    unfold upd
    by_cases e3 : i = 4 * c + 3
    ·subst e3; rw [if_pos rfl, if_pos (by omega)]
    ·rw [if_neg e3]
     by_cases e2 : i = 4 * c + 2
     ·subst e2; rw [if_pos rfl, if_pos (by omega)]
     ·rw [if_neg e2]
      by_cases e1 : i = 4 * c + 1
      ·subst e1; rw [if_pos rfl, if_pos (by omega)]
      ·rw [if_neg e1]
       by_cases e0 : i = 4 * c
       ·subst e0; rw [if_pos rfl, if_pos (by omega)]; rfl
       ·rw [if_neg e0]
        show (if i / 4 < c then addK W r f i else f i) = if i / 4 < c + 1 then addK W r f i else f i
        by_cases h5 : i / 4 < c
        ·rw [if_pos h5, if_pos (by omega)]
        ·rw [if_neg h5, if_neg (by omega)])
   have c0 := cf 0 (by omega)
   have c1 := cf 1 (by omega)
   have c2 := cf 2 (by omega)
   have c3 := cf 3 (by omega)
   have z0 := cz 0
   have z1 := cz 1
   have z2 := cz 2
   have z3 := cz 3
   have v0 := hv 0 16777216 (by decide) (by decide)
   have v1 := hv 1 65536 (by decide) (by decide)
   have v2 := hv 2 256 (by decide) (by decide)
   have v3 := hv 3 1 (by decide) (by decide)
   have x0 := hxr 0 (by decide)
   have x1 := hxr 1 (by decide)
   have x2 := hxr 2 (by decide)
   have x3 := hxr 3 (by decide)
   rw [hak 0 (by decide)] at x0
   rw [hak 1 (by decide)] at x1
   rw [hak 2 (by decide)] at x2
   rw [hak 3 (by decide)] at x3
   clear cf cz hv hxr hak hX hY hO
   have i0 : (0 : Int) ≤ (c : Int) := by omega
   have i1 : (c : Int) < 4 := by omega
   simp only [Nat.add_zero] at c0 z0 x0 HN
   rw [show (((1 : Nat) : Int)) = 1 from rfl, Int.ediv_one] at v3
   rw [show (((16777216 : Nat) : Int)) = 16777216 from rfl] at v0
   rw [show (((65536 : Nat) : Int)) = 65536 from rfl] at v1
   rw [show (((256 : Nat) : Int)) = 256 from rfl] at v2
   generalize addK W r f (4 * c) = a0 at *
   generalize addK W r f (4 * c + 1) = a1 at *
   generalize addK W r f (4 * c + 2) = a2 at *
   generalize addK W r f (4 * c + 3) = a3 at *
   generalize f (4 * c) = f0 at *
   generalize f (4 * c + 1) = f1 at *
   generalize f (4 * c + 2) = f2 at *
   generalize f (4 * c + 3) = f3 at *
   generalize numB (W (4 * r + c)) 4 0 = b0 at *
   generalize numB (W (4 * r + c)) 4 1 = b1 at *
   generalize numB (W (4 * r + c)) 4 2 = b2 at *
   generalize numB (W (4 * r + c)) 4 3 = b3 at *
   generalize ((W (4 * r + c) : Nat) : Int) = V at *
   go_wp2_with fail
   go_roundw
   case rel => exact ⟨c + 1, by omega, by go_num, HN.out⟩
   case measure => simp [intOf]; omega
  ·obtain rfl : c = 4 := by omega
   obtain ⟨E, hE⟩ := zX ((rowC 16 (addK W r f)).toArray)
   have HCE : Hid (∃ f, E = (rowC 16 f).toArray) := zh ⟨_, hE.symm⟩
   have HC0 : Hid (∃ f, zero16 = (rowC 16 f).toArray) := zh ⟨_, rfl⟩
   have HX5 : Hid (Blk wr w.heap.size E 82) := zh (hE ▸ (hX.congr fun i hi => if_pos (by omega)))
   have HR5 : Hid (Blk wr (w.heap.size + 1) zero16 82) := zh hY
   have HN : Hid (Blk (wr.setCells (w.heap.size + 1) 0 E.toList) (w.heap.size + 1) E 82) := zh (Blk.store16 HR5.out HCE.out HC0.out)
   have HO5 : Hid (Below w.heap.size w (wr.setCells (w.heap.size + 1) 0 E.toList)) := zh (Below.set16 (g := w.heap.size + 1) hO (by omega) hO.size _)
   have HE := zh hE
   clear hX hY hO hE hlt hc
   go_wp2_with (first
    | (refine wpList_load16 rfl (.tmp 4) rfl w.heap.size rfl E HX5.out HCE.out ?_)
    | (refine wpList_store16 rfl (.tmp 6) (.tmp 60) rfl (w.heap.size + 1) rfl E zero16 rfl HR5.out HCE.out HC0.out ?_))
   refine bodyPost_ret (v := .agg E) ?_ rfl ⟨by rw [HE.out], HO5.out⟩
   exact res16 Tryz.results78 _ _ (w.heap.size + 1) E rfl HN.out HCE.out
def MV (w0 : World) (bx : Nat) (f : Nat → Nat) (n : Nat) (wr : World) : Prop := B16 wr w0.heap.size f ∧ B16 wr (w0.heap.size + 1) (fun _ => 0) ∧ B16 wr (w0.heap.size + 1 + 1) (fun j => if j < n then mvA subN f j else 0) ∧ BoxIn wr bx ∧ Own bx w0 wr
theorem mvA_at (f : Nat → Nat) (c i : Nat) (hi : i < 4) : mvA subN f (4 * c + i) = subN (f (4 * ((c + i) % 4) + i)) := by
 unfold mvA; rw [show (4 * c + i) / 4 = c by omega, show (4 * c + i) % 4 = i by omega]
theorem mxA_at (f : Nat → Nat) (c i : Nat) (hi : i < 4) : mxA f (4 * c + i) = dbl (f (4 * c + i)) ^^^ dbl (f (4 * c + (i + 1) % 4)) ^^^ f (4 * c + (i + 1) % 4) ^^^ (f (4 * c + (i + 2) % 4) ^^^ f (4 * c + (i + 3) % 4)) := by
 unfold mxA; rw [show (4 * c + i) / 4 = c by omega, show (4 * c + i) % 4 = i by omega]
theorem cell_set_ne {w : World} {a b : Addr} (h : b.block ≠ a.block) (v : Value) : (w.setCell a v).cell? b = w.cell? b := by
 simp only [World.cell?, Below.heap_setCell _ _ _ _ h]
def MS (kb bx g k p : Nat) (w' : World) : Prop := w'.cell? ⟨kb, 60, none⟩ = some (.pointer (some ⟨bx, 0, none⟩)) ∧ w'.cell? ⟨g, k, none⟩ = some (.int .u8 (p : Nat))
theorem MS.own {kb bx g k p : Nat} {w w' : World} (h : MS kb bx g k p w) (hO : Own bx w w') (h1 : kb ≠ bx) (h2 : g ≠ bx) : MS kb bx g k p w' := ⟨hO.cell h.1 h1, hO.cell h.2 h2⟩
theorem MS.set {kb bx g k p : Nat} {w : World} (h : MS kb bx g k p w) {a : Addr} (h1 : kb ≠ a.block) (h2 : g ≠ a.block) (v : Value) : MS kb bx g k p (w.setCell a v) := ⟨(cell_set_ne h1 v).trans h.1, (cell_set_ne h2 v).trans h.2⟩
theorem moved_any (kb bx : Nat) (W f : Nat → Nat) (w : World) (hK : KeyB w kb W bx) (hB : BoxIn w bx) (hne : kb ≠ bx) (hf : ∀ i, i < 16 → f i < 256) :
  Calls Tryz.prog 79 #[.pointer (some ⟨kb, 0, none⟩), .agg (rowC 16 f).toArray] w fun e w' => e = .returned (.agg (rowC 16 (mvA subN f)).toArray) ∧ BoxIn w' bx ∧ Own bx w w' := by
 have hz := zero16_run
 have HF := zh hf
 obtain ⟨C, hC⟩ := zX ((rowC 16 f).toArray)
 have hbx := hB.lt
 have HT : Hid (MV w bx f 0 (((w.alloc (.cells C 82)).alloc (.cells zero16 82)).alloc (.cells zero16 82))) := zh (by
  rw [← hC]
  refine ⟨((Blk.new w _ 82).alloc _).alloc _, ?_, ?_, ?_, (((Own.refl bx w).alloc _).alloc _).alloc _⟩
  ·have := (Blk.new (w.alloc (.cells (rowC 16 f).toArray 82)) zero16 82).alloc (.cells zero16 82)
   show Blk _ _ zero16 _; simpa using this
  ·have := Blk.new ((w.alloc (.cells (rowC 16 f).toArray 82)).alloc (.cells zero16 82)) zero16 82
   refine B16.congr (f := fun _ => 0) ?_ fun i _ => (if_neg (Nat.not_lt_zero _)).symm
   show Blk _ _ zero16 _; simpa using this
  ·exact hB.below (((zA).alloc (by simp) _).alloc (by simp; omega) _))
 have HK := zh hK
 have HNE := zh hne
 have HBX := zh hbx
 rw [hC]
 clear hf hC hK hB hne hbx
 go_enter Tryz.func79, Tryz.ntmps79
 go_wp2_with fail
 clear hz
 go_loopw [8] (fun v wr => ∃ c : Nat, c ≤ 4 ∧ v = .int .i64 (c : Int) ∧ MV w bx f (4 * c) wr) (fun v _ => 4 - (intOf v).toNat)
 case atStart => exact ⟨0, Nat.zero_le _, rfl, HT.out⟩
 case round =>
  clear HT
  obtain ⟨c, hc, rfl, hM⟩ := hrel
  by_cases hlt : c < 4
  ·have c0 : (0 : Int) ≤ (c : Int) := by omega
   have c1 : (c : Int) < 4 := by omega
   have HM := zh hM
   clear hM
   go_wp2_with fail
   go_loopw [11] (fun v wi => ∃ i : Nat, i ≤ 4 ∧ v = .int .i64 (i : Int) ∧ MV w bx f (4 * c + i) wi) (fun v _ => 4 - (intOf v).toNat)
   case atStart => exact ⟨0, Nat.zero_le _, rfl, HM.out⟩
   case round =>
    clear HM
    obtain ⟨i, hi, rfl, hX, hR, hY, hBx, hO⟩ := hrel
    by_cases hli : i < 4
    ·have i0 : (0 : Int) ≤ (i : Int) := by omega
     have i1 : (i : Int) < 4 := by omega
     have hkb := Blk.lt HK.out
     have hbx := HBX.out
     have hne := HNE.out
     obtain ⟨p, hp⟩ := zX (f (4 * ((c + i) % 4) + i))
     obtain ⟨r, hr⟩ := zX ((c + i) % 4)
     obtain ⟨k, hk⟩ := zX (4 * r + i)
     obtain ⟨n, hn⟩ := zX (4 * c + i)
     have m1 : IntKind.i64.wrap (4 * (c : Int)) = 4 * (c : Int) := IntWalk.i64_in _ (by omega)
     have m2 : IntKind.i64.wrap (4 * (c : Int) + (i : Int)) = (n : Int) := by rw [IntWalk.i64_in _ (by omega)]; omega
     have m3 : IntKind.i64.wrap ((c : Int) + (i : Int)) = (c : Int) + (i : Int) := IntWalk.i64_in _ (by omega)
     have m4 : ((c : Int) + (i : Int)).tmod 4 = (r : Int) := by rw [Int.tmod_eq_emod_of_nonneg (by omega)]; omega
     have m5 : IntKind.i64.wrap (4 * (r : Int)) = 4 * (r : Int) := IntWalk.i64_in _ (by omega)
     have m6 : IntKind.i64.wrap (4 * (r : Int) + (i : Int)) = (k : Int) := by rw [IntWalk.i64_in _ (by omega)]; omega
     have n0 : (0 : Int) ≤ (n : Int) := by omega
     have n1 : (n : Int) < 16 := by omega
     have k0 : (0 : Int) ≤ (k : Int) := by omega
     have k1 : (k : Int) < 16 := by omega
     have hp8 : p < 256 := by rw [← hp]; exact HF.out _ (by omega)
     have HCB : Hid (wr.cell? ⟨kb, 60, none⟩ = some (.pointer (some ⟨bx, 0, none⟩))) := zh (KeyB.box (show KeyB wr kb W bx from hO.blk HK.out hne))
     have HCX : Hid (wr.cell? ⟨w.heap.size, k, none⟩ = some (.int .u8 (p : Nat))) := zh (by rw [← hp, hr, hk]; exact hX.cell (by omega))
     have HX := zh hX
     have HR := zh hR
     have HY := zh hY
     have HBI := zh hBx
     have HOO := zh hO
     have HP := zh hp
     have HNN : Hid (4 * c + i = n ∧ n < 16) := zh ⟨hn, by omega⟩
     have HP8 := zh hp8
     have HNX : Hid (w.heap.size ≠ bx ∧ w.heap.size + 1 ≠ bx ∧ w.heap.size + 1 + 1 ≠ bx ∧ kb ≠ bx ∧ kb ≠ w.heap.size + 1 + 1) := zh ⟨by omega, by omega, by omega, hne, by omega⟩
     clear hX hR hY hBx hO hp hp8 hkb hbx hne hr hk hn
     go_wp2_with fail
     have hQ_0 : Own bx wr wr.drew := (Own.refl bx wr).drew
     have hI_0 : BoxIn wr.drew bx := HBI.out
     have hM_0 : MS kb bx w.heap.size k p wr.drew := ⟨HCB.out, HCX.out⟩
     refine wp_region_held_drew (S := (MS kb bx w.heap.size k p)) (by kernel_rfl) ?_ (fun hHeld => ?_)
     ·(try dsimp only)
      first | assumption
     generalize wr.drew = W0 at *
     refine wT 0 ?_ rfl ?_ ?_
     rotate_left
     ·intro wS hSw
      (try dsimp only at hSw)
      go_simp
      (try with_reducible rfl)
     (try simp only [Act.put, zS])
     refine wT 1 ?_ rfl ?_ ?_
     rotate_left
     ·intro wS hSw
      (try dsimp only at hSw)
      go_simp
      (try with_reducible rfl)
     (try simp only [Act.put, zS])
     refine wT 2 ?_ rfl ?_ ?_
     rotate_left
     ·intro wS hSw
      (try dsimp only at hSw)
      go_simp
      (try with_reducible rfl)
     (try simp only [Act.put, zS])
     refine wT 3 ?_ rfl ?_ ?_
     rotate_left
     ·intro wS hSw
      (try dsimp only at hSw)
      go_simp
      (try with_reducible rfl)
     (try simp only [Act.put, zS])
     refine wT 4 ?_ rfl ?_ ?_
     rotate_left
     ·intro wS hSw
      (try dsimp only at hSw)
      go_simp
      (try with_reducible rfl)
     (try simp only [Act.put, zS])
     refine wT 5 ?_ rfl ?_ ?_
     rotate_left
     ·intro wS hSw
      (try dsimp only at hSw)
      go_simp
      (try with_reducible rfl)
     (try simp only [Act.put, zS])
     refine wT 6 ?_ rfl ?_ ?_
     rotate_left
     ·intro wS hSw
      (try dsimp only at hSw)
      go_simp
      (try with_reducible rfl)
     (try simp only [Act.put, zS])
     refine wT 7 ?_ rfl ?_ ?_
     rotate_left
     ·intro wS hSw
      (have c9 := hSw.1; go_simp; (try with_reducible rfl))
     (try simp only [Act.put, zS])
     refine wT 8 ?_ rfl ?_ ?_
     rotate_left
     ·intro wS hSw
      (try dsimp only at hSw)
      go_simp
      (try with_reducible rfl)
     (try simp only [Act.put, zS])
     refine wT 9 ?_ rfl ?_ ?_
     rotate_left
     ·intro wS hSw
      (try dsimp only at hSw)
      go_simp
      (try with_reducible rfl)
     (try simp only [Act.put, zS])
     refine wT 10 ?_ rfl ?_ ?_
     rotate_left
     ·intro wS hSw
      (try dsimp only at hSw)
      go_simp
      (try with_reducible rfl)
     (try simp only [Act.put, zS])
     refine wT 11 ?_ rfl ?_ ?_
     rotate_left
     ·intro wS hSw
      (try dsimp only at hSw)
      go_simp
      (try with_reducible rfl)
     (try simp only [Act.put, zS])
     refine wT 12 ?_ rfl ?_ ?_
     rotate_left
     ·intro wS hSw
      (try dsimp only at hSw)
      go_simp
      (try with_reducible rfl)
     (try simp only [Act.put, zS])
     refine wT 13 ?_ rfl ?_ ?_
     rotate_left
     ·intro wS hSw
      (try dsimp only at hSw)
      go_simp
      (try with_reducible rfl)
     (try simp only [Act.put, zS])
     refine wT 14 ?_ rfl ?_ ?_
     rotate_left
     ·intro wS hSw
      (try dsimp only at hSw)
      go_simp
      (try with_reducible rfl)
     (try simp only [Act.put, zS])
     refine wT 15 ?_ rfl ?_ ?_
     rotate_left
     ·intro wS hSw
      (try dsimp only at hSw)
      go_simp
      (try with_reducible rfl)
     (try simp only [Act.put, zS])
     refine wT 16 ?_ rfl ?_ ?_
     rotate_left
     ·intro wS hSw
      (have c9 := hSw.2; go_simp; (try with_reducible rfl))
     (try simp only [Act.put, zS])
     refine wR [17] ?_
     refine aN rfl fun K hK => ?_
     go_simp
     (refine (sub_any bx p _ hI_0 HP8.out).mono ?_; rintro e v_1 ⟨rfl, hb_1⟩; have hQ_1 := Own.trans hQ_0 hb_1.2; have hI_1 := hb_1.1; have hM_1 := MS.own hM_0 hb_1.2 HNX.out.2.2.2.1 HNX.out.1; clear hb_1 hQ_0 hI_0 hM_0; skip)
     (try go_wp2_with fail)
     refine hK.out _ _ ?_ fun hHeld => ?_
     ·(try dsimp only)
      first | assumption
     clear hK K
     (try simp only [Act.put, zS])
     refine wT 18 ?_ rfl ?_ ?_
     rotate_left
     ·intro wS hSw
      (try dsimp only at hSw)
      go_simp
      (try with_reducible rfl)
     (try simp only [Act.put, zS])
     refine wR [19] ?_
     refine aN rfl fun K hK => ?_
     (have hY9 := Own.blk hQ_1 HY.out HNX.out.2.2.1; rw [HNN.out.1] at hY9; have c8 : v_1.cell? ⟨w.heap.size + 1 + 1, n, none⟩ = some (.int .u8 0) := (by have h8 := B16.cell hY9 HNN.out.2; rw [if_neg (Nat.lt_irrefl _)] at h8; exact h8); have z8 : v_1.frozen? ⟨w.heap.size + 1 + 1, n, none⟩ = false := Blk.free hY9 _; have HY9 := zh hY9; clear hY9; go_simp; clear c8 z8; obtain ⟨v_2, hw_2⟩ := zX (v_1.setCell ⟨w.heap.size + 1 + 1, n, none⟩ (.int .u8 (subN p : Nat))); rw [hw_2]; have hM_2 := MS.set hM_1 (a := ⟨w.heap.size + 1 + 1, n, none⟩) HNX.out.2.2.2.2 (by simp; omega) (.int .u8 (subN p : Nat)); rw [hw_2] at hM_2; have HN : Hid (MV w bx f (4 * c + (i + 1)) v_2) := zh (by
       have hn := HNX.out
       have hO8 := HOO.out.trans hQ_1
       rw [← hw_2]
       refine ⟨Blk.set_other (Own.blk hQ_1 HX.out hn.1) (by simp; omega) _, Blk.set_other (Own.blk hQ_1 HR.out hn.2.1) (by simp) _, (B16.set HY9.out n (subN p)).congr fun j hj => ?_, BoxIn.own hI_1 ((Own.refl _ _).set _ _) (fun e => hn.2.2.1 e.symm), hO8.two ((Own.refl _ _).set _ _) (by omega)⟩
       unfold upd
       have hnn := HNN.out
       by_cases e : j = n
       ·rw [if_pos e, e, if_pos (by omega), ← hnn.1, mvA_at f c i (by omega), HP.out]
       ·rw [if_neg e]
        show (if j < n then mvA subN f j else 0) = if j < 4 * c + (i + 1) then mvA subN f j else 0
        by_cases h5 : j < n
        ·rw [if_pos h5, if_pos (by omega)]
        ·rw [if_neg h5, if_neg (by omega)]); clear hQ_1 hI_1 hM_1 hw_2; skip)
     refine hK.out _ _ ?_ fun hHeld => ?_
     ·(try dsimp only)
      first | assumption
     clear hK K
     (try simp only [Act.put, zS])
     refine wpAnyH_done (by kernel_rfl) ?_ _
     clear hM_2
     go_wp2_with fail
     go_roundw
     case rel => exact ⟨i + 1, by omega, by go_num, HN.out⟩
     case measure => simp [intOf]; omega
    ·obtain rfl : i = 4 := by omega
     have HM : Hid (MV w bx f (4 * (c + 1)) wr) := zh (by rw [show 4 * (c + 1) = 4 * c + 4 by omega]; exact ⟨hX, hR, hY, hBx, hO⟩)
     clear hX hR hY hBx hO
     go_wp2_with fail
     go_roundw
     case rel => exact ⟨c + 1, by omega, by go_num, HM.out⟩
     case measure => simp [intOf]; omega
  ·obtain rfl : c = 4 := by omega
   obtain ⟨hX, hR, hY, hBx, hO⟩ := hM
   have hbx := HBX.out
   obtain ⟨E, hE⟩ := zX ((rowC 16 (mvA subN f)).toArray)
   have HCE : Hid (∃ f, E = (rowC 16 f).toArray) := zh ⟨_, hE.symm⟩
   have HC0 : Hid (∃ f, zero16 = (rowC 16 f).toArray) := zh ⟨_, rfl⟩
   have HX5 : Hid (Blk wr (w.heap.size + 1 + 1) E 82) := zh (hE ▸ (hY.congr fun i hi => if_pos (by omega)))
   have HR5 : Hid (Blk wr (w.heap.size + 1) zero16 82) := zh hR
   have HN : Hid (Blk (wr.setCells (w.heap.size + 1) 0 E.toList) (w.heap.size + 1) E 82) := zh (Blk.store16 HR5.out HCE.out HC0.out)
   have HO5 : Hid (BoxIn (wr.setCells (w.heap.size + 1) 0 E.toList) bx ∧ Own bx w (wr.setCells (w.heap.size + 1) 0 E.toList)) := zh ⟨hBx.own (Own.setCells _ _ _) (by omega), hO.two (Own.setCells _ _ _) (by omega)⟩
   have HE := zh hE
   clear hX hR hY hBx hO hE hlt hc hbx
   go_wp2_with (first
    | (refine wpList_load16 rfl (.tmp 5) rfl (w.heap.size + 1 + 1) rfl E HX5.out HCE.out ?_)
    | (refine wpList_store16 rfl (.tmp 4) (.tmp 35) rfl (w.heap.size + 1) rfl E zero16 rfl HR5.out HCE.out HC0.out ?_))
   refine bodyPost_ret (v := .agg E) ?_ rfl ⟨by rw [HE.out], HO5.out⟩
   exact res16 Tryz.results79 _ _ (w.heap.size + 1) E rfl HN.out HCE.out
theorem tm1 {i r : Nat} (h : (i + 1) % 4 = r) : ((i : Int) + 1).tmod 4 = (r : Int) := by rw [Int.tmod_eq_emod_of_nonneg (by omega)]; omega
theorem tm2 {i r : Nat} (h : (i + 2) % 4 = r) : ((i : Int) + 2).tmod 4 = (r : Int) := by rw [Int.tmod_eq_emod_of_nonneg (by omega)]; omega
theorem tm3 {i r : Nat} (h : (i + 3) % 4 = r) : ((i : Int) + 3).tmod 4 = (r : Int) := by rw [Int.tmod_eq_emod_of_nonneg (by omega)]; omega
theorem wr4 {c r k : Nat} (h : 4 * c + r = k) (hk : k < 100) : IntKind.i64.wrap (4 * (c : Int) + (r : Int)) = (k : Int) := by rw [IntWalk.i64_in _ (by omega)]; omega
theorem wr1 {i : Nat} (h : i < 4) : IntKind.i64.wrap ((i : Int) + 1) = (i : Int) + 1 ∧ IntKind.i64.wrap ((i : Int) + 2) = (i : Int) + 2 ∧ IntKind.i64.wrap ((i : Int) + 3) = (i : Int) + 3 ∧ IntKind.i64.wrap (4 * (i : Int)) = 4 * (i : Int) :=
 ⟨IntWalk.i64_in _ (by omega), IntWalk.i64_in _ (by omega), IntWalk.i64_in _ (by omega), IntWalk.i64_in _ (by omega)⟩
theorem lt16 {c r k : Nat} (h : 4 * c + r = k) (hc : c < 4) (hr : r < 4) : k < 16 := by omega
theorem ix {k : Nat} (h : k < 16) : (0 : Int) ≤ (k : Int) ∧ (k : Int) < 16 := by omega
def MX (w0 : World) (f : Nat → Nat) (n : Nat) (wr : World) : Prop := B16 wr w0.heap.size f ∧ B16 wr (w0.heap.size + 1) (fun _ => 0) ∧ B16 wr (w0.heap.size + 1 + 1) (fun j => if j < n then mxA f j else 0) ∧ Below w0.heap.size w0 wr
theorem mixed_anyG (f : Nat → Nat) (w : World) (hf : ∀ i, i < 16 → f i < 256) :
  Calls Tryz.prog 80 #[.agg (rowC 16 f).toArray] w fun e w' => e = .returned (.agg (rowC 16 (mxA f)).toArray) ∧ Below w.heap.size w w' := by
 have hz := zero16_run
 have HF := zh hf
 obtain ⟨C, hC⟩ := zX ((rowC 16 f).toArray)
 have HT : Hid (MX w f 0 (((w.alloc (.cells C 82)).alloc (.cells zero16 82)).alloc (.cells zero16 82))) := zh (by
  rw [← hC]
  refine ⟨((Blk.new w _ 82).alloc _).alloc _, ?_, ?_, ((zA).alloc (by simp) _).alloc (by simp; omega) _⟩
  ·have := (Blk.new (w.alloc (.cells (rowC 16 f).toArray 82)) zero16 82).alloc (.cells zero16 82)
   show Blk _ _ zero16 _; simpa using this
  ·have := Blk.new ((w.alloc (.cells (rowC 16 f).toArray 82)).alloc (.cells zero16 82)) zero16 82
   refine B16.congr (f := fun _ => 0) ?_ fun i _ => (if_neg (Nat.not_lt_zero _)).symm
   show Blk _ _ zero16 _; simpa using this)
 rw [hC]
 clear hf hC
 go_enter Tryz.func80, Tryz.ntmps80
 go_wp2_with fail
 clear hz
 go_loopw [9] (fun v wr => ∃ c : Nat, c ≤ 4 ∧ v = .int .i64 (c : Int) ∧ MX w f (4 * c) wr) (fun v _ => 4 - (intOf v).toNat)
 case atStart => exact ⟨0, Nat.zero_le _, rfl, HT.out⟩
 case round =>
  clear HT
  obtain ⟨c, hc, rfl, hM⟩ := hrel
  by_cases hlt : c < 4
  ·have c0 : (0 : Int) ≤ (c : Int) := by omega
   have c1 : (c : Int) < 4 := by omega
   have HM := zh hM
   clear hM
   go_wp2_with fail
   go_loopw [12] (fun v wi => ∃ i : Nat, i ≤ 4 ∧ v = .int .i64 (i : Int) ∧ MX w f (4 * c + i) wi) (fun v _ => 4 - (intOf v).toNat)
   case atStart => exact ⟨0, Nat.zero_le _, rfl, HM.out⟩
   case round =>
    clear HM
    obtain ⟨i, hi, rfl, hX, hR, hY, hO⟩ := hrel
    by_cases hli : i < 4
    ·have i0 : (0 : Int) ≤ (i : Int) := by omega
     have i1 : (i : Int) < 4 := by omega
     have hat := mxA_at f c i hli
     obtain ⟨n, hn⟩ := zX (4 * c + i)
     obtain ⟨r1, hr1⟩ := zX ((i + 1) % 4)
     obtain ⟨r2, hr2⟩ := zX ((i + 2) % 4)
     obtain ⟨r3, hr3⟩ := zX ((i + 3) % 4)
     obtain ⟨k1, hk1⟩ := zX (4 * c + r1)
     obtain ⟨k2, hk2⟩ := zX (4 * c + r2)
     obtain ⟨k3, hk3⟩ := zX (4 * c + r3)
     rw [hn, hr1, hr2, hr3, hk1, hk2, hk3] at hat
     have HAT := zh hat
     clear hat
     obtain ⟨_, _, _, m1⟩ := wr1 hlt
     obtain ⟨p1, p2, p3, _⟩ := wr1 hli
     have q1 := tm1 hr1
     have q2 := tm2 hr2
     have q3 := tm3 hr3
     have hr14 : r1 < 4 := hr1 ▸ Nat.mod_lt _ (by decide)
     have hr24 : r2 < 4 := hr2 ▸ Nat.mod_lt _ (by decide)
     have hr34 : r3 < 4 := hr3 ▸ Nat.mod_lt _ (by decide)
     clear hr1 hr2 hr3
     have hn16 := lt16 hn hlt hli
     have hk116 := lt16 hk1 hlt hr14
     have hk216 := lt16 hk2 hlt hr24
     have hk316 := lt16 hk3 hlt hr34
     have m2 := wr4 hn (Nat.lt_of_lt_of_le hn16 (by decide))
     have s1 := wr4 hk1 (Nat.lt_of_lt_of_le hk116 (by decide))
     have s2 := wr4 hk2 (Nat.lt_of_lt_of_le hk216 (by decide))
     have s3 := wr4 hk3 (Nat.lt_of_lt_of_le hk316 (by decide))
     obtain ⟨n0, n1⟩ := ix hn16
     obtain ⟨k10, k11⟩ := ix hk116
     obtain ⟨k20, k21⟩ := ix hk216
     obtain ⟨k30, k31⟩ := ix hk316
     have b0 := HF.out n hn16
     have b1 := HF.out k1 hk116
     have b2 := HF.out k2 hk216
     have b3 := HF.out k3 hk316
     have HC0 : Hid (wr.cell? ⟨w.heap.size, n, none⟩ = some (.int .u8 (f n : Nat))) := zh (hX.cell hn16)
     have HC1 : Hid (wr.cell? ⟨w.heap.size, k1, none⟩ = some (.int .u8 (f k1 : Nat))) := zh (hX.cell hk116)
     have HC2 : Hid (wr.cell? ⟨w.heap.size, k2, none⟩ = some (.int .u8 (f k2 : Nat))) := zh (hX.cell hk216)
     have HC3 : Hid (wr.cell? ⟨w.heap.size, k3, none⟩ = some (.int .u8 (f k3 : Nat))) := zh (hX.cell hk316)
     have hat := HAT.out
     clear HAT
     obtain ⟨M, hMx⟩ := zX (mxA f n)
     rw [hMx] at hat
     have HMx := zh hMx
     clear hMx
     generalize f n = x0 at *
     generalize f k1 = x1 at *
     generalize f k2 = x2 at *
     generalize f k3 = x3 at *
     have e1 : bits .xor .u8 (x2 : Int) (x3 : Int) = ((x2 ^^^ x3 : Nat) : Int) := u8_xor_nat _ _ b2 b3
     have e2 : bits .xor .u8 (dbl x0 : Nat) (dbl x1 : Nat) = ((dbl x0 ^^^ dbl x1 : Nat) : Int) := u8_xor_nat _ _ (dbl_lt b0) (dbl_lt b1)
     have e3 : bits .xor .u8 ((dbl x0 ^^^ dbl x1 : Nat) : Int) (x1 : Int) = ((dbl x0 ^^^ dbl x1 ^^^ x1 : Nat) : Int) := u8_xor_nat _ _ (xlt (dbl_lt b0) (dbl_lt b1)) b1
     have e4 : bits .xor .u8 ((dbl x0 ^^^ dbl x1 ^^^ x1 : Nat) : Int) ((x2 ^^^ x3 : Nat) : Int) = (M : Int) := by rw [hat]; exact u8_xor_nat _ _ (xlt (xlt (dbl_lt b0) (dbl_lt b1)) b1) (xlt b2 b3)
     generalize x2 ^^^ x3 = o at *
     generalize dbl x0 ^^^ dbl x1 ^^^ x1 = z2 at *
     generalize dbl x0 ^^^ dbl x1 = z1 at *
     have HB0 := zh b0
     have HB1 := zh b1
     have HX := zh hX
     have HR := zh hR
     have HY := zh hY
     have HO := zh hO
     have HNN : Hid (4 * c + i = n ∧ n < 16) := zh ⟨hn, hn16⟩
     clear hX hR hY hO hn hk1 hk2 hk3 hat b0 b1 b2 b3 hr14 hr24 hr34 hn16 hk116 hk216 hk316
     go_wp2_with fail
     have hP_0 : Below wr.heap.size wr wr.drew := (Below.refl _ wr).drew
     refine wp_region_held_drew (S := (Below wr.heap.size wr)) (by kernel_rfl) ?_ (fun hHeld => ?_)
     ·(try dsimp only)
      first | assumption
     generalize wr.drew = w5 at *
     refine wT 0 ?_ rfl ?_ ?_
     rotate_left
     ·intro wS hSw
      (try dsimp only at hSw)
      go_simp
      (try with_reducible rfl)
     (try simp only [Act.put, zS])
     refine wT 1 ?_ rfl ?_ ?_
     rotate_left
     ·intro wS hSw
      (try dsimp only at hSw)
      go_simp
      (try with_reducible rfl)
     (try simp only [Act.put, zS])
     refine wT 2 ?_ rfl ?_ ?_
     rotate_left
     ·intro wS hSw
      (try dsimp only at hSw)
      go_simp
      (try with_reducible rfl)
     (try simp only [Act.put, zS])
     refine wT 3 ?_ rfl ?_ ?_
     rotate_left
     ·intro wS hSw
      (try dsimp only at hSw)
      go_simp
      (try with_reducible rfl)
     (try simp only [Act.put, zS])
     refine wT 4 ?_ rfl ?_ ?_
     rotate_left
     ·intro wS hSw
      (try dsimp only at hSw)
      go_simp
      (try with_reducible rfl)
     (try simp only [Act.put, zS])
     refine wT 5 ?_ rfl ?_ ?_
     rotate_left
     ·intro wS hSw
      (have c9 := cell_below hSw HC0.out; go_simp; (try with_reducible rfl))
     (try simp only [Act.put, zS])
     refine wT 6 ?_ rfl ?_ ?_
     rotate_left
     ·intro wS hSw
      (try dsimp only at hSw)
      go_simp
      (try with_reducible rfl)
     (try simp only [Act.put, zS])
     refine wT 7 ?_ rfl ?_ ?_
     rotate_left
     ·intro wS hSw
      (try dsimp only at hSw)
      go_simp
      (try with_reducible rfl)
     (try simp only [Act.put, zS])
     refine wT 8 ?_ rfl ?_ ?_
     rotate_left
     ·intro wS hSw
      (try dsimp only at hSw)
      go_simp
      (try with_reducible rfl)
     (try simp only [Act.put, zS])
     refine wT 9 ?_ rfl ?_ ?_
     rotate_left
     ·intro wS hSw
      (try dsimp only at hSw)
      go_simp
      (try with_reducible rfl)
     (try simp only [Act.put, zS])
     refine wT 10 ?_ rfl ?_ ?_
     rotate_left
     ·intro wS hSw
      (try dsimp only at hSw)
      go_simp
      (try with_reducible rfl)
     (try simp only [Act.put, zS])
     refine wT 11 ?_ rfl ?_ ?_
     rotate_left
     ·intro wS hSw
      (try dsimp only at hSw)
      go_simp
      (try with_reducible rfl)
     (try simp only [Act.put, zS])
     refine wT 12 ?_ rfl ?_ ?_
     rotate_left
     ·intro wS hSw
      (try dsimp only at hSw)
      go_simp
      (try with_reducible rfl)
     (try simp only [Act.put, zS])
     refine wT 13 ?_ rfl ?_ ?_
     rotate_left
     ·intro wS hSw
      (have c9 := cell_below hSw HC1.out; go_simp; (try with_reducible rfl))
     (try simp only [Act.put, zS])
     refine wT 14 ?_ rfl ?_ ?_
     rotate_left
     ·intro wS hSw
      (try dsimp only at hSw)
      go_simp
      (try with_reducible rfl)
     (try simp only [Act.put, zS])
     refine wT 15 ?_ rfl ?_ ?_
     rotate_left
     ·intro wS hSw
      (try dsimp only at hSw)
      go_simp
      (try with_reducible rfl)
     (try simp only [Act.put, zS])
     refine wpAnyH_done (by kernel_rfl) ?_ _
     have hP0' : Below wr.heap.size wr w5.drew := hP_0.drew
     clear hP_0
     have hP_0 := hP0'
     clear hP0'
     go_wp2_with fail
     refine wp_region_held_drew (S := (Below wr.heap.size wr)) (by kernel_rfl) ?_ (fun hHeld => ?_)
     ·(try dsimp only)
      first | assumption
     generalize w5.drew = w6 at *
     refine wT 0 ?_ rfl ?_ ?_
     rotate_left
     ·intro wS hSw
      (try dsimp only at hSw)
      go_simp
      (try with_reducible rfl)
     (try simp only [Act.put, zS])
     refine wT 1 ?_ rfl ?_ ?_
     rotate_left
     ·intro wS hSw
      (try dsimp only at hSw)
      go_simp
      (try with_reducible rfl)
     (try simp only [Act.put, zS])
     refine wT 2 ?_ rfl ?_ ?_
     rotate_left
     ·intro wS hSw
      (try dsimp only at hSw)
      go_simp
      (try with_reducible rfl)
     (try simp only [Act.put, zS])
     refine wT 3 ?_ rfl ?_ ?_
     rotate_left
     ·intro wS hSw
      (try dsimp only at hSw)
      go_simp
      (try with_reducible rfl)
     (try simp only [Act.put, zS])
     refine wT 4 ?_ rfl ?_ ?_
     rotate_left
     ·intro wS hSw
      (try dsimp only at hSw)
      go_simp
      (try with_reducible rfl)
     (try simp only [Act.put, zS])
     refine wT 5 ?_ rfl ?_ ?_
     rotate_left
     ·intro wS hSw
      (try dsimp only at hSw)
      go_simp
      (try with_reducible rfl)
     (try simp only [Act.put, zS])
     refine wT 6 ?_ rfl ?_ ?_
     rotate_left
     ·intro wS hSw
      (try dsimp only at hSw)
      go_simp
      (try with_reducible rfl)
     (try simp only [Act.put, zS])
     refine wT 7 ?_ rfl ?_ ?_
     rotate_left
     ·intro wS hSw
      (have c9 := cell_below hSw HC2.out; go_simp; (try with_reducible rfl))
     (try simp only [Act.put, zS])
     refine wT 8 ?_ rfl ?_ ?_
     rotate_left
     ·intro wS hSw
      (try dsimp only at hSw)
      go_simp
      (try with_reducible rfl)
     (try simp only [Act.put, zS])
     refine wT 9 ?_ rfl ?_ ?_
     rotate_left
     ·intro wS hSw
      (try dsimp only at hSw)
      go_simp
      (try with_reducible rfl)
     (try simp only [Act.put, zS])
     refine wT 10 ?_ rfl ?_ ?_
     rotate_left
     ·intro wS hSw
      (try dsimp only at hSw)
      go_simp
      (try with_reducible rfl)
     (try simp only [Act.put, zS])
     refine wT 11 ?_ rfl ?_ ?_
     rotate_left
     ·intro wS hSw
      (try dsimp only at hSw)
      go_simp
      (try with_reducible rfl)
     (try simp only [Act.put, zS])
     refine wT 12 ?_ rfl ?_ ?_
     rotate_left
     ·intro wS hSw
      (try dsimp only at hSw)
      go_simp
      (try with_reducible rfl)
     (try simp only [Act.put, zS])
     refine wT 13 ?_ rfl ?_ ?_
     rotate_left
     ·intro wS hSw
      (try dsimp only at hSw)
      go_simp
      (try with_reducible rfl)
     (try simp only [Act.put, zS])
     refine wT 14 ?_ rfl ?_ ?_
     rotate_left
     ·intro wS hSw
      (try dsimp only at hSw)
      go_simp
      (try with_reducible rfl)
     (try simp only [Act.put, zS])
     refine wT 15 ?_ rfl ?_ ?_
     rotate_left
     ·intro wS hSw
      (have c9 := cell_below hSw HC3.out; go_simp; (try with_reducible rfl))
     (try simp only [Act.put, zS])
     refine wT 16 ?_ rfl ?_ ?_
     rotate_left
     ·intro wS hSw
      (try dsimp only at hSw)
      go_simp
      (try with_reducible rfl)
     (try simp only [Act.put, zS])
     refine wT 17 ?_ rfl ?_ ?_
     rotate_left
     ·intro wS hSw
      (try dsimp only at hSw)
      go_simp
      (try with_reducible rfl)
     (try simp only [Act.put, zS])
     refine wpAnyH_done (by kernel_rfl) ?_ _
     have HP9 := zh hP_0
     clear hP_0 m1 m2 p1 p2 p3 q1 q2 q3 s1 s2 s3
     go_wp2_with fail
     refine (dbl_any x0 _ HB0.out).mono ?_
     rintro e w7 ⟨rfl, hb7⟩
     have HP7 := zh (HP9.out.trans (hb7.mono HP9.out.size))
     clear hb7
     go_wp2_with fail
     refine (dbl_any x1 _ HB1.out).mono ?_
     rintro e w8 ⟨rfl, hb8⟩
     have hP8 := HP7.out.trans (hb8.mono HP7.out.size)
     have hY8 := Blk.below HY.out hP8 (Blk.lt HY.out)
     have hO8 := HO.out.trans (hP8.mono HO.out.size)
     have hnn := HNN.out
     have c8 : w8.cell? ⟨w.heap.size + 1 + 1, 4 * c + i, none⟩ = some (.int .u8 0) := by
      have h8 := B16.cell hY8 (show 4 * c + i < 16 by omega); rw [if_neg (Nat.lt_irrefl _)] at h8; exact h8
     have z8 : w8.frozen? ⟨w.heap.size + 1 + 1, 4 * c + i, none⟩ = false := Blk.free hY8 _
     have HN : Hid (MX w f (4 * c + (i + 1)) (w8.setCell ⟨w.heap.size + 1 + 1, 4 * c + i, none⟩ (.int .u8 (M : Nat)))) := zh (by
      refine ⟨Blk.set_other (Blk.below HX.out hP8 (Blk.lt HX.out)) (by simp; omega) _, Blk.set_other (Blk.below HR.out hP8 (Blk.lt HR.out)) (by simp) _, (B16.set hY8 (4 * c + i) M).congr fun j hj => ?_, hO8.setCell (by simp; omega) _⟩
      unfold upd
      by_cases e : j = 4 * c + i
      ·rw [if_pos e, e, if_pos (by omega), hnn.1, HMx.out]
      ·rw [if_neg e]
       show (if j < 4 * c + i then mxA f j else 0) = if j < 4 * c + (i + 1) then mxA f j else 0
       by_cases h5 : j < 4 * c + i
       ·rw [if_pos h5, if_pos (by omega)]
       ·rw [if_neg h5, if_neg (by omega)])
     clear hP8 hY8 hO8 hb8 hnn
     go_wp2_with fail
     go_roundw
     case rel => exact ⟨i + 1, by omega, by go_num, HN.out⟩
     case measure => simp [intOf]; omega
    ·obtain rfl : i = 4 := by omega
     have HM : Hid (MX w f (4 * (c + 1)) wr) := zh (by rw [show 4 * (c + 1) = 4 * c + 4 by omega]; exact ⟨hX, hR, hY, hO⟩)
     clear hX hR hY hO
     go_wp2_with fail
     go_roundw
     case rel => exact ⟨c + 1, by omega, by go_num, HM.out⟩
     case measure => simp [intOf]; omega
  ·obtain rfl : c = 4 := by omega
   obtain ⟨hX, hR, hY, hO⟩ := hM
   obtain ⟨E, hE⟩ := zX ((rowC 16 (mxA f)).toArray)
   have HCE : Hid (∃ f, E = (rowC 16 f).toArray) := zh ⟨_, hE.symm⟩
   have HC0 : Hid (∃ f, zero16 = (rowC 16 f).toArray) := zh ⟨_, rfl⟩
   have HX5 : Hid (Blk wr (w.heap.size + 1 + 1) E 82) := zh (hE ▸ (hY.congr fun i hi => if_pos (by omega)))
   have HR5 : Hid (Blk wr (w.heap.size + 1) zero16 82) := zh hR
   have HN : Hid (Blk (wr.setCells (w.heap.size + 1) 0 E.toList) (w.heap.size + 1) E 82) := zh (Blk.store16 HR5.out HCE.out HC0.out)
   have HO5 : Hid (Below w.heap.size w (wr.setCells (w.heap.size + 1) 0 E.toList)) := zh (Below.set16 (g := w.heap.size + 1) hO (by omega) hO.size _)
   have HE := zh hE
   clear hX hR hY hO hE hlt hc
   go_wp2_with (first
    | (refine wpList_load16 rfl (.tmp 3) rfl (w.heap.size + 1 + 1) rfl E HX5.out HCE.out ?_)
    | (refine wpList_store16 rfl (.tmp 2) (.tmp 62) rfl (w.heap.size + 1) rfl E zero16 rfl HR5.out HCE.out HC0.out ?_))
   refine bodyPost_ret (v := .agg E) ?_ rfl ⟨by rw [HE.out], HO5.out⟩
   exact res16 Tryz.results80 _ _ (w.heap.size + 1) E rfl HN.out HCE.out
def ESG (w0 : World) (bx : Nat) (C : Array Value) (wr : World) : Prop := Blk wr w0.heap.size C 82 ∧ Blk wr (w0.heap.size + 1) zero16 82 ∧ BoxIn wr bx ∧ Own bx w0 wr ∧ bx < w0.heap.size
theorem ESG.call {w0 wr w1 : World} {bx : Nat} {C : Array Value} (h : ESG w0 bx C wr) (hB : BoxIn w1 bx) (hO : Own bx wr w1) : ESG w0 bx C w1 := by
 obtain ⟨h1, h2, _, h4, h5⟩ := h
 exact ⟨hO.blk h1 (by omega), hO.blk h2 (by omega), hB, h4.trans hO, h5⟩
theorem ESG.below {w0 wr w1 : World} {bx : Nat} {C : Array Value} (h : ESG w0 bx C wr) (hb : Below wr.heap.size wr w1) : ESG w0 bx C w1 :=
 h.call (h.2.2.1.below hb) (Own.of_below hb)
theorem ESG.store {w0 wr : World} {bx : Nat} {C D : Array Value} (h : ESG w0 bx C wr) (hC : ∃ f, C = (rowC 16 f).toArray) (hD : ∃ f, D = (rowC 16 f).toArray) : ESG w0 bx D (wr.setCells w0.heap.size 0 D.toList) := by
 obtain ⟨h1, h2, h3, h4, h5⟩ := h
 have hO : Own w0.heap.size wr (wr.setCells w0.heap.size 0 D.toList) := Own.setCells _ _ _
 exact ⟨Blk.store16 h1 hD hC, hO.blk h2 (by omega), h3.own hO (by omega), h4.two hO (Nat.le_refl _), h5⟩
theorem ESG.key {w0 wr : World} {bx kb : Nat} {C : Array Value} {W : Nat → Nat} (h : ESG w0 bx C wr) (hK : KeyB w0 kb W bx) (hn : kb ≠ bx) : KeyB wr kb W bx := h.2.2.2.1.blk hK hn
theorem enc_any (kb bx : Nat) (W f : Nat → Nat) (w : World) (hK : KeyB w kb W bx) (hB : BoxIn w bx) (hne : kb ≠ bx) (hf : ∀ i, i < 16 → f i < 256) :
  Calls Tryz.prog 55 #[.pointer (some ⟨kb, 0, none⟩), .agg (rowC 16 f).toArray] w fun e w' => e = .returned (.agg (rowC 16 (encK subN W f 14)).toArray) ∧ BoxIn w' bx ∧ Own bx w w' := by
 have hz := zero16_run
 obtain ⟨C, hC⟩ := zX ((rowC 16 f).toArray)
 obtain ⟨E0, hE0⟩ := zX ((rowC 16 (encK subN W f 0)).toArray)
 have hbx := hB.lt
 have HT : Hid (ESG w bx C ((w.alloc (.cells C 82)).alloc (.cells zero16 82))) := zh (by
  refine ⟨(Blk.new w C 82).alloc _, ?_, ?_, ((Own.refl bx w).alloc _).alloc _, hbx⟩
  ·simpa using Blk.new (w.alloc (.cells C 82)) zero16 82
  ·exact hB.below ((zA).alloc (by simp) _))
 have HCC : Hid (∃ f, C = (rowC 16 f).toArray) := zh ⟨_, hC.symm⟩
 have HCE : Hid (∃ f, E0 = (rowC 16 f).toArray) := zh ⟨_, hE0.symm⟩
 have HA0 : Hid (∀ w, KeyB w kb W bx → Calls Tryz.prog 78 #[.pointer (some ⟨kb, 0, none⟩), .agg C, .int .i64 0] w fun e w' => e = .returned (.agg E0) ∧ Below w.heap.size w w') := zh fun w hk => by
  rw [← hC, ← hE0]; exact added_any kb bx W 0 f w hk (by omega) hf
 have HS : ∀ x, subN x < 256 := subN_lt
 have HL : Hid (∀ r i, i < 16 → encK subN W f r i < 256) := zh (encK_lt HS hf)
 have HK := zh hK
 have HNE := zh hne
 have HE0 := zh hE0
 rw [hC]
 clear hf hC hE0 hK hB hne hbx HS
 obtain ⟨w1, hw1⟩ := zX ((w.alloc (.cells C 82)).alloc (.cells zero16 82))
 rw [hw1] at HT
 go_enter Tryz.func55, Tryz.ntmps55
 go_wp2_with (first | (refine wpList_load16 rfl (.tmp 3) rfl w.heap.size rfl C HT.out.1 HCC.out ?_))
 clear hw1 hz
 refine (HA0.out _ (HT.out.key HK.out HNE.out)).mono ?_
 rintro e w2 ⟨rfl, hb⟩
 have HT2 := zh (HT.out.below hb)
 clear hb HT
 obtain ⟨w3, hw3⟩ := zX (w2.setCells w.heap.size 0 E0.toList)
 have HT3 := zh (HT2.out.store HCC.out HCE.out)
 rw [hw3] at HT3
 go_wp2_with (first | (refine wpList_store16 rfl (.tmp 3) (.tmp 11) rfl w.heap.size rfl E0 C rfl HT2.out.1 HCE.out HCC.out ?_))
 go_loopw [5] (fun v wr => ∃ (k : Nat) (D : Array Value), k ≤ 14 ∧ v = .int .i64 ((k : Int) + 1) ∧ (rowC 16 (encK subN W f k)).toArray = D ∧ ESG w bx D wr) (fun v _ => 15 - (intOf v).toNat)
 case atStart => exact ⟨0, E0, Nat.zero_le _, rfl, HE0.out, hw3 ▸ HT3.out⟩
 case round =>
  clear HT2 hw3 HT3 HA0 HE0 HCC HCE
  obtain ⟨k, D, hk, rfl, hD, hES⟩ := hrel
  have HES := zh hES
  clear hES
  by_cases hlt : k < 14
  ·obtain ⟨M, hM⟩ := zX ((rowC 16 (mvA subN (encK subN W f k))).toArray)
   obtain ⟨X, hX⟩ := zX ((rowC 16 (mxA (mvA subN (encK subN W f k)))).toArray)
   obtain ⟨N, hN⟩ := zX ((rowC 16 (encK subN W f (k + 1))).toArray)
   have HCD : Hid (∃ f, D = (rowC 16 f).toArray) := zh ⟨_, hD.symm⟩
   have HCM : Hid (∃ f, M = (rowC 16 f).toArray) := zh ⟨_, hM.symm⟩
   have HCX : Hid (∃ f, X = (rowC 16 f).toArray) := zh ⟨_, hX.symm⟩
   have HCN : Hid (∃ f, N = (rowC 16 f).toArray) := zh ⟨_, hN.symm⟩
   have HMV : Hid (∀ w', KeyB w' kb W bx → BoxIn w' bx → Calls Tryz.prog 79 #[.pointer (some ⟨kb, 0, none⟩), .agg D] w' fun e w'' => e = .returned (.agg M) ∧ BoxIn w'' bx ∧ Own bx w' w'') := zh fun w' hk' hb' => by
    rw [← hD, ← hM]; exact moved_any kb bx W _ w' hk' hb' HNE.out (HL.out k)
   have HMX : Hid (∀ w', Calls Tryz.prog 80 #[.agg M] w' fun e w'' => e = .returned (.agg X) ∧ Below w'.heap.size w' w'') := zh fun w' => by
    rw [← hM, ← hX]; exact mixed_anyG _ w' fun i _ => mvA_lt subN_lt i
   have k0 : (0 : Int) ≤ (k : Int) := by omega
   have k1 : (k : Int) < 14 := by omega
   have hN2 := hN
   have hk2 : encK subN W f (k + 1) = addK W (k + 1) (if k + 1 < 14 then mxA (mvA subN (encK subN W f k)) else mvA subN (encK subN W f k)) := rfl
   rw [hk2] at hN2
   obtain ⟨v1, hv1⟩ : ∃ q : Nat, k + 1 = q := ⟨_, rfl⟩
   have hki : (k : Int) + 1 = (v1 : Int) := by omega
   by_cases h14 : k + 1 < 14
   ·rw [if_pos h14] at hN2
    have HAD : Hid (∀ w', KeyB w' kb W bx → Calls Tryz.prog 78 #[.pointer (some ⟨kb, 0, none⟩), .agg X, .int .i64 ((k : Int) + 1)] w' fun e w'' => e = .returned (.agg N) ∧ Below w'.heap.size w' w'') := zh fun w' hk' => by
     rw [← hX, ← hN2, show (k : Int) + 1 = ((k + 1 : Nat) : Int) by omega]; exact added_any kb bx W (k + 1) _ w' hk' (by omega) (mxA_lt fun i _ => mvA_lt subN_lt i)
    have HNN := zh hN
    have k2 : (k : Int) + 1 < 14 := by omega
    clear hD hM hX hN hN2 hk2 hv1 hki v1
    go_wp2_with (first | (refine wpList_load16 rfl (.tmp 3) rfl w.heap.size rfl D HES.out.1 HCD.out ?_))
    refine (HMV.out _ (HES.out.key HK.out HNE.out) HES.out.2.2.1).mono ?_
    rintro e w4 ⟨rfl, hb4, ho4⟩
    have H4 := zh (HES.out.call hb4 ho4)
    clear hb4 ho4 HES
    obtain ⟨w5, hw5⟩ := zX (w4.setCells w.heap.size 0 M.toList)
    have H5 := zh (H4.out.store HCD.out HCM.out)
    rw [hw5] at H5
    go_wp2_with (first | (refine wpList_store16 rfl (.tmp 3) (.tmp 18) rfl w.heap.size rfl M D rfl H4.out.1 HCM.out HCD.out ?_) | (refine wpList_load16 rfl (.tmp 3) rfl w.heap.size rfl M H5.out.1 HCM.out ?_))
    clear H4 hw5
    refine (HMX.out _).mono ?_
    rintro e w6 ⟨rfl, hb6⟩
    have H6 := zh (H5.out.below hb6)
    clear hb6 H5
    obtain ⟨w7, hw7⟩ := zX (w6.setCells w.heap.size 0 X.toList)
    have H7 := zh (H6.out.store HCM.out HCX.out)
    rw [hw7] at H7
    go_wp2_with (first | (refine wpList_store16 rfl (.tmp 3) (.tmp 22) rfl w.heap.size rfl X M rfl H6.out.1 HCX.out HCM.out ?_) | (refine wpList_load16 rfl (.tmp 3) rfl w.heap.size rfl X H7.out.1 HCX.out ?_))
    clear H6 hw7
    refine (HAD.out _ (H7.out.key HK.out HNE.out)).mono ?_
    rintro e w8 ⟨rfl, hb8⟩
    have H8 := zh (H7.out.below hb8)
    clear hb8 H7
    obtain ⟨w9, hw9⟩ := zX (w8.setCells w.heap.size 0 N.toList)
    have H9 := zh (H8.out.store HCX.out HCN.out)
    rw [hw9] at H9
    go_wp2_with (first | (refine wpList_store16 rfl (.tmp 3) (.tmp 26) rfl w.heap.size rfl N X rfl H8.out.1 HCN.out HCX.out ?_))
    go_roundw
    case rel => exact ⟨k + 1, N, by omega, by go_num, HNN.out, hw9 ▸ H9.out⟩
    case measure => simp [intOf]; omega
   ·rw [if_neg h14] at hN2
    have HAD : Hid (∀ w', KeyB w' kb W bx → Calls Tryz.prog 78 #[.pointer (some ⟨kb, 0, none⟩), .agg M, .int .i64 ((k : Int) + 1)] w' fun e w'' => e = .returned (.agg N) ∧ Below w'.heap.size w' w'') := zh fun w' hk' => by
     rw [← hM, ← hN2, show (k : Int) + 1 = ((k + 1 : Nat) : Int) by omega]; exact added_any kb bx W (k + 1) _ w' hk' (by omega) (fun i _ => mvA_lt subN_lt i)
    have HNN := zh hN
    have k2 : ¬ (k : Int) + 1 < 14 := by omega
    clear hD hM hX hN hN2 hk2 hv1 hki v1 HMX
    go_wp2_with (first | (refine wpList_load16 rfl (.tmp 3) rfl w.heap.size rfl D HES.out.1 HCD.out ?_))
    refine (HMV.out _ (HES.out.key HK.out HNE.out) HES.out.2.2.1).mono ?_
    rintro e w4 ⟨rfl, hb4, ho4⟩
    have H4 := zh (HES.out.call hb4 ho4)
    clear hb4 ho4 HES
    obtain ⟨w5, hw5⟩ := zX (w4.setCells w.heap.size 0 M.toList)
    have H5 := zh (H4.out.store HCD.out HCM.out)
    rw [hw5] at H5
    go_wp2_with (first | (refine wpList_store16 rfl (.tmp 3) (.tmp 18) rfl w.heap.size rfl M D rfl H4.out.1 HCM.out HCD.out ?_) | (refine wpList_load16 rfl (.tmp 3) rfl w.heap.size rfl M H5.out.1 HCM.out ?_))
    clear H4 hw5
    refine (HAD.out _ (H5.out.key HK.out HNE.out)).mono ?_
    rintro e w8 ⟨rfl, hb8⟩
    have H8 := zh (H5.out.below hb8)
    clear hb8 H5
    obtain ⟨w9, hw9⟩ := zX (w8.setCells w.heap.size 0 N.toList)
    have H9 := zh (H8.out.store HCM.out HCN.out)
    rw [hw9] at H9
    go_wp2_with (first | (refine wpList_store16 rfl (.tmp 3) (.tmp 26) rfl w.heap.size rfl N M rfl H8.out.1 HCN.out HCM.out ?_))
    go_roundw
    case rel => exact ⟨k + 1, N, by omega, by go_num, HNN.out, hw9 ▸ H9.out⟩
    case measure => simp [intOf]; omega
  ·obtain rfl : k = 14 := by omega
   have HCD : Hid (∃ f, D = (rowC 16 f).toArray) := zh ⟨_, hD.symm⟩
   have HC0 : Hid (∃ f, zero16 = (rowC 16 f).toArray) := zh ⟨_, rfl⟩
   have HN : Hid (Blk (wr.setCells (w.heap.size + 1) 0 D.toList) (w.heap.size + 1) D 82) := zh (Blk.store16 HES.out.2.1 HCD.out HC0.out)
   have HO5 : Hid (BoxIn (wr.setCells (w.heap.size + 1) 0 D.toList) bx ∧ Own bx w (wr.setCells (w.heap.size + 1) 0 D.toList)) := zh ⟨HES.out.2.2.1.own (Own.setCells _ _ _) (by have := HES.out.2.2.2.2; omega), HES.out.2.2.2.1.two (Own.setCells _ _ _) (by omega)⟩
   have HD := zh hD
   clear hD hlt hk
   go_wp2_with (first
    | (refine wpList_load16 rfl (.tmp 3) rfl w.heap.size rfl D HES.out.1 HCD.out ?_)
    | (refine wpList_store16 rfl (.tmp 4) (.tmp 27) rfl (w.heap.size + 1) rfl D zero16 rfl HES.out.2.1 HCD.out HC0.out ?_))
   refine bodyPost_ret (v := .agg D) ?_ rfl ⟨by rw [HD.out], HO5.out⟩
   exact res16 Tryz.results55 _ _ (w.heap.size + 1) D rfl HN.out HCD.out
end Go.Proofs.YtncfocjmdecapaaGreatDoor
