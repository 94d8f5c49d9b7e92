/- Part of the proof: what stands here serves the walks of the functions that the statement calls. -/
import Derived.WalkSpells
import Derived.Lib.LazyBuf
import Derived.Deep.OwnRows
import Derived.Deep.RegionLaw
import Derived.Test.YtncfocjmdecapaaGreatDoorY02
namespace Go.Proofs.YtncfocjmdecapaaGreatDoor
set_option linter.unusedVariables false
set_option linter.unusedSimpArgs false
open Go.RowKit
theorem Bytes.newsA {w : World} {ad : Addr} {m : Nat} {g : Nat → Nat} (h : Bytes w (some ad) m g) : ∀ j u, (rowC m g)[j]? = some u → w.cell? (ad.add j) = some u := fun j u hu => by
 have hj : j < m := by
  rcases Nat.lt_or_ge j m with h' | h'
  ·exact h'
  ·rw [List.getElem?_eq_none (by rw [rowC_len]; exact h')] at hu; cases hu
 obtain ⟨_, b', off', e, hc⟩ := h j hj
 cases e
 exact Bytes.news h j u hu
theorem wpList_appA {ops : Array Oper} {rest : List Oper} {o : Oper} {a : Act} {Q : Exit → Act → World → Prop} (hgd : o.guard = none) (s x : Operand)
  (ho : o.op = .call { callee := .builtin .append, args := #[s, x], argTypes := #[24, 24] })
  (base : Nat) (v : Value) (n m cp : Nat) (ad : Addr) (f g : Nat → Nat) (W : World) (hs : a.eval s = v) (hown : Grow W base v n f) (hx : a.eval x = .slice (some ad) m cp)
  (hB : Bytes W (some ad) m g) (hn : n + m < 100000000000000) (hbase : base ≤ W.heap.size)
  (h : ∀ v' w', Grow w' base v' (n + m) (catF n f g) → Below base W w' → wpList Tryz.prog ops Q rest (a.put o.dst v') w') :
  wpList Tryz.prog ops Q (o :: rest) a W := by
 obtain ⟨i0, hi, hz0, hz1, hz2⟩ := info_parts info_u8
 refine wpList_append_own_at _ hgd s x 24 ho base 5 i0 (.int .u8 0) 1 1 Tryz.underlying24 hi hz0 hz1 hz2 rfl (by decide) v n (rowC n f) hs hown ad m cp (rowC m g) hx (by rw [rowC_len, Nat.mul_one])
  hB.newsA (rowC_one m g) (by unfold maxLen; omega) (by omega) hbase ?_
 intro v' w' hown' hg _ _
 refine h v' w' ?_ ((Below.refl base W).grown hg hbase (Grow.block hown))
 unfold Grow
 rw [rowC_cat]; exact hown'
theorem run_append_none_c {w : World} {base n c : Nat} {v : Value} {f : Nat → Nat} (ty : TypeId) (hown : Grow w base v n f) :
  (Builtin.append_ #[24, 24] ty #[v, .slice none 0 c]).run Tryz.prog w = .ok v w := by
 obtain ⟨i0, hi, _, _, _⟩ := info_parts info_u8
 rcases hown.2 with ⟨rfl, rfl⟩ | ⟨g, cap, cur, rfl, _, _, hnc, _⟩
 ·simp [Builtin.append_, run_underlying Tryz.underlying24, sizeOf, typeInfo, hi, Builtin.lenOf, Builtin.firstCells]
 ·simp [Builtin.append_, run_underlying Tryz.underlying24, sizeOf, typeInfo, hi, Builtin.lenOf, Builtin.firstCells, hnc, storeCells]
theorem wpList_appO {ops : Array Oper} {rest : List Oper} {o : Oper} {a : Act} {Q : Exit → Act → World → Prop} (hgd : o.guard = none) (s x : Operand)
  (ho : o.op = .call { callee := .builtin .append, args := #[s, x], argTypes := #[24, 24] })
  (base : Nat) (v : Value) (n m cp : Nat) (od : Option Addr) (f g : Nat → Nat) (W : World) (hs : a.eval s = v) (hown : Grow W base v n f) (hx : a.eval x = .slice od m cp) (hno : od = none → m = 0)
  (hB : Bytes W od m g) (hn : n + m < 100000000000000) (hbase : base ≤ W.heap.size)
  (h : ∀ v' w', Grow w' base v' (n + m) (catF n f g) → W.grownBy w' v.ownBlock → (v'.ownBlock = v.ownBlock ∨ v'.ownBlock = some W.heap.size) → wpList Tryz.prog ops Q rest (a.put o.dst v') w') :
  wpList Tryz.prog ops Q (o :: rest) a W := by
 obtain ⟨i0, hi, hz0, hz1, hz2⟩ := info_parts info_u8
 cases od with
 | none =>
  obtain rfl := hno rfl
  refine wpList_plain hgd fun K hK => ?_
  have hr := run_append_none_c (c := cp) o.type hown
  unfold Oper.wp execOp
  simp only [ho, resolve, invoke, builtin, Sem.run_bind, Sem.run_pure, Result.andThen_ok, List.map_toArray, List.map_cons, List.map_nil, hs, hx, hr]
  exact hK _ _ (h _ _ (hown.congr fun i hi => by unfold catF; rw [if_pos (by omega)]) ⟨rfl, rfl, rfl, Nat.le_refl _, fun _ _ _ => rfl⟩ (.inl rfl))
 | some ad =>
  refine wpList_append_own_at _ hgd s x 24 ho base 5 i0 (.int .u8 0) 1 1 Tryz.underlying24 hi hz0 hz1 hz2 rfl (by decide) v n (rowC n f) hs hown ad m cp (rowC m g) hx (by rw [rowC_len, Nat.mul_one])
   hB.newsA (rowC_one m g) (by unfold maxLen; omega) (by omega) hbase ?_
  intro v' w' hown' hg _ hat
  refine h v' w' ?_ hg hat
  unfold Grow
  rw [rowC_cat]; exact hown'
theorem step_appO {ops : Array Oper} {o : Oper} {a : Act} {K : Act → World → Prop} {Q : Exit → Act → World → Prop} {E : Prop} (hgd : o.guard = none) (s x : Operand)
  (ho : o.op = .call { callee := .builtin .append, args := #[s, x], argTypes := #[24, 24] })
  (base : Nat) (v : Value) (n m cp : Nat) (od : Option Addr) (f g : Nat → Nat) (W : World) (hs : a.eval s = v) (hown : Grow W base v n f) (hx : a.eval x = .slice od m cp) (hno : od = none → m = 0)
  (hB : Bytes W od m g) (hn : n + m < 100000000000000) (hbase : base ≤ W.heap.size)
  (h : ∀ v' w', Grow w' base v' (n + m) (catF n f g) → W.grownBy w' v.ownBlock → (v'.ownBlock = v.ownBlock ∨ v'.ownBlock = some W.heap.size) → K (a.put o.dst v') w') :
  if Region.wanted o (yielded ops a.tmps) = true then Oper.wp Tryz.prog o a W K Q else E := by
 obtain ⟨i0, hi, hz0, hz1, hz2⟩ := info_parts info_u8
 have hw : Region.wanted o (yielded ops a.tmps) = true := by simp [Region.wanted, hgd]
 rw [if_pos hw]
 cases od with
 | none =>
  obtain rfl := hno rfl
  have hr := run_append_none_c (c := cp) o.type hown
  unfold Oper.wp execOp
  simp only [ho, resolve, invoke, builtin, Sem.run_bind, Sem.run_pure, Result.andThen_ok, List.map_toArray, List.map_cons, List.map_nil, hs, hx, hr]
  exact h _ _ (hown.congr fun i hi => by unfold catF; rw [if_pos (by omega)]) ⟨rfl, rfl, rfl, Nat.le_refl _, fun _ _ _ => rfl⟩ (.inl rfl)
 | some ad =>
  obtain ⟨v', w', hr, h2, h3, h4, h5⟩ := run_append_own_at (P := Tryz.prog) W base 24 o.type 5 i0 (.int .u8 0) 1 1 Tryz.underlying24 hi hz0 hz1 hz2 rfl (by decide) v n (rowC n f) hown ad m cp (rowC m g) (by rw [rowC_len, Nat.mul_one]) hB.newsA (rowC_one m g) (by unfold maxLen; omega) (by omega) hbase
  unfold Oper.wp execOp
  simp only [ho, resolve, invoke, builtin, Sem.run_bind, Sem.run_pure, Result.andThen_ok, List.map_toArray, List.map_cons, List.map_nil, hs, hx, hr]
  exact h _ _ (by unfold Grow; rw [rowC_cat]; exact h2) h3 h5
theorem catF_self {G g : Nat → Nat} {n m : Nat} (h : ∀ i, i < m → g i = G (n + i)) : ∀ i, i < n + m → catF n G g i = G i := fun i hi => by
 unfold catF
 by_cases e : i < n
 ·rw [if_pos e]
 ·rw [if_neg e, h (i - n) (by omega)]; congr 1; omega
theorem ob1 {w : World} {z : Int} {y : Nat} (hz : z = (y : Int)) (hy : y < 256) : Bytes (w.alloc (.cells #[.int .u8 z] 5)) (some ⟨w.heap.size, 0, none⟩) 1 (fun _ => y) := fun k hk => ⟨hy, w.heap.size, 0, rfl, by
 subst hz
 obtain rfl : k = 0 := by omega
 exact World.cell?_alloc_mark w #[.int .u8 (y : Int)] 5 (0, 0) 0⟩
def two (x y : Nat) : Nat → Nat := fun i => if i = 0 then x else y
theorem make_zeros (n : Nat) (hn : n < 1000000000000) (w : World) : (Instr.makeSlice 24 (.int .i64 (n : Int)) (.int .i64 (n : Int))).run Tryz.prog w = .ok (.slice (some ⟨w.heap.size, 0, none⟩) n n) (w.alloc (.cells (rowC n (fun _ => 0)).toArray 5)) := by
 have h := run_make_row' (P := Tryz.prog) 24 5 (.int .u8 0) 1 Tryz.underlying24 info_u8 rfl .i64 .i64 n (by omega) (by omega) w
 have e : madeCells #[Value.int .u8 0] n = (rowC n (fun _ => 0)).toArray := by
  have := toList_madeCells_one (Value.int .u8 0) n
  rw [rowC_zero] at this
  rw [← this]
 rw [e] at h; exact h
set_option maxRecDepth 100000
set_option maxHeartbeats 4000000
def whK (n : Nat) (K : Nat → Nat) : Nat → Nat := fun i => if 64 < n then (if i < 32 then shaN n K i else 0) else if i < n then K i else 0
def xoK (W : Nat → Nat) (c : Nat) : Nat → Nat := fun i => W i ^^^ c
def hmK (W : Nat → Nat) (m : Nat) (G : Nat → Nat) : Nat → Nat := shaN (64 + 32) (catF 64 (xoK W 92) (shaN (64 + m) (catF 64 (xoK W 54) G)))
theorem xor8 {a b : Nat} (ha : a < 256) (hb : b < 256) : a ^^^ b < 256 := Nat.xor_lt_two_pow (n := 8) ha hb
theorem shaN_b (n : Nat) (F : Nat → Nat) (i : Nat) : shaN n F i < 256 := numB_lt _ _ _
theorem whK_lt {n : Nat} {K : Nat → Nat} (h : ∀ i, i < n → K i < 256) (i : Nat) : whK n K i < 256 := by
 unfold whK
 by_cases e : 64 < n
 ·rw [if_pos e]
  by_cases e2 : i < 32
  ·rw [if_pos e2]; exact shaN_b _ _ _
  ·rw [if_neg e2]; decide
 ·rw [if_neg e]
  by_cases e2 : i < n
  ·rw [if_pos e2]; exact h i e2
  ·rw [if_neg e2]; decide
theorem RB.bytes {w : World} {t : TypeId} {n g : Nat} {f : Nat → Nat} (h : RB t n g f w) (hf : ∀ i, i < n → f i < 256) : Bytes w (some ⟨g, 0, none⟩) n f := fun k hk => ⟨hf k hk, g, 0, rfl, by rw [Nat.zero_add]; exact h.cell hk⟩
theorem begun_any (W : Nat → Nat) (c : Nat) (w : World) (hW : ∀ i, i < 64 → W i < 256) (hc : c < 256) (hg : GV w) :
  Calls Tryz.prog 62 #[.agg (rowC 64 W).toArray, .int .u8 (c : Nat)] w fun e w' => ∃ g, e = .returned (.pointer (some ⟨g, 0, none⟩)) ∧ HS w' g 64 (xoK W c) ∧ Below w.heap.size w w' ∧ w.heap.size ≤ g := by
 obtain ⟨C, hC⟩ := zX ((rowC 64 W).toArray)
 have H0 : Hid (RB 124 64 w.heap.size (fun j => if j < 0 then xoK W c j else W j) (w.alloc (.cells C 124)) ∧ Below w.heap.size w (w.alloc (.cells C 124)) ∧ GV (w.alloc (.cells C 124))) := zh (by
  have hb : Below w.heap.size w (w.alloc (.cells C 124)) := zA
  refine ⟨RB.congr (f := W) ?_ (fun i _ => (if_neg (Nat.not_lt_zero _)).symm), hb, hg.later hb⟩
  rw [← hC]; exact Blk.new w _ _)
 have HW := zh hW
 have HC := zh hc
 have HG := zh hg
 have HI : Hid ((Tryz.prog.info? 124).map (·.size) = some C.size) := zh (by rw [← hC, rowC_size]; kernel_rfl)
 have HI1 : Hid (C.all (·.oneCell') = true) := zh (by rw [← hC]; exact all_oneCell_toArray (rowC_one _ _))
 rw [hC]
 clear hW hc hg hC
 go_enter Tryz.func62, Tryz.ntmps62
 go_wp2_with fail
 go_loopw [7] (fun v wr => ∃ i : Nat, i ≤ 64 ∧ v = .int .i64 (i : Int) ∧ RB 124 64 w.heap.size (fun j => if j < i then xoK W c j else W j) wr ∧ Below w.heap.size w wr ∧ GV wr) (fun v _ => 64 - (intOf v).toNat)
 case atStart => exact ⟨0, Nat.zero_le _, rfl, H0.out⟩
 case round =>
  clear H0
  obtain ⟨i, hi, rfl, hR, hB, hG⟩ := hrel
  have hgl := hG.lt
  by_cases hli : i < 64
  ·have i0 : (0 : Int) ≤ (i : Int) := by omega
   have i1 : (i : Int) < 64 := by omega
   obtain ⟨x, hx⟩ := zX (W i)
   have hx8 : x < 256 := by rw [← hx]; exact HW.out i hli
   have hc1 : wr.cell? ⟨w.heap.size, i, none⟩ = some (.int .u8 (x : Nat)) := hR.val hli (by rw [if_neg (Nat.lt_irrefl _)]; exact hx)
   have xr : bits .xor .u8 (x : Int) (c : Int) = ((x ^^^ c : Nat) : Int) := u8_xor_nat _ _ hx8 HC.out
   have hz : wr.frozen? ⟨w.heap.size, i, none⟩ = false := hR.free _
   have HN : Hid (RB 124 64 w.heap.size (fun j => if j < i + 1 then xoK W c j else W j) (wr.setCell ⟨w.heap.size, i, none⟩ (.int .u8 (x ^^^ c : Nat))) ∧ Below w.heap.size w (wr.setCell ⟨w.heap.size, i, none⟩ (.int .u8 (x ^^^ c : Nat))) ∧ GV (wr.setCell ⟨w.heap.size, i, none⟩ (.int .u8 (x ^^^ c : Nat)))) := zh (by
    refine ⟨(hR.set i _).congr fun j hj => ?_, hB.setCell (Nat.le_refl _) _, ?_⟩
    ·unfold upd
     by_cases e : j = i
     ·subst e; rw [if_pos rfl, if_pos (by omega)]; unfold xoK; rw [hx]
     ·rw [if_neg e]
      show (if j < i then xoK W c j else W j) = if j < i + 1 then xoK W c j else W j
      by_cases e2 : j < i
      ·rw [if_pos e2, if_pos (by omega)]
      ·rw [if_neg e2, if_neg (by omega)]
    ·have hO : Own w.heap.size wr (wr.setCell ⟨w.heap.size, i, none⟩ (.int .u8 (x ^^^ c : Nat))) := (Own.refl _ _).set _ _
     have h0 := HG.out.lt
     exact hG.own hO (by omega) (by omega))
   generalize x ^^^ c = z at *
   clear hR hB hG hgl hx hx8 hi hli
   go_wp2_with fail
   clear hc1 xr hz
   go_roundw
   case rel => exact ⟨i + 1, by omega, by go_num, HN.out⟩
   case measure => simp [intOf] <;> omega
  ·obtain rfl : i = 64 := by omega
   have H1 : Hid (RB 124 64 w.heap.size (xoK W c) wr ∧ Below w.heap.size w wr ∧ GV wr) := zh ⟨hR.congr fun j hj => if_pos hj, hB, hG⟩
   clear hR hB hG hgl hi hli
   go_wp2_with fail
   refine (hnew_any _ H1.out.2.2).mono ?_
   rintro e w1 ⟨g, rfl, hN, hb1, hge⟩
   have H2 : Hid (RB 124 64 w.heap.size (xoK W c) w1 ∧ Below w.heap.size w w1 ∧ GV w1 ∧ (∀ F, HS w1 g 0 F) ∧ w.heap.size < g) := zh (by
    obtain ⟨a1, a2, a3⟩ := H1.out
    have hlt := Blk.lt a1
    exact ⟨Blk.below a1 hb1 hlt, a2.trans (hb1.mono a2.size), a3.later hb1, hN, by omega⟩)
   clear hN hb1 hge H1
   go_wp2_with fail
   refine (write_any g 0 64 64 (some ⟨w.heap.size, 0, none⟩) (xoK W c) (xoK W c) _ (H2.out.2.2.2.1 _) (RB.bytes H2.out.1 fun i hi => xor8 (HW.out i hi) HC.out) (Nat.le_refl _) (fun a ha _ => by cases ha; have := H2.out.2.2.2.2; show w.heap.size ≠ g; omega) (by decide) H2.out.2.2.1).mono ?_
   rintro e w2 ⟨rfl, hS, hO⟩
   have H3 : Hid (HS w2 g 64 (xoK W c) ∧ Below w.heap.size w w2 ∧ w.heap.size ≤ g) := zh (by
    obtain ⟨a1, a2, a3, a4, a5⟩ := H2.out
    exact ⟨hS.cat0, a2.trans (hO.below (by omega) a2.size), by omega⟩)
   clear hS hO H2
   go_wp2_with fail
   go_ret
   exact ⟨_, rfl, H3.out⟩
theorem whole_small {n : Nat} {K : Nat → Nat} (h : n ≤ 64) : splice (rowC 64 (fun _ => 0)) 0 (rowC n K) = rowC 64 (whK n K) := by
 refine List.ext_getElem? fun i => ?_
 rw [splice_get (by rw [rowC_len, rowC_len]; omega), if_neg (Nat.not_lt_zero _), rowC_len, Nat.zero_add, Nat.sub_zero]
 by_cases h1 : i < n
 ·rw [if_pos h1, rowC_get _ h1, rowC_get _ (by omega)]
  unfold whK; rw [if_neg (by omega), if_pos h1]
 ·rw [if_neg h1]
  by_cases h2 : i < 64
  ·rw [rowC_get _ h2, rowC_get _ h2]; unfold whK; rw [if_neg (by omega), if_neg h1]
  ·rw [List.getElem?_eq_none (by rw [rowC_len]; omega), List.getElem?_eq_none (by rw [rowC_len]; omega)]
theorem whole_large {n : Nat} {K : Nat → Nat} (h : 64 < n) : splice (rowC 64 (fun _ => 0)) 0 (rowC 32 (shaN n K)) = rowC 64 (whK n K) := by
 refine List.ext_getElem? fun i => ?_
 rw [splice_get (by rw [rowC_len, rowC_len]; omega), if_neg (Nat.not_lt_zero _), rowC_len, Nat.zero_add, Nat.sub_zero]
 by_cases h1 : i < 32
 ·rw [if_pos h1, rowC_get _ h1, rowC_get _ (by omega)]
  unfold whK; rw [if_pos h, if_pos h1]
 ·rw [if_neg h1]
  by_cases h2 : i < 64
  ·rw [rowC_get _ h2, rowC_get _ h2]; unfold whK; rw [if_pos h, if_neg h1]
  ·rw [List.getElem?_eq_none (by rw [rowC_len]; omega), List.getElem?_eq_none (by rw [rowC_len]; omega)]
theorem exec_load64 {o : Oper} {a : Act} {w : World} {g : Nat} {C : Array Value} {x : Operand} (ho : o.op = .load 124 x) (hx : a.eval x = .pointer (some ⟨g, 0, none⟩)) (hB : Blk w g C 124) (hs : (Tryz.prog.info? 124).map (·.size) = some C.size) : (execOp a.eval o).run Tryz.prog w = .ok (.value (.agg C)) w := by
 unfold execOp
 simp only [ho, hx, Instr.loadAt, Instr.sureAddr, Sem.run_bind, Sem.run_pure, Result.andThen_ok, run_loadVar_row w g 124 124 C (0, 0) _ hB Tryz.underlying124 rfl hs]
theorem exec_buildK {o : Oper} {a : Act} {w : World} {C : Array Value} {x y : Operand} {u v : Value} (ho : o.op = .build 128 #[(0, x), (1, y)]) (hx : a.eval x = u) (hy : a.eval y = v) (h : ∀ w, (Instr.build 128 #[(0, u), (1, v)]).run Tryz.prog w = .ok (.agg C) w) : (execOp a.eval o).run Tryz.prog w = .ok (.value (.agg C)) w := by
 unfold execOp
 simp only [ho, List.map_toArray, List.map_cons, List.map_nil, hx, hy, Sem.run_bind, h, Result.andThen_ok]
 rfl
def kC (gi go : Nat) : Array Value := #[.pointer (some ⟨gi, 0, none⟩), .pointer (some ⟨go, 0, none⟩)]
theorem buildK (gi go : Nat) (w : World) : (Instr.build 128 #[(0, .pointer (some ⟨gi, 0, none⟩)), (1, .pointer (some ⟨go, 0, none⟩))]).run Tryz.prog w = .ok (.agg (kC gi go)) w :=
 run_build w 128 _ _ (by kernel_rfl)
structure KH (w : World) (k gi go : Nat) (W : Nat → Nat) (m : Nat) (G : Nat → Nat) : Prop where
 kb : Blk w k (kC gi go) 128
 hi : HS w gi (64 + m) (catF 64 (xoK W 54) G)
 ho : HS w go 64 (xoK W 92)
 ne : k ≠ gi ∧ k ≠ go ∧ gi ≠ go
theorem KH.later {w w' : World} {k gi go m : Nat} {W G : Nat → Nat} (h : KH w k gi go W m G) (hb : Below w.heap.size w w') : KH w' k gi go W m G :=
 ⟨Blk.below h.kb hb (Blk.lt h.kb), h.hi.later hb, h.ho.later hb, h.ne⟩
theorem KH.own {w w' : World} {k gi go m b : Nat} {W G : Nat → Nat} (h : KH w k gi go W m G) (hO : Own b w w') (h1 : k ≠ b) (h2 : gi ≠ b) (h3 : go ≠ b) : KH w' k gi go W m G :=
 ⟨hO.blk h.kb h1, h.hi.own hO h2, h.ho.own hO h3, h.ne⟩
theorem catF_lo {n : Nat} {f g : Nat → Nat} {i : Nat} (h : i < n) : catF n f g i = f i := if_pos h
theorem catF_hi {n : Nat} {f g : Nat → Nat} {i : Nat} (h : ¬ i < n) : catF n f g i = g (i - n) := if_neg h
theorem KH.congr {w : World} {k gi go m : Nat} {W G G' : Nat → Nat} (h : KH w k gi go W m G) (he : ∀ i, i < m → G i = G' i) : KH w k gi go W m G' :=
 ⟨h.kb, h.hi.congr fun i hi => by
  by_cases e : i < 64
  ·rw [catF_lo e, catF_lo e]
  ·rw [catF_hi e, catF_hi e, he _ (by omega)], h.ho, h.ne⟩
def WBk (b : Nat) (W : Nat → Nat) (w : World) : Prop := RB 124 64 b W w
theorem WBk.below {b : Nat} {W : Nat → Nat} {w w' : World} (h : WBk b W w) (hb : Below w.heap.size w w') : WBk b W w' := Blk.below h hb (Blk.lt h)
theorem hmnew_any (oa : Option Addr) (n cap : Nat) (K : Nat → Nat) (w : World) (hb : Bytes w oa n K) (hnc : n ≤ cap) (hn : n < 800000000000) (hno : oa = none → n = 0) (hg : GV w) :
  Calls Tryz.prog 41 #[.slice oa n cap] w fun e w' => ∃ k gi go, e = .returned (.pointer (some ⟨k, 0, none⟩)) ∧ (∀ G, KH w' k gi go (whK n K) 0 G) ∧ Below w.heap.size w w' ∧ w.heap.size < k ∧ w.heap.size < gi ∧ w.heap.size < go := by
 have hz : ∀ w', (zeroValue 124).run Tryz.prog w' = .ok (.agg (rowC 64 (fun _ => 0)).toArray) w' := fun w' => by kernel_rfl
 have hz2 := zero32_run
 obtain ⟨Z, hZ⟩ := zX ((rowC 64 (fun _ => 0)).toArray)
 rw [hZ] at hz
 obtain ⟨wa, hwa⟩ := zX (w.alloc (.cells Z 124))
 have H1 : Hid (RB 124 64 w.heap.size (fun _ => 0) wa ∧ Below w.heap.size w wa ∧ GV wa ∧ Bytes wa oa n K ∧ w.heap.size < wa.heap.size) := zh (by
  have hba : Below w.heap.size w wa := by rw [← hwa]; exact zA
  exact ⟨by rw [← hwa, ← hZ]; exact Blk.new w _ _, hba, hg.later hba, hb.later hba, by rw [← hwa]; simp⟩)
 have HN := zh hn
 have HNC := zh hnc
 have HG := zh hg
 have HNO := zh hno
 have HK : Hid (∀ i, i < n → K i < 256) := zh fun i hi => (hb i hi).1
 obtain ⟨W, hW⟩ := zX (whK n K)
 have HWl : Hid (∀ i, W i < 256) := zh (hW ▸ whK_lt HK.out)
 have HWW := zh hW
 have hn0 : (n : Int) ≤ 9223372036854775807 := by omega
 obtain ⟨CW, hCW⟩ := zX ((rowC 64 W).toArray)
 have HCW := zh hCW
 have HIW : Hid ((Tryz.prog.info? 124).map (·.size) = some CW.size) := zh (by rw [← hCW, rowC_size]; kernel_rfl)
 have HB1 : Hid (∀ w', GV w' → Calls Tryz.prog 62 #[.agg CW, .int .u8 54] w' fun e w'' => ∃ g, e = .returned (.pointer (some ⟨g, 0, none⟩)) ∧ HS w'' g 64 (xoK W 54) ∧ Below w'.heap.size w' w'' ∧ w'.heap.size ≤ g) := zh fun w' h => by
  rw [← hCW]; exact begun_any W 54 w' (fun i _ => HWl.out i) (by decide) h
 have HB2 : Hid (∀ w', GV w' → Calls Tryz.prog 62 #[.agg CW, .int .u8 92] w' fun e w'' => ∃ g, e = .returned (.pointer (some ⟨g, 0, none⟩)) ∧ HS w'' g 64 (xoK W 92) ∧ Below w'.heap.size w' w'' ∧ w'.heap.size ≤ g) := zh fun w' h => by
  rw [← hCW]; exact begun_any W 92 w' (fun i _ => HWl.out i) (by decide) h
 rw [hW]
 clear hCW hb hnc hn hg hW hZ hno
 go_enter Tryz.func41, Tryz.ntmps41
 by_cases h64 : 64 < n
 ·have h1 : (64 : Int) < (n : Int) := by omega
  have HL := zh h64
  clear h64
  go_wp2_with fail
  clear hz
  refine (hash_any oa n cap K _ H1.out.2.2.2.1 HNC.out HN.out H1.out.2.2.1).mono ?_
  rintro e w1 ⟨rfl, hb1⟩
  obtain ⟨D, hD⟩ := zX (shaN n K)
  obtain ⟨CD, hCD⟩ := zX ((rowC 32 D).toArray)
  have HD := zh hD
  have HCD := zh hCD
  have HI : Hid ((Tryz.prog.info? 22).map (·.size) = some CD.size) := zh (hCD ▸ info27 _)
  have HI1 : Hid (CD.all (·.oneCell') = true) := zh (hCD ▸ one32 _)
  rw [hD, hCD]
  obtain ⟨g1, hg1⟩ := zX w1.heap.size
  obtain ⟨wb, hwb⟩ := zX (w1.alloc (.cells zero32 22))
  obtain ⟨w2, hw2⟩ := zX (wb.setCells g1 0 CD.toList)
  have hl := lay32 w1 D hCD
  rw [hg1, hwb, hw2] at hl
  have HTH := zh hl.2.2
  have H2 : Hid (RB 124 64 w.heap.size (fun _ => 0) w2 ∧ Below w.heap.size w w2 ∧ GV w2 ∧ RB 22 32 g1 D w2 ∧ w.heap.size < g1) := zh (by
   obtain ⟨a1, a2, a3, a4, a5⟩ := H1.out
   have h3 : Below wa.heap.size wa w2 := hb1.trans (hl.2.1.mono (by rw [← hg1]; exact hb1.size))
   have := hb1.size
   exact ⟨Blk.below a1 h3 a5, a2.trans (h3.mono a2.size), a3.later h3, hl.1, by omega⟩)
  clear hl hb1 hD hCD H1
  go_wp2_with (first | (refine wpList_store_mid rfl 22 (.tmp 4) (.tmp 9) rfl g1 0 CD rfl rfl HTH.out HI.out HI1.out ?_; rw [hw2]))
  clear hw2 hwb hg1 HTH hz2
  refine still_tail 2 (by kernel_rfl) (by kernel_rfl) ?_
  simp only [List.take_succ_cons, List.take_zero, List.drop_succ_cons, List.drop_zero]
  have H3 : Hid (RB 124 64 w.heap.size (fun _ => 0) w2.drew ∧ Below w.heap.size w w2.drew ∧ GV w2.drew ∧ RB 22 32 g1 D w2.drew) := zh ⟨H2.out.1, H2.out.2.1.drew, H2.out.2.2.1.drew, H2.out.2.2.2.1⟩
  clear H2
  generalize w2.drew = W0 at *
  repeat still_step
  refine wpStill_nil ?_
  obtain ⟨CS, hCS⟩ := zX (rowC 32 D)
  have HCS : Hid (CS.length = 32 ∧ (∀ v ∈ CS, v.oneCell' = true) ∧ ∀ j v, CS[j]? = some v → W0.cell? ((⟨g1, 0, none⟩ : Addr).add j) = some v) := zh (by
   rw [← hCS]
   refine ⟨rowC_len _ _, rowC_one _ _, fun j v hv => ?_⟩
   have hj : j < 32 := by have := (List.getElem?_eq_some_iff.1 hv).1; rw [rowC_len] at this; exact this
   rw [rowC_get _ hj] at hv
   rw [Addr.add_mid, Nat.zero_add]
   exact (H3.out.2.2.2.cell hj).trans hv)
  have HSP : Hid (splice (rowC 64 (fun _ => 0)) 0 CS = rowC 64 W) := zh (by rw [← hCS, ← HD.out, ← HWW.out]; exact whole_large HL.out)
  clear hCS
  refine wpList_copy_splice rfl (.tmp 10) (.tmp 11) 24 24 rfl 5 Tryz.underlying24 info_u8s (some ⟨w.heap.size, 0, none⟩) (some ⟨g1, 0, none⟩) 64 64 32 32 rfl rfl w.heap.size 0 (rowC 64 (fun _ => 0)) 124 H3.out.1 CS (by rw [HCS.out.1]; rfl) (fun _ => ⟨rfl, _, rfl, HCS.out.2.2⟩) (by rw [HCS.out.1, rowC_len]; decide) HCS.out.2.1 w.heap.size w H3.out.2.1 (Nat.le_refl _) ?_
  intro w4 h4 hb4
  rw [HSP.out] at h4
  have H4 : Hid (WBk w.heap.size W w4 ∧ Below w.heap.size w w4 ∧ GV w4) := zh ⟨h4.out, hb4, HG.out.later hb4⟩
  rw [HCS.out.1]
  clear h4 hb4 H3 HCS HSP HI HI1 HD HCD
  go_wp2_with fail
  have hS_0 : WBk w.heap.size W w4.drew := H4.out.1
  have hP_0 : Below w.heap.size w w4.drew := H4.out.2.1.drew
  have hG_0 : GV w4.drew := H4.out.2.2.drew
  clear H4
  refine wp_region_held_drew (S := (WBk w.heap.size W)) (by kernel_rfl) ?_ (fun hHeld => ?_)
  ·(try dsimp only)
   first | assumption
  generalize w4.drew = W0 at *
  refine wT 0 ?_ rfl ?_ ?_
  rotate_left
  ·intro wS hSw
   (refine exec_load64 (x := .tmp 3) (C := CW) ?_ ?_ (by rw [← HCW.out]; exact hSw) HIW.out <;> rfl)
  (try simp only [Act.put, zS])
  refine wT 2 ?_ rfl ?_ ?_
  rotate_left
  ·intro wS hSw
   (refine exec_load64 (x := .tmp 3) (C := CW) ?_ ?_ (by rw [← HCW.out]; exact hSw) HIW.out <;> rfl)
  (try simp only [Act.put, zS])
  refine wR [1] ?_
  refine aN rfl fun K hK => ?_
  go_simp
  (refine (HB1.out _ hG_0).mono ?_; rintro e v_1 ⟨gi, rfl, hI_1, hb_1, hge⟩; have HGI : Hid (w.heap.size < gi) := zh (by have := Blk.lt hS_0; omega); have hS_1 := hS_0.below hb_1; have hP_1 := hP_0.trans (hb_1.mono hP_0.size); have hG_1 := hG_0.later hb_1; clear hb_1 hge hS_0 hP_0 hG_0; skip)
  (try go_wp2_with fail)
  refine hK.out _ _ ?_ fun hHeld => ?_
  ·(try dsimp only)
   first | assumption
  clear hK K
  (try simp only [Act.put, zS])
  refine wR [3] ?_
  refine aN rfl fun K hK => ?_
  go_simp
  (refine (HB2.out _ hG_1).mono ?_; rintro e v_2 ⟨go, rfl, hO_2, hb_2, hge⟩; have HGO : Hid (w.heap.size < go ∧ gi < go) := zh (by have := Blk.lt hS_1; have := hI_1.lt; omega); have hI_2 := hI_1.later hb_2; have hS_2 := hS_1.below hb_2; have hP_2 := hP_1.trans (hb_2.mono hP_1.size); have hG_2 := hG_1.later hb_2; clear hb_2 hge hS_1 hP_1 hG_1 hI_1; skip)
  (try go_wp2_with fail)
  refine hK.out _ _ ?_ fun hHeld => ?_
  ·(try dsimp only)
   first | assumption
  clear hK K
  (try simp only [Act.put, zS])
  refine wT 4 ?_ rfl ?_ ?_
  rotate_left
  ·intro wS hSw
   (refine exec_buildK (x := .tmp 17) (y := .tmp 19) ?_ ?_ ?_ (buildK gi go) <;> rfl)
  (try simp only [Act.put, zS])
  refine wR [5] ?_
  refine aN rfl fun K hK => ?_
  go_simp
  (have hb_3 : Below v_2.heap.size v_2 (v_2.alloc (.cells (kC gi go) 128)) := zA; have hI_3 := hI_2.later hb_3; have hO_3 := hO_2.later hb_3; have hS_3 := hS_2.below hb_3; have hP_3 := hP_2.trans (hb_3.mono hP_2.size); have hG_3 := hG_2.later hb_3; have HE_3 : Hid ((∀ G, KH (v_2.alloc (.cells (kC gi go) 128)) v_2.heap.size gi go W 0 G) ∧ w.heap.size < v_2.heap.size) := zh ⟨fun G => ⟨Blk.new _ _ _, hI_3.congr (fun i hi => (catF_lo hi).symm), hO_3, by have := hI_2.lt; omega, by have := hO_2.lt; omega, by have := HGO.out; omega⟩, Blk.lt hS_2⟩; clear hb_3 hS_2 hP_2 hG_2 hI_3 hO_3 hI_2 hO_2; skip)
  (try go_wp2_with fail)
  refine hK.out _ _ ?_ fun hHeld => ?_
  ·(try dsimp only)
   first | assumption
  clear hK K
  (try simp only [Act.put, zS])
  refine wT 6 ?_ rfl ?_ ?_
  rotate_left
  ·intro wS hSw
   (try dsimp only at hSw)
   go_simp
   (try with_reducible rfl)
  (try simp only [Act.put, zS])
  refine wpAnyH_done (by kernel_rfl) ?_ _
  have HO := zh hP_3
  clear hS_3 hP_3 hG_3
  go_wp2_with fail
  go_ret
  exact ⟨_, gi, go, rfl, HE_3.out.1, HO.out, HE_3.out.2, HGI.out, HGO.out.1⟩
 ·have h1 : ¬ (64 : Int) < (n : Int) := by omega
  have HL := zh h64
  clear h64
  obtain ⟨CS, hCS⟩ := zX (rowC n K)
  have HCS : Hid (CS.length = n ∧ (∀ v ∈ CS, v.oneCell' = true) ∧ (0 < CS.length → ∃ ad, oa = some ad ∧ ∀ j v, CS[j]? = some v → wa.cell? (ad.add j) = some v)) := zh (by
   rw [← hCS]
   refine ⟨rowC_len _ _, rowC_one _ _, fun hp => ?_⟩
   rw [rowC_len] at hp
   obtain ⟨_, b, off, hoa, _⟩ := H1.out.2.2.2.1 0 hp
   refine ⟨_, hoa, fun j v hv => ?_⟩
   have hj : j < n := by have := (List.getElem?_eq_some_iff.1 hv).1; rw [rowC_len] at this; exact this
   rw [rowC_get _ hj] at hv
   obtain ⟨_, b', off', hoa', hcell⟩ := H1.out.2.2.2.1 j hj
   rw [hoa] at hoa'; cases hoa'
   rw [Addr.add_mid]
   exact hcell.trans hv)
  have HSP : Hid (splice (rowC 64 (fun _ => 0)) 0 CS = rowC 64 W) := zh (by rw [← hCS, ← HWW.out]; exact whole_small (by have := HL.out; omega))
  clear hCS
  go_wp2_with (first | (refine wpList_copy_splice rfl (.tmp 13) (.tmp 14) 24 24 rfl 5 Tryz.underlying24 info_u8s (some ⟨w.heap.size, 0, none⟩) oa 64 64 n cap rfl rfl w.heap.size 0 (rowC 64 (fun _ => 0)) 124 H1.out.1 CS (by rw [HCS.out.1]; have := HL.out; show n = min n 64; omega) (fun hp => ⟨rfl, HCS.out.2.2 hp⟩) (by rw [HCS.out.1, rowC_len]; have := HL.out; omega) HCS.out.2.1 w.heap.size w H1.out.2.1 (Nat.le_refl _) ?_; intro w4 h4 hb4; rw [HSP.out] at h4; have H4 : Hid (WBk w.heap.size W w4 ∧ Below w.heap.size w w4 ∧ GV w4) := zh ⟨h4.out, hb4, HG.out.later hb4⟩; rw [HCS.out.1]; clear h4 hb4))
  clear H1 HCS HSP hz hz2
  have hS_0 : WBk w.heap.size W w4.drew := H4.out.1
  have hP_0 : Below w.heap.size w w4.drew := H4.out.2.1.drew
  have hG_0 : GV w4.drew := H4.out.2.2.drew
  clear H4
  refine wp_region_held_drew (S := (WBk w.heap.size W)) (by kernel_rfl) ?_ (fun hHeld => ?_)
  ·(try dsimp only)
   first | assumption
  generalize w4.drew = W0 at *
  refine wT 0 ?_ rfl ?_ ?_
  rotate_left
  ·intro wS hSw
   (refine exec_load64 (x := .tmp 3) (C := CW) ?_ ?_ (by rw [← HCW.out]; exact hSw) HIW.out <;> rfl)
  (try simp only [Act.put, zS])
  refine wT 2 ?_ rfl ?_ ?_
  rotate_left
  ·intro wS hSw
   (refine exec_load64 (x := .tmp 3) (C := CW) ?_ ?_ (by rw [← HCW.out]; exact hSw) HIW.out <;> rfl)
  (try simp only [Act.put, zS])
  refine wR [1] ?_
  refine aN rfl fun K hK => ?_
  go_simp
  (refine (HB1.out _ hG_0).mono ?_; rintro e v_4 ⟨gi, rfl, hI_4, hb_4, hge⟩; have HGI : Hid (w.heap.size < gi) := zh (by have := Blk.lt hS_0; omega); have hS_4 := hS_0.below hb_4; have hP_4 := hP_0.trans (hb_4.mono hP_0.size); have hG_4 := hG_0.later hb_4; clear hb_4 hge hS_0 hP_0 hG_0; skip)
  (try go_wp2_with fail)
  refine hK.out _ _ ?_ fun hHeld => ?_
  ·(try dsimp only)
   first | assumption
  clear hK K
  (try simp only [Act.put, zS])
  refine wR [3] ?_
  refine aN rfl fun K hK => ?_
  go_simp
  (refine (HB2.out _ hG_4).mono ?_; rintro e v_5 ⟨go, rfl, hO_5, hb_5, hge⟩; have HGO : Hid (w.heap.size < go ∧ gi < go) := zh (by have := Blk.lt hS_4; have := hI_4.lt; omega); have hI_5 := hI_4.later hb_5; have hS_5 := hS_4.below hb_5; have hP_5 := hP_4.trans (hb_5.mono hP_4.size); have hG_5 := hG_4.later hb_5; clear hb_5 hge hS_4 hP_4 hG_4 hI_4; skip)
  (try go_wp2_with fail)
  refine hK.out _ _ ?_ fun hHeld => ?_
  ·(try dsimp only)
   first | assumption
  clear hK K
  (try simp only [Act.put, zS])
  refine wT 4 ?_ rfl ?_ ?_
  rotate_left
  ·intro wS hSw
   (refine exec_buildK (x := .tmp 17) (y := .tmp 19) ?_ ?_ ?_ (buildK gi go) <;> rfl)
  (try simp only [Act.put, zS])
  refine wR [5] ?_
  refine aN rfl fun K hK => ?_
  go_simp
  (have hb_6 : Below v_5.heap.size v_5 (v_5.alloc (.cells (kC gi go) 128)) := zA; have hI_6 := hI_5.later hb_6; have hO_6 := hO_5.later hb_6; have hS_6 := hS_5.below hb_6; have hP_6 := hP_5.trans (hb_6.mono hP_5.size); have hG_6 := hG_5.later hb_6; have HE_6 : Hid ((∀ G, KH (v_5.alloc (.cells (kC gi go) 128)) v_5.heap.size gi go W 0 G) ∧ w.heap.size < v_5.heap.size) := zh ⟨fun G => ⟨Blk.new _ _ _, hI_6.congr (fun i hi => (catF_lo hi).symm), hO_6, by have := hI_5.lt; omega, by have := hO_5.lt; omega, by have := HGO.out; omega⟩, Blk.lt hS_5⟩; clear hb_6 hS_5 hP_5 hG_5 hI_6 hO_6 hI_5 hO_5; skip)
  (try go_wp2_with fail)
  refine hK.out _ _ ?_ fun hHeld => ?_
  ·(try dsimp only)
   first | assumption
  clear hK K
  (try simp only [Act.put, zS])
  refine wT 6 ?_ rfl ?_ ?_
  rotate_left
  ·intro wS hSw
   (try dsimp only at hSw)
   go_simp
   (try with_reducible rfl)
  (try simp only [Act.put, zS])
  refine wpAnyH_done (by kernel_rfl) ?_ _
  have HO := zh hP_6
  clear hS_6 hP_6 hG_6
  go_wp2_with fail
  go_ret
  exact ⟨_, gi, go, rfl, HE_6.out.1, HO.out, HE_6.out.2, HGI.out, HGO.out.1⟩
set_option maxHeartbeats 2000000
theorem KH.cell0 {w : World} {k gi go m : Nat} {W G : Nat → Nat} (h : KH w k gi go W m G) : w.cell? ⟨k, 0, none⟩ = some (.pointer (some ⟨gi, 0, none⟩)) := by
 rw [Blk.cell h.kb]; rfl
theorem KH.cell1 {w : World} {k gi go m : Nat} {W G : Nat → Nat} (h : KH w k gi go W m G) : w.cell? ⟨k, 1, none⟩ = some (.pointer (some ⟨go, 0, none⟩)) := by
 rw [Blk.cell h.kb]; rfl
theorem kwrite_any (k gi go m l cap : Nat) (oa : Option Addr) (W G E : Nat → Nat) (w : World) (h : KH w k gi go W m G) (hb : Bytes w oa l E) (hlc : l ≤ cap) (hne : ∀ a, oa = some a → 0 < l → a.block ≠ gi) (hn : m + l < 900000000000) (hg : GV w) :
  Calls Tryz.prog 42 #[.pointer (some ⟨k, 0, none⟩), .slice oa l cap] w fun e w' => e = .returned (.tuple #[]) ∧ KH w' k gi go W (m + l) (catF m G E) ∧ Own gi w w' := by
 have hc0 := h.cell0
 have H := zh h
 have HW : Hid (Calls Tryz.prog 63 #[.pointer (some ⟨gi, 0, none⟩), .slice oa l cap] w fun e w' => e = .returned (.tuple #[]) ∧ KH w' k gi go W (m + l) (catF m G E) ∧ Own gi w w') := zh (by
  refine (write_any gi (64 + m) l cap oa (catF 64 (xoK W 54) G) E w h.hi hb hlc hne (by omega) hg).mono ?_
  rintro e w' ⟨rfl, hS, hO⟩
  refine ⟨rfl, ⟨hO.blk h.kb h.ne.1, ?_, h.ho.own hO h.ne.2.2.symm, h.ne⟩, hO⟩
  rw [← Nat.add_assoc]
  refine hS.congr fun i hi => ?_
  by_cases e1 : i < 64
  ·rw [catF_lo (by omega), catF_lo e1, catF_lo e1]
  ·by_cases e2 : i < 64 + m
   ·rw [catF_lo e2, catF_hi e1, catF_hi e1, catF_lo (by omega)]
   ·rw [catF_hi e2, catF_hi e1, catF_hi (by omega)]; congr 1; omega)
 clear h hb hlc hne hn hg
 go_enter Tryz.func42, Tryz.ntmps42
 go_wp2_with fail
 refine HW.out.mono ?_
 rintro e w' ⟨rfl, hK, hO⟩
 have HR := zh (And.intro hK hO)
 clear hK hO HW
 go_wp2_with fail
 refine bodyPost_end (v := .tuple #[]) (by simp [results, Tryz.results42, go_sem]) rfl ?_
 exact ⟨rfl, HR.out⟩
theorem ksum_any (k gi go m : Nat) (W G : Nat → Nat) (w : World) (h : KH w k gi go W m G) (hn : m < 800000000000) (hg : GV w) :
  Calls Tryz.prog 43 #[.pointer (some ⟨k, 0, none⟩)] w fun e w' => e = .returned (.agg (rowC 32 (hmK W m G)).toArray) ∧ Below w.heap.size w w' := by
 have hz := zero32_run
 obtain ⟨wa, hwa⟩ := zX (w.alloc (.cells zero32 22))
 obtain ⟨D, hD⟩ := zX (shaN (64 + m) (catF 64 (xoK W 54) G))
 obtain ⟨M, hM⟩ := zX (hmK W m G)
 obtain ⟨CD, hCD⟩ := zX ((rowC 32 D).toArray)
 obtain ⟨CM, hCM⟩ := zX ((rowC 32 M).toArray)
 have H1 : Hid (RB 22 32 w.heap.size (fun _ => 0) wa ∧ Below w.heap.size w wa ∧ GV wa ∧ KH wa k gi go W m G) := zh (by
  have hba : Below w.heap.size w wa := by rw [← hwa]; exact zA
  exact ⟨by rw [← hwa]; exact Blk.new w _ _, hba, hg.later hba, h.later hba⟩)
 have HS1 : Hid (∀ w', KH w' k gi go W m G → GV w' → Calls Tryz.prog 64 #[.pointer (some ⟨gi, 0, none⟩)] w' fun e w'' => e = .returned (.agg CD) ∧ Below w'.heap.size w' w'') := zh fun w' h h' => by
  rw [← hCD, ← hD]; exact hsum_any gi (64 + m) _ w' h.hi (by omega) h'
 have HS2 : Hid (∀ g w', HS w' g (64 + 32) (catF 64 (xoK W 92) D) → GV w' → Calls Tryz.prog 64 #[.pointer (some ⟨g, 0, none⟩)] w' fun e w'' => e = .returned (.agg CM) ∧ Below w'.heap.size w' w'') := zh fun g w' h h' => by
  rw [← hCM, ← hM]; unfold hmK; rw [hD]; exact hsum_any g (64 + 32) _ w' h (by omega) h'
 have HI : Hid ((Tryz.prog.info? 22).map (·.size) = some CD.size) := zh (hCD ▸ info27 _)
 have HI1 : Hid (CD.all (·.oneCell') = true) := zh (hCD ▸ one32 _)
 have HJ : Hid ((Tryz.prog.info? 22).map (·.size) = some CM.size) := zh (hCM ▸ info27 _)
 have HJ1 : Hid (CM.all (·.oneCell') = true) := zh (hCM ▸ one32 _)
 have HCD := zh hCD
 have HCM := zh hCM
 have HD8 : Hid (∀ i, D i < 256) := zh (hD ▸ shaN_b _ _)
 rw [hM, hCM]
 have hc0 := H1.out.2.2.2.cell0
 clear h hn hg hD hM hCD hCM
 go_enter Tryz.func43, Tryz.ntmps43
 go_wp2_with fail
 clear hc0 hwa
 refine (HS1.out _ H1.out.2.2.2 H1.out.2.2.1).mono ?_
 rintro e w1 ⟨rfl, hb1⟩
 obtain ⟨g1, hg1⟩ := zX w1.heap.size
 obtain ⟨wb, hwb⟩ := zX (w1.alloc (.cells zero32 22))
 obtain ⟨w2, hw2⟩ := zX (wb.setCells g1 0 CD.toList)
 have hl := lay32 w1 D HCD.out
 rw [hg1, hwb, hw2] at hl
 have HTH := zh hl.2.2
 have H2 : Hid (RB 22 32 w.heap.size (fun _ => 0) w2 ∧ Below w.heap.size w w2 ∧ GV w2 ∧ KH w2 k gi go W m G ∧ RB 22 32 g1 D w2 ∧ w.heap.size < g1) := zh (by
  obtain ⟨a1, a2, a3, a4⟩ := H1.out
  have h3 : Below wa.heap.size wa w2 := hb1.trans (hl.2.1.mono (by rw [← hg1]; exact hb1.size))
  have := hb1.size
  have hlt := Blk.lt a1
  exact ⟨Blk.below a1 h3 hlt, a2.trans (h3.mono a2.size), a3.later h3, a4.later h3, hl.1, by omega⟩)
 clear hl hb1 H1
 have hc1 := H2.out.2.2.2.1.cell1
 go_wp2_with (first | (refine wpList_store_mid rfl 22 (.tmp 3) (.tmp 12) rfl g1 0 CD rfl rfl HTH.out HI.out HI1.out ?_; rw [hw2]))
 clear hw2 hwb hg1 HTH hz hc1
 refine (hclone_any go 64 _ _ H2.out.2.2.2.1.ho H2.out.2.2.1).mono ?_
 rintro e w3 ⟨gc, rfl, hcl, hb3, hgc⟩
 have H3 : Hid (RB 22 32 w.heap.size (fun _ => 0) w3 ∧ Below w.heap.size w w3 ∧ GV w3 ∧ HS w3 gc 64 (xoK W 92) ∧ RB 22 32 g1 D w3 ∧ w.heap.size < g1 ∧ g1 < gc) := zh (by
  obtain ⟨a1, a2, a3, a4, a5, a6⟩ := H2.out
  have hlt := Blk.lt a5
  exact ⟨Blk.below a1 hb3 (Blk.lt a1), a2.trans (hb3.mono a2.size), a3.later hb3, hcl, Blk.below a5 hb3 hlt, a6, by omega⟩)
 clear hcl hb3 hgc H2
 go_wp2_with fail
 refine (write_any gc 64 32 32 (some ⟨g1, 0, none⟩) (xoK W 92) D _ H3.out.2.2.2.1 (RB.bytes H3.out.2.2.2.2.1 fun i _ => HD8.out i) (Nat.le_refl _) (fun a ha _ => by cases ha; have := H3.out.2.2.2.2.2.2; show g1 ≠ gc; omega) (by decide) H3.out.2.2.1).mono ?_
 rintro e w4 ⟨rfl, hS, hO⟩
 have H4 : Hid (RB 22 32 w.heap.size (fun _ => 0) w4 ∧ Below w.heap.size w w4 ∧ GV w4 ∧ HS w4 gc (64 + 32) (catF 64 (xoK W 92) D)) := zh (by
  obtain ⟨a1, a2, a3, a4, a5, a6, a7⟩ := H3.out
  exact ⟨hO.blk a1 (by omega), a2.trans (hO.below (by omega) a2.size), a3.own hO a4.1.1 a4.1.2, hS⟩)
 clear hS hO H3
 go_wp2_with fail
 refine (HS2.out _ _ H4.out.2.2.2 H4.out.2.2.1).mono ?_
 rintro e w5 ⟨rfl, hb5⟩
 have H5 : Hid (RB 22 32 w.heap.size (fun _ => 0) w5 ∧ Below w.heap.size w w5) := zh (by
  obtain ⟨a1, a2, a3, a4⟩ := H4.out
  exact ⟨Blk.below a1 hb5 (Blk.lt a1), a2.trans (hb5.mono a2.size)⟩)
 clear hb5 H4
 have HX : Hid (Blk (w5.setCells w.heap.size 0 CM.toList) w.heap.size CM 22 ∧ w5.there w.heap.size 0 CM.size) := zh (by
  rw [← HCM.out]; exact ⟨Blk.setCells H5.out.1 (rowC 32 M) (by rw [rowC_size, rowC_len]), Blk.there H5.out.1 (by rw [rowC_size, rowC_size]; exact Nat.le_refl _)⟩)
 have HO : Hid (Below w.heap.size w (w5.setCells w.heap.size 0 CM.toList)) := zh (H5.out.2.trans ((Own.setCells _ 0 w5).below (Nat.le_refl _) H5.out.2.size))
 go_wp2_with (first | (refine wpList_store_mid rfl 22 (.tmp 2) (.tmp 22) rfl w.heap.size 0 CM rfl rfl HX.out.2 HJ.out HJ1.out ?_))
 refine bodyPost_ret (v := .agg CM) ?_ rfl ⟨rfl, HO.out⟩
 exact results_cell_row Tryz.results43 _ _ w.heap.size 22 CM (0, 0) _ rfl HX.out.1 Tryz.underlying22 rfl HJ.out
def hmN (n : Nat) (K : Nat → Nat) (m : Nat) (G : Nat → Nat) : Nat → Nat := hmK (whK n K) m G
theorem mac_any (oa ob : Option Addr) (n cn m cm : Nat) (K G : Nat → Nat) (w : World) (hb : Bytes w oa n K) (hnc : n ≤ cn) (hno : oa = none → n = 0) (hn : n < 800000000000) (hb2 : Bytes w ob m G) (hmc : m ≤ cm) (hm : m < 800000000000) (hg : GV w) :
  Calls Tryz.prog 24 #[.slice oa n cn, .slice ob m cm] w fun e w' => e = .returned (.agg (rowC 32 (hmN n K m G)).toArray) ∧ Below w.heap.size w w' := by
 have hz := zero32_run
 obtain ⟨wa, hwa⟩ := zX (w.alloc (.cells zero32 22))
 obtain ⟨W, hW⟩ := zX (whK n K)
 obtain ⟨M, hM⟩ := zX (hmK W m G)
 obtain ⟨CM, hCM⟩ := zX ((rowC 32 M).toArray)
 have H1 : Hid (RB 22 32 w.heap.size (fun _ => 0) wa ∧ Below w.heap.size w wa ∧ GV wa ∧ Bytes wa oa n K ∧ Bytes wa ob m G ∧ w.heap.size < wa.heap.size) := zh (by
  have hba : Below w.heap.size w wa := by rw [← hwa]; exact zA
  exact ⟨by rw [← hwa]; exact Blk.new w _ _, hba, hg.later hba, hb.later hba, hb2.later hba, by rw [← hwa]; simp⟩)
 have HB2 : Hid (∀ a, ob = some a → 0 < m → a.block < w.heap.size) := zh hb2.lt
 have HNM : Hid (n ≤ cn ∧ n < 800000000000 ∧ m ≤ cm ∧ m < 800000000000) := zh ⟨hnc, hn, hmc, hm⟩
 have HNO := zh hno
 have HS1 : Hid (∀ k gi go w', KH w' k gi go W m G → GV w' → Calls Tryz.prog 43 #[.pointer (some ⟨k, 0, none⟩)] w' fun e w'' => e = .returned (.agg CM) ∧ Below w'.heap.size w' w'') := zh fun k gi go w' h h' => by
  rw [← hCM, ← hM]; exact ksum_any k gi go m W G w' h (by omega) h'
 have HJ : Hid ((Tryz.prog.info? 22).map (·.size) = some CM.size) := zh (hCM ▸ info27 _)
 have HJ1 : Hid (CM.all (·.oneCell') = true) := zh (hCM ▸ one32 _)
 have HCM := zh hCM
 have HW := zh hW
 unfold hmN
 rw [hW, hM, hCM]
 clear hb hb2 hnc hn hno hmc hm hg hW hM hCM
 go_enter Tryz.func24, Tryz.ntmps24
 go_wp2_with fail
 clear hwa hz
 refine (hmnew_any oa n cn K _ H1.out.2.2.2.1 HNM.out.1 HNM.out.2.1 HNO.out H1.out.2.2.1).mono ?_
 rintro e w1 ⟨k, gi, go, rfl, hK, hb1, hk1, hk2, hk3⟩
 have H2 : Hid (RB 22 32 w.heap.size (fun _ => 0) w1 ∧ Below w.heap.size w w1 ∧ GV w1 ∧ KH w1 k gi go W 0 G ∧ Bytes w1 ob m G ∧ w.heap.size < gi) := zh (by
  obtain ⟨a1, a2, a3, a4, a5, a6⟩ := H1.out
  exact ⟨Blk.below a1 hb1 a6, a2.trans (hb1.mono a2.size), a3.later hb1, HW.out ▸ hK G, a5.later hb1, by omega⟩)
 clear hK hb1 hk1 hk2 hk3 H1
 go_wp2_with fail
 refine (kwrite_any k gi go 0 m cm ob W G G _ H2.out.2.2.2.1 H2.out.2.2.2.2.1 HNM.out.2.2.1 (fun a ha hm => by have := HB2.out a ha hm; have := H2.out.2.2.2.2.2; omega) (by have := HNM.out; omega) H2.out.2.2.1).mono ?_
 rintro e w2 ⟨rfl, hK, hO⟩
 have H3 : Hid (RB 22 32 w.heap.size (fun _ => 0) w2 ∧ Below w.heap.size w w2 ∧ GV w2 ∧ KH w2 k gi go W m G) := zh (by
  obtain ⟨a1, a2, a3, a4, a5, a6⟩ := H2.out
  rw [Nat.zero_add] at hK
  exact ⟨hO.blk a1 (by omega), a2.trans (hO.below (by omega) a2.size), a3.own hO a4.hi.1.1 a4.hi.1.2, hK.congr fun i _ => by rw [catF_hi (Nat.not_lt_zero _), Nat.sub_zero]⟩)
 clear hK hO H2
 go_wp2_with fail
 refine (HS1.out _ _ _ _ H3.out.2.2.2 H3.out.2.2.1).mono ?_
 rintro e w5 ⟨rfl, hb5⟩
 have H5 : Hid (RB 22 32 w.heap.size (fun _ => 0) w5 ∧ Below w.heap.size w w5) := zh (by
  obtain ⟨a1, a2, a3, a4⟩ := H3.out
  exact ⟨Blk.below a1 hb5 (Blk.lt a1), a2.trans (hb5.mono a2.size)⟩)
 clear hb5 H3
 have HX : Hid (Blk (w5.setCells w.heap.size 0 CM.toList) w.heap.size CM 22 ∧ w5.there w.heap.size 0 CM.size) := zh (by
  rw [← HCM.out]; exact ⟨Blk.setCells H5.out.1 (rowC 32 M) (by rw [rowC_size, rowC_len]), Blk.there H5.out.1 (by rw [rowC_size, rowC_size]; exact Nat.le_refl _)⟩)
 have HO : Hid (Below w.heap.size w (w5.setCells w.heap.size 0 CM.toList)) := zh (H5.out.2.trans ((Own.setCells _ 0 w5).below (Nat.le_refl _) H5.out.2.size))
 go_wp2_with (first | (refine wpList_store_mid rfl 22 (.tmp 4) (.tmp 12) rfl w.heap.size 0 CM rfl rfl HX.out.2 HJ.out HJ1.out ?_))
 refine bodyPost_ret (v := .agg CM) ?_ rfl ⟨rfl, HO.out⟩
 exact results_cell_row Tryz.results24 _ _ w.heap.size 22 CM (0, 0) _ rfl HX.out.1 Tryz.underlying22 rfl HJ.out
end Go.Proofs.YtncfocjmdecapaaGreatDoor
