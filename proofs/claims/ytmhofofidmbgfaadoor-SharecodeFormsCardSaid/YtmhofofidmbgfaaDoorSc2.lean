/- sharecode.Decode: the error. -/
import Derived.Test.YtmhofofidmbgfaaDoorSc1
namespace Go.Proofs.YtmhofofidmbgfaaDoor
set_option linter.unusedVariables false
set_option linter.unusedSimpArgs false
open Go.RowKit

theorem info_sh3 : (Tryd.prog.info? 52).map (·.size) = some 3 := by kernel_rfl
theorem zsh3_run (w : World) : (zeroValue 52).run Tryd.prog w = .ok (.agg #[.int .u8 0, .int .u32 0, .slice none 0 0]) w := by kernel_rfl
theorem bzsh3 (w : World) : (Instr.build 52 #[]).run Tryd.prog w = .ok (.agg #[.int .u8 0, .int .u32 0, .slice none 0 0]) w := run_build w 52 _ _ (by kernel_rfl)
theorem bsh3 (x g : Int) (oa : Option Addr) (n c : Nat) (w : World) : (Instr.build 52 #[(0, .int .u8 x), (1, .int .u32 g), (2, .slice oa n c)]).run Tryd.prog w = .ok (.agg #[.int .u8 x, .int .u32 g, .slice oa n c]) w := run_build w 52 _ _ (by kernel_rfl)
theorem exec_bM {o : Oper} {a : Act} {w : World} {ty : TypeId} {C : Array Value} {parts : Array (Nat × Operand)} {ps : Array (Nat × Value)} (ho : o.op = .build ty parts) (hp : (parts.map fun (i, x) => (i, a.eval x)) = ps) (h : ∀ w, (Instr.build ty ps).run Tryd.prog w = .ok (.agg C) w) : (execOp a.eval o).run Tryd.prog w = .ok (.value (.agg C)) w := by
  unfold execOp
  simp only [ho, hp, Sem.run_bind, h, Result.andThen_ok]
  rfl
theorem one_sh3 (a b : Int) (k k2 : IntKind) (oa : Option Addr) (n c : Nat) : (#[Value.int k a, Value.int k2 b, Value.slice oa n c] : Array Value).all (·.oneCell') = true := all_oneCell_toArray fun v hv => by
  simp at hv
  rcases hv with rfl | rfl | rfl <;> rfl
theorem Blk.wh3 {w : World} {b : Nat} {D : Array Value} {t : TypeId} (h : Blk w b D t) (hs : D.size = 3) (x y z : Value) : Blk (w.setCells b 0 [x, y, z]) b #[x, y, z] t := Blk.setCells h [x, y, z] hs.symm
theorem step_sM {ops : Array Oper} {o : Oper} {a : Act} {w : World} {K : Act → World → Prop} {Q : Exit → Act → World → Prop} {E : Prop} (hgd : o.guard = none) (ty : TypeId) (x y : Operand) (ho : o.op = .store ty x y) (b off : Nat) (cells : Array Value) (hx : a.eval x = .pointer (some ⟨b, off, none⟩)) (hy : a.eval y = .agg cells)
    (ht : w.there b off cells.size) (hi : (Tryd.prog.info? ty).map (·.size) = some cells.size) (h1 : cells.all (·.oneCell') = true) (h : K (a.put o.dst undef) (w.setCells b off cells.toList)) : if Region.wanted o (yielded ops a.tmps) = true then Oper.wp Tryd.prog o a w K Q else E := by
  have hw : Region.wanted o (yielded ops a.tmps) = true := by simp [Region.wanted, hgd]
  rw [if_pos hw]
  exact wp_store_mid ty x y ho b off cells hx hy ht hi h1 h
theorem res_cell_tmp {P : Program} {fn : Func} {p q : Tmp} {ty : TypeId} (h : fn.results = #[.cell p ty, .tmp q]) (tmps : Array Value) (w : World) (g : Nat) (t : TypeId) (cs : Array Value) (fr : Nat × Nat) (d : TypeDesc)
    (hp : tmps.getD p undef = .pointer (some ⟨g, 0, none⟩)) (hg : w.heap[g]? = some (.cells cs t fr))
    (hu : P.underlying ty = some d) (hd : (match d with | .struct _ | .array _ _ => true | _ => false) = true) (hi : (P.info? ty).map (·.size) = some cs.size) :
    (results fn tmps).run P w = .ok (.tuple #[.agg cs, tmps.getD q undef]) w := by
  have hp' : tmps[p]?.getD undef = .pointer (some ⟨g, 0, none⟩) := by simpa using hp
  simp [results, h, hp', asAddr, run_loadVar_row w g t ty cs fr d hg hu hd hi]
/-- A block of a part, stored over whole. -/
def zSh : Value := .agg #[.int .u8 0, .int .u32 0, .slice none 0 0]

set_option maxRecDepth 100000 in
set_option maxHeartbeats 4000000 in
theorem dec_bad (n cap : Nat) (oa : Option Addr) (f : Nat → Nat) (w : World) (hn : n < 9000000000000000000) (hB : Bytes w oa n f) (hm : ¬ IsEnc n f) :
    Calls Tryd.prog 31 #[.slice oa n cap] w fun e w' => e = .returned (.tuple #[zSh, eN]) ∧ Below w.heap.size w w' := by
  obtain ⟨w0, hw0⟩ : ∃ y, w.alloc (.cells #[.int .u8 0, .int .u32 0, .slice none 0 0] 52) = y := ⟨_, rfl⟩
  obtain ⟨b2, hb2⟩ : ∃ y, w.heap.size = y := ⟨_, rfl⟩
  have hB2 : Blk w0 b2 #[.int .u8 0, .int .u32 0, .slice none 0 0] 52 := by rw [← hw0, ← hb2]; exact Blk.new _ _ _
  have hbl : Below w.heap.size w w0 := by rw [← hw0]; exact (Below.refl _ _).alloc (Nat.le_refl _) _
  have HX : Hid (Blk (w0.setCells b2 0 [.int .u8 0, .int .u32 0, .slice none 0 0]) b2 #[.int .u8 0, .int .u32 0, .slice none 0 0] 52 ∧ Below w.heap.size w (w0.setCells b2 0 [.int .u8 0, .int .u32 0, .slice none 0 0])) :=
    Lib.hid ⟨hB2.wh3 rfl _ _ _, hbl.trans ((Own.setCells (b := b2) _ 0 w0).below (by omega) hbl.size)⟩
  have HTH : Hid (w0.there b2 0 3) := Lib.hid (hB2.there (by decide))
  have hz := zsh3_run
  have HBY := Lib.hid (hB.later hbl)
  clear hB2 hbl hB
  unfold zSh eN
  by_cases h1 : n ≤ 8
  · have q1 : (n : Int) ≤ 8 := by omega
    clear hm HBY h1
    go_enter Tryd.func31, Tryd.ntmps31
    rw [hb2]
    go_wp2_with (first | (refine wpList_value rfl (exec_bM (parts := #[]) (ps := #[]) (C := #[.int .u8 0, .int .u32 0, .slice none 0 0]) rfl rfl bzsh3) ?_) | (refine wpList_store_mid rfl 52 (.tmp 2) (.tmp 25) rfl b2 0 #[.int .u8 0, .int .u32 0, .slice none 0 0] rfl rfl HTH.out info_sh3 (one_sh3 _ _ _ _ _ _ _) ?_))
    refine bodyPost_ret (v := .tuple #[.agg #[.int .u8 0, .int .u32 0, .slice none 0 0], .iface 81 (.int .i64 4)]) ?_ rfl ⟨rfl, hb2 ▸ HX.out.2⟩
    exact res_cell_tmp Tryd.results31 _ _ b2 52 #[.int .u8 0, .int .u32 0, .slice none 0 0] (0, 0) _ rfl HX.out.1 Tryd.underlying52 rfl info_sh3
  have q1 : decide ((n : Int) ≤ 8) = false := decide_eq_false (by omega)
  by_cases h2 : 72 < n
  · have q2 : (72 : Int) < (n : Int) := by omega
    clear hm HBY h1 h2
    go_enter Tryd.func31, Tryd.ntmps31
    rw [hb2]
    go_wp2_with (first | (refine wpList_value rfl (exec_bM (parts := #[]) (ps := #[]) (C := #[.int .u8 0, .int .u32 0, .slice none 0 0]) rfl rfl bzsh3) ?_) | (refine wpList_store_mid rfl 52 (.tmp 2) (.tmp 25) rfl b2 0 #[.int .u8 0, .int .u32 0, .slice none 0 0] rfl rfl HTH.out info_sh3 (one_sh3 _ _ _ _ _ _ _) ?_))
    refine bodyPost_ret (v := .tuple #[.agg #[.int .u8 0, .int .u32 0, .slice none 0 0], .iface 81 (.int .i64 4)]) ?_ rfl ⟨rfl, hb2 ▸ HX.out.2⟩
    exact res_cell_tmp Tryd.results31 _ _ b2 52 #[.int .u8 0, .int .u32 0, .slice none 0 0] (0, 0) _ rfl HX.out.1 Tryd.underlying52 rfl info_sh3
  have q2 : decide ((72 : Int) < (n : Int)) = false := decide_eq_false (by omega)
  obtain ⟨_, b, off, rfl, x0⟩ := HBY.out 0 (by omega)
  rw [Nat.add_zero] at x0
  have x1 : w0.cell? ⟨b, off + 1, none⟩ = some (.int .u8 (f 1 : Int)) := by obtain ⟨_, b', o', e, h⟩ := HBY.out 1 (by omega); cases e; exact h
  have x6 : w0.cell? ⟨b, off + 6, none⟩ = some (.int .u8 (f 6 : Int)) := by obtain ⟨_, b', o', e, h⟩ := HBY.out 6 (by omega); cases e; exact h
  have x7 : w0.cell? ⟨b, off + 7, none⟩ = some (.int .u8 (f 7 : Int)) := by obtain ⟨_, b', o', e, h⟩ := HBY.out 7 (by omega); cases e; exact h
  have hlt := (HBY.out 7 (by omega)).1
  have i0 : (0 : Int) < (n : Int) := by omega
  have i1 : (1 : Int) < (n : Int) := by omega
  have i6 : (6 : Int) < (n : Int) := by omega
  have i7 : (7 : Int) < (n : Int) := by omega
  have n0 : 0 < n := by omega
  have n1 : 1 < n := by omega
  have n6 : 6 < n := by omega
  have n7 : 7 < n := by omega
  obtain ⟨a0, e0⟩ : ∃ y, f 0 = y := ⟨_, rfl⟩
  obtain ⟨a1, e1⟩ : ∃ y, f 1 = y := ⟨_, rfl⟩
  obtain ⟨a6, e6⟩ : ∃ y, f 6 = y := ⟨_, rfl⟩
  obtain ⟨a7, e7⟩ : ∃ y, f 7 = y := ⟨_, rfl⟩
  have hm' : ¬ (a0 = 115 ∧ a1 = 104 ∧ a6 ≠ 0 ∧ a7 = n - 8) := fun h => hm ⟨by omega, by omega, e0.trans h.1, e1.trans h.2.1, by rw [e6]; exact h.2.2.1, e7.trans h.2.2.2⟩
  rw [e0] at x0
  rw [e1] at x1
  rw [e6] at x6
  rw [e7] at x7 hlt
  clear hm HBY e0 e1 e6 e7
  by_cases h3 : a0 = 115
  rotate_left
  · have q3 : ((a0 : Int) == 115) = false := by rw [beq_eq_false_iff_ne]; omega
    have q3' : (a0 : Int) ≠ 115 := by omega
    clear hm' h1 h2 h3 x1 x6 x7
    go_enter Tryd.func31, Tryd.ntmps31
    rw [hb2]
    go_wp2_with (first | (refine wpList_value rfl (exec_bM (parts := #[]) (ps := #[]) (C := #[.int .u8 0, .int .u32 0, .slice none 0 0]) rfl rfl bzsh3) ?_) | (refine wpList_store_mid rfl 52 (.tmp 2) (.tmp 25) rfl b2 0 #[.int .u8 0, .int .u32 0, .slice none 0 0] rfl rfl HTH.out info_sh3 (one_sh3 _ _ _ _ _ _ _) ?_))
    refine bodyPost_ret (v := .tuple #[.agg #[.int .u8 0, .int .u32 0, .slice none 0 0], .iface 81 (.int .i64 4)]) ?_ rfl ⟨rfl, hb2 ▸ HX.out.2⟩
    exact res_cell_tmp Tryd.results31 _ _ b2 52 #[.int .u8 0, .int .u32 0, .slice none 0 0] (0, 0) _ rfl HX.out.1 Tryd.underlying52 rfl info_sh3
  have q3 : ((a0 : Int) == 115) = true := by rw [beq_iff_eq]; omega
  have q3' : (a0 : Int) = 115 := by omega
  by_cases h4 : a1 = 104
  rotate_left
  · have q4 : ((a1 : Int) == 104) = false := by rw [beq_eq_false_iff_ne]; omega
    have q4' : (a1 : Int) ≠ 104 := by omega
    clear hm' h1 h2 h3 h4 x6 x7
    go_enter Tryd.func31, Tryd.ntmps31
    rw [hb2]
    go_wp2_with (first | (refine wpList_value rfl (exec_bM (parts := #[]) (ps := #[]) (C := #[.int .u8 0, .int .u32 0, .slice none 0 0]) rfl rfl bzsh3) ?_) | (refine wpList_store_mid rfl 52 (.tmp 2) (.tmp 25) rfl b2 0 #[.int .u8 0, .int .u32 0, .slice none 0 0] rfl rfl HTH.out info_sh3 (one_sh3 _ _ _ _ _ _ _) ?_))
    refine bodyPost_ret (v := .tuple #[.agg #[.int .u8 0, .int .u32 0, .slice none 0 0], .iface 81 (.int .i64 4)]) ?_ rfl ⟨rfl, hb2 ▸ HX.out.2⟩
    exact res_cell_tmp Tryd.results31 _ _ b2 52 #[.int .u8 0, .int .u32 0, .slice none 0 0] (0, 0) _ rfl HX.out.1 Tryd.underlying52 rfl info_sh3
  have q4 : ((a1 : Int) == 104) = true := by rw [beq_iff_eq]; omega
  have q4' : (a1 : Int) = 104 := by omega
  by_cases h5 : a6 = 0
  · have q5 : ((a6 : Int) == 0) = true := by rw [beq_iff_eq]; omega
    have q5' : (a6 : Int) = 0 := by omega
    clear hm' h1 h2 h3 h4 h5 x7
    go_enter Tryd.func31, Tryd.ntmps31
    rw [hb2]
    go_wp2_with (first | (refine wpList_value rfl (exec_bM (parts := #[]) (ps := #[]) (C := #[.int .u8 0, .int .u32 0, .slice none 0 0]) rfl rfl bzsh3) ?_) | (refine wpList_store_mid rfl 52 (.tmp 2) (.tmp 41) rfl b2 0 #[.int .u8 0, .int .u32 0, .slice none 0 0] rfl rfl HTH.out info_sh3 (one_sh3 _ _ _ _ _ _ _) ?_))
    refine bodyPost_ret (v := .tuple #[.agg #[.int .u8 0, .int .u32 0, .slice none 0 0], .iface 81 (.int .i64 4)]) ?_ rfl ⟨rfl, hb2 ▸ HX.out.2⟩
    exact res_cell_tmp Tryd.results31 _ _ b2 52 #[.int .u8 0, .int .u32 0, .slice none 0 0] (0, 0) _ rfl HX.out.1 Tryd.underlying52 rfl info_sh3
  have q5 : ((a6 : Int) == 0) = false := by rw [beq_eq_false_iff_ne]; omega
  have q5' : (a6 : Int) ≠ 0 := by omega
  have w1 : IntKind.i64.wrap ((n : Int) - 8) = ((n - 8 : Nat) : Int) := by rw [IntWalk.i64_in _ (by omega)]; omega
  have q6' : (a7 : Int) ≠ ((n - 8 : Nat) : Int) := by omega
  obtain ⟨m, hm8⟩ : ∃ y, n - 8 = y := ⟨_, rfl⟩
  rw [hm8] at w1 q6'
  have q6 : ((a7 : Int) == (m : Int)) = false := by rw [beq_eq_false_iff_ne]; exact q6'
  clear hm' h1 h2 h3 h4 h5 hm8
  go_enter Tryd.func31, Tryd.ntmps31
  rw [hb2]
  go_wp2_with (first | (refine wpList_value rfl (exec_bM (parts := #[]) (ps := #[]) (C := #[.int .u8 0, .int .u32 0, .slice none 0 0]) rfl rfl bzsh3) ?_) | (refine wpList_store_mid rfl 52 (.tmp 2) (.tmp 41) rfl b2 0 #[.int .u8 0, .int .u32 0, .slice none 0 0] rfl rfl HTH.out info_sh3 (one_sh3 _ _ _ _ _ _ _) ?_))
  refine bodyPost_ret (v := .tuple #[.agg #[.int .u8 0, .int .u32 0, .slice none 0 0], .iface 81 (.int .i64 4)]) ?_ rfl ⟨rfl, hb2 ▸ HX.out.2⟩
  exact res_cell_tmp Tryd.results31 _ _ b2 52 #[.int .u8 0, .int .u32 0, .slice none 0 0] (0, 0) _ rfl HX.out.1 Tryd.underlying52 rfl info_sh3
end Go.Proofs.YtmhofofidmbgfaaDoor
