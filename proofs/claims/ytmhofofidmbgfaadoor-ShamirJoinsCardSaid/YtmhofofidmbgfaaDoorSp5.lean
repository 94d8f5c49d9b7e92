/- The secret of parts, and the part at a place: shamir.Combine, At. -/
import Derived.Test.YtmhofofidmbgfaaDoorSp4
import Derived.Test.YtmhofofidmbgfaaDoorCellN
import Derived.Test.YtmhofofidmbgfaaDoorSt
namespace Go.Proofs.YtmhofofidmbgfaaDoor
set_option linter.unusedVariables false
set_option linter.unusedSimpArgs false
open Go.RowKit

theorem Left.base {tb : Nat} {w0 w w' : World} (h : Left tb w w') (hb : Below w0.heap.size w0 w) : Left tb w0 w' := ⟨h.1, (Own.of_below hb).trans h.2⟩
theorem ThrR.base {tb x K E : Nat} {S : Nat → Sh} {w0 w w' : World} {e : Ending} (h : ThrR tb S x K E w e w') (hb : Below w0.heap.size w0 w) : ThrR tb S x K E w0 e w' := by
  rcases h with ⟨h0, g, h1, h2, h3, h4⟩ | ⟨h0, h1, h2⟩
  · exact .inl ⟨h0, g, h1, Nat.le_trans hb.size h2, h3, h4.base hb⟩
  · exact .inr ⟨h0, h1, h2.base hb⟩
set_option maxRecDepth 100000 in
set_option maxHeartbeats 1000000 in
theorem through_bad (tp : Option Addr) (n cs : Nat) (K N gen x : Int) (oa : Option Addr) (w : World) (h : tp = none ∨ ¬ MayP K N) :
    Calls Tryd.prog 42 #[.pointer tp, .slice oa n cs, .agg #[.int .i64 K, .int .i64 N, .int .u32 gen], .int .u8 x] w fun e w' => e = .returned (.tuple #[.slice none 0 0, .iface 81 (.int .i64 1)]) ∧ Below w.heap.size w w' := by
  cases tp with
  | none =>
    clear h
    go_enter Tryd.func42, Tryd.ntmps42
    go_wp2_with fail
    go_ret2
    exact ⟨rfl, (Below.refl _ _).alloc (Nat.le_refl _) _⟩
  | some a =>
    have hm : ¬ MayP K N := h.resolve_left (by simp)
    have HC := Lib.hid (fun w => check_no K N gen w hm)
    clear h hm
    go_enter Tryd.func42, Tryd.ntmps42
    go_wp2_with fail
    refine (HC.out _).mono ?_
    rintro e w1 ⟨rfl, hb⟩
    have HB1 : Hid (Below w.heap.size w w1) := Lib.hid (((Below.refl _ _).alloc (Nat.le_refl _) _).trans (hb.mono (by simp)))
    clear hb
    go_wp2_with fail
    go_ret2
    exact ⟨rfl, HB1.out⟩
set_option maxRecDepth 100000 in
set_option maxHeartbeats 1000000 in
theorem combine_bad (tp : Option Addr) (n cs : Nat) (K N gen : Int) (oa : Option Addr) (w : World) (h : tp = none ∨ ¬ MayP K N) :
    Calls Tryd.prog 20 #[.pointer tp, .slice oa n cs, .agg #[.int .i64 K, .int .i64 N, .int .u32 gen]] w fun e w' => e = .returned (.tuple #[.slice none 0 0, .iface 81 (.int .i64 1)]) ∧ Below w.heap.size w w' := by
  have HC := Lib.hid (fun w => through_bad tp n cs K N gen 0 oa w h)
  clear h
  go_enter Tryd.func20, Tryd.ntmps20
  go_wp2_with fail
  refine (HC.out _).mono ?_
  rintro e w1 ⟨rfl, hb⟩
  have HB1 : Hid (Below w.heap.size w w1) := Lib.hid (((Below.refl _ _).alloc (Nat.le_refl _) _).trans (hb.mono (by simp)))
  clear hb
  go_wp2_with fail
  go_ret2
  exact ⟨rfl, HB1.out⟩
set_option maxRecDepth 100000 in
set_option maxHeartbeats 1000000 in
theorem combine_any (tb n cs Kp N gen : Nat) (oa : Option Addr) (S : Nat → Sh) (w : World) (hT : TabIn w tb) (hS : Shs tb w oa n S) (hix : ∀ i, i < n → (S i).ix < 256) (hnc : n ≤ cs) (hm : cs ≤ maxLen) (h2 : 2 ≤ Kp) (hKN : Kp ≤ N) (hN : N ≤ 255) :
    Calls Tryd.prog 20 #[.pointer (some ⟨tb, 0, none⟩), .slice oa n cs, .agg #[.int .i64 (Kp : Int), .int .i64 (N : Int), .int .u32 (gen : Int)]] w (ThrR tb S 0 Kp (needE S n Kp gen) w) := by
  obtain ⟨w0, hw0⟩ : ∃ x, w.alloc (.cells #[.int .i64 (Kp : Int), .int .i64 (N : Int), .int .u32 (gen : Int)] 28) = x := ⟨_, rfl⟩
  have hb : Below w.heap.size w w0 := by rw [← hw0]; exact (Below.refl _ _).alloc (Nat.le_refl _) _
  have HC := Lib.hid (through_any tb n cs Kp N gen 0 oa S w0 (hT.below hb) (hS.later hb) hix hnc hm h2 hKN hN (by decide))
  have HBE := Lib.hid hb
  obtain ⟨E, hE⟩ : ∃ x, needE S n Kp gen = x := ⟨_, rfl⟩
  rw [hE] at HC ⊢
  have c9 : w0.cell? ⟨w.heap.size, 0, none⟩ = some (.int .i64 (Kp : Int)) := by rw [← hw0]; exact World.cell?_alloc_mark _ _ _ _ _
  have c8 : w0.cell? ⟨w.heap.size, 1, none⟩ = some (.int .i64 (N : Int)) := by rw [← hw0]; exact World.cell?_alloc_mark _ _ _ _ _
  have c7 : w0.cell? ⟨w.heap.size, 2, none⟩ = some (.int .u32 (gen : Int)) := by rw [← hw0]; exact World.cell?_alloc_mark _ _ _ _ _
  clear hT hS hix hnc hm h2 hKN hN hE hb
  go_enter Tryd.func20, Tryd.ntmps20
  go_wp2_with fail
  refine HC.out.mono ?_
  intro e w1 hR
  have HR := Lib.hid (hR.base HBE.out)
  rcases hR with ⟨-, g, rfl, -⟩ | ⟨-, rfl, -⟩
  · go_wp2_with fail
    go_ret2
    exact HR.out
  · go_wp2_with fail
    go_ret2
    exact HR.out
/-- What At answers. -/
def AtR (tb : Nat) (S : Nat → Sh) (x gen K E : Nat) (w : World) (e : Ending) (w' : World) : Prop :=
  (E = 0 ∧ ∃ g, e = .returned (.tuple #[.agg #[.int .u8 (x : Int), .int .u32 (gen : Int), .slice (some ⟨g, 0, none⟩) (S 0).len (S 0).len], .nilIface]) ∧ w.heap.size ≤ g ∧ Row w' g (S 0).len (jnF S x K) ∧ Left tb w w') ∨
  (E ≠ 0 ∧ e = .returned (.tuple #[.agg #[.int .u8 0, .int .u32 0, .slice none 0 0], .iface 81 (.int .i64 (E : Int))]) ∧ Left tb w w')
theorem AtR.base {tb x gen K E : Nat} {S : Nat → Sh} {w0 w w' : World} {e : Ending} (h : AtR tb S x gen K E w e w') (hb : Below w0.heap.size w0 w) : AtR tb S x gen K E w0 e w' := by
  rcases h with ⟨h0, g, h1, h2, h3, h4⟩ | ⟨h0, h1, h2⟩
  · exact .inl ⟨h0, g, h1, Nat.le_trans hb.size h2, h3, h4.base hb⟩
  · exact .inr ⟨h0, h1, h2.base hb⟩
theorem wpList_value {ops : Array Oper} {rest : List Oper} {o : Oper} {a : Act} {w : World} {Q : Exit → Act → World → Prop} {v : Value} (hgd : o.guard = none) (he : (execOp a.eval o).run Tryd.prog w = .ok (.value v) w)
    (hk : wpList Tryd.prog ops Q rest (a.put o.dst v) w) : wpList Tryd.prog ops Q (o :: rest) a w := by
  refine wpList_plain hgd fun K hK => ?_
  unfold Oper.wp
  rw [he]
  exact hK _ _ hk
theorem exec_loadM {o : Oper} {a : Act} {w : World} {ty : TypeId} {x : Operand} {b f : Nat} {cs : List Value} {d : TypeDesc} (ho : o.op = .load ty x) (hx : a.eval x = .pointer (some ⟨b, f, none⟩)) (hc : w.rangeAt b f cs)
    (hu : Tryd.prog.underlying ty = some d) (hd : d.isRow = true) (hi : (Tryd.prog.info? ty).map (·.size) = some cs.length) : (execOp a.eval o).run Tryd.prog w = .ok (.value (.agg cs.toArray)) w := by
  unfold execOp
  simp only [ho, hx, Instr.loadAt, Instr.sureAddr, Sem.run_bind, Sem.run_pure, Result.andThen_ok, run_loadVar_mid w b f ty cs d hc hu hd hi]
theorem results_cell_tmp' {P : Program} {fn : Func} {p q : Tmp} {ty : TypeId} (h : fn.results = #[.cell p ty, .tmp q]) (tmps : Array Value) (w : World) (g : Nat) (t : TypeId) (cs : Array Value) (fr : Nat × Nat) (d : TypeDesc)
    (hp : tmps.getD p undef = .pointer (some ⟨g, 0, none⟩)) (hg : w.heap[g]? = some (.cells cs t fr))
    (hu : P.underlying ty = some d) (hd : (match d with | .struct _ | .array _ _ => true | _ => false) = true) (hi : (P.info? ty).map (·.size) = some cs.size) :
    (results fn tmps).run P w = .ok (.tuple #[.agg cs, tmps.getD q undef]) w := by
  have hp' : tmps[p]?.getD undef = .pointer (some ⟨g, 0, none⟩) := by simpa using hp
  simp [results, h, hp', asAddr, run_loadVar_row w g t ty cs fr d hg hu hd hi]
/-- A block of a part, stored over whole. -/
theorem Blk.whole3 {w : World} {b : Nat} {D : Array Value} {t : TypeId} (h : Blk w b D t) (hs : D.size = 3) (x y z : Value) : Blk (w.setCells b 0 [x, y, z]) b #[x, y, z] t := Blk.setCells h [x, y, z] hs.symm
theorem zsh_run (w : World) : (zeroValue 52).run Tryd.prog w = .ok (.agg #[.int .u8 0, .int .u32 0, .slice none 0 0]) w := by kernel_rfl
theorem build_zsh (w : World) : (Instr.build 52 #[]).run Tryd.prog w = .ok (.agg #[.int .u8 0, .int .u32 0, .slice none 0 0]) w := run_build w 52 _ _ (by kernel_rfl)
set_option maxRecDepth 100000 in
set_option maxHeartbeats 2000000 in
theorem at_none (tp : Option Addr) (n cs : Nat) (x N : Nat) (K gen : Int) (oa : Option Addr) (w : World) (h : x = 0 ∨ N < x) (hx : x < 256) :
    Calls Tryd.prog 23 #[.pointer tp, .slice oa n cs, .agg #[.int .i64 K, .int .i64 (N : Int), .int .u32 gen], .int .u8 (x : Int)] w fun e w' => e = .returned (.tuple #[.agg #[.int .u8 0, .int .u32 0, .slice none 0 0], .iface 81 (.int .i64 1)]) ∧ Below w.heap.size w w' := by
  obtain ⟨w0, hw0⟩ : ∃ y, (w.alloc (.cells #[.int .i64 K, .int .i64 (N : Int), .int .u32 gen] 28)).alloc (.cells #[.int .u8 0, .int .u32 0, .slice none 0 0] 52) = y := ⟨_, rfl⟩
  obtain ⟨b8, hb8⟩ : ∃ y, w.heap.size + 1 = y := ⟨_, rfl⟩
  have hB : Blk w0 b8 #[.int .u8 0, .int .u32 0, .slice none 0 0] 52 := by rw [← hw0, ← hb8]; simpa using Blk.new (w.alloc (.cells #[.int .i64 K, .int .i64 (N : Int), .int .u32 gen] 28)) #[.int .u8 0, .int .u32 0, .slice none 0 0] 52
  have hbl : Below w.heap.size w w0 := by rw [← hw0]; exact ((Below.refl _ _).alloc (Nat.le_refl _) _).alloc (by simp) _
  have c1 : w0.cell? ⟨w.heap.size, 1, none⟩ = some (.int .i64 (N : Int)) := by rw [← hw0, cell_old (by simp)]; exact World.cell?_alloc_mark _ _ _ _ _
  have HX : Hid (Blk (w0.setCells b8 0 [.int .u8 0, .int .u32 0, .slice none 0 0]) b8 #[.int .u8 0, .int .u32 0, .slice none 0 0] 52 ∧ Below w.heap.size w (w0.setCells b8 0 [.int .u8 0, .int .u32 0, .slice none 0 0])) :=
    Lib.hid ⟨hB.whole3 rfl _ _ _, hbl.trans ((Own.setCells (b := b8) _ 0 w0).below (by omega) hbl.size)⟩
  have HTH : Hid (w0.there b8 0 3) := Lib.hid (hB.there (by decide))
  have hz := zsh_run
  clear hB hbl
  rcases h with h | h
  · subst h
    clear hx
    go_enter Tryd.func23, Tryd.ntmps23
    go_wp2_with (first | (refine wpList_value rfl (exec_buildM (parts := #[]) (ps := #[]) (C := #[.int .u8 0, .int .u32 0, .slice none 0 0]) rfl rfl build_zsh) ?_) | (refine wpList_store_mid rfl 52 (.tmp 8) (.tmp 21) rfl b8 0 #[.int .u8 0, .int .u32 0, .slice none 0 0] rfl rfl HTH.out info_share3 (one_share _ _ _ _ _ _ _) ?_))
    refine bodyPost_ret (v := .tuple #[.agg #[.int .u8 0, .int .u32 0, .slice none 0 0], .iface 81 (.int .i64 1)]) ?_ rfl ⟨rfl, HX.out.2⟩
    exact results_cell_tmp' Tryd.results23 _ _ b8 52 #[.int .u8 0, .int .u32 0, .slice none 0 0] (0, 0) _ rfl HX.out.1 Tryd.underlying52 rfl info_share3
  · have h1 : ((x : Int) == 0) = false := by rw [beq_eq_false_iff_ne]; omega
    have h2 : (N : Int) < (x : Int) := by omega
    have h3 : (0 : Int) ≤ (x : Int) ∧ (x : Int) < 256 := by omega
    clear hx
    go_enter Tryd.func23, Tryd.ntmps23
    go_wp2_with (first | (refine wpList_value rfl (exec_buildM (parts := #[]) (ps := #[]) (C := #[.int .u8 0, .int .u32 0, .slice none 0 0]) rfl rfl build_zsh) ?_) | (refine wpList_store_mid rfl 52 (.tmp 8) (.tmp 21) rfl b8 0 #[.int .u8 0, .int .u32 0, .slice none 0 0] rfl rfl HTH.out info_share3 (one_share _ _ _ _ _ _ _) ?_))
    refine bodyPost_ret (v := .tuple #[.agg #[.int .u8 0, .int .u32 0, .slice none 0 0], .iface 81 (.int .i64 1)]) ?_ rfl ⟨rfl, HX.out.2⟩
    exact results_cell_tmp' Tryd.results23 _ _ b8 52 #[.int .u8 0, .int .u32 0, .slice none 0 0] (0, 0) _ rfl HX.out.1 Tryd.underlying52 rfl info_share3
set_option maxRecDepth 100000 in
set_option maxHeartbeats 2000000 in
theorem at_any (tb n cs Kp N gen x : Nat) (oa : Option Addr) (S : Nat → Sh) (w : World) (hT : TabIn w tb) (hS : Shs tb w oa n S) (hix : ∀ i, i < n → (S i).ix < 256) (hnc : n ≤ cs) (hm : cs ≤ maxLen) (h2 : 2 ≤ Kp) (hKN : Kp ≤ N) (hN : N ≤ 255) (hx1 : 1 ≤ x) (hxN : x ≤ N) :
    Calls Tryd.prog 23 #[.pointer (some ⟨tb, 0, none⟩), .slice oa n cs, .agg #[.int .i64 (Kp : Int), .int .i64 (N : Int), .int .u32 (gen : Int)], .int .u8 (x : Int)] w (AtR tb S x gen Kp (needE S n Kp gen) w) := by
  obtain ⟨w0, hw0⟩ : ∃ y, (w.alloc (.cells #[.int .i64 (Kp : Int), .int .i64 (N : Int), .int .u32 (gen : Int)] 28)).alloc (.cells #[.int .u8 0, .int .u32 0, .slice none 0 0] 52) = y := ⟨_, rfl⟩
  obtain ⟨b8, hb8⟩ : ∃ y, w.heap.size + 1 = y := ⟨_, rfl⟩
  have hB : Blk w0 b8 #[.int .u8 0, .int .u32 0, .slice none 0 0] 52 := by rw [← hw0, ← hb8]; simpa using Blk.new (w.alloc (.cells #[.int .i64 (Kp : Int), .int .i64 (N : Int), .int .u32 (gen : Int)] 28)) #[.int .u8 0, .int .u32 0, .slice none 0 0] 52
  have hP : Blk w0 w.heap.size #[.int .i64 (Kp : Int), .int .i64 (N : Int), .int .u32 (gen : Int)] 28 := by rw [← hw0]; exact (Blk.new _ _ _).alloc _
  have hbl : Below w.heap.size w w0 := by rw [← hw0]; exact ((Below.refl _ _).alloc (Nat.le_refl _) _).alloc (by simp) _
  have htl := hT.lt
  have HC := Lib.hid (through_any tb n cs Kp N gen x oa S w0 (hT.below hbl) (hS.later hbl) hix hnc hm h2 hKN hN (by omega))
  have HB := Lib.hid (⟨hB, hP, hbl⟩ : Blk w0 b8 #[.int .u8 0, .int .u32 0, .slice none 0 0] 52 ∧ Blk w0 w.heap.size #[.int .i64 (Kp : Int), .int .i64 (N : Int), .int .u32 (gen : Int)] 28 ∧ Below w.heap.size w w0)
  have hz := zsh_run
  obtain ⟨E, hE⟩ : ∃ y, needE S n Kp gen = y := ⟨_, rfl⟩
  rw [hE] at HC ⊢
  have c0 : w0.cell? ⟨w.heap.size, 0, none⟩ = some (.int .i64 (Kp : Int)) := by rw [Blk.cell hP]; rfl
  have c1 : w0.cell? ⟨w.heap.size, 1, none⟩ = some (.int .i64 (N : Int)) := by rw [Blk.cell hP]; rfl
  have c2 : w0.cell? ⟨w.heap.size, 2, none⟩ = some (.int .u32 (gen : Int)) := by rw [Blk.cell hP]; rfl
  have h1 : ((x : Int) == 0) = false := by rw [beq_eq_false_iff_ne]; omega
  have h3 : decide ((N : Int) < (x : Int)) = false := decide_eq_false (by omega)
  have h4 : ¬ N < x := by omega
  have h5 : (0 : Int) ≤ (x : Int) ∧ (x : Int) < 256 := by omega
  clear hT hS hix hnc hm h2 hKN hN hE hB hP hbl hx1 hxN
  go_enter Tryd.func23, Tryd.ntmps23
  go_wp2_with fail
  refine HC.out.mono ?_
  intro e w1 hR
  have hL : Left tb w0 w1 := by
    rcases hR with ⟨-, g, -, -, -, h⟩ | ⟨-, -, h⟩ <;> exact h
  have HB1 : Hid (Blk w1 b8 #[.int .u8 0, .int .u32 0, .slice none 0 0] 52 ∧ Left tb w w1) := Lib.hid ⟨hL.2.blk HB.out.1 (by omega), hL.base HB.out.2.2⟩
  have hP1 := hL.2.blk HB.out.2.1 (by omega)
  have c2' : w1.cell? ⟨w.heap.size, 2, none⟩ = some (.int .u32 (gen : Int)) := by rw [Blk.cell hP1]; rfl
  have HTH : Hid (w1.there b8 0 3) := Lib.hid (HB1.out.1.there (by decide))
  have hsz : b8 < w1.heap.size := Blk.lt HB1.out.1
  clear hL hP1 hz c0 c1 c2 hw0
  rcases hR with ⟨h0, g, rfl, hg, hRw, -⟩ | ⟨h0, rfl, -⟩
  · obtain ⟨L, hL0⟩ : ∃ y, (S 0).len = y := ⟨_, rfl⟩
    have HLL := Lib.hid hL0
    rw [hL0]
    have hbR : g ≠ b8 := fun e => by
      have := Blk.lt HB.out.1
      omega
    have hO := Own.setCells (b := b8) [.int .u8 (x : Int), .int .u32 (gen : Int), .slice (some ⟨g, 0, none⟩) L L] 0 w1
    have hB8 : w.heap.size ≤ b8 := by omega
    have HX : Hid (Blk (w1.setCells b8 0 [.int .u8 (x : Int), .int .u32 (gen : Int), .slice (some ⟨g, 0, none⟩) L L]) b8 #[.int .u8 (x : Int), .int .u32 (gen : Int), .slice (some ⟨g, 0, none⟩) L L] 52) := Lib.hid (HB1.out.1.whole3 rfl _ _ _)
    have HQ : Hid (AtR tb S x gen Kp E w (.returned (.tuple #[.agg #[.int .u8 (x : Int), .int .u32 (gen : Int), .slice (some ⟨g, 0, none⟩) L L], .nilIface])) (w1.setCells b8 0 [.int .u8 (x : Int), .int .u32 (gen : Int), .slice (some ⟨g, 0, none⟩) L L])) :=
      Lib.hid (.inl ⟨h0, g, by rw [hL0], Nat.le_trans HB.out.2.2.size hg, hRw.own hO hbR, HB1.out.2.1.own hO (by omega), ⟨hO.os.trans HB1.out.2.2.os, hO.tape.trans HB1.out.2.2.tape, hO.output.trans HB1.out.2.2.output, Nat.le_trans HB1.out.2.2.size hO.size, fun k hk hn => (hO.block k (by have := HB1.out.2.2.size; omega) (by omega)).trans (HB1.out.2.2.block k hk hn)⟩⟩)
    clear hO hRw hg hbR hL0 HC h0 hB8
    go_wp2_with (first | (refine wpList_value rfl (exec_buildM (parts := #[(0, .tmp 35), (1, .tmp 37), (2, .tmp 38)]) (ps := #[(0, .int .u8 (x : Int)), (1, .int .u32 (gen : Int)), (2, .slice (some ⟨g, 0, none⟩) L L)]) (C := #[.int .u8 (x : Int), .int .u32 (gen : Int), .slice (some ⟨g, 0, none⟩) L L]) rfl (by first | rfl | (simp; exact ⟨rfl, rfl, rfl⟩)) (build_share _ _ _ _ _)) ?_) | (refine wpList_store_mid rfl 52 (.tmp 8) (.tmp 39) rfl b8 0 #[.int .u8 (x : Int), .int .u32 (gen : Int), .slice (some ⟨g, 0, none⟩) L L] rfl rfl HTH.out info_share3 (one_share _ _ _ _ _ _ _) ?_))
    refine bodyPost_ret (v := .tuple #[.agg #[.int .u8 (x : Int), .int .u32 (gen : Int), .slice (some ⟨g, 0, none⟩) L L], .nilIface]) ?_ rfl HQ.out
    exact results_cell_tmp' Tryd.results23 _ _ b8 52 #[.int .u8 (x : Int), .int .u32 (gen : Int), .slice (some ⟨g, 0, none⟩) L L] (0, 0) _ rfl HX.out Tryd.underlying52 rfl info_share3
  · have hO := Own.setCells (b := b8) [.int .u8 0, .int .u32 0, .slice none 0 0] 0 w1
    have hB8 : w.heap.size ≤ b8 := by omega
    have HX : Hid (Blk (w1.setCells b8 0 [.int .u8 0, .int .u32 0, .slice none 0 0]) b8 #[.int .u8 0, .int .u32 0, .slice none 0 0] 52) := Lib.hid (HB1.out.1.whole3 rfl _ _ _)
    have HQ : Hid (AtR tb S x gen Kp E w (.returned (.tuple #[.agg #[.int .u8 0, .int .u32 0, .slice none 0 0], .iface 81 (.int .i64 (E : Int))])) (w1.setCells b8 0 [.int .u8 0, .int .u32 0, .slice none 0 0])) :=
      Lib.hid (.inr ⟨h0, rfl, HB1.out.2.1.own hO (by omega), ⟨hO.os.trans HB1.out.2.2.os, hO.tape.trans HB1.out.2.2.tape, hO.output.trans HB1.out.2.2.output, Nat.le_trans HB1.out.2.2.size hO.size, fun k hk hn => (hO.block k (by have := HB1.out.2.2.size; omega) (by omega)).trans (HB1.out.2.2.block k hk hn)⟩⟩)
    clear hO HC h0 hB8
    go_wp2_with (first | (refine wpList_value rfl (exec_buildM (parts := #[]) (ps := #[]) (C := #[.int .u8 0, .int .u32 0, .slice none 0 0]) rfl rfl build_zsh) ?_) | (refine wpList_store_mid rfl 52 (.tmp 8) (.tmp 33) rfl b8 0 #[.int .u8 0, .int .u32 0, .slice none 0 0] rfl rfl HTH.out info_share3 (one_share _ _ _ _ _ _ _) ?_))
    refine bodyPost_ret (v := .tuple #[.agg #[.int .u8 0, .int .u32 0, .slice none 0 0], .iface 81 (.int .i64 (E : Int))]) ?_ rfl HQ.out
    exact results_cell_tmp' Tryd.results23 _ _ b8 52 #[.int .u8 0, .int .u32 0, .slice none 0 0] (0, 0) _ rfl HX.out Tryd.underlying52 rfl info_share3
end Go.Proofs.YtmhofofidmbgfaaDoor
