/- A disk: a new one; a sector written. -/
import Derived.Test.YtcohllhmfghlfaaDoorDk1
import Derived.Laws.OwnMore
import Derived.Deep.RegionHeld
import Derived.RegionTactic
import Derived.Laws.Cover3
namespace Go.Proofs.YtcohllhmfghlfaaDoor
set_option linter.unusedVariables false
set_option linter.unusedSimpArgs false
open Go.RowKit

theorem madeK (N : Nat) (C : List Value) (k : Nat) (hk : C.length = k) (h0 : 0 < k) : madeCells C.toArray (N * k) = (rws N (fun _ => C)).toArray := by
  have hl : (rws N (fun _ => C)).length = N * k := rws_len (k := k) (C := fun _ => C) fun _ _ => hk
  refine Array.ext_getElem? fun j => ?_
  by_cases hj : j < N * k
  · have hd : j / k < N := (Nat.div_lt_iff_lt_mul h0).2 hj
    have hm := Nat.mod_lt j h0
    have e := rws_get (k := k) (C := fun _ => C) (n := N) (fun _ _ => hk) (i := j / k) (j := j % k) hd hm
    rw [show j / k * k + j % k = j by rw [Nat.mul_comm]; exact Nat.div_add_mod j k] at e
    have h1 : (madeCells C.toArray (N * k))[j]? = some ((C.toArray : Array Value)[j % k]!) := by
      rw [Array.getElem?_eq_getElem (by rw [size_madeCells]; exact hj)]; simp [madeCells, hk]
    rw [h1, List.getElem?_toArray, e]
    rw [List.getElem?_eq_getElem (by omega)]
    simp [hk, hm]
  · rw [Array.getElem?_eq_none (by rw [size_madeCells]; omega), Array.getElem?_eq_none (by rw [List.size_toArray, hl]; omega)]
theorem info_sec3 : (Tryd.prog.info? 68).map (fun i => (i.zero, i.size, i.bytes)) = some (some (.agg (rowC 64 (fun _ => 0)).toArray), 64, 64) := by kernel_rfl
theorem info_sector {f : Nat → Nat} : (Tryd.prog.info? 68).map (·.size) = some (rowC 64 f).length := by rw [rowC_len]; kernel_rfl
theorem info_wr3 : ∃ z, (Tryd.prog.info? 70).map (fun i => (i.zero, i.size, i.bytes)) = some (some (.agg z), 65, 72) ∧ z.size = 65 := ⟨(wtC 0 (fun _ => 0)).toArray, by kernel_rfl, by rw [List.size_toArray, wtC_len]⟩
theorem info_write {i : Nat} {f : Nat → Nat} : (Tryd.prog.info? 70).map (·.size) = some (wtC i f).length := by rw [wtC_len]; kernel_rfl
theorem make_secs (N : Nat) (hN : N ≤ 2048) (w : World) : (Instr.makeSlice 61 (.int .i64 (N : Int)) (.int .i64 (N : Int))).run Tryd.prog w = .ok (.slice (some ⟨w.heap.size, 0, none⟩) N N) (w.alloc (.cells (rws N (fun _ => rowC 64 (fun _ => 0))).toArray 68)) := by
  obtain ⟨i0, hi, hz0, hz1, hz2⟩ := info_parts info_sec3
  have h := run_make (P := Tryd.prog) w 61 68 i0 _ Tryd.underlying61 hi hz0 .i64 .i64 (N : Int) (N : Int) (by omega) (Int.le_refl _) (by rw [hz2]; omega) (by omega)
  rw [Int.toNat_natCast, hz1, show (Value.agg (rowC 64 (fun _ => 0)).toArray).cells = (rowC 64 (fun _ => 0)).toArray from rfl, madeK N _ 64 (rowC_len _ _) (by decide)] at h
  exact h
theorem wpList_mkD {ops : Array Oper} {rest : List Oper} {o : Oper} {a : Act} {w : World} {Q : Exit → Act → World → Prop} (hgd : o.guard = none) (x y : Operand) (ho : o.op = .makeSlice 61 x y) (N : Nat) (hx : a.eval x = .int .i64 (N : Int)) (hy : a.eval y = .int .i64 (N : Int)) (hN : N ≤ 2048)
    (h : wpList Tryd.prog ops Q rest (a.put o.dst (.slice (some ⟨w.heap.size, 0, none⟩) N N)) (w.alloc (.cells (rws N (fun _ => rowC 64 (fun _ => 0))).toArray 68))) : wpList Tryd.prog ops Q (o :: rest) a w := by
  refine wpList_plain hgd fun K hK => ?_
  have hrun := make_secs N hN w
  unfold Oper.wp
  simp [execOp, ho, hx, hy, hrun, Result.andThen]
  exact hK _ _ h
def newS (n : Nat) : DS := { n := n, S := fun _ _ => 0, c := n, X := [], nw := 0, A := fun _ => 0, D := fun _ _ => 0, ar := 0, dn := false }
set_option maxRecDepth 100000 in
set_option maxHeartbeats 2000000 in
theorem new_any (n : Nat) (w : World) (h1 : 1 ≤ n) (h2 : n ≤ 2048) :
    Calls Tryd.prog 6 #[.int .i64 (n : Int)] w fun e w' => ∃ d sb, e = .returned (.tuple #[.pointer (some ⟨d, 0, none⟩), .nilIface]) ∧ DK w' w.heap.size d sb (.slice none 0 0) (newS n) ∧ Below w.heap.size w w' ∧ w.heap.size ≤ d ∧ w.heap.size ≤ sb := by
  have q1 : ¬ (n : Int) < 1 := by omega
  have q2 : ¬ (2048 : Int) < (n : Int) := by omega
  have q3 : decide ((n : Int) < 1) = false := decide_eq_false q1
  have q4 : decide ((2048 : Int) < (n : Int)) = false := decide_eq_false q2
  obtain ⟨w1, hw1⟩ : ∃ x, w.alloc (.cells (rws n (fun _ => rowC 64 (fun _ => 0))).toArray 68) = x := ⟨_, rfl⟩
  obtain ⟨b1, hb1⟩ : ∃ x, w.heap.size = x := ⟨_, rfl⟩
  obtain ⟨w2, hw2⟩ : ∃ x, w1.alloc (.cells #[.slice (some ⟨b1, 0, none⟩) n n, .slice none 0 0, .int .i64 0, .bool false] 64) = x := ⟨_, rfl⟩
  obtain ⟨b2, hb2⟩ : ∃ x, w1.heap.size = x := ⟨_, rfl⟩
  have HB : Hid (b1 < b2 ∧ b2 < w2.heap.size ∧ Below b1 w w2 ∧ Blk w2 b1 (rws n (fun _ => rowC 64 (fun _ => 0))).toArray 68 ∧ Blk w2 b2 #[.slice (some ⟨b1, 0, none⟩) n n, .slice none 0 0, .int .i64 0, .bool false] 64) := Lib.hid (by
    have e1 : Below w.heap.size w w1 := by rw [← hw1]; exact (Below.refl _ _).alloc (Nat.le_refl _) _
    have e2 : Below w1.heap.size w1 w2 := by rw [← hw2]; exact (Below.refl _ _).alloc (Nat.le_refl _) _
    have e3 : Blk w1 b1 (rws n (fun _ => rowC 64 (fun _ => 0))).toArray 68 := by rw [← hw1, ← hb1]; exact Blk.new _ _ _
    have e4 : Blk w2 b2 #[.slice (some ⟨b1, 0, none⟩) n n, .slice none 0 0, .int .i64 0, .bool false] 64 := by rw [← hw2, ← hb2]; exact Blk.new _ _ _
    refine ⟨by rw [← hb2]; exact Blk.lt e3, Blk.lt e4, by rw [← hb1]; exact e1.trans (e2.mono e1.size), Blk.below e3 e2 (Blk.lt e3), e4⟩)
  have HD : Hid (DK w2 b1 b2 b1 (.slice none 0 0) (newS n)) := Lib.hid (by
    obtain ⟨h3, h4, h5, h6, h7⟩ := HB.out
    exact ⟨h7, (by show Blk w2 b1 ((rws n fun _ => rowC 64 fun _ => 0) ++ []).toArray _; rw [List.append_nil]; exact h6), World.ownsRow_nil _ _ _ _, by omega, Nat.le_refl _, by omega, (fun k hk => by cases hk), ⟨h1, h2⟩, fun _ _ _ _ => by show 0 < 256; decide, fun j hj => absurd hj (Nat.not_lt_zero _), by show 0 < _; decide, by show 0 < _; decide⟩)
  clear h1 h2
  go_enter Tryd.func6, Tryd.ntmps6
  go_wp2_with (refine wpList_mkD rfl (.tmp 11) (.tmp 11) rfl n rfl rfl (by omega) ?_; rw [hw1, hb1])
  go_ret2
  exact ⟨b2, rfl, b1, HD.out, HB.out.2.2.1, Nat.le_of_lt HB.out.1, Nat.le_refl _⟩
theorem exec_s2aS {o : Oper} {a : Act} {w : World} {x : Operand} {oa : Option Addr} {len cap : Nat} (ho : o.op = .sliceToArrayPointer 68 x) (hx : a.eval x = .slice oa len cap) (hn : 64 ≤ len) : (execOp a.eval o).run Tryd.prog w = .ok (.value (.pointer oa)) w := by
  unfold execOp
  simp only [ho, hx, Sem.run_bind, run_arrayAt w 68 5 64 oa len cap Tryd.underlying68 hn, Result.andThen_ok]
  rfl
theorem bw_run (i : Nat) (F : Nat → Nat) (w : World) : (Instr.build 70 #[(0, .int .i64 (i : Int)), (1, .agg (rowC 64 F).toArray)]).run Tryd.prog w = .ok (.agg (wtC i F).toArray) w := by kernel_rfl
theorem exec_bw {o : Oper} {a : Act} {w : World} {x y : Operand} {i : Nat} {F : Nat → Nat} (ho : o.op = .build 70 #[(0, x), (1, y)]) (hx : a.eval x = .int .i64 (i : Int)) (hy : a.eval y = .agg (rowC 64 F).toArray) : (execOp a.eval o).run Tryd.prog w = .ok (.value (.agg (wtC i F).toArray)) w := by
  have e : (#[(((0 : Nat), x) : Nat × Operand), ((1 : Nat), y)].map fun (i, x) => (i, a.eval x)) = #[(0, .int .i64 (i : Int)), (1, .agg (rowC 64 F).toArray)] := by simp [hx, hy]
  unfold execOp
  simp only [ho, e, bw_run, Sem.run_bind, Result.andThen_ok]
  rfl
theorem bs1_run (i : Nat) (F : Nat → Nat) (w : World) : (Instr.buildSlice 62 1 #[(0, .agg (wtC i F).toArray)]).run Tryd.prog w = .ok (.slice (some ⟨w.heap.size, 0, none⟩) 1 1) (w.alloc (.cells (wtC i F).toArray 70)) := by kernel_rfl
theorem step_bsW {ops : Array Oper} {o : Oper} {a : Act} {w : World} {K : Act → World → Prop} {Q : Exit → Act → World → Prop} {E : Prop} (hgd : o.guard = none) (x : Operand) (ho : o.op = .buildSlice 62 1 #[(0, x)]) (i : Nat) (F : Nat → Nat) (hx : a.eval x = .agg (wtC i F).toArray)
    (h : K (a.put o.dst (.slice (some ⟨w.heap.size, 0, none⟩) 1 1)) (w.alloc (.cells (wtC i F).toArray 70))) : if Region.wanted o (yielded ops a.tmps) = true then Oper.wp Tryd.prog o a w K Q else E := by
  have hw : Region.wanted o (yielded ops a.tmps) = true := by simp [Region.wanted, hgd]
  rw [if_pos hw]
  have e : (#[(((0 : Nat), x) : Nat × Operand)].map fun (i, x) => (i, a.eval x)) = #[(0, .agg (wtC i F).toArray)] := by simp [hx]
  unfold Oper.wp execOp
  simp only [ho, e, bs1_run, Sem.run_bind, Result.andThen_ok]
  exact h
theorem step_appW {ops : Array Oper} {o : Oper} {a : Act} {w : World} {K : Act → World → Prop} {Q : Exit → Act → World → Prop} {E : Prop} (hgd : o.guard = none) (s x : Operand) (ho : o.op = .call { callee := .builtin .append, args := #[s, x], argTypes := #[62, 62] })
    (base : Nat) (v : Value) (n : Nat) (xs : List Value) (hs : a.eval s = v) (hown : w.ownsRow base 70 65 v n xs) (ad : Addr) (news : List Value) (hx : a.eval x = .slice (some ad) 1 1) (hl : news.length = 65)
    (hnews : ∀ j u, news[j]? = some u → w.cell? (ad.add j) = some u) (h1 : ∀ u ∈ news, u.oneCell' = true) (hn : n < 100000000) (hbase : base ≤ w.heap.size)
    (h : ∀ v' w', w'.ownsRow base 70 65 v' (n + 1) (xs ++ news) → w.grownBy w' v.ownBlock → (v'.ownBlock = v.ownBlock ∨ v'.ownBlock = some w.heap.size) → K (a.put o.dst v') w') : if Region.wanted o (yielded ops a.tmps) = true then Oper.wp Tryd.prog o a w K Q else E := by
  have hw : Region.wanted o (yielded ops a.tmps) = true := by simp [Region.wanted, hgd]
  rw [if_pos hw]
  obtain ⟨z, hinf, hz⟩ := info_wr3
  obtain ⟨i0, hi, hz0, hz1, hz2⟩ := info_parts hinf
  obtain ⟨v', w', hr, h2, h3, h4, h5⟩ := run_append_own_at (P := Tryd.prog) w base 62 o.type 70 i0 _ 65 72 Tryd.underlying62 hi hz0 hz1 hz2 (by show z.size = 65; exact hz) (by decide) v n xs hown ad 1 1 news (by rw [hl]) hnews h1 (by unfold maxLen; omega) (by omega) hbase
  unfold Oper.wp execOp
  simp only [ho, resolve, invoke, builtin, Sem.run_bind, Sem.run_pure, Result.andThen_ok, List.map_toArray, List.map_cons, List.map_nil, hs, hx, hr]
  exact h v' w' h2 h3 h5
theorem range_grown {w w' : World} {v : Value} {b o : Nat} {cs : List Value} (h : w.rangeAt b o cs) (hg : w.grownBy w' v.ownBlock) (hn : v.ownBlock ≠ some b) (hb : b < w.heap.size) : w'.rangeAt b o cs := fun j u hu => by
  rw [← h j u hu]
  simp only [World.cell?, hg.block b hb (fun e => hn e.symm)]
/-- A write put behind those that wait: all but the struct's own cell. -/
theorem put_done {w w2 : World} {B d sb i : Nat} {v v2 : Value} {s : DS} {F : Nat → Nat} (h : DK w B d sb v s) (hA : w2.ownsRow B 70 65 v2 (s.nw + 1) ((rws s.nw fun j => wtC (s.A j) (s.D j)) ++ wtC i F)) (hg : w.grownBy w2 v.ownBlock)
    (hob : v2.ownBlock = v.ownBlock ∨ v2.ownBlock = some w.heap.size) (hi : i < s.n ∧ s.nw + 1 < 100000000) (hF : ∀ k, k < 64 → F k < 256) :
    ∃ oa cap, v2 = .slice oa (s.nw + 1) cap ∧ w2.cell? ⟨d, 1, none⟩ = some v ∧ w2.frozen? ⟨d, 1, none⟩ = false ∧ Dn w (w2.setCell ⟨d, 1, none⟩ (.slice oa (s.nw + 1) cap)) B d sb v (.slice oa (s.nw + 1) cap) (putS s i F) := by
  have hl := h.lt
  have hO := own_of_grown hg
  have hvn : ∀ c, c < w.heap.size → v.ownBlock ≠ some c → c ≠ v.ownBlock.getD w.heap.size := fun c hc hn => ne_own hc hn
  have hm2 : Blk w2 d (dkC sb s.n s.c v s.ar s.dn) 64 := hO.blk h.me (hvn d hl.1 (fun e => (h.nv d e).1 rfl))
  have hs2 : Blk w2 sb ((rws s.n fun i => rowC 64 (s.S i)) ++ s.X).toArray 68 := hO.blk h.sf (hvn sb hl.2.1 (fun e => (h.nv sb e).2 rfl))
  have hA' : w2.ownsRow B 70 65 v2 (s.nw + 1) (rws (s.nw + 1) fun j => wtC ((putS s i F).A j) ((putS s i F).D j)) := by
    rw [rws_succ, show wtC ((putS s i F).A s.nw) ((putS s i F).D s.nw) = wtC i F by unfold putS; simp, rws_congr (D := fun j => wtC (s.A j) (s.D j)) fun j hj => by
      unfold putS; simp only; rw [if_neg (by omega), if_neg (by omega)]]
    exact hA
  obtain ⟨oa, cap, rfl, _⟩ := rws_cells hA' (fun _ _ => wtC_len _ _)
  have hv2 : ∀ k, (Value.slice oa (s.nw + 1) cap).ownBlock = some k → k ≠ d ∧ k ≠ sb := fun k hk => by
    rcases hob with e | e
    · rw [e] at hk; exact h.nv k hk
    · rw [e] at hk; have := Option.some.inj hk; omega
  have hO3 : Own d w2 (w2.setCell ⟨d, 1, none⟩ (.slice oa (s.nw + 1) cap)) := (Own.refl _ _).set _ _
  refine ⟨oa, cap, rfl, by rw [Blk.cell hm2]; rfl, Blk.free hm2 _, ⟨Blk.set hm2 1 _, hO3.blk hs2 (Ne.symm h.ne), ?_, h.bd, h.bs, h.ne, hv2, h.n0, h.S8, ?_, h.ab, hi.2⟩, ⟨?_, ?_, ?_, ?_, ?_⟩, ?_⟩
  · exact ownsRow_setCell_other hA' (fun e => (hv2 d e).1 rfl) _
  · intro j hj
    unfold putS
    simp only
    by_cases e : j = s.nw
    · rw [if_pos e, if_pos e]; exact ⟨hi.1, hF⟩
    · rw [if_neg e, if_neg e]; exact h.D8 j (by have : j < s.nw + 1 := hj; omega)
  · exact hO3.os.trans hO.os
  · exact hO3.tape.trans hO.tape
  · exact hO3.output.trans hO.output
  · exact Nat.le_trans hO.size hO3.size
  · intro k hk h1 h2 h3
    exact (hO3.block k (Nat.lt_of_lt_of_le hk hO.size) h1).trans (hO.block k hk (hvn k hk h3))
  · intro k hk
    rcases hob with e | e
    · exact .inl (by rw [← e]; exact hk)
    · rw [e] at hk; have := Option.some.inj hk; exact .inr (by omega)
set_option maxRecDepth 100000 in
set_option maxHeartbeats 8000000 in
theorem write_any {w : World} {B d sb : Nat} {v : Value} {s : DS} (h : DK w B d sb v s) (i pb po cb : Nat) (F : Nat → Nat) (hi : i < s.n) (hF : Bytes w (some ⟨pb, po, none⟩) 64 F) (hnw : s.nw + 1 < 100000000) (hp : pb ≠ d ∧ pb ≠ sb ∧ v.ownBlock ≠ some pb) :
    Calls Tryd.prog 10 #[.pointer (some ⟨d, 0, none⟩), .int .i64 (i : Int), .slice (some ⟨pb, po, none⟩) 64 cb] w fun e w' =>
      e = .returned (if (stepS s).dn = true then .iface 60 (.int .i64 23) else .nilIface) ∧ ∃ v', Dn w w' B d sb v v' (if (stepS s).dn = true then stepS s else putS (stepS s) i F) := by
  have hn2 := h.n0.2
  have hh := has_any h (i : Int) (by omega)
  rw [decide_eq_true (show (0 : Int) ≤ (i : Int) ∧ (i : Int) < (s.n : Int) by omega)] at hh
  have HH := Lib.hid hh
  have hst := step_any h
  have HF := Lib.hid hF
  have hF8 : ∀ k, k < 64 → F k < 256 := fun k hk => (hF k hk).1
  have HP := Lib.hid hp
  have HI := Lib.hid (show i < s.n ∧ s.nw + 1 < 100000000 from ⟨hi, hnw⟩)
  have HD0 := Lib.hid h
  clear hh h hF hp hi hnw
  obtain ⟨s1, hs1⟩ : ∃ x, stepS s = x := ⟨_, rfl⟩
  rw [hs1] at hst ⊢
  have HN1 : Hid (s1.n = s.n ∧ s1.nw = s.nw) := Lib.hid (by rw [← hs1]; exact ⟨rfl, rfl⟩)
  clear hs1
  cases hdn : s1.dn with
  | true =>
    rw [if_pos rfl, if_pos rfl]
    rw [hdn] at hst
    have HST := Lib.hid hst
    clear hdn hst
    go_enter Tryd.func10, Tryd.ntmps10
    go_wp2_with fail
    refine HH.out.mono ?_
    rintro e w0 ⟨rfl, rfl⟩
    go_wp2_with fail
    refine HST.out.mono ?_
    rintro e w1 ⟨rfl, hd1⟩
    have HD1 := Lib.hid hd1
    clear hd1 HST HH
    go_wp2_with fail
    go_ret
    exact ⟨rfl, v, HD1.out⟩
  | false =>
    rw [if_neg (by decide), if_neg (by decide)]
    rw [hdn] at hst
    have HST := Lib.hid hst
    clear hdn hst
    go_enter Tryd.func10, Tryd.ntmps10
    go_wp2_with fail
    refine HH.out.mono ?_
    rintro e w0 ⟨rfl, rfl⟩
    go_wp2_with fail
    refine HST.out.mono ?_
    rintro e w1 ⟨rfl, hd1⟩
    have HD1 := Lib.hid hd1
    clear hd1 HST HH
    have hpv := HP.out
    have HNI := Lib.hid (show i < s1.n ∧ s1.nw + 1 < 100000000 by rw [HN1.out.1, HN1.out.2]; exact HI.out)
    have hbd : ∀ k, v.ownBlock = some k → k < w.heap.size := fun k hk => (HD0.out.lt.2.2 k hk).2
    have hpw : pb < w.heap.size := by
      obtain ⟨_, b2, o2, e2, h2⟩ := HF.out 0 (by decide)
      cases e2
      exact World.block_lt_of_cell? _ _ h2
    have hR0 : w1.drew.rangeAt pb po (rowC 64 F) := fun j u hu => by
      have hj : j < 64 := by have := (List.getElem?_eq_some_iff.1 hu).1; rw [rowC_len] at this; exact this
      rw [rowC_get _ hj] at hu
      obtain ⟨_, b2, o2, e2, h2⟩ := HF.out j hj
      cases e2
      rw [← hu, ← h2]
      simp only [World.cell?]
      show (match w1.heap[pb]? with | some (.cells cs _ _) => _ | _ => _) = _
      rw [HD1.out.ot.block pb hpw hpv.1 hpv.2.1 hpv.2.2]
      rfl
    have hD0 : DK w1.drew B d sb v s1 := HD1.out.dk.later (Below.refl _ _).drew
    have hpw1 : pb < w1.drew.heap.size := Nat.lt_of_lt_of_le hpw HD1.out.ot.size
    have HT : Hid (∀ w9 v9 s9, Dn w1.drew w9 B d sb v v9 s9 → Dn w w9 B d sb v v9 s9) := Lib.hid fun w9 v9 s9 h9 => (HD1.out.trans (Dn.later HD1.out.dk (Below.refl _ _).drew)).trans h9
    clear hbd hpw HD1 HF HP HD0
    go_upto_region 5 with fail
    have c1 : w1.drew.cell? ⟨d, 1, none⟩ = some v := hD0.c0.2.1
    refine wp_region_held_drew (S := (fun A => A.rangeAt pb po (rowC 64 F))) (by kernel_rfl) ?_ (fun hHeld => ?_)
    · (try dsimp only)
      (first | assumption | exact hR0 | exact hR1 | exact hR2 | exact hR3)
    generalize w1.drew = WR at *
    refine wpAnyH_take (i := 0) (oi := { dst := some 21, op := Go.Op.move (Go.Operand.tmp 0), type := 23, pos := "disk.go:82", after := #[], guard := none }) (v := ?_) rfl (by kernel_rfl) (by kernel_rfl) (by kernel_rfl) (fun _ _ _ h => h) (Or.inl ⟨by rfl, ?_⟩) (by assumption) ?_
    rotate_left
    · intro wS hSw
      (try dsimp only at hSw)
      go_simp
      (try with_reducible rfl)
    (try simp only [Act.put, List.setIfInBounds_toArray, List.set_cons_zero, List.set_cons_succ])
    refine wpAnyH_take (i := 1) (oi := { dst := some 22, op := Go.Op.move (Go.Operand.tmp 0), type := 23, pos := "disk.go:82", after := #[], guard := none }) (v := ?_) rfl (by kernel_rfl) (by kernel_rfl) (by kernel_rfl) (fun _ _ _ h => h) (Or.inl ⟨by rfl, ?_⟩) (by assumption) ?_
    rotate_left
    · intro wS hSw
      (try dsimp only at hSw)
      go_simp
      (try with_reducible rfl)
    (try simp only [Act.put, List.setIfInBounds_toArray, List.set_cons_zero, List.set_cons_succ])
    refine wpAnyH_take (i := 2) (oi := { dst := some 23, op := Go.Op.nilCheck (Go.Operand.tmp 22), type := 0, pos := "disk.go:82", after := #[{ on := 1, ground := Go.Ground.data }], guard := none }) (v := ?_) rfl (by kernel_rfl) (by kernel_rfl) (by kernel_rfl) (fun _ _ _ h => h) (Or.inl ⟨by rfl, ?_⟩) (by assumption) ?_
    rotate_left
    · intro wS hSw
      (try dsimp only at hSw)
      go_simp
      (try with_reducible rfl)
    (try simp only [Act.put, List.setIfInBounds_toArray, List.set_cons_zero, List.set_cons_succ])
    refine wpAnyH_take (i := 3) (oi := { dst := some 24, op := Go.Op.fieldAddr 64 (Go.Operand.tmp 23) 1, type := 0, pos := "disk.go:82", after := #[{ on := 2, ground := Go.Ground.data }], guard := none }) (v := ?_) rfl (by kernel_rfl) (by kernel_rfl) (by kernel_rfl) (fun _ _ _ h => h) (Or.inl ⟨by rfl, ?_⟩) (by assumption) ?_
    rotate_left
    · intro wS hSw
      (try dsimp only at hSw)
      go_simp
      (try with_reducible rfl)
    (try simp only [Act.put, List.setIfInBounds_toArray, List.set_cons_zero, List.set_cons_succ])
    refine wpAnyH_take (i := 5) (oi := { dst := some 26, op := Go.Op.move (Go.Operand.tmp 1), type := 3, pos := "disk.go:82", after := #[], guard := none }) (v := ?_) rfl (by kernel_rfl) (by kernel_rfl) (by kernel_rfl) (fun _ _ _ h => h) (Or.inl ⟨by rfl, ?_⟩) (by assumption) ?_
    rotate_left
    · intro wS hSw
      (try dsimp only at hSw)
      go_simp
      (try with_reducible rfl)
    (try simp only [Act.put, List.setIfInBounds_toArray, List.set_cons_zero, List.set_cons_succ])
    refine wpAnyH_take (i := 6) (oi := { dst := some 27, op := Go.Op.move (Go.Operand.tmp 2), type := 22, pos := "disk.go:82", after := #[], guard := none }) (v := ?_) rfl (by kernel_rfl) (by kernel_rfl) (by kernel_rfl) (fun _ _ _ h => h) (Or.inl ⟨by rfl, ?_⟩) (by assumption) ?_
    rotate_left
    · intro wS hSw
      (try dsimp only at hSw)
      go_simp
      (try with_reducible rfl)
    (try simp only [Act.put, List.setIfInBounds_toArray, List.set_cons_zero, List.set_cons_succ])
    refine wpAnyH_take (i := 7) (oi := { dst := some 28, op := Go.Op.sliceToArrayPointer 68 (Go.Operand.tmp 27), type := 0, pos := "disk.go:82", after := #[{ on := 6, ground := Go.Ground.data }], guard := none }) (v := ?_) rfl (by kernel_rfl) (by kernel_rfl) (by kernel_rfl) (fun _ _ _ h => h) (Or.inl ⟨by rfl, ?_⟩) (by assumption) ?_
    rotate_left
    · intro wS hSw
      refine exec_s2aS (x := .tmp 27) (oa := some ⟨pb, po, none⟩) (len := 64) (cap := cb) ?_ ?_ (by decide) <;> rfl
    (try simp only [Act.put, List.setIfInBounds_toArray, List.set_cons_zero, List.set_cons_succ])
    refine wpAnyH_take (i := 8) (oi := { dst := some 29, op := Go.Op.load 68 (Go.Operand.tmp 28), type := 68, pos := "disk.go:82", after := #[{ on := 7, ground := Go.Ground.data }], guard := none }) (v := ?_) rfl (by kernel_rfl) (by kernel_rfl) (by kernel_rfl) (fun _ _ _ h => h) (Or.inl ⟨by rfl, ?_⟩) (by assumption) ?_
    rotate_left
    · intro wS hSw
      refine exec_loadM (x := .tmp 28) (b := pb) (f := po) (cs := rowC 64 F) (d := _) ?_ ?_ hSw Tryd.underlying68 rfl info_sector <;> rfl
    (try simp only [Act.put, List.setIfInBounds_toArray, List.set_cons_zero, List.set_cons_succ])
    refine wpAnyH_take (i := 9) (oi := { dst := some 30, op := Go.Op.build 70 #[(0, Go.Operand.tmp 26), (1, Go.Operand.tmp 29)], type := 70, pos := "disk.go:82", after := #[{ on := 5, ground := Go.Ground.data }, { on := 8, ground := Go.Ground.data }], guard := none }) (v := ?_) rfl (by kernel_rfl) (by kernel_rfl) (by kernel_rfl) (fun _ _ _ h => h) (Or.inl ⟨by rfl, ?_⟩) (by assumption) ?_
    rotate_left
    · intro wS hSw
      refine exec_bw (x := .tmp 26) (y := .tmp 29) (i := i) (F := F) ?_ ?_ ?_ <;> rfl
    (try simp only [Act.put, List.setIfInBounds_toArray, List.set_cons_zero, List.set_cons_succ])
    refine wpAnyH_ready (rs := [4, 10]) (by kernel_rfl) (by simp) ?_
    refine AllReadyH.cons (o := { dst := some 25, op := Go.Op.load 62 (Go.Operand.tmp 24), type := 62, pos := "disk.go:82", after := #[{ on := 3, ground := Go.Ground.data }], guard := none }) rfl (fun K hK => ?_) ?_
    · skip
      go_simp
      (skip)
      (try go_wp2_with fail)
      refine hK.out _ _ ?_ (fun hHeld => ?_)
      · (try dsimp only)
        (first | assumption | exact hR0 | exact hR1 | exact hR2 | exact hR3)
      clear hK K
      (try simp only [Act.put, List.setIfInBounds_toArray, List.set_cons_zero, List.set_cons_succ])
      refine wpAnyH_ready (rs := [10]) (by kernel_rfl) (by simp) ?_
      refine AllReadyH.cons (o := { dst := some 31, op := Go.Op.buildSlice 62 1 #[(0, Go.Operand.tmp 30)], type := 62, pos := "disk.go:82", after := #[{ on := 9, ground := Go.Ground.data }], guard := none }) rfl (fun K hK => ?_) AllReadyH.nil
      (refine step_bsW rfl (.tmp 30) rfl i F rfl ?_; obtain ⟨W1, hW1⟩ : ∃ q, WR.alloc (.cells (wtC i F).toArray 70) = q := ⟨_, rfl⟩; rw [hW1]; have hb1 : Below WR.heap.size WR W1 := (by rw [← hW1]; exact (Below.refl _ _).alloc (Nat.le_refl _) _); have hK1 : Blk W1 WR.heap.size (wtC i F).toArray 70 := (by rw [← hW1]; exact Blk.new _ _ _); have hD1 := hD0.later hb1; have c1b : W1.cell? ⟨d, 1, none⟩ = some v := hD1.c0.2.1; have hR1 : W1.rangeAt pb po (rowC 64 F) := (fun j v hv => cell_below hb1 (hR0 j v hv)); clear hW1; skip)
      refine hK.out _ _ ?_ (fun hHeld => ?_)
      · (try dsimp only)
        (first | assumption | exact hR0 | exact hR1 | exact hR2 | exact hR3)
      clear hK K
      (try simp only [Act.put, List.setIfInBounds_toArray, List.set_cons_zero, List.set_cons_succ])
      refine wpAnyH_ready (rs := [11]) (by kernel_rfl) (by simp) ?_
      refine AllReadyH.cons (o := { dst := some 32, op := Go.Op.call { callee := Go.Callee.builtin Go.Builtin.append, args := #[Go.Operand.tmp 25, Go.Operand.tmp 31], argTypes := #[62, 62] }, type := 62, pos := "disk.go:82", after := #[{ on := 4, ground := Go.Ground.data }, { on := 10, ground := Go.Ground.data }], guard := none }) rfl (fun K hK => ?_) AllReadyH.nil
      (refine step_appW rfl (.tmp 25) (.tmp 31) rfl B v s1.nw (rws s1.nw fun j => wtC (s1.A j) (s1.D j)) rfl hD1.wt ⟨WR.heap.size, 0, none⟩ (wtC i F) rfl (wtC_len i F) (fun j u hu => by rw [Addr.add_mid, Nat.zero_add, Blk.cell hK1 j]; simpa using hu) (wtC_one i F) hD1.nb (by have := hD1.lt.1; have := hD1.bd; omega) ?_; intro v2 W2 hA2 hg2 hob2; obtain ⟨oa2, cp2, hv2, hf2⟩ := put_done hD1 hA2 hg2 hob2 HNI.out hF8; subst hv2; have hR2 : W2.rangeAt pb po (rowC 64 F) := range_grown hR1 hg2 hpv.2.2 (by have := hb1.size; omega); obtain ⟨hc2, hfr2, HP2⟩ := hf2; have HDN := Lib.hid (show Dn WR (W2.setCell ⟨d, 1, none⟩ (.slice oa2 (s1.nw + 1) cp2)) B d sb v (.slice oa2 (s1.nw + 1) cp2) (putS s1 i F) from (Dn.later hD0 hb1).trans HP2); clear HP2 hA2 hg2 hob2 hD1 hK1 hR1; skip)
      refine hK.out _ _ ?_ (fun hHeld => ?_)
      · (try dsimp only)
        (first | assumption | exact hR0 | exact hR1 | exact hR2 | exact hR3)
      clear hK K
      (try simp only [Act.put, List.setIfInBounds_toArray, List.set_cons_zero, List.set_cons_succ])
      refine wpAnyH_take (i := 12) (oi := { dst := some 33, op := Go.Op.nilCheck (Go.Operand.tmp 21), type := 0, pos := "disk.go:82", after := #[{ on := 0, ground := Go.Ground.data }, { on := 0, ground := Go.Ground.phase }, { on := 1, ground := Go.Ground.phase }, { on := 2, ground := Go.Ground.phase }, { on := 3, ground := Go.Ground.phase }, { on := 4, ground := Go.Ground.phase }, { on := 5, ground := Go.Ground.phase }, { on := 6, ground := Go.Ground.phase }, { on := 7, ground := Go.Ground.phase }, { on := 8, ground := Go.Ground.phase }, { on := 9, ground := Go.Ground.phase }, { on := 10, ground := Go.Ground.phase }, { on := 11, ground := Go.Ground.phase }], guard := none }) (v := ?_) rfl (by kernel_rfl) (by kernel_rfl) (by kernel_rfl) (fun _ _ _ h => h) (Or.inl ⟨by rfl, ?_⟩) (by assumption) ?_
      rotate_left
      · intro wS hSw
        (try dsimp only at hSw)
        go_simp
        (try with_reducible rfl)
      (try simp only [Act.put, List.setIfInBounds_toArray, List.set_cons_zero, List.set_cons_succ])
      refine wpAnyH_take (i := 13) (oi := { dst := some 34, op := Go.Op.fieldAddr 64 (Go.Operand.tmp 33) 1, type := 0, pos := "disk.go:82", after := #[{ on := 12, ground := Go.Ground.data }, { on := 0, ground := Go.Ground.phase }, { on := 1, ground := Go.Ground.phase }, { on := 2, ground := Go.Ground.phase }, { on := 3, ground := Go.Ground.phase }, { on := 4, ground := Go.Ground.phase }, { on := 5, ground := Go.Ground.phase }, { on := 6, ground := Go.Ground.phase }, { on := 7, ground := Go.Ground.phase }, { on := 8, ground := Go.Ground.phase }, { on := 9, ground := Go.Ground.phase }, { on := 10, ground := Go.Ground.phase }, { on := 11, ground := Go.Ground.phase }], guard := none }) (v := ?_) rfl (by kernel_rfl) (by kernel_rfl) (by kernel_rfl) (fun _ _ _ h => h) (Or.inl ⟨by rfl, ?_⟩) (by assumption) ?_
      rotate_left
      · intro wS hSw
        (try dsimp only at hSw)
        go_simp
        (try with_reducible rfl)
      (try simp only [Act.put, List.setIfInBounds_toArray, List.set_cons_zero, List.set_cons_succ])
      refine wpAnyH_ready (rs := [14]) (by kernel_rfl) (by simp) ?_
      refine AllReadyH.cons (o := { dst := none, op := Go.Op.store 62 (Go.Operand.tmp 34) (Go.Operand.tmp 32), type := 0, pos := "disk.go:82", after := #[{ on := 13, ground := Go.Ground.data }, { on := 11, ground := Go.Ground.data }, { on := 11, ground := Go.Ground.chain }, { on := 0, ground := Go.Ground.phase }, { on := 1, ground := Go.Ground.phase }, { on := 2, ground := Go.Ground.phase }, { on := 3, ground := Go.Ground.phase }, { on := 4, ground := Go.Ground.phase }, { on := 5, ground := Go.Ground.phase }, { on := 6, ground := Go.Ground.phase }, { on := 7, ground := Go.Ground.phase }, { on := 8, ground := Go.Ground.phase }, { on := 9, ground := Go.Ground.phase }, { on := 10, ground := Go.Ground.phase }, { on := 11, ground := Go.Ground.phase }], guard := none }) rfl (fun K hK => ?_) AllReadyH.nil
      go_simp
      (have hR3 : (W2.setCell ⟨d, 1, none⟩ (.slice oa2 (s1.nw + 1) cp2)).rangeAt pb po (rowC 64 F) := (fun j v hv => (World.cell?_setCell_other _ _ _ _ (fun e => hpv.1 (congrArg Addr.block e).symm)).trans (hR2 j v hv)); skip)
      (try go_wp2_with fail)
      refine hK.out _ _ ?_ (fun hHeld => ?_)
      · (try dsimp only)
        (first | assumption | exact hR0 | exact hR1 | exact hR2 | exact hR3)
      clear hK K
      (try simp only [Act.put, List.setIfInBounds_toArray, List.set_cons_zero, List.set_cons_succ])
      refine wpAnyH_done (by kernel_rfl) ?_ _
      clear hR0 hR2 hc2 hfr2
      go_wp2_with fail
      go_ret
      exact ⟨rfl, _, HT.out _ _ _ HDN.out⟩
    refine AllReadyH.cons (o := { dst := some 31, op := Go.Op.buildSlice 62 1 #[(0, Go.Operand.tmp 30)], type := 62, pos := "disk.go:82", after := #[{ on := 9, ground := Go.Ground.data }], guard := none }) rfl (fun K hK => ?_) AllReadyH.nil
    (refine step_bsW rfl (.tmp 30) rfl i F rfl ?_; obtain ⟨W1, hW1⟩ : ∃ q, WR.alloc (.cells (wtC i F).toArray 70) = q := ⟨_, rfl⟩; rw [hW1]; have hb1 : Below WR.heap.size WR W1 := (by rw [← hW1]; exact (Below.refl _ _).alloc (Nat.le_refl _) _); have hK1 : Blk W1 WR.heap.size (wtC i F).toArray 70 := (by rw [← hW1]; exact Blk.new _ _ _); have hD1 := hD0.later hb1; have c1b : W1.cell? ⟨d, 1, none⟩ = some v := hD1.c0.2.1; have hR1 : W1.rangeAt pb po (rowC 64 F) := (fun j v hv => cell_below hb1 (hR0 j v hv)); clear hW1; skip)
    refine hK.out _ _ ?_ (fun hHeld => ?_)
    · (try dsimp only)
      (first | assumption | exact hR0 | exact hR1 | exact hR2 | exact hR3)
    clear hK K
    (try simp only [Act.put, List.setIfInBounds_toArray, List.set_cons_zero, List.set_cons_succ])
    refine wpAnyH_ready (rs := [4]) (by kernel_rfl) (by simp) ?_
    refine AllReadyH.cons (o := { dst := some 25, op := Go.Op.load 62 (Go.Operand.tmp 24), type := 62, pos := "disk.go:82", after := #[{ on := 3, ground := Go.Ground.data }], guard := none }) rfl (fun K hK => ?_) AllReadyH.nil
    go_simp
    (skip)
    (try go_wp2_with fail)
    refine hK.out _ _ ?_ (fun hHeld => ?_)
    · (try dsimp only)
      (first | assumption | exact hR0 | exact hR1 | exact hR2 | exact hR3)
    clear hK K
    (try simp only [Act.put, List.setIfInBounds_toArray, List.set_cons_zero, List.set_cons_succ])
    refine wpAnyH_ready (rs := [11]) (by kernel_rfl) (by simp) ?_
    refine AllReadyH.cons (o := { dst := some 32, op := Go.Op.call { callee := Go.Callee.builtin Go.Builtin.append, args := #[Go.Operand.tmp 25, Go.Operand.tmp 31], argTypes := #[62, 62] }, type := 62, pos := "disk.go:82", after := #[{ on := 4, ground := Go.Ground.data }, { on := 10, ground := Go.Ground.data }], guard := none }) rfl (fun K hK => ?_) AllReadyH.nil
    (refine step_appW rfl (.tmp 25) (.tmp 31) rfl B v s1.nw (rws s1.nw fun j => wtC (s1.A j) (s1.D j)) rfl hD1.wt ⟨WR.heap.size, 0, none⟩ (wtC i F) rfl (wtC_len i F) (fun j u hu => by rw [Addr.add_mid, Nat.zero_add, Blk.cell hK1 j]; simpa using hu) (wtC_one i F) hD1.nb (by have := hD1.lt.1; have := hD1.bd; omega) ?_; intro v2 W2 hA2 hg2 hob2; obtain ⟨oa2, cp2, hv2, hf2⟩ := put_done hD1 hA2 hg2 hob2 HNI.out hF8; subst hv2; have hR2 : W2.rangeAt pb po (rowC 64 F) := range_grown hR1 hg2 hpv.2.2 (by have := hb1.size; omega); obtain ⟨hc2, hfr2, HP2⟩ := hf2; have HDN := Lib.hid (show Dn WR (W2.setCell ⟨d, 1, none⟩ (.slice oa2 (s1.nw + 1) cp2)) B d sb v (.slice oa2 (s1.nw + 1) cp2) (putS s1 i F) from (Dn.later hD0 hb1).trans HP2); clear HP2 hA2 hg2 hob2 hD1 hK1 hR1; skip)
    refine hK.out _ _ ?_ (fun hHeld => ?_)
    · (try dsimp only)
      (first | assumption | exact hR0 | exact hR1 | exact hR2 | exact hR3)
    clear hK K
    (try simp only [Act.put, List.setIfInBounds_toArray, List.set_cons_zero, List.set_cons_succ])
    refine wpAnyH_take (i := 12) (oi := { dst := some 33, op := Go.Op.nilCheck (Go.Operand.tmp 21), type := 0, pos := "disk.go:82", after := #[{ on := 0, ground := Go.Ground.data }, { on := 0, ground := Go.Ground.phase }, { on := 1, ground := Go.Ground.phase }, { on := 2, ground := Go.Ground.phase }, { on := 3, ground := Go.Ground.phase }, { on := 4, ground := Go.Ground.phase }, { on := 5, ground := Go.Ground.phase }, { on := 6, ground := Go.Ground.phase }, { on := 7, ground := Go.Ground.phase }, { on := 8, ground := Go.Ground.phase }, { on := 9, ground := Go.Ground.phase }, { on := 10, ground := Go.Ground.phase }, { on := 11, ground := Go.Ground.phase }], guard := none }) (v := ?_) rfl (by kernel_rfl) (by kernel_rfl) (by kernel_rfl) (fun _ _ _ h => h) (Or.inl ⟨by rfl, ?_⟩) (by assumption) ?_
    rotate_left
    · intro wS hSw
      (try dsimp only at hSw)
      go_simp
      (try with_reducible rfl)
    (try simp only [Act.put, List.setIfInBounds_toArray, List.set_cons_zero, List.set_cons_succ])
    refine wpAnyH_take (i := 13) (oi := { dst := some 34, op := Go.Op.fieldAddr 64 (Go.Operand.tmp 33) 1, type := 0, pos := "disk.go:82", after := #[{ on := 12, ground := Go.Ground.data }, { on := 0, ground := Go.Ground.phase }, { on := 1, ground := Go.Ground.phase }, { on := 2, ground := Go.Ground.phase }, { on := 3, ground := Go.Ground.phase }, { on := 4, ground := Go.Ground.phase }, { on := 5, ground := Go.Ground.phase }, { on := 6, ground := Go.Ground.phase }, { on := 7, ground := Go.Ground.phase }, { on := 8, ground := Go.Ground.phase }, { on := 9, ground := Go.Ground.phase }, { on := 10, ground := Go.Ground.phase }, { on := 11, ground := Go.Ground.phase }], guard := none }) (v := ?_) rfl (by kernel_rfl) (by kernel_rfl) (by kernel_rfl) (fun _ _ _ h => h) (Or.inl ⟨by rfl, ?_⟩) (by assumption) ?_
    rotate_left
    · intro wS hSw
      (try dsimp only at hSw)
      go_simp
      (try with_reducible rfl)
    (try simp only [Act.put, List.setIfInBounds_toArray, List.set_cons_zero, List.set_cons_succ])
    refine wpAnyH_ready (rs := [14]) (by kernel_rfl) (by simp) ?_
    refine AllReadyH.cons (o := { dst := none, op := Go.Op.store 62 (Go.Operand.tmp 34) (Go.Operand.tmp 32), type := 0, pos := "disk.go:82", after := #[{ on := 13, ground := Go.Ground.data }, { on := 11, ground := Go.Ground.data }, { on := 11, ground := Go.Ground.chain }, { on := 0, ground := Go.Ground.phase }, { on := 1, ground := Go.Ground.phase }, { on := 2, ground := Go.Ground.phase }, { on := 3, ground := Go.Ground.phase }, { on := 4, ground := Go.Ground.phase }, { on := 5, ground := Go.Ground.phase }, { on := 6, ground := Go.Ground.phase }, { on := 7, ground := Go.Ground.phase }, { on := 8, ground := Go.Ground.phase }, { on := 9, ground := Go.Ground.phase }, { on := 10, ground := Go.Ground.phase }, { on := 11, ground := Go.Ground.phase }], guard := none }) rfl (fun K hK => ?_) AllReadyH.nil
    go_simp
    (have hR3 : (W2.setCell ⟨d, 1, none⟩ (.slice oa2 (s1.nw + 1) cp2)).rangeAt pb po (rowC 64 F) := (fun j v hv => (World.cell?_setCell_other _ _ _ _ (fun e => hpv.1 (congrArg Addr.block e).symm)).trans (hR2 j v hv)); skip)
    (try go_wp2_with fail)
    refine hK.out _ _ ?_ (fun hHeld => ?_)
    · (try dsimp only)
      (first | assumption | exact hR0 | exact hR1 | exact hR2 | exact hR3)
    clear hK K
    (try simp only [Act.put, List.setIfInBounds_toArray, List.set_cons_zero, List.set_cons_succ])
    refine wpAnyH_done (by kernel_rfl) ?_ _
    clear hR0 hR2 hc2 hfr2
    go_wp2_with fail
    go_ret
    exact ⟨rfl, _, HT.out _ _ _ HDN.out⟩
end Go.Proofs.YtcohllhmfghlfaaDoor
