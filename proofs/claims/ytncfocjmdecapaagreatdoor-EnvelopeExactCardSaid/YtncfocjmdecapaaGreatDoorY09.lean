/- Part of the proof: what stands here serves the walks of the functions that the statement calls. -/
import Derived.Shelf.Abstract
import Derived.Laws.Cover3
import Derived.Test.YtncfocjmdecapaaGreatDoorY08
namespace Go.Proofs.YtncfocjmdecapaaGreatDoor
set_option linter.unusedVariables false
set_option linter.unusedSimpArgs false
open Go.RowKit
set_option maxRecDepth 100000
set_option maxHeartbeats 4000000
theorem und_ts : Tryz.prog.underlying 30 = some (.slice 37) := by kernel_rfl
theorem results_cell_tmp1 {P : Program} {fn : Func} {p q : Tmp} {ty : TypeId} (h : fn.results = #[.cell p ty, .tmp q]) (tmps : Array Value) (w : World) (g : Nat) (t : TypeId) (cs : Array Value) (fr : Nat × Nat) (d : TypeDesc)
  (hp : tmps.getD p undef = .pointer (some ⟨g, 0, none⟩)) (hg : w.heap[g]? = some (.cells cs t fr))
  (hu : P.underlying ty = some d) (hd : (match d with | .struct _ | .array _ _ => true | _ => false) = true) (hi : (P.info? ty).map (·.size) = some cs.size) :
  (results fn tmps).run P w = .ok (.tuple #[.agg cs, tmps.getD q undef]) w := by
 have hp' : tmps[p]?.getD undef = .pointer (some ⟨g, 0, none⟩) := by simpa using hp
 simp [results, h, hp', asAddr, run_loadVar_row w g t ty cs fr d hg hu hd hi]
theorem info_rg (v : Value) : (Tryz.prog.info? 32).map (·.size) = some (#[v] : Array Value).size := by kernel_rfl
theorem wpList_bs1 {ops : Array Oper} {rest : List Oper} {o : Oper} {a : Act} {w : World} {Q : Exit → Act → World → Prop} (hgd : o.guard = none) (x : Operand) (ho : o.op = .buildSlice 30 1 #[(0, x)]) (C : Array Value) (hx : a.eval x = .agg C)
  (h : ∀ w, (Instr.buildSlice 30 1 #[(0, .agg C)]).run Tryz.prog w = .ok (.slice (some ⟨w.heap.size, 0, none⟩) 1 1) (w.alloc (.cells C 37)))
  (hk : wpList Tryz.prog ops Q rest (a.put o.dst (.slice (some ⟨w.heap.size, 0, none⟩) 1 1)) (w.alloc (.cells C 37))) : wpList Tryz.prog ops Q (o :: rest) a w := by
 refine wpList_plain hgd fun K hK => ?_
 have e : (#[((0 : Nat), x)].map fun (i, x) => (i, a.eval x)) = #[(0, .agg C)] := by simp [hx]
 unfold Oper.wp execOp
 simp only [ho, e, h, Sem.run_bind, Result.andThen_ok]
 exact hK _ _ hk
theorem step_bs1 {ops : Array Oper} {o : Oper} {a : Act} {w : World} {K : Act → World → Prop} {Q : Exit → Act → World → Prop} {E : Prop} (hgd : o.guard = none) (x : Operand) (ho : o.op = .buildSlice 30 1 #[(0, x)]) (C : Array Value) (hx : a.eval x = .agg C)
  (h : ∀ w, (Instr.buildSlice 30 1 #[(0, .agg C)]).run Tryz.prog w = .ok (.slice (some ⟨w.heap.size, 0, none⟩) 1 1) (w.alloc (.cells C 37)))
  (hk : K (a.put o.dst (.slice (some ⟨w.heap.size, 0, none⟩) 1 1)) (w.alloc (.cells C 37))) : if Region.wanted o (yielded ops a.tmps) = true then Oper.wp Tryz.prog o a w K Q else E := by
 have hw : Region.wanted o (yielded ops a.tmps) = true := by simp [Region.wanted, hgd]
 rw [if_pos hw]
 have e : (#[((0 : Nat), x)].map fun (i, x) => (i, a.eval x)) = #[(0, .agg C)] := by simp [hx]
 unfold Oper.wp execOp
 simp only [ho, e, h, Sem.run_bind, Result.andThen_ok]
 exact hk
theorem bs_t1 (n : Nat) (S : Nat → Nat) (w : World) : (Instr.buildSlice 30 1 #[(0, .agg (tmL n S).toArray)]).run Tryz.prog w = .ok (.slice (some ⟨w.heap.size, 0, none⟩) 1 1) (w.alloc (.cells (tmL n S).toArray 37)) := by kernel_rfl
theorem TL.one {w : World} {g n : Nat} {S : Nat → Nat} {T : TypeId} (h : Blk w g (tmL n S).toArray T) : TL w (some ⟨g, 0, none⟩) 1 (fun _ => n) (fun _ => S) := fun i hi => ⟨g, 0, rfl, fun j v hv => by
 obtain rfl : i = 0 := by omega
 rw [Blk.cell h, List.getElem?_toArray, Nat.zero_mul, Nat.add_zero, Nat.zero_add]; exact hv⟩
theorem first_any (S : Nat → Nat) (w : World) :
  Calls Tryz.prog 8 #[.agg (rowC 32 S).toArray] w fun e w' => ∃ g, e = .returned (.agg #[.slice (some ⟨g, 0, none⟩) 1 1]) ∧ TL w' (some ⟨g, 0, none⟩) 1 (fun _ => 1) (fun _ => S) ∧ Below w.heap.size w w' := by
 obtain ⟨F, hF⟩ := zX ((rowC 32 S).toArray)
 obtain ⟨C, hC⟩ := zX ((tmL 1 S).toArray)
 rw [hF]
 obtain ⟨b2, hb2⟩ := zX (w.heap.size + 1)
 obtain ⟨w1, hw1⟩ := zX ((w.alloc (.cells F 22)).alloc (.cells #[.slice none 0 0] 32))
 have hb1 : Below w.heap.size w w1 := by rw [← hw1]; exact (zA).alloc (by simp) _
 have hP : Blk w1 w.heap.size F 22 := by rw [← hw1]; exact (Blk.new _ _ _).alloc _
 have hR : Blk w1 b2 #[.slice none 0 0] 32 := by rw [← hw1, ← hb2]; simpa using Blk.new (w.alloc (.cells F 22)) #[.slice none 0 0] 32
 obtain ⟨w2, hw2⟩ := zX (w1.alloc (.cells C 37))
 have hb12 : Below w1.heap.size w1 w2 := by rw [← hw2]; exact zA
 obtain ⟨g, hg⟩ := zX w1.heap.size
 have hT : Blk w2 g C 37 := by rw [← hw2, ← hg]; exact Blk.new _ _ _
 have hR2 := Blk.below hR hb12 (Blk.lt hR)
 have f2 : w2.frozen? ⟨b2, 0, none⟩ = false := Blk.free hR2 0
 have c2 : w2.cell? ⟨b2, 0, none⟩ = some (.slice none 0 0) := by rw [Blk.cell hR2]; rfl
 obtain ⟨w3, hw3⟩ := zX (w2.setCell ⟨b2, 0, none⟩ (.slice (some ⟨g, 0, none⟩) 1 1))
 have hO : Own b2 w2 w3 := by rw [← hw3]; exact (Own.refl _ _).set 0 _
 have HX : Hid (Blk w3 b2 #[.slice (some ⟨g, 0, none⟩) 1 1] 32) := zh (by rw [← hw3]; exact hR2.set 0 _)
 have HT3 : Hid (TL w3 (some ⟨g, 0, none⟩) 1 (fun _ => 1) (fun _ => S)) := zh (by
  have h9 := hO.blk hT (by have := Blk.lt hR; omega)
  rw [← hC] at h9; exact TL.one h9)
 have HB : Hid (Below w.heap.size w w3) := zh (by
  have h9 := hb1.trans (hb12.mono hb1.size)
  exact h9.trans (hO.below (by omega) h9.size))
 have HFZ : Hid (F.size = 32) := zh (by rw [← hF, List.size_toArray, rowC_len])
 have HIF : Hid ((Tryz.prog.info? 22).map (·.size) = some F.size) := zh (by rw [HFZ.out]; exact info_a32)
 have HRF := zh hP.rangeA
 have HBT : Hid (∀ w, (Instr.build 37 #[(0, .int .u32 1), (1, .agg F)]).run Tryz.prog w = .ok (.agg C) w) := zh (by rw [← hF, ← hC]; exact build_t1 1 S)
 have HBS : Hid (∀ w, (Instr.buildSlice 30 1 #[(0, .agg C)]).run Tryz.prog w = .ok (.slice (some ⟨w.heap.size, 0, none⟩) 1 1) (w.alloc (.cells C 37))) := zh (by rw [← hC]; exact bs_t1 1 S)
 have HW2 := zh hw2
 clear hP hR hb1 hb12 hT hR2 hO hw2 hF hC
 go_enter Tryz.func8, Tryz.ntmps8
 go_wp2_with (first | (refine wpList_value rfl (exec_loadA (x := .tmp 1) (C := F) rfl rfl HRF.out Tryz.underlying22 rfl HIF.out) ?_) | (refine wpList_value rfl (exec_buildM (parts := #[(0, .const (.int .u32 1)), (1, .tmp 3)]) (ps := #[(0, .int .u32 1), (1, .agg F)]) rfl (by first | rfl | (simp [Act.eval]; done) | (go_simp; done)) HBT.out) ?_) | (refine wpList_bs1 rfl (.tmp 4) rfl C rfl HBS.out ?_; rw [HW2.out, hg]; (try simp only [Act.put, zS])))
 refine bodyPost_ret (v := .agg #[.slice (some ⟨g, 0, none⟩) 1 1]) ?_ rfl ⟨g, rfl, HT3.out, HB.out⟩
 exact results_cell_row Tryz.results8 _ _ b2 32 #[.slice (some ⟨g, 0, none⟩) 1 1] (0, 0) _ rfl HX.out Tryz.underlying32 rfl (info_rg _)
set_option maxRecDepth 512
set_option maxHeartbeats 200000
theorem wp_rangeS {P : Program} {g : Operand} {ps : Array Tmp} {assign body : Code} {Q : Exit → Act → World → Prop} {a : Act} {w : World}
  {gf : Nat} {lb : Array Value} {E : Nat → Array Value} {N : Nat} {R : Nat → World → World → Prop} {G : Nat → World → Prop}
  (hg : a.eval g = .func (.func gf) #[] lb) (eg : ∀ args w, (callFunc gf args).run P w = .ok (.enter gf args) w)
  (hseq : Seq P gf lb E N R G) (hps : ∀ i, (E i).size = ps.size)
  (I I' : Nat → World → Prop) (Ix : Code → World → Prop)
  (hG : ∀ i A, I i A → G i A) (hId : ∀ i A, I i A → I i A.drew) (hIxd : ∀ c A, Ix c A → Ix c A.drew)
  (hR : ∀ i A B, i < N → I i A → R i A B → I' i B) (hRk : ∀ i A B, I i A → R i A B → Keeps w.heap.size A B)
  (hIt : ∀ i A B, Turned w.heap.size A B → I i A → I i B) (hIt' : ∀ i A B, Turned w.heap.size A B → I' i A → I' i B) (hIxt : ∀ c A B, Turned w.heap.size A B → Ix c A → Ix c B)
  (h0 : ∀ A, Below w.heap.size w A → A.heap.size = w.heap.size + 2 → I 0 A)
  (I2 : Nat → Act → World → Prop) (hIt2 : ∀ i a A B, Turned w.heap.size A B → I2 i a A → I2 i a B)
  (hassign : ∀ (l i : Nat) (W : World) (K : Act → World → Prop), w.heap.size < l → i < N → I' i W → (∀ a' W', Keeps w.heap.size W W' → I2 i a' W' → K a' W') →
   assign.wpIn (Wd (some l)) 0 P (Exit.then K (fun _ _ _ => False)) { tmps := (ps.zip (E i)).foldl (fun t (p, v) => t.setIfInBounds p v) a.tmps, defers := [] } W)
  (hbody : ∀ (l i : Nat) (a' : Act) (W : World), w.heap.size < l → i < N → I2 i a' W → body.wpIn (Wd (some l)) 0 P (roundPostR w.heap.size (I (i + 1)) Ix W) a' W)
  (hdone : ∀ (D : Nat) (W : World), w.heap.size ≤ D → I N W → W.heap[D]? = some (.deferred (some [])) → Q .normal { a with defers := { target := .collected D, args := #[] } :: a.defers } W)
  (hstop : ∀ (D : Nat) (c : Code) (W : World), w.heap.size ≤ D → Ix c W → W.heap[D]? = some (.deferred (some [])) → c.wp P Q { a with defers := { target := .collected D, args := #[] } :: a.defers } W) :
  (Code.rangeFunc g ps assign body).wp P Q a w := by
 refine (wpIn_wide (n := 0)).1 (wpIn_rangeFunc ?_)
 intro fn _
 rw [show Fence.wide.round = none from rfl]
 obtain ⟨rec, hrec⟩ : ∃ rec : LoopState → Option Code → Loop, rec = fun st pe => { state := st, pending := pe, fn, tmps := a.tmps, params := ps, assign, body, defers := w.heap.size } := ⟨_, rfl⟩
 obtain ⟨W1, hW1⟩ := zX ((w.alloc (.deferred (some []))).alloc (.loop (rec .ready none)))
 have hL1 : W1.heap[w.heap.size + 1]? = some (.loop (rec .ready none)) := by
  rw [← hW1]; have := World.alloc_heap_new (w.alloc (.deferred (some []))) (.loop (rec .ready none)); rwa [World.size_alloc] at this
 have hK1 : W1.heap[w.heap.size]? = some (.deferred (some [])) := by
  rw [← hW1]; exact (Below.heap_alloc _ _ _ (by simp)).trans (World.alloc_heap_new w _)
 have hI1 : I 0 W1 := h0 W1 (by rw [← hW1]; exact ((Below.refl _ w).alloc (Nat.le_refl _) _).alloc (by simp) _) (by rw [← hW1]; simp)
 have turn : ∀ {A : World} {o : Obj} (o' : Obj), A.heap[w.heap.size + 1]? = some o → o.isCells = false → o'.isCells = false → Turned w.heap.size A (A.putObj (w.heap.size + 1) o') :=
  fun o' h1 h2 h3 => ⟨_, _, o', Nat.le_succ _, h1, h2, h3, rfl⟩
 refine ⟨w.heap.size + 1, [{ target := .collected w.heap.size, args := #[] }], W1, { target := .fn (.func gf) lb, args := #[.func (.yield (w.heap.size + 1)) #[] #[]] }, W1, gf,
  #[.func (.yield (w.heap.size + 1)) #[] #[]] ++ lb, W1, ?_, ?_, fun _ _ => trivial, ?_, fun e => (nomatch e), ?_⟩
 ·rw [← hW1, hrec]; exact run_enterLoop_outer _ _ _ _ _
 ·simp only [resolve, hg]
  simp [go_sem]
 ·simp [invoke, go_sem, eg]
 refine calls_wd (r := none) (n := 0 - 1) ((hseq (w.heap.size + 1)
  (fun i W => I i W ∧ W.heap[w.heap.size + 1]? = some (.loop (rec .ready none)) ∧ W.heap[w.heap.size]? = some (.deferred (some [])))
  (fun i W => I' i W ∧ W.heap[w.heap.size + 1]? = some (.loop (rec .ready none)) ∧ W.heap[w.heap.size]? = some (.deferred (some [])))
  (fun W => ∃ c, Ix c W ∧ W.heap[w.heap.size + 1]? = some (.loop (rec .done (some c))) ∧ W.heap[w.heap.size]? = some (.deferred (some [])))
  W1 (fun i A h => hG i A h.1) (fun i A h => ⟨hId i A h.1, h.2⟩) (fun A ⟨c, h1, h2⟩ => ⟨c, hIxd c A h1, h2⟩)
  (fun i A B hi h hr => ⟨hR i A B hi h.1 hr, (hRk i A B h.1 hr).same _ _ (Nat.le_succ _) h.2.1 rfl, (hRk i A B h.1 hr).same _ _ (Nat.le_refl _) h.2.2 rfl⟩)
  ?_ ⟨hI1, hL1, hK1⟩).mono ?_)
 ·rintro i W hi ⟨hin, hl, hk⟩
  have hlt : w.heap.size + 1 < W.heap.size := (Array.getElem?_eq_some_iff.1 hl).1
  have hy := run_yield (P := P) (args := E i) hl (by rw [hrec]; exact hps i)
  rw [hrec] at hy
  refine ⟨fn, _, assign, body, hy, roundIn_of_wpIn (F := Wd none) trivial (hassign _ i W _ (Nat.lt_succ_self _) hi hin (fun a' W' hkeep hin2 => ?_))⟩
  clear hy
  replace hl := hkeep.same _ _ (Nat.le_succ _) hl rfl
  replace hk := hkeep.same _ _ (Nat.le_refl _) hk rfl
  have hlt : w.heap.size + 1 < W'.heap.size := (Array.getElem?_eq_some_iff.1 hl).1
  refine ⟨_, run_beginRound hl (by rw [hrec]), ?_⟩
  have hl2 : (W'.putObj (w.heap.size + 1) (.loop { rec .ready none with state := .busy })).heap[w.heap.size + 1]? = some (.loop { rec .ready none with state := .busy }) := World.putObj_heap_same hlt
  have hk2 : (W'.putObj (w.heap.size + 1) (.loop { rec .ready none with state := .busy })).heap[w.heap.size]? = some (.deferred (some [])) := (World.putObj_heap_other (by omega)).trans hk
  refine wpIn_mono (hbody _ i a' _ (Nat.lt_succ_self _) hi (hIt2 i a' _ _ (turn _ hl rfl rfl) hin2)) ?_
  have fin : ∀ (jump : Option Code) (W3 : World), Keeps w.heap.size (W'.putObj (w.heap.size + 1) (.loop { rec .ready none with state := .busy })) W3 →
    (Instr.endRound (w.heap.size + 1) jump).run P W3 = .ok (.bool jump.isNone) (W3.putObj (w.heap.size + 1) (.loop (rec (if jump.isNone then .ready else .done) jump))) ∧
    Turned w.heap.size W3 (W3.putObj (w.heap.size + 1) (.loop (rec (if jump.isNone then .ready else .done) jump))) ∧
    (W3.putObj (w.heap.size + 1) (.loop (rec (if jump.isNone then .ready else .done) jump))).heap[w.heap.size + 1]? = some (.loop (rec (if jump.isNone then .ready else .done) jump)) ∧
    (W3.putObj (w.heap.size + 1) (.loop (rec (if jump.isNone then .ready else .done) jump))).heap[w.heap.size]? = some (.deferred (some [])) := fun jump W3 hk3 => by
   have hl3 := hk3.same _ _ (Nat.le_succ _) hl2 rfl
   have := run_endRound (P := P) jump hl3
   rw [hrec] at this ⊢
   exact ⟨this, turn _ hl3 rfl rfl, World.putObj_heap_same (Array.getElem?_eq_some_iff.1 hl3).1, (World.putObj_heap_other (by omega)).trans (hk3.same _ _ (Nat.le_refl _) hk2 rfl)⟩
  rintro e a3 W3 hp
  cases e with
  | normal =>
   obtain ⟨hr, ht, hl4, hk4⟩ := fin none W3 hp.1
   exact ⟨_, _, hr, .inl ⟨rfl, hIt _ _ _ ht hp.2, hl4, hk4⟩⟩
  | ret =>
   obtain ⟨hr, ht, hl4, hk4⟩ := fin (some .ret) W3 hp.1
   exact ⟨_, _, hr, .inr ⟨rfl, .ret, hIxt _ _ _ ht hp.2, hl4, hk4⟩⟩
  | exit id =>
   obtain ⟨hr, ht, hl4, hk4⟩ := fin (some (.exit id)) W3 hp.1
   exact ⟨_, _, hr, .inr ⟨rfl, .exit id, hIxt _ _ _ ht hp.2, hl4, hk4⟩⟩
  | goto t =>
   obtain ⟨hr, ht, hl4, hk4⟩ := fin (some (.goto t)) W3 hp.1
   exact ⟨_, _, hr, .inr ⟨rfl, .goto t, hIxt _ _ _ ht hp.2, hl4, hk4⟩⟩
  | panic ch => exact hp.elim
  | outgrown => exact hp.elim
 ·rintro e W2 ⟨⟨v, rfl⟩, (⟨hi, hl, hk⟩ | ⟨c, hi, hl, hk⟩)⟩
  ·refine ⟨none, _, by have := run_endLoop (P := P) hl (by rw [hrec]; simp); rw [hrec] at this; exact this, ?_⟩
   exact hdone _ _ (Nat.le_refl _) (hIt _ _ _ (turn _ hl rfl rfl) hi) ((World.putObj_heap_other (by omega)).trans hk)
  ·refine ⟨some c, _, by have := run_endLoop (P := P) hl (by rw [hrec]; simp); rw [hrec] at this; exact this, ?_⟩
   exact wpIn_wide.2 (hstop _ c _ (Nat.le_refl _) (hIxt _ _ _ (turn _ hl rfl rfl) hi) ((World.putObj_heap_other (by omega)).trans hk))
set_option maxRecDepth 100000
set_option maxHeartbeats 8000000
theorem calls_marks {P : Program} {f : FuncId} {fn : Func} {c : Code} {args : Array Value} {w : World} {R : Ending → World → Prop} (hf : P.funcs[f]? = some fn) (hb : fn.body = some c)
  (h : c.wp P (bodyPostM Fence.wide 0 P fn R) { tmps := args ++ Array.replicate (fn.ntmps - args.size) undef, defers := [] } w) : Calls P f args w R :=
 (callsIn_wide (n := 0)).1 (callsIn_of_wp_marks hf hb trivial ((wpIn_wide (n := 0)).2 h) rfl)
theorem Turned.grow {B base n : Nat} {A A' : World} {v : Value} {f : Nat → Nat} (h : Turned B A A') (hG : Grow A base v n f) : Grow A' base v n f := by
 obtain ⟨hl, h1 | ⟨g, cap, cur, h1, h2, h3, h4⟩⟩ := hG
 ·exact ⟨hl, .inl h1⟩
 ·exact ⟨hl, .inr ⟨g, cap, cur, h1, h2, h.block h3, h4⟩⟩
theorem keeps_app {B base n : Nat} {W W1 W2 : World} {v : Value} {f : Nat → Nat} (hG : Grow W base v n f) (hb : Below W.heap.size W W1) (hg : W1.grownBy W2 v.ownBlock) : Keeps B W W2 := by
 refine ⟨Nat.le_trans hb.size hg.size, fun k o _ hk ho => ?_⟩
 have hlt := lt_of_block hk
 refine (hg.block k (Nat.lt_of_lt_of_le hlt hb.size) (fun e => ?_)).trans ((hb.block k hlt).trans hk)
 rcases hG.2 with ⟨rfl, _⟩ | ⟨g, cap, cur, rfl, _, h3, _⟩
 ·cases e
 ·cases e
  rw [h3] at hk; cases hk; cases ho
theorem own_put (W : World) (D : Nat) (o : Obj) : Own D W (W.putObj D o) := ⟨rfl, rfl, rfl, by simp, fun k _ hn => World.putObj_heap_other hn⟩
theorem keys_any (oa : Option Addr) (n cs : Nat) (w : World) : Calls Tryz.prog 39 #[.agg #[.slice oa n cs]] w fun e w' => e = .returned (.func (.func 60) #[] #[.pointer (some ⟨w.heap.size, 0, none⟩)]) ∧ w' = w.alloc (.cells #[.slice oa n cs] 32) := by
 go_enter Tryz.func39, Tryz.ntmps39
 go_wp2_with fail
 go_ret
 exact ⟨rfl, rfl⟩
def encF (n : Nat) (S : Nat → Nat → Nat) : Nat → Nat := fun i => if i = 0 then 107 else if i = 1 then 114 else if i = 2 then n else S ((i - 3) / 32) ((i - 3) % 32)
def EncR (n : Nat) (N : Nat → Nat) (S : Nat → Nat → Nat) (w : World) (e : Ending) (w' : World) : Prop := Below w.heap.size w w' ∧
 ((e = .returned (.tuple #[.slice none 0 0, .iface 53 (.int .i64 1)]) ∧ ¬ OkT n N) ∨ (OkT n N ∧ ∃ v, e = .returned (.tuple #[v, .nilIface]) ∧ Grow w' w.heap.size v (3 + 32 * n) (encF n S)))
structure EV (n cs : Nat) (oa : Option Addr) (S : Nat → Nat → Nat) (b5 Bn : Nat) (w : World) (i : Nat) (A : World) : Prop where
 row : ∃ v, Blk A b5 #[v] 24 ∧ Grow A w.heap.size v (3 + 32 * i) (encF n S) ∧ (∀ k, v.ownBlock = some k → k ≠ b5 ∧ k ≠ Bn)
 rng : Blk A Bn #[.slice oa n cs] 32
 bel : Below w.heap.size w A
theorem EV.drew {n cs b5 Bn i : Nat} {oa : Option Addr} {S : Nat → Nat → Nat} {w A : World} (h : EV n cs oa S b5 Bn w i A) : EV n cs oa S b5 Bn w i A.drew := ⟨h.row, h.rng, h.bel.drew⟩
theorem EV.turned {n cs b5 Bn i B : Nat} {oa : Option Addr} {S : Nat → Nat → Nat} {w A A' : World} (h : EV n cs oa S b5 Bn w i A) (hT : Turned B A A') (hB : w.heap.size ≤ B) : EV n cs oa S b5 Bn w i A' := by
 obtain ⟨v, h1, h2, h3⟩ := h.row
 exact ⟨⟨v, hT.blk h1, hT.grow h2, h3⟩, hT.blk h.rng, h.bel.trans (hT.below.mono hB)⟩
theorem EV.later {n cs b5 Bn i : Nat} {oa : Option Addr} {S : Nat → Nat → Nat} {w A A' : World} (h : EV n cs oa S b5 Bn w i A) (hb : Below A.heap.size A A') : EV n cs oa S b5 Bn w i A' := by
 obtain ⟨v, h1, h2, h3⟩ := h.row
 exact ⟨⟨v, Blk.below h1 hb (Blk.lt h1), h2.later hb, h3⟩, Blk.below h.rng hb (Blk.lt h.rng), h.bel.trans (hb.mono h.bel.size)⟩
theorem zip_two (p q : Tmp) (x y : Value) (T : Array Value) : ((#[p, q] : Array Tmp).zip #[x, y]).foldl (fun t (p, v) => t.setIfInBounds p v) T = (T.setIfInBounds p x).setIfInBounds q y := by simp
theorem enc_three {w1 : World} {n base : Nat} (S : Nat → Nat → Nat) (hb : base ≤ w1.heap.size) : Grow (w1.alloc (.cells #[.int .u8 107, .int .u8 114, .int .u8 (n : Int)] 5)) base (.slice (some ⟨w1.heap.size, 0, none⟩) 3 3) 3 (encF n S) :=
 ⟨rowC_len _ _, .inr ⟨w1.heap.size, 3, #[.int .u8 107, .int .u8 114, .int .u8 (n : Int)], rfl, hb, Blk.new w1 _ _, Nat.le_refl _, by unfold maxLen; omega, rfl, rfl⟩⟩
theorem enc_cat (n i : Nat) (S : Nat → Nat → Nat) : ∀ q, q < 3 + 32 * i + 32 → catF (3 + 32 * i) (encF n S) (S i) q = encF n S q := fun q hq => by
 unfold catF
 by_cases e : q < 3 + 32 * i
 ·rw [if_pos e]
 ·rw [if_neg e]
  unfold encF
  rw [if_neg (by omega), if_neg (by omega), if_neg (by omega), show (q - 3) / 32 = i by omega, show (q - 3) % 32 = q - (3 + 32 * i) by omega]
theorem Grow.someS {w : World} {base n : Nat} {v : Value} {f : Nat → Nat} (h : Grow w base v n f) (hn : 0 < n) : ∃ g cp, v = .slice (some ⟨g, 0, none⟩) n cp := by
 rcases h.2 with ⟨_, h0⟩ | ⟨g, cap, cur, hv, _⟩
 ·omega
 ·exact ⟨g, cap, hv⟩
theorem encode_any (n cs : Nat) (oa : Option Addr) (N : Nat → Nat) (S : Nat → Nat → Nat) (w : World) (hT : TL w oa n N S) (hN : ∀ i, i < n → N i < 4294967296) (hS : ∀ i j, i < n → j < 32 → S i j < 256) (hn : n < 10000) :
  Calls Tryz.prog 22 #[.agg #[.slice oa n cs]] w (EncR n N S w) := by
 obtain ⟨w0, hw0⟩ := zX (w.alloc (.cells #[.slice oa n cs] 32))
 have hb0 : Below w.heap.size w w0 := by rw [← hw0]; exact zA
 have hR : Blk w0 w.heap.size #[.slice oa n cs] 32 := by rw [← hw0]; exact Blk.new _ _ _
 have HCK := zh (check_any n cs oa N S w0 (hT.later hb0) hN (by omega))
 have HB0 := zh hb0
 have HR0 := zh hR
 have HT := zh hT
 have HSS := zh hS
 have HNN := zh hn
 have c2 : w0.cell? ⟨w.heap.size, 0, none⟩ = some (.slice oa n cs) := by rw [Blk.cell hR]; rfl
 clear hb0 hR hT hN hS hn
 refine calls_marks Tryz.func22 rfl ?_
 simp only [Tryz.ntmps22, List.size_toArray, List.length_cons, List.length_nil, Nat.reduceAdd, Nat.reduceSub, Array.replicate_succ, Array.replicate_zero, List.push_toArray, List.append_toArray, List.nil_append, List.cons_append]
 go_wp2_with fail
 refine HCK.out.mono ?_
 rintro e w1 ⟨(⟨rfl, hok⟩ | ⟨rfl, hno⟩), hb1⟩
 ·have HOK := zh hok
  have HR1 := zh (Blk.below HR0.out hb1 (Blk.lt HR0.out))
  have HB1 := zh (HB0.out.trans (hb1.mono HB0.out.size))
  have c2 : w1.cell? ⟨w.heap.size, 0, none⟩ = some (.slice oa n cs) := by rw [Blk.cell HR1.out]; rfl
  have k8 : IntKind.u8.wrap (n : Int) = (n : Int) := IntWalk.u8_in _ (by have := hok.2.1; omega)
  clear hb1 hok hw0 HR0 HCK
  go_upto_region 5 with fail
  obtain ⟨w3, hw3⟩ := zX ((w1.alloc (.cells #[.int .u8 107, .int .u8 114, .int .u8 (n : Int)] 5)).alloc (.cells #[.slice (some ⟨w1.heap.size, 0, none⟩) 3 3] 24))
  obtain ⟨b5, hb5⟩ := zX (w1.heap.size + 1)
  have hsz1 := HB1.out.size
  have hb3 : Below w1.heap.size w1 w3 := by rw [← hw3]; exact (zA).alloc (by simp) _
  have hV3 : Blk w3 b5 #[.slice (some ⟨w1.heap.size, 0, none⟩) 3 3] 24 := by rw [← hw3, ← hb5]; simpa using Blk.new (w1.alloc _) #[.slice (some ⟨w1.heap.size, 0, none⟩) 3 3] 24
  have hG3 : Grow w3 w.heap.size (.slice (some ⟨w1.heap.size, 0, none⟩) 3 3) (3 + 32 * 0) (encF n S) := by rw [← hw3]; exact (enc_three S hsz1).later (zA)
  have hl5 := Blk.lt hV3
  rw [hw3, hb5]
  have c2' : w3.cell? ⟨w.heap.size, 0, none⟩ = some (.slice oa n cs) := by rw [Blk.cell (Blk.below HR1.out hb3 (Blk.lt HR1.out))]; rfl
  obtain ⟨w4, hw4⟩ := zX (w3.alloc (.cells #[.slice oa n cs] 32))
  have hE4 : EV n cs oa S b5 w3.heap.size w 0 w4 := by
   have hb4 : Below w3.heap.size w3 w4 := by rw [← hw4]; exact zA
   refine ⟨⟨_, Blk.below hV3 hb4 hl5, hG3.later hb4, fun k hk => ?_⟩, by rw [← hw4]; exact Blk.new _ _ _, (HB1.out.trans (hb3.mono hsz1)).trans (hb4.mono (Nat.le_trans hsz1 hb3.size))⟩
   have hk' : w1.heap.size = k := by simpa [Value.ownBlock] using hk
   omega
  have HE4 := zh hE4
  clear hb3 hV3 hG3 hE4 hw3
  go_wp2_with (go_at_call 39; refine (keys_any oa n cs _).mono ?_; rintro e w' ⟨rfl, rfl⟩; rw [hw4])
  refine wp_rangeS (gf := 60) (lb := #[.pointer (some ⟨w3.heap.size, 0, none⟩)]) (N := n) rfl (enters_of Tryz.func60 (by kernel_rfl) rfl) (keys_seq w3.heap.size oa n cs N S (by have := HNN.out; omega)) (fun _ => rfl)
   (EV n cs oa S b5 w3.heap.size w) (EV n cs oa S b5 w3.heap.size w) (fun _ _ => False) ?hG (fun i A h => h.drew) (fun c A h => h) (fun i A B _ h hr => h.later hr) (fun i A B _ hr => Keeps.of_below hr) (fun i A B hT h => h.turned hT ?hs1) (fun i A B hT h => h.turned hT ?hs2) (fun c A B _ h => h) ?h0
   (fun i a' A => ∃ b7, a' = { tmps := #[.agg #[.slice oa n cs], .pointer (some ⟨w.heap.size, 0, none⟩), .slice none 0 0, .nilIface, .nilIface, .pointer (some ⟨b5, 0, none⟩), undef, .pointer (some ⟨b7, 0, none⟩), .agg #[.slice oa n cs], .nilIface, .nilIface, .bool false, undef, .pointer (some ⟨w.heap.size, 0, none⟩), .slice oa n cs, .int .i64 (n : Int), .int .u8 (n : Int), .slice (some ⟨w1.heap.size, 0, none⟩) 3 3, .agg #[.slice oa n cs], .func (.func 60) #[] #[.pointer (some ⟨w3.heap.size, 0, none⟩)], .int .u32 (N i : Int), .agg (rowC 32 (S i)).toArray, undef, undef, undef, undef], defers := [] } ∧ EV n cs oa S b5 w3.heap.size w i A ∧ Blk A b7 (rowC 32 (S i)).toArray 22) ?hIt2 ?assign ?body ?done (fun D c W _ h _ => h.elim)
  case hG => exact fun i A h => ⟨h.rng, HT.out.later h.bel⟩
  case hs1 => exact HE4.out.bel.size
  case hs2 => exact HE4.out.bel.size
  case h0 => exact fun A hA _ => HE4.out.later hA
  case hIt2 => rintro i a A B hT ⟨b7, rfl, h1, h2⟩; exact ⟨b7, rfl, h1.turned hT HE4.out.bel.size, hT.blk h2⟩
  case assign =>
   intro l i W K _ hlt hE hK
   obtain ⟨F, hF⟩ := zX ((rowC 32 (S i)).toArray)
   have HSZ : Hid (F.size = 32) := zh (by rw [← hF, List.size_toArray, rowC_len])
   have HON : Hid (F.all (·.oneCell') = true) := zh (by rw [← hF]; exact one32 _)
   have HIS : Hid ((Tryz.prog.info? 22).map (·.size) = some F.size) := zh (by rw [HSZ.out]; exact info_a32)
   rw [show EKr N S i = #[.int .u32 (N i : Int), .agg F] from by unfold EKr; rw [hF]]
   have HKK := zh hK
   have HEE := zh hE
   have HFF := zh hF
   obtain ⟨b7, hqb7⟩ := zX W.heap.size
   obtain ⟨wz, hwz⟩ := zX (W.alloc (.cells zeroA 22))
   have hbz : Below W.heap.size W wz := by rw [← hwz]; exact zA
   have hXz : Blk wz b7 zeroA 22 := by rw [← hwz, ← hqb7]; exact Blk.new _ _ _
   have HTZb7 : Hid (wz.there b7 0 F.size) := zh (hXz.there (by rw [zeroA_size, HSZ.out]; exact Nat.le_refl _))
   obtain ⟨w5, hw5⟩ := zX (wz.setCells b7 0 F.toList)
   have hOz : Own b7 wz w5 := by rw [← hw5]; exact Own.setCells _ _ _
   have HBw5 : Hid (Below W.heap.size W w5) := zh (hbz.trans (hOz.below (by omega) hbz.size))
   have HNw5 : Hid (Blk w5 b7 F 22) := zh (by rw [← hw5]; exact Blk.setCells hXz F.toList (by rw [zeroA_size, Array.length_toList]; exact HSZ.out))
   have HWw5 := zh hw5
   clear hbz hXz hOz hw5
   clear hE hF hK
   refine region_wd (fun ⟨_, _, h⟩ => h) rfl ?_
   rw [zip_two]
   simp only [List.setIfInBounds_toArray, List.set_cons_zero, List.set_cons_succ]
   go_wp2_with (first | (refine wpList_zero rfl rfl zero_a32 ?_; rw [hwz, hqb7]; (try simp only [Act.put, zS])) | (refine wpList_store_mid rfl 22 (.tmp 7) (.tmp 21) rfl b7 0 F rfl rfl HTZb7.out HIS.out HON.out ?_; rw [HWw5.out]))
   exact HKK.out _ _ (Keeps.of_below HBw5.out) ⟨b7, by rw [HFF.out]; rfl, HEE.out.later HBw5.out, by rw [HFF.out]; exact HNw5.out⟩
  case body =>
   rintro l i a W hl hi ⟨b7, rfl, hE, hB7⟩
   obtain ⟨v, hV0, hG0, hne⟩ := hE.row
   have hOB : Bytes W (some ⟨b7, 0, none⟩) 32 (S i) := RB.bytes (t := 22) hB7 (fun j hj => HSS.out i j hi hj)
   have hszW := hE.bel.size
   have HE := zh hE
   have HNE := zh hne
   have HI := zh (show i < n ∧ n < 10000 from ⟨hi, HNN.out⟩)
   clear hE hne hi hB7
   refine wpIn_block ?_
   refine regionD_wd (S := (fun _ => True)) (fun ⟨_, _, h⟩ => h) rfl (by kernel_rfl) trivial (fun hHeld => ?_)
   have HWD : Hid (W.drew = W.drew) := zh rfl
   refine wT 1 ?_ rfl ?_ ?_
   rotate_left
   ·intro wS hSw
    (try dsimp only at hSw)
    go_simp
    (try with_reducible rfl)
   (try simp only [Act.put, zS])
   refine wR [0] ?_
   refine aN rfl fun K hK => ?_
   (have c5 : W.cell? ⟨b5, 0, none⟩ = some v := (by rw [Blk.cell hV0]; rfl); have c5 : W.drew.cell? ⟨b5, 0, none⟩ = some v := c5; go_simp; clear c5; skip)
   refine hK.out _ _ ?_ fun hHeld => ?_
   ·(try dsimp only)
    (try trivial)
   clear hK K
   (try simp only [Act.put, zS])
   refine wR [2] ?_
   refine aN rfl fun K hK => ?_
   (refine step_appO rfl (.tmp 22) (.tmp 23) rfl w.heap.size v (3 + 32 * i) 32 32 (some ⟨b7, 0, none⟩) (encF n S) (S i) W.drew rfl hG0 rfl (fun e => by cases e) hOB (by have := HI.out; omega) hszW ?_; intro v2 W2 hG2 hg2 hob2; have hg2 : W.grownBy W2 v.ownBlock := ⟨hg2.os, hg2.tape, hg2.output, hg2.size, hg2.block⟩)
   refine hK.out _ _ ?_ fun hHeld => ?_
   ·(try dsimp only)
    (try trivial)
   clear hK K
   (try simp only [Act.put, zS])
   refine wR [3] ?_
   refine aN rfl fun K hK => ?_
   (obtain ⟨g2, cp2, hv2⟩ := hG2.someS (by omega); subst hv2; have hbW2 : Below w.heap.size W W2 := grow_bel hG0 hszW hg2; have hne5 : b5 < W.heap.size := Blk.lt hV0; have hV2 : Blk W2 b5 #[v] 24 := (hg2.block b5 hne5 (fun e => (HNE.out b5 e.symm).1 rfl)).trans hV0; have c5 : W2.cell? ⟨b5, 0, none⟩ = some v := (by rw [Blk.cell hV2]; rfl); have f5 : W2.frozen? ⟨b5, 0, none⟩ = false := Blk.free hV2 _; go_simp; clear c5 f5; skip)
   refine hK.out _ _ ?_ fun hHeld => ?_
   ·(try dsimp only)
    (try trivial)
   clear hK K
   (try simp only [Act.put, zS])
   refine wpAnyH_done (by kernel_rfl) ?_ _
   have hO := (Own.refl b5 W2).set 0 (.slice (some ⟨g2, 0, none⟩) (3 + 32 * i + 32) cp2)
   have hlR := Blk.lt HE.out.rng
   have hRg2 : Blk W2 w3.heap.size #[.slice oa n cs] 32 := (hg2.block _ hlR (fun e => (HNE.out _ e.symm).2 rfl)).trans HE.out.rng
   have hne2 : ∀ k, Value.ownBlock (.slice (some ⟨g2, 0, none⟩) (3 + 32 * i + 32) cp2) = some k → k ≠ b5 ∧ k ≠ w3.heap.size := fun k hk => by
    rcases hob2 with e | e
    ·exact HNE.out k (e.symm.trans hk)
    ·rw [e] at hk; cases hk
     exact ⟨fun e' => Nat.lt_irrefl _ (e' ▸ hne5), fun e' => Nat.lt_irrefl _ (e' ▸ hlR)⟩
   refine ⟨(keeps_app hG0 (Below.refl _ W) hg2).trans (Keeps.of_own hO hV2), ⟨⟨_, hV2.set 0 _, ?_, hne2⟩, hO.blk hRg2 (by omega), HE.out.bel.trans (hbW2.trans (hO.below ?_ (Nat.le_trans hszW hg2.size)))⟩⟩
   ·exact ((hG2.congr (enc_cat n i S)).ownN hO fun k hk => (hne2 k hk).1)
   ·have := HE4.out.bel.size; omega
  case done =>
   intro D A hD hP hK
   obtain ⟨v, hV, hG, hne⟩ := hP.row
   have c5 : A.cell? ⟨b5, 0, none⟩ = some v := by rw [Blk.cell hV]; rfl
   have HP := zh hP
   have HG := zh hG
   have HKD := zh hK
   have HD := zh hD
   clear hP hV hG hK hD hne
   go_wp2_with fail
   have hlt := lt_of_block HKD.out
   have hs4 := HE4.out.bel.size
   have hd := HD.out
   have hO : Own D A (A.putObj D (.deferred none)) := own_put A D _
   refine ⟨by simp, .inl ⟨_, _, rfl, run_takeDeferred HKD.out, ?_⟩⟩
   refine ⟨_, results_tmp2 rfl _ _ _, HP.out.bel.trans (hO.below (by omega) HP.out.bel.size), .inr ⟨HOK.out, v, rfl, HG.out.ownN hO fun k hk e => ?_⟩⟩
   subst e
   rcases HG.out.2 with ⟨e1, _⟩ | ⟨g', cap', cur, e1, _, h3, _⟩
   ·rw [e1] at hk; cases hk
   ·rw [e1] at hk; cases hk
    have := HKD.out
    rw [h3] at this; cases this
 ·have HB1 := zh (HB0.out.trans (hb1.mono HB0.out.size))
  have HNO := zh hno
  clear hb1 hno hw0 HR0 HCK
  go_wp2_with fail
  exact ⟨_, results_tmp2 rfl _ _ _, HB1.out, .inl ⟨rfl, HNO.out⟩⟩
set_option maxRecDepth 512
set_option maxHeartbeats 200000
def FindR (n : Nat) (N : Nat → Nat) (S : Nat → Nat → Nat) (t : Nat) (w : World) (e : Ending) (w' : World) : Prop := Below w.heap.size w w' ∧
 ((¬ OkT n N ∧ e = .returned (.tuple #[.agg zeroA, .iface 53 (.int .i64 1)])) ∨ (OkT n N ∧ 1 ≤ t ∧ t ≤ n ∧ e = .returned (.tuple #[.agg (rowC 32 (S (t - 1))).toArray, .nilIface])) ∨
  (OkT n N ∧ ¬ (1 ≤ t ∧ t ≤ n) ∧ e = .returned (.tuple #[.agg zeroA, .iface 53 (.int .i64 5)])))
theorem FindR.none {n : Nat} {N : Nat → Nat} {S : Nat → Nat → Nat} {t : Nat} {w w' : World} (h : OkT n N) (hn : ∀ j, j < n → N j ≠ t) (hb : Below w.heap.size w w') : FindR n N S t w (.returned (.tuple #[.agg zeroA, .iface 53 (.int .i64 5)])) w' :=
 ⟨hb, .inr (.inr ⟨h, fun ⟨h1, h2⟩ => hn (t - 1) (by omega) (by rw [h.2.2 _ (by omega)]; omega), rfl⟩)⟩
structure FV (n cs : Nat) (oa : Option Addr) (N : Nat → Nat) (t b3 b4 b5 Bn : Nat) (w : World) (i : Nat) (A : World) : Prop where
 tm : Blk A b3 #[.int .u32 (t : Int)] 23
 ky : Blk A b4 zeroA 22
 er : Blk A b5 #[.nilIface] 26
 rng : Blk A Bn #[.slice oa n cs] 32
 bel : Below w.heap.size w A
 no : ∀ j, j < i → N j ≠ t
theorem FV.drew {n cs t b3 b4 b5 Bn i : Nat} {oa : Option Addr} {N : Nat → Nat} {w A : World} (h : FV n cs oa N t b3 b4 b5 Bn w i A) : FV n cs oa N t b3 b4 b5 Bn w i A.drew := ⟨h.tm, h.ky, h.er, h.rng, h.bel.drew, h.no⟩
theorem FV.later {n cs t b3 b4 b5 Bn i : Nat} {oa : Option Addr} {N : Nat → Nat} {w A A' : World} (h : FV n cs oa N t b3 b4 b5 Bn w i A) (hb : Below A.heap.size A A') : FV n cs oa N t b3 b4 b5 Bn w i A' :=
 ⟨Blk.below h.tm hb (Blk.lt h.tm), Blk.below h.ky hb (Blk.lt h.ky), Blk.below h.er hb (Blk.lt h.er), Blk.below h.rng hb (Blk.lt h.rng), h.bel.trans (hb.mono h.bel.size), h.no⟩
set_option maxRecDepth 100000
set_option maxHeartbeats 8000000
theorem exec_s2a22 {o : Oper} {a : Act} {w : World} {x : Operand} {oa : Option Addr} {len cap : Nat} (ho : o.op = .sliceToArrayPointer 22 x) (hx : a.eval x = .slice oa len cap) (hn : 32 ≤ len) : (execOp a.eval o).run Tryz.prog w = .ok (.value (.pointer oa)) w := by
 unfold execOp
 simp only [ho, hx, Sem.run_bind, run_arrayAt w 22 5 32 oa len cap Tryz.underlying22 hn, Result.andThen_ok]
 rfl
def IsRing (m : Nat) (B : Nat → Nat) : Prop := 3 ≤ m ∧ B 0 = 107 ∧ B 1 = 114 ∧ 1 ≤ B 2 ∧ B 2 ≤ 16 ∧ m = 3 + 32 * B 2
def DecR (m : Nat) (B : Nat → Nat) (w : World) (e : Ending) (w' : World) : Prop := Below w.heap.size w w' ∧
 ((e = .returned (.tuple #[.agg #[.slice none 0 0], .iface 53 (.int .i64 4)]) ∧ ¬ IsRing m B) ∨
  (IsRing m B ∧ ∃ o c, e = .returned (.tuple #[.agg #[.slice o (B 2) c], .nilIface]) ∧ TL w' o (B 2) (fun i => i + 1) (fun i j => B (3 + 32 * i + j))))
theorem DecR.no {m : Nat} {B : Nat → Nat} {w w' : World} (h : ¬ IsRing m B) (hb : Below w.heap.size w w') : DecR m B w (.returned (.tuple #[.agg #[.slice none 0 0], .iface 53 (.int .i64 4)])) w' := ⟨hb, .inl ⟨rfl, h⟩⟩
theorem DecR.ok {m : Nat} {B : Nat → Nat} {w w' : World} {o : Option Addr} {c : Nat} (h : IsRing m B) (hb : Below w.heap.size w w') (hT : TL w' o (B 2) (fun i => i + 1) (fun i j => B (3 + 32 * i + j))) : DecR m B w (.returned (.tuple #[.agg #[.slice o (B 2) c], .nilIface])) w' := ⟨hb, .inr ⟨h, o, c, rfl, hT⟩⟩
structure DV (B : Nat → Nat) (b2 b5 base : Nat) (w : World) (i : Nat) (v r : Value) (A : World) : Prop where
 row : TO 37 A base v i (fun i => i + 1) (fun i j => B (3 + 32 * i + j))
 c5 : Blk A b5 #[r] 32
 c2 : Blk A b2 #[.slice none 0 0] 32
 bel : Below w.heap.size w A
 sz : base ≤ A.heap.size
theorem DV.later {B : Nat → Nat} {b2 b5 base i : Nat} {v r : Value} {w A A' : World} (h : DV B b2 b5 base w i v r A) (hb : Below A.heap.size A A') : DV B b2 b5 base w i v r A' :=
 ⟨h.row.later hb, Blk.below h.c5 hb (Blk.lt h.c5), Blk.below h.c2 hb (Blk.lt h.c2), h.bel.trans (hb.mono h.bel.size), Nat.le_trans h.sz hb.size⟩
theorem DV.grew {B : Nat → Nat} {b2 b5 base i i' : Nat} {v v' r : Value} {w A A' : World} (h : DV B b2 b5 base w i v r A) (hB : w.heap.size ≤ b2 ∧ b2 < b5 ∧ b5 < base) (hg : A.grownBy A' v.ownBlock) (hb : Below base A A') (hr : TO 37 A' base v' i' (fun i => i + 1) (fun i j => B (3 + 32 * i + j))) : DV B b2 b5 base w i' v' r A' :=
 ⟨hr, Blk.below h.c5 hb hB.2.2, Blk.below h.c2 hb (by omega), h.bel.trans (hb.mono (by omega)), Nat.le_trans h.sz hg.size⟩
theorem TO.own {T b base n : Nat} {v : Value} {N : Nat → Nat} {S : Nat → Nat → Nat} {w w' : World} (h : TO T w base v n N S) (hO : Own b w w') (hb : b < base) : TO T w' base v n N S :=
 owns_own h hO hb
theorem DV.put {B : Nat → Nat} {b2 b5 base i : Nat} {v r : Value} {w A : World} (h : DV B b2 b5 base w i v r A) (hB : w.heap.size ≤ b2 ∧ b2 < b5 ∧ b5 < base) : DV B b2 b5 base w i v v (A.setCell ⟨b5, 0, none⟩ v) := by
 have hO := (Own.refl b5 A).set 0 v
 exact ⟨h.row.own hO hB.2.2, h.c5.set 0 v, hO.blk h.c2 (by omega), h.bel.trans (hO.below (by omega) h.bel.size), Nat.le_trans h.sz hO.size⟩
theorem decode_any (m cb : Nat) (ob : Option Addr) (B : Nat → Nat) (w : World) (hB : Bytes w ob m B) (hm : m ≤ cb) (hs : m < 1000000) :
  Calls Tryz.prog 25 #[.slice ob m cb] w (DecR m B w) := by
 obtain ⟨b2, hb2⟩ := zX w.heap.size
 obtain ⟨w0, hw0⟩ := zX (w.alloc (.cells #[.slice none 0 0] 32))
 have hb0 : Below w.heap.size w w0 := by rw [← hw0]; exact zA
 have hZ : Blk w0 b2 #[.slice none 0 0] 32 := by rw [← hw0, ← hb2]; exact Blk.new _ _ _
 have c2 : w0.cell? ⟨b2, 0, none⟩ = some (.slice none 0 0) := by rw [Blk.cell hZ]; rfl
 have f2 : w0.frozen? ⟨b2, 0, none⟩ = false := Blk.free hZ 0
 have HX : Hid (Blk (w0.setCell ⟨b2, 0, none⟩ (.slice none 0 0)) b2 #[.slice none 0 0] 32) := zh (hZ.set 0 _)
 have HBX : Hid (Below w.heap.size w (w0.setCell ⟨b2, 0, none⟩ (.slice none 0 0))) := zh (hb0.trans (((Own.refl b2 w0).set 0 _).below (Nat.le_of_eq hb2) hb0.size))
 have HZ := zh hZ
 have HB0 := zh hb0
 have HW2 := zh hb2
 have HBW := zh hB
 have hB0 := hB.later hb0
 have HBY := zh hB0
 clear hb0 hZ hB
 by_cases g : m < 3
 ·have hno : ¬ IsRing m B := fun h => by have := h.1; omega
  have g1 : (m : Int) < (3 : Int) := by omega
  have g2 : decide ((m : Int) < (3 : Int)) = true := decide_eq_true g1
  have g7 : m < 3 := by omega
  have g8 : decide (m < 3) = true := decide_eq_true g7
  clear hB0 hs
  go_enter Tryz.func25, Tryz.ntmps25
  go_wp2_with fail
  refine bodyPost_ret (v := .tuple #[.agg #[.slice none 0 0], .iface 53 (.int .i64 4)]) ?_ rfl (DecR.no hno HBX.out)
  exact results_cell_tmp1 (q := 3) Tryz.results25 _ _ b2 32 #[.slice none 0 0] (0, 0) _ rfl HX.out Tryz.underlying32 rfl (info_rg _)
 obtain ⟨_, bo, oo, e, x0⟩ := hB0 0 (by omega)
 subst e
 rw [Nat.add_zero] at x0
 obtain ⟨l1, _, _, e, x1⟩ := hB0 1 (by omega)
 cases e
 obtain ⟨l2, _, _, e, x2⟩ := hB0 2 (by omega)
 cases e
 obtain ⟨a0, ha0⟩ := zX (B 0)
 obtain ⟨a1, ha1⟩ := zX (B 1)
 obtain ⟨a2, ha2⟩ := zX (B 2)
 rw [ha0] at x0
 rw [ha1] at x1 l1
 rw [ha2] at x2 l2
 have HA := zh (And.intro ha0 (And.intro ha1 ha2))
 have g1 : ¬ (m : Int) < (3 : Int) := by omega
 have g2 : decide ((m : Int) < (3 : Int)) = false := decide_eq_false g1
 have g7 : ¬ m < 3 := by omega
 have g8 : decide (m < 3) = false := decide_eq_false g7
 have i0 : (0 : Int) < (m : Int) := by omega
 have i1 : (1 : Int) < (m : Int) := by omega
 have i2 : (2 : Int) < (m : Int) := by omega
 have n0 : 0 < m := by omega
 have n1 : 1 < m := by omega
 have n2 : 2 < m := by omega
 have HL := zh (And.intro l1 l2)
 have HG := zh (show 3 ≤ m by omega)
 clear hB0 ha0 ha1 ha2 hs
 by_cases k0 : a0 = 107
 case neg =>
  have hno : ¬ IsRing m B := fun h => k0 (by have := h.2.1; have := HA.out; omega)
  have u1 : ¬ (a0 : Int) = 107 := by omega
  have u2 : decide ((a0 : Int) = 107) = false := decide_eq_false u1
  have u3 : ((a0 : Int) == 107) = false := by simp only [beq_eq_false_iff_ne]; exact u1
  have u4 : decide (a0 = 107) = false := decide_eq_false (by omega)
  have u5 : (a0 == 107) = false := by simp only [beq_eq_false_iff_ne]; omega
  have u6 : ¬ a0 = 107 := by omega
  go_enter Tryz.func25, Tryz.ntmps25
  go_wp2_with fail
  refine bodyPost_ret (v := .tuple #[.agg #[.slice none 0 0], .iface 53 (.int .i64 4)]) ?_ rfl (DecR.no hno HBX.out)
  exact results_cell_tmp1 (q := 3) Tryz.results25 _ _ b2 32 #[.slice none 0 0] (0, 0) _ rfl HX.out Tryz.underlying32 rfl (info_rg _)
 have u1 : (a0 : Int) = 107 := by omega
 have u2 : decide ((a0 : Int) = 107) = true := decide_eq_true u1
 have u3 : ((a0 : Int) == 107) = true := by simp only [beq_iff_eq]; exact u1
 have u4 : decide (a0 = 107) = true := decide_eq_true (by omega)
 have u5 : (a0 == 107) = true := by simp only [beq_iff_eq]; omega
 by_cases k1 : a1 = 114
 case neg =>
  have hno : ¬ IsRing m B := fun h => k1 (by have := h.2.2.1; have := HA.out; omega)
  have v1 : ¬ (a1 : Int) = 114 := by omega
  have v2 : decide ((a1 : Int) = 114) = false := decide_eq_false v1
  have v3 : ((a1 : Int) == 114) = false := by simp only [beq_eq_false_iff_ne]; exact v1
  have v4 : decide (a1 = 114) = false := decide_eq_false (by omega)
  have v5 : (a1 == 114) = false := by simp only [beq_eq_false_iff_ne]; omega
  have v6 : ¬ a1 = 114 := by omega
  go_enter Tryz.func25, Tryz.ntmps25
  go_wp2_with fail
  refine bodyPost_ret (v := .tuple #[.agg #[.slice none 0 0], .iface 53 (.int .i64 4)]) ?_ rfl (DecR.no hno HBX.out)
  exact results_cell_tmp1 (q := 3) Tryz.results25 _ _ b2 32 #[.slice none 0 0] (0, 0) _ rfl HX.out Tryz.underlying32 rfl (info_rg _)
 have v1 : (a1 : Int) = 114 := by omega
 have v2 : decide ((a1 : Int) = 114) = true := decide_eq_true v1
 have v3 : ((a1 : Int) == 114) = true := by simp only [beq_iff_eq]; exact v1
 have v4 : decide (a1 = 114) = true := decide_eq_true (by omega)
 have v5 : (a1 == 114) = true := by simp only [beq_iff_eq]; omega
 have kc : IntKind.i64.wrap (a2 : Int) = (a2 : Int) := IntWalk.i64_in _ (by have := HL.out; omega)
 by_cases k2 : a2 < 1
 case pos =>
  have hno : ¬ IsRing m B := fun h => by have := h.2.2.2.1; have := HA.out; omega
  have p1 : (a2 : Int) < (1 : Int) := by omega
  have p2 : decide ((a2 : Int) < (1 : Int)) = true := decide_eq_true p1
  have p7 : a2 < 1 := by omega
  have p8 : decide (a2 < 1) = true := decide_eq_true p7
  go_enter Tryz.func25, Tryz.ntmps25
  go_wp2_with fail
  refine bodyPost_ret (v := .tuple #[.agg #[.slice none 0 0], .iface 53 (.int .i64 4)]) ?_ rfl (DecR.no hno HBX.out)
  exact results_cell_tmp1 (q := 3) Tryz.results25 _ _ b2 32 #[.slice none 0 0] (0, 0) _ rfl HX.out Tryz.underlying32 rfl (info_rg _)
 have p1 : ¬ (a2 : Int) < (1 : Int) := by omega
 have p2 : decide ((a2 : Int) < (1 : Int)) = false := decide_eq_false p1
 have p7 : ¬ a2 < 1 := by omega
 have p8 : decide (a2 < 1) = false := decide_eq_false p7
 by_cases k3 : 16 < a2
 case pos =>
  have hno : ¬ IsRing m B := fun h => by have := h.2.2.2.2.1; have := HA.out; omega
  have q1 : (16 : Int) < (a2 : Int) := by omega
  have q2 : decide ((16 : Int) < (a2 : Int)) = true := decide_eq_true q1
  have q7 : 16 < a2 := by omega
  have q8 : decide (16 < a2) = true := decide_eq_true q7
  go_enter Tryz.func25, Tryz.ntmps25
  go_wp2_with fail
  refine bodyPost_ret (v := .tuple #[.agg #[.slice none 0 0], .iface 53 (.int .i64 4)]) ?_ rfl (DecR.no hno HBX.out)
  exact results_cell_tmp1 (q := 3) Tryz.results25 _ _ b2 32 #[.slice none 0 0] (0, 0) _ rfl HX.out Tryz.underlying32 rfl (info_rg _)
 have q1 : ¬ (16 : Int) < (a2 : Int) := by omega
 have q2 : decide ((16 : Int) < (a2 : Int)) = false := decide_eq_false q1
 have q7 : ¬ 16 < a2 := by omega
 have q8 : decide (16 < a2) = false := decide_eq_false q7
 obtain ⟨M32, hM32⟩ := zX (a2 * 32)
 obtain ⟨LL, hLL⟩ := zX (3 + M32)
 have km1 : (a2 : Int) * 32 = (M32 : Int) := by omega
 have km2 : IntKind.i64.wrap (M32 : Int) = (M32 : Int) := IntWalk.i64_in _ (by omega)
 have km3 : (3 : Int) + (M32 : Int) = (LL : Int) := by omega
 have km4 : IntKind.i64.wrap (LL : Int) = (LL : Int) := IntWalk.i64_in _ (by omega)
 by_cases k4 : m = LL
 case neg =>
  have hno : ¬ IsRing m B := fun h => k4 (by have := h.2.2.2.2.2; have := HA.out; omega)
  have r1 : ¬ (m : Int) = LL := by omega
  have r2 : decide ((m : Int) = LL) = false := decide_eq_false r1
  have r3 : ((m : Int) == LL) = false := by simp only [beq_eq_false_iff_ne]; exact r1
  have r4 : decide (m = LL) = false := decide_eq_false (by omega)
  have r5 : (m == LL) = false := by simp only [beq_eq_false_iff_ne]; omega
  have r6 : ¬ m = LL := by omega
  go_enter Tryz.func25, Tryz.ntmps25
  go_wp2_with fail
  refine bodyPost_ret (v := .tuple #[.agg #[.slice none 0 0], .iface 53 (.int .i64 4)]) ?_ rfl (DecR.no hno HBX.out)
  exact results_cell_tmp1 (q := 3) Tryz.results25 _ _ b2 32 #[.slice none 0 0] (0, 0) _ rfl HX.out Tryz.underlying32 rfl (info_rg _)
 have r1 : (m : Int) = LL := by omega
 have r2 : decide ((m : Int) = LL) = true := decide_eq_true r1
 have r3 : ((m : Int) == LL) = true := by simp only [beq_iff_eq]; exact r1
 have r4 : decide (m = LL) = true := decide_eq_true (by omega)
 have r5 : (m == LL) = true := by simp only [beq_iff_eq]; omega
 have s1 : ¬ (LL : Int) < (3 : Int) := by omega
 have s2 : decide ((LL : Int) < (3 : Int)) = false := decide_eq_false s1
 have s7 : ¬ LL < 3 := by omega
 have s8 : decide (LL < 3) = false := decide_eq_false s7
 have HOK : Hid (IsRing m B) := zh ⟨HG.out, by have := HA.out; omega, by have := HA.out; omega, by have := HA.out; omega, by have := HA.out; omega, by have := HA.out; omega⟩
 have HN := zh (show 1 ≤ a2 ∧ a2 ≤ 16 ∧ m = 3 + 32 * a2 ∧ m ≤ cb by omega)
 clear k0 k1 k2 k3 k4 hM32 hLL hm
 go_enter Tryz.func25, Tryz.ntmps25
 go_upto_region 6 with fail
 clear c2 f2 x0 x1 x2 i0 i1 i2 n0 n1 n2 kc km1 km2 km3 km4 r1 r2 r3 r4 r5 s1 s2 s7 s8 g1 g2 g7 g8 u1 u2 u3 u4 u5 v1 v2 v3 v4 v5 p1 p2 p7 p8 q1 q2 q7 q8
 obtain ⟨b5, hb5⟩ := zX w0.heap.size
 obtain ⟨w1, hw1⟩ := zX (w0.alloc (.cells #[.slice none 0 0] 32))
 obtain ⟨base, hbase⟩ := zX w1.heap.size
 have hb01 : Below w0.heap.size w0 w1 := by rw [← hw1]; exact zA
 have hD1 : DV B b2 b5 base w 0 (.slice none 0 0) (.slice none 0 0) w1 := ⟨TO.nil _ _ _ _ _, by rw [← hw1, ← hb5]; exact Blk.new _ _ _, Blk.below HZ.out hb01 (Blk.lt HZ.out), HB0.out.trans (hb01.mono HB0.out.size), Nat.le_of_eq hbase.symm⟩
 have HBB := zh (show w.heap.size ≤ b2 ∧ b2 < b5 ∧ b5 < base from ⟨Nat.le_of_eq HW2.out, by have := Blk.lt HZ.out; omega, by have := Blk.lt hD1.c5; omega⟩)
 have HD1 := zh hD1
 clear hb01 hD1 hw0 hb2 hbase
 go_wp2_with fail
 go_loopw [46] (fun y wr => ∃ (i : Nat) (v : Value), i ≤ a2 ∧ y = .int .i64 (i : Int) ∧ DV B b2 b5 base w i v v wr) (fun y _ => a2 - (intOf y).toNat)
 case atStart => exact ⟨0, _, Nat.zero_le _, rfl, HD1.out⟩
 case round =>
  obtain ⟨i, v, hi, rfl, hDwr⟩ := hrel
  have HDW := zh hDwr
  by_cases hlt : i < a2
  ·have HI := zh (show i < a2 ∧ i < 16 by have := HN.out; omega)
   have za1 : (i : Int) < (a2 : Int) := by omega
   have za2 : decide ((i : Int) < (a2 : Int)) = true := decide_eq_true za1
   have za7 : i < a2 := by omega
   have za8 : decide (i < a2) = true := decide_eq_true za7
   obtain ⟨i32, hi32⟩ := zX (i * 32)
   obtain ⟨at0, hat⟩ := zX (3 + i32)
   obtain ⟨i1, hi1⟩ := zX (i + 1)
   obtain ⟨en, hen⟩ := zX (at0 + 32)
   have k1 : (i : Int) * 32 = (i32 : Int) := by omega
   have k2 : IntKind.i64.wrap (i32 : Int) = (i32 : Int) := IntWalk.i64_in _ (by have := HN.out; omega)
   have k3 : (3 : Int) + (i32 : Int) = (at0 : Int) := by omega
   have k4 : IntKind.i64.wrap (at0 : Int) = (at0 : Int) := IntWalk.i64_in _ (by have := HN.out; omega)
   have k5 : (i : Int) + 1 = (i1 : Int) := by omega
   have k6 : IntKind.i64.wrap (i1 : Int) = (i1 : Int) := IntWalk.i64_in _ (by have := HN.out; omega)
   have k7 : IntKind.u32.wrap (i1 : Int) = (i1 : Int) := IntWalk.u32_in _ (by have := HN.out; omega)
   have k8 : (at0 : Int) + 32 = (en : Int) := by omega
   have k9 : IntKind.i64.wrap (en : Int) = (en : Int) := IntWalk.i64_in _ (by have := HN.out; omega)
   have e1 : (0 : Int) ≤ (at0 : Int) := by omega
   have e2 : (at0 : Int) ≤ (en : Int) := by omega
   have e3 : (en : Int) ≤ (cb : Int) := by have := HN.out; omega
   have e4 : ¬ cb = at0 := by have := HN.out; omega
   have e5 : en - at0 = 32 := by omega
   obtain ⟨Ky, hKy⟩ := zX ((fun j => B (at0 + j)))
   obtain ⟨F, hF⟩ := zX ((rowC 32 Ky).toArray)
   obtain ⟨C, hC⟩ := zX ((tmL i1 Ky).toArray)
   have HCC := zh hC
   have HIF : Hid ((Tryz.prog.info? 22).map (·.size) = some F.size) := zh (by rw [← hF, List.size_toArray, rowC_len]; exact info_a32)
   have HBT : Hid (∀ w, (Instr.build 37 #[(0, .int .u32 (i1 : Int)), (1, .agg F)]).run Tryz.prog w = .ok (.agg C) w) := zh (by rw [← hF, ← hC]; exact build_t1 i1 Ky)
   have HBS : Hid (∀ w, (Instr.buildSlice 30 1 #[(0, .agg C)]).run Tryz.prog w = .ok (.slice (some ⟨w.heap.size, 0, none⟩) 1 1) (w.alloc (.cells C 37))) := zh (by rw [← hC]; exact bs_t1 i1 Ky)
   have HRF : Hid (∀ A, Below w.heap.size w A → A.rangeAt bo (oo + at0) F.toList) := zh fun A hA j u hu => by
    rw [← hF] at hu
    have hj : j < 32 := by have := (List.getElem?_eq_some_iff.1 hu).1; simpa [rowC_len] using this
    have hu' : (rowC 32 Ky)[j]? = some u := by simpa using hu
    rw [rowC_get Ky hj] at hu'
    cases hu'
    obtain ⟨_, _, _, e, hc⟩ := (HBW.out.later hA) (at0 + j) (by have := HN.out; omega)
    cases e
    rw [← hKy, Nat.add_assoc]; exact hc
   have HCG : Hid (∀ (A : World) (v' : Value), TO 37 A base v' (i + 1) (catN i (fun i => i + 1) (fun _ => i1)) (catT i (fun i j => B (3 + 32 * i + j)) (fun _ => Ky)) → TO 37 A base v' (i + 1) (fun i => i + 1) (fun i j => B (3 + 32 * i + j))) := zh fun A v' h => h.congr fun q hq => by
    unfold catN catT
    by_cases e : q < i
    ·rw [if_pos e, if_pos e]; exact ⟨rfl, rfl⟩
    ·obtain rfl : q = i := by omega
     rw [if_neg e, if_neg e]
     exact ⟨by show i1 = q + 1; omega, by rw [← hKy]; funext j; rw [show at0 = 3 + 32 * q by omega]⟩
   clear hi32 hat hi1 hen hKy hF hC hlt hi hDwr
   go_upto_region 11 with fail
   have hDW0 : DV B b2 b5 base w i v v wr.drew := HDW.out.later (Below.refl _ _).drew
   have hSW0 : wr.drew.rangeAt bo (oo + at0) F.toList := HRF.out _ hDW0.bel
   refine wp_region_held_drew (S := (fun A => A.rangeAt bo (oo + at0) F.toList)) (by kernel_rfl) ?_ (fun hHeld => ?_)
   ·(try dsimp only)
    (first | assumption | (dsimp only; assumption))
   generalize wr.drew = W0 at *
   refine wT 0 ?_ rfl ?_ ?_
   rotate_left
   ·intro wS hSw
    (try dsimp only at hSw)
    go_simp
    (try with_reducible rfl)
   (try simp only [Act.put, zS])
   refine wT 2 ?_ rfl ?_ ?_
   rotate_left
   ·intro wS hSw
    (try dsimp only at hSw)
    go_simp
    (try with_reducible rfl)
   (try simp only [Act.put, zS])
   refine wT 3 ?_ rfl ?_ ?_
   rotate_left
   ·intro wS hSw
    (try dsimp only at hSw)
    go_simp
    (try with_reducible rfl)
   (try simp only [Act.put, zS])
   refine wT 4 ?_ rfl ?_ ?_
   rotate_left
   ·intro wS hSw
    (try dsimp only at hSw)
    go_simp
    (try with_reducible rfl)
   (try simp only [Act.put, zS])
   refine wT 5 ?_ rfl ?_ ?_
   rotate_left
   ·intro wS hSw
    (try dsimp only at hSw)
    go_simp
    (try with_reducible rfl)
   (try simp only [Act.put, zS])
   refine wT 6 ?_ rfl ?_ ?_
   rotate_left
   ·intro wS hSw
    (try dsimp only at hSw)
    go_simp
    (try with_reducible rfl)
   (try simp only [Act.put, zS])
   refine wT 7 ?_ rfl ?_ ?_
   rotate_left
   ·intro wS hSw
    (try dsimp only at hSw)
    go_simp
    (try with_reducible rfl)
   (try simp only [Act.put, zS])
   refine wT 8 ?_ rfl ?_ ?_
   rotate_left
   ·intro wS hSw
    (try dsimp only at hSw)
    go_simp
    (try with_reducible rfl)
   (try simp only [Act.put, zS])
   refine wT 9 ?_ rfl ?_ ?_
   rotate_left
   ·intro wS hSw
    (try dsimp only at hSw)
    go_simp
    (try with_reducible rfl)
   (try simp only [Act.put, zS])
   refine wT 10 ?_ rfl ?_ ?_
   rotate_left
   ·intro wS hSw
    (refine exec_s2a22 (x := .tmp 61) (oa := some ⟨bo, oo + at0, none⟩) (len := 32) (cap := cb - at0) ?_ ?_ (by decide) <;> rfl)
   (try simp only [Act.put, zS])
   refine wT 11 ?_ rfl ?_ ?_
   rotate_left
   ·intro wS hSw
    (refine exec_loadA (x := .tmp 62) (C := F) ?_ ?_ hSw Tryz.underlying22 rfl HIF.out <;> rfl)
   (try simp only [Act.put, zS])
   refine wT 12 ?_ rfl ?_ ?_
   rotate_left
   ·intro wS hSw
    (refine exec_buildM (parts := #[(0, .tmp 56), (1, .tmp 63)]) (ps := #[(0, .int .u32 (i1 : Int)), (1, .agg F)]) ?_ ?_ HBT.out <;> (first | rfl | (simp [Act.eval]; done) | (go_simp; done)))
   (try simp only [Act.put, zS])
   refine wR [1, 13] ?_
   refine aC rfl (fun K hK => ?_) ?_
   ·skip
    (have c5 : W0.cell? ⟨b5, 0, none⟩ = some v := (by rw [Blk.cell hDW0.c5]; rfl); go_simp; clear c5; skip)
    refine hK.out _ _ ?_ fun hHeld => ?_
    ·(try dsimp only)
     (first | assumption | (dsimp only; assumption))
    clear hK K
    (try simp only [Act.put, zS])
    refine wR [13] ?_
    refine aN rfl fun K hK => ?_
    (refine step_bs1 rfl (.tmp 64) rfl C rfl HBS.out ?_; obtain ⟨VBx1, hw⟩ := zX (W0.alloc (.cells C 37)); rw [hw]; have hv : Below W0.heap.size W0 VBx1 := (by rw [← hw]; exact zA); have hDVBx1 := hDW0.later hv; have HTN : Hid (TL VBx1 (some ⟨W0.heap.size, 0, none⟩) 1 (fun _ => i1) (fun _ => Ky)) := zh (by have h9 : Blk VBx1 W0.heap.size C 37 := (by rw [← hw]; exact Blk.new _ _ _); rw [← HCC.out] at h9; exact TL.one h9); have hSVBx1 : VBx1.rangeAt bo (oo + at0) F.toList := HRF.out _ hDVBx1.bel; clear hv hw; skip)
    refine hK.out _ _ ?_ fun hHeld => ?_
    ·(try dsimp only)
     (first | assumption | (dsimp only; assumption))
    clear hK K
    (try simp only [Act.put, zS])
    refine wR [14] ?_
    refine aN rfl fun K hK => ?_
    (refine step_TO und_ts info_f1 rfl (.tmp 53) (.tmp 65) rfl base v i 1 1 (fun i => i + 1) (fun _ => i1) (fun i j => B (3 + 32 * i + j)) (fun _ => Ky) (some ⟨W0.heap.size, 0, none⟩) VBx1 rfl hDVBx1.row rfl HTN.out (fun e => by cases e) (by have := HI.out; omega) hDVBx1.sz ?_; intro v2 W2 hto2 hb2 hg2; have hD2 := hDVBx1.grew HBB.out hg2 hb2 (HCG.out _ _ hto2); obtain ⟨o2, cp2, hv2, -, -, -, -, -⟩ := hto2.out; subst hv2; have hSW2 : W2.rangeAt bo (oo + at0) F.toList := HRF.out _ hD2.bel; clear hto2 hb2 hg2; skip)
    refine hK.out _ _ ?_ fun hHeld => ?_
    ·(try dsimp only)
     (first | assumption | (dsimp only; assumption))
    clear hK K
    (try simp only [Act.put, zS])
    refine wT 15 ?_ rfl ?_ ?_
    rotate_left
    ·intro wS hSw
     (try dsimp only at hSw)
     go_simp
     (try with_reducible rfl)
    (try simp only [Act.put, zS])
    refine wR [16] ?_
    refine aN rfl fun K hK => ?_
    (have c5 : W2.cell? ⟨b5, 0, none⟩ = some v := (by rw [Blk.cell hD2.c5]; rfl); have f5 : W2.frozen? ⟨b5, 0, none⟩ = false := Blk.free hD2.c5 _; go_simp; have hD3 := hD2.put HBB.out; have hSW3 := HRF.out _ hD3.bel; clear c5 f5; skip)
    refine hK.out _ _ ?_ fun hHeld => ?_
    ·(try dsimp only)
     (first | assumption | (dsimp only; assumption))
    clear hK K
    (try simp only [Act.put, zS])
    refine wpAnyH_done (by kernel_rfl) ?_ _
    have HD3 := zh hD3
    clear hD3 hSW3 hD2 hSW2
    go_wp2_with fail
    go_roundw
    case rel => exact ⟨i + 1, _, HI.out.1, by first | rfl | go_num, HD3.out⟩
    case measure => have := HI.out.1; simp [intOf]; omega
   refine aN rfl fun K hK => ?_
   (refine step_bs1 rfl (.tmp 64) rfl C rfl HBS.out ?_; obtain ⟨VBx13, hw⟩ := zX (W0.alloc (.cells C 37)); rw [hw]; have hv : Below W0.heap.size W0 VBx13 := (by rw [← hw]; exact zA); have hDVBx13 := hDW0.later hv; have HTN : Hid (TL VBx13 (some ⟨W0.heap.size, 0, none⟩) 1 (fun _ => i1) (fun _ => Ky)) := zh (by have h9 : Blk VBx13 W0.heap.size C 37 := (by rw [← hw]; exact Blk.new _ _ _); rw [← HCC.out] at h9; exact TL.one h9); have hSVBx13 : VBx13.rangeAt bo (oo + at0) F.toList := HRF.out _ hDVBx13.bel; clear hv hw; skip)
   refine hK.out _ _ ?_ fun hHeld => ?_
   ·(try dsimp only)
    (first | assumption | (dsimp only; assumption))
   clear hK K
   (try simp only [Act.put, zS])
   refine wR [1] ?_
   refine aN rfl fun K hK => ?_
   (have c5 : VBx13.cell? ⟨b5, 0, none⟩ = some v := (by rw [Blk.cell hDVBx13.c5]; rfl); go_simp; clear c5; skip)
   refine hK.out _ _ ?_ fun hHeld => ?_
   ·(try dsimp only)
    (first | assumption | (dsimp only; assumption))
   clear hK K
   (try simp only [Act.put, zS])
   refine wR [14] ?_
   refine aN rfl fun K hK => ?_
   (refine step_TO und_ts info_f1 rfl (.tmp 53) (.tmp 65) rfl base v i 1 1 (fun i => i + 1) (fun _ => i1) (fun i j => B (3 + 32 * i + j)) (fun _ => Ky) (some ⟨W0.heap.size, 0, none⟩) VBx13 rfl hDVBx13.row rfl HTN.out (fun e => by cases e) (by have := HI.out; omega) hDVBx13.sz ?_; intro v2 W2 hto2 hb2 hg2; have hD2 := hDVBx13.grew HBB.out hg2 hb2 (HCG.out _ _ hto2); obtain ⟨o2, cp2, hv2, -, -, -, -, -⟩ := hto2.out; subst hv2; have hSW2 : W2.rangeAt bo (oo + at0) F.toList := HRF.out _ hD2.bel; clear hto2 hb2 hg2; skip)
   refine hK.out _ _ ?_ fun hHeld => ?_
   ·(try dsimp only)
    (first | assumption | (dsimp only; assumption))
   clear hK K
   (try simp only [Act.put, zS])
   refine wT 15 ?_ rfl ?_ ?_
   rotate_left
   ·intro wS hSw
    (try dsimp only at hSw)
    go_simp
    (try with_reducible rfl)
   (try simp only [Act.put, zS])
   refine wR [16] ?_
   refine aN rfl fun K hK => ?_
   (have c5 : W2.cell? ⟨b5, 0, none⟩ = some v := (by rw [Blk.cell hD2.c5]; rfl); have f5 : W2.frozen? ⟨b5, 0, none⟩ = false := Blk.free hD2.c5 _; go_simp; have hD3 := hD2.put HBB.out; have hSW3 := HRF.out _ hD3.bel; clear c5 f5; skip)
   refine hK.out _ _ ?_ fun hHeld => ?_
   ·(try dsimp only)
    (first | assumption | (dsimp only; assumption))
   clear hK K
   (try simp only [Act.put, zS])
   refine wpAnyH_done (by kernel_rfl) ?_ _
   have HD3 := zh hD3
   clear hD3 hSW3 hD2 hSW2
   go_wp2_with fail
   go_roundw
   case rel => exact ⟨i + 1, _, HI.out.1, by first | rfl | go_num, HD3.out⟩
   case measure => have := HI.out.1; simp [intOf]; omega
  ·obtain rfl : i = a2 := by omega
   have za1 : ¬ (i : Int) < (i : Int) := by omega
   have za2 : decide ((i : Int) < (i : Int)) = false := decide_eq_false za1
   have za7 : ¬ i < i := by omega
   have za8 : decide (i < i) = false := decide_eq_false za7
   obtain ⟨o, c, rfl, hnc, hmx, hno, hbl, hTL⟩ := hDwr.row.out
   have c5 : wr.cell? ⟨b5, 0, none⟩ = some (.slice o i c) := by rw [Blk.cell hDwr.c5]; rfl
   have c2 : wr.cell? ⟨b2, 0, none⟩ = some (.slice none 0 0) := by rw [Blk.cell hDwr.c2]; rfl
   have f2 : wr.frozen? ⟨b2, 0, none⟩ = false := Blk.free hDwr.c2 0
   have HTL := zh (And.intro hTL hbl)
   clear hDwr hnc hmx hno hbl hTL
   go_wp2_with fail
   have hO := (Own.refl b2 wr).set 0 (.slice o i c)
   have hbb := HBB.out
   have HTX : Hid (TL (wr.setCell ⟨b2, 0, none⟩ (.slice o i c)) o (B 2) (fun i => i + 1) (fun i j => B (3 + 32 * i + j))) := zh (by rw [HA.out.2.2]; exact HTL.out.1.away hO (fun a ha => by have := (HTL.out.2 a ha).1; omega))
   have HBX9 : Hid (Below w.heap.size w (wr.setCell ⟨b2, 0, none⟩ (.slice o i c))) := zh (HDW.out.bel.trans (hO.below (by omega) HDW.out.bel.size))
   have HR9 : Hid (Blk (wr.setCell ⟨b2, 0, none⟩ (.slice o i c)) b2 #[.slice o i c] 32) := zh (HDW.out.c2.set 0 _)
   refine bodyPost_ret (v := .tuple #[.agg #[.slice o i c], .nilIface]) ?_ rfl (by have h9 := DecR.ok (c := c) HOK.out HBX9.out HTX.out; rw [HA.out.2.2] at h9; exact h9)
   exact results_cell_tmp1 (q := 3) Tryz.results25 _ _ b2 32 #[.slice o i c] (0, 0) _ rfl HR9.out Tryz.underlying32 rfl (info_rg _)
set_option maxRecDepth 512
set_option maxHeartbeats 200000
def ActR (n : Nat) (N : Nat → Nat) (S : Nat → Nat → Nat) (w : World) (e : Ending) (w' : World) : Prop := Below w.heap.size w w' ∧
 ((¬ OkT n N ∧ e = .returned (.tuple #[.agg zeroT, .iface 53 (.int .i64 1)])) ∨ (OkT n N ∧ e = .returned (.tuple #[.agg (tmL n (S (n - 1))).toArray, .nilIface])))
theorem ActR.no {n : Nat} {N : Nat → Nat} {S : Nat → Nat → Nat} {w w' : World} (h : ¬ OkT n N) (hb : Below w.heap.size w w') : ActR n N S w (.returned (.tuple #[.agg zeroT, .iface 53 (.int .i64 1)])) w' := ⟨hb, .inl ⟨h, rfl⟩⟩
theorem ActR.ok {n : Nat} {N : Nat → Nat} {S : Nat → Nat → Nat} {w w' : World} (h : OkT n N) (hb : Below w.heap.size w w') : ActR n N S w (.returned (.tuple #[.agg (tmL n (S (n - 1))).toArray, .nilIface])) w' := ⟨hb, .inr ⟨h, rfl⟩⟩
end Go.Proofs.YtncfocjmdecapaaGreatDoor
