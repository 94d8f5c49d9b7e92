/- A range over a function whose round begins with memory of its own. -/
import Derived.Test.YtcohllhmfghlfaaDoorRf
namespace Go.Proofs.YtcohllhmfghlfaaDoor
set_option linter.unusedVariables false
set_option linter.unusedSimpArgs false
open Go.RowKit

theorem wp_rangeR2 {P : Program} {g : Operand} {ps : Array Tmp} {assign body : Code} {Q : Exit → Act → World → Prop} {a : Act} {w : World}
    {gf : Nat} {lb : Array Value} {E : Nat → Array Value} {N : Nat} {R : Nat → World → World → Prop} {G : Nat → World → Prop}
    (hg : a.eval g = .func (.func gf) #[] lb) (eg : ∀ args w, (callFunc gf args).run P w = .ok (.enter gf args) w)
    (hseq : Seq P gf lb E N R G) (hps : ∀ i, (E i).size = ps.size)
    (I I' : Nat → World → Prop) (Ix : Code → World → Prop)
    (hG : ∀ i A, I i A → G i A) (hId : ∀ i A, I i A → I i A.drew) (hIxd : ∀ c A, Ix c A → Ix c A.drew)
    (hR : ∀ i A B, i < N → I i A → R i A B → I' i B) (hRk : ∀ i A B, I i A → R i A B → Keeps w.heap.size A B)
    (hIt : ∀ i A B, Turned w.heap.size A B → I i A → I i B) (hIt' : ∀ i A B, Turned w.heap.size A B → I' i A → I' i B) (hIxt : ∀ c A B, Turned w.heap.size A B → Ix c A → Ix c B)
    (h0 : ∀ A, Below w.heap.size w A → A.heap.size = w.heap.size + 2 → I 0 A)
    (I2 : Nat → Act → World → Prop) (hIt2 : ∀ i a A B, Turned w.heap.size A B → I2 i a A → I2 i a B)
    (hassign : ∀ (l i : Nat) (W : World) (K : Act → World → Prop), i < N → I' i W → (∀ a' W', Below W.heap.size W W' → I2 i a' W' → K a' W') →
      assign.wpIn (Wd (some l)) 0 P (Exit.then K (fun _ _ _ => False)) { tmps := (ps.zip (E i)).foldl (fun t (p, v) => t.setIfInBounds p v) a.tmps, defers := [] } W)
    (hbody : ∀ (l i : Nat) (a' : Act) (W : World), w.heap.size < l → i < N → I2 i a' W → body.wpIn (Wd (some l)) 0 P (roundPostR w.heap.size (I (i + 1)) Ix W) a' W)
    (hdone : ∀ (D : Nat) (W : World), w.heap.size ≤ D → I N W → W.heap[D]? = some (.deferred (some [])) → Q .normal { a with defers := { target := .collected D, args := #[] } :: a.defers } W)
    (hstop : ∀ (D : Nat) (c : Code) (W : World), w.heap.size ≤ D → Ix c W → W.heap[D]? = some (.deferred (some [])) → c.wp P Q { a with defers := { target := .collected D, args := #[] } :: a.defers } W) :
    (Code.rangeFunc g ps assign body).wp P Q a w := by
  refine (wpIn_wide (n := 0)).1 (wpIn_rangeFunc ?_)
  intro fn _
  rw [show Fence.wide.round = none from rfl]
  obtain ⟨rec, hrec⟩ : ∃ rec : LoopState → Option Code → Loop, rec = fun st pe => { state := st, pending := pe, fn, tmps := a.tmps, params := ps, assign, body, defers := w.heap.size } := ⟨_, rfl⟩
  obtain ⟨W1, hW1⟩ : ∃ W1, (w.alloc (.deferred (some []))).alloc (.loop (rec .ready none)) = W1 := ⟨_, rfl⟩
  have hL1 : W1.heap[w.heap.size + 1]? = some (.loop (rec .ready none)) := by
    rw [← hW1]; have := World.alloc_heap_new (w.alloc (.deferred (some []))) (.loop (rec .ready none)); rwa [World.size_alloc] at this
  have hK1 : W1.heap[w.heap.size]? = some (.deferred (some [])) := by
    rw [← hW1]; exact (Below.heap_alloc _ _ _ (by simp)).trans (World.alloc_heap_new w _)
  have hI1 : I 0 W1 := h0 W1 (by rw [← hW1]; exact ((Below.refl _ w).alloc (Nat.le_refl _) _).alloc (by simp) _) (by rw [← hW1]; simp)
  have turn : ∀ {A : World} {o : Obj} (o' : Obj), A.heap[w.heap.size + 1]? = some o → o.isCells = false → o'.isCells = false → Turned w.heap.size A (A.putObj (w.heap.size + 1) o') :=
    fun o' h1 h2 h3 => ⟨_, _, o', Nat.le_succ _, h1, h2, h3, rfl⟩
  refine ⟨w.heap.size + 1, [{ target := .collected w.heap.size, args := #[] }], W1, { target := .fn (.func gf) lb, args := #[.func (.yield (w.heap.size + 1)) #[] #[]] }, W1, gf,
    #[.func (.yield (w.heap.size + 1)) #[] #[]] ++ lb, W1, ?_, ?_, fun _ _ => trivial, ?_, fun e => (nomatch e), ?_⟩
  · rw [← hW1, hrec]; exact run_enterLoop_outer _ _ _ _ _
  · simp only [resolve, hg]
    simp [go_sem]
  · simp [invoke, go_sem, eg]
  refine calls_wd (r := none) (n := 0 - 1) ((hseq (w.heap.size + 1)
    (fun i W => I i W ∧ W.heap[w.heap.size + 1]? = some (.loop (rec .ready none)) ∧ W.heap[w.heap.size]? = some (.deferred (some [])))
    (fun i W => I' i W ∧ W.heap[w.heap.size + 1]? = some (.loop (rec .ready none)) ∧ W.heap[w.heap.size]? = some (.deferred (some [])))
    (fun W => ∃ c, Ix c W ∧ W.heap[w.heap.size + 1]? = some (.loop (rec .done (some c))) ∧ W.heap[w.heap.size]? = some (.deferred (some [])))
    W1 (fun i A h => hG i A h.1) (fun i A h => ⟨hId i A h.1, h.2⟩) (fun A ⟨c, h1, h2⟩ => ⟨c, hIxd c A h1, h2⟩)
    (fun i A B hi h hr => ⟨hR i A B hi h.1 hr, (hRk i A B h.1 hr).same _ _ (Nat.le_succ _) h.2.1 rfl, (hRk i A B h.1 hr).same _ _ (Nat.le_refl _) h.2.2 rfl⟩)
    ?_ ⟨hI1, hL1, hK1⟩).mono ?_)
  · rintro i W hi ⟨hin, hl, hk⟩
    have hlt : w.heap.size + 1 < W.heap.size := (Array.getElem?_eq_some_iff.1 hl).1
    have hy := run_yield (P := P) (args := E i) hl (by rw [hrec]; exact hps i)
    rw [hrec] at hy
    refine ⟨fn, _, assign, body, hy, roundIn_of_wpIn (F := Wd none) trivial (hassign _ i W _ hi hin ?_)⟩
    clear hy
    intro a' W' hbW hi2
    have hl : W'.heap[w.heap.size + 1]? = some (.loop (rec .ready none)) := (hbW.block _ hlt).trans hl
    have hk : W'.heap[w.heap.size]? = some (.deferred (some [])) := (hbW.block _ (by omega)).trans hk
    have hlt : w.heap.size + 1 < W'.heap.size := (Array.getElem?_eq_some_iff.1 hl).1
    clear hin hbW
    generalize W' = W at *
    refine ⟨_, run_beginRound hl (by rw [hrec]), ?_⟩
    have hl2 : (W.putObj (w.heap.size + 1) (.loop { rec .ready none with state := .busy })).heap[w.heap.size + 1]? = some (.loop { rec .ready none with state := .busy }) := World.putObj_heap_same hlt
    have hk2 : (W.putObj (w.heap.size + 1) (.loop { rec .ready none with state := .busy })).heap[w.heap.size]? = some (.deferred (some [])) := (World.putObj_heap_other (by omega)).trans hk
    refine wpIn_mono (hbody _ i a' _ (Nat.lt_succ_self _) hi (hIt2 i a' _ _ (turn _ hl rfl rfl) hi2)) ?_
    have fin : ∀ (jump : Option Code) (W3 : World), Keeps w.heap.size (W.putObj (w.heap.size + 1) (.loop { rec .ready none with state := .busy })) W3 →
        (Instr.endRound (w.heap.size + 1) jump).run P W3 = .ok (.bool jump.isNone) (W3.putObj (w.heap.size + 1) (.loop (rec (if jump.isNone then .ready else .done) jump))) ∧
        Turned w.heap.size W3 (W3.putObj (w.heap.size + 1) (.loop (rec (if jump.isNone then .ready else .done) jump))) ∧
        (W3.putObj (w.heap.size + 1) (.loop (rec (if jump.isNone then .ready else .done) jump))).heap[w.heap.size + 1]? = some (.loop (rec (if jump.isNone then .ready else .done) jump)) ∧
        (W3.putObj (w.heap.size + 1) (.loop (rec (if jump.isNone then .ready else .done) jump))).heap[w.heap.size]? = some (.deferred (some [])) := fun jump W3 hk3 => by
      have hl3 := hk3.same _ _ (Nat.le_succ _) hl2 rfl
      have := run_endRound (P := P) jump hl3
      rw [hrec] at this ⊢
      exact ⟨this, turn _ hl3 rfl rfl, World.putObj_heap_same (Array.getElem?_eq_some_iff.1 hl3).1, (World.putObj_heap_other (by omega)).trans (hk3.same _ _ (Nat.le_refl _) hk2 rfl)⟩
    rintro e a3 W3 hp
    cases e with
    | normal =>
      obtain ⟨hr, ht, hl4, hk4⟩ := fin none W3 hp.1
      exact ⟨_, _, hr, .inl ⟨rfl, hIt _ _ _ ht hp.2, hl4, hk4⟩⟩
    | ret =>
      obtain ⟨hr, ht, hl4, hk4⟩ := fin (some .ret) W3 hp.1
      exact ⟨_, _, hr, .inr ⟨rfl, .ret, hIxt _ _ _ ht hp.2, hl4, hk4⟩⟩
    | exit id =>
      obtain ⟨hr, ht, hl4, hk4⟩ := fin (some (.exit id)) W3 hp.1
      exact ⟨_, _, hr, .inr ⟨rfl, .exit id, hIxt _ _ _ ht hp.2, hl4, hk4⟩⟩
    | goto t =>
      obtain ⟨hr, ht, hl4, hk4⟩ := fin (some (.goto t)) W3 hp.1
      exact ⟨_, _, hr, .inr ⟨rfl, .goto t, hIxt _ _ _ ht hp.2, hl4, hk4⟩⟩
    | panic ch => exact hp.elim
    | outgrown => exact hp.elim
  · rintro e W2 ⟨⟨v, rfl⟩, (⟨hi, hl, hk⟩ | ⟨c, hi, hl, hk⟩)⟩
    · refine ⟨none, _, by have := run_endLoop (P := P) hl (by rw [hrec]; simp); rw [hrec] at this; exact this, ?_⟩
      exact hdone _ _ (Nat.le_refl _) (hIt _ _ _ (turn _ hl rfl rfl) hi) ((World.putObj_heap_other (by omega)).trans hk)
    · refine ⟨some c, _, by have := run_endLoop (P := P) hl (by rw [hrec]; simp); rw [hrec] at this; exact this, ?_⟩
      exact wpIn_wide.2 (hstop _ c _ (Nat.le_refl _) (hIxt _ _ _ (turn _ hl rfl rfl) hi) ((World.putObj_heap_other (by omega)).trans hk))

end Go.Proofs.YtcohllhmfghlfaaDoor
