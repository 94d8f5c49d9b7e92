/- A range over a function: operations within a round, by what they do outside of one; one law for the statement, the iterator's own steps being named. A ring's keys, one by one. A range over a function whose variables are laid in the world (closures could take them): the assignment may turn the world. -/
import Derived.RangeFuncNested
import Derived.OrdersIn
import Derived.OrdersHeld
import Derived.Deep.RegionHeld
import Derived.LoopNIn
import Derived.LoopIn
import Derived.Test.YtncfocjmdecapaaGreatDoorZB0
import Derived.Test.YtncfocjmdecapaaGreatDoorZS1
import Derived.Test.YtncfocjmdecapaaGreatDoorZS2
import Derived.Test.YtncfocjmdecapaaGreatDoorZSh4
import Derived.Test.YtncfocjmdecapaaGreatDoorZSh7
import Derived.Test.YtncfocjmdecapaaGreatDoorZS8
import Derived.Test.YtncfocjmdecapaaGreatDoorZHm2
import Derived.Test.YtncfocjmdecapaaGreatDoorZR0
import Derived.Test.YtncfocjmdecapaaGreatDoorZK0
import Derived.Test.YtncfocjmdecapaaGreatDoorZK1
namespace Go.Proofs.YtncfocjmdecapaaGreatDoor
set_option linter.unusedVariables false
set_option linter.unusedSimpArgs false
open Go.RowKit
section
variable {P : Program} {r : Option Nat} {n : Nat} {ops : Array Oper} {Q : Exit → Act → World → Prop}
/-- The fence that asks nothing, in a round of loop r or in none. -/
abbrev Wd (r : Option Nat) : Fence := { Fence.wide with round := r }

theorem calls_wd {f : FuncId} {args : Array Value} {w : World} {R : Ending → World → Prop} (h : Calls P f args w R) : CallsIn (Wd r) n P f args w R :=
  (callsIn_wide (n := n)).2 h
theorem semAt_wd {o : Oper} {ρ : Operand → Value} (hd : ∀ c, o.op ≠ .defer c) : o.semAt (Wd r).round ρ = execOp ρ o := by
  cases r with
  | none => rfl
  | some l => exact Oper.semAt_some l ρ o hd

/-- An operation that is no defer statement: what it does outside of a round it does in one. -/
theorem opIn_wd {o : Oper} {a : Act} {w : World} {next : Act → World → Prop} (hd : ∀ c, o.op ≠ .defer c) (h : o.wp P a w next Q) : o.wpIn (Wd r) n P a w next Q := by
  refine ⟨fun _ _ => trivial, ?_⟩
  rw [semAt_wd hd]
  unfold Oper.wp at h
  revert h
  generalize (execOp a.eval o).run P w = x
  intro h
  cases x with
  | ok y w' =>
    cases y <;> first
      | exact h
      | exact h.elim
      | exact ⟨fun e => (nomatch e), (calls_wd h).mono fun e w q => by cases e <;> exact q⟩
      | exact ⟨fun e => (nomatch e), fun c cs _ => let ⟨v, w', q, s⟩ := h c cs; ⟨v, w', q, stepsIn_wide.2 s⟩⟩
  | halt s w' => cases s <;> first | exact h | exact h.elim

theorem listIn_wd (hQ : ¬ LetsOut Q) : ∀ (L : List Oper) (a : Act) (w : World), (∀ o ∈ L, ∀ c, o.op ≠ .defer c) → wpList P ops Q L a w → wpListIn (Wd r) n P ops Q L a w
  | [], _, _, _, h => h
  | o :: L, a, w, hd, h => by
    unfold wpList at h
    unfold wpListIn
    split at h
    · rename_i hw
      rw [if_pos hw]
      refine opIn_wd (hd o (by simp)) ?_
      rcases h with h | h
      · exact Oper.wp_mono (fun a' w' h' => listIn_wd hQ L a' w' (fun o' ho' => hd o' (by simp [ho'])) h') h
      · exact absurd h.2 hQ
    · rename_i hw
      rw [if_neg hw]
      exact ⟨fun _ _ => trivial, listIn_wd hQ L _ w (fun o' ho' => hd o' (by simp [ho'])) h⟩

/-- No operation of these is a defer statement. -/
def noDefer (L : List Oper) : Bool := L.all fun o => match o.op with | .defer _ => false | _ => true
theorem noDefer_of {L : List Oper} (h : noDefer L = true) : ∀ o ∈ L, ∀ c, o.op ≠ .defer c := fun o ho c e => by
  have := (List.all_eq_true.1 h) o ho
  rw [e] at this; cases this

/-- A region that draws nothing. -/
theorem region_wd {id : Nat} {l : List Oper} {a : Act} {w : World} (hQ : ¬ LetsOut Q) (hd : noDefer l = true) (h : wpList P l.toArray Q l a w) : (Code.region id l.toArray false).wpIn (Wd r) n P Q a w :=
  wpIn_region_lit (listIn_wd hQ l a w (noDefer_of hd) h)

theorem opOf_wd (hQ : ¬ LetsOut Q) {i : Nat} {K K' : Act → World → Prop} {a : Act} {w : World} (hd : ∀ o ∈ ops, ∀ c, o.op ≠ .defer c) (hk : ∀ a w, K a w → K' a w) (h : wpOp P ops Q i K a w) : wpOpIn (Wd r) n P ops Q i K' a w := by
  unfold wpOp at h
  unfold wpOpIn
  cases ho : ops[i]? with
  | none => rw [ho] at h; exact hk _ _ h
  | some o =>
    rw [ho] at h
    simp only at h ⊢
    split at h
    · rename_i hw
      rw [if_pos hw]
      refine opIn_wd (hd o (Array.mem_of_getElem? ho)) ?_
      rcases h with h | h
      · exact Oper.wp_mono hk h
      · exact absurd h.2 hQ
    · rename_i hw
      rw [if_neg hw]
      exact ⟨fun _ _ => trivial, hk _ _ h⟩

theorem anyIn_wd (hQ : ¬ LetsOut Q) (hd : ∀ o ∈ ops, ∀ c, o.op ≠ .defer c) {md : Region.Mode} {S : World → Prop} : ∀ (fuel : Nat) (listed : Array Bool) (a : Act) (w : World), wpAnyH P md ops Q S fuel listed a w → wpAnyIn (Wd r) n P md ops Q fuel listed a w
  | 0, _, _, _, h => h
  | fuel + 1, _, _, _, h => ⟨h.1, fun i hi => opOf_wd hQ hd (fun a' w' h' => anyIn_wd hQ hd fuel _ a' w' h'.2) (h.2 i hi)⟩

/-- A region that draws its order: the rest is walked as outside of a round. -/
theorem regionD_wd {id : Nat} {l : List Oper} {a : Act} {w : World} {S : World → Prop} (hQ : ¬ LetsOut Q) (hd : noDefer l = true) (hm : P.follows .mixedOrders = true) (hS : S w.drew)
    (h : S w.drew → wpAnyH P .any l.toArray Q S l.toArray.size (Array.replicate l.toArray.size false) a w.drew) : (Code.region id l.toArray true).wpIn (Wd r) n P Q a w :=
  wpIn_region_any hm (anyIn_wd hQ (fun o ho => noDefer_of hd o (by simpa using ho)) _ _ _ _ (h hS))
end

/-! ### The statement -/

/-- What a round may have become of its world: whatever is no cells and lies at or beyond B lies as it lay. -/
structure Keeps (B : Nat) (W W' : World) : Prop where
  size : W.heap.size ≤ W'.heap.size
  same : ∀ (k : Nat) (o : Obj), B ≤ k → W.heap[k]? = some o → o.isCells = false → W'.heap[k]? = some o

theorem Keeps.refl (B : Nat) (W : World) : Keeps B W W := ⟨Nat.le_refl _, fun _ _ _ h _ => h⟩
theorem Keeps.trans {B : Nat} {X Y Z : World} (h : Keeps B X Y) (k : Keeps B Y Z) : Keeps B X Z := ⟨Nat.le_trans h.size k.size, fun i o hB hi ho => k.same i o hB (h.same i o hB hi ho) ho⟩
theorem Keeps.of_below {B : Nat} {W W' : World} (h : Below W.heap.size W W') : Keeps B W W' := ⟨h.size, fun k o _ hk _ => (h.block k (lt_of_block hk)).trans hk⟩
/-- Only a block of cells has changed, of what was there. -/
theorem Keeps.of_own {B b : Nat} {W W' : World} {C : Array Value} {t : TypeId} {f : Nat × Nat} (h : Own b W W') (hb : W.heap[b]? = some (.cells C t f)) : Keeps B W W' :=
  ⟨h.size, fun k o _ hk ho => (h.block k (lt_of_block hk) (fun e => by subst e; rw [hb] at hk; cases hk; cases ho)).trans hk⟩

/-- One block, no cells before and behind, has turned: the statement's own book-keeping. -/
def Turned (B : Nat) (A A' : World) : Prop := ∃ (l : Nat) (o o' : Obj), B ≤ l ∧ A.heap[l]? = some o ∧ o.isCells = false ∧ o'.isCells = false ∧ A' = A.putObj l o'

theorem Turned.size {B : Nat} {A A' : World} (h : Turned B A A') : A'.heap.size = A.heap.size := by obtain ⟨l, o, o', _, _, _, _, rfl⟩ := h; simp
theorem Turned.block {B : Nat} {A A' : World} (h : Turned B A A') {k : Nat} {C : Array Value} {t : TypeId} {f : Nat × Nat} (hk : A.heap[k]? = some (.cells C t f)) : A'.heap[k]? = some (.cells C t f) := by
  obtain ⟨l, o, o', _, ho, hc, _, rfl⟩ := h
  by_cases e : k = l
  · subst e; rw [hk] at ho; cases ho; cases hc
  · rw [World.putObj_heap_other e]; exact hk
theorem Turned.blk {B : Nat} {A A' : World} (h : Turned B A A') {k : Nat} {C : Array Value} {t : TypeId} (hk : Blk A k C t) : Blk A' k C t := h.block hk
theorem Turned.below {B : Nat} {A A' : World} (h : Turned B A A') : Below B A A' := by
  obtain ⟨l, o, o', hl, _, _, _, rfl⟩ := h
  exact ⟨rfl, rfl, rfl, by simp, fun k hk => World.putObj_heap_other (by omega)⟩

/-- The iterator's contract, its own steps being named: R i: what it does ahead of yielding number i; G: what it asks of the world between two rounds. -/
def Seq (P : Program) (gf : Nat) (lb : Array Value) (E : Nat → Array Value) (N : Nat) (R : Nat → World → World → Prop) (G : Nat → World → Prop) : Prop :=
  ∀ (l : Nat) (J J' : Nat → World → Prop) (Jx : World → Prop) (W : World),
    (∀ i A, J i A → G i A) → (∀ i A, J i A → J i A.drew) → (∀ A, Jx A → Jx A.drew) →
    (∀ i A B, i < N → J i A → R i A B → J' i B) →
    (∀ i A, i < N → J' i A → YieldAt (Wd none) 0 P l (E i) A fun e B => (e = .returned (.bool true) ∧ J (i + 1) B) ∨ (e = .returned (.bool false) ∧ Jx B)) →
    J 0 W →
    Calls P gf (#[.func (.yield l) #[] #[]] ++ lb) W fun e B => (∃ v, e = .returned v) ∧ (J N B ∨ Jx B)

/-- How a round's body may be left. -/
def roundPostR (B : Nat) (I : World → Prop) (Ix : Code → World → Prop) (W : World) : Exit → Act → World → Prop
  | .normal, _, W' => Keeps B W W' ∧ I W'
  | .ret, _, W' => Keeps B W W' ∧ Ix .ret W'
  | .exit id, _, W' => Keeps B W W' ∧ Ix (.exit id) W'
  | .goto t, _, W' => Keeps B W W' ∧ Ix (.goto t) W'
  | .panic _, _, _ => False
  | .outgrown, _, _ => False

theorem wp_rangeR {P : Program} {g : Operand} {ps : Array Tmp} {assign body : Code} {Q : Exit → Act → World → Prop} {a : Act} {w : World}
    {gf : Nat} {lb : Array Value} {E : Nat → Array Value} {N : Nat} {R : Nat → World → World → Prop} {G : Nat → World → Prop}
    (hg : a.eval g = .func (.func gf) #[] lb) (eg : ∀ args w, (callFunc gf args).run P w = .ok (.enter gf args) w)
    (hseq : Seq P gf lb E N R G) (hps : ∀ i, (E i).size = ps.size)
    (I I' : Nat → World → Prop) (Ix : Code → World → Prop)
    (hG : ∀ i A, I i A → G i A) (hId : ∀ i A, I i A → I i A.drew) (hIxd : ∀ c A, Ix c A → Ix c A.drew)
    (hR : ∀ i A B, i < N → I i A → R i A B → I' i B) (hRk : ∀ i A B, I i A → R i A B → Keeps w.heap.size A B)
    (hIt : ∀ i A B, Turned w.heap.size A B → I i A → I i B) (hIt' : ∀ i A B, Turned w.heap.size A B → I' i A → I' i B) (hIxt : ∀ c A B, Turned w.heap.size A B → Ix c A → Ix c B)
    (h0 : ∀ A, Below w.heap.size w A → A.heap.size = w.heap.size + 2 → I 0 A)
    (a₁ : Nat → Act)
    (hassign : ∀ (l i : Nat) (W : World) (K : Act → World → Prop), i < N → K (a₁ i) W →
      assign.wpIn (Wd (some l)) 0 P (Exit.then K (fun _ _ _ => False)) { tmps := (ps.zip (E i)).foldl (fun t (p, v) => t.setIfInBounds p v) a.tmps, defers := [] } W)
    (hbody : ∀ (l i : Nat) (W : World), w.heap.size < l → i < N → I' i W → body.wpIn (Wd (some l)) 0 P (roundPostR w.heap.size (I (i + 1)) Ix W) (a₁ i) W)
    (hdone : ∀ (D : Nat) (W : World), w.heap.size ≤ D → I N W → W.heap[D]? = some (.deferred (some [])) → Q .normal { a with defers := { target := .collected D, args := #[] } :: a.defers } W)
    (hstop : ∀ (D : Nat) (c : Code) (W : World), w.heap.size ≤ D → Ix c W → W.heap[D]? = some (.deferred (some [])) → c.wp P Q { a with defers := { target := .collected D, args := #[] } :: a.defers } W) :
    (Code.rangeFunc g ps assign body).wp P Q a w := by
  refine (wpIn_wide (n := 0)).1 (wpIn_rangeFunc ?_)
  intro fn _
  rw [show Fence.wide.round = none from rfl]
  obtain ⟨rec, hrec⟩ : ∃ rec : LoopState → Option Code → Loop, rec = fun st pe => { state := st, pending := pe, fn, tmps := a.tmps, params := ps, assign, body, defers := w.heap.size } := ⟨_, rfl⟩
  obtain ⟨W1, hW1⟩ : ∃ W1, (w.alloc (.deferred (some []))).alloc (.loop (rec .ready none)) = W1 := ⟨_, rfl⟩
  have hL1 : W1.heap[w.heap.size + 1]? = some (.loop (rec .ready none)) := by
    rw [← hW1]; have := World.alloc_heap_new (w.alloc (.deferred (some []))) (.loop (rec .ready none)); rwa [World.size_alloc] at this
  have hK1 : W1.heap[w.heap.size]? = some (.deferred (some [])) := by
    rw [← hW1]; exact (Below.heap_alloc _ _ _ (by simp)).trans (World.alloc_heap_new w _)
  have hI1 : I 0 W1 := h0 W1 (by rw [← hW1]; exact ((Below.refl _ w).alloc (Nat.le_refl _) _).alloc (by simp) _) (by rw [← hW1]; simp)
  have turn : ∀ {A : World} {o : Obj} (o' : Obj), A.heap[w.heap.size + 1]? = some o → o.isCells = false → o'.isCells = false → Turned w.heap.size A (A.putObj (w.heap.size + 1) o') :=
    fun o' h1 h2 h3 => ⟨_, _, o', Nat.le_succ _, h1, h2, h3, rfl⟩
  refine ⟨w.heap.size + 1, [{ target := .collected w.heap.size, args := #[] }], W1, { target := .fn (.func gf) lb, args := #[.func (.yield (w.heap.size + 1)) #[] #[]] }, W1, gf,
    #[.func (.yield (w.heap.size + 1)) #[] #[]] ++ lb, W1, ?_, ?_, fun _ _ => trivial, ?_, fun e => (nomatch e), ?_⟩
  · rw [← hW1, hrec]; exact run_enterLoop_outer _ _ _ _ _
  · simp only [resolve, hg]
    simp [go_sem]
  · simp [invoke, go_sem, eg]
  refine calls_wd (r := none) (n := 0 - 1) ((hseq (w.heap.size + 1)
    (fun i W => I i W ∧ W.heap[w.heap.size + 1]? = some (.loop (rec .ready none)) ∧ W.heap[w.heap.size]? = some (.deferred (some [])))
    (fun i W => I' i W ∧ W.heap[w.heap.size + 1]? = some (.loop (rec .ready none)) ∧ W.heap[w.heap.size]? = some (.deferred (some [])))
    (fun W => ∃ c, Ix c W ∧ W.heap[w.heap.size + 1]? = some (.loop (rec .done (some c))) ∧ W.heap[w.heap.size]? = some (.deferred (some [])))
    W1 (fun i A h => hG i A h.1) (fun i A h => ⟨hId i A h.1, h.2⟩) (fun A ⟨c, h1, h2⟩ => ⟨c, hIxd c A h1, h2⟩)
    (fun i A B hi h hr => ⟨hR i A B hi h.1 hr, (hRk i A B h.1 hr).same _ _ (Nat.le_succ _) h.2.1 rfl, (hRk i A B h.1 hr).same _ _ (Nat.le_refl _) h.2.2 rfl⟩)
    ?_ ⟨hI1, hL1, hK1⟩).mono ?_)
  · rintro i W hi ⟨hin, hl, hk⟩
    have hlt : w.heap.size + 1 < W.heap.size := (Array.getElem?_eq_some_iff.1 hl).1
    have hy := run_yield (P := P) (args := E i) hl (by rw [hrec]; exact hps i)
    rw [hrec] at hy
    refine ⟨fn, _, assign, body, hy, roundIn_of_wpIn (F := Wd none) trivial (hassign _ i W _ hi ?_)⟩
    clear hy
    refine ⟨_, run_beginRound hl (by rw [hrec]), ?_⟩
    have hl2 : (W.putObj (w.heap.size + 1) (.loop { rec .ready none with state := .busy })).heap[w.heap.size + 1]? = some (.loop { rec .ready none with state := .busy }) := World.putObj_heap_same hlt
    have hk2 : (W.putObj (w.heap.size + 1) (.loop { rec .ready none with state := .busy })).heap[w.heap.size]? = some (.deferred (some [])) := (World.putObj_heap_other (by omega)).trans hk
    refine wpIn_mono (hbody _ i _ (Nat.lt_succ_self _) hi (hIt' i _ _ (turn _ hl rfl rfl) hin)) ?_
    have fin : ∀ (jump : Option Code) (W3 : World), Keeps w.heap.size (W.putObj (w.heap.size + 1) (.loop { rec .ready none with state := .busy })) W3 →
        (Instr.endRound (w.heap.size + 1) jump).run P W3 = .ok (.bool jump.isNone) (W3.putObj (w.heap.size + 1) (.loop (rec (if jump.isNone then .ready else .done) jump))) ∧
        Turned w.heap.size W3 (W3.putObj (w.heap.size + 1) (.loop (rec (if jump.isNone then .ready else .done) jump))) ∧
        (W3.putObj (w.heap.size + 1) (.loop (rec (if jump.isNone then .ready else .done) jump))).heap[w.heap.size + 1]? = some (.loop (rec (if jump.isNone then .ready else .done) jump)) ∧
        (W3.putObj (w.heap.size + 1) (.loop (rec (if jump.isNone then .ready else .done) jump))).heap[w.heap.size]? = some (.deferred (some [])) := fun jump W3 hk3 => by
      have hl3 := hk3.same _ _ (Nat.le_succ _) hl2 rfl
      have := run_endRound (P := P) jump hl3
      rw [hrec] at this ⊢
      exact ⟨this, turn _ hl3 rfl rfl, World.putObj_heap_same (Array.getElem?_eq_some_iff.1 hl3).1, (World.putObj_heap_other (by omega)).trans (hk3.same _ _ (Nat.le_refl _) hk2 rfl)⟩
    rintro e a3 W3 hp
    cases e with
    | normal =>
      obtain ⟨hr, ht, hl4, hk4⟩ := fin none W3 hp.1
      exact ⟨_, _, hr, .inl ⟨rfl, hIt _ _ _ ht hp.2, hl4, hk4⟩⟩
    | ret =>
      obtain ⟨hr, ht, hl4, hk4⟩ := fin (some .ret) W3 hp.1
      exact ⟨_, _, hr, .inr ⟨rfl, .ret, hIxt _ _ _ ht hp.2, hl4, hk4⟩⟩
    | exit id =>
      obtain ⟨hr, ht, hl4, hk4⟩ := fin (some (.exit id)) W3 hp.1
      exact ⟨_, _, hr, .inr ⟨rfl, .exit id, hIxt _ _ _ ht hp.2, hl4, hk4⟩⟩
    | goto t =>
      obtain ⟨hr, ht, hl4, hk4⟩ := fin (some (.goto t)) W3 hp.1
      exact ⟨_, _, hr, .inr ⟨rfl, .goto t, hIxt _ _ _ ht hp.2, hl4, hk4⟩⟩
    | panic ch => exact hp.elim
    | outgrown => exact hp.elim
  · rintro e W2 ⟨⟨v, rfl⟩, (⟨hi, hl, hk⟩ | ⟨c, hi, hl, hk⟩)⟩
    · refine ⟨none, _, by have := run_endLoop (P := P) hl (by rw [hrec]; simp); rw [hrec] at this; exact this, ?_⟩
      exact hdone _ _ (Nat.le_refl _) (hIt _ _ _ (turn _ hl rfl rfl) hi) ((World.putObj_heap_other (by omega)).trans hk)
    · refine ⟨some c, _, by have := run_endLoop (P := P) hl (by rw [hrec]; simp); rw [hrec] at this; exact this, ?_⟩
      exact wpIn_wide.2 (hstop _ c _ (Nat.le_refl _) (hIxt _ _ _ (turn _ hl rfl rfl) hi) ((World.putObj_heap_other (by omega)).trans hk))

end Go.Proofs.YtncfocjmdecapaaGreatDoor
namespace Go.Proofs.YtncfocjmdecapaaGreatDoor
set_option linter.unusedVariables false
set_option linter.unusedSimpArgs false
open Go.RowKit
theorem listIn_val {P : Program} {r : Option Nat} {n : Nat} {ops : Array Oper} {Q : Exit → Act → World → Prop} {o : Oper} {rest : List Oper} {a : Act} {w : World} {v : Value} (hgd : o.guard = none) (hd : ∀ c, o.op ≠ .defer c) (he : (execOp a.eval o).run P w = .ok (.value v) w)
    (hk : wpListIn (Wd r) n P ops Q rest (a.put o.dst v) w) : wpListIn (Wd r) n P ops Q (o :: rest) a w := by
  unfold wpListIn
  rw [if_pos (by simp [Region.wanted, hgd])]
  refine opIn_wd hd ?_
  unfold Oper.wp
  rw [he]
  exact hk
def GKr (Bn : Nat) (oa : Option Addr) (n cs : Nat) (N : Nat → Nat) (S : Nat → Nat → Nat) (A : World) : Prop := Blk A Bn #[.slice oa n cs] 32 ∧ TL A oa n N S
def RKr (A B : World) : Prop := Below A.heap.size A B
def EKr (N : Nat → Nat) (S : Nat → Nat → Nat) (i : Nat) : Array Value := #[.int .u32 (N i : Int), .agg (rowC 32 (S i)).toArray]
set_option maxHeartbeats 4000000 in
set_option maxRecDepth 100000 in
theorem keys_seq (Bn : Nat) (oa : Option Addr) (n cs : Nat) (N : Nat → Nat) (S : Nat → Nat → Nat) (hn : n < 1000000) :
    Seq Tryz.prog 60 #[.pointer (some ⟨Bn, 0, none⟩)] (EKr N S) n (fun _ => RKr) (fun _ => GKr Bn oa n cs N S) := by
  intro l J J' Jx W hG hJd hJxd hR hY h0
  have HG : Hid (∀ i A, J i A → GKr Bn oa n cs N S A) := Lib.hid hG
  have HR : Hid (∀ i A B, i < n → J i A → RKr A B → J' i B) := Lib.hid hR
  have HY := Lib.hid hY
  have HN := Lib.hid hn
  have c0 : W.cell? ⟨Bn, 0, none⟩ = some (.slice oa n cs) := by rw [Blk.cell (hG 0 W h0).1]; rfl
  clear hG hJd hJxd hR hY hn
  go_enter Tryz.func60, Tryz.ntmps60
  go_wp2_with fail
  clear c0
  go_loopw [8] (fun y wr => ∃ i : Nat, i ≤ n ∧ y = .int .i64 (i : Int) ∧ J i wr) (fun y _ => n - (intOf y).toNat)
  case atStart => exact ⟨0, Nat.zero_le _, rfl, h0⟩
  case round =>
    obtain ⟨i, hi, rfl, hJ⟩ := hrel
    obtain ⟨-, hTL⟩ := HG.out i wr hJ
    by_cases hlt : i < n
    · have i1 : (i : Int) < (n : Int) := by omega
      have i0 : (0 : Int) ≤ (i : Int) := by omega
      have k4 : IntKind.i64.wrap ((i : Int) + 1) = ((i + 1 : Nat) : Int) := by have := HN.out; rw [IntWalk.i64_in _ (by omega)]; omega
      obtain ⟨b, off, e, hrg⟩ := hTL i hlt
      subst e
      obtain ⟨ni, hni⟩ : ∃ q, N i = q := ⟨_, rfl⟩
      obtain ⟨F, hF⟩ : ∃ q, (rowC 32 (S i)).toArray = q := ⟨_, rfl⟩
      have HE : Hid (EKr N S i = #[.int .u32 (ni : Int), .agg F]) := Lib.hid (by unfold EKr; rw [hni, hF])
      rw [hni] at hrg
      obtain ⟨C, hC⟩ : ∃ q, (tmL ni (S i)).toArray = q := ⟨_, rfl⟩
      have HSZ : Hid (C.size = 33) := Lib.hid (by rw [← hC]; exact tm_size _ _)
      have HON : Hid (C.all (·.oneCell') = true) := Lib.hid (by rw [← hC]; exact tm_one _ _)
      have HIS : Hid ((Tryz.prog.info? 37).map (·.size) = some C.size) := Lib.hid (by rw [HSZ.out]; exact info_t1)
      have HIF : Hid ((Tryz.prog.info? 22).map (·.size) = some F.size) := Lib.hid (by rw [← hF, List.size_toArray, rowC_len]; exact info_a32)
      have HRG : Hid (wr.rangeAt b (off + i * 33) C.toList) := Lib.hid (by rw [← hC]; exact hrg)
      obtain ⟨b4, hqb4⟩ : ∃ y, wr.heap.size = y := ⟨_, rfl⟩
      obtain ⟨wz4, hwz4⟩ : ∃ y, wr.alloc (.cells zeroT 37) = y := ⟨_, rfl⟩
      have hbz : Below wr.heap.size wr wz4 := by rw [← hwz4]; exact (Below.refl _ _).alloc (Nat.le_refl _) _
      have hXz : Blk wz4 b4 zeroT 37 := by rw [← hwz4, ← hqb4]; exact Blk.new _ _ _
      have HTZb4 : Hid (wz4.there b4 0 C.size) := Lib.hid (hXz.there (by rw [zeroT_size, HSZ.out]; exact Nat.le_refl _))
      obtain ⟨w5, hw5⟩ : ∃ y, wz4.setCells b4 0 C.toList = y := ⟨_, rfl⟩
      have hOz : Own b4 wz4 w5 := by rw [← hw5]; exact Own.setCells _ _ _
      have HBw5 : Hid (Below wr.heap.size wr w5) := Lib.hid (hbz.trans (hOz.below (by omega) hbz.size))
      have HNw5 : Hid (Blk w5 b4 C 37) := Lib.hid (by rw [← hw5]; exact Blk.setCells hXz C.toList (by rw [zeroT_size, Array.length_toList]; exact HSZ.out))
      have HWw5 := Lib.hid hw5
      clear hbz hXz hOz hw5
      have c4 : w5.cell? ⟨b4, 0, none⟩ = some (.int .u32 (ni : Int)) := by have h9 := HNw5.out; rw [← hC] at h9; exact tm_cell0 h9
      have HRF : Hid (w5.rangeAt b4 1 F.toList) := Lib.hid (by have h9 := HNw5.out; rw [← hC] at h9; rw [← hF]; exact tm_key h9)
      have HJ1 := Lib.hid (HR.out i wr w5 hlt hJ HBw5.out)
      have HL := Lib.hid hlt
      clear hC hrg hF hni hTL hJ h0 hlt hi
      go_upto_region 3 with (first | (refine wpList_value rfl (exec_loadA (x := .tmp 10) (C := C) rfl rfl HRG.out Tryz.underlying37 rfl HIS.out) ?_) | (refine wpList_zero rfl rfl zero_t1 ?_; rw [hwz4, hqb4]; (try simp only [Act.put, List.setIfInBounds_toArray, List.set_cons_zero, List.set_cons_succ])) | (refine wpList_store_mid rfl 37 (.tmp 4) (.tmp 11) rfl b4 0 C rfl rfl HTZb4.out HIS.out HON.out ?_; rw [HWw5.out]))
      obtain ⟨fn, tmps, assign, body, hy, hRd⟩ := HY.out i w5 HL.out HJ1.out
      have HRD := Lib.hid hRd
      clear hRd
      rw [HE.out] at hy
      refine (wpIn_wide (n := 0)).1 ?_
      gi_wp2_with (refine listIn_val (r := none) rfl (fun c e => by cases e) (exec_loadA (x := .tmp 15) (C := F) rfl rfl HRF.out Tryz.underlying22 rfl HIF.out) ?_)
      refine ⟨rfl, ?_⟩
      refine HRD.out.mono ?_
      rintro e W' (⟨rfl, hJ2⟩ | ⟨rfl, hJx⟩)
      · gi_wp2
        clear hy
        go_wp2_with fail
        go_roundw
        case rel => exact ⟨i + 1, HL.out, by first | rfl | go_num, hJ2⟩
        case measure => have := HL.out; simp [intOf]; omega
      · gi_wp2
        clear hy
        go_wp2_with fail
        refine bodyPost_ret (results_none rfl _ _ _) rfl ?_
        exact ⟨⟨_, rfl⟩, .inr hJx⟩
    · obtain rfl : n = i := by omega
      have i1 : ¬ (n : Int) < (n : Int) := by omega
      have HJ := Lib.hid hJ
      clear hJ h0 hTL
      go_wp2_with fail
      go_end0
      exact ⟨⟨_, rfl⟩, .inl HJ.out⟩
end Go.Proofs.YtncfocjmdecapaaGreatDoor
namespace Go.Proofs.YtncfocjmdecapaaGreatDoor
set_option linter.unusedVariables false
set_option linter.unusedSimpArgs false
open Go.RowKit
theorem wp_rangeS {P : Program} {g : Operand} {ps : Array Tmp} {assign body : Code} {Q : Exit → Act → World → Prop} {a : Act} {w : World}
    {gf : Nat} {lb : Array Value} {E : Nat → Array Value} {N : Nat} {R : Nat → World → World → Prop} {G : Nat → World → Prop}
    (hg : a.eval g = .func (.func gf) #[] lb) (eg : ∀ args w, (callFunc gf args).run P w = .ok (.enter gf args) w)
    (hseq : Seq P gf lb E N R G) (hps : ∀ i, (E i).size = ps.size)
    (I I' : Nat → World → Prop) (Ix : Code → World → Prop)
    (hG : ∀ i A, I i A → G i A) (hId : ∀ i A, I i A → I i A.drew) (hIxd : ∀ c A, Ix c A → Ix c A.drew)
    (hR : ∀ i A B, i < N → I i A → R i A B → I' i B) (hRk : ∀ i A B, I i A → R i A B → Keeps w.heap.size A B)
    (hIt : ∀ i A B, Turned w.heap.size A B → I i A → I i B) (hIt' : ∀ i A B, Turned w.heap.size A B → I' i A → I' i B) (hIxt : ∀ c A B, Turned w.heap.size A B → Ix c A → Ix c B)
    (h0 : ∀ A, Below w.heap.size w A → A.heap.size = w.heap.size + 2 → I 0 A)
    (I2 : Nat → Act → World → Prop) (hIt2 : ∀ i a A B, Turned w.heap.size A B → I2 i a A → I2 i a B)
    (hassign : ∀ (l i : Nat) (W : World) (K : Act → World → Prop), w.heap.size < l → i < N → I' i W → (∀ a' W', Keeps w.heap.size W W' → I2 i a' W' → K a' W') →
      assign.wpIn (Wd (some l)) 0 P (Exit.then K (fun _ _ _ => False)) { tmps := (ps.zip (E i)).foldl (fun t (p, v) => t.setIfInBounds p v) a.tmps, defers := [] } W)
    (hbody : ∀ (l i : Nat) (a' : Act) (W : World), w.heap.size < l → i < N → I2 i a' W → body.wpIn (Wd (some l)) 0 P (roundPostR w.heap.size (I (i + 1)) Ix W) a' W)
    (hdone : ∀ (D : Nat) (W : World), w.heap.size ≤ D → I N W → W.heap[D]? = some (.deferred (some [])) → Q .normal { a with defers := { target := .collected D, args := #[] } :: a.defers } W)
    (hstop : ∀ (D : Nat) (c : Code) (W : World), w.heap.size ≤ D → Ix c W → W.heap[D]? = some (.deferred (some [])) → c.wp P Q { a with defers := { target := .collected D, args := #[] } :: a.defers } W) :
    (Code.rangeFunc g ps assign body).wp P Q a w := by
  refine (wpIn_wide (n := 0)).1 (wpIn_rangeFunc ?_)
  intro fn _
  rw [show Fence.wide.round = none from rfl]
  obtain ⟨rec, hrec⟩ : ∃ rec : LoopState → Option Code → Loop, rec = fun st pe => { state := st, pending := pe, fn, tmps := a.tmps, params := ps, assign, body, defers := w.heap.size } := ⟨_, rfl⟩
  obtain ⟨W1, hW1⟩ : ∃ W1, (w.alloc (.deferred (some []))).alloc (.loop (rec .ready none)) = W1 := ⟨_, rfl⟩
  have hL1 : W1.heap[w.heap.size + 1]? = some (.loop (rec .ready none)) := by
    rw [← hW1]; have := World.alloc_heap_new (w.alloc (.deferred (some []))) (.loop (rec .ready none)); rwa [World.size_alloc] at this
  have hK1 : W1.heap[w.heap.size]? = some (.deferred (some [])) := by
    rw [← hW1]; exact (Below.heap_alloc _ _ _ (by simp)).trans (World.alloc_heap_new w _)
  have hI1 : I 0 W1 := h0 W1 (by rw [← hW1]; exact ((Below.refl _ w).alloc (Nat.le_refl _) _).alloc (by simp) _) (by rw [← hW1]; simp)
  have turn : ∀ {A : World} {o : Obj} (o' : Obj), A.heap[w.heap.size + 1]? = some o → o.isCells = false → o'.isCells = false → Turned w.heap.size A (A.putObj (w.heap.size + 1) o') :=
    fun o' h1 h2 h3 => ⟨_, _, o', Nat.le_succ _, h1, h2, h3, rfl⟩
  refine ⟨w.heap.size + 1, [{ target := .collected w.heap.size, args := #[] }], W1, { target := .fn (.func gf) lb, args := #[.func (.yield (w.heap.size + 1)) #[] #[]] }, W1, gf,
    #[.func (.yield (w.heap.size + 1)) #[] #[]] ++ lb, W1, ?_, ?_, fun _ _ => trivial, ?_, fun e => (nomatch e), ?_⟩
  · rw [← hW1, hrec]; exact run_enterLoop_outer _ _ _ _ _
  · simp only [resolve, hg]
    simp [go_sem]
  · simp [invoke, go_sem, eg]
  refine calls_wd (r := none) (n := 0 - 1) ((hseq (w.heap.size + 1)
    (fun i W => I i W ∧ W.heap[w.heap.size + 1]? = some (.loop (rec .ready none)) ∧ W.heap[w.heap.size]? = some (.deferred (some [])))
    (fun i W => I' i W ∧ W.heap[w.heap.size + 1]? = some (.loop (rec .ready none)) ∧ W.heap[w.heap.size]? = some (.deferred (some [])))
    (fun W => ∃ c, Ix c W ∧ W.heap[w.heap.size + 1]? = some (.loop (rec .done (some c))) ∧ W.heap[w.heap.size]? = some (.deferred (some [])))
    W1 (fun i A h => hG i A h.1) (fun i A h => ⟨hId i A h.1, h.2⟩) (fun A ⟨c, h1, h2⟩ => ⟨c, hIxd c A h1, h2⟩)
    (fun i A B hi h hr => ⟨hR i A B hi h.1 hr, (hRk i A B h.1 hr).same _ _ (Nat.le_succ _) h.2.1 rfl, (hRk i A B h.1 hr).same _ _ (Nat.le_refl _) h.2.2 rfl⟩)
    ?_ ⟨hI1, hL1, hK1⟩).mono ?_)
  · rintro i W hi ⟨hin, hl, hk⟩
    have hlt : w.heap.size + 1 < W.heap.size := (Array.getElem?_eq_some_iff.1 hl).1
    have hy := run_yield (P := P) (args := E i) hl (by rw [hrec]; exact hps i)
    rw [hrec] at hy
    refine ⟨fn, _, assign, body, hy, roundIn_of_wpIn (F := Wd none) trivial (hassign _ i W _ (Nat.lt_succ_self _) hi hin (fun a' W' hkeep hin2 => ?_))⟩
    clear hy
    replace hl := hkeep.same _ _ (Nat.le_succ _) hl rfl
    replace hk := hkeep.same _ _ (Nat.le_refl _) hk rfl
    have hlt : w.heap.size + 1 < W'.heap.size := (Array.getElem?_eq_some_iff.1 hl).1
    refine ⟨_, run_beginRound hl (by rw [hrec]), ?_⟩
    have hl2 : (W'.putObj (w.heap.size + 1) (.loop { rec .ready none with state := .busy })).heap[w.heap.size + 1]? = some (.loop { rec .ready none with state := .busy }) := World.putObj_heap_same hlt
    have hk2 : (W'.putObj (w.heap.size + 1) (.loop { rec .ready none with state := .busy })).heap[w.heap.size]? = some (.deferred (some [])) := (World.putObj_heap_other (by omega)).trans hk
    refine wpIn_mono (hbody _ i a' _ (Nat.lt_succ_self _) hi (hIt2 i a' _ _ (turn _ hl rfl rfl) hin2)) ?_
    have fin : ∀ (jump : Option Code) (W3 : World), Keeps w.heap.size (W'.putObj (w.heap.size + 1) (.loop { rec .ready none with state := .busy })) W3 →
        (Instr.endRound (w.heap.size + 1) jump).run P W3 = .ok (.bool jump.isNone) (W3.putObj (w.heap.size + 1) (.loop (rec (if jump.isNone then .ready else .done) jump))) ∧
        Turned w.heap.size W3 (W3.putObj (w.heap.size + 1) (.loop (rec (if jump.isNone then .ready else .done) jump))) ∧
        (W3.putObj (w.heap.size + 1) (.loop (rec (if jump.isNone then .ready else .done) jump))).heap[w.heap.size + 1]? = some (.loop (rec (if jump.isNone then .ready else .done) jump)) ∧
        (W3.putObj (w.heap.size + 1) (.loop (rec (if jump.isNone then .ready else .done) jump))).heap[w.heap.size]? = some (.deferred (some [])) := fun jump W3 hk3 => by
      have hl3 := hk3.same _ _ (Nat.le_succ _) hl2 rfl
      have := run_endRound (P := P) jump hl3
      rw [hrec] at this ⊢
      exact ⟨this, turn _ hl3 rfl rfl, World.putObj_heap_same (Array.getElem?_eq_some_iff.1 hl3).1, (World.putObj_heap_other (by omega)).trans (hk3.same _ _ (Nat.le_refl _) hk2 rfl)⟩
    rintro e a3 W3 hp
    cases e with
    | normal =>
      obtain ⟨hr, ht, hl4, hk4⟩ := fin none W3 hp.1
      exact ⟨_, _, hr, .inl ⟨rfl, hIt _ _ _ ht hp.2, hl4, hk4⟩⟩
    | ret =>
      obtain ⟨hr, ht, hl4, hk4⟩ := fin (some .ret) W3 hp.1
      exact ⟨_, _, hr, .inr ⟨rfl, .ret, hIxt _ _ _ ht hp.2, hl4, hk4⟩⟩
    | exit id =>
      obtain ⟨hr, ht, hl4, hk4⟩ := fin (some (.exit id)) W3 hp.1
      exact ⟨_, _, hr, .inr ⟨rfl, .exit id, hIxt _ _ _ ht hp.2, hl4, hk4⟩⟩
    | goto t =>
      obtain ⟨hr, ht, hl4, hk4⟩ := fin (some (.goto t)) W3 hp.1
      exact ⟨_, _, hr, .inr ⟨rfl, .goto t, hIxt _ _ _ ht hp.2, hl4, hk4⟩⟩
    | panic ch => exact hp.elim
    | outgrown => exact hp.elim
  · rintro e W2 ⟨⟨v, rfl⟩, (⟨hi, hl, hk⟩ | ⟨c, hi, hl, hk⟩)⟩
    · refine ⟨none, _, by have := run_endLoop (P := P) hl (by rw [hrec]; simp); rw [hrec] at this; exact this, ?_⟩
      exact hdone _ _ (Nat.le_refl _) (hIt _ _ _ (turn _ hl rfl rfl) hi) ((World.putObj_heap_other (by omega)).trans hk)
    · refine ⟨some c, _, by have := run_endLoop (P := P) hl (by rw [hrec]; simp); rw [hrec] at this; exact this, ?_⟩
      exact wpIn_wide.2 (hstop _ c _ (Nat.le_refl _) (hIxt _ _ _ (turn _ hl rfl rfl) hi) ((World.putObj_heap_other (by omega)).trans hk))

end Go.Proofs.YtncfocjmdecapaaGreatDoor
