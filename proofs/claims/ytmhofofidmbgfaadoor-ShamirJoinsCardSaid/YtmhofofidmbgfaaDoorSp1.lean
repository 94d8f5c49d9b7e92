/- Parts of the call's own: a row of structs, each with a row of bytes behind it. -/
import Derived.Test.YtmhofofidmbgfaaDoorSmR
import Derived.Test.YtmhofofidmbgfaaDoorPoHlp
import Derived.Test.YtmhofofidmbgfaaDoorSetC
import Derived.Deep.MidRow
import Derived.Lib.Hide
import Derived.Outline
import Derived.RegionTactic
namespace Go.Proofs.YtmhofofidmbgfaaDoor
set_option linter.unusedVariables false
set_option linter.unusedSimpArgs false
open Go.RowKit

theorem info_share : (Tryd.prog.info? 52).map (fun i => (i.zero, i.size, i.bytes)) = some (some (.agg #[.int .u8 0, .int .u32 0, .slice none 0 0]), 3, 32) := by kernel_rfl
theorem info_share3 : (Tryd.prog.info? 52).map (·.size) = some 3 := by kernel_rfl
def zsh : List Value := [.int .u8 0, .int .u32 0, .slice none 0 0]
theorem made3 (N : Nat) (a b c : Value) : madeCells #[a, b, c] (N * 3) = (rws N (fun _ => [a, b, c])).toArray := by
  have hl : (rws N (fun _ => [a, b, c])).length = N * 3 := rws_len (k := 3) (C := fun _ => [a, b, c]) fun _ _ => rfl
  refine Array.ext_getElem? fun j => ?_
  by_cases hj : j < N * 3
  · have e := rws_get (k := 3) (C := fun _ => [a, b, c]) (n := N) (fun _ _ => rfl) (i := j / 3) (j := j % 3) (by omega) (Nat.mod_lt _ (by decide))
    rw [show j / 3 * 3 + j % 3 = j by omega] at e
    have h1 : (madeCells #[a, b, c] (N * 3))[j]? = some ((#[a, b, c] : Array Value)[j % 3]!) := by
      rw [Array.getElem?_eq_getElem (by rw [size_madeCells]; exact hj)]; simp [madeCells]
    rw [h1, List.getElem?_toArray, e]
    have h3 := Nat.mod_lt j (show 0 < 3 by decide)
    clear e h1
    obtain ⟨r, hr⟩ : ∃ r, j % 3 = r := ⟨_, rfl⟩
    rw [hr] at h3 ⊢
    match r, h3 with
    | 0, _ => rfl
    | 1, _ => rfl
    | 2, _ => rfl
  · rw [Array.getElem?_eq_none (by rw [size_madeCells]; omega), Array.getElem?_eq_none (by rw [List.size_toArray, hl]; omega)]
theorem make_shares (N : Nat) (hN : N ≤ 255) (w : World) : (Instr.makeSlice 29 (.int .i64 (N : Int)) (.int .i64 (N : Int))).run Tryd.prog w = .ok (.slice (some ⟨w.heap.size, 0, none⟩) N N) (w.alloc (.cells (rws N (fun _ => zsh)).toArray 52)) := by
  obtain ⟨i0, hi, hz0, hz1, hz2⟩ := info_parts info_share
  have h := run_make (P := Tryd.prog) w 29 52 i0 _ Tryd.underlying29 hi hz0 .i64 .i64 (N : Int) (N : Int) (by omega) (Int.le_refl _) (by rw [hz2]; omega) (by omega)
  rw [Int.toNat_natCast, hz1, show (Value.agg #[.int .u8 0, .int .u32 0, .slice none 0 0]).cells = #[.int .u8 0, .int .u32 0, .slice none 0 0] from rfl, made3] at h
  exact h
theorem wpList_mkS {ops : Array Oper} {rest : List Oper} {o : Oper} {a : Act} {w : World} {Q : Exit → Act → World → Prop} (hgd : o.guard = none) (x y : Operand) (ho : o.op = .makeSlice 29 x y) (N : Nat) (hx : a.eval x = .int .i64 (N : Int)) (hy : a.eval y = .int .i64 (N : Int)) (hN : N ≤ 255)
    (h : wpList Tryd.prog ops Q rest (a.put o.dst (.slice (some ⟨w.heap.size, 0, none⟩) N N)) (w.alloc (.cells (rws N (fun _ => zsh)).toArray 52))) : wpList Tryd.prog ops Q (o :: rest) a w := by
  refine wpList_plain hgd fun K hK => ?_
  have hrun := make_shares N hN w
  unfold Oper.wp
  simp [execOp, ho, hx, hy, hrun, Result.andThen]
  exact hK _ _ h
theorem step_storeM {ops : Array Oper} {o : Oper} {a : Act} {w : World} {K : Act → World → Prop} {Q : Exit → Act → World → Prop} {E : Prop} (hgd : o.guard = none) (ty : TypeId) (x y : Operand) (ho : o.op = .store ty x y) (b off : Nat) (cells : Array Value) (hx : a.eval x = .pointer (some ⟨b, off, none⟩)) (hy : a.eval y = .agg cells)
    (ht : w.there b off cells.size) (hi : (Tryd.prog.info? ty).map (·.size) = some cells.size) (h1 : cells.all (·.oneCell') = true) (h : K (a.put o.dst undef) (w.setCells b off cells.toList)) : if Region.wanted o (yielded ops a.tmps) = true then Oper.wp Tryd.prog o a w K Q else E := by
  have hw : Region.wanted o (yielded ops a.tmps) = true := by simp [Region.wanted, hgd]
  rw [if_pos hw]
  exact wp_store_mid ty x y ho b off cells hx hy ht hi h1 h
theorem rws_set3 {N i : Nat} {C : Nat → List Value} (hC : ∀ i, i < N → (C i).length = 3) (hi : i < N) (a b c : Value) : (((rws N C).set (i * 3) a).set (i * 3 + 1) b).set (i * 3 + 1 + 1) c = rws N (fun q => if q = i then [a, b, c] else C q) := by
  have h0 := rws_set (j := 0) (v := a) hC hi (by decide)
  have hC1 : ∀ q, q < N → ((fun q => if q = i then (C i).set 0 a else C q) q).length = 3 := fun q hq => by
    show (if q = i then (C i).set 0 a else C q).length = 3
    split
    · rw [List.length_set]; exact hC i hi
    · exact hC q hq
  have h1 := rws_set (j := 1) (v := b) hC1 hi (by decide)
  have hC2 : ∀ q, q < N → ((fun q => if q = i then ((fun q => if q = i then (C i).set 0 a else C q) i).set 1 b else (fun q => if q = i then (C i).set 0 a else C q) q) q).length = 3 := fun q hq => by
    show (if q = i then ((if i = i then (C i).set 0 a else C i)).set 1 b else (if q = i then (C i).set 0 a else C q)).length = 3
    rw [if_pos rfl]
    split
    · rw [List.length_set, List.length_set]; exact hC i hi
    · exact hC q hq
  have h2 := rws_set (j := 2) (v := c) hC2 hi (by decide)
  rw [Nat.add_zero] at h0
  rw [h0, h1, show i * 3 + 1 + 1 = i * 3 + 2 by omega, h2]
  refine rws_congr fun q hq => ?_
  by_cases e : q = i
  · subst e
    simp only [if_true]
    have hl := hC q hq
    match hc : C q, hl with
    | [x, y, z], _ => rfl
  · simp only [if_neg e]
theorem Blk.thereM {w : World} {b o n : Nat} {D : Array Value} {t : TypeId} (h : Blk w b D t) (hn : o + n ≤ D.size) : w.there b o n := fun j hj => by
  rw [Blk.cell h, Blk.free h, Array.getElem?_eq_getElem (by omega)]
  exact ⟨rfl, rfl⟩
/-- One part of three cells, in the middle of a row. -/
theorem Blk.set3 {w : World} {b N i : Nat} {C : Nat → List Value} {t : TypeId} (h : Blk w b (rws N C).toArray t) (hC : ∀ i, i < N → (C i).length = 3) (hi : i < N) (x y z : Value) : Blk (w.setCells b (i * 3) [x, y, z]) b (rws N (fun q => if q = i then [x, y, z] else C q)).toArray t := by
  have h3 := ((h.set (i * 3) x).set (i * 3 + 1) y).set (i * 3 + 1 + 1) z
  rw [List.setIfInBounds_toArray, List.setIfInBounds_toArray, List.setIfInBounds_toArray, rws_set3 hC hi] at h3
  exact h3
theorem rws_size3 {N : Nat} {C : Nat → List Value} (hC : ∀ i, i < N → (C i).length = 3) : (rws N C).toArray.size = N * 3 := by
  rw [List.size_toArray, rws_len hC]

/-- The cells of part x of a row at H, as Split lays it. -/
def shC (gen H L : Nat) (x : Nat) : List Value := [.int .u8 ((x : Int) + 1), .int .u32 (gen : Int), .slice (some ⟨H + 1 + x, 0, none⟩) L L]
/-- The first i of them, noughts behind. -/
def mkC (gen H L i : Nat) (x : Nat) : List Value := if x < i then shC gen H L x else zsh
theorem mkC_len (gen H L i x : Nat) : (mkC gen H L i x).length = 3 := by unfold mkC; split <;> rfl
theorem mkC_step (gen H L i : Nat) : (fun q => if q = i then shC gen H L i else mkC gen H L i q) = mkC gen H L (i + 1) := by
  funext q
  unfold mkC
  by_cases e : q = i
  · subst e; rw [if_pos rfl, if_pos (by omega)]
  · rw [if_neg e]
    by_cases h : q < i
    · rw [if_pos h, if_pos (by omega)]
    · rw [if_neg h, if_neg (by omega)]
theorem shC_len (gen H L x : Nat) : (shC gen H L x).length = 3 := rfl
/-- The row under way: the first i parts, each with a row of noughts. -/
structure SM (wA : World) (N L gen i : Nat) (w : World) : Prop where
  blk : Blk w wA.heap.size (rws N (mkC gen wA.heap.size L i)).toArray 52
  rows : ∀ x, x < i → Row w (wA.heap.size + 1 + x) L (fun _ => 0)
  size : w.heap.size = wA.heap.size + 1 + i
  bel : Below wA.heap.size wA w
theorem SM.start (wA : World) (N L gen : Nat) : SM wA N L gen 0 (wA.alloc (.cells (rws N (fun _ => zsh)).toArray 52)) :=
  ⟨by have := Blk.new wA (rws N (fun _ => zsh)).toArray 52; rw [show (fun _ => zsh) = mkC gen wA.heap.size L 0 from by funext x; unfold mkC; rw [if_neg (Nat.not_lt_zero _)]] at this ⊢; exact this,
    fun x hx => absurd hx (Nat.not_lt_zero _), by simp, (Below.refl _ _).alloc (Nat.le_refl _) _⟩
theorem SM.drew {wA w : World} {N L gen i : Nat} (h : SM wA N L gen i w) : SM wA N L gen i w.drew := ⟨h.blk, h.rows, h.size, ⟨h.bel.os, h.bel.tape, h.bel.output, h.bel.size, h.bel.block⟩⟩
theorem SM.next {wA w : World} {N L gen i : Nat} (h : SM wA N L gen i w) (hi : i < N) : SM wA N L gen (i + 1) ((w.alloc (.cells (rowC L (fun _ => 0)).toArray 5)).setCells wA.heap.size (i * 3) (shC gen wA.heap.size L i)) := by
  have hb : Below w.heap.size w (w.alloc (.cells (rowC L (fun _ => 0)).toArray 5)) := (Below.refl _ _).alloc (Nat.le_refl _) _
  have hB := (Blk.below h.blk hb (Blk.lt h.blk)).set3 (fun _ _ => mkC_len _ _ _ _ _) hi (.int .u8 ((i : Int) + 1)) (.int .u32 (gen : Int)) (.slice (some ⟨wA.heap.size + 1 + i, 0, none⟩) L L)
  have hO : Own wA.heap.size (w.alloc (.cells (rowC L (fun _ => 0)).toArray 5)) _ := Own.setCells (b := wA.heap.size) (shC gen wA.heap.size L i) (i * 3) _
  refine ⟨?_, fun x hx => ?_, ?_, ?_⟩
  · rw [← mkC_step]; exact hB
  · by_cases e : x = i
    · subst e
      have := (row_new w L (fun _ => 0)).own hO (by rw [h.size]; omega)
      rw [h.size] at this; exact this
    · exact ((h.rows x (by omega)).later hb).own hO (by omega)
  · have h1 : (World.setCells (w.alloc (.cells (rowC L (fun _ => 0)).toArray 5)) wA.heap.size (i * 3) (shC gen wA.heap.size L i)).heap.size = (w.alloc (.cells (rowC L (fun _ => 0)).toArray 5)).heap.size := by
      show ((((w.alloc _).setCell _ _).setCell _ _).setCell _ _).heap.size = _
      simp [World.setCell]
    rw [h1]; simp; rw [h.size]; omega
  · exact h.bel.trans (((hb.mono (by rw [h.size]; omega)).trans (hO.below (Nat.le_refl _) (by simp; rw [h.size]; omega))))
/-- The row, each part with its bytes. -/
structure SR (tb : Nat) (wA : World) (N L gen : Nat) (F : Nat → Nat → Nat) (w : World) : Prop where
  blk : Blk w wA.heap.size (rws N (shC gen wA.heap.size L)).toArray 52
  rows : ∀ x, x < N → Row w (wA.heap.size + 1 + x) L (F x)
  big : wA.heap.size + 1 + N ≤ w.heap.size
  tab : TabIn w tb
  own : Own tb wA w
  low : tb < wA.heap.size
theorem SR.of_made {tb : Nat} {wA w : World} {N L gen : Nat} (h : SM wA N L gen N w) (hT : TabIn wA tb) : SR tb wA N L gen (fun _ _ => 0) w :=
  ⟨by have := h.blk; rw [rws_congr (D := shC gen wA.heap.size L) fun x hx => by unfold mkC; rw [if_pos hx]] at this; exact this, h.rows, Nat.le_of_eq h.size.symm, hT.below h.bel, Own.of_below h.bel, hT.lt⟩
theorem SR.later {tb : Nat} {wA w w' : World} {N L gen : Nat} {F : Nat → Nat → Nat} (h : SR tb wA N L gen F w) (hb : Below w.heap.size w w') : SR tb wA N L gen F w' :=
  ⟨Blk.below h.blk hb (Blk.lt h.blk), fun x hx => (h.rows x hx).later hb, Nat.le_trans h.big hb.size, h.tab.below hb, h.own.trans (Own.of_below hb), h.low⟩
theorem SR.left {tb : Nat} {wA w w' : World} {N L gen : Nat} {F : Nat → Nat → Nat} (h : SR tb wA N L gen F w) (hl : Left tb w w') : SR tb wA N L gen F w' :=
  ⟨hl.2.blk h.blk (by have := h.low; omega), fun x hx => (h.rows x hx).own hl.2 (by have := h.low; omega), Nat.le_trans h.big hl.2.size, hl.1, h.own.trans hl.2, h.low⟩
theorem SR.drew {tb : Nat} {wA w : World} {N L gen : Nat} {F : Nat → Nat → Nat} (h : SR tb wA N L gen F w) : SR tb wA N L gen F w.drew := ⟨h.blk, h.rows, h.big, h.tab, h.own.drew, h.low⟩
theorem SR.alloc {tb : Nat} {wA w : World} {N L gen : Nat} {F : Nat → Nat → Nat} (h : SR tb wA N L gen F w) (o : Obj) : SR tb wA N L gen F (w.alloc o) := h.later ((Below.refl _ _).alloc (Nat.le_refl _) _)
/-- One byte of one part. -/
def updS (F : Nat → Nat → Nat) (x j v : Nat) : Nat → Nat → Nat := fun y => if y = x then upd (F x) j v else F y
theorem SR.set {tb : Nat} {wA w : World} {N L gen : Nat} {F : Nat → Nat → Nat} (h : SR tb wA N L gen F w) {x : Nat} (hx : x < N) (j v : Nat) : SR tb wA N L gen (updS F x j v) (w.setCell ⟨wA.heap.size + 1 + x, j, none⟩ (.int .u8 (v : Nat))) := by
  have hO : Own (wA.heap.size + 1 + x) w (w.setCell ⟨wA.heap.size + 1 + x, j, none⟩ (.int .u8 (v : Nat))) := (Own.refl _ _).set j _
  refine ⟨hO.blk h.blk (by omega), fun y hy => ?_, Nat.le_trans h.big hO.size, h.tab.own hO (by have := h.low; omega), ?_, h.low⟩
  · unfold updS
    by_cases e : y = x
    · subst e; rw [if_pos rfl]; exact (h.rows y hy).set j v
    · rw [if_neg e]; exact (h.rows y hy).own hO (by omega)
  · exact ⟨hO.os.trans h.own.os, hO.tape.trans h.own.tape, hO.output.trans h.own.output, Nat.le_trans h.own.size hO.size, fun k hk hn => (hO.block k (by have := h.own.size; omega) (by omega)).trans (h.own.block k hk hn)⟩
theorem SR.congr {tb : Nat} {wA w : World} {N L gen : Nat} {F G : Nat → Nat → Nat} (h : SR tb wA N L gen F w) (he : ∀ x j, x < N → j < L → F x j = G x j) : SR tb wA N L gen G w :=
  ⟨h.blk, fun x hx => (h.rows x hx).congr fun j hj => he x j hx hj, h.big, h.tab, h.own, h.low⟩
theorem SR.cells {tb : Nat} {wA w : World} {N L gen : Nat} {F : Nat → Nat → Nat} (h : SR tb wA N L gen F w) {i : Nat} (hi : i < N) : w.cell? ⟨wA.heap.size, i * 3, none⟩ = some (.int .u8 ((i + 1 : Nat) : Int)) ∧ w.cell? ⟨wA.heap.size, i * 3 + 1, none⟩ = some (.int .u32 (gen : Int)) ∧ w.cell? ⟨wA.heap.size, i * 3 + 2, none⟩ = some (.slice (some ⟨wA.heap.size + 1 + i, 0, none⟩) L L) := by
  have g := fun j (hj : j < 3) => rws_get (k := 3) (C := shC gen wA.heap.size L) (fun _ _ => rfl) hi hj
  exact ⟨by rw [Blk.cell h.blk, List.getElem?_toArray]; exact g 0 (by omega), by rw [Blk.cell h.blk, List.getElem?_toArray]; exact g 1 (by omega), by rw [Blk.cell h.blk, List.getElem?_toArray]; exact g 2 (by omega)⟩
/-- They are parts. -/
theorem SR.shs {tb : Nat} {wA w : World} {N L gen : Nat} {F : Nat → Nat → Nat} (h : SR tb wA N L gen F w) (hF : ∀ x j, x < N → j < L → F x j < 256) (hL : L ≤ maxLen) : Shs tb w (some ⟨wA.heap.size, 0, none⟩) N (fun x => ⟨x + 1, gen, L, F x⟩) := fun i hi => by
  obtain ⟨c0, c1, c2⟩ := h.cells hi
  have hlo := h.low
  refine ⟨wA.heap.size, 0, _, rfl, by omega, ⟨some ⟨wA.heap.size + 1 + i, 0, none⟩, L, rfl, (h.rows i hi).bytes fun j hj => hF i j hi hj, (fun e => by cases e), Nat.le_refl _, hL, Apart.of_ne (by omega)⟩, fun j hj => ?_⟩
  rw [Nat.zero_add]
  match j, hj with
  | 0, _ => exact c0
  | 1, _ => exact c1
  | 2, _ => exact c2
end Go.Proofs.YtmhofofidmbgfaaDoor
