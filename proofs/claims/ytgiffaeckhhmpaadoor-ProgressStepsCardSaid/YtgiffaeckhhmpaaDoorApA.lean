/- How rows of bytes that came in read, for walks. Rows of bytes in a block of their own: made, written, read. A row of bytes of the call's own that grows by append. Rows of the call's own, told as strings; quiet calls. append of a row of bytes onto a row of the call's own. bytes.Clone. append of whatever row, onto a row of the call's own; make. Numbers with names: wraps, quotients, rests, as a walk meets them. A whole block stored over. The bytes of a string in a new row; append onto them. Rows of structs of the call's own, some cells each. -/
import Derived.Test.YtgiffaeckhhmpaaDoorGfA
import Derived.ProofKit
import Derived.OpenShut
import Derived.Below
import Derived.Lib.SmallJoins
import Derived.Test.YtgiffaeckhhmpaaDoorProg
import Derived.WalkKit
import Derived.Laws.OwnMore
import Derived.Laws.BytesArg
import Derived.OwnWalk
import Derived.Maps.AppendAt
import Derived.Deep.AppendLies
import Derived.Deep.QuietTactic
import Derived.BigQuiet
import Derived.WalkSpells
import Derived.Lib.LazyBuf
import Derived.Lib.Hide
import Derived.Deep.RegionHeld3
import Derived.Deep.OwnRows
import Derived.Deep.RegionLaw
import Derived.IntWalk
import Derived.Laws.Rows
import Derived.Deep.MidRow
import Derived.Laws.IdiomStrings
import Derived.Laws.IdiomCopy
namespace Go.Proofs.YtgiffaeckhhmpaaDoor
set_option linter.unusedVariables false
set_option linter.unusedSimpArgs false
open Go.ChangeShapes Go.WideShapes Go.ChangeAt Go.RowKit

/-- n bytes lie behind an address, as a function tells them. -/
def Bytes (w : World) (oa : Option Addr) (n : Nat) (f : Nat → Nat) : Prop :=
  ∀ k, k < n → f k < 256 ∧ ∃ b off, oa = some ⟨b, off, none⟩ ∧ w.cell? ⟨b, off + k, none⟩ = some (.int .u8 (f k))
theorem Bytes.mono {w : World} {oa : Option Addr} {n m : Nat} {f : Nat → Nat} (h : Bytes w oa n f) (hm : m ≤ n) : Bytes w oa m f := fun k hk => h k (by omega)
theorem Bytes.later {w w' : World} {oa : Option Addr} {n : Nat} {f : Nat → Nat} (h : Bytes w oa n f) (hb : Below w.heap.size w w') : Bytes w' oa n f := fun k hk => by
  obtain ⟨h1, b, off, h2, h3⟩ := h k hk
  exact ⟨h1, b, off, h2, cell_below hb h3⟩
theorem Bytes.alloc {w : World} {oa : Option Addr} {n : Nat} {f : Nat → Nat} (h : Bytes w oa n f) (o : Obj) : Bytes (w.alloc o) oa n f :=
  h.later ((Below.refl _ _).alloc (Nat.le_refl _) o)

theorem row_bytes {H : Type} {enc : TypeId × Value → H} {P : Program} {W : World} {base : Nat} {held : Bool} {T E : TypeId} {fuel : Nat} {cs : List Value} {x : DataW H × List MemPlace}
    (hT : P.underlying T = some (.slice E)) (hE : P.underlying E = some (.int .u8)) (hc : P.cellsOf E = 1)
    (h : DataW.trod enc P W base (fun _ => true) held fuel T cs = some x) :
    ∃ oa n cap f, cs = [.slice oa n cap] ∧ n ≤ cap ∧ cap ≤ maxLen ∧ Bytes W oa cap f := by
  rcases open_ints hT hE hc h with ⟨hcs, _⟩ | ⟨a, n, cap, zs, hcs, _, hl, hm, hz, _, hcell, hwz⟩
  · exact ⟨none, 0, 0, fun _ => 0, hcs, by omega, by unfold maxLen; omega, fun k hk => by omega⟩
  · refine ⟨some a, n, cap, fun k => (zs.getD k 0).toNat, hcs, hl, hm, fun k hk => ?_⟩
    have hzl : zs.length = cap := by simpa using hz
    have hk' : k < zs.length := by omega
    have h1 := hcell k hk'
    have h2 := hwz _ (List.getElem_mem hk')
    have e : zs.getD k 0 = zs[k] := by simp [List.getD, hk']
    rw [e] at h1
    have hb : 0 ≤ zs[k] ∧ zs[k] ≤ 255 := by
      simp [Lit.wf, IntKind.min, IntKind.max, IntKind.bits, IntKind.signed] at h2; omega
    obtain ⟨b, off, spot⟩ := a
    have hspot : spot = none := by simpa [Addr.add] using World.cell?_spot (hcell 0 (by omega))
    subst hspot
    refine ⟨by simp only [e]; omega, b, off, rfl, ?_⟩
    simp only [e]
    rw [show ((zs[k].toNat : Nat) : Int) = zs[k] from by omega]
    have ha : (Addr.mk b off none).add k = ⟨b, off + k, none⟩ := by
      unfold Addr.add; split
      · rename_i hk0; subst hk0; rfl
      · rfl
    rw [ha] at h1; exact h1

theorem okWide_arr' {P : Program} {w : World} {r : Reach} {base : Nat} {t : TypeId} {v : Value} {n : Nat} {e : TypeId} (ht : P.underlying t = some (.array n e)) (h : Value.okWide P w r base t v) : ∃ cs, v = .agg cs ∧ cs.size = P.cellsOf t := by
  simp only [Value.okWide, ht] at h
  obtain ⟨cs, h1, h2, _⟩ := h
  exact ⟨cs, h1, h2⟩
/-- An array of two integers. -/
theorem arr2_int {H : Type} {enc : TypeId × Value → H} {P : Program} {W : World} {r : Reach} {b0 base : Nat} {spare : Nat → Bool} {held : Bool} {T E : TypeId} {k : IntKind} {v : Value} {d : DataW H} {p : List MemPlace}
    (hT : P.underlying T = some (.array 2 E)) (hE : P.underlying E = some (.int k)) (cT : P.cellsOf T = 2) (cE : P.cellsOf E = 1)
    (hv : Value.okWide P W r b0 T v) (h : DataW.Trod enc P W base spare held T v d p) :
    ∃ x y, v = .agg #[.int k x, .int k y] ∧ (Lit.int k x).wf = true ∧ (Lit.int k y).wf = true := by
  obtain ⟨cs, rfl, hsz⟩ := okWide_arr' hT hv
  rw [cT] at hsz
  obtain ⟨r0, r1, rfl⟩ := Joins.array2 hsz
  obtain ⟨f, hf⟩ := h
  obtain ⟨xs, m, _, _, _, hn2, hel⟩ := DataW.trod_array hT hf
  have g0 := hel 0 (by omega)
  have g1 := hel 1 (by omega)
  rw [cE] at g0 g1
  have t0 : (List.take 1 (List.drop (0 * 1) (Value.agg #[r0, r1]).cells.toList)) = [r0] := rfl
  have t1 : (List.take 1 (List.drop (1 * 1) (Value.agg #[r0, r1]).cells.toList)) = [r1] := rfl
  rw [t0, show xs[0]? = some xs[0] from by simp [hn2]] at g0
  rw [t1, show xs[1]? = some xs[1] from by simp [hn2]] at g1
  obtain ⟨x, e1, _, w1⟩ := DataW.trod_int hE g0
  obtain ⟨y, e2, _, w2⟩ := DataW.trod_int hE g1
  simp at e1 e2
  subst e1 e2
  exact ⟨x, y, rfl, w1, w2⟩

/-- An integer that came in lies within its kind. -/
theorem bd_of_wf_u64 {n : Int} (h : (Lit.int .u64 n).wf = true) : 0 ≤ n ∧ n ≤ 18446744073709551615 := by
  simp [Lit.wf, IntKind.min, IntKind.max, IntKind.signed, IntKind.bits] at h; omega
theorem bd_of_wf_u32 {n : Int} (h : (Lit.int .u32 n).wf = true) : 0 ≤ n ∧ n ≤ 4294967295 := by
  simp [Lit.wf, IntKind.min, IntKind.max, IntKind.signed, IntKind.bits] at h; omega
theorem bd_of_wf_u16 {n : Int} (h : (Lit.int .u16 n).wf = true) : 0 ≤ n ∧ n ≤ 65535 := by
  simp [Lit.wf, IntKind.min, IntKind.max, IntKind.signed, IntKind.bits] at h; omega
theorem bd_of_wf_u8 {n : Int} (h : (Lit.int .u8 n).wf = true) : 0 ≤ n ∧ n ≤ 255 := by
  simp [Lit.wf, IntKind.min, IntKind.max, IntKind.signed, IntKind.bits] at h; omega
theorem bd_of_wf_i64 {n : Int} (h : (Lit.int .i64 n).wf = true) : -9223372036854775808 ≤ n ∧ n ≤ 9223372036854775807 := by
  simp [Lit.wf, IntKind.min, IntKind.max, IntKind.signed, IntKind.bits] at h; omega

end Go.Proofs.YtgiffaeckhhmpaaDoor
namespace Go.Proofs.YtgiffaeckhhmpaaDoor
set_option linter.unusedVariables false
set_option linter.unusedSimpArgs false
open Go.RowKit

/-- A row's cells, as a function tells them. -/
def rowC (n : Nat) (f : Nat → Nat) : List Value := (List.range n).map fun i => Value.int .u8 (f i : Nat)
/-- A function, turned at one place. -/
def upd (f : Nat → Nat) (k x : Nat) : Nat → Nat := fun i => if i = k then x else f i
theorem rowC_len (n : Nat) (f : Nat → Nat) : (rowC n f).length = n := by simp [rowC]
theorem rowC_get {n : Nat} (f : Nat → Nat) {i : Nat} (h : i < n) : (rowC n f)[i]? = some (.int .u8 (f i : Nat)) := by
  unfold rowC; rw [List.getElem?_map, List.getElem?_range h]; rfl
theorem rowC_set (n : Nat) (f : Nat → Nat) (k x : Nat) : (rowC n f).set k (.int .u8 (x : Nat)) = rowC n (upd f k x) := by
  refine List.ext_getElem? fun i => ?_
  by_cases hi : i < n
  · rw [rowC_get _ hi]
    by_cases e : i = k
    · subst e; rw [List.getElem?_set_self (by rw [rowC_len]; exact hi)]; simp [upd]
    · rw [List.getElem?_set_ne (Ne.symm e), rowC_get _ hi]; simp [upd, e]
  · rw [List.getElem?_eq_none (by rw [List.length_set, rowC_len]; omega), List.getElem?_eq_none (by rw [rowC_len]; omega)]
theorem rowC_zero (n : Nat) : List.replicate n (Value.int .u8 0) = rowC n (fun _ => 0) := by
  refine List.ext_getElem? fun i => ?_
  by_cases hi : i < n
  · rw [rowC_get _ hi, List.getElem?_replicate, if_pos hi]; rfl
  · rw [List.getElem?_eq_none (by simp; omega), List.getElem?_eq_none (by rw [rowC_len]; omega)]
theorem rowC_congr {n : Nat} {f g : Nat → Nat} (h : ∀ i, i < n → f i = g i) : rowC n f = rowC n g := by
  unfold rowC; exact List.map_congr_left fun i hi => by rw [h i (List.mem_range.1 hi)]
theorem rowC_succ (n : Nat) (f : Nat → Nat) : rowC (n + 1) f = rowC n f ++ [.int .u8 (f n : Nat)] := by
  unfold rowC; rw [List.range_succ, List.map_append]; rfl
theorem rowC_one (n : Nat) (f : Nat → Nat) : ∀ v ∈ rowC n f, v.oneCell' = true := by
  intro v hv; unfold rowC at hv; obtain ⟨i, _, rfl⟩ := List.mem_map.1 hv; rfl

/-- A row of bytes in block g. -/
def Row (w : World) (g n : Nat) (f : Nat → Nat) : Prop := Blk w g (rowC n f).toArray 5
theorem Row.bytes {w : World} {g n : Nat} {f : Nat → Nat} (h : Row w g n f) (hf : ∀ i, i < n → f i < 256) : Bytes w (some ⟨g, 0, none⟩) n f := fun k hk =>
  ⟨hf k hk, g, 0, rfl, by rw [Nat.zero_add, Blk.cell h k]; simpa using rowC_get f hk⟩
theorem Row.cell {w : World} {g n : Nat} {f : Nat → Nat} (h : Row w g n f) {i : Nat} (hi : i < n) : w.cell? ⟨g, i, none⟩ = some (.int .u8 (f i : Nat)) := by
  rw [Blk.cell h i]; simpa using rowC_get f hi
theorem Row.set {w : World} {g n : Nat} {f : Nat → Nat} (h : Row w g n f) (k x : Nat) : Row (w.setCell ⟨g, k, none⟩ (.int .u8 (x : Nat))) g n (upd f k x) := by
  have := Blk.set h k (.int .u8 (x : Nat))
  rw [List.setIfInBounds_toArray, rowC_set] at this; exact this
theorem Row.own {w w' : World} {g n b : Nat} {f : Nat → Nat} (h : Row w g n f) (hO : Own b w w') (hn : g ≠ b) : Row w' g n f := hO.blk h hn
theorem Row.later {w w' : World} {g n : Nat} {f : Nat → Nat} (h : Row w g n f) (hb : Below w.heap.size w w') : Row w' g n f := Blk.below h hb (Blk.lt h)
theorem Row.lt {w : World} {g n : Nat} {f : Nat → Nat} (h : Row w g n f) : g < w.heap.size := Blk.lt h
theorem Row.drew {w : World} {g n : Nat} {f : Nat → Nat} (h : Row w g n f) : Row w.drew g n f := h
theorem Row.made {w : World} {base g n : Nat} (h : w.ownsRow base 5 1 (.slice (some ⟨g, 0, none⟩) n n) n (madeCells #[.int .u8 0] n).toList) : Row w g n (fun _ => 0) := by
  rcases h.2 with ⟨h1, _⟩ | ⟨g', cap, cur, hv, _, hh, _, _, hsz, hcur⟩
  · cases h1
  · cases hv
    rw [toList_madeCells_one, Nat.mul_one, rowC_zero] at hcur
    have e : cur.toList = rowC n (fun _ => 0) := by
      rw [← hcur, List.take_of_length_le]
      simpa using Nat.le_of_eq hsz
    unfold Row Blk
    rw [hh, ← e]
theorem info_u8 : (Tryd.prog.info? 5).map (fun i => (i.zero, i.size, i.bytes)) = some (some (.int .u8 0), 1, 1) := by kernel_rfl
theorem Own.grown {b : Nat} {w w1 w2 : World} (h : Own b w w1) (hg : w1.grownBy w2 none) : Own b w w2 :=
  h.trans ⟨hg.os, hg.tape, hg.output, hg.size, fun k hk _ => hg.block k hk (by simp)⟩
theorem Below.grown0 {B : Nat} {w w1 w2 : World} (h : Below B w w1) (hg : w1.grownBy w2 none) (hB : B ≤ w1.heap.size) : Below B w w2 := h.grown hg hB (fun _ h => by cases h)
theorem below_grown {w w1 : World} (hg : w.grownBy w1 none) : Below w.heap.size w w1 := (Below.refl _ w).grown hg (Nat.le_refl _) (fun _ h => by cases h)

/-- The bytes of an owned row. -/
theorem row_cells {w : World} {base : Nat} {e : TypeId} {v : Value} {n : Nat} {xs : List Value} (h : w.ownsRow base e 1 v n xs) (hn : 0 < n) :
    ∃ g cap, v = .slice (some ⟨g, 0, none⟩) n cap ∧ base ≤ g ∧ n ≤ cap ∧ cap ≤ maxLen ∧ ∀ i, i < n → w.cell? ⟨g, i, none⟩ = xs[i]? := by
  rcases h.2 with ⟨_, h0⟩ | ⟨g, cap, cur, hv, hb, hh, hnc, hm, hsz, hcur⟩
  · omega
  · refine ⟨g, cap, hv, hb, hnc, hm, fun i hi => ?_⟩
    have h1 : w.cell? ⟨g, i, none⟩ = cur[i]? := by simp [World.cell?, hh]
    rw [h1, ← hcur, List.getElem?_take_of_lt (by omega)]
    simp
theorem owned_bytes {w : World} {base : Nat} {v : Value} {n : Nat} {f : Nat → Nat} (h : w.ownsRow base 5 1 v n (rowC n f)) (hf : ∀ i, i < n → f i < 256) :
    ∃ oa cap, v = .slice oa n cap ∧ Bytes w oa n f ∧ (∀ a, oa = some a → base ≤ a.block) := by
  by_cases h0 : n = 0
  · subst h0
    rcases h.2 with ⟨rfl, _⟩ | ⟨g, cap, cur, rfl, hb, _⟩
    · exact ⟨none, 0, rfl, fun k hk => absurd hk (Nat.not_lt_zero _), fun a h => by cases h⟩
    · exact ⟨_, cap, rfl, fun k hk => absurd hk (Nat.not_lt_zero _), fun a h => by cases h; exact hb⟩
  · obtain ⟨g, cap, rfl, hb, _, _, hc⟩ := row_cells h (by omega)
    exact ⟨_, cap, rfl, fun k hk => ⟨hf k hk, g, 0, rfl, by rw [Nat.zero_add, hc k hk, rowC_get f hk]⟩, fun a h => by cases h; exact hb⟩

/-- Bytes as a string. -/
def strF (n : Nat) (f : Nat → Nat) : ByteArray := strOfNums ((List.range n).map fun i => (f i : Int))
theorem conv_bytes {T E S : TypeId} (hT : Tryd.prog.underlying T = some (.slice E)) (hE : Tryd.prog.underlying E = some (.int .u8)) (hS : Tryd.prog.underlying S = some .string)
    {w : World} {oa : Option Addr} {n cap : Nat} {f : Nat → Nat} (h : Bytes w oa n f) (hn : 0 < n) : (convert T S (.slice oa n cap)).run Tryd.prog w = .ok (.string (strF n f)) w := by
  obtain ⟨_, b, off, rfl, _⟩ := h 0 hn
  refine run_convert_bytes_arg w T E hT hE b off n cap _ (by simp) (fun i hi => ?_) S hS
  obtain ⟨_, b', off', e, hc⟩ := h i hi
  cases e
  rw [hc, List.getD_eq_getElem?_getD, List.getElem?_map, List.getElem?_range hi]; rfl
theorem strF_congr {n : Nat} {f g : Nat → Nat} (h : ∀ i, i < n → f i = g i) : strF n f = strF n g := by
  unfold strF; rw [List.map_congr_left fun i hi => by rw [h i (List.mem_range.1 hi)]]
theorem strF_inj {n m : Nat} {f g : Nat → Nat} (hf : ∀ i, i < n → f i < 256) (hg : ∀ i, i < m → g i < 256) (h : strF n f = strF m g) : n = m ∧ ∀ i, i < n → f i = g i := by
  have hd := congrArg (fun s => s.data.toList) h
  simp only [strF, strOfNums_data, List.map_map] at hd
  have hl := congrArg List.length hd
  simp at hl
  subst hl
  refine ⟨rfl, fun i hi => ?_⟩
  have hi2 := congrArg (fun l : List UInt8 => l[i]?) hd
  simp only [List.getElem?_map, List.getElem?_range hi, Option.map_some, Option.some.injEq, Function.comp] at hi2
  have h3 := congrArg UInt8.toNat hi2
  have a1 := hf i hi
  have a2 := hg i hi
  simp [UInt8.toNat_ofNat] at h3
  omega
end Go.Proofs.YtgiffaeckhhmpaaDoor
namespace Go.Proofs.YtgiffaeckhhmpaaDoor
set_option linter.unusedVariables false
set_option linter.unusedSimpArgs false
open Go.RowKit

/-- n bytes of the call's own, in a block from base on, as append made them so far. -/
def Grow (w : World) (base : Nat) (v : Value) (n : Nat) (f : Nat → Nat) : Prop := w.ownsRow base 5 1 v n (rowC n f)
theorem Grow.nil (w : World) (base : Nat) (f : Nat → Nat) : Grow w base (.slice none 0 0) 0 f := World.ownsRow_nil w base _ 1
theorem Grow.congr {w : World} {base n : Nat} {v : Value} {f g : Nat → Nat} (h : Grow w base v n f) (he : ∀ i, i < n → f i = g i) : Grow w base v n g := by
  unfold Grow at h ⊢; rw [← rowC_congr he]; exact h
theorem Grow.of_blocks {w w' : World} {base n : Nat} {v : Value} {f : Nat → Nat} (h : Grow w base v n f) (hk : ∀ k, base ≤ k → k < w.heap.size → w'.heap[k]? = w.heap[k]?) : Grow w' base v n f := by
  refine ⟨h.1, ?_⟩
  rcases h.2 with h2 | ⟨g, cap, cur, hv, hb, hh, r⟩
  · exact .inl h2
  · refine .inr ⟨g, cap, cur, hv, hb, ?_, r⟩
    have hlt : g < w.heap.size := by
      rcases Nat.lt_or_ge g w.heap.size with h' | h'
      · exact h'
      · rw [Array.getElem?_eq_none h'] at hh; cases hh
    rw [hk g hb hlt]; exact hh
theorem Grow.own {w w' : World} {base n tb : Nat} {v : Value} {f : Nat → Nat} (h : Grow w base v n f) (hO : Own tb w w') (hb : tb < base) : Grow w' base v n f :=
  h.of_blocks fun k h1 h2 => hO.block k h2 (by omega)
theorem Grow.later {w w' : World} {base n : Nat} {v : Value} {f : Nat → Nat} (h : Grow w base v n f) (hb : Below w.heap.size w w') : Grow w' base v n f :=
  h.of_blocks fun k _ h2 => hb.block k h2
theorem Grow.drew {w : World} {base n : Nat} {v : Value} {f : Nat → Nat} (h : Grow w base v n f) : Grow w.drew base v n f := h
theorem Grow.bytes {w : World} {base n : Nat} {v : Value} {f : Nat → Nat} (h : Grow w base v n f) (hf : ∀ i, i < n → f i < 256) :
    ∃ oa cap, v = .slice oa n cap ∧ Bytes w oa n f ∧ (∀ a, oa = some a → base ≤ a.block) := owned_bytes h hf
theorem Grow.block {w : World} {base n : Nat} {v : Value} {f : Nat → Nat} (h : Grow w base v n f) : ∀ k, v.ownBlock = some k → base ≤ k := fun k hk => (World.ownsRow.lt h k hk).1
theorem Own.then_below {b base : Nat} {w0 w w' : World} (h : Own b w0 w) (hb : Below base w w') (hs : w0.heap.size ≤ base) : Own b w0 w' :=
  ⟨hb.os.trans h.os, hb.tape.trans h.tape, hb.output.trans h.output, Nat.le_trans h.size hb.size, fun k hk hn => (hb.block k (by omega)).trans (h.block k hk hn)⟩

/-- append of one byte, at the operation. -/
theorem wpList_app8 {ops : Array Oper} {rest : List Oper} {o : Oper} {a : Act} {Q : Exit → Act → World → Prop} (hgd : o.guard = none) (s x : Operand)
    (ho : o.op = .call { callee := .builtin .append, args := #[s, x], argTypes := #[34, 34] })
    (base : Nat) (v : Value) (n : Nat) (f : Nat → Nat) (y : Nat) (W : World) (hs : a.eval s = v) (hown : Grow W base v n f) (hx : a.eval x = .slice (some ⟨W.heap.size, 0, none⟩) 1 1)
    (hn : n < 100000000000000) (hbase : base ≤ W.heap.size)
    (h : ∀ v' w', Grow w' base v' (n + 1) (upd f n y) → Below base W w' → W.heap.size < w'.heap.size → wpList Tryd.prog ops Q rest (a.put o.dst v') w') :
    wpList Tryd.prog ops Q (o :: rest) a (W.alloc (.cells #[.int .u8 (y : Nat)] 5)) := by
  obtain ⟨i0, hi, hz0, hz1, hz2⟩ := info_parts info_u8
  refine wpList_append_own_at _ hgd s x 34 ho base 5 i0 (.int .u8 0) 1 1 Tryd.underlying34 hi hz0 hz1 hz2 rfl (by decide) v n (rowC n f) hs (World.ownsRow.alloc hown _) ⟨W.heap.size, 0, none⟩ 1 1 [.int .u8 (y : Nat)] hx rfl
    (cell_one_new _ _ _) (fun u h => by simp at h; subst h; rfl) (by unfold maxLen; omega) (by omega) (by simp; omega) ?_
  intro v' w' hown' hg _ _
  have hB : Below base W w' := ((Below.refl base W).alloc hbase _).grown hg (by simp; omega) (Grow.block hown)
  refine h v' w' ?_ hB ?_
  · unfold Grow
    have e : rowC (n + 1) (upd f n y) = rowC n f ++ [.int .u8 (y : Nat)] := by
      have e1 : rowC n (upd f n y) = rowC n f := rowC_congr fun i hi => by unfold upd; rw [if_neg (by omega)]
      have e2 : upd f n y n = y := if_pos rfl
      rw [rowC_succ, e1, e2]
    rw [e]; exact hown'
  · have := hg.size; simp at this; omega
end Go.Proofs.YtgiffaeckhhmpaaDoor
namespace Go.Proofs.YtgiffaeckhhmpaaDoor
set_option linter.unusedVariables false
set_option linter.unusedSimpArgs false
open Go.RowKit

theorem Grow.conv {w : World} {base n : Nat} {v : Value} {f : Nat → Nat} (h : Grow w base v n f) : (convert 34 9 v).run Tryd.prog w = .ok (.string (strF n f)) w := by
  rcases h.2 with ⟨rfl, h0⟩ | ⟨g, cap, cur, rfl, hb, hh, hnc, hm, hsz, hcur⟩
  · subst h0; kernel_rfl
  · refine run_convert_bytes_arg w 34 5 Tryd.underlying34 Tryd.underlying5 g 0 n cap _ (by simp) (fun i hi => ?_) 9 Tryd.underlying9
    have h1 : w.cell? ⟨g, 0 + i, none⟩ = cur[i]? := by simp [World.cell?, hh]
    rw [h1, ← Array.getElem?_toList, ← List.getElem?_take_of_lt (show i < n * 1 by omega), hcur, rowC_get f hi, List.getD_eq_getElem?_getD, List.getElem?_map, List.getElem?_range hi]
    rfl
theorem Bytes.conv {w : World} {b off n cap : Nat} {f : Nat → Nat} (h : Bytes w (some ⟨b, off, none⟩) n f) : (convert 34 9 (.slice (some ⟨b, off, none⟩) n cap)).run Tryd.prog w = .ok (.string (strF n f)) w := by
  refine run_convert_bytes_arg w 34 5 Tryd.underlying34 Tryd.underlying5 b off n cap _ (by simp) (fun i hi => ?_) 9 Tryd.underlying9
  obtain ⟨_, b', off', e, hc⟩ := h i hi
  cases e
  rw [hc, List.getD_eq_getElem?_getD, List.getElem?_map, List.getElem?_range hi]; rfl
theorem Below.drewN {B : Nat} {a w : World} (h : Below B a w) (n : Nat) : Below B a (w.drewN n) := h.trans ⟨rfl, rfl, rfl, Nat.le_refl _, fun _ _ => rfl⟩
theorem Grow.drewN {w : World} {base n : Nat} {v : Value} {f : Nat → Nat} (h : Grow w base v n f) (q : Nat) : Grow (w.drewN q) base v n f := h
theorem Calls.quiet_w {P : Program} {f : FuncId} {args : Array Value} {w : World} {n : Nat} {v : Value}
    (h : Calls P f args (w.drewN n) fun e w' => e = .returned v ∧ w.drewN n = w') : Calls P f args (w.drewN n) fun e w'' => e = .returned v ∧ ∃ m, w'' = w.drewN m :=
  h.mono fun _ _ ⟨he, hm⟩ => ⟨he, n, hm.symm⟩
end Go.Proofs.YtgiffaeckhhmpaaDoor
namespace Go.Proofs.YtgiffaeckhhmpaaDoor
set_option linter.unusedVariables false
set_option linter.unusedSimpArgs false
open Go.RowKit

/-- A row's bytes, and another one's behind them. -/
def catF (n : Nat) (f g : Nat → Nat) : Nat → Nat := fun i => if i < n then f i else g (i - n)
theorem rowC_cat (n m : Nat) (f g : Nat → Nat) : rowC (n + m) (catF n f g) = rowC n f ++ rowC m g := by
  refine List.ext_getElem? fun i => ?_
  by_cases h : i < n
  · rw [rowC_get _ (by omega), List.getElem?_append_left (by rw [rowC_len]; exact h), rowC_get _ h]; simp [catF, h]
  · rw [List.getElem?_append_right (by rw [rowC_len]; omega), rowC_len]
    by_cases h2 : i < n + m
    · rw [rowC_get _ h2, rowC_get _ (by omega)]; simp [catF, h]
    · rw [List.getElem?_eq_none (by rw [rowC_len]; omega), List.getElem?_eq_none (by rw [rowC_len]; omega)]
theorem Bytes.news {w : World} {b off m : Nat} {g : Nat → Nat} (h : Bytes w (some ⟨b, off, none⟩) m g) : ∀ j u, (rowC m g)[j]? = some u → w.cell? ((⟨b, off, none⟩ : Addr).add j) = some u := fun j u hu => by
  have hj : j < m := by
    rcases Nat.lt_or_ge j m with h' | h'
    · exact h'
    · rw [List.getElem?_eq_none (by rw [rowC_len]; exact h')] at hu; cases hu
  rw [rowC_get _ hj] at hu
  cases hu
  obtain ⟨_, b', off', e, hc⟩ := h j hj
  cases e
  have ha : (Addr.mk b off none).add j = ⟨b, off + j, none⟩ := by
    unfold Addr.add; split
    · rename_i hk0; subst hk0; rfl
    · rfl
  rw [ha]; exact hc
/-- append of a row, at the operation. -/
theorem wpList_appB {ops : Array Oper} {rest : List Oper} {o : Oper} {a : Act} {Q : Exit → Act → World → Prop} (hgd : o.guard = none) (s x : Operand)
    (ho : o.op = .call { callee := .builtin .append, args := #[s, x], argTypes := #[34, 34] })
    (base : Nat) (v : Value) (n m cp b off : Nat) (f g : Nat → Nat) (W : World) (hs : a.eval s = v) (hown : Grow W base v n f) (hx : a.eval x = .slice (some ⟨b, off, none⟩) m cp)
    (hB : Bytes W (some ⟨b, off, none⟩) m g) (hn : n + m < 100000000000000) (hbase : base ≤ W.heap.size)
    (h : ∀ v' w', Grow w' base v' (n + m) (catF n f g) → Below base W w' → wpList Tryd.prog ops Q rest (a.put o.dst v') w') :
    wpList Tryd.prog ops Q (o :: rest) a W := by
  obtain ⟨i0, hi, hz0, hz1, hz2⟩ := info_parts info_u8
  refine wpList_append_own_at _ hgd s x 34 ho base 5 i0 (.int .u8 0) 1 1 Tryd.underlying34 hi hz0 hz1 hz2 rfl (by decide) v n (rowC n f) hs hown ⟨b, off, none⟩ m cp (rowC m g) hx (by rw [rowC_len, Nat.mul_one])
    hB.news (rowC_one m g) (by unfold maxLen; omega) (by omega) hbase ?_
  intro v' w' hown' hg _ _
  refine h v' w' ?_ ((Below.refl base W).grown hg hbase (Grow.block hown))
  unfold Grow
  rw [rowC_cat]; exact hown'
/-- A slice without a byte, of a block of its own. -/
theorem Grow.empty {w : World} {base g : Nat} (h : Blk w g #[] 5) (hb : base ≤ g) (f : Nat → Nat) : Grow w base (.slice (some ⟨g, 0, none⟩) 0 0) 0 f :=
  ⟨rfl, .inr ⟨g, 0, #[], rfl, hb, h, Nat.le_refl _, by unfold maxLen; omega, rfl, rfl⟩⟩
end Go.Proofs.YtgiffaeckhhmpaaDoor
namespace Go.Proofs.YtgiffaeckhhmpaaDoor
set_option linter.unusedVariables false
set_option linter.unusedSimpArgs false
open Go.RowKit

theorem Bytes.newsA {w : World} {ad : Addr} {m : Nat} {g : Nat → Nat} (h : Bytes w (some ad) m g) : ∀ j u, (rowC m g)[j]? = some u → w.cell? (ad.add j) = some u := fun j u hu => by
  have hj : j < m := by
    rcases Nat.lt_or_ge j m with h' | h'
    · exact h'
    · rw [List.getElem?_eq_none (by rw [rowC_len]; exact h')] at hu; cases hu
  obtain ⟨_, b', off', e, hc⟩ := h j hj
  cases e
  exact Bytes.news h j u hu
/-- append of a row, at the operation, wherever the row lies. -/
theorem wpList_appA {ops : Array Oper} {rest : List Oper} {o : Oper} {a : Act} {Q : Exit → Act → World → Prop} (hgd : o.guard = none) (s x : Operand)
    (ho : o.op = .call { callee := .builtin .append, args := #[s, x], argTypes := #[34, 34] })
    (base : Nat) (v : Value) (n m cp : Nat) (ad : Addr) (f g : Nat → Nat) (W : World) (hs : a.eval s = v) (hown : Grow W base v n f) (hx : a.eval x = .slice (some ad) m cp)
    (hB : Bytes W (some ad) m g) (hn : n + m < 100000000000000) (hbase : base ≤ W.heap.size)
    (h : ∀ v' w', Grow w' base v' (n + m) (catF n f g) → Below base W w' → wpList Tryd.prog ops Q rest (a.put o.dst v') w') :
    wpList Tryd.prog ops Q (o :: rest) a W := by
  obtain ⟨i0, hi, hz0, hz1, hz2⟩ := info_parts info_u8
  refine wpList_append_own_at _ hgd s x 34 ho base 5 i0 (.int .u8 0) 1 1 Tryd.underlying34 hi hz0 hz1 hz2 rfl (by decide) v n (rowC n f) hs hown ad m cp (rowC m g) hx (by rw [rowC_len, Nat.mul_one])
    hB.newsA (rowC_one m g) (by unfold maxLen; omega) (by omega) hbase ?_
  intro v' w' hown' hg _ _
  refine h v' w' ?_ ((Below.refl base W).grown hg hbase (Grow.block hown))
  unfold Grow
  rw [rowC_cat]; exact hown'
/-- Bytes that came back, in new memory or nil. -/
def Cloned (w : World) (od : Option Addr) (len : Nat) (f : Nat → Nat) (e : Ending) (w' : World) : Prop := ∃ od' cap', e = .returned (.slice od' len cap') ∧ Bytes w' od' len f ∧ (od' = none → len = 0) ∧ len ≤ cap' ∧ cap' ≤ maxLen ∧ (∀ a, od' = some a → w.heap.size ≤ a.block) ∧ Below w.heap.size w w'
set_option maxRecDepth 100000 in
set_option maxHeartbeats 1000000 in
theorem clone_any (od : Option Addr) (len cap : Nat) (f : Nat → Nat) (w : World) (hB : Bytes w od len f) (hl : len < 100000000000000) (hno : od = none → len = 0) :
    Calls Tryd.prog 26 #[.slice od len cap] w (Cloned w od len f) := by
  have heq := Lib.run_eql_slice_nil (P := Tryd.prog) w 34 5 od len cap 0 0 Tryd.underlying34
  cases od with
  | none =>
    obtain rfl := hno rfl
    go_enter Tryd.func26, Tryd.ntmps26
    go_wp2_with fail
    go_ret
    exact ⟨none, 0, rfl, fun k hk => absurd hk (Nat.not_lt_zero _), fun _ => rfl, Nat.le_refl _, by unfold maxLen; omega, (fun a h => by cases h), Below.refl _ _⟩
  | some a =>
    have hE : Blk (w.alloc (.cells #[] 5)) w.heap.size #[] 5 := Blk.new _ _ _
    have HG := Lib.hid (Grow.empty hE (Nat.le_refl _) (fun _ => 0))
    have HB := Lib.hid (hB.alloc (.cells #[] 5))
    have HF := Lib.hid fun i (hi : i < len) => (hB i hi).1
    clear hE hB
    go_enter Tryd.func26, Tryd.ntmps26
    go_wp2_with (at_builtin; refine wpList_appA rfl (.tmp 5) (.tmp 6) rfl w.heap.size _ 0 len cap a (fun _ => 0) f _ rfl HG.out rfl HB.out (by omega) ?c1 ?_)
    case c1 => simp
    intro v' w' hG hb
    have hG2 := hG.congr (g := f) fun i hi => by unfold catF; rw [if_neg (Nat.not_lt_zero _), Nat.sub_zero]
    have hB' : Below w.heap.size w w' := ((Below.refl _ _).alloc (Nat.le_refl _) (.cells #[] 5)).trans hb
    have HG2 := Lib.hid hG2
    clear hG hG2 hb HG HB
    go_wp2_with fail
    go_ret
    rcases HG2.out.2 with ⟨rfl, h0⟩ | ⟨g, cp, cur, rfl, hg, hh, hnc, hm, hsz, hcur⟩
    · subst h0
      exact ⟨none, 0, rfl, fun k hk => absurd hk (Nat.not_lt_zero _), fun _ => rfl, Nat.le_refl _, by unfold maxLen; omega, (fun a h => by cases h), hB'⟩
    · obtain ⟨oa, c2, he, hBy, hge⟩ := HG2.out.bytes HF.out
      cases he
      exact ⟨_, cp, rfl, hBy, (fun h => by cases h), hnc, hm, hge, hB'⟩
end Go.Proofs.YtgiffaeckhhmpaaDoor
namespace Go.Proofs.YtgiffaeckhhmpaaDoor
set_option linter.unusedVariables false
set_option linter.unusedSimpArgs false
open Go.RowKit

/-- append of nothing. -/
theorem run_append_none_c {w : World} {base n c : Nat} {v : Value} {f : Nat → Nat} (ty : TypeId) (hown : Grow w base v n f) :
    (Builtin.append_ #[34, 34] ty #[v, .slice none 0 c]).run Tryd.prog w = .ok v w := by
  obtain ⟨i0, hi, _, _, _⟩ := info_parts info_u8
  rcases hown.2 with ⟨rfl, rfl⟩ | ⟨g, cap, cur, rfl, _, _, hnc, _⟩
  · simp [Builtin.append_, run_underlying Tryd.underlying34, sizeOf, typeInfo, hi, Builtin.lenOf, Builtin.firstCells]
  · simp [Builtin.append_, run_underlying Tryd.underlying34, sizeOf, typeInfo, hi, Builtin.lenOf, Builtin.firstCells, hnc, storeCells]
/-- append of a row, wherever it lies, nil too; what else is there stays. -/
theorem wpList_appO {ops : Array Oper} {rest : List Oper} {o : Oper} {a : Act} {Q : Exit → Act → World → Prop} (hgd : o.guard = none) (s x : Operand)
    (ho : o.op = .call { callee := .builtin .append, args := #[s, x], argTypes := #[34, 34] })
    (base : Nat) (v : Value) (n m cp : Nat) (od : Option Addr) (f g : Nat → Nat) (W : World) (hs : a.eval s = v) (hown : Grow W base v n f) (hx : a.eval x = .slice od m cp) (hno : od = none → m = 0)
    (hB : Bytes W od m g) (hn : n + m < 100000000000000) (hbase : base ≤ W.heap.size)
    (h : ∀ v' w', Grow w' base v' (n + m) (catF n f g) → W.grownBy w' v.ownBlock → (v'.ownBlock = v.ownBlock ∨ v'.ownBlock = some W.heap.size) → wpList Tryd.prog ops Q rest (a.put o.dst v') w') :
    wpList Tryd.prog ops Q (o :: rest) a W := by
  obtain ⟨i0, hi, hz0, hz1, hz2⟩ := info_parts info_u8
  cases od with
  | none =>
    obtain rfl := hno rfl
    refine wpList_plain hgd fun K hK => ?_
    have hr := run_append_none_c (c := cp) o.type hown
    unfold Oper.wp execOp
    simp only [ho, resolve, invoke, builtin, Sem.run_bind, Sem.run_pure, Result.andThen_ok, List.map_toArray, List.map_cons, List.map_nil, hs, hx, hr]
    exact hK _ _ (h _ _ (hown.congr fun i hi => by unfold catF; rw [if_pos (by omega)]) ⟨rfl, rfl, rfl, Nat.le_refl _, fun _ _ _ => rfl⟩ (.inl rfl))
  | some ad =>
    refine wpList_append_own_at _ hgd s x 34 ho base 5 i0 (.int .u8 0) 1 1 Tryd.underlying34 hi hz0 hz1 hz2 rfl (by decide) v n (rowC n f) hs hown ad m cp (rowC m g) hx (by rw [rowC_len, Nat.mul_one])
      hB.newsA (rowC_one m g) (by unfold maxLen; omega) (by omega) hbase ?_
    intro v' w' hown' hg _ hat
    refine h v' w' ?_ hg hat
    unfold Grow
    rw [rowC_cat]; exact hown'
theorem step_appO {ops : Array Oper} {o : Oper} {a : Act} {K : Act → World → Prop} {Q : Exit → Act → World → Prop} {E : Prop} (hgd : o.guard = none) (s x : Operand)
    (ho : o.op = .call { callee := .builtin .append, args := #[s, x], argTypes := #[34, 34] })
    (base : Nat) (v : Value) (n m cp : Nat) (od : Option Addr) (f g : Nat → Nat) (W : World) (hs : a.eval s = v) (hown : Grow W base v n f) (hx : a.eval x = .slice od m cp) (hno : od = none → m = 0)
    (hB : Bytes W od m g) (hn : n + m < 100000000000000) (hbase : base ≤ W.heap.size)
    (h : ∀ v' w', Grow w' base v' (n + m) (catF n f g) → W.grownBy w' v.ownBlock → (v'.ownBlock = v.ownBlock ∨ v'.ownBlock = some W.heap.size) → K (a.put o.dst v') w') :
    if Region.wanted o (yielded ops a.tmps) = true then Oper.wp Tryd.prog o a W K Q else E := by
  obtain ⟨i0, hi, hz0, hz1, hz2⟩ := info_parts info_u8
  have hw : Region.wanted o (yielded ops a.tmps) = true := by simp [Region.wanted, hgd]
  rw [if_pos hw]
  cases od with
  | none =>
    obtain rfl := hno rfl
    have hr := run_append_none_c (c := cp) o.type hown
    unfold Oper.wp execOp
    simp only [ho, resolve, invoke, builtin, Sem.run_bind, Sem.run_pure, Result.andThen_ok, List.map_toArray, List.map_cons, List.map_nil, hs, hx, hr]
    exact h _ _ (hown.congr fun i hi => by unfold catF; rw [if_pos (by omega)]) ⟨rfl, rfl, rfl, Nat.le_refl _, fun _ _ _ => rfl⟩ (.inl rfl)
  | some ad =>
    obtain ⟨v', w', hr, h2, h3, h4, h5⟩ := run_append_own_at (P := Tryd.prog) W base 34 o.type 5 i0 (.int .u8 0) 1 1 Tryd.underlying34 hi hz0 hz1 hz2 rfl (by decide) v n (rowC n f) hown ad m cp (rowC m g) (by rw [rowC_len, Nat.mul_one]) hB.newsA (rowC_one m g) (by unfold maxLen; omega) (by omega) hbase
    unfold Oper.wp execOp
    simp only [ho, resolve, invoke, builtin, Sem.run_bind, Sem.run_pure, Result.andThen_ok, List.map_toArray, List.map_cons, List.map_nil, hs, hx, hr]
    exact h _ _ (by unfold Grow; rw [rowC_cat]; exact h2) h3 h5
theorem catF_self {G g : Nat → Nat} {n m : Nat} (h : ∀ i, i < m → g i = G (n + i)) : ∀ i, i < n + m → catF n G g i = G i := fun i hi => by
  unfold catF
  by_cases e : i < n
  · rw [if_pos e]
  · rw [if_neg e, h (i - n) (by omega)]; congr 1; omega
theorem ob1 {w : World} {z : Int} {y : Nat} (hz : z = (y : Int)) (hy : y < 256) : Bytes (w.alloc (.cells #[.int .u8 z] 5)) (some ⟨w.heap.size, 0, none⟩) 1 (fun _ => y) := fun k hk => ⟨hy, w.heap.size, 0, rfl, by
  subst hz
  obtain rfl : k = 0 := by omega
  exact World.cell?_alloc_mark w #[.int .u8 (y : Int)] 5 (0, 0) 0⟩
def two (x y : Nat) : Nat → Nat := fun i => if i = 0 then x else y
theorem ob2 {w : World} {x y : Nat} (hx : x < 256) (hy : y < 256) : Bytes (w.alloc (.cells #[.int .u8 (x : Int), .int .u8 (y : Int)] 5)) (some ⟨w.heap.size, 0, none⟩) 2 (two x y) := fun k hk => ⟨by unfold two; split <;> assumption, w.heap.size, 0, rfl, by
  match k, hk with
  | 0, _ => exact World.cell?_alloc_mark w #[.int .u8 (x : Int), .int .u8 (y : Int)] 5 (0, 0) 0
  | 1, _ => exact World.cell?_alloc_mark w #[.int .u8 (x : Int), .int .u8 (y : Int)] 5 (0, 0) 1⟩
/-- What lies in a row that was made. -/
theorem make_zeros (n : Nat) (hn : n < 1000000000000) (w : World) : (Instr.makeSlice 34 (.int .i64 (n : Int)) (.int .i64 (n : Int))).run Tryd.prog w = .ok (.slice (some ⟨w.heap.size, 0, none⟩) n n) (w.alloc (.cells (rowC n (fun _ => 0)).toArray 5)) := by
  have h := run_make_row' (P := Tryd.prog) 34 5 (.int .u8 0) 1 Tryd.underlying34 info_u8 rfl .i64 .i64 n (by omega) (by omega) w
  have e : madeCells #[Value.int .u8 0] n = (rowC n (fun _ => 0)).toArray := by
    have := toList_madeCells_one (Value.int .u8 0) n
    rw [rowC_zero] at this
    rw [← this]
  rw [e] at h; exact h
theorem step_make {ops : Array Oper} {o : Oper} {a : Act} {w : World} {K : Act → World → Prop} {Q : Exit → Act → World → Prop} {E : Prop} (hgd : o.guard = none) (x y : Operand) (ho : o.op = .makeSlice 34 x y) (n : Nat) (hx : a.eval x = .int .i64 (n : Int)) (hy : a.eval y = .int .i64 (n : Int)) (hn : n < 1000000000000)
    (h : K (a.put o.dst (.slice (some ⟨w.heap.size, 0, none⟩) n n)) (w.alloc (.cells (rowC n (fun _ => 0)).toArray 5))) : if Region.wanted o (yielded ops a.tmps) = true then Oper.wp Tryd.prog o a w K Q else E := by
  have hw : Region.wanted o (yielded ops a.tmps) = true := by simp [Region.wanted, hgd]
  rw [if_pos hw]
  have hrun := make_zeros n hn w
  unfold Oper.wp
  simp [execOp, ho, hx, hy, hrun, Result.andThen]
  exact h
theorem row_new (w : World) (n : Nat) (f : Nat → Nat) : Row (w.alloc (.cells (rowC n f).toArray 5)) w.heap.size n f := Blk.new _ _ _
end Go.Proofs.YtgiffaeckhhmpaaDoor
namespace Go.Proofs.YtgiffaeckhhmpaaDoor
set_option linter.unusedVariables false
set_option linter.unusedSimpArgs false

theorem wrs {c r k : Nat} (h : c + r = k) (hk : k < 1000) : IntKind.i64.wrap ((c : Int) + (r : Int)) = (k : Int) := by rw [IntWalk.i64_in _ (by omega)]; omega
theorem wrm {a b k : Nat} {m : Int} (hm : m = (b : Int)) (h : a * b = k) (hk : k < 1000) : IntKind.i64.wrap ((a : Int) * m) = (k : Int) := by
  subst hm
  have e : (a : Int) * (b : Int) = (k : Int) := by rw [← h]; exact (Int.natCast_mul a b).symm
  rw [e]; exact IntWalk.i64_in _ (by omega)
theorem wrn {a b k : Nat} {m : Int} (hm : m = (b : Int)) (h : b * a = k) (hk : k < 1000) : IntKind.i64.wrap (m * (a : Int)) = (k : Int) := by
  subst hm
  have e : (b : Int) * (a : Int) = (k : Int) := by rw [← h]; exact (Int.natCast_mul b a).symm
  rw [e]; exact IntWalk.i64_in _ (by omega)
theorem wrk {i k n : Nat} {m : Int} (hm : m = (n : Int)) (h : i + n = k) (hk : k < 1000) : IntKind.i64.wrap ((i : Int) + m) = (k : Int) := by subst hm; rw [IntWalk.i64_in _ (by omega)]; omega
theorem wrb {i k n : Nat} {m : Int} (hm : m = (n : Int)) (h : i = k + n) (hk : i < 1000) : IntKind.i64.wrap ((i : Int) - m) = (k : Int) := by subst hm; rw [IntWalk.i64_in _ (by omega)]; omega
theorem tmk {j r n : Nat} {m : Int} (hm : m = (n : Int)) (h : j % n = r) : ((j : Nat) : Int).tmod m = (r : Int) := by subst hm; rw [Int.tmod_eq_emod_of_nonneg (by omega)]; rw [← h]; exact (Int.natCast_emod j n).symm
theorem tdk {j r n : Nat} {m : Int} (hm : m = (n : Int)) (h : j / n = r) : ((j : Nat) : Int).tdiv m = (r : Int) := by subst hm; rw [Int.tdiv_eq_ediv_of_nonneg (by omega)]; rw [← h]; exact (Int.natCast_ediv j n).symm
theorem ixN {k : Nat} (m : Nat) (h : k < m) : (0 : Int) ≤ (k : Int) ∧ (k : Int) < (m : Nat) := by omega
theorem u32m (a b : Int) {c d e : Nat} (ha : a = (c : Int)) (hb : b = (d : Int)) (h : (c + d) % 4294967296 = e) : IntKind.u32.wrap (a + b) = (e : Int) := by
  subst ha hb; rw [← h]; simp [IntKind.wrap, IntKind.bits, IntKind.signed]
end Go.Proofs.YtgiffaeckhhmpaaDoor
namespace Go.Proofs.YtgiffaeckhhmpaaDoor
set_option linter.unusedVariables false
set_option linter.unusedSimpArgs false
open Go.RowKit

theorem Blk.setCells_any {b : Nat} {t : TypeId} : ∀ (vs : List Value) (o : Nat) (w : World) (D : Array Value), Blk w b D t → ∃ D', Blk (w.setCells b o vs) b D' t ∧ D'.size = D.size
  | [], _, _, D, h => ⟨D, h, rfl⟩
  | v :: r, o, w, D, h => by
    obtain ⟨D', h1, h2⟩ := Blk.setCells_any r (o + 1) (w.setCell ⟨b, o, none⟩ v) _ (h.set o v)
    exact ⟨D', h1, by rw [h2, Array.size_setIfInBounds]⟩
theorem Own.setCells {b : Nat} : ∀ (vs : List Value) (o : Nat) (w : World), Own b w (w.setCells b o vs)
  | [], _, w => Own.refl b w
  | v :: r, o, w => ((Own.refl b w).set o v).trans (Own.setCells r (o + 1) _)
/-- A block is stored over, all of it. -/
theorem Blk.setCells {w : World} {b : Nat} {D : Array Value} {t : TypeId} (h : Blk w b D t) (vs : List Value) (hs : vs.length = D.size) : Blk (w.setCells b 0 vs) b vs.toArray t := by
  obtain ⟨D', h1, h2⟩ := Blk.setCells_any vs 0 w D h
  have e : D' = vs.toArray := by
    refine Array.ext (by rw [h2, ← hs]; simp) fun j hj hj2 => ?_
    have hjl : j < vs.length := by simpa using hj2
    have hc := World.cell?_setCells_in b vs 0 w (fun i hi => by
      rw [Blk.cell h (0 + i), Array.getElem?_eq_getElem (by omega)]; rfl) j hjl
    rw [Blk.cell h1, Nat.zero_add, Array.getElem?_eq_getElem hj] at hc
    simpa using hc
  rw [← e]; exact h1
theorem Blk.there {w : World} {b : Nat} {D : Array Value} {t : TypeId} (h : Blk w b D t) {n : Nat} (hn : n ≤ D.size) : w.there b 0 n := fun j hj => by
  rw [Nat.zero_add, Blk.cell h j, Blk.free h j, Array.getElem?_eq_getElem (by omega)]
  exact ⟨rfl, rfl⟩
end Go.Proofs.YtgiffaeckhhmpaaDoor
namespace Go.Proofs.YtgiffaeckhhmpaaDoor
set_option linter.unusedVariables false
set_option linter.unusedSimpArgs false
open Go.RowKit

/-- A string's bytes, as a function tells them. -/
def byteF (s : ByteArray) : Nat → Nat := fun j => (s.data.toList.getD j 0).toNat
theorem byteF_lt (s : ByteArray) (j : Nat) : byteF s j < 256 := UInt8.toNat_lt _
theorem byteF_strF {n : Nat} {f : Nat → Nat} (hf : ∀ i, i < n → f i < 256) : ∀ j, j < n → byteF (strF n f) j = f j := fun j hj => by
  unfold byteF strF
  rw [strOfNums_data, List.getD_eq_getElem?_getD, List.getElem?_map, List.getElem?_map, List.getElem?_range hj]
  have := hf j hj
  simp; omega
theorem strF_size (n : Nat) (f : Nat → Nat) : (strF n f).size = n := by
  unfold strF; rw [strOfNums_size]; simp
/-- n bytes of a string in block g, with room behind them. -/
structure SB (w : World) (g n cap : Nat) (f : Nat → Nat) : Prop where
  c : ∀ j, j < n → w.cell? ⟨g, j, none⟩ = some (.int .u8 (f j : Nat))
  r : w.there g n (cap - n)
  l : g < w.heap.size
  b : ∀ j, j < n → f j < 256
  le : n ≤ cap
theorem SB.bytes {w : World} {g n cap : Nat} {f : Nat → Nat} (h : SB w g n cap f) : Bytes w (some ⟨g, 0, none⟩) n f := fun k hk => ⟨h.b k hk, g, 0, rfl, by rw [Nat.zero_add]; exact h.c k hk⟩
theorem SB.later {w w' : World} {g n cap : Nat} {f : Nat → Nat} (h : SB w g n cap f) (hb : Below w.heap.size w w') : SB w' g n cap f := by
  have e : w'.heap[g]? = w.heap[g]? := hb.block g h.l
  refine ⟨fun j hj => by rw [World.cell?_of_block (a := ⟨g, j, none⟩) e]; exact h.c j hj, fun j hj => ?_, Nat.lt_of_lt_of_le h.l hb.size, h.b, h.le⟩
  rw [World.cell?_of_block (a := ⟨g, n + j, none⟩) e, World.frozen?_of_block (a := ⟨g, n + j, none⟩) e]; exact h.r j hj
theorem conv_sb (s : ByteArray) (w : World) (hs : s.size ≤ maxLen) : ∃ cap w', (convert 9 34 (.string s)).run Tryd.prog w = .ok (.slice (some ⟨w.heap.size, 0, none⟩) s.size cap) w' ∧ cap ≤ maxLen ∧ SB w' w.heap.size s.size cap (byteF s) ∧ Below w.heap.size w w' := by
  have hr := run_bytes_of_string (P := Tryd.prog) w 9 34 5 s Tryd.underlying9 Tryd.underlying34 Tryd.underlying5
  obtain ⟨cap, hcap⟩ : ∃ cap, grownCap w s.size 0 5 = cap := ⟨_, rfl⟩
  have hge : s.size ≤ cap := hcap ▸ grownCap_ge w s.size 0 _
  have hle : cap ≤ maxLen := hcap ▸ grownCap_le_maxLen w s.size 0 _ hs
  rw [hcap] at hr
  obtain ⟨C, hC⟩ : ∃ C, bytesRow s cap = C := ⟨_, rfl⟩
  have hsz : C.size = cap := by
    rw [← hC]; unfold bytesRow
    rw [Array.size_append, Array.size_map, Array.size_replicate]
    show s.size + (cap - s.size) = cap
    omega
  rw [hC] at hr
  have hblk : (w.drew.alloc (.cells C 5 (C.size, C.size + 1))).heap[w.heap.size]? = some (.cells C 5 (C.size, C.size + 1)) := by
    show (w.heap.push _)[w.heap.size]? = _
    simp
  refine ⟨cap, _, hr, hle, ⟨fun j hj => ?_, fun j hj => ?_, by show w.heap.size < (w.heap.push _).size; simp, fun j _ => byteF_lt s j, hge⟩, (Below.refl _ w).drew.alloc (Nat.le_refl _) _⟩
  · have h1 : (w.drew.alloc (.cells C 5 (C.size, C.size + 1))).cell? ⟨w.heap.size, j, none⟩ = C[j]? := by simp only [World.cell?, hblk, Option.isSome_none, Bool.false_eq_true, if_false]
    rw [h1, ← hC]
    unfold bytesRow
    have hj' : j < s.data.size := hj
    rw [Array.getElem?_append_left (by rw [Array.size_map]; exact hj'), Array.getElem?_map, Array.getElem?_eq_getElem hj']
    unfold byteF
    rw [List.getD_eq_getElem?_getD, Array.getElem?_toList, Array.getElem?_eq_getElem hj']
    rfl
  · have h1 : (w.drew.alloc (.cells C 5 (C.size, C.size + 1))).cell? ⟨w.heap.size, s.size + j, none⟩ = C[s.size + j]? := by simp only [World.cell?, hblk, Option.isSome_none, Bool.false_eq_true, if_false]
    have h2 : (w.drew.alloc (.cells C 5 (C.size, C.size + 1))).frozen? ⟨w.heap.size, s.size + j, none⟩ = false := by
      simp only [World.frozen?, hblk]; simp; omega
    exact ⟨by rw [h1, Array.getElem?_eq_getElem (by omega)]; rfl, h2⟩
theorem wpList_convS {ops : Array Oper} {rest : List Oper} {o : Oper} {a : Act} {Q : Exit → Act → World → Prop} (hgd : o.guard = none) (x : Operand) (ho : o.op = .convert 9 34 x) (s : ByteArray) (w : World) (hx : a.eval x = .string s) (hs : s.size ≤ maxLen)
    (h : ∀ cap w', cap ≤ maxLen → SB w' w.heap.size s.size cap (byteF s) → Below w.heap.size w w' → wpList Tryd.prog ops Q rest (a.put o.dst (.slice (some ⟨w.heap.size, 0, none⟩) s.size cap)) w') :
    wpList Tryd.prog ops Q (o :: rest) a w := by
  refine wpList_plain hgd fun K hK => ?_
  obtain ⟨cap, w', hr, h1, h2, h3⟩ := conv_sb s w hs
  unfold Oper.wp execOp
  simp only [ho, hx, hr, Sem.run_bind, Sem.run_pure, Result.andThen_ok]
  exact hK _ _ (h cap w' h1 h2 h3)
/-- append of a row onto a string's bytes. -/
theorem run_append_sb {w : World} {g n cap m c : Nat} {ad : Addr} {f G : Nat → Nat} (ty : TypeId) (h : SB w g n cap f) (hcm : cap ≤ maxLen) (hB : Bytes w (some ad) m G) (hm : n + m < 100000000000000) :
    ∃ o c' w', (Builtin.append_ #[34, 34] ty #[.slice (some ⟨g, 0, none⟩) n cap, .slice (some ad) m c]).run Tryd.prog w = .ok (.slice (some o) (n + m) c') w' ∧ n + m ≤ c' ∧ Bytes w' (some o) (n + m) (catF n f G) ∧ Own g w w' := by
  obtain ⟨i0, hi, hz0, hz1, hz2⟩ := info_parts info_u8
  by_cases hroom : n + m ≤ cap
  · have hl : (rowC m G).length = m * i0.size := by rw [rowC_len, hz1, Nat.mul_one]
    have hf := run_firstCells_some (P := Tryd.prog) w i0.size m ad m c (rowC m G) hl hB.newsA
    rw [hz1] at hf
    have hth : ∀ j, j < (rowC m G).length → (w.cell? ⟨g, n + j, none⟩).isSome = true ∧ w.frozen? ⟨g, n + j, none⟩ = false := fun j hj => h.r j (by rw [rowC_len] at hj; omega)
    have hst := run_storeCells_cells (P := Tryd.prog) g n (rowC m G) 0 w (fun j hj => (hth j hj).1) (fun j hj => (hth j hj).2) (rowC_one m G)
    simp only [Nat.add_zero] at hst
    have hadd : (⟨g, 0, none⟩ : Addr).add (n * i0.size) = ⟨g, n, none⟩ := by rw [hz1, Nat.mul_one, Addr.add_mid, Nat.zero_add]
    refine ⟨⟨g, 0, none⟩, cap, w.setCells g n (rowC m G), ?_, hroom, fun k hk => ?_, Own.setCells _ _ _⟩
    · have hadd1 : (⟨g, 0, none⟩ : Addr).add n = ⟨g, n, none⟩ := by rw [Addr.add_mid, Nat.zero_add]
      simp [Builtin.append_, run_underlying Tryd.underlying34, sizeOf, typeInfo, hi, Builtin.lenOf, hroom, hf, hst, hz1, hadd1]
    · unfold catF
      by_cases e : k < n
      · rw [if_pos e]
        refine ⟨h.b k e, g, 0, rfl, ?_⟩
        rw [Nat.zero_add, World.cell?_setCells_out g (rowC m G) n w ⟨g, k, none⟩ (fun _ _ => .inl e)]
        exact h.c k e
      · rw [if_neg e]
        have hkm : k - n < m := by omega
        refine ⟨(hB (k - n) hkm).1, g, 0, rfl, ?_⟩
        have := World.cell?_setCells_in g (rowC m G) n w (fun j hj => (hth j hj).1) (k - n) (by rw [rowC_len]; exact hkm)
        rw [show n + (k - n) = 0 + k by omega] at this
        rw [this]
        have h2 := rowC_get G hkm
        rw [List.getElem?_eq_getElem (by rw [rowC_len]; exact hkm)] at h2
        exact h2
  · have hlo : (rowC n f).length = n * i0.size := by rw [rowC_len, hz1, Nat.mul_one]
    have hl : (rowC m G).length = m * i0.size := by rw [rowC_len, hz1, Nat.mul_one]
    have hr := run_append_grow (P := Tryd.prog) w 34 ty 5 i0 (.int .u8 0) Tryd.underlying34 hi hz0 ⟨g, 0, none⟩ n cap (rowC n f) hlo h.bytes.newsA ad m c (rowC m G) hl hB.newsA (by omega) (by omega) (growslice_fits (by omega) (by rw [hz2]; omega))
    obtain ⟨cp, hcp⟩ : ∃ cp, grownCap w (n + m) cap 5 = cp := ⟨_, rfl⟩
    have hge : n + m ≤ cp := hcp ▸ grownCap_ge w (n + m) cap _
    rw [hcp] at hr
    refine ⟨_, _, _, hr, hge, fun k hk => ?_, Own.of_below ((Below.refl _ w).drew.alloc (Nat.le_refl _) _)⟩
    have hblk : ∀ C : Array Value, (w.drew.alloc (.cells C 5)).cell? ⟨w.heap.size, 0 + k, none⟩ = C[k]? := fun C => by
      have : (w.drew.alloc (.cells C 5)).heap[w.heap.size]? = some (.cells C 5) := by
        show (w.heap.push _)[w.heap.size]? = _
        simp
      rw [Nat.zero_add]; simp only [World.cell?, this, Option.isSome_none, Bool.false_eq_true, if_false]
    have hb : catF n f G k < 256 := by
      unfold catF
      by_cases e : k < n
      · rw [if_pos e]; exact h.b k e
      · rw [if_neg e]; exact (hB (k - n) (by omega)).1
    refine ⟨hb, w.heap.size, 0, rfl, ?_⟩
    rw [hblk]
    have h2 := rowC_get (n := n + m) (catF n f G) hk
    rw [rowC_cat] at h2
    rw [Array.getElem?_append_left (by simp [rowC_len]; exact hk)]
    rw [← Array.getElem?_toList]
    simpa using h2
theorem wpList_appS {ops : Array Oper} {rest : List Oper} {o : Oper} {a : Act} {Q : Exit → Act → World → Prop} (hgd : o.guard = none) (s x : Operand)
    (ho : o.op = .call { callee := .builtin .append, args := #[s, x], argTypes := #[34, 34] })
    (g n cap m c : Nat) (ad : Addr) (f G : Nat → Nat) (w : World) (hs : a.eval s = .slice (some ⟨g, 0, none⟩) n cap) (h : SB w g n cap f) (hcm : cap ≤ maxLen) (hx : a.eval x = .slice (some ad) m c) (hB : Bytes w (some ad) m G) (hm : n + m < 100000000000000)
    (hk : ∀ o' c' w', n + m ≤ c' → Bytes w' (some o') (n + m) (catF n f G) → Own g w w' → wpList Tryd.prog ops Q rest (a.put o.dst (.slice (some o') (n + m) c')) w') :
    wpList Tryd.prog ops Q (o :: rest) a w := by
  refine wpList_plain hgd fun K hK => ?_
  obtain ⟨o', c', w', hr, h1, h2, h3⟩ := run_append_sb o.type h hcm hB hm (c := c)
  unfold Oper.wp execOp
  simp only [ho, resolve, invoke, builtin, Sem.run_bind, Sem.run_pure, Result.andThen_ok, List.map_toArray, List.map_cons, List.map_nil, hs, hx, hr]
  exact hK _ _ (hk o' c' w' h1 h2 h3)
end Go.Proofs.YtgiffaeckhhmpaaDoor
namespace Go.Proofs.YtgiffaeckhhmpaaDoor
set_option linter.unusedVariables false
set_option linter.unusedSimpArgs false
open Go.RowKit

/-- The cells of n structs, one behind the other. -/
def rws (n : Nat) (C : Nat → List Value) : List Value := (List.range n).flatMap C
theorem rws_zero (C : Nat → List Value) : rws 0 C = [] := rfl
theorem rws_succ (n : Nat) (C : Nat → List Value) : rws (n + 1) C = rws n C ++ C n := by unfold rws; rw [List.range_succ, List.flatMap_append]; simp
theorem rws_len {k : Nat} {C : Nat → List Value} : ∀ {n : Nat}, (∀ i, i < n → (C i).length = k) → (rws n C).length = n * k
  | 0, _ => by simp [rws_zero]
  | n + 1, h => by rw [rws_succ, List.length_append, rws_len fun i hi => h i (by omega), h n (by omega), Nat.succ_mul]
theorem rws_get {k : Nat} {C : Nat → List Value} : ∀ {n : Nat}, (∀ i, i < n → (C i).length = k) → ∀ {i j : Nat}, i < n → j < k → (rws n C)[i * k + j]? = (C i)[j]?
  | 0, _, i, _, hi, _ => absurd hi (Nat.not_lt_zero _)
  | n + 1, h, i, j, hi, hj => by
    have hl : (rws n C).length = n * k := rws_len fun i hi => h i (by omega)
    rw [rws_succ]
    rcases Nat.lt_or_ge i n with h1 | h1
    · have hlt : i * k + j < n * k := Nat.lt_of_lt_of_le (by omega) (show i * k + k ≤ n * k by rw [← Nat.succ_mul]; exact Nat.mul_le_mul_right k h1)
      rw [List.getElem?_append_left (by rw [hl]; exact hlt)]
      exact rws_get (fun i hi => h i (by omega)) h1 hj
    · obtain rfl : i = n := by omega
      rw [List.getElem?_append_right (by rw [hl]; omega), hl]
      congr 1; omega
theorem rws_congr {n : Nat} {C D : Nat → List Value} (h : ∀ i, i < n → C i = D i) : rws n C = rws n D := by
  induction n with
  | zero => rfl
  | succ n ih => rw [rws_succ, rws_succ, ih fun i hi => h i (by omega), h n (by omega)]
theorem rws_set {k : Nat} {C : Nat → List Value} : ∀ {n : Nat}, (∀ i, i < n → (C i).length = k) → ∀ {i j : Nat} {v : Value}, i < n → j < k → (rws n C).set (i * k + j) v = rws n (fun q => if q = i then (C i).set j v else C q)
  | 0, _, i, _, _, hi, _ => absurd hi (Nat.not_lt_zero _)
  | n + 1, h, i, j, v, hi, hj => by
    have hl : (rws n C).length = n * k := rws_len fun i hi => h i (by omega)
    rw [rws_succ, rws_succ]
    rcases Nat.lt_or_ge i n with h1 | h1
    · have hlt : i * k + j < n * k := Nat.lt_of_lt_of_le (by omega) (show i * k + k ≤ n * k by rw [← Nat.succ_mul]; exact Nat.mul_le_mul_right k h1)
      rw [List.set_append_left _ _ (by rw [hl]; exact hlt), rws_set (fun i hi => h i (by omega)) h1 hj, if_neg (by omega)]
    · obtain rfl : i = n := by omega
      rw [List.set_append_right _ _ (by rw [hl]; omega), hl, if_pos rfl, show i * k + j - i * k = j from by omega]
      congr 1
      exact rws_congr fun q hq => by rw [if_neg (by omega)]
/-- The cells, one more behind them. -/
def addC (C : Nat → List Value) (n : Nat) (c : List Value) : Nat → List Value := fun i => if i = n then c else C i
theorem rws_add (n : Nat) (C : Nat → List Value) (c : List Value) : rws (n + 1) (addC C n c) = rws n C ++ c := by
  rw [rws_succ, rws_congr (D := C) fun i hi => by unfold addC; rw [if_neg (by omega)]]
  unfold addC; rw [if_pos rfl]
/-- The structs of an owned row, cell by cell. -/
theorem rws_cells {w : World} {base : Nat} {e : TypeId} {k : Nat} {v : Value} {n : Nat} {C : Nat → List Value} (h : w.ownsRow base e k v n (rws n C)) (hk : ∀ i, i < n → (C i).length = k) :
    ∃ oa cap, v = .slice oa n cap ∧ n ≤ cap ∧ cap ≤ maxLen ∧ (∀ a, oa = some a → ∃ g, a = ⟨g, 0, none⟩ ∧ base ≤ g ∧ g < w.heap.size) ∧ ∀ i j, i < n → j < k → ∃ b off, oa = some ⟨b, off, none⟩ ∧ off = 0 ∧ w.cell? ⟨b, off + i * k + j, none⟩ = (C i)[j]? := by
  rcases h.2 with ⟨rfl, h0⟩ | ⟨g, cap, cur, rfl, hb, hh, hnc, hm, hsz, hcur⟩
  · subst h0
    exact ⟨none, 0, rfl, Nat.le_refl _, by unfold maxLen; omega, (fun a h => by cases h), fun i j hi => absurd hi (Nat.not_lt_zero _)⟩
  · refine ⟨_, cap, rfl, hnc, hm, (fun a h => by cases h; exact ⟨g, rfl, hb, lt_of_block hh⟩), fun i j hi hj => ⟨g, 0, rfl, rfl, ?_⟩⟩
    have h1 : w.cell? ⟨g, 0 + i * k + j, none⟩ = cur[0 + i * k + j]? := by simp [World.cell?, hh]
    have hlt : i * k + j < n * k := Nat.lt_of_lt_of_le (by omega) (show i * k + k ≤ n * k by rw [← Nat.succ_mul]; exact Nat.mul_le_mul_right k hi)
    rw [h1, Nat.zero_add, ← Array.getElem?_toList, ← List.getElem?_take_of_lt hlt, hcur]
    exact rws_get hk hi hj
theorem owns_later {w w' : World} {base : Nat} {e : TypeId} {k : Nat} {v : Value} {n : Nat} {xs : List Value} (h : w.ownsRow base e k v n xs) (hb : Below w.heap.size w w') : w'.ownsRow base e k v n xs := by
  refine ⟨h.1, ?_⟩
  rcases h.2 with h2 | ⟨g, cap, cur, hv, hg, hh, r⟩
  · exact .inl h2
  · exact .inr ⟨g, cap, cur, hv, hg, by rw [hb.block g (lt_of_block hh)]; exact hh, r⟩
theorem owns_own {w w' : World} {base b : Nat} {e : TypeId} {k : Nat} {v : Value} {n : Nat} {xs : List Value} (h : w.ownsRow base e k v n xs) (hO : Own b w w') (hb : b < base) : w'.ownsRow base e k v n xs := by
  refine ⟨h.1, ?_⟩
  rcases h.2 with h2 | ⟨g, cap, cur, hv, hg, hh, r⟩
  · exact .inl h2
  · exact .inr ⟨g, cap, cur, hv, hg, by rw [hO.block g (lt_of_block hh) (by omega)]; exact hh, r⟩
theorem owns_block {w : World} {base : Nat} {e : TypeId} {k : Nat} {v : Value} {n : Nat} {xs : List Value} (h : w.ownsRow base e k v n xs) : ∀ q, v.ownBlock = some q → base ≤ q := by
  intro q hq
  rcases h.2 with ⟨rfl, _⟩ | ⟨g, cap, cur, rfl, hb, _⟩
  · simp [Value.ownBlock] at hq
  · simp [Value.ownBlock] at hq; omega
theorem news_lit {w : World} {l : List Value} {t : TypeId} : ∀ j u, l[j]? = some u → (w.alloc (.cells l.toArray t)).cell? ((⟨w.heap.size, 0, none⟩ : Addr).add j) = some u := by
  intro j u h
  have h1 : (w.alloc (.cells l.toArray t)).cell? ⟨w.heap.size, j, none⟩ = l.toArray[j]? := World.cell?_alloc_mark w l.toArray t (0, 0) j
  have ha : (Addr.mk w.heap.size 0 none).add j = ⟨w.heap.size, j, none⟩ := by
    unfold Addr.add; split
    · rename_i hk0; subst hk0; rfl
    · simp
  rw [ha, h1]; simpa using h
end Go.Proofs.YtgiffaeckhhmpaaDoor
