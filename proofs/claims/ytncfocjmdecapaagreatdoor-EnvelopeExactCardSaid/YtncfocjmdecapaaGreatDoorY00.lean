/- Part of the proof: what stands here serves the walks of the functions that the statement calls. -/
import Derived.Deep.RegionHeld
import Derived.Lib.Hide
import Derived.WalkKit
import Derived.OneCell
import Derived.Laws.NewBlocks
import Derived.ProofKit
import Derived.OpenShut
import Derived.Below
import Derived.Lib.SmallJoins
import Derived.Test.YtncfocjmdecapaaGreatDoorProg
import Derived.Laws.OwnMore
import Derived.Laws.BytesArg
import Derived.OwnWalk
import Derived.Maps.AppendAt
import Derived.Deep.AppendLies
import Derived.Deep.QuietTactic
import Derived.BigQuiet
import Derived.Laws.Rows
import Derived.Deep.MidRow
import Derived.IntWalk
import Derived.RegionTactic
import Derived.Laws.BitsLemmas
import Derived.Laws.BitsAllLaws
import Derived.Outline
import Derived.ChangeKeysEq
import Derived.Laws.StructEq
import Derived.Laws.CopyOwn
import Derived.Deep.RegionHeld3
import Derived.Deep.DeepCutAuto
import Derived.StillTailTactics
namespace Go.Proofs.YtncfocjmdecapaaGreatDoor
set_option linter.unusedVariables false
set_option linter.unusedSimpArgs false
open Go.RowKit
theorem zS {α : Type} : (∀ (l : List α) (i : Nat) (v : α), l.toArray.setIfInBounds i v = (l.set i v).toArray) ∧ (∀ (x : α) (l : List α) (v : α), (x :: l).set 0 v = v :: l) ∧ (∀ (x : α) (l : List α) (i : Nat) (v : α), (x :: l).set (i + 1) v = x :: l.set i v) :=
  ⟨fun _ _ _ => List.setIfInBounds_toArray .., fun _ _ _ => rfl, fun _ _ _ _ => rfl⟩
theorem wT {P : Go.Program} {ops : Array Go.Oper} {Q : Go.Exit → Go.Act → World → Prop} {md : Go.Region.Mode} {S : World → Prop} {d : Option Go.Tmp} {o : Go.Op} {t : Go.TypeId} {p : String} {f : Array Go.Edge} {g : Option (Nat × Bool)} {fuel : Nat} {l : Array Bool} {a : Act} {w : World} (i : Nat) (v : Value) (hi : ops[i]? = some ⟨d, o, t, p, f, g⟩)
    (hy : ∀ w, S w → (execOp a.eval ⟨d, o, t, p, f, g⟩).run P w = .ok (.value v) w)
    (h : wpAnyH P md ops Q S fuel (l.setIfInBounds i true) (a.put d v) w)
    (hg : Go.Region.wanted ⟨d, o, t, p, f, g⟩ (Go.yielded ops a.tmps) = true := by rfl)
    (hs : Go.Region.noSelect ops = true := by kernel_rfl) (hf : Go.Region.free md ops l i = true := by kernel_rfl) (hr : (Go.Region.ready md ops l).contains i = true := by kernel_rfl)
    (hQ : ∀ c a w, Q (.panic c) (a.put d v) w → Q (.panic c) a w := by exact fun _ _ _ h => h) (hS : S w := by assumption) : wpAnyH P md ops Q S (fuel + 1) l a w :=
  wpAnyH_take hi hs hf hr hQ (Or.inl ⟨hg, hy⟩) hS h
theorem aC {P : Go.Program} {ops : Array Go.Oper} {Q : Go.Exit → Go.Act → World → Prop} {md : Go.Region.Mode} {S : World → Prop} {fuel : Nat} {l : Array Bool} {a : Act} {w : World} {i : Nat} {d : Option Go.Tmp} {o : Go.Op} {t : Go.TypeId} {p : String} {f : Array Go.Edge} {g : Option (Nat × Bool)} {rs : List Nat} (ho : ops[i]? = some ⟨d, o, t, p, f, g⟩)
    (h : ∀ K' : Act → World → Prop, Go.Shut (∀ a w, S w → (S w → wpAnyH P md ops Q S fuel (l.setIfInBounds i true) a w) → K' a w) → if Go.Region.wanted ⟨d, o, t, p, f, g⟩ (Go.yielded ops a.tmps) = true then Go.Oper.wp P ⟨d, o, t, p, f, g⟩ a w K' Q else K' (a.put d Go.undef) w)
    (hs : Go.AllReadyH P md ops Q S fuel l a w rs) : Go.AllReadyH P md ops Q S fuel l a w (i :: rs) := Go.AllReadyH.cons ho h hs
theorem zh {p : Prop} (h : p) : Hid p := h
theorem zX {α : Sort _} (a : α) : ∃ q, a = q := ⟨a, rfl⟩
theorem zA {B : Nat} {w : World} {o : Obj} (h : B ≤ w.heap.size := by exact Nat.le_refl _) : Below B w (w.alloc o) := (Below.refl _ _).alloc h _
theorem wR {P : Go.Program} {ops : Array Go.Oper} {Q : Go.Exit → Go.Act → World → Prop} {md : Go.Region.Mode} {S : World → Prop} {fuel : Nat} {l : Array Bool} {a : Act} {w : World} (rs : List Nat) (h : Go.AllReadyH P md ops Q S fuel l a w rs) (hr : Go.Region.ready md ops l = rs := by kernel_rfl) (hn : rs ≠ [] := by simp) : wpAnyH P md ops Q S (fuel + 1) l a w := wpAnyH_ready hr hn h
theorem aN {P : Go.Program} {ops : Array Go.Oper} {Q : Go.Exit → Go.Act → World → Prop} {md : Go.Region.Mode} {S : World → Prop} {fuel : Nat} {l : Array Bool} {a : Act} {w : World} {i : Nat} {d : Option Go.Tmp} {o : Go.Op} {t : Go.TypeId} {p : String} {f : Array Go.Edge} {g : Option (Nat × Bool)} (ho : ops[i]? = some ⟨d, o, t, p, f, g⟩)
    (h : ∀ K' : Act → World → Prop, Go.Shut (∀ a w, S w → (S w → wpAnyH P md ops Q S fuel (l.setIfInBounds i true) a w) → K' a w) → if Go.Region.wanted ⟨d, o, t, p, f, g⟩ (Go.yielded ops a.tmps) = true then Go.Oper.wp P ⟨d, o, t, p, f, g⟩ a w K' Q else K' (a.put d Go.undef) w) : Go.AllReadyH P md ops Q S fuel l a w [i] := aC ho h AllReadyH.nil
def Blk (w : World) (b : Nat) (C : Array Value) (t : TypeId) : Prop := w.heap[b]? = some (.cells C t (0, 0))
theorem Blk.lt {w : World} {b : Nat} {C : Array Value} {t : TypeId} (h : Blk w b C t) : b < w.heap.size := lt_of_block h
theorem Blk.cell {w : World} {b : Nat} {C : Array Value} {t : TypeId} (h : Blk w b C t) (k : Nat) : w.cell? ⟨b, k, none⟩ = C[k]? := by
 unfold Blk at h; simp [World.cell?, h]
theorem Blk.free {w : World} {b : Nat} {C : Array Value} {t : TypeId} (h : Blk w b C t) (k : Nat) : w.frozen? ⟨b, k, none⟩ = false := by
 unfold Blk at h; simp [World.frozen?, h]
theorem Blk.set {w : World} {b : Nat} {C : Array Value} {t : TypeId} (h : Blk w b C t) (k : Nat) (v : Value) : Blk (w.setCell ⟨b, k, none⟩ v) b (C.setIfInBounds k v) t := by
 have hlt := h.lt
 unfold Blk at h ⊢
 have h' : w.heap[b] = .cells C t (0, 0) := by simpa [Array.getElem?_eq_getElem hlt] using h
 show (w.heap.modify b _)[b]? = _
 rw [Array.getElem?_eq_getElem (by simpa using hlt), Array.getElem_modify_self, h']
 rfl
theorem Blk.set_other {w : World} {b : Nat} {C : Array Value} {t : TypeId} (h : Blk w b C t) {a : Addr} (ha : b ≠ a.block) (v : Value) : Blk (w.setCell a v) b C t := by
 unfold Blk at h ⊢; rw [Below.heap_setCell _ _ _ _ ha]; exact h
theorem Blk.alloc {w : World} {b : Nat} {C : Array Value} {t : TypeId} (h : Blk w b C t) (o : Obj) : Blk (w.alloc o) b C t := by
 have hlt := h.lt
 unfold Blk at h ⊢; rw [Below.heap_alloc _ _ _ hlt]; exact h
theorem Blk.drew {w : World} {b : Nat} {C : Array Value} {t : TypeId} (h : Blk w b C t) : Blk w.drew b C t := h
theorem Blk.new (w : World) (C : Array Value) (t : TypeId) : Blk (w.alloc (.cells C t)) w.heap.size C t := by
 show (w.heap.push _)[w.heap.size]? = _
 simp
theorem Blk.below {w w' : World} {b B : Nat} {C : Array Value} {t : TypeId} (h : Blk w b C t) (hb : Below B w w') (hB : b < B) : Blk w' b C t := by
 unfold Blk at h ⊢; rw [hb.block b hB]; exact h
structure Own (b : Nat) (w w' : World) : Prop where
 os : w'.os = w.os
 tape : w'.tape = w.tape
 output : w'.output = w.output
 size : w.heap.size ≤ w'.heap.size
 block : ∀ k, k < w.heap.size → k ≠ b → w'.heap[k]? = w.heap[k]?
theorem Own.refl (b : Nat) (w : World) : Own b w w := ⟨rfl, rfl, rfl, Nat.le_refl _, fun _ _ _ => rfl⟩
theorem Own.trans {b : Nat} {w w1 w2 : World} (h : Own b w w1) (k : Own b w1 w2) : Own b w w2 :=
 ⟨k.os.trans h.os, k.tape.trans h.tape, k.output.trans h.output, Nat.le_trans h.size k.size, fun i hi hn => (k.block i (Nat.lt_of_lt_of_le hi h.size) hn).trans (h.block i hi hn)⟩
theorem Own.of_below {b : Nat} {w w' : World} (h : Below w.heap.size w w') : Own b w w' := ⟨h.os, h.tape, h.output, h.size, fun k hk _ => h.block k hk⟩
theorem Own.set {b : Nat} {w w1 : World} (h : Own b w w1) (k : Nat) (v : Value) : Own b w (w1.setCell ⟨b, k, none⟩ v) :=
 h.trans ⟨rfl, rfl, rfl, by simp [World.setCell], fun i _ hn => Below.heap_setCell _ _ _ _ hn⟩
theorem Own.alloc {b : Nat} {w w1 : World} (h : Own b w w1) (o : Obj) : Own b w (w1.alloc o) :=
 h.trans ⟨rfl, rfl, rfl, by simp, fun i hi _ => Below.heap_alloc _ _ _ hi⟩
theorem Own.drew {b : Nat} {w w1 : World} (h : Own b w w1) : Own b w w1.drew := ⟨h.os, h.tape, h.output, h.size, h.block⟩
theorem Own.below {b B : Nat} {w w' : World} (h : Own b w w') (hb : B ≤ b) (hs : B ≤ w.heap.size) : Below B w w' :=
 ⟨h.os, h.tape, h.output, h.size, fun k hk => h.block k (by omega) (by omega)⟩
theorem Own.blk {b c : Nat} {w w' : World} {C : Array Value} {t : TypeId} (h : Own b w w') (hc : Blk w c C t) (hn : c ≠ b) : Blk w' c C t := by
 have hlt := hc.lt
 unfold Blk at hc ⊢; rw [h.block c hlt hn]; exact hc
theorem Own.cell {b : Nat} {w w' : World} (h : Own b w w') {a : Addr} {v : Value} (hc : w.cell? a = some v) (hn : a.block ≠ b) : w'.cell? a = some v := by
 have hlt : a.block < w.heap.size := by
  rcases Nat.lt_or_ge a.block w.heap.size with h' | h'
  ·exact h'
  ·simp [World.cell?, Array.getElem?_eq_none h'] at hc
 rw [← hc]; simp only [World.cell?, h.block a.block hlt hn]
theorem cell_below {w w' : World} (h : Below w.heap.size w w') {a : Addr} {v : Value} (hc : w.cell? a = some v) : w'.cell? a = some v := by
 have hlt : a.block < w.heap.size := by
  rcases Nat.lt_or_ge a.block w.heap.size with h' | h'
  ·exact h'
  ·simp [World.cell?, Array.getElem?_eq_none h'] at hc
 rw [h.cell hlt]; exact hc
theorem cell_belowB {w w' : World} {B : Nat} (h : Below B w w') {a : Addr} {v : Value} (hB : a.block < B) (hc : w.cell? a = some v) : w'.cell? a = some v := by
 rw [h.cell hB]; exact hc
section
open Go.ChangeShapes Go.WideShapes Go.ChangeAt Go.RowKit
def Bytes (w : World) (oa : Option Addr) (n : Nat) (f : Nat → Nat) : Prop :=
 ∀ k, k < n → f k < 256 ∧ ∃ b off, oa = some ⟨b, off, none⟩ ∧ w.cell? ⟨b, off + k, none⟩ = some (.int .u8 (f k))
theorem Bytes.mono {w : World} {oa : Option Addr} {n m : Nat} {f : Nat → Nat} (h : Bytes w oa n f) (hm : m ≤ n) : Bytes w oa m f := fun k hk => h k (by omega)
theorem Bytes.later {w w' : World} {oa : Option Addr} {n : Nat} {f : Nat → Nat} (h : Bytes w oa n f) (hb : Below w.heap.size w w') : Bytes w' oa n f := fun k hk => by
 obtain ⟨h1, b, off, h2, h3⟩ := h k hk
 exact ⟨h1, b, off, h2, cell_below hb h3⟩
theorem Bytes.alloc {w : World} {oa : Option Addr} {n : Nat} {f : Nat → Nat} (h : Bytes w oa n f) (o : Obj) : Bytes (w.alloc o) oa n f :=
 h.later ((Below.refl _ _).alloc (Nat.le_refl _) o)
theorem row_bytes {H : Type} {enc : TypeId × Value → H} {P : Program} {W : World} {base : Nat} {held : Bool} {T E : TypeId} {fuel : Nat} {cs : List Value} {x : DataW H × List MemPlace}
  (hT : P.underlying T = some (.slice E)) (hE : P.underlying E = some (.int .u8)) (hc : P.cellsOf E = 1)
  (h : DataW.trod enc P W base (fun _ => true) held fuel T cs = some x) :
  ∃ oa n cap f, cs = [.slice oa n cap] ∧ n ≤ cap ∧ cap ≤ maxLen ∧ Bytes W oa cap f := by
 rcases open_ints hT hE hc h with ⟨hcs, _⟩ | ⟨a, n, cap, zs, hcs, _, hl, hm, hz, _, hcell, hwz⟩
 ·exact ⟨none, 0, 0, fun _ => 0, hcs, by omega, by unfold maxLen; omega, fun k hk => by omega⟩
 ·refine ⟨some a, n, cap, fun k => (zs.getD k 0).toNat, hcs, hl, hm, fun k hk => ?_⟩
  have hzl : zs.length = cap := by simpa using hz
  have hk' : k < zs.length := by omega
  have h1 := hcell k hk'
  have h2 := hwz _ (List.getElem_mem hk')
  have e : zs.getD k 0 = zs[k] := by simp [List.getD, hk']
  rw [e] at h1
  have hb : 0 ≤ zs[k] ∧ zs[k] ≤ 255 := by
   simp [Lit.wf, IntKind.min, IntKind.max, IntKind.bits, IntKind.signed] at h2; omega
  obtain ⟨b, off, spot⟩ := a
  have hspot : spot = none := by simpa [Addr.add] using World.cell?_spot (hcell 0 (by omega))
  subst hspot
  refine ⟨by simp only [e]; omega, b, off, rfl, ?_⟩
  simp only [e]
  rw [show ((zs[k].toNat : Nat) : Int) = zs[k] from by omega]
  have ha : (Addr.mk b off none).add k = ⟨b, off + k, none⟩ := by
   unfold Addr.add; split
   ·rename_i hk0; subst hk0; rfl
   ·rfl
  rw [ha] at h1; exact h1
theorem bd_of_wf_u32 {n : Int} (h : (Lit.int .u32 n).wf = true) : 0 ≤ n ∧ n ≤ 4294967295 := by
 simp [Lit.wf, IntKind.min, IntKind.max, IntKind.signed, IntKind.bits] at h; omega
theorem bd_of_wf_u8 {n : Int} (h : (Lit.int .u8 n).wf = true) : 0 ≤ n ∧ n ≤ 255 := by
 simp [Lit.wf, IntKind.min, IntKind.max, IntKind.signed, IntKind.bits] at h; omega
end
def rowC (n : Nat) (f : Nat → Nat) : List Value := (List.range n).map fun i => Value.int .u8 (f i : Nat)
def upd (f : Nat → Nat) (k x : Nat) : Nat → Nat := fun i => if i = k then x else f i
theorem rowC_len (n : Nat) (f : Nat → Nat) : (rowC n f).length = n := by simp [rowC]
theorem rowC_get {n : Nat} (f : Nat → Nat) {i : Nat} (h : i < n) : (rowC n f)[i]? = some (.int .u8 (f i : Nat)) := by
 unfold rowC; rw [List.getElem?_map, List.getElem?_range h]; rfl
theorem rowC_set (n : Nat) (f : Nat → Nat) (k x : Nat) : (rowC n f).set k (.int .u8 (x : Nat)) = rowC n (upd f k x) := by
 refine List.ext_getElem? fun i => ?_
 by_cases hi : i < n
 ·rw [rowC_get _ hi]
  by_cases e : i = k
  ·subst e; rw [List.getElem?_set_self (by rw [rowC_len]; exact hi)]; simp [upd]
  ·rw [List.getElem?_set_ne (Ne.symm e), rowC_get _ hi]; simp [upd, e]
 ·rw [List.getElem?_eq_none (by rw [List.length_set, rowC_len]; omega), List.getElem?_eq_none (by rw [rowC_len]; omega)]
theorem rowC_zero (n : Nat) : List.replicate n (Value.int .u8 0) = rowC n (fun _ => 0) := by
 refine List.ext_getElem? fun i => ?_
 by_cases hi : i < n
 ·rw [rowC_get _ hi, List.getElem?_replicate, if_pos hi]; rfl
 ·rw [List.getElem?_eq_none (by simp; omega), List.getElem?_eq_none (by rw [rowC_len]; omega)]
theorem rowC_congr {n : Nat} {f g : Nat → Nat} (h : ∀ i, i < n → f i = g i) : rowC n f = rowC n g := by
 unfold rowC; exact List.map_congr_left fun i hi => by rw [h i (List.mem_range.1 hi)]
theorem rowC_one (n : Nat) (f : Nat → Nat) : ∀ v ∈ rowC n f, v.oneCell' = true := by
 intro v hv; unfold rowC at hv; obtain ⟨i, _, rfl⟩ := List.mem_map.1 hv; rfl
def Row (w : World) (g n : Nat) (f : Nat → Nat) : Prop := Blk w g (rowC n f).toArray 5
theorem Row.bytes {w : World} {g n : Nat} {f : Nat → Nat} (h : Row w g n f) (hf : ∀ i, i < n → f i < 256) : Bytes w (some ⟨g, 0, none⟩) n f := fun k hk =>
 ⟨hf k hk, g, 0, rfl, by rw [Nat.zero_add, Blk.cell h k]; simpa using rowC_get f hk⟩
theorem Row.cell {w : World} {g n : Nat} {f : Nat → Nat} (h : Row w g n f) {i : Nat} (hi : i < n) : w.cell? ⟨g, i, none⟩ = some (.int .u8 (f i : Nat)) := by
 rw [Blk.cell h i]; simpa using rowC_get f hi
theorem Row.set {w : World} {g n : Nat} {f : Nat → Nat} (h : Row w g n f) (k x : Nat) : Row (w.setCell ⟨g, k, none⟩ (.int .u8 (x : Nat))) g n (upd f k x) := by
 have := Blk.set h k (.int .u8 (x : Nat))
 rw [List.setIfInBounds_toArray, rowC_set] at this; exact this
theorem Row.own {w w' : World} {g n b : Nat} {f : Nat → Nat} (h : Row w g n f) (hO : Own b w w') (hn : g ≠ b) : Row w' g n f := hO.blk h hn
theorem Row.later {w w' : World} {g n : Nat} {f : Nat → Nat} (h : Row w g n f) (hb : Below w.heap.size w w') : Row w' g n f := Blk.below h hb (Blk.lt h)
theorem Row.lt {w : World} {g n : Nat} {f : Nat → Nat} (h : Row w g n f) : g < w.heap.size := Blk.lt h
theorem Row.drew {w : World} {g n : Nat} {f : Nat → Nat} (h : Row w g n f) : Row w.drew g n f := h
theorem Row.made {w : World} {base g n : Nat} (h : w.ownsRow base 5 1 (.slice (some ⟨g, 0, none⟩) n n) n (madeCells #[.int .u8 0] n).toList) : Row w g n (fun _ => 0) := by
 rcases h.2 with ⟨h1, _⟩ | ⟨g', cap, cur, hv, _, hh, _, _, hsz, hcur⟩
 ·cases h1
 ·cases hv
  rw [toList_madeCells_one, Nat.mul_one, rowC_zero] at hcur
  have e : cur.toList = rowC n (fun _ => 0) := by
   rw [← hcur, List.take_of_length_le]
   simpa using Nat.le_of_eq hsz
  unfold Row Blk
  rw [hh, ← e]
theorem info_u8 : (Tryz.prog.info? 5).map (fun i => (i.zero, i.size, i.bytes)) = some (some (.int .u8 0), 1, 1) := by kernel_rfl
theorem Own.grown {b : Nat} {w w1 w2 : World} (h : Own b w w1) (hg : w1.grownBy w2 none) : Own b w w2 :=
 h.trans ⟨hg.os, hg.tape, hg.output, hg.size, fun k hk _ => hg.block k hk (by simp)⟩
theorem row_cells {w : World} {base : Nat} {e : TypeId} {v : Value} {n : Nat} {xs : List Value} (h : w.ownsRow base e 1 v n xs) (hn : 0 < n) :
  ∃ g cap, v = .slice (some ⟨g, 0, none⟩) n cap ∧ base ≤ g ∧ n ≤ cap ∧ cap ≤ maxLen ∧ ∀ i, i < n → w.cell? ⟨g, i, none⟩ = xs[i]? := by
 rcases h.2 with ⟨_, h0⟩ | ⟨g, cap, cur, hv, hb, hh, hnc, hm, hsz, hcur⟩
 ·omega
 ·refine ⟨g, cap, hv, hb, hnc, hm, fun i hi => ?_⟩
  have h1 : w.cell? ⟨g, i, none⟩ = cur[i]? := by simp [World.cell?, hh]
  rw [h1, ← hcur, List.getElem?_take_of_lt (by omega)]
  simp
theorem owned_bytes {w : World} {base : Nat} {v : Value} {n : Nat} {f : Nat → Nat} (h : w.ownsRow base 5 1 v n (rowC n f)) (hf : ∀ i, i < n → f i < 256) :
  ∃ oa cap, v = .slice oa n cap ∧ Bytes w oa n f ∧ (∀ a, oa = some a → base ≤ a.block) := by
 by_cases h0 : n = 0
 ·subst h0
  rcases h.2 with ⟨rfl, _⟩ | ⟨g, cap, cur, rfl, hb, _⟩
  ·exact ⟨none, 0, rfl, fun k hk => absurd hk (Nat.not_lt_zero _), fun a h => by cases h⟩
  ·exact ⟨_, cap, rfl, fun k hk => absurd hk (Nat.not_lt_zero _), fun a h => by cases h; exact hb⟩
 ·obtain ⟨g, cap, rfl, hb, _, _, hc⟩ := row_cells h (by omega)
  exact ⟨_, cap, rfl, fun k hk => ⟨hf k hk, g, 0, rfl, by rw [Nat.zero_add, hc k hk, rowC_get f hk]⟩, fun a h => by cases h; exact hb⟩
def strF (n : Nat) (f : Nat → Nat) : ByteArray := strOfNums ((List.range n).map fun i => (f i : Int))
theorem strF_congr {n : Nat} {f g : Nat → Nat} (h : ∀ i, i < n → f i = g i) : strF n f = strF n g := by
 unfold strF; rw [List.map_congr_left fun i hi => by rw [h i (List.mem_range.1 hi)]]
theorem strF_inj {n m : Nat} {f g : Nat → Nat} (hf : ∀ i, i < n → f i < 256) (hg : ∀ i, i < m → g i < 256) (h : strF n f = strF m g) : n = m ∧ ∀ i, i < n → f i = g i := by
 have hd := congrArg (fun s => s.data.toList) h
 simp only [strF, strOfNums_data, List.map_map] at hd
 have hl := congrArg List.length hd
 simp at hl
 subst hl
 refine ⟨rfl, fun i hi => ?_⟩
 have hi2 := congrArg (fun l : List UInt8 => l[i]?) hd
 simp only [List.getElem?_map, List.getElem?_range hi, Option.map_some, Option.some.injEq, Function.comp] at hi2
 have h3 := congrArg UInt8.toNat hi2
 have a1 := hf i hi
 have a2 := hg i hi
 simp [UInt8.toNat_ofNat] at h3
 omega
def Grow (w : World) (base : Nat) (v : Value) (n : Nat) (f : Nat → Nat) : Prop := w.ownsRow base 5 1 v n (rowC n f)
theorem Grow.nil (w : World) (base : Nat) (f : Nat → Nat) : Grow w base (.slice none 0 0) 0 f := World.ownsRow_nil w base _ 1
theorem Grow.congr {w : World} {base n : Nat} {v : Value} {f g : Nat → Nat} (h : Grow w base v n f) (he : ∀ i, i < n → f i = g i) : Grow w base v n g := by
 unfold Grow at h ⊢; rw [← rowC_congr he]; exact h
theorem Grow.of_blocks {w w' : World} {base n : Nat} {v : Value} {f : Nat → Nat} (h : Grow w base v n f) (hk : ∀ k, base ≤ k → k < w.heap.size → w'.heap[k]? = w.heap[k]?) : Grow w' base v n f := by
 refine ⟨h.1, ?_⟩
 rcases h.2 with h2 | ⟨g, cap, cur, hv, hb, hh, r⟩
 ·exact .inl h2
 ·refine .inr ⟨g, cap, cur, hv, hb, ?_, r⟩
  have hlt : g < w.heap.size := by
   rcases Nat.lt_or_ge g w.heap.size with h' | h'
   ·exact h'
   ·rw [Array.getElem?_eq_none h'] at hh; cases hh
  rw [hk g hb hlt]; exact hh
theorem Grow.own {w w' : World} {base n tb : Nat} {v : Value} {f : Nat → Nat} (h : Grow w base v n f) (hO : Own tb w w') (hb : tb < base) : Grow w' base v n f :=
 h.of_blocks fun k h1 h2 => hO.block k h2 (by omega)
theorem Grow.later {w w' : World} {base n : Nat} {v : Value} {f : Nat → Nat} (h : Grow w base v n f) (hb : Below w.heap.size w w') : Grow w' base v n f :=
 h.of_blocks fun k _ h2 => hb.block k h2
theorem Grow.drew {w : World} {base n : Nat} {v : Value} {f : Nat → Nat} (h : Grow w base v n f) : Grow w.drew base v n f := h
theorem Grow.bytes {w : World} {base n : Nat} {v : Value} {f : Nat → Nat} (h : Grow w base v n f) (hf : ∀ i, i < n → f i < 256) :
  ∃ oa cap, v = .slice oa n cap ∧ Bytes w oa n f ∧ (∀ a, oa = some a → base ≤ a.block) := owned_bytes h hf
theorem Grow.block {w : World} {base n : Nat} {v : Value} {f : Nat → Nat} (h : Grow w base v n f) : ∀ k, v.ownBlock = some k → base ≤ k := fun k hk => (World.ownsRow.lt h k hk).1
theorem Own.then_below {b base : Nat} {w0 w w' : World} (h : Own b w0 w) (hb : Below base w w') (hs : w0.heap.size ≤ base) : Own b w0 w' :=
 ⟨hb.os.trans h.os, hb.tape.trans h.tape, hb.output.trans h.output, Nat.le_trans h.size hb.size, fun k hk hn => (hb.block k (by omega)).trans (h.block k hk hn)⟩
theorem Grow.conv {w : World} {base n : Nat} {v : Value} {f : Nat → Nat} (h : Grow w base v n f) : (convert 24 9 v).run Tryz.prog w = .ok (.string (strF n f)) w := by
 rcases h.2 with ⟨rfl, h0⟩ | ⟨g, cap, cur, rfl, hb, hh, hnc, hm, hsz, hcur⟩
 ·subst h0; kernel_rfl
 ·refine run_convert_bytes_arg w 24 5 Tryz.underlying24 Tryz.underlying5 g 0 n cap _ (by simp) (fun i hi => ?_) 9 Tryz.underlying9
  have h1 : w.cell? ⟨g, 0 + i, none⟩ = cur[i]? := by simp [World.cell?, hh]
  rw [h1, ← Array.getElem?_toList, ← List.getElem?_take_of_lt (show i < n * 1 by omega), hcur, rowC_get f hi, List.getD_eq_getElem?_getD, List.getElem?_map, List.getElem?_range hi]
  rfl
theorem Bytes.conv {w : World} {b off n cap : Nat} {f : Nat → Nat} (h : Bytes w (some ⟨b, off, none⟩) n f) : (convert 24 9 (.slice (some ⟨b, off, none⟩) n cap)).run Tryz.prog w = .ok (.string (strF n f)) w := by
 refine run_convert_bytes_arg w 24 5 Tryz.underlying24 Tryz.underlying5 b off n cap _ (by simp) (fun i hi => ?_) 9 Tryz.underlying9
 obtain ⟨_, b', off', e, hc⟩ := h i hi
 cases e
 rw [hc, List.getD_eq_getElem?_getD, List.getElem?_map, List.getElem?_range hi]; rfl
theorem Below.drewN {B : Nat} {a w : World} (h : Below B a w) (n : Nat) : Below B a (w.drewN n) := h.trans ⟨rfl, rfl, rfl, Nat.le_refl _, fun _ _ => rfl⟩
theorem Grow.drewN {w : World} {base n : Nat} {v : Value} {f : Nat → Nat} (h : Grow w base v n f) (q : Nat) : Grow (w.drewN q) base v n f := h
theorem Blk.setCells_any {b : Nat} {t : TypeId} : ∀ (vs : List Value) (o : Nat) (w : World) (D : Array Value), Blk w b D t → ∃ D', Blk (w.setCells b o vs) b D' t ∧ D'.size = D.size
 | [], _, _, D, h => ⟨D, h, rfl⟩
 | v :: r, o, w, D, h => by
  obtain ⟨D', h1, h2⟩ := Blk.setCells_any r (o + 1) (w.setCell ⟨b, o, none⟩ v) _ (h.set o v)
  exact ⟨D', h1, by rw [h2, Array.size_setIfInBounds]⟩
theorem Own.setCells {b : Nat} : ∀ (vs : List Value) (o : Nat) (w : World), Own b w (w.setCells b o vs)
 | [], _, w => Own.refl b w
 | v :: r, o, w => ((Own.refl b w).set o v).trans (Own.setCells r (o + 1) _)
theorem Blk.setCells {w : World} {b : Nat} {D : Array Value} {t : TypeId} (h : Blk w b D t) (vs : List Value) (hs : vs.length = D.size) : Blk (w.setCells b 0 vs) b vs.toArray t := by
 obtain ⟨D', h1, h2⟩ := Blk.setCells_any vs 0 w D h
 have e : D' = vs.toArray := by
  refine Array.ext (by rw [h2, ← hs]; simp) fun j hj hj2 => ?_
  have hjl : j < vs.length := by simpa using hj2
  have hc := World.cell?_setCells_in b vs 0 w (fun i hi => by
   rw [Blk.cell h (0 + i), Array.getElem?_eq_getElem (by omega)]; rfl) j hjl
  rw [Blk.cell h1, Nat.zero_add, Array.getElem?_eq_getElem hj] at hc
  simpa using hc
 rw [← e]; exact h1
theorem Blk.there {w : World} {b : Nat} {D : Array Value} {t : TypeId} (h : Blk w b D t) {n : Nat} (hn : n ≤ D.size) : w.there b 0 n := fun j hj => by
 rw [Nat.zero_add, Blk.cell h j, Blk.free h j, Array.getElem?_eq_getElem (by omega)]
 exact ⟨rfl, rfl⟩
def numB (n size i : Nat) : Nat := n / 256 ^ (size - 1 - i) % 256
theorem numB_lt (n size i : Nat) : numB n size i < 256 := Nat.mod_lt _ (by decide)
def rorN (n x : Nat) : Nat := (x * 2 ^ (32 - n) % 4294967296) ||| (x / 2 ^ n)
def sg0 (x : Nat) : Nat := rorN 7 x ^^^ rorN 18 x ^^^ (x / 8)
def sg1 (x : Nat) : Nat := rorN 17 x ^^^ rorN 19 x ^^^ (x / 1024)
def bg0 (x : Nat) : Nat := rorN 2 x ^^^ rorN 13 x ^^^ rorN 22 x
def bg1 (x : Nat) : Nat := rorN 6 x ^^^ rorN 11 x ^^^ rorN 25 x
def chN (e f g : Nat) : Nat := (e &&& f) ^^^ ((4294967295 - e) &&& g)
def mjN (a b c : Nat) : Nat := (a &&& b) ^^^ (a &&& c) ^^^ (b &&& c)
def wd (b : Nat → Nat) (t : Nat) : Nat := b (4 * t) * 16777216 + b (4 * t + 1) * 65536 + b (4 * t + 2) * 256 + b (4 * t + 3)
def spS (w : Nat → Nat) (t : Nat) : Nat := (sg1 (w (t - 2)) + w (t - 7) + sg0 (w (t - 15)) + w (t - 16)) % 4294967296
def spK (b : Nat → Nat) : Nat → Nat → Nat
 | 0 => fun _ => 0
 | n + 1 => upd (spK b n) n (if n < 16 then wd b n else spS (spK b n) n)
def kTab : List Nat := [0x428a2f98, 0x71374491, 0xb5c0fbcf, 0xe9b5dba5, 0x3956c25b, 0x59f111f1, 0x923f82a4, 0xab1c5ed5,
 0xd807aa98, 0x12835b01, 0x243185be, 0x550c7dc3, 0x72be5d74, 0x80deb1fe, 0x9bdc06a7, 0xc19bf174,
 0xe49b69c1, 0xefbe4786, 0x0fc19dc6, 0x240ca1cc, 0x2de92c6f, 0x4a7484aa, 0x5cb0a9dc, 0x76f988da,
 0x983e5152, 0xa831c66d, 0xb00327c8, 0xbf597fc7, 0xc6e00bf3, 0xd5a79147, 0x06ca6351, 0x14292967,
 0x27b70a85, 0x2e1b2138, 0x4d2c6dfc, 0x53380d13, 0x650a7354, 0x766a0abb, 0x81c2c92e, 0x92722c85,
 0xa2bfe8a1, 0xa81a664b, 0xc24b8b70, 0xc76c51a3, 0xd192e819, 0xd6990624, 0xf40e3585, 0x106aa070,
 0x19a4c116, 0x1e376c08, 0x2748774c, 0x34b0bcb5, 0x391c0cb3, 0x4ed8aa4a, 0x5b9cca4f, 0x682e6ff3,
 0x748f82ee, 0x78a5636f, 0x84c87814, 0x8cc70208, 0x90befffa, 0xa4506ceb, 0xbef9a3f7, 0xc67178f2]
def kN (t : Nat) : Nat := kTab.getD t 0
def hTab : List Nat := [0x6a09e667, 0xbb67ae85, 0x3c6ef372, 0xa54ff53a, 0x510e527f, 0x9b05688c, 0x1f83d9ab, 0x5be0cd19]
def hN (t : Nat) : Nat := hTab.getD t 0
def t1N (v : Nat → Nat) (k w : Nat) : Nat := (v 7 + bg1 (v 4) + chN (v 4) (v 5) (v 6) + k + w) % 4294967296
def t2N (v : Nat → Nat) : Nat := (bg0 (v 0) + mjN (v 0) (v 1) (v 2)) % 4294967296
def rdS (v : Nat → Nat) (k w : Nat) : Nat → Nat := fun j => if j = 0 then (t1N v k w + t2N v) % 4294967296 else if j = 4 then (v 3 + t1N v k w) % 4294967296 else v (j - 1)
def rdK (H W : Nat → Nat) : Nat → Nat → Nat
 | 0 => H
 | n + 1 => rdS (rdK H W n) (kN n) (W n)
def mixN (H b : Nat → Nat) : Nat → Nat := fun j => (rdK H (spK b 64) 64 j + H j) % 4294967296
def chK (F : Nat → Nat) : Nat → Nat → Nat
 | 0 => hN
 | n + 1 => mixN (chK F n) (fun i => F (64 * n + i))
def blkN (n : Nat) : Nat := (n + 8) / 64 + 1
def padN (n : Nat) (F : Nat → Nat) : Nat → Nat := fun i => if i < n then F i else if i = n then 128 else if i < 64 * blkN n - 8 then 0 else numB (8 * n) 8 (i - (64 * blkN n - 8))
def shaN (n : Nat) (F : Nat → Nat) : Nat → Nat := fun j => numB (chK (padN n F) (blkN n) (j / 4)) 4 (j % 4)
theorem or32 {a b : Nat} (ha : a < 4294967296) (hb : b < 4294967296) : a ||| b < 4294967296 := Nat.or_lt_two_pow (n := 32) ha hb
theorem xor32 {a b : Nat} (ha : a < 4294967296) (hb : b < 4294967296) : a ^^^ b < 4294967296 := Nat.xor_lt_two_pow (n := 32) ha hb
theorem and32 {a b : Nat} (ha : a < 4294967296) : a &&& b < 4294967296 := Nat.lt_of_le_of_lt Nat.and_le_left ha
theorem rorN_lt {n x : Nat} (h : x < 4294967296) : rorN n x < 4294967296 := or32 (Nat.mod_lt _ (by decide)) (Nat.lt_of_le_of_lt (Nat.div_le_self _ _) h)
theorem sg0_lt {x : Nat} (h : x < 4294967296) : sg0 x < 4294967296 := xor32 (xor32 (rorN_lt h) (rorN_lt h)) (Nat.lt_of_le_of_lt (Nat.div_le_self _ _) h)
theorem sg1_lt {x : Nat} (h : x < 4294967296) : sg1 x < 4294967296 := xor32 (xor32 (rorN_lt h) (rorN_lt h)) (Nat.lt_of_le_of_lt (Nat.div_le_self _ _) h)
theorem wd_lt {b : Nat → Nat} {t : Nat} (h : ∀ i, i < 64 → b i < 256) (ht : t < 16) : wd b t < 4294967296 := by
 have h0 := h (4 * t) (by omega); have h1 := h (4 * t + 1) (by omega); have h2 := h (4 * t + 2) (by omega); have h3 := h (4 * t + 3) (by omega)
 unfold wd; omega
theorem spK_lt {b : Nat → Nat} (hb : ∀ i, i < 64 → b i < 256) : ∀ n t, spK b n t < 4294967296
 | 0, _ => by show 0 < _; decide
 | n + 1, t => by
  show upd (spK b n) n (if n < 16 then wd b n else spS (spK b n) n) t < _
  unfold upd
  split
  ·split
   ·exact wd_lt hb ‹_›
   ·exact Nat.mod_lt _ (by decide)
  ·exact spK_lt hb n t
theorem spK_keep (b : Nat → Nat) {i : Nat} : ∀ n, i < n → spK b n i = if i < 16 then wd b i else spS (spK b i) i
 | 0, h => by omega
 | n + 1, h => by
  show upd (spK b n) n (if n < 16 then wd b n else spS (spK b n) n) i = _
  by_cases e : i = n
  ·rw [e]; exact if_pos rfl
  ·exact (if_neg e).trans (spK_keep b n (by omega))
theorem spK_same (b : Nat → Nat) {i n m : Nat} (h : i < n) (h' : i < m) : spK b n i = spK b m i := by rw [spK_keep b n h, spK_keep b m h']
theorem spS_same (b : Nat → Nat) {t n : Nat} (h : 16 ≤ t) (hn : t ≤ n) : spS (spK b n) t = spS (spK b t) t := by
 unfold spS
 rw [spK_same b (n := n) (m := t) (i := t - 2) (by omega) (by omega), spK_same b (n := n) (m := t) (i := t - 7) (by omega) (by omega), spK_same b (n := n) (m := t) (i := t - 15) (by omega) (by omega), spK_same b (n := n) (m := t) (i := t - 16) (by omega) (by omega)]
theorem spK_lo (b : Nat → Nat) {t : Nat} (h : t < 16) : spK b 64 t = wd b t := (spK_keep b 64 (by omega)).trans (if_pos h)
theorem spK_hi (b : Nat → Nat) {t : Nat} (h : 16 ≤ t) (h2 : t < 64) : spK b 64 t = spS (spK b 64) t := by
 rw [spK_keep b 64 h2, if_neg (by omega), spS_same b h (show t ≤ 64 by omega)]
theorem kN_lt (t : Nat) : kN t < 4294967296 := by
 unfold kN
 rcases Nat.lt_or_ge t 64 with h | h
 ·have : ∀ t, t < 64 → kTab.getD t 0 < 4294967296 := by decide
  exact this t h
 ·rw [List.getD_eq_getElem?_getD, List.getElem?_eq_none (by simpa [kTab] using h)]; decide
theorem hN_lt (t : Nat) : hN t < 4294967296 := by
 unfold hN
 rcases Nat.lt_or_ge t 8 with h | h
 ·have : ∀ t, t < 8 → hTab.getD t 0 < 4294967296 := by decide
  exact this t h
 ·rw [List.getD_eq_getElem?_getD, List.getElem?_eq_none (by simpa [hTab] using h)]; decide
theorem rdS_lt {v : Nat → Nat} {k w : Nat} (hv : ∀ j, j < 8 → v j < 4294967296) : ∀ j, j < 8 → rdS v k w j < 4294967296 := fun j hj => by
 unfold rdS
 split
 ·exact Nat.mod_lt _ (by decide)
 ·split
  ·exact Nat.mod_lt _ (by decide)
  ·exact hv _ (by omega)
theorem rdK_lt {H W : Nat → Nat} (hH : ∀ j, j < 8 → H j < 4294967296) : ∀ n j, j < 8 → rdK H W n j < 4294967296
 | 0, j, hj => hH j hj
 | n + 1, j, hj => rdS_lt (rdK_lt hH n) j hj
theorem mixN_lt (H b : Nat → Nat) (j : Nat) : mixN H b j < 4294967296 := Nat.mod_lt _ (by decide)
theorem chK_lt (F : Nat → Nat) : ∀ n j, chK F n j < 4294967296
 | 0, j => hN_lt j
 | n + 1, j => mixN_lt _ _ j
theorem spK_congr {b c : Nat → Nat} (h : ∀ i, i < 64 → b i = c i) : ∀ n, spK b n = spK c n
 | 0 => rfl
 | n + 1 => by
  show upd (spK b n) n (if n < 16 then wd b n else spS (spK b n) n) = upd (spK c n) n (if n < 16 then wd c n else spS (spK c n) n)
  rw [spK_congr h n]
  by_cases e : n < 16
  ·rw [if_pos e, if_pos e]
   unfold wd
   rw [h (4 * n) (by omega), h (4 * n + 1) (by omega), h (4 * n + 2) (by omega), h (4 * n + 3) (by omega)]
  ·rw [if_neg e, if_neg e]
theorem mixN_congr {H b c : Nat → Nat} (h : ∀ i, i < 64 → b i = c i) : mixN H b = mixN H c := by
 unfold mixN; rw [spK_congr h 64]
theorem chK_congr {F G : Nat → Nat} : ∀ n, (∀ i, i < 64 * n → F i = G i) → chK F n = chK G n
 | 0, _ => rfl
 | n + 1, h => by
  show mixN (chK F n) _ = mixN (chK G n) _
  rw [chK_congr n (fun i hi => h i (by omega))]
  exact mixN_congr fun i hi => h _ (by omega)
theorem shaN_lt (n : Nat) (F : Nat → Nat) (j : Nat) : shaN n F j < 256 := numB_lt _ _ _
def rowW (n : Nat) (f : Nat → Nat) : List Value := (List.range n).map fun i => Value.int .u32 (f i : Nat)
theorem rowW_len (n : Nat) (f : Nat → Nat) : (rowW n f).length = n := by simp [rowW]
theorem rowW_get {n : Nat} (f : Nat → Nat) {i : Nat} (h : i < n) : (rowW n f)[i]? = some (.int .u32 (f i : Nat)) := by
 unfold rowW; rw [List.getElem?_map, List.getElem?_range h]; rfl
theorem rowW_set (n : Nat) (f : Nat → Nat) (k x : Nat) : (rowW n f).set k (.int .u32 (x : Nat)) = rowW n (upd f k x) := by
 refine List.ext_getElem? fun i => ?_
 by_cases hi : i < n
 ·rw [rowW_get _ hi]
  by_cases e : i = k
  ·subst e; rw [List.getElem?_set_self (by rw [rowW_len]; exact hi)]; simp [upd]
  ·rw [List.getElem?_set_ne (Ne.symm e), rowW_get _ hi]; simp [upd, e]
 ·rw [List.getElem?_eq_none (by rw [List.length_set, rowW_len]; omega), List.getElem?_eq_none (by rw [rowW_len]; omega)]
theorem rowW_congr {n : Nat} {f g : Nat → Nat} (h : ∀ i, i < n → f i = g i) : rowW n f = rowW n g := by
 unfold rowW; exact List.map_congr_left fun i hi => by rw [h i (List.mem_range.1 hi)]
theorem rowW_one (n : Nat) (f : Nat → Nat) : ∀ v ∈ rowW n f, v.oneCell' = true := by
 intro v hv; unfold rowW at hv; obtain ⟨i, _, rfl⟩ := List.mem_map.1 hv; rfl
theorem rowW_size (n : Nat) (f : Nat → Nat) : (rowW n f).toArray.size = n := by rw [List.size_toArray, rowW_len]
theorem rowC_size (n : Nat) (f : Nat → Nat) : (rowC n f).toArray.size = n := by rw [List.size_toArray, rowC_len]
def WB (t : TypeId) (n g : Nat) (f : Nat → Nat) (w : World) : Prop := Blk w g (rowW n f).toArray t
theorem WB.cell {t : TypeId} {n g : Nat} {f : Nat → Nat} {w : World} (h : WB t n g f w) {i : Nat} (hi : i < n) : w.cell? ⟨g, i, none⟩ = some (.int .u32 (f i : Nat)) := by
 rw [Blk.cell h i]; simpa using rowW_get f hi
theorem WB.val {t : TypeId} {n g : Nat} {f : Nat → Nat} {w : World} (h : WB t n g f w) {i x : Nat} (hi : i < n) (hx : f i = x) : w.cell? ⟨g, i, none⟩ = some (.int .u32 (x : Nat)) := by rw [← hx]; exact h.cell hi
theorem WB.set {t : TypeId} {n g : Nat} {f : Nat → Nat} {w : World} (h : WB t n g f w) (k x : Nat) : WB t n g (upd f k x) (w.setCell ⟨g, k, none⟩ (.int .u32 (x : Nat))) := by
 have := Blk.set h k (.int .u32 (x : Nat))
 rw [List.setIfInBounds_toArray, rowW_set] at this; exact this
theorem WB.congr {t : TypeId} {n g : Nat} {f f' : Nat → Nat} {w : World} (h : WB t n g f w) (he : ∀ i, i < n → f i = f' i) : WB t n g f' w := by
 unfold WB at h ⊢; rw [← rowW_congr he]; exact h
theorem WB.free {t : TypeId} {n g : Nat} {f : Nat → Nat} {w : World} (h : WB t n g f w) (k : Nat) : w.frozen? ⟨g, k, none⟩ = false := Blk.free h k
def RB (t : TypeId) (n g : Nat) (f : Nat → Nat) (w : World) : Prop := Blk w g (rowC n f).toArray t
theorem RB.cell {t : TypeId} {n g : Nat} {f : Nat → Nat} {w : World} (h : RB t n g f w) {i : Nat} (hi : i < n) : w.cell? ⟨g, i, none⟩ = some (.int .u8 (f i : Nat)) := by
 rw [Blk.cell h i]; simpa using rowC_get f hi
theorem RB.val {t : TypeId} {n g : Nat} {f : Nat → Nat} {w : World} (h : RB t n g f w) {i x : Nat} (hi : i < n) (hx : f i = x) : w.cell? ⟨g, i, none⟩ = some (.int .u8 (x : Nat)) := by rw [← hx]; exact h.cell hi
theorem RB.set {t : TypeId} {n g : Nat} {f : Nat → Nat} {w : World} (h : RB t n g f w) (k x : Nat) : RB t n g (upd f k x) (w.setCell ⟨g, k, none⟩ (.int .u8 (x : Nat))) := by
 have := Blk.set h k (.int .u8 (x : Nat))
 rw [List.setIfInBounds_toArray, rowC_set] at this; exact this
theorem RB.congr {t : TypeId} {n g : Nat} {f f' : Nat → Nat} {w : World} (h : RB t n g f w) (he : ∀ i, i < n → f i = f' i) : RB t n g f' w := by
 unfold RB at h ⊢; rw [← rowC_congr he]; exact h
theorem RB.free {t : TypeId} {n g : Nat} {f : Nat → Nat} {w : World} (h : RB t n g f w) (k : Nat) : w.frozen? ⟨g, k, none⟩ = false := Blk.free h k
def hshC (H R : Nat → Nat) (k n : Nat) : List Value := rowW 8 H ++ (rowC 64 R ++ [.int .i64 (k : Nat), .int .u64 (n : Nat)])
theorem hshC_len (H R : Nat → Nat) (k n : Nat) : (hshC H R k n).length = 74 := by
 unfold hshC; rw [List.length_append, List.length_append, rowW_len, rowC_len]; rfl
theorem hshC_size (H R : Nat → Nat) (k n : Nat) : (hshC H R k n).toArray.size = 74 := by rw [List.size_toArray, hshC_len]
theorem hshC_w (H R : Nat → Nat) (k n : Nat) {i : Nat} (h : i < 8) : (hshC H R k n)[i]? = some (.int .u32 (H i : Nat)) := by
 unfold hshC; rw [List.getElem?_append_left (by rw [rowW_len]; exact h)]; exact rowW_get H h
theorem hshC_r (H R : Nat → Nat) (k n : Nat) {i : Nat} (h : i < 64) : (hshC H R k n)[8 + i]? = some (.int .u8 (R i : Nat)) := by
 unfold hshC
 rw [List.getElem?_append_right (by rw [rowW_len]; omega), rowW_len, show 8 + i - 8 = i by omega, List.getElem?_append_left (by rw [rowC_len]; exact h)]; exact rowC_get R h
theorem hshC_k (H R : Nat → Nat) (k n : Nat) : (hshC H R k n)[72]? = some (.int .i64 (k : Nat)) := by
 unfold hshC
 rw [List.getElem?_append_right (by rw [rowW_len]; omega), rowW_len, List.getElem?_append_right (by rw [rowC_len]; omega), rowC_len]; rfl
theorem hshC_n (H R : Nat → Nat) (k n : Nat) : (hshC H R k n)[73]? = some (.int .u64 (n : Nat)) := by
 unfold hshC
 rw [List.getElem?_append_right (by rw [rowW_len]; omega), rowW_len, List.getElem?_append_right (by rw [rowC_len]; omega), rowC_len]; rfl
theorem hshC_ext {L : List Value} {H R : Nat → Nat} {k n : Nat} (hl : L.length = 74) (hw : ∀ i, i < 8 → L[i]? = some (.int .u32 (H i : Nat))) (hr : ∀ i, i < 64 → L[8 + i]? = some (.int .u8 (R i : Nat))) (hk : L[72]? = some (.int .i64 (k : Nat))) (hn : L[73]? = some (.int .u64 (n : Nat))) : L = hshC H R k n := by
 refine List.ext_getElem? fun i => ?_
 rcases Nat.lt_or_ge i 8 with h | h
 ·rw [hw i h, hshC_w _ _ _ _ h]
 ·rcases Nat.lt_or_ge i 72 with h2 | h2
  ·obtain ⟨j, rfl⟩ : ∃ j, i = 8 + j := ⟨i - 8, by omega⟩
   rw [hr j (by omega), hshC_r _ _ _ _ (by omega)]
  ·rcases Nat.lt_or_ge i 74 with h3 | h3
   ·rcases (by omega : i = 72 ∨ i = 73) with rfl | rfl
    ·rw [hk, hshC_k]
    ·rw [hn, hshC_n]
   ·rw [List.getElem?_eq_none (by omega), List.getElem?_eq_none (by rw [hshC_len]; omega)]
theorem splice_get {L cs : List Value} {off : Nat} (h : off + cs.length ≤ L.length) (i : Nat) : (splice L off cs)[i]? = if i < off then L[i]? else if i < off + cs.length then cs[i - off]? else L[i]? := by
 unfold splice
 by_cases h1 : i < off
 ·rw [if_pos h1, List.getElem?_append_left (by rw [List.length_take]; omega), List.getElem?_take_of_lt h1]
 ·rw [if_neg h1, List.getElem?_append_right (by rw [List.length_take]; omega), List.length_take, Nat.min_eq_left (by omega)]
  by_cases h2 : i < off + cs.length
  ·rw [if_pos h2, List.getElem?_append_left (by omega)]
  ·rw [if_neg h2, List.getElem?_append_right (by omega), List.getElem?_drop, show off + cs.length + (i - off - cs.length) = i by omega]
theorem hshC_words (H R H' : Nat → Nat) (k n : Nat) : splice (hshC H R k n) 0 (rowW 8 H') = hshC H' R k n := by
 have hf : 0 + (rowW 8 H').length ≤ (hshC H R k n).length := by rw [rowW_len, hshC_len]; omega
 refine hshC_ext (by rw [length_splice _ _ _ hf, hshC_len]) (fun i hi => ?_) (fun i hi => ?_) ?_ ?_
 ·rw [splice_get hf, if_neg (by omega), rowW_len, if_pos (by omega), Nat.sub_zero]; exact rowW_get H' hi
 ·rw [splice_get hf, if_neg (by omega), rowW_len, if_neg (by omega)]; exact hshC_r _ _ _ _ hi
 ·rw [splice_get hf, if_neg (by omega), rowW_len, if_neg (by omega)]; exact hshC_k _ _ _ _
 ·rw [splice_get hf, if_neg (by omega), rowW_len, if_neg (by omega)]; exact hshC_n _ _ _ _
def cpy (R G : Nat → Nat) (k c : Nat) : Nat → Nat := fun i => if k ≤ i ∧ i < k + c then G (i - k) else R i
theorem hshC_copy (H R G : Nat → Nat) (k n o c : Nat) (hc : o + c ≤ 64) : splice (hshC H R k n) (8 + o) (rowC c G) = hshC H (cpy R G o c) k n := by
 have hf : 8 + o + (rowC c G).length ≤ (hshC H R k n).length := by rw [rowC_len, hshC_len]; omega
 refine hshC_ext (by rw [length_splice _ _ _ hf, hshC_len]) (fun i hi => ?_) (fun i hi => ?_) ?_ ?_
 ·rw [splice_get hf, if_pos (by omega)]; exact hshC_w _ _ _ _ hi
 ·rw [splice_get hf, rowC_len]
  unfold cpy
  by_cases h1 : 8 + i < 8 + o
  ·rw [if_pos h1, if_neg (by omega)]; exact hshC_r _ _ _ _ hi
  ·rw [if_neg h1]
   by_cases h2 : 8 + i < 8 + o + c
   ·rw [if_pos h2, if_pos (by omega), show 8 + i - (8 + o) = i - o by omega]; exact rowC_get G (by omega)
   ·rw [if_neg h2, if_neg (by omega)]; exact hshC_r _ _ _ _ hi
 ·rw [splice_get hf, if_neg (by omega), rowC_len, if_neg (by omega)]; exact hshC_k _ _ _ _
 ·rw [splice_get hf, if_neg (by omega), rowC_len, if_neg (by omega)]; exact hshC_n _ _ _ _
theorem hshC_setk (H R : Nat → Nat) (k k' n : Nat) : (hshC H R k n).set 72 (.int .i64 (k' : Nat)) = hshC H R k' n := by
 refine hshC_ext (by rw [List.length_set, hshC_len]) (fun i hi => ?_) (fun i hi => ?_) ?_ ?_
 ·rw [List.getElem?_set_ne (by omega)]; exact hshC_w _ _ _ _ hi
 ·rw [List.getElem?_set_ne (by omega)]; exact hshC_r _ _ _ _ hi
 ·rw [List.getElem?_set_self (by rw [hshC_len]; omega)]
 ·rw [List.getElem?_set_ne (by omega)]; exact hshC_n _ _ _ _
theorem hshC_setn (H R : Nat → Nat) (k n n' : Nat) : (hshC H R k n).set 73 (.int .u64 (n' : Nat)) = hshC H R k n' := by
 refine hshC_ext (by rw [List.length_set, hshC_len]) (fun i hi => ?_) (fun i hi => ?_) ?_ ?_
 ·rw [List.getElem?_set_ne (by omega)]; exact hshC_w _ _ _ _ hi
 ·rw [List.getElem?_set_ne (by omega)]; exact hshC_r _ _ _ _ hi
 ·rw [List.getElem?_set_ne (by omega)]; exact hshC_k _ _ _ _
 ·rw [List.getElem?_set_self (by rw [hshC_len]; omega)]
theorem hshC_one (H R : Nat → Nat) (k n : Nat) : ∀ v ∈ hshC H R k n, v.oneCell' = true := by
 intro v hv
 unfold hshC at hv
 rcases List.mem_append.1 hv with h | h
 ·exact rowW_one _ _ v h
 ·rcases List.mem_append.1 h with h | h
  ·exact rowC_one _ _ v h
  ·simp only [List.mem_cons, List.not_mem_nil, or_false] at h
   rcases h with rfl | rfl <;> rfl
def HB (w : World) (g : Nat) (H R : Nat → Nat) (k n : Nat) : Prop := Blk w g (hshC H R k n).toArray 162
theorem HB.word {w : World} {g : Nat} {H R : Nat → Nat} {k n : Nat} (h : HB w g H R k n) {i : Nat} (hi : i < 8) : w.cell? ⟨g, i, none⟩ = some (.int .u32 (H i : Nat)) := by
 rw [Blk.cell h i]; simpa using hshC_w H R k n hi
theorem HB.byte {w : World} {g : Nat} {H R : Nat → Nat} {k n : Nat} (h : HB w g H R k n) {i : Nat} (hi : i < 64) : w.cell? ⟨g, 8 + i, none⟩ = some (.int .u8 (R i : Nat)) := by
 rw [Blk.cell h (8 + i)]; simpa using hshC_r H R k n hi
theorem HB.held {w : World} {g : Nat} {H R : Nat → Nat} {k n : Nat} (h : HB w g H R k n) : w.cell? ⟨g, 72, none⟩ = some (.int .i64 (k : Nat)) := by
 rw [Blk.cell h 72]; simpa using hshC_k H R k n
theorem HB.all {w : World} {g : Nat} {H R : Nat → Nat} {k n : Nat} (h : HB w g H R k n) : w.cell? ⟨g, 73, none⟩ = some (.int .u64 (n : Nat)) := by
 rw [Blk.cell h 73]; simpa using hshC_n H R k n
theorem HB.setk {w : World} {g : Nat} {H R : Nat → Nat} {k n : Nat} (h : HB w g H R k n) (k' : Nat) : HB (w.setCell ⟨g, 72, none⟩ (.int .i64 (k' : Nat))) g H R k' n := by
 have := Blk.set h 72 (.int .i64 (k' : Nat))
 rw [List.setIfInBounds_toArray, hshC_setk] at this; exact this
theorem HB.setn {w : World} {g : Nat} {H R : Nat → Nat} {k n : Nat} (h : HB w g H R k n) (n' : Nat) : HB (w.setCell ⟨g, 73, none⟩ (.int .u64 (n' : Nat))) g H R k n' := by
 have := Blk.set h 73 (.int .u64 (n' : Nat))
 rw [List.setIfInBounds_toArray, hshC_setn] at this; exact this
theorem Blk.setMid {w : World} {b : Nat} {D : List Value} {t : TypeId} (h : Blk w b D.toArray t) (o : Nat) (vs : List Value) (hs : o + vs.length ≤ D.length) : Blk (w.setCells b o vs) b (splice D o vs).toArray t := by
 obtain ⟨D', h1, h2⟩ := Blk.setCells_any vs o w _ h
 have e : D' = (splice D o vs).toArray := by
  refine Array.ext (by rw [h2, List.size_toArray, List.size_toArray, length_splice _ _ _ hs]) fun j hj hj2 => ?_
  have hc1 : (w.setCells b o vs).cell? ⟨b, j, none⟩ = some D'[j] := by rw [Blk.cell h1, Array.getElem?_eq_getElem hj]
  have hjl : j < D.length := by rw [h2, List.size_toArray] at hj; exact hj
  have hD : ∀ i, i < D.length → w.cell? ⟨b, i, none⟩ = D[i]? := fun i hi => by rw [Blk.cell h i]; simp
  have hg : (splice D o vs)[j]? = some (splice D o vs).toArray[j] := by
   rw [List.getElem?_eq_getElem (by simpa using hj2)]; simp
  rw [splice_get hs] at hg
  by_cases h3 : o ≤ j ∧ j < o + vs.length
  ·rw [if_neg (by omega), if_pos h3.2] at hg
   have hi := World.cell?_setCells_in b vs o w (fun i hi => by rw [hD _ (by omega), List.getElem?_eq_getElem (by omega)]; rfl) (j - o) (by omega)
   rw [show o + (j - o) = j by omega] at hi
   rw [hc1] at hi
   rw [← List.getElem?_eq_getElem (by omega)] at hi
   rw [hg] at hi
   exact Option.some.inj hi
  ·have ho := World.cell?_setCells_out b vs o w ⟨b, j, none⟩ (by simp; omega)
   rw [hc1, hD j hjl] at ho
   have : D[j]? = some (splice D o vs).toArray[j] := by
    by_cases h4 : j < o
    ·rw [if_pos h4] at hg; exact hg
    ·rw [if_neg h4, if_neg (by omega)] at hg; exact hg
   rw [this] at ho
   exact Option.some.inj ho
 rw [← e]; exact h1
theorem HB.words {w : World} {g : Nat} {H R : Nat → Nat} {k n : Nat} (h : HB w g H R k n) (H' : Nat → Nat) : HB (w.setCells g 0 (rowW 8 H').toArray.toList) g H' R k n := by
 have := Blk.setMid h 0 (rowW 8 H') (by rw [rowW_len, hshC_len]; omega)
 rw [hshC_words] at this; exact this
def GV (w : World) : Prop := (∀ i, i < 8 → w.cell? ⟨1, i, none⟩ = some (.int .u32 (hN i : Nat))) ∧ (∀ i, i < 64 → w.cell? ⟨2, i, none⟩ = some (.int .u32 (kN i : Nat)))
theorem GV.later {w w' : World} (h : GV w) (hb : Below w.heap.size w w') : GV w' := ⟨fun i hi => cell_below hb (h.1 i hi), fun i hi => cell_below hb (h.2 i hi)⟩
theorem GV.lt {w : World} (h : GV w) : 1 < w.heap.size ∧ 2 < w.heap.size := by
 constructor
 ·rcases Nat.lt_or_ge 1 w.heap.size with h' | h'
  ·exact h'
  ·have := h.1 0 (by decide); simp [World.cell?, Array.getElem?_eq_none h'] at this
 ·rcases Nat.lt_or_ge 2 w.heap.size with h' | h'
  ·exact h'
  ·have := h.2 0 (by decide); simp [World.cell?, Array.getElem?_eq_none h'] at this
theorem GV.own {w w' : World} {b : Nat} (h : GV w) (hO : Own b w w') (h0 : b ≠ 1) (h1 : b ≠ 2) : GV w' :=
 ⟨fun i hi => hO.cell (h.1 i hi) (fun e => h0 e.symm), fun i hi => hO.cell (h.2 i hi) (fun e => h1 e.symm)⟩
theorem GV.drew {w : World} (h : GV w) : GV w.drew := h.later (Below.refl _ w).drew
theorem wpList_value {ops : Array Oper} {rest : List Oper} {o : Oper} {a : Act} {w : World} {Q : Exit → Act → World → Prop} {v : Value} (hgd : o.guard = none) (he : (execOp a.eval o).run Tryz.prog w = .ok (.value v) w)
  (hk : wpList Tryz.prog ops Q rest (a.put o.dst v) w) : wpList Tryz.prog ops Q (o :: rest) a w := by
 refine wpList_plain hgd fun K hK => ?_
 unfold Oper.wp
 rw [he]
 exact hK _ _ hk
theorem still_lit {id : Nat} {Q : Exit → Act → World → Prop} {a : Act} {w : World} {l : List Oper} (hm : Tryz.prog.follows .mixedOrders = true) (hB : Region.lexB .any l.toArray = true)
  (h : wpStill Tryz.prog l.toArray w.drew (fun a' => Q .normal a' w.drew) l a) : (Code.region id l.toArray true).wp Tryz.prog Q a w := wp_region_still_lit hm hB h
theorem still_tail {id : Nat} {Q : Exit → Act → World → Prop} {a : Act} {w : World} {l : List Oper} (n : Nat) (hm : Tryz.prog.follows .mixedOrders = true) (hB : Region.lexTailB .any l.toArray n = true)
  (h : wpStill Tryz.prog l.toArray w.drew (fun a' => wpList Tryz.prog l.toArray Q (l.drop n) a' w.drew) (l.take n) a) : (Code.region id l.toArray true).wp Tryz.prog Q a w := wp_region_still_tail n hm hB h
theorem step_storeM {ops : Array Oper} {o : Oper} {a : Act} {w : World} {K : Act → World → Prop} {Q : Exit → Act → World → Prop} {E : Prop} (hgd : o.guard = none) (ty : TypeId) (x y : Operand) (ho : o.op = .store ty x y) (b off : Nat) (cells : Array Value) (hx : a.eval x = .pointer (some ⟨b, off, none⟩)) (hy : a.eval y = .agg cells)
  (ht : w.there b off cells.size) (hi : (Tryz.prog.info? ty).map (·.size) = some cells.size) (h1 : cells.all (·.oneCell') = true) (h : K (a.put o.dst undef) (w.setCells b off cells.toList)) : if Region.wanted o (yielded ops a.tmps) = true then Oper.wp Tryz.prog o a w K Q else E := by
 have hw : Region.wanted o (yielded ops a.tmps) = true := by simp [Region.wanted, hgd]
 rw [if_pos hw]
 exact wp_store_mid ty x y ho b off cells hx hy ht hi h1 h
theorem step_loadM {ops : Array Oper} {o : Oper} {a : Act} {w : World} {K : Act → World → Prop} {Q : Exit → Act → World → Prop} {E : Prop} (hgd : o.guard = none) (ty : TypeId) (x : Operand) (ho : o.op = .load ty x) (b off : Nat) (hx : a.eval x = .pointer (some ⟨b, off, none⟩)) (cs : List Value) (d : TypeDesc) (hc : w.rangeAt b off cs)
  (hu : Tryz.prog.underlying ty = some d) (hd : d.isRow = true) (hi : (Tryz.prog.info? ty).map (·.size) = some cs.length) (h : K (a.put o.dst (.agg cs.toArray)) w) : if Region.wanted o (yielded ops a.tmps) = true then Oper.wp Tryz.prog o a w K Q else E := by
 have hw : Region.wanted o (yielded ops a.tmps) = true := by simp [Region.wanted, hgd]
 rw [if_pos hw]
 exact wp_load_mid ty x ho b off hx cs d hc hu hd hi h
theorem there_mid {w : World} {g : Nat} {D : List Value} {t : TypeId} (h : Blk w g D.toArray t) {o n : Nat} (hn : o + n ≤ D.length) : w.there g o n := fun j hj => by
 rw [Blk.cell h, Blk.free h]
 refine ⟨?_, rfl⟩
 rw [Array.getElem?_eq_getElem (by rw [List.size_toArray]; omega)]; rfl
theorem HB.rangeW {w : World} {g : Nat} {H R : Nat → Nat} {k n : Nat} (h : HB w g H R k n) : w.rangeAt g 0 (rowW 8 H) := fun j v hv => by
 have hj : j < 8 := by have := (List.getElem?_eq_some_iff.1 hv).1; rw [rowW_len] at this; exact this
 rw [rowW_get H hj] at hv
 rw [Nat.zero_add, h.word hj]; exact hv
theorem HB.rangeR {w : World} {g : Nat} {H R : Nat → Nat} {k n : Nat} (h : HB w g H R k n) : w.rangeAt g 8 (rowC 64 R) := fun j v hv => by
 have hj : j < 64 := by have := (List.getElem?_eq_some_iff.1 hv).1; rw [rowC_len] at this; exact this
 rw [rowC_get R hj] at hv
 rw [h.byte hj]; exact hv
theorem wrs {c r k : Nat} (h : c + r = k) (hk : k < 1000) : IntKind.i64.wrap ((c : Int) + (r : Int)) = (k : Int) := by rw [IntWalk.i64_in _ (by omega)]; omega
theorem wrm {a b k : Nat} {m : Int} (hm : m = (b : Int)) (h : a * b = k) (hk : k < 1000) : IntKind.i64.wrap ((a : Int) * m) = (k : Int) := by
 subst hm
 have e : (a : Int) * (b : Int) = (k : Int) := by rw [← h]; exact (Int.natCast_mul a b).symm
 rw [e]; exact IntWalk.i64_in _ (by omega)
theorem wrn {a b k : Nat} {m : Int} (hm : m = (b : Int)) (h : b * a = k) (hk : k < 1000) : IntKind.i64.wrap (m * (a : Int)) = (k : Int) := by
 subst hm
 have e : (b : Int) * (a : Int) = (k : Int) := by rw [← h]; exact (Int.natCast_mul b a).symm
 rw [e]; exact IntWalk.i64_in _ (by omega)
theorem wrk {i k n : Nat} {m : Int} (hm : m = (n : Int)) (h : i + n = k) (hk : k < 1000) : IntKind.i64.wrap ((i : Int) + m) = (k : Int) := by subst hm; rw [IntWalk.i64_in _ (by omega)]; omega
theorem wrb {i k n : Nat} {m : Int} (hm : m = (n : Int)) (h : i = k + n) (hk : i < 1000) : IntKind.i64.wrap ((i : Int) - m) = (k : Int) := by subst hm; rw [IntWalk.i64_in _ (by omega)]; omega
theorem tmk {j r n : Nat} {m : Int} (hm : m = (n : Int)) (h : j % n = r) : ((j : Nat) : Int).tmod m = (r : Int) := by subst hm; rw [Int.tmod_eq_emod_of_nonneg (by omega)]; rw [← h]; exact (Int.natCast_emod j n).symm
theorem tdk {j r n : Nat} {m : Int} (hm : m = (n : Int)) (h : j / n = r) : ((j : Nat) : Int).tdiv m = (r : Int) := by subst hm; rw [Int.tdiv_eq_ediv_of_nonneg (by omega)]; rw [← h]; exact (Int.natCast_ediv j n).symm
theorem u32m (a b : Int) {c d e : Nat} (ha : a = (c : Int)) (hb : b = (d : Int)) (h : (c + d) % 4294967296 = e) : IntKind.u32.wrap (a + b) = (e : Int) := by
 subst ha hb; rw [← h]; simp [IntKind.wrap, IntKind.bits, IntKind.signed]
set_option maxHeartbeats 400000
theorem or_add {a b k : Nat} (hb : b < 2 ^ k) : (a * 2 ^ k) ||| b = a * 2 ^ k + b := by
 rw [Nat.mul_comm, ← Nat.two_pow_add_eq_or_of_lt hb a]
theorem u32_join {a b : Int} (k : Nat) (ha : 0 ≤ a) (hb : 0 ≤ b) (hbk : b < (2 ^ k : Nat)) (h : a * (2 ^ k : Nat) + b < 4294967296) : bits .or .u32 (a * (2 ^ k : Nat)) b = a * (2 ^ k : Nat) + b := by
 obtain ⟨n, rfl⟩ := Int.eq_ofNat_of_zero_le ha
 obtain ⟨m, rfl⟩ := Int.eq_ofNat_of_zero_le hb
 have h1 : m < 2 ^ k := by omega
 have h2 : ((n : Int) * ((2 ^ k : Nat) : Int)) = ((n * 2 ^ k : Nat) : Int) := (Int.natCast_mul _ _).symm
 rw [h2] at h ⊢
 rw [u32_or_nat _ _ (by omega) (by omega), or_add h1]; omega
theorem u32_join4 {y3 y2 y1 y0 : Int} (b3 : 0 ≤ y3 ∧ y3 < 256) (b2 : 0 ≤ y2 ∧ y2 < 256) (b1 : 0 ≤ y1 ∧ y1 < 256) (b0 : 0 ≤ y0 ∧ y0 < 256) :
  bits .or .u32 (bits .or .u32 (bits .or .u32 (y3 * 16777216) (y2 * 65536)) (y1 * 256)) y0 = y3 * 16777216 + y2 * 65536 + y1 * 256 + y0 := by
 have e1 := u32_join (a := y3) (b := y2 * 65536) 24 b3.1 (by omega) (by omega) (by omega)
 rw [show ((2 ^ 24 : Nat) : Int) = 16777216 from by decide] at e1
 have e2 := u32_join (a := y3 * 256 + y2) (b := y1 * 256) 16 (by omega) (by omega) (by omega) (by omega)
 rw [show ((2 ^ 16 : Nat) : Int) = 65536 from by decide, show (y3 * 256 + y2) * 65536 = y3 * 16777216 + y2 * 65536 from by omega] at e2
 have e3 := u32_join (a := y3 * 65536 + y2 * 256 + y1) (b := y0) 8 (by omega) (by omega) (by omega) (by omega)
 rw [show ((2 ^ 8 : Nat) : Int) = 256 from by decide, show (y3 * 65536 + y2 * 256 + y1) * 256 = y3 * 16777216 + y2 * 65536 + y1 * 256 from by omega] at e3
 rw [e1, e2, e3]
theorem rl2_any (a : Nat) (w : World) (h : a < 4294967296) :
  Calls Tryz.prog 77 #[.int .u32 (a : Nat), .int .i64 (-2)] w fun e w' => e = .returned (.int .u32 (rorN 2 a : Nat)) ∧ w' = w := by
 have hb : bits .and .u64 (IntKind.u64.wrap (-2)) 31 = 30 := by decide
 have e1 : bits .or .u32 ((a : Int) * 1073741824 % 4294967296) ((a : Int) / 4) = (rorN 2 a : Nat) := by
  rw [show (a : Int) * 1073741824 % 4294967296 = ((a * 1073741824 % 4294967296 : Nat) : Int) from by omega, show (a : Int) / 4 = ((a / 4 : Nat) : Int) from by omega]
  exact u32_or_nat _ _ (Nat.mod_lt _ (by decide)) (by omega)
 have E1 := zh e1
 clear e1
 go_enter Tryz.func77, Tryz.ntmps77
 go_wp2
 go_ret
 exact ⟨by rw [E1.out]; rfl, rfl⟩
theorem ror2_any (a : Nat) (w : World) (h : a < 4294967296) :
  Calls Tryz.prog 99 #[.int .u32 (a : Nat), .int .i64 2] w fun e w' => e = .returned (.int .u32 (rorN 2 a : Nat)) ∧ w' = w := by
 have HC := zh (rl2_any a w h)
 go_enter Tryz.func99, Tryz.ntmps99
 go_wp2_with fail
 refine HC.out.mono ?_
 rintro e w' ⟨rfl, rfl⟩
 go_wp2_with fail
 go_ret
 exact ⟨rfl, rfl⟩
theorem rl6_any (a : Nat) (w : World) (h : a < 4294967296) :
  Calls Tryz.prog 77 #[.int .u32 (a : Nat), .int .i64 (-6)] w fun e w' => e = .returned (.int .u32 (rorN 6 a : Nat)) ∧ w' = w := by
 have hb : bits .and .u64 (IntKind.u64.wrap (-6)) 31 = 26 := by decide
 have e1 : bits .or .u32 ((a : Int) * 67108864 % 4294967296) ((a : Int) / 64) = (rorN 6 a : Nat) := by
  rw [show (a : Int) * 67108864 % 4294967296 = ((a * 67108864 % 4294967296 : Nat) : Int) from by omega, show (a : Int) / 64 = ((a / 64 : Nat) : Int) from by omega]
  exact u32_or_nat _ _ (Nat.mod_lt _ (by decide)) (by omega)
 have E1 := zh e1
 clear e1
 go_enter Tryz.func77, Tryz.ntmps77
 go_wp2
 go_ret
 exact ⟨by rw [E1.out]; rfl, rfl⟩
theorem ror6_any (a : Nat) (w : World) (h : a < 4294967296) :
  Calls Tryz.prog 99 #[.int .u32 (a : Nat), .int .i64 6] w fun e w' => e = .returned (.int .u32 (rorN 6 a : Nat)) ∧ w' = w := by
 have HC := zh (rl6_any a w h)
 go_enter Tryz.func99, Tryz.ntmps99
 go_wp2_with fail
 refine HC.out.mono ?_
 rintro e w' ⟨rfl, rfl⟩
 go_wp2_with fail
 go_ret
 exact ⟨rfl, rfl⟩
theorem rl7_any (a : Nat) (w : World) (h : a < 4294967296) :
  Calls Tryz.prog 77 #[.int .u32 (a : Nat), .int .i64 (-7)] w fun e w' => e = .returned (.int .u32 (rorN 7 a : Nat)) ∧ w' = w := by
 have hb : bits .and .u64 (IntKind.u64.wrap (-7)) 31 = 25 := by decide
 have e1 : bits .or .u32 ((a : Int) * 33554432 % 4294967296) ((a : Int) / 128) = (rorN 7 a : Nat) := by
  rw [show (a : Int) * 33554432 % 4294967296 = ((a * 33554432 % 4294967296 : Nat) : Int) from by omega, show (a : Int) / 128 = ((a / 128 : Nat) : Int) from by omega]
  exact u32_or_nat _ _ (Nat.mod_lt _ (by decide)) (by omega)
 have E1 := zh e1
 clear e1
 go_enter Tryz.func77, Tryz.ntmps77
 go_wp2
 go_ret
 exact ⟨by rw [E1.out]; rfl, rfl⟩
theorem ror7_any (a : Nat) (w : World) (h : a < 4294967296) :
  Calls Tryz.prog 99 #[.int .u32 (a : Nat), .int .i64 7] w fun e w' => e = .returned (.int .u32 (rorN 7 a : Nat)) ∧ w' = w := by
 have HC := zh (rl7_any a w h)
 go_enter Tryz.func99, Tryz.ntmps99
 go_wp2_with fail
 refine HC.out.mono ?_
 rintro e w' ⟨rfl, rfl⟩
 go_wp2_with fail
 go_ret
 exact ⟨rfl, rfl⟩
theorem rl11_any (a : Nat) (w : World) (h : a < 4294967296) :
  Calls Tryz.prog 77 #[.int .u32 (a : Nat), .int .i64 (-11)] w fun e w' => e = .returned (.int .u32 (rorN 11 a : Nat)) ∧ w' = w := by
 have hb : bits .and .u64 (IntKind.u64.wrap (-11)) 31 = 21 := by decide
 have e1 : bits .or .u32 ((a : Int) * 2097152 % 4294967296) ((a : Int) / 2048) = (rorN 11 a : Nat) := by
  rw [show (a : Int) * 2097152 % 4294967296 = ((a * 2097152 % 4294967296 : Nat) : Int) from by omega, show (a : Int) / 2048 = ((a / 2048 : Nat) : Int) from by omega]
  exact u32_or_nat _ _ (Nat.mod_lt _ (by decide)) (by omega)
 have E1 := zh e1
 clear e1
 go_enter Tryz.func77, Tryz.ntmps77
 go_wp2
 go_ret
 exact ⟨by rw [E1.out]; rfl, rfl⟩
theorem ror11_any (a : Nat) (w : World) (h : a < 4294967296) :
  Calls Tryz.prog 99 #[.int .u32 (a : Nat), .int .i64 11] w fun e w' => e = .returned (.int .u32 (rorN 11 a : Nat)) ∧ w' = w := by
 have HC := zh (rl11_any a w h)
 go_enter Tryz.func99, Tryz.ntmps99
 go_wp2_with fail
 refine HC.out.mono ?_
 rintro e w' ⟨rfl, rfl⟩
 go_wp2_with fail
 go_ret
 exact ⟨rfl, rfl⟩
theorem rl13_any (a : Nat) (w : World) (h : a < 4294967296) :
  Calls Tryz.prog 77 #[.int .u32 (a : Nat), .int .i64 (-13)] w fun e w' => e = .returned (.int .u32 (rorN 13 a : Nat)) ∧ w' = w := by
 have hb : bits .and .u64 (IntKind.u64.wrap (-13)) 31 = 19 := by decide
 have e1 : bits .or .u32 ((a : Int) * 524288 % 4294967296) ((a : Int) / 8192) = (rorN 13 a : Nat) := by
  rw [show (a : Int) * 524288 % 4294967296 = ((a * 524288 % 4294967296 : Nat) : Int) from by omega, show (a : Int) / 8192 = ((a / 8192 : Nat) : Int) from by omega]
  exact u32_or_nat _ _ (Nat.mod_lt _ (by decide)) (by omega)
 have E1 := zh e1
 clear e1
 go_enter Tryz.func77, Tryz.ntmps77
 go_wp2
 go_ret
 exact ⟨by rw [E1.out]; rfl, rfl⟩
theorem ror13_any (a : Nat) (w : World) (h : a < 4294967296) :
  Calls Tryz.prog 99 #[.int .u32 (a : Nat), .int .i64 13] w fun e w' => e = .returned (.int .u32 (rorN 13 a : Nat)) ∧ w' = w := by
 have HC := zh (rl13_any a w h)
 go_enter Tryz.func99, Tryz.ntmps99
 go_wp2_with fail
 refine HC.out.mono ?_
 rintro e w' ⟨rfl, rfl⟩
 go_wp2_with fail
 go_ret
 exact ⟨rfl, rfl⟩
theorem rl17_any (a : Nat) (w : World) (h : a < 4294967296) :
  Calls Tryz.prog 77 #[.int .u32 (a : Nat), .int .i64 (-17)] w fun e w' => e = .returned (.int .u32 (rorN 17 a : Nat)) ∧ w' = w := by
 have hb : bits .and .u64 (IntKind.u64.wrap (-17)) 31 = 15 := by decide
 have e1 : bits .or .u32 ((a : Int) * 32768 % 4294967296) ((a : Int) / 131072) = (rorN 17 a : Nat) := by
  rw [show (a : Int) * 32768 % 4294967296 = ((a * 32768 % 4294967296 : Nat) : Int) from by omega, show (a : Int) / 131072 = ((a / 131072 : Nat) : Int) from by omega]
  exact u32_or_nat _ _ (Nat.mod_lt _ (by decide)) (by omega)
 have E1 := zh e1
 clear e1
 go_enter Tryz.func77, Tryz.ntmps77
 go_wp2
 go_ret
 exact ⟨by rw [E1.out]; rfl, rfl⟩
theorem ror17_any (a : Nat) (w : World) (h : a < 4294967296) :
  Calls Tryz.prog 99 #[.int .u32 (a : Nat), .int .i64 17] w fun e w' => e = .returned (.int .u32 (rorN 17 a : Nat)) ∧ w' = w := by
 have HC := zh (rl17_any a w h)
 go_enter Tryz.func99, Tryz.ntmps99
 go_wp2_with fail
 refine HC.out.mono ?_
 rintro e w' ⟨rfl, rfl⟩
 go_wp2_with fail
 go_ret
 exact ⟨rfl, rfl⟩
theorem rl18_any (a : Nat) (w : World) (h : a < 4294967296) :
  Calls Tryz.prog 77 #[.int .u32 (a : Nat), .int .i64 (-18)] w fun e w' => e = .returned (.int .u32 (rorN 18 a : Nat)) ∧ w' = w := by
 have hb : bits .and .u64 (IntKind.u64.wrap (-18)) 31 = 14 := by decide
 have e1 : bits .or .u32 ((a : Int) * 16384 % 4294967296) ((a : Int) / 262144) = (rorN 18 a : Nat) := by
  rw [show (a : Int) * 16384 % 4294967296 = ((a * 16384 % 4294967296 : Nat) : Int) from by omega, show (a : Int) / 262144 = ((a / 262144 : Nat) : Int) from by omega]
  exact u32_or_nat _ _ (Nat.mod_lt _ (by decide)) (by omega)
 have E1 := zh e1
 clear e1
 go_enter Tryz.func77, Tryz.ntmps77
 go_wp2
 go_ret
 exact ⟨by rw [E1.out]; rfl, rfl⟩
theorem ror18_any (a : Nat) (w : World) (h : a < 4294967296) :
  Calls Tryz.prog 99 #[.int .u32 (a : Nat), .int .i64 18] w fun e w' => e = .returned (.int .u32 (rorN 18 a : Nat)) ∧ w' = w := by
 have HC := zh (rl18_any a w h)
 go_enter Tryz.func99, Tryz.ntmps99
 go_wp2_with fail
 refine HC.out.mono ?_
 rintro e w' ⟨rfl, rfl⟩
 go_wp2_with fail
 go_ret
 exact ⟨rfl, rfl⟩
theorem rl19_any (a : Nat) (w : World) (h : a < 4294967296) :
  Calls Tryz.prog 77 #[.int .u32 (a : Nat), .int .i64 (-19)] w fun e w' => e = .returned (.int .u32 (rorN 19 a : Nat)) ∧ w' = w := by
 have hb : bits .and .u64 (IntKind.u64.wrap (-19)) 31 = 13 := by decide
 have e1 : bits .or .u32 ((a : Int) * 8192 % 4294967296) ((a : Int) / 524288) = (rorN 19 a : Nat) := by
  rw [show (a : Int) * 8192 % 4294967296 = ((a * 8192 % 4294967296 : Nat) : Int) from by omega, show (a : Int) / 524288 = ((a / 524288 : Nat) : Int) from by omega]
  exact u32_or_nat _ _ (Nat.mod_lt _ (by decide)) (by omega)
 have E1 := zh e1
 clear e1
 go_enter Tryz.func77, Tryz.ntmps77
 go_wp2
 go_ret
 exact ⟨by rw [E1.out]; rfl, rfl⟩
theorem ror19_any (a : Nat) (w : World) (h : a < 4294967296) :
  Calls Tryz.prog 99 #[.int .u32 (a : Nat), .int .i64 19] w fun e w' => e = .returned (.int .u32 (rorN 19 a : Nat)) ∧ w' = w := by
 have HC := zh (rl19_any a w h)
 go_enter Tryz.func99, Tryz.ntmps99
 go_wp2_with fail
 refine HC.out.mono ?_
 rintro e w' ⟨rfl, rfl⟩
 go_wp2_with fail
 go_ret
 exact ⟨rfl, rfl⟩
theorem rl22_any (a : Nat) (w : World) (h : a < 4294967296) :
  Calls Tryz.prog 77 #[.int .u32 (a : Nat), .int .i64 (-22)] w fun e w' => e = .returned (.int .u32 (rorN 22 a : Nat)) ∧ w' = w := by
 have hb : bits .and .u64 (IntKind.u64.wrap (-22)) 31 = 10 := by decide
 have e1 : bits .or .u32 ((a : Int) * 1024 % 4294967296) ((a : Int) / 4194304) = (rorN 22 a : Nat) := by
  rw [show (a : Int) * 1024 % 4294967296 = ((a * 1024 % 4294967296 : Nat) : Int) from by omega, show (a : Int) / 4194304 = ((a / 4194304 : Nat) : Int) from by omega]
  exact u32_or_nat _ _ (Nat.mod_lt _ (by decide)) (by omega)
 have E1 := zh e1
 clear e1
 go_enter Tryz.func77, Tryz.ntmps77
 go_wp2
 go_ret
 exact ⟨by rw [E1.out]; rfl, rfl⟩
theorem ror22_any (a : Nat) (w : World) (h : a < 4294967296) :
  Calls Tryz.prog 99 #[.int .u32 (a : Nat), .int .i64 22] w fun e w' => e = .returned (.int .u32 (rorN 22 a : Nat)) ∧ w' = w := by
 have HC := zh (rl22_any a w h)
 go_enter Tryz.func99, Tryz.ntmps99
 go_wp2_with fail
 refine HC.out.mono ?_
 rintro e w' ⟨rfl, rfl⟩
 go_wp2_with fail
 go_ret
 exact ⟨rfl, rfl⟩
theorem rl25_any (a : Nat) (w : World) (h : a < 4294967296) :
  Calls Tryz.prog 77 #[.int .u32 (a : Nat), .int .i64 (-25)] w fun e w' => e = .returned (.int .u32 (rorN 25 a : Nat)) ∧ w' = w := by
 have hb : bits .and .u64 (IntKind.u64.wrap (-25)) 31 = 7 := by decide
 have e1 : bits .or .u32 ((a : Int) * 128 % 4294967296) ((a : Int) / 33554432) = (rorN 25 a : Nat) := by
  rw [show (a : Int) * 128 % 4294967296 = ((a * 128 % 4294967296 : Nat) : Int) from by omega, show (a : Int) / 33554432 = ((a / 33554432 : Nat) : Int) from by omega]
  exact u32_or_nat _ _ (Nat.mod_lt _ (by decide)) (by omega)
 have E1 := zh e1
 clear e1
 go_enter Tryz.func77, Tryz.ntmps77
 go_wp2
 go_ret
 exact ⟨by rw [E1.out]; rfl, rfl⟩
theorem ror25_any (a : Nat) (w : World) (h : a < 4294967296) :
  Calls Tryz.prog 99 #[.int .u32 (a : Nat), .int .i64 25] w fun e w' => e = .returned (.int .u32 (rorN 25 a : Nat)) ∧ w' = w := by
 have HC := zh (rl25_any a w h)
 go_enter Tryz.func99, Tryz.ntmps99
 go_wp2_with fail
 refine HC.out.mono ?_
 rintro e w' ⟨rfl, rfl⟩
 go_wp2_with fail
 go_ret
 exact ⟨rfl, rfl⟩
end Go.Proofs.YtncfocjmdecapaaGreatDoor
