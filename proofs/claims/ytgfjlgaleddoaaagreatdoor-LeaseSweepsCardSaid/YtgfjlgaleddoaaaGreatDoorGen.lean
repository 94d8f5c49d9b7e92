/- What serves every walk: operations that tell a value, rows of our own, rows read as strings. -/
import Derived.Test.YtgfjlgaleddoaaaGreatDoorApo
import Derived.Test.YtgfjlgaleddoaaaGreatDoorStB
import Derived.Test.YtgfjlgaleddoaaaGreatDoorSetC
import Derived.Test.YtgfjlgaleddoaaaGreatDoorNm
import Derived.Lib.Hide
import Derived.IntWalk
import Derived.RegionTactic
import Derived.Laws.BitsLemmas
import Derived.Laws.BitsAllLaws
import Derived.Outline
import Derived.ChangeKeysEq
import Derived.Laws.StructEq
import Derived.Laws.CopyOwn
import Derived.Deep.RegionHeld3
import Derived.Deep.DeepCutAuto
import Derived.StillTailTactics
import Derived.Lib.BufferRead
namespace Go.Proofs.YtgfjlgaleddoaaaGreatDoor
set_option linter.unusedVariables false
set_option linter.unusedSimpArgs false
open Go.RowKit

/-- A number's bytes. -/
def numB (n size i : Nat) : Nat := n / 256 ^ (size - 1 - i) % 256
theorem numB_lt (n size i : Nat) : numB n size i < 256 := Nat.mod_lt _ (by decide)
theorem info_u8s : (Tryz.prog.info? 5).map (·.size) = some 1 := by kernel_rfl
/-- One operation that tells a value, at a plain region's list and at a still one. -/
theorem wpList_value {ops : Array Oper} {rest : List Oper} {o : Oper} {a : Act} {w : World} {Q : Exit → Act → World → Prop} {v : Value} (hgd : o.guard = none) (he : (execOp a.eval o).run Tryz.prog w = .ok (.value v) w)
    (hk : wpList Tryz.prog ops Q rest (a.put o.dst v) w) : wpList Tryz.prog ops Q (o :: rest) a w := by
  refine wpList_plain hgd fun K hK => ?_
  unfold Oper.wp
  rw [he]
  exact hK _ _ hk
theorem wpStill_value {ops : Array Oper} {rest : List Oper} {o : Oper} {a : Act} {w : World} {Q : Act → Prop} {v : Value} (hgd : o.guard = none) (he : (execOp a.eval o).run Tryz.prog w = .ok (.value v) w)
    (hk : wpStill Tryz.prog ops w Q rest (a.put o.dst v)) : wpStill Tryz.prog ops w Q (o :: rest) a := by
  refine wpStill_step fun K hK => ?_
  have hw : Region.wanted o (yielded ops a.tmps) = true := by simp [Region.wanted, hgd]
  rw [if_pos hw]
  unfold Oper.still
  rw [he, Oper.stillUpon_value]
  exact hK _ hk
theorem still_lit {id : Nat} {Q : Exit → Act → World → Prop} {a : Act} {w : World} {l : List Oper} (hm : Tryz.prog.follows .mixedOrders = true) (hB : Region.lexB .any l.toArray = true)
    (h : wpStill Tryz.prog l.toArray w.drew (fun a' => Q .normal a' w.drew) l a) : (Code.region id l.toArray true).wp Tryz.prog Q a w := wp_region_still_lit hm hB h
theorem still_tail {id : Nat} {Q : Exit → Act → World → Prop} {a : Act} {w : World} {l : List Oper} (n : Nat) (hm : Tryz.prog.follows .mixedOrders = true) (hB : Region.lexTailB .any l.toArray n = true)
    (h : wpStill Tryz.prog l.toArray w.drew (fun a' => wpList Tryz.prog l.toArray Q (l.drop n) a' w.drew) (l.take n) a) : (Code.region id l.toArray true).wp Tryz.prog Q a w := wp_region_still_tail n hm hB h
theorem num4 (V : Nat) (k d : Nat) (hk : k < 4) (hd : 256 ^ (3 - k) = d) : (V : Int) / (d : Nat) % 256 = ((numB V 4 k : Nat) : Int) := by
  subst hd
  unfold numB
  rw [show 4 - 1 - k = 3 - k by omega]
  generalize 256 ^ (3 - k) = m
  rw [Int.natCast_emod, Int.natCast_ediv]; rfl
theorem num8 (V : Nat) (k d : Nat) (hk : k < 8) (hd : 256 ^ (7 - k) = d) : (V : Int) / (d : Nat) % 256 = ((numB V 8 k : Nat) : Int) := by
  subst hd
  unfold numB
  rw [show 8 - 1 - k = 7 - k by omega]
  generalize 256 ^ (7 - k) = m
  rw [Int.natCast_emod, Int.natCast_ediv]; rfl
theorem one_byte {w : World} {x : Nat} (hx : x < 256) : Bytes (w.alloc (.cells #[.int .u8 (x : Nat)] 5)) (some ⟨w.heap.size, 0, none⟩) 1 (fun _ => x) := fun k hk => ⟨hx, w.heap.size, 0, rfl, by
  obtain rfl : k = 0 := by omega
  exact World.cell?_alloc_mark w #[.int .u8 (x : Int)] 5 (0, 0) 0⟩
/-- The sum of a row of bytes. -/
theorem Bytes.lt {w : World} {oa : Option Addr} {n : Nat} {f : Nat → Nat} (h : Bytes w oa n f) : ∀ a, oa = some a → 0 < n → a.block < w.heap.size := fun a ha hn => by
  obtain ⟨_, b, off, h2, h3⟩ := h 0 hn
  rw [ha] at h2; cases h2
  show b < _
  rcases Nat.lt_or_ge b w.heap.size with h' | h'
  · exact h'
  · simp [World.cell?, Array.getElem?_eq_none h'] at h3
theorem Grow.bytesC {w : World} {base n : Nat} {v : Value} {f : Nat → Nat} (h : Grow w base v n f) (hf : ∀ i, i < n → f i < 256) :
    ∃ oa cap, v = .slice oa n cap ∧ Bytes w oa n f ∧ n ≤ cap ∧ (oa = none → n = 0) := by
  obtain ⟨oa, cap, hv, hB, _⟩ := h.bytes hf
  refine ⟨oa, cap, hv, hB, ?_⟩
  rcases h.2 with ⟨h2, h3⟩ | ⟨g, cap', cur, h2, _, _, h3, _⟩
  · exact ⟨by omega, fun _ => h3⟩
  · rw [hv] at h2; cases h2; exact ⟨h3, fun e => by cases e⟩
theorem Grow.ownN {w w' : World} {base n b : Nat} {v : Value} {f : Nat → Nat} (h : Grow w base v n f) (hO : Own b w w') (hn : ∀ k, v.ownBlock = some k → k ≠ b) : Grow w' base v n f := by
  refine ⟨h.1, ?_⟩
  rcases h.2 with h2 | ⟨g, cap, cur, hv, hb, hh, r⟩
  · exact .inl h2
  · refine .inr ⟨g, cap, cur, hv, hb, ?_, r⟩
    have hlt : g < w.heap.size := by
      rcases Nat.lt_or_ge g w.heap.size with h' | h'
      · exact h'
      · rw [Array.getElem?_eq_none h'] at hh; cases hh
    rw [hO.block g hlt (hn g (by rw [hv]; rfl))]; exact hh
theorem Grow.lt {w : World} {base n : Nat} {v : Value} {f : Nat → Nat} (h : Grow w base v n f) : ∀ k, v.ownBlock = some k → base ≤ k ∧ k < w.heap.size := fun k hk => World.ownsRow.lt h k hk
theorem own_of_grown {w w' : World} {v : Value} (hg : w.grownBy w' v.ownBlock) : Own (v.ownBlock.getD w.heap.size) w w' := by
  refine ⟨hg.os, hg.tape, hg.output, hg.size, fun k hk hn => hg.block k hk ?_⟩
  cases h : v.ownBlock with
  | none => simp
  | some b => rw [h] at hn; intro e; exact hn (by simpa using e)
theorem wpList_valueG {ops : Array Oper} {rest : List Oper} {o : Oper} {a : Act} {w : World} {Q : Exit → Act → World → Prop} {v : Value} (hw : Region.wanted o (yielded ops a.tmps) = true) (he : (execOp a.eval o).run Tryz.prog w = .ok (.value v) w)
    (hk : wpList Tryz.prog ops Q rest (a.put o.dst v) w) : wpList Tryz.prog ops Q (o :: rest) a w := by
  refine wpList_step fun K hK => ?_
  rw [if_pos hw]
  unfold Oper.wp
  rw [he]
  exact hK _ _ hk
theorem grow_bel {w w' : World} {base n : Nat} {v : Value} {f : Nat → Nat} (hG : Grow w base v n f) (hs : base ≤ w.heap.size) (hg : w.grownBy w' v.ownBlock) : Below base w w' := by
  refine (own_of_grown hg).below ?_ hs
  cases e : v.ownBlock with
  | none => simp; exact hs
  | some b => simp; exact (hG.lt b e).1
theorem wrap_big {i k n : Nat} {m : Int} (hm : m = (n : Int)) (h : i + n = k) (hk : k < 9000000000000000000) : IntKind.i64.wrap ((i : Int) + m) = (k : Int) := by subst hm; rw [IntWalk.i64_in _ (by omega)]; omega
theorem wpList_mk {ops : Array Oper} {rest : List Oper} {o : Oper} {a : Act} {w : World} {Q : Exit → Act → World → Prop} (hgd : o.guard = none) (x y : Operand) (ho : o.op = .makeSlice 25 x y) (n : Nat) (hx : a.eval x = .int .i64 (n : Int)) (hy : a.eval y = .int .i64 (n : Int)) (hn : n < 1000000000000)
    (h : wpList Tryz.prog ops Q rest (a.put o.dst (.slice (some ⟨w.heap.size, 0, none⟩) n n)) (w.alloc (.cells (rowC n (fun _ => 0)).toArray 5))) : wpList Tryz.prog ops Q (o :: rest) a w := by
  refine wpList_plain hgd fun K hK => ?_
  have hrun := make_zeros n hn w
  unfold Oper.wp
  simp [execOp, ho, hx, hy, hrun, Result.andThen]
  exact hK _ _ h
theorem one_u8 {w : World} {x : Nat} {z : Int} (hz : z = (x : Int)) (hx : x < 256) : Bytes (w.alloc (.cells #[.int .u8 z] 5)) (some ⟨w.heap.size, 0, none⟩) 1 (fun _ => x) := by subst hz; exact one_byte hx
theorem own_ge {wr : World} {base n : Nat} {v : Value} {f : Nat → Nat} (h : Grow wr base v n f) (hs : base ≤ wr.heap.size) : base ≤ v.ownBlock.getD wr.heap.size := by
  cases e : v.ownBlock with
  | none => simp; exact hs
  | some b => simp; exact (h.lt b e).1
theorem ne_own {wr : World} {v : Value} {x : Nat} (hx : x < wr.heap.size) (hk : v.ownBlock ≠ some x) : x ≠ v.ownBlock.getD wr.heap.size := by
  cases e : v.ownBlock with
  | none => simp; omega
  | some b => simp; intro e2; exact hk (by rw [e, e2])
/-- A row of our own, behind what was there. -/
structure JG (w0 : World) (v : Value) (n : Nat) (f : Nat → Nat) (w : World) : Prop where
  g : Grow w w0.heap.size v n f
  o : Below w0.heap.size w0 w
theorem JG.later {w0 w w' : World} {v : Value} {n : Nat} {f : Nat → Nat} (h : JG w0 v n f w) (hb : Below w.heap.size w w') : JG w0 v n f w' := ⟨h.g.later hb, h.o.trans (hb.mono h.o.size)⟩
theorem JG.grew {w0 w w' : World} {v v' : Value} {n n' : Nat} {f f' : Nat → Nat} (h : JG w0 v n f w) (hg : w.grownBy w' v.ownBlock) (hG : Grow w' w0.heap.size v' n' f') : JG w0 v' n' f' w' := ⟨hG, h.o.trans (grow_bel h.g h.o.size hg)⟩
theorem catF_b {n m : Nat} {f g : Nat → Nat} (hf : ∀ i, i < n → f i < 256) (hg : ∀ i, i < m → g i < 256) : ∀ i, i < n + m → catF n f g i < 256 := fun i hi => by
  unfold catF
  by_cases e : i < n
  · rw [if_pos e]; exact hf i e
  · rw [if_neg e]; exact hg _ (by omega)
theorem Bytes.own {w w' : World} {oa : Option Addr} {n b : Nat} {f : Nat → Nat} (h : Bytes w oa n f) (hO : Own b w w') (hn : ∀ a, oa = some a → 0 < n → a.block ≠ b) : Bytes w' oa n f := fun k hk => by
  obtain ⟨h1, c, off, h2, h3⟩ := h k hk
  exact ⟨h1, c, off, h2, hO.cell h3 (show c ≠ b from hn ⟨c, off, none⟩ h2 (by omega))⟩
theorem conv_any {w : World} {oa : Option Addr} {n cap : Nat} {f : Nat → Nat} (h : Bytes w oa n f) (hno : oa = none → n = 0) : (convert 25 9 (.slice oa n cap)).run Tryz.prog w = .ok (.string (strF n f)) w := by
  by_cases h0 : n = 0
  · subst h0
    have e : strF 0 f = ⟨#[]⟩ := rfl
    rw [e]
    cases oa with
    | none => exact Lib.run_convert_nil_bytes w 25 9 5 cap Tryz.underlying25 Tryz.underlying5 Tryz.underlying9
    | some ad => exact run_convert_bytes_back w 25 9 5 ad cap [] Tryz.underlying25 Tryz.underlying5 Tryz.underlying9 (fun j hj => absurd hj (Nat.not_lt_zero _))
  · obtain ⟨_, b, off, rfl, _⟩ := h 0 (by omega)
    exact h.conv
theorem exec_convO {o : Oper} {a : Act} {w : World} {x : Operand} {oa : Option Addr} {n cap : Nat} {S : ByteArray} (ho : o.op = .convert 25 9 x) (hx : a.eval x = .slice oa n cap) (h : (convert 25 9 (.slice oa n cap)).run Tryz.prog w = .ok (.string S) w) : (execOp a.eval o).run Tryz.prog w = .ok (.value (.string S)) w := by
  unfold execOp
  simp only [ho, hx, h, Sem.run_bind, Result.andThen_ok]
  rfl
theorem wpStill_valueG {ops : Array Oper} {rest : List Oper} {o : Oper} {a : Act} {w : World} {Q : Act → Prop} {v : Value} (hw : Region.wanted o (yielded ops a.tmps) = true) (he : (execOp a.eval o).run Tryz.prog w = .ok (.value v) w)
    (hk : wpStill Tryz.prog ops w Q rest (a.put o.dst v)) : wpStill Tryz.prog ops w Q (o :: rest) a := by
  refine wpStill_step fun K hK => ?_
  rw [if_pos hw]
  unfold Oper.still
  rw [he, Oper.stillUpon_value]
  exact hK _ hk
theorem str_ne {S1 S2 : ByteArray} (h : S1 ≠ S2) : ¬ S1.toList = S2.toList := fun e => h (by
  rw [ByteArray.toList_eq, ByteArray.toList_eq] at e
  cases S1; cases S2
  exact congrArg ByteArray.mk (Array.toList_inj.1 e))
theorem step_valueG {ops : Array Oper} {o : Oper} {a : Act} {w : World} {K : Act → World → Prop} {Q : Exit → Act → World → Prop} {E : Prop} {v : Value} (hw : Region.wanted o (yielded ops a.tmps) = true) (he : (execOp a.eval o).run Tryz.prog w = .ok (.value v) w)
    (h : K (a.put o.dst v) w) : if Region.wanted o (yielded ops a.tmps) = true then Oper.wp Tryz.prog o a w K Q else E := by
  rw [if_pos hw]
  unfold Oper.wp
  rw [he]
  exact h
def lenV : Value → Nat
  | .slice _ n _ => n
  | _ => 0
theorem Bytes.hiS {w : World} {ob p : Option Addr} {m cm i : Nat} {B : Nat → Nat} (h : Bytes w ob m B) (hmc : m ≤ cm) (hi : i ≤ m) (hp : (if cm = i then ob else Option.map (fun x => x.add i) ob) = p) : Bytes w p (m - i) (fun t => B (i + t)) := fun k hk => by
  obtain ⟨h1, b, off, rfl, h2⟩ := h (i + k) (by omega)
  rw [if_neg (by omega)] at hp
  refine ⟨h1, b, off + i, ?_, by rw [Nat.add_assoc]; exact h2⟩
  rw [← hp]
  show some ((⟨b, off, none⟩ : Addr).add i) = _
  rw [Addr.add_mid]
end Go.Proofs.YtgfjlgaleddoaaaGreatDoor
