/- Sums that are known. What must come of sums whatever the input is. What the rows' condition on the package's variables gives a walk; a list of byte rows that came in. ShaPieces walked. -/
import Derived.Lib.SmallJoins
import Derived.Test.YtncfocjmdecapaaGreatDoorRows
import Derived.ProofKit
import Derived.OpenShut
import Derived.ChangeSame
import Derived.ChangeVars
import Derived.JoinedOf
import Derived.RowKit
import Derived.RowKitTokens
import Derived.LaidLaws
import Derived.LaidMore
import Derived.LaidSub
import Derived.Lay
import Derived.Stop.Joined
import Derived.Deep.Slices
import Derived.Test.YtncfocjmdecapaaGreatDoorZB0
import Derived.Test.YtncfocjmdecapaaGreatDoorZS1
import Derived.Test.YtncfocjmdecapaaGreatDoorZS2
import Derived.Test.YtncfocjmdecapaaGreatDoorZSh4
import Derived.Test.YtncfocjmdecapaaGreatDoorZA0
import Derived.Test.YtncfocjmdecapaaGreatDoorZS5
import Derived.Test.YtncfocjmdecapaaGreatDoorZSh7
namespace Go.Proofs.YtncfocjmdecapaaGreatDoor
set_option linter.unusedVariables false
set_option linter.unusedSimpArgs false
open Go.RowKit
theorem eqF_refl32 (f : Nat → Nat) : ((List.range 32).all fun i => f i == f i) = true := List.all_eq_true.2 fun _ _ => by simp
theorem plain_u8 : Tryz.prog.plainKey 5 = true := by kernel_rfl
theorem cells_u8 : Tryz.prog.cellsOf 5 = 1 := by kernel_rfl
theorem items32 (f g : Nat → Nat) (w : World) : ∀ is : List Nat, (∀ i ∈ is, i < 32) → (Op.eqItems 9999 5 1 (rowC 32 f).toArray (rowC 32 g).toArray is).run Tryz.prog w = .ok (is.all fun i => f i == g i) w
  | [], _ => rfl
  | i :: is, h => by
    have hi : i < 32 := h i (by simp)
    have p1 : (rowC 32 f).toArray[i * 1]? = some (.int .u8 (f i : Nat)) := by simpa using rowC_get f hi
    have p2 : (rowC 32 g).toArray[i * 1]? = some (.int .u8 (g i : Nat)) := by simpa using rowC_get g hi
    have hu : Tryz.prog.underlying 5 = some (.int .u8) := Tryz.underlying5
    simp only [Op.eqItems, Sem.run_bind, run_part_plain w plain_u8 p1, run_part_plain w plain_u8 p2, Result.andThen_ok, run_equalIn_int w 9998 _ .u8 .u8 _ _ hu]
    have ih := items32 f g w is (fun j hj => h j (by simp [hj]))
    by_cases e : f i = g i
    · have : ((f i : Int) == (g i : Int)) = true := by simp [e]
      rw [this]
      simp [ih, e]
    · have : ((f i : Int) == (g i : Int)) = false := by
        rw [beq_eq_false_iff_ne]; omega
      rw [this]
      simp [e]
def eqS (f g : Nat → Nat) : Bool := (List.range 32).all fun i => f i == g i
theorem eqS_refl (f : Nat → Nat) : eqS f f = true := eqF_refl32 f
set_option maxRecDepth 100000 in
theorem eq32 (f g : Nat → Nat) (w : World) : (Op.equalIn 10000 22 (.agg (rowC 32 f).toArray) (.agg (rowC 32 g).toArray)).run Tryz.prog w = .ok (eqS f g) w := by
  obtain ⟨i, hi⟩ : ∃ i, Tryz.prog.info? 5 = some i := ⟨_, rfl⟩
  rw [run_equalIn_array w 9999 _ _ (e := 5) (n := 32) (t := 22) Tryz.underlying22 hi, cells_u8]
  exact items32 f g w _ (fun i hi => List.mem_range.1 hi)
theorem guard32 : Tryz.prog.eqGuardType Tryz.prog.depth 22 = false := by kernel_rfl
theorem exec_neq32 {o : Oper} {a : Act} {w : World} {x y : Operand} {r : TypeId} {C D : Array Value} {b : Bool} (ho : o.op = .binOp .neq 22 x y r) (hx : a.eval x = .agg C) (hy : a.eval y = .agg D) (h : ∀ w, (Op.equalIn 10000 22 (.agg C) (.agg D)).run Tryz.prog w = .ok b w) : (execOp a.eval o).run Tryz.prog w = .ok (.value (.bool (!b))) w := by
  unfold execOp
  simp only [ho, hx, hy, Sem.run_bind, run_eqGuard_agg w _ _ x y C D guard32, Result.andThen_ok, run_neq_struct, h]
  rfl
/-- The sum of a row of bytes. -/
theorem Bytes.lt {w : World} {oa : Option Addr} {n : Nat} {f : Nat → Nat} (h : Bytes w oa n f) : ∀ a, oa = some a → 0 < n → a.block < w.heap.size := fun a ha hn => by
  obtain ⟨_, b, off, h2, h3⟩ := h 0 hn
  rw [ha] at h2; cases h2
  show b < _
  rcases Nat.lt_or_ge b w.heap.size with h' | h'
  · exact h'
  · simp [World.cell?, Array.getElem?_eq_none h'] at h3
theorem HS.cat0 {w : World} {g m : Nat} {F G : Nat → Nat} (h : HS w g (0 + m) (catF 0 F G)) : HS w g m G := by
  rw [Nat.zero_add] at h
  exact h.congr fun i hi => by unfold catF; rw [if_neg (by omega), Nat.sub_zero]
set_option maxRecDepth 100000 in
set_option maxHeartbeats 4000000 in
theorem hash_any (oa : Option Addr) (m cap : Nat) (G : Nat → Nat) (w : World) (hb : Bytes w oa m G) (hmc : m ≤ cap) (hm : m < 800000000000) (hg : GV w) :
    Calls Tryz.prog 61 #[.slice oa m cap] w fun e w' => e = .returned (.agg (rowC 32 (shaN m G)).toArray) ∧ Below w.heap.size w w' := by
  have hz := zero32_run
  obtain ⟨wa, hwa⟩ : ∃ q, w.alloc (.cells zero32 22) = q := ⟨_, rfl⟩
  have hba : Below w.heap.size w wa := by rw [← hwa]; exact (Below.refl _ _).alloc (Nat.le_refl _) _
  have H1 : Hid (RB 22 32 w.heap.size (fun _ => 0) wa ∧ Below w.heap.size w wa ∧ GV wa ∧ Bytes wa oa m G) := Lib.hid ⟨by rw [← hwa]; exact Blk.new w _ _, hba, hg.later hba, hb.later hba⟩
  have HMC := Lib.hid hmc
  have HM := Lib.hid hm
  obtain ⟨D, hD⟩ : ∃ D, shaN m G = D := ⟨_, rfl⟩
  obtain ⟨E, hE⟩ : ∃ C, (rowC 32 D).toArray = C := ⟨_, rfl⟩
  have HSM : Hid (∀ g w', HS w' g m G → GV w' → Calls Tryz.prog 64 #[.pointer (some ⟨g, 0, none⟩)] w' fun e w'' => e = .returned (.agg E) ∧ Below w'.heap.size w' w'') := Lib.hid fun g w' h h' => by
    rw [← hE, ← hD]; exact hsum_any g m G w' h (by omega) h'
  have HI : Hid ((Tryz.prog.info? 22).map (·.size) = some E.size) := Lib.hid (hE ▸ info27 _)
  have HI1 : Hid (E.all (·.oneCell') = true) := Lib.hid (hE ▸ one32 _)
  have HST : Hid (∀ w', RB 22 32 w.heap.size (fun _ => 0) w' → Blk (w'.setCells w.heap.size 0 E.toList) w.heap.size E 22 ∧ w'.there w.heap.size 0 E.size) := Lib.hid fun w' h => by
    rw [← hE]; exact ⟨Blk.setCells h (rowC 32 D) (by rw [rowC_size, rowC_len]), Blk.there h (by rw [rowC_size, rowC_size]; exact Nat.le_refl _)⟩
  rw [hD, hE]
  clear hb hmc hm hg hD hE hba
  go_enter Tryz.func61, Tryz.ntmps61
  go_wp2_with fail
  clear hz hwa
  refine (hnew_any _ H1.out.2.2.1).mono ?_
  rintro e w1 ⟨g, rfl, hN, hb1, hge⟩
  have H2 : Hid (RB 22 32 w.heap.size (fun _ => 0) w1 ∧ Below w.heap.size w w1 ∧ GV w1 ∧ Bytes w1 oa m G ∧ HS w1 g 0 G ∧ (∀ a, oa = some a → 0 < m → a.block ≠ g) ∧ w.heap.size < g) := Lib.hid (by
    obtain ⟨a1, a2, a3, a4⟩ := H1.out
    have hlt := Blk.lt a1
    refine ⟨Blk.below a1 hb1 hlt, a2.trans (hb1.mono a2.size), a3.later hb1, a4.later hb1, hN G, fun a ha hm => ?_, by omega⟩
    have := a4.lt a ha hm; omega)
  clear hN hb1 hge H1
  go_wp2_with fail
  refine (write_any g 0 m cap oa G G _ H2.out.2.2.2.2.1 H2.out.2.2.2.1 HMC.out H2.out.2.2.2.2.2.1 (by have := HM.out; omega) H2.out.2.2.1).mono ?_
  rintro e w2 ⟨rfl, hS, hO⟩
  have H3 : Hid (RB 22 32 w.heap.size (fun _ => 0) w2 ∧ Below w.heap.size w w2 ∧ GV w2 ∧ HS w2 g m G) := Lib.hid (by
    obtain ⟨a1, a2, a3, a4, a5, a6, a7⟩ := H2.out
    exact ⟨hO.blk a1 (by omega), a2.trans (hO.below (by omega) a2.size), a3.own hO a5.1.1 a5.1.2, hS.cat0⟩)
  clear hS hO H2
  go_wp2_with fail
  refine (HSM.out _ _ H3.out.2.2.2 H3.out.2.2.1).mono ?_
  rintro e w3 ⟨rfl, hb3⟩
  have H4 : Hid (RB 22 32 w.heap.size (fun _ => 0) w3 ∧ Below w.heap.size w w3) := Lib.hid (by
    obtain ⟨a1, a2, a3, a4⟩ := H3.out
    exact ⟨Blk.below a1 hb3 (Blk.lt a1), a2.trans (hb3.mono a2.size)⟩)
  clear hb3 H3
  have HX := Lib.hid (HST.out _ H4.out.1)
  have HO : Hid (Below w.heap.size w (w3.setCells w.heap.size 0 E.toList)) := Lib.hid (H4.out.2.trans ((Own.setCells _ 0 w3).below (Nat.le_refl _) H4.out.2.size))
  go_wp2_with (first | (refine wpList_store_mid rfl 22 (.tmp 2) (.tmp 9) rfl w.heap.size 0 E rfl rfl HX.out.2 HI.out HI1.out ?_))
  refine bodyPost_ret (v := .agg E) ?_ rfl ⟨rfl, HO.out⟩
  exact results_cell_row Tryz.results61 _ _ w.heap.size 22 E (0, 0) _ rfl HX.out.1 Tryz.underlying22 rfl HI.out
end Go.Proofs.YtncfocjmdecapaaGreatDoor
namespace Go.Proofs.YtncfocjmdecapaaGreatDoor
set_option linter.unusedVariables false
set_option linter.unusedSimpArgs false
open Go.RowKit
theorem RB.int {t : TypeId} {n g : Nat} {f : Nat → Nat} {w : World} (h : RB t n g f w) {i : Nat} {x : Int} (hi : i < n) (hx : (f i : Int) = x) : w.cell? ⟨g, i, none⟩ = some (.int .u8 x) := by rw [← hx]; exact h.cell hi
/-- Two sums. -/
def S2 (g1 g2 : Nat) (D E : Nat → Nat) (w : World) : Prop := RB 22 32 g1 D w ∧ RB 22 32 g2 E w
theorem S2.below {g1 g2 : Nat} {D E : Nat → Nat} {w w' : World} (h : S2 g1 g2 D E w) (hb : Below w.heap.size w w') : S2 g1 g2 D E w' := ⟨Blk.below h.1 hb (Blk.lt h.1), Blk.below h.2 hb (Blk.lt h.2)⟩
/-- A sum, laid in a block of its own. -/
theorem lay32 (w : World) (D : Nat → Nat) {E : Array Value} (hE : (rowC 32 D).toArray = E) : RB 22 32 w.heap.size D ((w.alloc (.cells zero32 22)).setCells w.heap.size 0 E.toList) ∧ Below w.heap.size w ((w.alloc (.cells zero32 22)).setCells w.heap.size 0 E.toList) ∧ (w.alloc (.cells zero32 22)).there w.heap.size 0 E.size := by
  subst hE
  have hA : RB 22 32 w.heap.size (fun _ => 0) (w.alloc (.cells zero32 22)) := Blk.new w _ _
  have hb : Below w.heap.size w (w.alloc (.cells zero32 22)) := (Below.refl _ _).alloc (Nat.le_refl _) _
  exact ⟨Blk.setCells hA (rowC 32 D) (by rw [rowC_size, rowC_len]), hb.trans ((Own.setCells _ 0 _).below (Nat.le_refl _) hb.size), Blk.there hA (by rw [rowC_size, rowC_size]; exact Nat.le_refl _)⟩
end Go.Proofs.YtncfocjmdecapaaGreatDoor
namespace Go.Proofs.YtncfocjmdecapaaGreatDoor
set_option linter.unusedVariables false
set_option linter.unusedSimpArgs false
open Go.Deep Go.ChangeShapes Go.WideShapes Go.ChangeAt Go.RowKit
theorem Tryz.own : ownKnob Tryz.prog.godebug = none := by kernel_rfl
def laidL : List (String × DataW Unit) := [("bursary/sha.first", Rows.laid_bursary_sha_first), ("bursary/sha.added", Rows.laid_bursary_sha_added)]
def ints (l : List Nat) : List Int := l.map fun (n : Nat) => (n : Int)
theorem laid_first : (Rows.laid_bursary_sha_first : DataW Unit) = .agg ((ints hTab).map fun n => .lit (.int .u32 n)) := by kernel_rfl
theorem laid_added : (Rows.laid_bursary_sha_added : DataW Unit) = .agg ((ints kTab).map fun n => .lit (.int .u32 n)) := by kernel_rfl
theorem tab_cell {W : World} {name : String} {g : Nat} {T : TypeId} {n : Nat} {l : List Nat} (h : laidMetH Tryz.prog [(name, .agg ((ints l).map fun n => .lit (.int .u32 n)))] W)
    (hp : laidMetH Tryz.prog [(name, .agg ((ints l).map fun n => .lit (.int .u32 n)))] W = laidMet Tryz.prog [(name, .agg ((ints l).map fun n => .lit (.int .u32 n)))] W)
    (hg : Tryz.prog.globalNamed name = some g) (ht : (Tryz.prog.globals[g]?).map (·.type) = some T) (hT : Tryz.prog.underlying T = some (.array n 23)) (hl : l.length = n) (r : Nat) (hr : r < n) : W.cell? ⟨g, r, none⟩ = some (.int .u32 (l.getD r 0 : Nat)) := by
  rw [hp] at h
  obtain ⟨ps, ⟨g', t, cs, fuel, p, q, hg', ht', hv, hd, _, _⟩, _, _⟩ := h
  obtain rfl := Option.some.inj (hg.symm.trans hg')
  obtain rfl := Option.some.inj (ht.symm.trans ht')
  obtain ⟨xs, m, _, ex, _, hlx, hel⟩ := DataW.trod_array hT hd
  have c5 : Tryz.prog.cellsOf 23 = 1 := by kernel_rfl
  have hE := hel r hr
  rw [c5, Nat.mul_one, List.getElem?_eq_getElem (by omega)] at hE
  obtain ⟨z, e1, e2, _⟩ := DataW.trod_int Tryz.underlying23 hE
  have hlen : (ints l).length = n := by simpa [ints] using hl
  have e3 : (xs.map (·.1)) = (ints l).map fun n => .lit (.int .u32 n) := (DataW.agg.inj (Prod.mk.inj ex).1).symm
  have e4 : (xs.map (·.1))[r]? = ((ints l).map fun n => (DataW.lit (.int .u32 n) : DataW Unit))[r]? := by rw [e3]
  rw [List.getElem?_map, List.getElem?_map, List.getElem?_eq_getElem (by omega : r < xs.length), List.getElem?_eq_getElem (by omega : r < (ints l).length), e2] at e4
  have hz : z = ((l.getD r 0 : Nat) : Int) := by
    simp only [Option.map_some, Option.some.injEq, DataW.lit.injEq, Lit.int.injEq, true_and] at e4
    rw [e4]
    have h1 : (ints l)[r]'(by omega) = ((l[r]'(by omega) : Nat) : Int) := by simp [ints]
    rw [h1, List.getD_eq_getElem?_getD, List.getElem?_eq_getElem (by omega : r < l.length)]; rfl
  rw [World.var?_cell hg hv r, ← hz]
  have : cs.toList[r]? = some (.int .u32 z) := by
    have h0 : ((cs.toList.drop r).take 1)[0]? = some (.int .u32 z) := by rw [e1]; rfl
    simpa using h0
  simpa using this
theorem gv_of_laid {W : World} (h : laidMetH Tryz.prog laidL W) : GV W := by
  have h1 := h.filter (fun x => x.1 == "bursary/sha.first")
  have h2 := h.filter (fun x => x.1 == "bursary/sha.added")
  rw [show laidL.filter (fun x => x.1 == "bursary/sha.first") = [("bursary/sha.first", .agg ((ints hTab).map fun n => .lit (.int .u32 n)))] by rw [← laid_first]; rfl] at h1
  rw [show laidL.filter (fun x => x.1 == "bursary/sha.added") = [("bursary/sha.added", .agg ((ints kTab).map fun n => .lit (.int .u32 n)))] by rw [← laid_added]; rfl] at h2
  exact ⟨fun i hi => tab_cell h1 (MakeChecks.laidMetH_plain _ _ _ (by kernel_rfl)) (by kernel_rfl) (by kernel_rfl) Tryz.underlying149 rfl i hi,
    fun i hi => tab_cell h2 (MakeChecks.laidMetH_plain _ _ _ (by kernel_rfl)) (by kernel_rfl) (by kernel_rfl) Tryz.underlying168 rfl i hi⟩

instance : Inhabited (Nat × (Nat → Nat)) := ⟨⟨0, fun _ => 0⟩⟩
end Go.Proofs.YtncfocjmdecapaaGreatDoor
namespace Go.Proofs.YtncfocjmdecapaaGreatDoor
set_option linter.unusedVariables false
set_option linter.unusedSimpArgs false
open Go.RowKit
theorem Grow.bytesC {w : World} {base n : Nat} {v : Value} {f : Nat → Nat} (h : Grow w base v n f) (hf : ∀ i, i < n → f i < 256) :
    ∃ oa cap, v = .slice oa n cap ∧ Bytes w oa n f ∧ n ≤ cap ∧ (oa = none → n = 0) := by
  obtain ⟨oa, cap, hv, hB, _⟩ := h.bytes hf
  refine ⟨oa, cap, hv, hB, ?_⟩
  rcases h.2 with ⟨h2, h3⟩ | ⟨g, cap', cur, h2, _, _, h3, _⟩
  · exact ⟨by omega, fun _ => h3⟩
  · rw [hv] at h2; cases h2; exact ⟨h3, fun e => by cases e⟩
theorem Grow.ownN {w w' : World} {base n b : Nat} {v : Value} {f : Nat → Nat} (h : Grow w base v n f) (hO : Own b w w') (hn : ∀ k, v.ownBlock = some k → k ≠ b) : Grow w' base v n f := by
  refine ⟨h.1, ?_⟩
  rcases h.2 with h2 | ⟨g, cap, cur, hv, hb, hh, r⟩
  · exact .inl h2
  · refine .inr ⟨g, cap, cur, hv, hb, ?_, r⟩
    have hlt : g < w.heap.size := by
      rcases Nat.lt_or_ge g w.heap.size with h' | h'
      · exact h'
      · rw [Array.getElem?_eq_none h'] at hh; cases hh
    rw [hO.block g hlt (hn g (by rw [hv]; rfl))]; exact hh
theorem Grow.lt {w : World} {base n : Nat} {v : Value} {f : Nat → Nat} (h : Grow w base v n f) : ∀ k, v.ownBlock = some k → base ≤ k ∧ k < w.heap.size := fun k hk => World.ownsRow.lt h k hk
theorem own_of_grown {w w' : World} {v : Value} (hg : w.grownBy w' v.ownBlock) : Own (v.ownBlock.getD w.heap.size) w w' := by
  refine ⟨hg.os, hg.tape, hg.output, hg.size, fun k hk hn => hg.block k hk ?_⟩
  cases h : v.ownBlock with
  | none => simp
  | some b => rw [h] at hn; intro e; exact hn (by simpa using e)
/-- While pieces are written: the hash, all of it; perhaps a clone, and what it holds. -/
structure ZS (w0 : World) (g A : Nat) (F : Nat → Nat) (q : Nat) (Q : Nat → Nat) (va : Value) (cp : Option Nat) (B : Nat) (E : Nat → Nat) (vs : Value) (wr : World) : Prop where
  h : HS wr g A F
  a : Grow wr w0.heap.size va q Q
  f : ∀ i, i < q → Q i < 256
  o : Below w0.heap.size w0 wr
  v : GV wr
  gb : w0.heap.size ≤ g
  gv0 : 1 < w0.heap.size ∧ 2 < w0.heap.size
  na : ∀ k, va.ownBlock = some k → k ≠ g
  c : ∀ c, cp = some c → HS wr c B E ∧ w0.heap.size ≤ c ∧ c ≠ g ∧ (∀ k, va.ownBlock = some k → k ≠ c) ∧ Grow wr w0.heap.size vs B E ∧ (∀ i, i < B → E i < 256) ∧ B ≤ 3600 ∧ ∀ k, vs.ownBlock = some k → k ≠ g ∧ k ≠ c ∧ va.ownBlock ≠ some k
theorem ZS.later {w0 : World} {g A q B : Nat} {F Q E : Nat → Nat} {va vs : Value} {cp : Option Nat} {wr w' : World} (h : ZS w0 g A F q Q va cp B E vs wr) (hb : Below wr.heap.size wr w') : ZS w0 g A F q Q va cp B E vs w' :=
  ⟨h.h.later hb, h.a.later hb, h.f, h.o.trans (hb.mono h.o.size), h.v.later hb, h.gb, h.gv0, h.na, fun c hc => by
    obtain ⟨c1, c2, c3, c4, c5, c6⟩ := h.c c hc
    exact ⟨c1.later hb, c2, c3, c4, c5.later hb, c6⟩⟩
/-- The hash is written into. -/
theorem ZS.wrote {w0 : World} {g A A' q B : Nat} {F F' Q E : Nat → Nat} {va vs : Value} {cp : Option Nat} {wr w' : World} (h : ZS w0 g A F q Q va cp B E vs wr) (hO : Own g wr w') (hS : HS w' g A' F') : ZS w0 g A' F' q Q va cp B E vs w' :=
  ⟨hS, h.a.ownN hO h.na, h.f, h.o.trans (hO.below h.gb h.o.size), h.v.own hO h.h.1.1 h.h.1.2, h.gb, h.gv0, h.na, fun c hc => by
    obtain ⟨c1, c2, c3, c4, c5, c6, c7, c8⟩ := h.c c hc
    exact ⟨c1.own hO c3, c2, c3, c4, c5.ownN hO (fun k hk => (c8 k hk).1), c6, c7, c8⟩⟩
/-- All of it grows. -/
theorem ZS.grew {w0 : World} {g A q q' B : Nat} {F Q Q' E : Nat → Nat} {va va' vs : Value} {cp : Option Nat} {wr w' : World} (h : ZS w0 g A F q Q va cp B E vs wr) (hg : wr.grownBy w' va.ownBlock) (hG : Grow w' w0.heap.size va' q' Q') (hob : va'.ownBlock = va.ownBlock ∨ va'.ownBlock = some wr.heap.size) (hf : ∀ i, i < q' → Q' i < 256) : ZS w0 g A F q' Q' va' cp B E vs w' := by
  have hO := own_of_grown hg
  have hl := h.h.lt
  have hn : ∀ x, x < wr.heap.size → (∀ k, va.ownBlock = some k → k ≠ x) → x ≠ va.ownBlock.getD wr.heap.size := fun x hx hk => by
    cases e : va.ownBlock with
    | none => simp; omega
    | some b => simp; exact fun e2 => hk b e e2.symm
  have hn2 : ∀ x, x < wr.heap.size → (∀ k, va.ownBlock = some k → k ≠ x) → ∀ k, va'.ownBlock = some k → k ≠ x := fun x hx hk k hk' => by
    rcases hob with e | e
    · exact hk k (by rw [← e]; exact hk')
    · rw [e] at hk'; cases hk'; omega
  have hge : w0.heap.size ≤ va.ownBlock.getD wr.heap.size := by
    cases e : va.ownBlock with
    | none => simp; exact h.o.size
    | some b => simp; exact (h.a.lt b e).1
  refine ⟨h.h.own hO (hn g hl h.na), hG, hf, h.o.trans (hO.below hge h.o.size), ?_, h.gb, h.gv0, hn2 g hl h.na, fun c hc => ?_⟩
  · exact h.v.own hO (by have := h.gv0; omega) (by have := h.gv0; omega)
  · obtain ⟨c1, c2, c3, c4, c5, c6, c7, c8⟩ := h.c c hc
    refine ⟨c1.own hO (hn c c1.lt c4), c2, c3, hn2 c c1.lt c4, c5.ownN hO (fun k hk => ?_), c6, c7, fun k hk => ?_⟩
    · have := c8 k hk
      exact hn k (c5.lt k hk).2 (fun k' hk' e => this.2.2 (by rw [hk', e]))
    · have := c8 k hk
      refine ⟨this.1, this.2.1, fun e => ?_⟩
      exact hn2 k (c5.lt k hk).2 (fun k' hk' e => this.2.2 (by rw [hk', e])) k e rfl
end Go.Proofs.YtncfocjmdecapaaGreatDoor
