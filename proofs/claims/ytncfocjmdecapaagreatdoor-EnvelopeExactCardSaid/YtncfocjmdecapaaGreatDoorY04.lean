/- Part of the proof: what stands here serves the walks of the functions that the statement calls. -/
import Derived.Test.YtncfocjmdecapaaGreatDoorRows
import Derived.ChangeSame
import Derived.ChangeVars
import Derived.JoinedOf
import Derived.RowKit
import Derived.RowKitTokens
import Derived.LaidLaws
import Derived.LaidMore
import Derived.LaidSub
import Derived.Lay
import Derived.Stop.Joined
import Derived.Deep.Slices
import Derived.Test.YtncfocjmdecapaaGreatDoorY02
namespace Go.Proofs.YtncfocjmdecapaaGreatDoor
set_option linter.unusedVariables false
set_option linter.unusedSimpArgs false
open Go.RowKit
section
open Go.Deep Go.ChangeShapes Go.WideShapes Go.ChangeAt Go.RowKit
theorem Tryz.own : ownKnob Tryz.prog.godebug = none := by kernel_rfl
def laidL : List (String × DataW Unit) := [("bursary/sha.first", Rows.laid_bursary_sha_first), ("bursary/sha.added", Rows.laid_bursary_sha_added)]
def ints (l : List Nat) : List Int := l.map fun (n : Nat) => (n : Int)
theorem laid_first : (Rows.laid_bursary_sha_first : DataW Unit) = .agg ((ints hTab).map fun n => .lit (.int .u32 n)) := by kernel_rfl
theorem laid_added : (Rows.laid_bursary_sha_added : DataW Unit) = .agg ((ints kTab).map fun n => .lit (.int .u32 n)) := by kernel_rfl
theorem tab_cell {W : World} {name : String} {g : Nat} {T : TypeId} {n : Nat} {l : List Nat} (h : laidMetH Tryz.prog [(name, .agg ((ints l).map fun n => .lit (.int .u32 n)))] W)
  (hp : laidMetH Tryz.prog [(name, .agg ((ints l).map fun n => .lit (.int .u32 n)))] W = laidMet Tryz.prog [(name, .agg ((ints l).map fun n => .lit (.int .u32 n)))] W)
  (hg : Tryz.prog.globalNamed name = some g) (ht : (Tryz.prog.globals[g]?).map (·.type) = some T) (hT : Tryz.prog.underlying T = some (.array n 23)) (hl : l.length = n) (r : Nat) (hr : r < n) : W.cell? ⟨g, r, none⟩ = some (.int .u32 (l.getD r 0 : Nat)) := by
 rw [hp] at h
 obtain ⟨ps, ⟨g', t, cs, fuel, p, q, hg', ht', hv, hd, _, _⟩, _, _⟩ := h
 obtain rfl := Option.some.inj (hg.symm.trans hg')
 obtain rfl := Option.some.inj (ht.symm.trans ht')
 obtain ⟨xs, m, _, ex, _, hlx, hel⟩ := DataW.trod_array hT hd
 have c5 : Tryz.prog.cellsOf 23 = 1 := by kernel_rfl
 have hE := hel r hr
 rw [c5, Nat.mul_one, List.getElem?_eq_getElem (by omega)] at hE
 obtain ⟨z, e1, e2, _⟩ := DataW.trod_int Tryz.underlying23 hE
 have hlen : (ints l).length = n := by simpa [ints] using hl
 have e3 : (xs.map (·.1)) = (ints l).map fun n => .lit (.int .u32 n) := (DataW.agg.inj (Prod.mk.inj ex).1).symm
 have e4 : (xs.map (·.1))[r]? = ((ints l).map fun n => (DataW.lit (.int .u32 n) : DataW Unit))[r]? := by rw [e3]
 rw [List.getElem?_map, List.getElem?_map, List.getElem?_eq_getElem (by omega : r < xs.length), List.getElem?_eq_getElem (by omega : r < (ints l).length), e2] at e4
 have hz : z = ((l.getD r 0 : Nat) : Int) := by
  simp only [Option.map_some, Option.some.injEq, DataW.lit.injEq, Lit.int.injEq, true_and] at e4
  rw [e4]
  have h1 : (ints l)[r]'(by omega) = ((l[r]'(by omega) : Nat) : Int) := by simp [ints]
  rw [h1, List.getD_eq_getElem?_getD, List.getElem?_eq_getElem (by omega : r < l.length)]; rfl
 rw [World.var?_cell hg hv r, ← hz]
 have : cs.toList[r]? = some (.int .u32 z) := by
  have h0 : ((cs.toList.drop r).take 1)[0]? = some (.int .u32 z) := by rw [e1]; rfl
  simpa using h0
 simpa using this
theorem gv_of_laid {W : World} (h : laidMetH Tryz.prog laidL W) : GV W := by
 have h1 := h.filter (fun x => x.1 == "bursary/sha.first")
 have h2 := h.filter (fun x => x.1 == "bursary/sha.added")
 rw [show laidL.filter (fun x => x.1 == "bursary/sha.first") = [("bursary/sha.first", .agg ((ints hTab).map fun n => .lit (.int .u32 n)))] by rw [← laid_first]; rfl] at h1
 rw [show laidL.filter (fun x => x.1 == "bursary/sha.added") = [("bursary/sha.added", .agg ((ints kTab).map fun n => .lit (.int .u32 n)))] by rw [← laid_added]; rfl] at h2
 exact ⟨fun i hi => tab_cell h1 (MakeChecks.laidMetH_plain _ _ _ (by kernel_rfl)) (by kernel_rfl) (by kernel_rfl) Tryz.underlying149 rfl i hi,
  fun i hi => tab_cell h2 (MakeChecks.laidMetH_plain _ _ _ (by kernel_rfl)) (by kernel_rfl) (by kernel_rfl) Tryz.underlying168 rfl i hi⟩
theorem row_bytes_nil {H : Type} {enc : TypeId × Value → H} {P : Program} {W : World} {base : Nat} {held : Bool} {T E : TypeId} {fuel : Nat} {v : Value} {x : DataW H × List MemPlace}
  (hT : P.underlying T = some (.slice E)) (hE : P.underlying E = some (.int .u8)) (hc : P.cellsOf E = 1)
  (h : DataW.trod enc P W base (fun _ => true) held fuel T [v] = some x) :
  ∃ oa n cap f, v = .slice oa n cap ∧ n ≤ cap ∧ cap ≤ maxLen ∧ Bytes W oa n f ∧ (oa = none → n = 0) := by
 obtain ⟨oa, n, cap, f, hv, hl, hm, hB⟩ := row_bytes hT hE hc h
 simp at hv
 refine ⟨oa, n, cap, f, hv, hl, hm, hB.mono hl, fun e => ?_⟩
 rcases Nat.eq_zero_or_pos cap with h0 | h0
 ·omega
 ·obtain ⟨_, b, off, e2, _⟩ := hB 0 h0
  rw [e] at e2; cases e2
instance : Inhabited (Nat × (Nat → Nat)) := ⟨⟨0, fun _ => 0⟩⟩
end
theorem Grow.bytesC {w : World} {base n : Nat} {v : Value} {f : Nat → Nat} (h : Grow w base v n f) (hf : ∀ i, i < n → f i < 256) :
  ∃ oa cap, v = .slice oa n cap ∧ Bytes w oa n f ∧ n ≤ cap ∧ (oa = none → n = 0) := by
 obtain ⟨oa, cap, hv, hB, _⟩ := h.bytes hf
 refine ⟨oa, cap, hv, hB, ?_⟩
 rcases h.2 with ⟨h2, h3⟩ | ⟨g, cap', cur, h2, _, _, h3, _⟩
 ·exact ⟨by omega, fun _ => h3⟩
 ·rw [hv] at h2; cases h2; exact ⟨h3, fun e => by cases e⟩
theorem Grow.ownN {w w' : World} {base n b : Nat} {v : Value} {f : Nat → Nat} (h : Grow w base v n f) (hO : Own b w w') (hn : ∀ k, v.ownBlock = some k → k ≠ b) : Grow w' base v n f := by
 refine ⟨h.1, ?_⟩
 rcases h.2 with h2 | ⟨g, cap, cur, hv, hb, hh, r⟩
 ·exact .inl h2
 ·refine .inr ⟨g, cap, cur, hv, hb, ?_, r⟩
  have hlt : g < w.heap.size := by
   rcases Nat.lt_or_ge g w.heap.size with h' | h'
   ·exact h'
   ·rw [Array.getElem?_eq_none h'] at hh; cases hh
  rw [hO.block g hlt (hn g (by rw [hv]; rfl))]; exact hh
theorem Grow.lt {w : World} {base n : Nat} {v : Value} {f : Nat → Nat} (h : Grow w base v n f) : ∀ k, v.ownBlock = some k → base ≤ k ∧ k < w.heap.size := fun k hk => World.ownsRow.lt h k hk
theorem own_of_grown {w w' : World} {v : Value} (hg : w.grownBy w' v.ownBlock) : Own (v.ownBlock.getD w.heap.size) w w' := by
 refine ⟨hg.os, hg.tape, hg.output, hg.size, fun k hk hn => hg.block k hk ?_⟩
 cases h : v.ownBlock with
 | none => simp
 | some b => rw [h] at hn; intro e; exact hn (by simpa using e)
structure ZS (w0 : World) (g A : Nat) (F : Nat → Nat) (q : Nat) (Q : Nat → Nat) (va : Value) (cp : Option Nat) (B : Nat) (E : Nat → Nat) (vs : Value) (wr : World) : Prop where
 h : HS wr g A F
 a : Grow wr w0.heap.size va q Q
 f : ∀ i, i < q → Q i < 256
 o : Below w0.heap.size w0 wr
 v : GV wr
 gb : w0.heap.size ≤ g
 gv0 : 1 < w0.heap.size ∧ 2 < w0.heap.size
 na : ∀ k, va.ownBlock = some k → k ≠ g
 c : ∀ c, cp = some c → HS wr c B E ∧ w0.heap.size ≤ c ∧ c ≠ g ∧ (∀ k, va.ownBlock = some k → k ≠ c) ∧ Grow wr w0.heap.size vs B E ∧ (∀ i, i < B → E i < 256) ∧ B ≤ 3600 ∧ ∀ k, vs.ownBlock = some k → k ≠ g ∧ k ≠ c ∧ va.ownBlock ≠ some k
theorem ZS.later {w0 : World} {g A q B : Nat} {F Q E : Nat → Nat} {va vs : Value} {cp : Option Nat} {wr w' : World} (h : ZS w0 g A F q Q va cp B E vs wr) (hb : Below wr.heap.size wr w') : ZS w0 g A F q Q va cp B E vs w' :=
 ⟨h.h.later hb, h.a.later hb, h.f, h.o.trans (hb.mono h.o.size), h.v.later hb, h.gb, h.gv0, h.na, fun c hc => by
  obtain ⟨c1, c2, c3, c4, c5, c6⟩ := h.c c hc
  exact ⟨c1.later hb, c2, c3, c4, c5.later hb, c6⟩⟩
theorem ZS.wrote {w0 : World} {g A A' q B : Nat} {F F' Q E : Nat → Nat} {va vs : Value} {cp : Option Nat} {wr w' : World} (h : ZS w0 g A F q Q va cp B E vs wr) (hO : Own g wr w') (hS : HS w' g A' F') : ZS w0 g A' F' q Q va cp B E vs w' :=
 ⟨hS, h.a.ownN hO h.na, h.f, h.o.trans (hO.below h.gb h.o.size), h.v.own hO h.h.1.1 h.h.1.2, h.gb, h.gv0, h.na, fun c hc => by
  obtain ⟨c1, c2, c3, c4, c5, c6, c7, c8⟩ := h.c c hc
  exact ⟨c1.own hO c3, c2, c3, c4, c5.ownN hO (fun k hk => (c8 k hk).1), c6, c7, c8⟩⟩
theorem ZS.grew {w0 : World} {g A q q' B : Nat} {F Q Q' E : Nat → Nat} {va va' vs : Value} {cp : Option Nat} {wr w' : World} (h : ZS w0 g A F q Q va cp B E vs wr) (hg : wr.grownBy w' va.ownBlock) (hG : Grow w' w0.heap.size va' q' Q') (hob : va'.ownBlock = va.ownBlock ∨ va'.ownBlock = some wr.heap.size) (hf : ∀ i, i < q' → Q' i < 256) : ZS w0 g A F q' Q' va' cp B E vs w' := by
 have hO := own_of_grown hg
 have hl := h.h.lt
 have hn : ∀ x, x < wr.heap.size → (∀ k, va.ownBlock = some k → k ≠ x) → x ≠ va.ownBlock.getD wr.heap.size := fun x hx hk => by
  cases e : va.ownBlock with
  | none => simp; omega
  | some b => simp; exact fun e2 => hk b e e2.symm
 have hn2 : ∀ x, x < wr.heap.size → (∀ k, va.ownBlock = some k → k ≠ x) → ∀ k, va'.ownBlock = some k → k ≠ x := fun x hx hk k hk' => by
  rcases hob with e | e
  ·exact hk k (by rw [← e]; exact hk')
  ·rw [e] at hk'; cases hk'; omega
 have hge : w0.heap.size ≤ va.ownBlock.getD wr.heap.size := by
  cases e : va.ownBlock with
  | none => simp; exact h.o.size
  | some b => simp; exact (h.a.lt b e).1
 refine ⟨h.h.own hO (hn g hl h.na), hG, hf, h.o.trans (hO.below hge h.o.size), ?_, h.gb, h.gv0, hn2 g hl h.na, fun c hc => ?_⟩
 ·exact h.v.own hO (by have := h.gv0; omega) (by have := h.gv0; omega)
 ·obtain ⟨c1, c2, c3, c4, c5, c6, c7, c8⟩ := h.c c hc
  refine ⟨c1.own hO (hn c c1.lt c4), c2, c3, hn2 c c1.lt c4, c5.ownN hO (fun k hk => ?_), c6, c7, fun k hk => ?_⟩
  ·have := c8 k hk
   exact hn k (c5.lt k hk).2 (fun k' hk' e => this.2.2 (by rw [hk', e]))
  ·have := c8 k hk
   refine ⟨this.1, this.2.1, fun e => ?_⟩
   exact hn2 k (c5.lt k hk).2 (fun k' hk' e => this.2.2 (by rw [hk', e])) k e rfl
theorem pow32 {n : Nat} (hn : n ≤ 32) : 2 ^ n * 2 ^ (32 - n) = 4294967296 := by
 rw [← Nat.pow_add, show n + (32 - n) = 32 by omega]
theorem ror_sum {n x : Nat} (hn : n ≤ 32) (hx : x < 4294967296) : rorN n x = x / 2 ^ n + (x % 2 ^ n) * 2 ^ (32 - n) := by
 unfold rorN
 rw [← pow32 hn, Nat.mul_mod_mul_right, Nat.mul_comm (x % 2 ^ n), ← Nat.two_pow_add_eq_or_of_lt, Nat.add_comm]
 exact Nat.div_lt_of_lt_mul (by rw [pow32 hn]; exact hx)
def rrS (v : Nat) : Nat := v / 2 + (v % 2) * 2147483648
def rrI (x i : Nat) : Nat := x / 2 ^ i + (x % 2 ^ i) * 2 ^ (32 - i)
theorem rrI_0 (x : Nat) : rrI x 0 = x := by unfold rrI; rw [Nat.pow_zero, Nat.div_one, Nat.mod_one, Nat.zero_mul]; rfl
theorem rrI_succ {x i : Nat} (hi : i < 32) : rrS (rrI x i) = rrI x (i + 1) := by
 unfold rrS rrI
 obtain ⟨K, hK⟩ := zX (2 ^ (31 - i))
 obtain ⟨q, hq⟩ := zX (x / 2 ^ i)
 obtain ⟨r, hr⟩ := zX (x % 2 ^ i)
 have e1 : 2 ^ (32 - i) = 2 * K := by rw [← hK, show 32 - i = (31 - i) + 1 by omega, Nat.pow_succ, Nat.mul_comm]
 have e2 : x / 2 ^ (i + 1) = q / 2 := by rw [Nat.pow_succ, ← Nat.div_div_eq_div_mul, hq]
 have e3 : x % 2 ^ (i + 1) = r + 2 ^ i * (q % 2) := by rw [Nat.mod_pow_succ, hr, hq]
 have e4 : 2 ^ i * K = 2147483648 := by rw [← hK, ← Nat.pow_add, show i + (31 - i) = 31 by omega]
 have e5 : 2 ^ (32 - (i + 1)) = K := by rw [← hK, show 32 - (i + 1) = 31 - i by omega]
 rw [e1, e2, e3, e5, hq, hr, Nat.add_mul, Nat.mul_right_comm (2 ^ i), e4, show r * (2 * K) = 2 * (r * K) by rw [Nat.mul_left_comm]]
 generalize r * K = z
 omega
theorem rrI_lt {x i : Nat} (hi : i ≤ 32) (hx : x < 4294967296) : rrI x i < 4294967296 := by
 have := ror_sum hi hx
 unfold rrI; rw [← this]; exact rorN_lt hx
theorem rrI_eq {x i : Nat} (hi : i ≤ 32) (hx : x < 4294967296) : rrI x i = rorN i x := (ror_sum hi hx).symm
set_option maxRecDepth 100000
theorem rror_any (x n : Nat) (m : Int) (hm : m = (n : Int)) (w : World) (hx : x < 4294967296) (hn : n ≤ 32) :
  Calls Tryz.prog 90 #[.int .u32 (x : Nat), .int .i64 m] w fun e w' => e = .returned (.int .u32 (rorN n x : Nat)) ∧ w' = w := by
 subst hm
 obtain ⟨X, hX⟩ := zX (rorN n x)
 have HX : Hid (rrI x n = X) := zh (by rw [rrI_eq hn hx, hX])
 have hx1 : (x : Int) < 4294967296 := by omega
 have hx2 : (x : Int) % 18446744073709551616 = (x : Int) := by omega
 have HB : Hid (x < 4294967296 ∧ n ≤ 32) := zh ⟨hx, hn⟩
 rw [hX]
 clear hX
 go_enter Tryz.func90, Tryz.ntmps90
 go_wp2_with fail
 go_loopw [5, 6] (fun v u wr => ∃ i : Nat, i ≤ n ∧ v = .int .u64 (rrI x i : Nat) ∧ u = .int .i64 (i : Int) ∧ wr = w) (fun _ u _ => n - (intOf u).toNat)
 case atStart => exact ⟨0, Nat.zero_le _, by rw [rrI_0], rfl, rfl⟩
 case round =>
  clear hx2 hx1
  obtain ⟨i, hi, rfl, rfl, rfl⟩ := hrel
  by_cases hli : i < n
  ·have i1 : (i : Int) < (n : Int) := by omega
   have iw : (i : Int) + 1 ≤ 9223372036854775807 := by have := HB.out; omega
   obtain ⟨V, hV⟩ := zX (rrI x i)
   obtain ⟨U, hU⟩ := zX (rrI x (i + 1))
   have hVU : V / 2 + (V % 2) * 2147483648 = U := by have := rrI_succ (x := x) (i := i) (by have := HB.out; omega); rw [hV, hU] at this; exact this
   have hVl : V < 4294967296 := by rw [← hV]; exact rrI_lt (by have := HB.out; omega) HB.out.1
   have f1 : (V : Int) / 2 + (V : Int) % 2 * 2147483648 = (U : Int) := by omega
   have f2 : (V : Int) / 2 % 18446744073709551616 = (V : Int) / 2 := by omega
   have f3 : (V : Int) % 2 * 2147483648 % 18446744073709551616 = (V : Int) % 2 * 2147483648 := by omega
   have f4 : (U : Int) % 18446744073709551616 = (U : Int) := by omega
   have hVl1 : (V : Int) < 4294967296 := by omega
   rw [hV]
   have HU := zh hU
   have HI : Hid (i + 1 ≤ n) := zh hli
   clear hVU hVl hU hV hi hli hx hn
   go_wp2_with fail
   go_roundw
   case rel => exact ⟨i + 1, HI.out, by rw [HU.out], by go_num, trivial⟩
   case measure => have := HI.out; simp [intOf] <;> omega
  ·obtain rfl : i = n := by omega
   rw [HX.out]
   have hXl : (X : Int) < 4294967296 := by have := rrI_lt HB.out.2 HB.out.1 (i := i); rw [HX.out] at this; omega
   have hX2 : (X : Int) % 4294967296 = (X : Int) := by omega
   clear hx hn hi hli
   go_wp2_with fail
   go_ret
   exact ⟨rfl, rfl⟩
theorem rshr_any (x n : Nat) (m : Int) (hm : m = (n : Int)) (w : World) (hx : x < 4294967296) (hn : n ≤ 32) :
  Calls Tryz.prog 91 #[.int .u32 (x : Nat), .int .i64 m] w fun e w' => e = .returned (.int .u32 (x / 2 ^ n : Nat)) ∧ w' = w := by
 subst hm
 obtain ⟨X, hX⟩ := zX (x / 2 ^ n)
 have HX := zh hX
 have HB : Hid (x < 4294967296 ∧ n ≤ 32) := zh ⟨hx, hn⟩
 rw [hX]
 clear hX
 go_enter Tryz.func91, Tryz.ntmps91
 go_wp2_with fail
 go_loopw [0, 5] (fun v u wr => ∃ i : Nat, i ≤ n ∧ v = .int .u32 (x / 2 ^ i : Nat) ∧ u = .int .i64 (i : Int) ∧ wr = w) (fun _ u _ => n - (intOf u).toNat)
 case atStart => exact ⟨0, Nat.zero_le _, by rw [Nat.pow_zero, Nat.div_one], rfl, rfl⟩
 case round =>
  obtain ⟨i, hi, rfl, rfl, rfl⟩ := hrel
  by_cases hli : i < n
  ·have i1 : (i : Int) < (n : Int) := by omega
   have iw : (i : Int) + 1 ≤ 9223372036854775807 := by have := HB.out; omega
   obtain ⟨V, hV⟩ := zX (x / 2 ^ i)
   obtain ⟨U, hU⟩ := zX (x / 2 ^ (i + 1))
   have hVU : V / 2 = U := by rw [← hV, ← hU, Nat.pow_succ, Nat.div_div_eq_div_mul]
   have hVl : V < 4294967296 := by rw [← hV]; exact Nat.lt_of_le_of_lt (Nat.div_le_self _ _) HB.out.1
   have f1 : (V : Int) / 2 = (U : Int) := by omega
   have f2 : (U : Int) % 4294967296 = (U : Int) := by omega
   have f3 : (V : Int).tdiv 2 = (U : Int) := by rw [Int.tdiv_eq_ediv_of_nonneg (by omega)]; exact f1
   rw [hV]
   have HU := zh hU
   have HI : Hid (i + 1 ≤ n) := zh hli
   clear hVU hVl hU hV hi hli hx hn
   go_wp2_with fail
   go_roundw
   case rel => exact ⟨i + 1, HI.out, by rw [HU.out], by go_num, trivial⟩
   case measure => have := HI.out; simp [intOf] <;> omega
  ·obtain rfl : i = n := by omega
   rw [HX.out]
   clear hx hn hi hli
   go_wp2_with fail
   go_ret
   exact ⟨rfl, rfl⟩
set_option maxRecDepth 512
theorem sub_cast {a x : Nat} (h : x ≤ a) : (a : Int) - (x : Int) = ((a - x : Nat) : Int) := (Int.ofNat_sub h).symm
theorem wrap_lt {y : Nat} (h : y < 4294967296) : IntKind.u32.wrap (y : Int) = (y : Int) := by rw [IntKind.wrap_u32]; omega
theorem wrap_not {x : Nat} (h : x < 4294967296) : IntKind.u32.wrap (4294967295 - (x : Int)) = ((4294967295 - x : Nat) : Int) := by
 rw [show (4294967295 : Int) = ((4294967295 : Nat) : Int) from rfl, sub_cast (Nat.le_of_lt_succ h)]
 exact wrap_lt (Nat.lt_of_le_of_lt (Nat.sub_le _ _) (by decide))
theorem rdS_0 (v : Nat → Nat) (k w : Nat) : rdS v k w 0 = (t1N v k w + t2N v) % 4294967296 := by unfold rdS; rw [if_pos rfl]
theorem rdS_4 (v : Nat → Nat) (k w : Nat) : rdS v k w 4 = (v 3 + t1N v k w) % 4294967296 := by unfold rdS; rw [if_neg (by decide), if_pos rfl]
theorem rdS_j (v : Nat → Nat) (k w : Nat) {j : Nat} (h0 : ¬ j = 0) (h4 : ¬ j = 4) : rdS v k w j = v (j - 1) := by unfold rdS; rw [if_neg h0, if_neg h4]
theorem rnd_nums (V : Nat → Nat) (kt wt x0 x1 x2 x3 x4 x5 x6 x7 : Nat) (l0 : x0 < 4294967296) (l1 : x1 < 4294967296) (l2 : x2 < 4294967296) (l3 : x3 < 4294967296) (l4 : x4 < 4294967296) (l5 : x5 < 4294967296) (l6 : x6 < 4294967296) (l7 : x7 < 4294967296) (lk : kt < 4294967296) (lw : wt < 4294967296) (h0 : V 0 = x0) (h1 : V 1 = x1) (h2 : V 2 = x2) (h3 : V 3 = x3) (h4 : V 4 = x4) (h5 : V 5 = x5) (h6 : V 6 = x6) (h7 : V 7 = x7) :
  ∃ o1 o2 o3 o4 o5 o6 o7 o8 o9 oa ob oc od oe nx B1 B0 ch mj v1 v2 v3 T1 T2 U4 U0 : Nat, (rorN 6 x4 = o3 ∧ rorN 11 x4 = o4 ∧ rorN 25 x4 = o5 ∧ rorN 2 x0 = o6 ∧ rorN 13 x0 = o7 ∧ rorN 22 x0 = o8) ∧
   (bits .xor .u32 (o3 : Int) (o4 : Int) = (o1 : Int) ∧ bits .xor .u32 (o1 : Int) (o5 : Int) = (B1 : Int) ∧ bits .and .u32 (x4 : Int) (x5 : Int) = (oa : Int) ∧ bits .and .u32 (nx : Int) (x6 : Int) = (ob : Int) ∧ bits .xor .u32 (oa : Int) (ob : Int) = (ch : Int) ∧ IntKind.u32.wrap (4294967295 - (x4 : Int)) = (nx : Int) ∧ IntKind.u32.wrap ((x7 : Int) + (B1 : Int)) = (v1 : Int) ∧ IntKind.u32.wrap ((v1 : Int) + (ch : Int)) = (v2 : Int) ∧ IntKind.u32.wrap ((v2 : Int) + (kt : Int)) = (v3 : Int) ∧ IntKind.u32.wrap ((v3 : Int) + (wt : Int)) = (T1 : Int)) ∧
   (bits .xor .u32 (o6 : Int) (o7 : Int) = (o2 : Int) ∧ bits .xor .u32 (o2 : Int) (o8 : Int) = (B0 : Int) ∧ bits .and .u32 (x0 : Int) (x1 : Int) = (oc : Int) ∧ bits .and .u32 (x0 : Int) (x2 : Int) = (od : Int) ∧ bits .and .u32 (x1 : Int) (x2 : Int) = (oe : Int) ∧ bits .xor .u32 (oc : Int) (od : Int) = (o9 : Int) ∧ bits .xor .u32 (o9 : Int) (oe : Int) = (mj : Int) ∧ IntKind.u32.wrap ((B0 : Int) + (mj : Int)) = (T2 : Int) ∧ IntKind.u32.wrap ((x3 : Int) + (T1 : Int)) = (U4 : Int) ∧ IntKind.u32.wrap ((T1 : Int) + (T2 : Int)) = (U0 : Int)) ∧
   (rdS V kt wt 0 = U0 ∧ rdS V kt wt 1 = x0 ∧ rdS V kt wt 2 = x1 ∧ rdS V kt wt 3 = x2 ∧ rdS V kt wt 4 = U4 ∧ rdS V kt wt 5 = x4 ∧ rdS V kt wt 6 = x5 ∧ rdS V kt wt 7 = x6) := by
 have ht1 : t1N V kt wt = (x7 + bg1 x4 + chN x4 x5 x6 + kt + wt) % 4294967296 := by unfold t1N; rw [h7, h4, h5, h6]
 have ht2 : t2N V = (bg0 x0 + mjN x0 x1 x2) % 4294967296 := by unfold t2N; rw [h0, h1, h2]
 have f1 : bits .xor .u32 (rorN 6 x4 : Nat) (rorN 11 x4 : Nat) = ((rorN 6 x4 ^^^ rorN 11 x4 : Nat) : Int) := u32_xor_nat _ _ (rorN_lt l4) (rorN_lt l4)
 have f2 : bits .xor .u32 ((rorN 6 x4 ^^^ rorN 11 x4 : Nat) : Int) (rorN 25 x4 : Nat) = ((bg1 x4 : Nat) : Int) := u32_xor_nat _ _ (xor32 (rorN_lt l4) (rorN_lt l4)) (rorN_lt l4)
 have g1 : bits .xor .u32 (rorN 2 x0 : Nat) (rorN 13 x0 : Nat) = ((rorN 2 x0 ^^^ rorN 13 x0 : Nat) : Int) := u32_xor_nat _ _ (rorN_lt l0) (rorN_lt l0)
 have g2 : bits .xor .u32 ((rorN 2 x0 ^^^ rorN 13 x0 : Nat) : Int) (rorN 22 x0 : Nat) = ((bg0 x0 : Nat) : Int) := u32_xor_nat _ _ (xor32 (rorN_lt l0) (rorN_lt l0)) (rorN_lt l0)
 have n1 : bits .and .u32 (x4 : Int) (x5 : Int) = ((x4 &&& x5 : Nat) : Int) := u32_and_nat _ _ l4 l5
 have n2 : bits .and .u32 ((4294967295 - x4 : Nat) : Int) (x6 : Int) = (((4294967295 - x4) &&& x6 : Nat) : Int) := u32_and_nat _ _ (by omega) l6
 have n3 : bits .xor .u32 ((x4 &&& x5 : Nat) : Int) (((4294967295 - x4) &&& x6 : Nat) : Int) = ((chN x4 x5 x6 : Nat) : Int) := u32_xor_nat _ _ (and32 (b := x5) l4) (and32 (b := x6) (by omega))
 have n4 : IntKind.u32.wrap (4294967295 - (x4 : Int)) = ((4294967295 - x4 : Nat) : Int) := wrap_not l4
 have p1 : bits .and .u32 (x0 : Int) (x1 : Int) = ((x0 &&& x1 : Nat) : Int) := u32_and_nat _ _ l0 l1
 have p2 : bits .and .u32 (x0 : Int) (x2 : Int) = ((x0 &&& x2 : Nat) : Int) := u32_and_nat _ _ l0 l2
 have p3 : bits .and .u32 (x1 : Int) (x2 : Int) = ((x1 &&& x2 : Nat) : Int) := u32_and_nat _ _ l1 l2
 have p4 : bits .xor .u32 ((x0 &&& x1 : Nat) : Int) ((x0 &&& x2 : Nat) : Int) = (((x0 &&& x1) ^^^ (x0 &&& x2) : Nat) : Int) := u32_xor_nat _ _ (and32 (b := x1) l0) (and32 (b := x2) l0)
 have p5 : bits .xor .u32 (((x0 &&& x1) ^^^ (x0 &&& x2) : Nat) : Int) ((x1 &&& x2 : Nat) : Int) = ((mjN x0 x1 x2 : Nat) : Int) := u32_xor_nat _ _ (xor32 (and32 (b := x1) l0) (and32 (b := x2) l0)) (and32 (b := x2) l1)
 generalize rorN 6 x4 ^^^ rorN 11 x4 = o1 at *
 generalize rorN 2 x0 ^^^ rorN 13 x0 = o2 at *
 generalize rorN 6 x4 = o3 at *
 generalize rorN 11 x4 = o4 at *
 generalize rorN 25 x4 = o5 at *
 generalize rorN 2 x0 = o6 at *
 generalize rorN 13 x0 = o7 at *
 generalize rorN 22 x0 = o8 at *
 generalize bg1 x4 = B1 at *
 generalize bg0 x0 = B0 at *
 generalize chN x4 x5 x6 = ch at *
 generalize mjN x0 x1 x2 = mj at *
 generalize (x0 &&& x1) ^^^ (x0 &&& x2) = o9 at *
 generalize x4 &&& x5 = oa at *
 generalize (4294967295 - x4) &&& x6 = ob at *
 generalize x0 &&& x1 = oc at *
 generalize x0 &&& x2 = od at *
 generalize x1 &&& x2 = oe at *
 generalize 4294967295 - x4 = nx at *
 obtain ⟨v1, hv1⟩ := zX ((x7 + B1) % 4294967296)
 obtain ⟨v2, hv2⟩ := zX ((v1 + ch) % 4294967296)
 obtain ⟨v3, hv3⟩ := zX ((v2 + kt) % 4294967296)
 obtain ⟨T1, hT1⟩ := zX (t1N V kt wt)
 obtain ⟨T2, hT2⟩ := zX (t2N V)
 obtain ⟨U4, hU4⟩ := zX ((x3 + T1) % 4294967296)
 obtain ⟨U0, hU0⟩ := zX ((T1 + T2) % 4294967296)
 rw [hT1] at ht1
 rw [hT2] at ht2
 have s1 := u32m (x7 : Int) (B1 : Int) rfl rfl hv1
 have s2 := u32m (v1 : Int) (ch : Int) rfl rfl hv2
 have s3 := u32m (v2 : Int) (kt : Int) rfl rfl hv3
 have s4 := u32m (v3 : Int) (wt : Int) (e := T1) rfl rfl (by omega)
 have s5 := u32m (B0 : Int) (mj : Int) rfl rfl ht2.symm
 have s6 := u32m (x3 : Int) (T1 : Int) rfl rfl hU4
 have s7 := u32m (T1 : Int) (T2 : Int) rfl rfl hU0
 refine ⟨o1, o2, o3, o4, o5, o6, o7, o8, o9, oa, ob, oc, od, oe, nx, B1, B0, ch, mj, v1, v2, v3, T1, T2, U4, U0, ⟨rfl, rfl, rfl, rfl, rfl, rfl⟩, ⟨f1, f2, n1, n2, n3, n4, s1, s2, s3, s4⟩, ⟨g1, g2, p1, p2, p3, p4, p5, s5, s6, s7⟩, ?_, ?_, ?_, ?_, ?_, ?_, ?_, ?_⟩
 ·rw [rdS_0, hT1, hT2, hU0]
 ·rw [rdS_j V kt wt (by decide) (by decide)]; exact h0
 ·rw [rdS_j V kt wt (by decide) (by decide)]; exact h1
 ·rw [rdS_j V kt wt (by decide) (by decide)]; exact h2
 ·rw [rdS_4, hT1, h3, hU4]
 ·rw [rdS_j V kt wt (by decide) (by decide)]; exact h4
 ·rw [rdS_j V kt wt (by decide) (by decide)]; exact h5
 ·rw [rdS_j V kt wt (by decide) (by decide)]; exact h6
set_option maxRecDepth 100000
set_option maxHeartbeats 8000000
def partsT : Array (Nat × Operand) := ((List.range 64).map fun i => (i, Operand.const (.int .u32 (kN i : Nat)))).toArray
def psT : Array (Nat × Value) := ((List.range 64).map fun i => (i, Value.int .u32 (kN i : Nat))).toArray
theorem buildT (w : World) : (Instr.build 168 psT).run Tryz.prog w = .ok (.agg (rowW 64 kN).toArray) w :=
 run_build w 168 _ _ (by kernel_rfl)
theorem exec_buildT {o : Oper} {a : Act} {w : World} (ho : o.op = .build 168 partsT) : (execOp a.eval o).run Tryz.prog w = .ok (.value (.agg (rowW 64 kN).toArray)) w := by
 have hp : (partsT.map fun (i, x) => (i, a.eval x)) = psT := by
  unfold partsT psT
  rw [List.map_toArray, List.map_map]; rfl
 unfold execOp
 simp only [ho, hp, Sem.run_bind, buildT, Result.andThen_ok]
 rfl
theorem exec_build8 {o : Oper} {a : Act} {w : World} {M : Nat → Nat} {x0 x1 x2 x3 x4 x5 x6 x7 : Operand} (ho : o.op = .build 149 #[(0, x0), (1, x1), (2, x2), (3, x3), (4, x4), (5, x5), (6, x6), (7, x7)])
  (h0 : a.eval x0 = .int .u32 (M 0 : Nat)) (h1 : a.eval x1 = .int .u32 (M 1 : Nat)) (h2 : a.eval x2 = .int .u32 (M 2 : Nat)) (h3 : a.eval x3 = .int .u32 (M 3 : Nat)) (h4 : a.eval x4 = .int .u32 (M 4 : Nat)) (h5 : a.eval x5 = .int .u32 (M 5 : Nat)) (h6 : a.eval x6 = .int .u32 (M 6 : Nat)) (h7 : a.eval x7 = .int .u32 (M 7 : Nat)) :
  (execOp a.eval o).run Tryz.prog w = .ok (.value (.agg (rowW 8 M).toArray)) w := by
 have hb : (Instr.build 149 #[(0, .int .u32 (M 0 : Nat)), (1, .int .u32 (M 1 : Nat)), (2, .int .u32 (M 2 : Nat)), (3, .int .u32 (M 3 : Nat)), (4, .int .u32 (M 4 : Nat)), (5, .int .u32 (M 5 : Nat)), (6, .int .u32 (M 6 : Nat)), (7, .int .u32 (M 7 : Nat))]).run Tryz.prog w = .ok (.agg (rowW 8 M).toArray) w := run_build w 149 _ _ (by kernel_rfl)
 unfold execOp
 simp only [ho, List.map_toArray, List.map_cons, List.map_nil, h0, h1, h2, h3, h4, h5, h6, h7, Sem.run_bind, hb, Result.andThen_ok]
 rfl
theorem sizeSet (b : Nat) : ∀ (vs : List Value) (o : Nat) (w : World), (w.setCells b o vs).heap.size = w.heap.size
 | [], _, _ => rfl
 | v :: r, o, w => by rw [World.setCells, sizeSet b r]; simp
structure RO (w0 : World) (H W : Nat → Nat) (wr : World) : Prop where
 h : WB 149 8 w0.heap.size H wr
 r : WB 149 8 (w0.heap.size + 1) (fun _ => 0) wr
 k : WB 168 64 (w0.heap.size + 1 + 1) kN wr
 y : WB 168 64 (w0.heap.size + 1 + 1 + 1) W wr
 o : Below w0.heap.size w0 wr
theorem RO.below {w0 : World} {H W : Nat → Nat} {wr w' : World} (h : RO w0 H W wr) (hb : Below wr.heap.size wr w') : RO w0 H W w' :=
 ⟨Blk.below h.h hb (Blk.lt h.h), Blk.below h.r hb (Blk.lt h.r), Blk.below h.k hb (Blk.lt h.k), Blk.below h.y hb (Blk.lt h.y), h.o.trans (hb.mono h.o.size)⟩
theorem RO.drew {w0 : World} {H W : Nat → Nat} {wr : World} (h : RO w0 H W wr) : RO w0 H W wr.drew := h.below (Below.refl _ wr).drew
theorem RO.congr {w0 : World} {H W W' : Nat → Nat} {wr : World} (h : RO w0 H W wr) (he : ∀ i, i < 64 → W i = W' i) : RO w0 H W' wr := ⟨h.h, h.r, h.k, h.y.congr he, h.o⟩
theorem RO.set {w0 : World} {H : Nat → Nat} {b : Nat → Nat} {n x : Nat} {wr : World} (h : RO w0 H (fun t => if t < n then spK b 64 t else 0) wr) (hx : spK b 64 n = x) : RO w0 H (fun t => if t < n + 1 then spK b 64 t else 0) (wr.setCell ⟨w0.heap.size + 1 + 1 + 1, n, none⟩ (.int .u32 (x : Nat))) := by
 refine ⟨Blk.set_other h.h (by simp; omega) _, Blk.set_other h.r (by first | (simp; done) | (simp; omega)) _, Blk.set_other h.k (by simp) _, (h.y.set n x).congr fun j _ => ?_, h.o.setCell (by simp; omega) _⟩
 unfold upd
 by_cases e : j = n
 ·rw [if_pos e, e, if_pos (by omega), hx]
 ·rw [if_neg e]
  show (if j < n then spK b 64 j else 0) = if j < n + 1 then spK b 64 j else 0
  by_cases h5 : j < n
  ·rw [if_pos h5, if_pos (by omega)]
  ·rw [if_neg h5, if_neg (by omega)]
theorem RO.word {w0 : World} {H b : Nat → Nat} {n i x : Nat} {wr : World} (h : RO w0 H (fun t => if t < n then spK b 64 t else 0) wr) (hi : i < n) (hn : n ≤ 64) (hx : spK b 64 i = x) : wr.cell? ⟨w0.heap.size + 1 + 1 + 1, i, none⟩ = some (.int .u32 (x : Nat)) :=
 h.y.val (by omega) (by rw [← hx]; exact if_pos hi)
theorem RO.none {w0 : World} {H b : Nat → Nat} {n : Nat} {wr : World} (h : RO w0 H (fun t => if t < n then spK b 64 t else 0) wr) (hn : n < 64) : wr.cell? ⟨w0.heap.size + 1 + 1 + 1, n, none⟩ = some (.int .u32 0) :=
 h.y.val hn (if_neg (Nat.lt_irrefl _))
theorem rone_any (H b : Nat → Nat) (mb mo mc : Nat) (w : World) (hH : ∀ j, j < 8 → H j < 4294967296) (hB : Bytes w (some ⟨mb, mo, none⟩) 64 b) :
  Calls Tryz.prog 74 #[.agg (rowW 8 H).toArray, .slice (some ⟨mb, mo, none⟩) 64 mc] w fun e w' => e = .returned (.agg (rowW 8 (mixN H b)).toArray) ∧ Below w.heap.size w w' := by
 have hz := zero64w_run
 have hz8 := zero8w_run
 have HB8 : Hid (∀ i, i < 64 → b i < 256) := zh fun i hi => (hB i hi).1
 have HBY : Hid (∀ w', Below w.heap.size w w' → ∀ i, i < 64 → w'.cell? ⟨mb, mo + i, none⟩ = some (.int .u8 (b i : Nat))) := zh fun w' h i hi => by
  obtain ⟨_, b2, off, e, hc⟩ := (hB.later h) i hi
  cases e; exact hc
 have HWL := zh (fun t => spK_lt HB8.out 64 t)
 have HL := zh (fun n => rdK_lt (W := spK b 64) hH n)
 have HHL := zh hH
 obtain ⟨CH, hCH⟩ := zX ((rowW 8 H).toArray)
 obtain ⟨CK, hCK⟩ := zX ((rowW 64 kN).toArray)
 have HIK : Hid ((Tryz.prog.info? 168).map (·.size) = some CK.size) := zh (by rw [← hCK]; exact info70 kN)
 have HIK1 : Hid (CK.all (·.oneCell') = true) := zh (by rw [← hCK]; exact one64w kN)
 have HBT : Hid (∀ (o : Oper) (a : Act) w, o.dst = some 21 → o.op = .build 168 partsT → (execOp a.eval o).run Tryz.prog w = .ok (.value (.agg CK)) w) := zh fun o a w _ ho => by rw [← hCK]; exact exec_buildT ho
 obtain ⟨wa, hwa⟩ := zX (((w.alloc (.cells CH 149)).alloc (.cells zero8w 149)).alloc (.cells zero64w 168))
 obtain ⟨wb, hwb⟩ := zX (wa.setCells (w.heap.size + 1 + 1) 0 CK.toList)
 have hA : WB 168 64 (w.heap.size + 1 + 1) (fun _ => 0) wa := by
  rw [← hwa]
  have := Blk.new ((w.alloc (.cells CH 149)).alloc (.cells zero8w 149)) zero64w 168
  show Blk _ _ zero64w _; simpa using this
 have HTH : Hid (wa.there (w.heap.size + 1 + 1) 0 CK.size) := zh (by rw [← hCK]; exact Blk.there hA (by rw [rowW_size, rowW_size]; exact Nat.le_refl _))
 have HT : Hid (RO w H (fun t => if t < 0 then spK b 64 t else 0) (wb.alloc (.cells zero64w 168))) := zh (by
  have hO : Own (w.heap.size + 1 + 1) wa wb := by rw [← hwb]; exact Own.setCells _ _ _
  have hs : wb.heap.size = w.heap.size + 1 + 1 + 1 := by rw [← hwb, sizeSet, ← hwa]; simp
  have hbl : Below w.heap.size w wa := by rw [← hwa]; exact ((zA).alloc (by simp) _).alloc (by simp; omega) _
  have hbb : Below w.heap.size w wb := hbl.trans (hO.below (by omega) hbl.size)
  refine ⟨?_, ?_, ?_, ?_, hbb.alloc hbb.size _⟩
  ·refine Blk.alloc (hO.blk ?_ (by omega)) _
   rw [← hwa, ← hCH]; exact ((Blk.new w _ 149).alloc _).alloc _
  ·refine Blk.alloc (hO.blk ?_ (by omega)) _
   rw [← hwa]
   have := (Blk.new (w.alloc (.cells CH 149)) zero8w 149).alloc (.cells zero64w 168)
   show Blk _ _ zero8w _; simpa using this
  ·refine Blk.alloc ?_ _
   rw [← hwb, ← hCK]
   exact Blk.setCells hA (rowW 64 kN) (by rw [rowW_size, rowW_len])
  ·refine WB.congr (f := fun _ => 0) ?_ fun i _ => (if_neg (Nat.not_lt_zero _)).symm
   have := Blk.new wb zero64w 168
   rw [hs] at this
   exact this)
 have hs3 : wb.heap.size = w.heap.size + 1 + 1 + 1 := by rw [← hwb, sizeSet, ← hwa]; simp
 obtain ⟨M, hM⟩ := zX (mixN H b)
 have HMM := zh hM
 rw [hCH, hM]
 clear hCH hCK hA hH hB hM
 go_enter Tryz.func74, Tryz.ntmps74
 go_wp2_with (first
  | (refine wpList_value rfl (HBT.out _ _ _ rfl (by kernel_rfl)) ?_)
  | (refine wpList_store_mid rfl 168 (.tmp 5) (.tmp 21) rfl (w.heap.size + 1 + 1) 0 CK rfl rfl HTH.out HIK.out HIK1.out ?_; rw [hwb]))
 clear hz hz8 hwa hwb hs3 HTH HIK HIK1 HBT
 go_loopw [7] (fun v wr => ∃ t : Nat, t ≤ 64 ∧ v = .int .i64 (t : Int) ∧ RO w H (fun u => if u < t then spK b 64 u else 0) wr) (fun v _ => 64 - (intOf v).toNat)
 case atStart => exact ⟨0, Nat.zero_le _, rfl, HT.out⟩
 case round =>
  clear HT
  obtain ⟨t, ht, rfl, hW⟩ := hrel
  have HW := zh hW
  clear hW
  by_cases hlt : t < 64
  ·have t0 : (0 : Int) ≤ (t : Int) := by omega
   have t1 : (t : Int) < 64 := by omega
   by_cases h16 : t < 16
   ·as_aux_lemma =>
    have t6 : (t : Int) < 16 := by omega
    obtain ⟨j0, hj0⟩ := zX (4 * t)
    obtain ⟨j1, hj1⟩ := zX (j0 + 1)
    obtain ⟨j2, hj2⟩ := zX (j0 + 2)
    obtain ⟨j3, hj3⟩ := zX (j0 + 3)
    have k0 := wrn (m := 4) rfl hj0 (by omega)
    have k1 := wrk (m := 1) rfl hj1 (by omega)
    have k2 := wrk (m := 2) rfl hj2 (by omega)
    have k3 := wrk (m := 3) rfl hj3 (by omega)
    obtain ⟨a0, b0⟩ : (0 : Int) ≤ (j0 : Int) ∧ (j0 : Int) < 64 := by omega
    obtain ⟨a1, b1⟩ : (0 : Int) ≤ (j1 : Int) ∧ (j1 : Int) < 64 := by omega
    obtain ⟨a2, b2⟩ : (0 : Int) ≤ (j2 : Int) ∧ (j2 : Int) < 64 := by omega
    obtain ⟨a3, b3⟩ : (0 : Int) ≤ (j3 : Int) ∧ (j3 : Int) < 64 := by omega
    have HP := HW.out.drew
    have hkw : spK b 64 t = b j0 * 16777216 + b j1 * 65536 + b j2 * 256 + b j3 := by
     rw [spK_lo b h16]; unfold wd; rw [← hj1, ← hj2, ← hj3, ← hj0]
    have l0 := HB8.out j0 (by omega)
    have l1 := HB8.out j1 (by omega)
    have l2 := HB8.out j2 (by omega)
    have l3 := HB8.out j3 (by omega)
    have q0 := HBY.out _ HP.o j0 (by omega)
    have q1 := HBY.out _ HP.o j1 (by omega)
    have q2 := HBY.out _ HP.o j2 (by omega)
    have q3 := HBY.out _ HP.o j3 (by omega)
    generalize b j0 = x0 at *
    generalize b j1 = x1 at *
    generalize b j2 = x2 at *
    generalize b j3 = x3 at *
    have c0 : IntKind.u32.wrap (x0 : Int) = (x0 : Int) := by rw [IntKind.wrap_u32]; omega
    have c1 : IntKind.u32.wrap (x1 : Int) = (x1 : Int) := by rw [IntKind.wrap_u32]; omega
    have c2 : IntKind.u32.wrap (x2 : Int) = (x2 : Int) := by rw [IntKind.wrap_u32]; omega
    have c3 : IntKind.u32.wrap (x3 : Int) = (x3 : Int) := by rw [IntKind.wrap_u32]; omega
    obtain ⟨n1, hn1⟩ := zX (x0 * 16777216)
    obtain ⟨n2, hn2⟩ := zX (x1 * 65536)
    obtain ⟨n3, hn3⟩ := zX (x2 * 256)
    obtain ⟨n4, hn4⟩ := zX (n1 + n2)
    obtain ⟨n5, hn5⟩ := zX (n4 + n3)
    obtain ⟨V, hV⟩ := zX (spK b 64 t)
    rw [hV] at hkw
    have d0 : IntKind.u32.wrap ((x0 : Int) * 16777216) = (n1 : Int) := by rw [IntKind.wrap_u32]; omega
    have d1 : IntKind.u32.wrap ((x1 : Int) * 65536) = (n2 : Int) := by rw [IntKind.wrap_u32]; omega
    have d2 : IntKind.u32.wrap ((x2 : Int) * 256) = (n3 : Int) := by rw [IntKind.wrap_u32]; omega
    have d3 : IntKind.u32.wrap ((n1 : Int) + (n2 : Int)) = (n4 : Int) := by rw [IntKind.wrap_u32]; omega
    have d4 : IntKind.u32.wrap ((n4 : Int) + (n3 : Int)) = (n5 : Int) := by rw [IntKind.wrap_u32]; omega
    have d5 : IntKind.u32.wrap ((n5 : Int) + (x3 : Int)) = (V : Int) := by rw [IntKind.wrap_u32]; omega
    have c8 := HP.none (show t < 64 by omega)
    have z8 : wr.drew.frozen? ⟨w.heap.size + 1 + 1 + 1, t, none⟩ = false := HP.y.free _
    have HN := zh (HP.set hV)
    clear hkw l0 l1 l2 l3 hV hj0 hj1 hj2 hj3 HP hn1 hn2 hn3 hn4 hn5 HW ht h16
    go_wp2_with fail
    refine still_tail 35 (by kernel_rfl) (by kernel_rfl) ?_
    simp only [List.take_succ_cons, List.take_zero, List.drop_succ_cons, List.drop_zero]
    generalize wr.drew = W0 at *
    repeat still_step
    refine wpStill_nil ?_
    clear k0 k1 k2 k3
    go_wp2_with fail
    go_roundw
    case rel => exact ⟨t + 1, by omega, by go_num, HN.out⟩
    case measure => simp [intOf] <;> omega
   ·as_aux_lemma =>
    have t6 : ¬ (t : Int) < 16 := by omega
    have t16 : (16 : Int) ≤ (t : Int) := by omega
    obtain ⟨p, hp⟩ : ∃ p, t = p + 15 := ⟨t - 15, by omega⟩
    obtain ⟨q, hq⟩ : ∃ p, t = p + 2 := ⟨t - 2, by omega⟩
    obtain ⟨r, hr⟩ : ∃ p, t = p + 7 := ⟨t - 7, by omega⟩
    obtain ⟨s, hs⟩ : ∃ p, t = p + 16 := ⟨t - 16, by omega⟩
    have m1 := wrb (m := 15) rfl hp (by omega)
    have m2 := wrb (m := 2) rfl hq (by omega)
    have m3 := wrb (m := 7) rfl hr (by omega)
    have m4 := wrb (m := 16) rfl hs (by omega)
    obtain ⟨p0, p1⟩ : (0 : Int) ≤ (p : Int) ∧ (p : Int) < 64 := by omega
    obtain ⟨q0, q1⟩ : (0 : Int) ≤ (q : Int) ∧ (q : Int) < 64 := by omega
    obtain ⟨r0, r1⟩ : (0 : Int) ≤ (r : Int) ∧ (r : Int) < 64 := by omega
    obtain ⟨s0, s1⟩ : (0 : Int) ≤ (s : Int) ∧ (s : Int) < 64 := by omega
    have hre := spK_hi b (show 16 ≤ t by omega) hlt
    unfold spS at hre
    rw [show t - 2 = q by omega, show t - 7 = r by omega, show t - 15 = p by omega, show t - 16 = s by omega] at hre
    obtain ⟨x, hx⟩ := zX (spK b 64 p)
    obtain ⟨y, hy⟩ := zX (spK b 64 q)
    obtain ⟨u, hu⟩ := zX (spK b 64 r)
    obtain ⟨z, hz⟩ := zX (spK b 64 s)
    obtain ⟨V, hV⟩ := zX (spK b 64 t)
    have lx : x < 4294967296 := hx ▸ HWL.out p
    have ly : y < 4294967296 := hy ▸ HWL.out q
    have lu : u < 4294967296 := hu ▸ HWL.out r
    have lz : z < 4294967296 := hz ▸ HWL.out s
    rw [hx, hy, hu, hz, hV] at hre
    have HP := zh HW.out.drew
    have cx : wr.drew.cell? ⟨w.heap.size + 1 + 1 + 1, p, none⟩ = some (.int .u32 (x : Nat)) := HP.out.word (by omega) ht hx
    have cy : wr.drew.cell? ⟨w.heap.size + 1 + 1 + 1, q, none⟩ = some (.int .u32 (y : Nat)) := HP.out.word (by omega) ht hy
    have HU : Hid (spK b 64 r = u ∧ spK b 64 s = z ∧ r < t ∧ s < t ∧ t < 64) := zh ⟨hu, hz, by omega, by omega, hlt⟩
    have HVV := zh hV
    have R7 := zh (fun w' => rror_any x 7 7 rfl w' lx (by decide))
    have R18 := zh (fun w' => rror_any x 18 18 rfl w' lx (by decide))
    have R17 := zh (fun w' => rror_any y 17 17 rfl w' ly (by decide))
    have R19 := zh (fun w' => rror_any y 19 19 rfl w' ly (by decide))
    have S3 : Hid (∀ w', Calls Tryz.prog 91 #[.int .u32 (x : Nat), .int .i64 3] w' fun e w'' => e = .returned (.int .u32 (x / 8 : Nat)) ∧ w'' = w') := zh (fun w' => rshr_any x 3 3 rfl w' lx (by decide))
    have S10 : Hid (∀ w', Calls Tryz.prog 91 #[.int .u32 (y : Nat), .int .i64 10] w' fun e w'' => e = .returned (.int .u32 (y / 1024 : Nat)) ∧ w'' = w') := zh (fun w' => rshr_any y 10 10 rfl w' ly (by decide))
    have f1 : bits .xor .u32 (rorN 7 x : Nat) (rorN 18 x : Nat) = ((rorN 7 x ^^^ rorN 18 x : Nat) : Int) := u32_xor_nat _ _ (rorN_lt lx) (rorN_lt lx)
    have f2 : bits .xor .u32 ((rorN 7 x ^^^ rorN 18 x : Nat) : Int) ((x / 8 : Nat) : Int) = ((sg0 x : Nat) : Int) := u32_xor_nat _ _ (xor32 (rorN_lt lx) (rorN_lt lx)) (by omega)
    have g1 : bits .xor .u32 (rorN 17 y : Nat) (rorN 19 y : Nat) = ((rorN 17 y ^^^ rorN 19 y : Nat) : Int) := u32_xor_nat _ _ (rorN_lt ly) (rorN_lt ly)
    have g2 : bits .xor .u32 ((rorN 17 y ^^^ rorN 19 y : Nat) : Int) ((y / 1024 : Nat) : Int) = ((sg1 y : Nat) : Int) := u32_xor_nat _ _ (xor32 (rorN_lt ly) (rorN_lt ly)) (by omega)
    generalize rorN 7 x ^^^ rorN 18 x = o1 at *
    generalize rorN 17 y ^^^ rorN 19 y = o2 at *
    generalize rorN 7 x = o3 at *
    generalize rorN 18 x = o4 at *
    generalize rorN 17 y = o5 at *
    generalize rorN 19 y = o6 at *
    generalize sg0 x = S0 at *
    generalize sg1 y = S1 at *
    generalize x / 8 = x8 at *
    generalize y / 1024 = y8 at *
    obtain ⟨v1, hv1⟩ := zX ((S1 + u) % 4294967296)
    obtain ⟨v2, hv2⟩ := zX ((v1 + S0) % 4294967296)
    have h1 := u32m (S1 : Int) (u : Int) rfl rfl hv1
    have h2 := u32m (v1 : Int) (S0 : Int) rfl rfl hv2
    have h3 := u32m (v2 : Int) (z : Int) (e := V) rfl rfl (by omega)
    have HH1 := zh h1
    have HH2 := zh h2
    have HH3 := zh h3
    have HF := zh (And.intro (And.intro f1 f2) (And.intro g1 g2))
    have HM := zh (And.intro m3 m4)
    clear hv1 hv2 hre h1 h2 h3 lx ly lu lz hx hy hu hz hV hp hq hr hs ht h16 hlt HW f1 f2 g1 g2 m3 m4
    go_wp2_with fail
    refine still_lit (by kernel_rfl) (by kernel_rfl) ?_
    generalize wr.drew = W0 at *
    repeat still_step
    refine wpStill_nil ?_
    clear cx cy m1 m2
    go_wp2_with fail
    have HP2 := zh HP.out.drew
    clear HP
    have cu : W0.drew.cell? ⟨w.heap.size + 1 + 1 + 1, r, none⟩ = some (.int .u32 (u : Nat)) := HP2.out.word HU.out.2.2.1 (Nat.le_of_lt HU.out.2.2.2.2) HU.out.1
    have cz : W0.drew.cell? ⟨w.heap.size + 1 + 1 + 1, s, none⟩ = some (.int .u32 (z : Nat)) := HP2.out.word HU.out.2.2.2.1 (Nat.le_of_lt HU.out.2.2.2.2) HU.out.2.1
    have c8 := HP2.out.none HU.out.2.2.2.2
    have z8 : W0.drew.frozen? ⟨w.heap.size + 1 + 1 + 1, t, none⟩ = false := HP2.out.y.free _
    have HN := zh (HP2.out.set HVV.out)
    have h1 := HH1.out
    have h2 := HH2.out
    have h3 := HH3.out
    have f1 := HF.out.1.1
    have f2 := HF.out.1.2
    have g1 := HF.out.2.1
    have g2 := HF.out.2.2
    have m3 := HM.out.1
    have m4 := HM.out.2
    clear HP2 HH1 HH2 HH3 HF HM
    refine still_tail 29 (by kernel_rfl) (by kernel_rfl) ?_
    simp only [List.take_succ_cons, List.take_zero, List.drop_succ_cons, List.drop_zero]
    generalize W0.drew = W1 at *
    repeat still_step
    refine wpStill_step (fun K hK => ?_)
    go_simp
    with_reducible refine ⟨_, R17.out _, hK _ ?_⟩
    clear hK K
    repeat still_step
    refine wpStill_step (fun K hK => ?_)
    go_simp
    with_reducible refine ⟨_, R19.out _, hK _ ?_⟩
    clear hK K
    repeat still_step
    refine wpStill_step (fun K hK => ?_)
    go_simp
    with_reducible refine ⟨_, S10.out _, hK _ ?_⟩
    clear hK K
    repeat still_step
    refine wpStill_step (fun K hK => ?_)
    go_simp
    with_reducible refine ⟨_, R7.out _, hK _ ?_⟩
    clear hK K
    repeat still_step
    refine wpStill_step (fun K hK => ?_)
    go_simp
    with_reducible refine ⟨_, R18.out _, hK _ ?_⟩
    clear hK K
    repeat still_step
    refine wpStill_step (fun K hK => ?_)
    go_simp
    with_reducible refine ⟨_, S3.out _, hK _ ?_⟩
    clear hK K
    repeat still_step
    refine wpStill_nil ?_
    clear cu cz m3 m4 h1 h2 h3 f1 f2 g1 g2
    go_wp2_with fail
    have h64 := HU.out.2.2.2.2
    go_roundw
    case rel => exact ⟨t + 1, by omega, by go_num, HN.out⟩
    case measure => simp [intOf] <;> omega
  ·as_aux_lemma =>
   obtain rfl : t = 64 := by omega
   obtain ⟨W, hWe⟩ := zX (spK b 64)
   have HR : Hid (RO w H W wr) := zh (hWe ▸ HW.out.congr fun i hi => if_pos hi)
   have HMX : Hid (M = fun j => (rdK H W 64 j + H j) % 4294967296) := zh (by rw [← HMM.out, ← hWe]; rfl)
   rw [hWe] at HL HWL
   clear hWe ht hlt HW HBY HB8 HMM
   rw [show ((64 : Nat) : Int) = 64 from rfl]
   obtain ⟨y0, hy0⟩ := zX (H 0)
   obtain ⟨y1, hy1⟩ := zX (H 1)
   obtain ⟨y2, hy2⟩ := zX (H 2)
   obtain ⟨y3, hy3⟩ := zX (H 3)
   obtain ⟨y4, hy4⟩ := zX (H 4)
   obtain ⟨y5, hy5⟩ := zX (H 5)
   obtain ⟨y6, hy6⟩ := zX (H 6)
   obtain ⟨y7, hy7⟩ := zX (H 7)
   have HR1 := zh HR.out.drew
   clear HR
   have e0 : wr.drew.cell? ⟨w.heap.size, 0, none⟩ = some (.int .u32 (y0 : Nat)) := HR1.out.h.val (by decide) hy0
   have e1 : wr.drew.cell? ⟨w.heap.size, 1, none⟩ = some (.int .u32 (y1 : Nat)) := HR1.out.h.val (by decide) hy1
   have e2 : wr.drew.cell? ⟨w.heap.size, 2, none⟩ = some (.int .u32 (y2 : Nat)) := HR1.out.h.val (by decide) hy2
   have e3 : wr.drew.cell? ⟨w.heap.size, 3, none⟩ = some (.int .u32 (y3 : Nat)) := HR1.out.h.val (by decide) hy3
   have e4 : wr.drew.cell? ⟨w.heap.size, 4, none⟩ = some (.int .u32 (y4 : Nat)) := HR1.out.h.val (by decide) hy4
   have e5 : wr.drew.cell? ⟨w.heap.size, 5, none⟩ = some (.int .u32 (y5 : Nat)) := HR1.out.h.val (by decide) hy5
   have e6 : wr.drew.cell? ⟨w.heap.size, 6, none⟩ = some (.int .u32 (y6 : Nat)) := HR1.out.h.val (by decide) hy6
   have e7 : wr.drew.cell? ⟨w.heap.size, 7, none⟩ = some (.int .u32 (y7 : Nat)) := HR1.out.h.val (by decide) hy7
   have HYS : Hid (H 0 = y0 ∧ H 1 = y1 ∧ H 2 = y2 ∧ H 3 = y3 ∧ H 4 = y4 ∧ H 5 = y5 ∧ H 6 = y6 ∧ H 7 = y7) := zh ⟨hy0, hy1, hy2, hy3, hy4, hy5, hy6, hy7⟩
   clear hy0 hy1 hy2 hy3 hy4 hy5 hy6 hy7
   go_wp2_with fail
   refine still_lit (by kernel_rfl) (by kernel_rfl) ?_
   generalize wr.drew = W0 at *
   repeat still_step
   refine wpStill_nil ?_
   clear e0 e1 e2 e3 e4 e5 e6 e7
   go_wp2_with fail
   go_loopw [10, 11, 12, 13, 14, 15, 16, 17, 18] (fun a b c d e f g z i wr => ∃ t x0 x1 x2 x3 x4 x5 x6 x7 : Nat, t ≤ 64 ∧ i = .int .i64 (t : Int) ∧ a = .int .u32 (x0 : Nat) ∧ b = .int .u32 (x1 : Nat) ∧ c = .int .u32 (x2 : Nat) ∧ d = .int .u32 (x3 : Nat) ∧ e = .int .u32 (x4 : Nat) ∧ f = .int .u32 (x5 : Nat) ∧ g = .int .u32 (x6 : Nat) ∧ z = .int .u32 (x7 : Nat) ∧ (rdK H W t 0 = x0 ∧ rdK H W t 1 = x1 ∧ rdK H W t 2 = x2 ∧ rdK H W t 3 = x3 ∧ rdK H W t 4 = x4 ∧ rdK H W t 5 = x5 ∧ rdK H W t 6 = x6 ∧ rdK H W t 7 = x7) ∧ RO w H W wr) (fun _ _ _ _ _ _ _ _ i _ => 64 - (intOf i).toNat)
   case atStart => exact ⟨0, y0, y1, y2, y3, y4, y5, y6, y7, Nat.zero_le _, rfl, rfl, rfl, rfl, rfl, rfl, rfl, rfl, rfl, HYS.out, HR1.out⟩
   case round =>
    clear HR1
    obtain ⟨t, x0, x1, x2, x3, x4, x5, x6, x7, ht, rfl, rfl, rfl, rfl, rfl, rfl, rfl, rfl, rfl, ⟨hx0, hx1, hx2, hx3, hx4, hx5, hx6, hx7⟩, hX⟩ := hrel
    have HX := zh hX
    clear hX
    by_cases hlt : t < 64
    ·as_aux_lemma =>
     have t0 : (0 : Int) ≤ (t : Int) := by omega
     have t1 : (t : Int) < 64 := by omega
     have hl := HL.out t
     have l0 : x0 < 4294967296 := hx0 ▸ hl 0 (by decide)
     have l1 : x1 < 4294967296 := hx1 ▸ hl 1 (by decide)
     have l2 : x2 < 4294967296 := hx2 ▸ hl 2 (by decide)
     have l3 : x3 < 4294967296 := hx3 ▸ hl 3 (by decide)
     have l4 : x4 < 4294967296 := hx4 ▸ hl 4 (by decide)
     have l5 : x5 < 4294967296 := hx5 ▸ hl 5 (by decide)
     have l6 : x6 < 4294967296 := hx6 ▸ hl 6 (by decide)
     have l7 : x7 < 4294967296 := hx7 ▸ hl 7 (by decide)
     obtain ⟨o1, o2, o3, o4, o5, o6, o7, o8, o9, oa, ob, oc, od, oe, nx, B1, B0, ch, mj, v1, v2, v3, T1, T2, U4, U0, ⟨r6, r11, r25, r2, r13, r22⟩, ⟨f1, f2, n1, n2, n3, n4, s1, s2, s3, s4⟩, ⟨g1, g2, p1, p2, p3, p4, p5, s5, s6, s7⟩, hrd⟩ := rnd_nums (rdK H W t) (kN t) (W t) x0 x1 x2 x3 x4 x5 x6 x7 l0 l1 l2 l3 l4 l5 l6 l7 (kN_lt t) (HWL.out t) hx0 hx1 hx2 hx3 hx4 hx5 hx6 hx7
     have HRD : Hid (rdK H W (t + 1) 0 = U0 ∧ rdK H W (t + 1) 1 = x0 ∧ rdK H W (t + 1) 2 = x1 ∧ rdK H W (t + 1) 3 = x2 ∧ rdK H W (t + 1) 4 = U4 ∧ rdK H W (t + 1) 5 = x4 ∧ rdK H W (t + 1) 6 = x5 ∧ rdK H W (t + 1) 7 = x6) := zh hrd
     have HP := zh HX.out.drew
     have ck : wr.drew.cell? ⟨w.heap.size + 1 + 1, t, none⟩ = some (.int .u32 (kN t : Nat)) := HP.out.k.cell hlt
     have cw : wr.drew.cell? ⟨w.heap.size + 1 + 1 + 1, t, none⟩ = some (.int .u32 (W t : Nat)) := HP.out.y.cell hlt
     have R6 : Hid (∀ w', Calls Tryz.prog 90 #[.int .u32 (x4 : Nat), .int .i64 6] w' fun e w'' => e = .returned (.int .u32 (o3 : Nat)) ∧ w'' = w') := zh (fun w' => by rw [← r6]; exact rror_any x4 6 6 rfl w' l4 (by decide))
     have R11 : Hid (∀ w', Calls Tryz.prog 90 #[.int .u32 (x4 : Nat), .int .i64 11] w' fun e w'' => e = .returned (.int .u32 (o4 : Nat)) ∧ w'' = w') := zh (fun w' => by rw [← r11]; exact rror_any x4 11 11 rfl w' l4 (by decide))
     have R25 : Hid (∀ w', Calls Tryz.prog 90 #[.int .u32 (x4 : Nat), .int .i64 25] w' fun e w'' => e = .returned (.int .u32 (o5 : Nat)) ∧ w'' = w') := zh (fun w' => by rw [← r25]; exact rror_any x4 25 25 rfl w' l4 (by decide))
     have R2 : Hid (∀ w', Calls Tryz.prog 90 #[.int .u32 (x0 : Nat), .int .i64 2] w' fun e w'' => e = .returned (.int .u32 (o6 : Nat)) ∧ w'' = w') := zh (fun w' => by rw [← r2]; exact rror_any x0 2 2 rfl w' l0 (by decide))
     have R13 : Hid (∀ w', Calls Tryz.prog 90 #[.int .u32 (x0 : Nat), .int .i64 13] w' fun e w'' => e = .returned (.int .u32 (o7 : Nat)) ∧ w'' = w') := zh (fun w' => by rw [← r13]; exact rror_any x0 13 13 rfl w' l0 (by decide))
     have R22 : Hid (∀ w', Calls Tryz.prog 90 #[.int .u32 (x0 : Nat), .int .i64 22] w' fun e w'' => e = .returned (.int .u32 (o8 : Nat)) ∧ w'' = w') := zh (fun w' => by rw [← r22]; exact rror_any x0 22 22 rfl w' l0 (by decide))
     have HTT := zh hlt
     clear r6 r11 r25 r2 r13 r22 hrd hl l0 l1 l2 l3 l4 l5 l6 l7 hx0 hx1 hx2 hx3 hx4 hx5 hx6 hx7 hlt ht HX
     as_aux_lemma =>
      go_wp2_with fail
      refine still_lit (by kernel_rfl) (by kernel_rfl) ?_
      generalize wr.drew = W0 at *
      repeat still_step
      refine wpStill_step (fun K hK => ?_)
      go_simp
      with_reducible refine ⟨_, R6.out _, hK _ ?_⟩
      clear hK K
      repeat still_step
      refine wpStill_step (fun K hK => ?_)
      go_simp
      with_reducible refine ⟨_, R11.out _, hK _ ?_⟩
      clear hK K
      repeat still_step
      refine wpStill_step (fun K hK => ?_)
      go_simp
      with_reducible refine ⟨_, R25.out _, hK _ ?_⟩
      clear hK K
      repeat still_step
      refine wpStill_nil ?_
      clear ck cw R6 R11 R25 f1 f2 n1 n2 n3 n4 s1 s2 s3 s4
      as_aux_lemma =>
       go_wp2_with fail
       have HP1 := zh HP.out
       clear HP
       refine (R2.out _).mono ?_
       rintro e w5 ⟨rfl, rfl⟩
       go_wp2_with fail
       as_aux_lemma =>
        refine (R13.out _).mono ?_
        rintro e w6 ⟨rfl, rfl⟩
        go_wp2_with fail
        refine (R22.out _).mono ?_
        rintro e w7 ⟨rfl, rfl⟩
        clear R2 R13 R22
        go_wp2_with fail
        have h64 := HTT.out
        trace_state
        go_roundw
        case rel => exact ⟨t + 1, U0, x0, x1, x2, U4, x4, x5, x6, by omega, by go_num, rfl, rfl, rfl, rfl, rfl, rfl, rfl, rfl, HRD.out, HP1.out⟩
        case measure => simp [intOf] <;> omega
    ·as_aux_lemma =>
     obtain rfl : t = 64 := by omega
     obtain ⟨hy0, hy1, hy2, hy3, hy4, hy5, hy6, hy7⟩ := HYS.out
     have hM : ∀ j, M j = (rdK H W 64 j + H j) % 4294967296 := fun j => by rw [HMX.out]
     have s0 := u32m (y0 : Int) (x0 : Int) (e := M 0) rfl rfl (by rw [hM 0, hx0, hy0, Nat.add_comm])
     have e0 : wr.cell? ⟨w.heap.size, 0, none⟩ = some (.int .u32 (y0 : Nat)) := HX.out.h.val (by decide) hy0
     have s1 := u32m (y1 : Int) (x1 : Int) (e := M 1) rfl rfl (by rw [hM 1, hx1, hy1, Nat.add_comm])
     have e1 : wr.cell? ⟨w.heap.size, 1, none⟩ = some (.int .u32 (y1 : Nat)) := HX.out.h.val (by decide) hy1
     have s2 := u32m (y2 : Int) (x2 : Int) (e := M 2) rfl rfl (by rw [hM 2, hx2, hy2, Nat.add_comm])
     have e2 : wr.cell? ⟨w.heap.size, 2, none⟩ = some (.int .u32 (y2 : Nat)) := HX.out.h.val (by decide) hy2
     have s3 := u32m (y3 : Int) (x3 : Int) (e := M 3) rfl rfl (by rw [hM 3, hx3, hy3, Nat.add_comm])
     have e3 : wr.cell? ⟨w.heap.size, 3, none⟩ = some (.int .u32 (y3 : Nat)) := HX.out.h.val (by decide) hy3
     have s4 := u32m (y4 : Int) (x4 : Int) (e := M 4) rfl rfl (by rw [hM 4, hx4, hy4, Nat.add_comm])
     have e4 : wr.cell? ⟨w.heap.size, 4, none⟩ = some (.int .u32 (y4 : Nat)) := HX.out.h.val (by decide) hy4
     have s5 := u32m (y5 : Int) (x5 : Int) (e := M 5) rfl rfl (by rw [hM 5, hx5, hy5, Nat.add_comm])
     have e5 : wr.cell? ⟨w.heap.size, 5, none⟩ = some (.int .u32 (y5 : Nat)) := HX.out.h.val (by decide) hy5
     have s6 := u32m (y6 : Int) (x6 : Int) (e := M 6) rfl rfl (by rw [hM 6, hx6, hy6, Nat.add_comm])
     have e6 : wr.cell? ⟨w.heap.size, 6, none⟩ = some (.int .u32 (y6 : Nat)) := HX.out.h.val (by decide) hy6
     have s7 := u32m (y7 : Int) (x7 : Int) (e := M 7) rfl rfl (by rw [hM 7, hx7, hy7, Nat.add_comm])
     have e7 : wr.cell? ⟨w.heap.size, 7, none⟩ = some (.int .u32 (y7 : Nat)) := HX.out.h.val (by decide) hy7
     have hN : WB 149 8 (w.heap.size + 1) M (wr.setCells (w.heap.size + 1) 0 (rowW 8 M).toArray.toList) := Blk.setCells HX.out.r (rowW 8 M) (by rw [rowW_size, rowW_len])
     have hO : Below w.heap.size w (wr.setCells (w.heap.size + 1) 0 (rowW 8 M).toArray.toList) := HX.out.o.trans ((Own.setCells _ 0 wr).below (by omega) HX.out.o.size)
     have hTH : wr.there (w.heap.size + 1) 0 (rowW 8 M).toArray.size := Blk.there HX.out.r (by rw [rowW_size, rowW_size]; exact Nat.le_refl _)
     have hI := info56 M
     have hI1 := one8w M
     obtain ⟨E, hE⟩ := zX ((rowW 8 M).toArray)
     unfold WB at hN
     rw [hE] at hN hO hTH hI hI1
     have HN := zh hN
     have HO := zh hO
     have HTH := zh hTH
     have HI := zh hI
     have HI1 := zh hI1
     have HE := zh hE
     clear hN hO hTH hI hI1 hM hlt ht HX HMX hx0 hx1 hx2 hx3 hx4 hx5 hx6 hx7 hy0 hy1 hy2 hy3 hy4 hy5 hy6 hy7
     rw [show ((64 : Nat) : Int) = 64 from rfl]
     go_wp2_with (first
      | (refine wpList_value rfl (exec_build8 (M := M) (x0 := .tmp 182) (x1 := .tmp 186) (x2 := .tmp 190) (x3 := .tmp 194) (x4 := .tmp 198) (x5 := .tmp 202) (x6 := .tmp 206) (x7 := .tmp 210) rfl rfl rfl rfl rfl rfl rfl rfl rfl) ?_; rw [hE])
      | (refine wpList_store_mid rfl 149 (.tmp 4) (.tmp 211) rfl (w.heap.size + 1) 0 E rfl rfl HTH.out HI.out HI1.out ?_))
     refine bodyPost_ret (v := .agg E) ?_ rfl ⟨by rw [HE.out], HO.out⟩
     exact results_cell_row Tryz.results74 _ _ (w.heap.size + 1) 149 E (0, 0) _ rfl HN.out Tryz.underlying149 rfl HI.out
end Go.Proofs.YtncfocjmdecapaaGreatDoor
