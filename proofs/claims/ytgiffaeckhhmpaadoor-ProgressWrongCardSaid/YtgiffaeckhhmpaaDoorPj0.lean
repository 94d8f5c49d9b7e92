/- Progress over a split secret: what is kept from call to call. -/
import Derived.Test.YtgiffaeckhhmpaaDoorPi3
import Derived.Test.YtgiffaeckhhmpaaDoorSpA
namespace Go.Proofs.YtgiffaeckhhmpaaDoor
set_option linter.unusedVariables false
set_option linter.unusedSimpArgs false
open Go.RowKit
theorem w_first {N : Nat} {S : Nat → Sh} {s : Sh} (h : s.gen = 3) (h1 : 1 ≤ s.ix) (h2 : s.ix ≤ N) (h3 : s.len = 32) : wrongN N 3 S 0 s = 0 :=
  wrongN_ok h (by rfl) (by omega) h2 h3
theorem w_second {N : Nat} {S : Nat → Sh} {s : Sh} (h0 : (S 0).ix = 1) (h : s.gen = 3) (h1 : s.ix = 2) (h2 : 2 ≤ N) (h3 : s.len = 32) : wrongN N 3 S 1 s = 0 :=
  wrongN_ok h (by show ((List.range 1).any fun i => (S i).ix == s.ix) = false; rw [h1]; simp [List.range_succ, h0]) (by omega) (by omega) h3
/-- The plan's block, the split secret's parts. -/
structure PW (w : World) (tb b7 k Kp Np : Nat) (f d : Nat → Nat) (wA A : World) : Prop where
  b : Below w.heap.size w A
  p : Blk A b7 #[.int .i64 (Kp : Int), .int .i64 (Np : Int), .int .u32 3] 26
  s : SR tb wA Np 32 3 (fun x => shF f d k (x + 1)) A
theorem PW.belowB {w : World} {tb b7 k Kp Np B : Nat} {f d : Nat → Nat} {wA A A' : World} (h : PW w tb b7 k Kp Np f d wA A) (hb : Below B A A') (h1 : w.heap.size ≤ B) (h2 : b7 < B) (h3 : wA.heap.size + 1 + Np ≤ B) : PW w tb b7 k Kp Np f d wA A' :=
  ⟨h.b.trans (hb.mono h1), Blk.below h.p hb h2, h.s.belowB hb h3⟩
theorem PW.later {w : World} {tb b7 k Kp Np : Nat} {f d : Nat → Nat} {wA A A' : World} (h : PW w tb b7 k Kp Np f d wA A) (hb : Below A.heap.size A A') : PW w tb b7 k Kp Np f d wA A' :=
  h.belowB hb h.b.size (Blk.lt h.p) h.s.big
theorem PW.bytes {w : World} {tb b7 k Kp Np : Nat} {f d : Nat → Nat} {wA A : World} (h : PW w tb b7 k Kp Np f d wA A) {i : Nat} (hi : i < Np) : Bytes A (some ⟨wA.heap.size + 1 + i, 0, none⟩) 32 (shF f d k (i + 1)) :=
  (h.s.rows i hi).bytes fun j _ => shF_lt _ _ _ _ _
theorem PW.sh {w : World} {tb b7 k Kp Np : Nat} {f d : Nat → Nat} {wA A : World} (h : PW w tb b7 k Kp Np f d wA A) {i : Nat} (hi : i < Np) (t ix gn : Nat) (ht : t ≠ wA.heap.size + 1 + i) :
    IsSh t A [.int .u8 (ix : Int), .int .u32 (gn : Int), .slice (some ⟨wA.heap.size + 1 + i, 0, none⟩) 32 32] ⟨ix, gn, 32, shF f d k (i + 1)⟩ :=
  ⟨_, _, rfl, h.bytes hi, (fun e => by cases e), Nat.le_refl _, by unfold maxLen; decide, fun _ a ha => by cases ha; exact ht.symm⟩
theorem PW.ri {w : World} {tb b7 k Kp Np : Nat} {f d : Nat → Nat} {wA A : World} (h : PW w tb b7 k Kp Np f d wA A) {i : Nat} (hi : i < Np) : A.rangeAt wA.heap.size (i * 3) [.int .u8 ((i + 1 : Nat) : Int), .int .u32 3, .slice (some ⟨wA.heap.size + 1 + i, 0, none⟩) 32 32] := by
  have h9 := SR.rangeO h.s (Own.refl _ _) hi
  have e : shC 3 wA.heap.size 32 i = [.int .u8 ((i + 1 : Nat) : Int), .int .u32 3, .slice (some ⟨wA.heap.size + 1 + i, 0, none⟩) 32 32] := by
    unfold shC; rw [show ((i + 1 : Nat) : Int) = (i : Int) + 1 by omega]; rfl
  rw [e] at h9; exact h9
theorem PW.r0 {w : World} {tb b7 k Kp Np : Nat} {f d : Nat → Nat} {wA A : World} (h : PW w tb b7 k Kp Np f d wA A) (hN : 2 ≤ Np) : A.rangeAt wA.heap.size 0 [.int .u8 1, .int .u32 3, .slice (some ⟨wA.heap.size + 1, 0, none⟩) 32 32] :=
  h.ri (i := 0) (by omega)
theorem PW.r1 {w : World} {tb b7 k Kp Np : Nat} {f d : Nat → Nat} {wA A : World} (h : PW w tb b7 k Kp Np f d wA A) (hN : 2 ≤ Np) : A.rangeAt wA.heap.size 3 [.int .u8 2, .int .u32 3, .slice (some ⟨wA.heap.size + 2, 0, none⟩) 32 32] :=
  h.ri (i := 1) (by omega)
/-- The first part of a progress that has none. -/
def S1of (k : Nat) (f d : Nat → Nat) : Nat → Sh := catSh 0 (fun _ => (default : Sh)) (fun _ => ⟨1, 3, 32, shF f d k 1⟩)
theorem MayG_0 {Kp Np : Nat} (h1 : 2 ≤ Kp) (h2 : Kp ≤ Np) (h3 : Np ≤ 255) (S : Nat → Sh) : MayG (Kp : Int) (Np : Int) 3 S 0 1 := ⟨⟨by omega, by omega, by omega⟩, by decide, by omega, fun i hi => absurd hi (Nat.not_lt_zero _)⟩
theorem MayG_1 {Kp Np k : Nat} {f d : Nat → Nat} (h1 : 2 ≤ Kp) (h2 : Kp ≤ Np) (h3 : Np ≤ 255) : MayG (Kp : Int) (Np : Int) 3 (S1of k f d) 1 1 := ⟨⟨by omega, by omega, by omega⟩, by decide, by omega, fun i hi => by
  obtain rfl : i = 0 := by omega
  exact w_first rfl (by show 1 ≤ 1; omega) (by show 1 ≤ (Np : Int).toNat; omega) rfl⟩
theorem submit_first {w : World} {tb b7 k Kp Np : Nat} {f d : Nat → Nat} {wA A : World} (h : PW w tb b7 k Kp Np f d wA A) (h1 : 2 ≤ Kp) (h2 : Kp ≤ Np) (h3 : Np ≤ 255) (t : Nat) (ht : t < A.heap.size) (htn : t ≠ wA.heap.size + 1) :
    Calls Tryd.prog 9 #[.agg #[.int .i64 (Kp : Int), .int .i64 (Np : Int), .int .u32 3, .string ⟨#[109]⟩, .slice none 0 0], .string ⟨#[109]⟩, .agg #[.int .u8 1, .int .u32 3, .slice (some ⟨wA.heap.size + 1, 0, none⟩) 32 32]] A fun e w' => ∃ o c, e = .returned (.tuple #[.agg #[.int .i64 (Kp : Int), .int .i64 (Np : Int), .int .u32 3, .string ⟨#[109]⟩, .slice o 1 c], .bool false, .nilIface]) ∧ 1 ≤ c ∧ c ≤ maxLen ∧ Shs t w' o 1 (S1of k f d) ∧ Below A.heap.size A w' := by
  refine (submit_any t (Kp : Int) (Np : Int) 3 0 0 1 3 32 32 0 ⟨#[109]⟩ ⟨#[109]⟩ none _ (fun _ => default) (shF f d k 1) A ht (fun i hi => absurd hi (Nat.not_lt_zero _)) (fun i hi => absurd hi (Nat.not_lt_zero _)) (by decide) (Nat.le_refl _) (by unfold maxLen; decide) (by decide) (h.sh (i := 0) (by omega) t 1 3 htn) (by decide) (by decide) (.inr (.inr ⟨(w_first rfl (by show 1 ≤ 1; omega) (by show 1 ≤ (Np : Int).toNat; omega) rfl).symm, MayG_0 h1 h2 h3 _, rfl, by omega⟩))).mono ?_
  rintro e w' ⟨hb, (⟨h0, _⟩ | ⟨_, o, c, he, hc1, hc2, _, hS⟩)⟩
  · exact absurd rfl h0
  · rw [show decide (((0 : Nat) : Int) + 1 = (Kp : Int)) = false from decide_eq_false (by omega)] at he
    exact ⟨o, c, he, hc1, hc2, hS, hb⟩
theorem S1of_ix (k : Nat) (f d : Nat → Nat) : ∀ i, i < 1 → (S1of k f d i).ix < 256 := fun i hi => by
  obtain rfl : i = 0 := by omega
  exact (by decide : (1 : Nat) < 256)
theorem submit_gen {w : World} {tb b7 k Kp Np : Nat} {f d : Nat → Nat} {wA A : World} (h : PW w tb b7 k Kp Np f d wA A) (h1 : 2 ≤ Kp) (h2 : Kp ≤ Np) (h3 : Np ≤ 200) (t gn c : Nat) (o : Option Addr) (ht : t < A.heap.size) (htn : t ≠ wA.heap.size + 2) (hS : Shs t A o 1 (S1of k f d)) (hc1 : 1 ≤ c) (hc2 : c ≤ maxLen) :
    Calls Tryd.prog 9 #[.agg #[.int .i64 (Kp : Int), .int .i64 (Np : Int), .int .u32 3, .string ⟨#[109]⟩, .slice o 1 c], .string ⟨#[109]⟩, .agg #[.int .u8 2, .int .u32 (gn : Int), .slice (some ⟨wA.heap.size + 2, 0, none⟩) 32 32]] A fun e w' => ∃ (Ko No : Int) (geno : Nat) (mko : ByteArray) (oq : Option Addr) (nq cq : Nat) (dq : Bool) (ev : Value), e = .returned (.tuple #[.agg #[.int .i64 Ko, .int .i64 No, .int .u32 (geno : Int), .string mko, .slice oq nq cq], .bool dq, ev]) ∧ ((gn = 3 ∧ ev = .nilIface) ∨ (gn ≠ 3 ∧ ev = .iface 83 (.int .i64 14))) ∧ Below A.heap.size A w' := by
  by_cases hg : gn = 3
  · subst hg
    refine (submit_any t (Kp : Int) (Np : Int) 3 1 c 2 3 32 32 0 ⟨#[109]⟩ ⟨#[109]⟩ o _ (S1of k f d) (shF f d k 2) A ht hS (S1of_ix _ _ _) (by decide) hc1 hc2 (by decide) (h.sh (i := 1) (by omega) t 2 3 htn) (by decide) (by decide) (.inr (.inr ⟨(w_second rfl rfl rfl (by show 2 ≤ (Np : Int).toNat; omega) rfl).symm, MayG_1 h1 h2 (by omega), rfl, by omega⟩))).mono ?_
    rintro e w' ⟨hb, (⟨h0, _⟩ | ⟨_, o', c', he, _⟩)⟩
    · exact absurd rfl h0
    · exact ⟨_, _, _, _, _, _, _, _, _, he, .inl ⟨rfl, rfl⟩, hb⟩
  · refine (submit_any t (Kp : Int) (Np : Int) 3 1 c 2 gn 32 32 14 ⟨#[109]⟩ ⟨#[109]⟩ o _ (S1of k f d) (shF f d k 2) A ht hS (S1of_ix _ _ _) (by decide) hc1 hc2 (by decide) (h.sh (i := 1) (by omega) t 2 gn htn) (by decide) (by decide) (.inr (.inr ⟨(wrongN_gen hg).symm, MayG_1 h1 h2 (by omega), rfl, by omega⟩))).mono ?_
    rintro e w' ⟨hb, (⟨_, he⟩ | ⟨h0, _⟩)⟩
    · exact ⟨_, _, 0, _, _, _, _, _, _, he, .inr ⟨hg, rfl⟩, hb⟩
    · cases h0
theorem submit_mark {w : World} {tb b7 k Kp Np : Nat} {f d : Nat → Nat} {wA A : World} (h : PW w tb b7 k Kp Np f d wA A) (h1 : 2 ≤ Kp) (h2 : Kp ≤ Np) (h3 : Np ≤ 200) (t c : Nat) (o : Option Addr) (ht : t < A.heap.size) (htn : t ≠ wA.heap.size + 2) (hS : Shs t A o 1 (S1of k f d)) (hc1 : 1 ≤ c) (hc2 : c ≤ maxLen) :
    Calls Tryd.prog 9 #[.agg #[.int .i64 (Kp : Int), .int .i64 (Np : Int), .int .u32 3, .string ⟨#[109]⟩, .slice o 1 c], .string ⟨#[110]⟩, .agg #[.int .u8 2, .int .u32 3, .slice (some ⟨wA.heap.size + 2, 0, none⟩) 32 32]] A fun e w' => e = .returned (.tuple #[.agg #[.int .i64 0, .int .i64 0, .int .u32 0, .string ⟨#[]⟩, .slice none 0 0], .bool false, .iface 83 (.int .i64 15)]) ∧ True ∧ Below A.heap.size A w' := by
  refine (submit_any t (Kp : Int) (Np : Int) 3 1 c 2 3 32 32 15 ⟨#[109]⟩ ⟨#[110]⟩ o _ (S1of k f d) (shF f d k 2) A ht hS (S1of_ix _ _ _) (by decide) hc1 hc2 (by decide) (h.sh (i := 1) (by omega) t 2 3 htn) (by decide) (by decide) (.inr (.inl ⟨rfl, MayG_1 h1 h2 (by omega), .inl (by decide)⟩))).mono ?_
  rintro e w' ⟨hb, (⟨_, he⟩ | ⟨h0, _⟩)⟩
  · exact ⟨he, trivial, hb⟩
  · cases h0
theorem submit_place {w : World} {tb b7 k Kp Np : Nat} {f d : Nat → Nat} {wA A : World} (h : PW w tb b7 k Kp Np f d wA A) (h1 : 2 ≤ Kp) (h2 : Kp ≤ Np) (h3 : Np ≤ 200) (t c M : Nat) (o : Option Addr) (hM : Np < M) (hM2 : M < 256) (ht : t < A.heap.size) (htn : t ≠ wA.heap.size + 2) (hS : Shs t A o 1 (S1of k f d)) (hc1 : 1 ≤ c) (hc2 : c ≤ maxLen) :
    Calls Tryd.prog 9 #[.agg #[.int .i64 (Kp : Int), .int .i64 (Np : Int), .int .u32 3, .string ⟨#[109]⟩, .slice o 1 c], .string ⟨#[109]⟩, .agg #[.int .u8 (M : Int), .int .u32 3, .slice (some ⟨wA.heap.size + 2, 0, none⟩) 32 32]] A fun e w' => e = .returned (.tuple #[.agg #[.int .i64 0, .int .i64 0, .int .u32 0, .string ⟨#[]⟩, .slice none 0 0], .bool false, .iface 83 (.int .i64 12)]) ∧ Below A.heap.size A w' := by
  refine (submit_any t (Kp : Int) (Np : Int) 3 1 c M 3 32 32 12 ⟨#[109]⟩ ⟨#[109]⟩ o _ (S1of k f d) (shF f d k 2) A ht hS (S1of_ix _ _ _) (by decide) hc1 hc2 (by decide) (h.sh (i := 1) (by omega) t M 3 htn) hM2 (by decide) (.inr (.inr ⟨(wrongN_bad rfl (.inr (.inr (.inl (by show (Np : Int).toNat < M; omega))))).symm, MayG_1 h1 h2 (by omega), rfl, by omega⟩))).mono ?_
  rintro e w' ⟨hb, (⟨_, he⟩ | ⟨h0, _⟩)⟩
  · exact ⟨he, hb⟩
  · cases h0
end Go.Proofs.YtgiffaeckhhmpaaDoor
