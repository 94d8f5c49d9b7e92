/- Parts as bytes, in plain mathematics; make with room. -/
import Derived.Test.YtmhofofidmbgfaaDoorGen
import Derived.Laws.MakeOwn
namespace Go.Proofs.YtmhofofidmbgfaaDoor
set_option linter.unusedVariables false
set_option linter.unusedSimpArgs false
open Go.RowKit

/-- The bytes of a part. -/
def encF (ix gen n : Nat) (f : Nat → Nat) : Nat → Nat := catF 8 (fun i => if i = 0 then 115 else if i = 1 then 104 else if i = 2 then gen / 16777216 % 256 else if i = 3 then gen / 65536 % 256 else if i = 4 then gen / 256 % 256 else if i = 5 then gen % 256 else if i = 6 then ix else n) f

theorem encF_lt {ix gen n : Nat} {f : Nat → Nat} (hix : ix < 256) (hn : n < 256) (hf : ∀ i, i < n → f i < 256) : ∀ i, i < 8 + n → encF ix gen n f i < 256 := catF_b (fun i _ => by
  show (if i = 0 then 115 else if i = 1 then 104 else if i = 2 then gen / 16777216 % 256 else if i = 3 then gen / 65536 % 256 else if i = 4 then gen / 256 % 256 else if i = 5 then gen % 256 else if i = 6 then ix else n) < 256
  repeat' split
  all_goals omega) hf

/-- A part that may be told as bytes. -/
def MayS (ix n : Nat) : Prop := ix ≠ 0 ∧ 1 ≤ n ∧ n ≤ 64

/-- Bytes that are a part's. -/
structure IsEnc (n : Nat) (f : Nat → Nat) : Prop where
  lo : 9 ≤ n
  hi : n ≤ 72
  s : f 0 = 115
  h : f 1 = 104
  ix : f 6 ≠ 0
  len : f 7 = n - 8

def genOf (f : Nat → Nat) : Nat := f 2 * 16777216 + f 3 * 65536 + f 4 * 256 + f 5

section
variable (ix gen n : Nat) (f : Nat → Nat)
theorem encF_0 : encF ix gen n f 0 = 115 := rfl
theorem encF_1 : encF ix gen n f 1 = 104 := rfl
theorem encF_2 : encF ix gen n f 2 = gen / 16777216 % 256 := rfl
theorem encF_3 : encF ix gen n f 3 = gen / 65536 % 256 := rfl
theorem encF_4 : encF ix gen n f 4 = gen / 256 % 256 := rfl
theorem encF_5 : encF ix gen n f 5 = gen % 256 := rfl
theorem encF_6 : encF ix gen n f 6 = ix := rfl
theorem encF_7 : encF ix gen n f 7 = n := rfl
theorem encF_hi (k : Nat) : encF ix gen n f (8 + k) = f k := by
  unfold encF catF; rw [if_neg (by omega)]; congr 1; omega
end
theorem isEnc_enc {ix gen n : Nat} {f : Nat → Nat} (hm : MayS ix n) : IsEnc (8 + n) (encF ix gen n f) :=
  ⟨by have := hm.2.1; omega, by have := hm.2.2; omega, encF_0 .., encF_1 .., by rw [encF_6]; exact hm.1, by rw [encF_7]; omega⟩
theorem gen_parts (g : Nat) (h : g < 4294967296) : g / 16777216 % 256 * 16777216 + g / 65536 % 256 * 65536 + g / 256 % 256 * 256 + g % 256 = g := by omega
theorem genOf_enc {ix gen n : Nat} {f : Nat → Nat} (hg : gen < 4294967296) : genOf (encF ix gen n f) = gen := by
  unfold genOf; rw [encF_2, encF_3, encF_4, encF_5]; exact gen_parts gen hg
theorem gen_of (a b c d : Nat) (ha : a < 256) (hb : b < 256) (hc : c < 256) (hd : d < 256) : (a * 16777216 + b * 65536 + c * 256 + d) / 16777216 % 256 = a ∧ (a * 16777216 + b * 65536 + c * 256 + d) / 65536 % 256 = b ∧ (a * 16777216 + b * 65536 + c * 256 + d) / 256 % 256 = c ∧ (a * 16777216 + b * 65536 + c * 256 + d) % 256 = d ∧ a * 16777216 + b * 65536 + c * 256 + d < 4294967296 := by omega
theorem genOf_lt {n : Nat} {f : Nat → Nat} (hf : ∀ i, i < n → f i < 256) (h : 6 ≤ n) : genOf f < 4294967296 :=
  (gen_of (f 2) (f 3) (f 4) (f 5) (hf 2 (by omega)) (hf 3 (by omega)) (hf 4 (by omega)) (hf 5 (by omega))).2.2.2.2
theorem enc_of {n : Nat} {f : Nat → Nat} (hf : ∀ i, i < n → f i < 256) (h : IsEnc n f) : ∀ i, i < n → encF (f 6) (genOf f) (n - 8) (fun k => f (8 + k)) i = f i := fun i hi => by
  have lo := h.lo
  obtain ⟨g2, g3, g4, g5, -⟩ := gen_of (f 2) (f 3) (f 4) (f 5) (hf 2 (by omega)) (hf 3 (by omega)) (hf 4 (by omega)) (hf 5 (by omega))
  match i, hi with
  | 0, _ => rw [encF_0]; exact h.s.symm
  | 1, _ => rw [encF_1]; exact h.h.symm
  | 2, _ => rw [encF_2]; exact g2
  | 3, _ => rw [encF_3]; exact g3
  | 4, _ => rw [encF_4]; exact g4
  | 5, _ => rw [encF_5]; exact g5
  | 6, _ => rw [encF_6]
  | 7, _ => rw [encF_7]; exact h.len.symm
  | k + 8, _ => rw [show k + 8 = 8 + k by omega, encF_hi]

theorem Grow.someN {w : World} {base n : Nat} {v : Value} {f : Nat → Nat} (h : Grow w base v n f) (h0 : 0 < n) (hf : ∀ i, i < n → f i < 256) :
    ∃ g cap, v = .slice (some ⟨g, 0, none⟩) n cap ∧ base ≤ g ∧ Bytes w (some ⟨g, 0, none⟩) n f ∧ n ≤ cap ∧ cap ≤ maxLen := by
  obtain ⟨oa, cap, hv, hB, _⟩ := h.bytes hf
  rcases h.2 with ⟨_, h3⟩ | ⟨g, cap', cur, h2, hb, _, h3, hm, _⟩
  · omega
  · rw [hv] at h2; cases h2; exact ⟨g, cap, hv, hb, hB, h3, hm⟩
/-- make of an empty row with room. -/
theorem wpList_mk0 {ops : Array Oper} {rest : List Oper} {o : Oper} {a : Act} {w : World} {Q : Exit → Act → World → Prop} (hgd : o.guard = none) (x y : Operand) (ho : o.op = .makeSlice 22 x y) (c base : Nat) (hx : a.eval x = .int .i64 0) (hy : a.eval y = .int .i64 (c : Int)) (hc : c < 1000000000000) (hb : base ≤ w.heap.size)
    (h : ∀ w', (∀ f, Grow w' base (.slice (some ⟨w.heap.size, 0, none⟩) 0 c) 0 f) → w.grownBy w' none → wpList Tryd.prog ops Q rest (a.put o.dst (.slice (some ⟨w.heap.size, 0, none⟩) 0 c)) w') :
    wpList Tryd.prog ops Q (o :: rest) a w := by
  obtain ⟨i0, hi, hz0, hz1, hz2⟩ := info_parts info_u8
  obtain ⟨w', hr, hown, hg⟩ := run_make_own (P := Tryd.prog) w base 22 5 i0 (.int .u8 0) 1 Tryd.underlying22 hi hz0 hz1 .i64 .i64 c (by rw [hz2]; omega) (by unfold maxLen; omega) hb
  refine wpList_plain hgd fun K hK => ?_
  unfold Oper.wp execOp
  simp only [ho, hx, hy, Sem.run_bind, hr, Result.andThen_ok, Sem.run_pure]
  exact hK _ _ (h w' (fun f => hown) hg)
end Go.Proofs.YtmhofofidmbgfaaDoor
