/- HkdfKeys walked. -/
import Derived.Test.YtloajfbehejehaaDoorEx5
import Derived.Test.YtloajfbehejehaaDoorRx2
namespace Go.Proofs.YtloajfbehejehaaDoor
set_option linter.unusedVariables false
set_option linter.unusedSimpArgs false
open Go.RowKit

/-- A row of bytes that reads as a string. -/
def CV (w : World) (o : Option Addr) (m : Nat) (S : ByteArray) : Prop := ∃ F, Bytes w o m F ∧ (o = none → m = 0) ∧ strF m F = S
theorem CV.later {w w' : World} {o : Option Addr} {m : Nat} {S : ByteArray} (h : CV w o m S) (hb : Below w.heap.size w w') : CV w' o m S := by
  obtain ⟨F, h1, h2, h3⟩ := h; exact ⟨F, h1.later hb, h2, h3⟩
theorem CV.conv {w : World} {o : Option Addr} {m c : Nat} {S : ByteArray} (h : CV w o m S) : (convert 33 9 (.slice o m c)).run Tryd.prog w = .ok (.string S) w := by
  obtain ⟨F, h1, h2, rfl⟩ := h; exact conv_any h1 h2
theorem CV.none (w : World) : CV w none 0 ⟨#[]⟩ := ⟨fun _ => 0, fun k hk => absurd hk (Nat.not_lt_zero _), fun _ => rfl, rfl⟩
/-- An error and its number. -/
def Er (v : Value) (k : Nat) : Prop := (v = .nilIface ∧ k = 0) ∨ (v = .iface 64 (.int .i64 1) ∧ k = 1)
theorem num_any (v : Value) (k : Nat) (w : World) (h : Er v k) (hh : Handle w) : Calls Tryd.prog 8 #[v] w fun e w' => e = .returned (.int .i64 (k : Nat)) ∧ Below w.heap.size w w' := by
  rcases h with ⟨rfl, rfl⟩ | ⟨rfl, rfl⟩
  · exact num_nil w
  · exact num_err 1 w hh
theorem expand_pair (oa oi : Option Addr) (n cn p ci : Nat) (K I : Nat → Nat) (z : Int) (hnc : n ≤ cn) (hno : oa = none → n = 0) (hn : n < 800000000000) (hpc : p ≤ ci) (hpo : oi = none → p = 0) (hp : p < 700000000000) (h1 : -9223372036854775808 ≤ z) (h2 : z ≤ 9223372036854775807) :
    ∃ (S : ByteArray) (k : Nat), (∀ w, Bytes w oa n K → Bytes w oi p I → GV w → Calls Tryd.prog 33 #[.slice oa n cn, .slice oi p ci, .int .i64 z] w fun e w' => ∃ o m c v, e = .returned (.tuple #[.slice o m c, v]) ∧ CV w' o m S ∧ Er v k ∧ Below w.heap.size w w') ∧
      (∀ w, Bytes w oa n K → Bytes w oi p I → Calls Tryd.prog 34 #[.slice oa n cn, .slice oi p ci, .int .i64 z] w fun e w' => ∃ o m c, e = .returned (.tuple #[.slice o m c, .int .i64 (k : Nat)]) ∧ CV w' o m S ∧ Below w.heap.size w w') := by
  by_cases h : z < 0 ∨ 8160 < z
  · refine ⟨⟨#[]⟩, 1, fun w _ _ _ => ?_, fun w _ _ => ?_⟩
    · refine (expand_bad _ _ z w h1 h2 h).mono ?_
      rintro e w' ⟨rfl, rfl⟩
      exact ⟨none, 0, 0, _, rfl, CV.none _, .inr ⟨rfl, rfl⟩, Below.refl _ _⟩
    · refine (rexpand_bad _ _ z w h1 h2 h).mono ?_
      rintro e w' ⟨rfl, rfl⟩
      exact ⟨none, 0, 0, rfl, CV.none _, Below.refl _ _⟩
  · obtain ⟨k, rfl⟩ : ∃ k : Nat, z = (k : Int) := ⟨z.toNat, by omega⟩
    refine ⟨strF k (exF n K p I), 0, fun w ha hb hg => ?_, fun w ha hb => ?_⟩
    · refine (expand_any oa oi n cn p ci K I k w ha hnc hno hn hb hpc hp (by omega) hg).mono ?_
      rintro e w' ⟨o, rfl, h3, h4, h5⟩
      exact ⟨o, k, k, _, rfl, ⟨_, h3, h4, rfl⟩, .inl ⟨rfl, rfl⟩, h5⟩
    · refine (rexpand_any oa oi n cn p ci K I k w ha hno hn hb hpo hp (by omega)).mono ?_
      rintro e w' ⟨o, c, rfl, h3, h4, h5⟩
      exact ⟨o, k, c, rfl, ⟨_, h3, h4, rfl⟩, h5⟩
theorem key_pair (oa : Option Addr) (n cn : Nat) (K : Nat → Nat) (s : ByteArray) (x : Nat) (hnc : n ≤ cn) (hn : n ≤ 9223372036854775807) (hs : s.size ≤ 9223372036854775807) (hx : x < 4294967296) :
    ∃ (S : ByteArray) (k : Nat), (∀ w, Bytes w oa n K → GV w → Calls Tryd.prog 26 #[.slice oa n cn, .string s, .int .u32 (x : Nat)] w fun e w' => ∃ o m c v, e = .returned (.tuple #[.slice o m c, v]) ∧ CV w' o m S ∧ Er v k ∧ Below w.heap.size w w') ∧
      (∀ w, Bytes w oa n K → Calls Tryd.prog 27 #[.slice oa n cn, .string s, .int .u32 (x : Nat)] w fun e w' => ∃ o m c, e = .returned (.tuple #[.slice o m c, .int .i64 (k : Nat)]) ∧ CV w' o m S ∧ Below w.heap.size w w') := by
  by_cases h : n ≠ 32 ∨ s.size < 1 ∨ 32 < s.size
  · refine ⟨⟨#[]⟩, 1, fun w _ _ => ?_, fun w _ => ?_⟩
    · refine (key_bad oa n cn s _ w hn hs h).mono ?_
      rintro e w' ⟨rfl, rfl⟩
      exact ⟨none, 0, 0, _, rfl, CV.none _, .inr ⟨rfl, rfl⟩, Below.refl _ _⟩
    · refine (rkey_bad oa n cn s _ w hn hs h).mono ?_
      rintro e w' ⟨rfl, rfl⟩
      exact ⟨none, 0, 0, rfl, CV.none _, Below.refl _ _⟩
  · obtain rfl : n = 32 := by omega
    refine ⟨strF 32 (exF 32 K (s.size + 5) (kiF s x)), 0, fun w ha hg => ?_, fun w ha => ?_⟩
    · refine (key_any oa cn K s x w ha hnc (by omega) (by omega) hx hg).mono ?_
      rintro e w' ⟨o, rfl, h3, h5⟩
      exact ⟨o, 32, 32, _, rfl, ⟨_, h3, fun e => (by obtain ⟨_, b, off, e2, _⟩ := h3 0 (by decide); rw [e] at e2; cases e2), rfl⟩, .inl ⟨rfl, rfl⟩, h5⟩
    · refine (rkey_any oa cn K s x w ha (by omega) (by omega) hx).mono ?_
      rintro e w' ⟨o, c, rfl, h3, h5⟩
      exact ⟨o, 32, c, rfl, ⟨_, h3, fun e => (by obtain ⟨_, b, off, e2, _⟩ := h3 0 (by decide); rw [e] at e2; cases e2), rfl⟩, h5⟩
theorem step_valueG {ops : Array Oper} {o : Oper} {a : Act} {w : World} {K : Act → World → Prop} {Q : Exit → Act → World → Prop} {E : Prop} {v : Value} (hw : Region.wanted o (yielded ops a.tmps) = true) (he : (execOp a.eval o).run Tryd.prog w = .ok (.value v) w)
    (h : K (a.put o.dst v) w) : if Region.wanted o (yielded ops a.tmps) = true then Oper.wp Tryd.prog o a w K Q else E := by
  rw [if_pos hw]
  unfold Oper.wp
  rw [he]
  exact h
/-- What is kept ahead of the last comparisons. -/
structure HK (w0 : World) (o8 o10 o12 o14 : Option Addr) (m8 m10 m12 m14 g7 : Nat) (S1 S2 S3 : ByteArray) (wr : World) : Prop where
  a : CV wr o8 m8 S1
  b : CV wr o10 m10 S1
  c : CV wr o12 m12 S2
  d : CV wr o14 m14 S2
  e : CV wr (some ⟨g7, 0, none⟩) 32 S3
  o : Below w0.heap.size w0 wr
theorem HK.later {w0 wr w' : World} {o8 o10 o12 o14 : Option Addr} {m8 m10 m12 m14 g7 : Nat} {S1 S2 S3 : ByteArray} (h : HK w0 o8 o10 o12 o14 m8 m10 m12 m14 g7 S1 S2 S3 wr) (hb : Below wr.heap.size wr w') : HK w0 o8 o10 o12 o14 m8 m10 m12 m14 g7 S1 S2 S3 w' :=
  ⟨h.a.later hb, h.b.later hb, h.c.later hb, h.d.later hb, h.e.later hb, h.o.trans (hb.mono h.o.size)⟩
end Go.Proofs.YtloajfbehejehaaDoor
