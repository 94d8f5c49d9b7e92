/- Secrets by versions, as memory has them; what may be. -/
import Derived.Test.YtkaddilgegimjaaDoorWn
import Derived.Test.YtkaddilgegimjaaDoorNum
import Derived.Test.YtkaddilgegimjaaDoorCame
import Derived.Lib.Hide
import Derived.IntWalk
import Derived.Outline
namespace Go.Proofs.YtkaddilgegimjaaDoor
set_option linter.unusedVariables false
set_option linter.unusedSimpArgs false
open Go.RowKit

/-- A version: its number, its bytes, its time, its state. -/
structure Ver where
  n : Nat
  len : Nat
  f : Nat → Nat
  t : Nat
  st : Int
/-- Four cells that are a version's. -/
def IsVer (w : World) (C : List Value) (v : Ver) : Prop := ∃ oa cap, C = [.int .u32 (v.n : Int), .slice oa v.len cap, .int .u64 (v.t : Int), .int .i64 v.st] ∧ Bytes w oa v.len v.f ∧ (oa = none → v.len = 0) ∧ v.len ≤ cap ∧ cap ≤ maxLen
theorem IsVer.later {w w' : World} {C : List Value} {v : Ver} (h : IsVer w C v) (hb : Below w.heap.size w w') : IsVer w' C v := by
  obtain ⟨oa, cap, hC, hB, h1, h2⟩ := h
  exact ⟨oa, cap, hC, hB.later hb, h1, h2⟩
/-- n versions lie behind an address. -/
def Vers (w : World) (oa : Option Addr) (n : Nat) (V : Nat → Ver) : Prop := ∀ i, i < n → ∃ b off C, oa = some ⟨b, off, none⟩ ∧ IsVer w C (V i) ∧ ∀ j, j < 4 → w.cell? ⟨b, off + i * 4 + j, none⟩ = C[j]?
theorem Vers.later {w w' : World} {oa : Option Addr} {n : Nat} {V : Nat → Ver} (h : Vers w oa n V) (hb : Below w.heap.size w w') : Vers w' oa n V := fun i hi => by
  obtain ⟨b, off, C, h1, h2, h3⟩ := h i hi
  obtain ⟨oa', cap, hC, hB, hno, hl, hm⟩ := h2
  refine ⟨b, off, C, h1, ⟨oa', cap, hC, hB.later hb, hno, hl, hm⟩, fun j hj => ?_⟩
  have := h3 j hj
  subst hC
  match j, hj with
  | 0, _ => exact cell_below hb (h3 0 (by omega))
  | 1, _ => exact cell_below hb (h3 1 (by omega))
  | 2, _ => exact cell_below hb (h3 2 (by omega))
  | 3, _ => exact cell_below hb (h3 3 (by omega))
theorem Vers.get {w : World} {oa : Option Addr} {n : Nat} {V : Nat → Ver} (h : Vers w oa n V) (i : Nat) (hi : i < n) : ∃ b off od cap, oa = some ⟨b, off, none⟩ ∧ Bytes w od (V i).len (V i).f ∧ (od = none → (V i).len = 0) ∧ (V i).len ≤ cap ∧ cap ≤ maxLen ∧
    w.cell? ⟨b, off + i * 4, none⟩ = some (.int .u32 ((V i).n : Int)) ∧ w.cell? ⟨b, off + i * 4 + 1, none⟩ = some (.slice od (V i).len cap) ∧ w.cell? ⟨b, off + i * 4 + 2, none⟩ = some (.int .u64 ((V i).t : Int)) ∧ w.cell? ⟨b, off + i * 4 + 3, none⟩ = some (.int .i64 (V i).st) := by
  obtain ⟨b, off, C, h1, ⟨oa', cap, hC, hB, hno, hl, hm⟩, h3⟩ := h i hi
  subst hC
  exact ⟨b, off, oa', cap, h1, hB, hno, hl, hm, h3 0 (by omega), h3 1 (by omega), h3 2 (by omega), h3 3 (by omega)⟩

/-- May a version be, but for its number? -/
def VerOk (v : Ver) : Prop := v.len ≤ 100 ∧ 0 ≤ v.st ∧ v.st ≤ 2 ∧ (v.st = 2 → v.len = 0)
/-- May a secret's head be? -/
def HeadOk (n last : Nat) (max : Int) : Prop := 1 ≤ max ∧ max ≤ 8 ∧ (n : Int) ≤ max ∧ (last = 0 ↔ n = 0) ∧ n ≤ last
/-- May a secret be? -/
def SecOk (n last : Nat) (max : Int) (V : Nat → Ver) : Prop := HeadOk n last max ∧ ∀ i, i < n → (V i).n + n = last + 1 + i ∧ VerOk (V i)

set_option maxHeartbeats 400000 in
theorem vmb_yes (m t : Int) (od : Option Addr) (len cap : Nat) (st : Int) (w : World) (h : len ≤ 100 ∧ 0 ≤ st ∧ st ≤ 2 ∧ (st = 2 → len = 0)) :
    Calls Tryd.prog 93 #[.agg #[.int .u32 m, .slice od len cap, .int .u64 t, .int .i64 st]] w fun e w' => e = .returned (.bool true) ∧ Below w.heap.size w w' := by
  obtain ⟨h0, h1, h2, h3⟩ := h
  have g0 : (len : Int) ≤ 100 := by omega
  by_cases hs : st = 2
  · have hl : len = 0 := h3 hs
    subst hs hl
    clear h0 h1 h2 h3
    go_enter Tryd.func93, Tryd.ntmps93
    go_wp2_with fail
    go_ret
    exact ⟨rfl, (Below.refl _ _).alloc (Nat.le_refl _) _⟩
  · have hs' : (st == 2) = false := by rw [beq_eq_false_iff_ne]; exact hs
    clear h0 hs h3
    go_enter Tryd.func93, Tryd.ntmps93
    go_wp2_with fail
    go_ret
    exact ⟨rfl, (Below.refl _ _).alloc (Nat.le_refl _) _⟩
set_option maxHeartbeats 400000 in
theorem vmb_no (m t : Int) (od : Option Addr) (len cap : Nat) (st : Int) (w : World) (h : ¬ (len ≤ 100 ∧ 0 ≤ st ∧ st ≤ 2 ∧ (st = 2 → len = 0))) :
    Calls Tryd.prog 93 #[.agg #[.int .u32 m, .slice od len cap, .int .u64 t, .int .i64 st]] w fun e w' => e = .returned (.bool false) ∧ Below w.heap.size w w' := by
  by_cases hs : st = 2
  · have hl : (0 : Int) < (len : Int) := by
      rcases Nat.eq_zero_or_pos len with h0 | h0
      · exact absurd ⟨by omega, by omega, by omega, fun _ => h0⟩ h
      · omega
    subst hs
    clear h
    go_enter Tryd.func93, Tryd.ntmps93
    go_wp2_with fail
    go_ret
    exact ⟨rfl, (Below.refl _ _).alloc (Nat.le_refl _) _⟩
  · have hs' : (st == 2) = false := by rw [beq_eq_false_iff_ne]; exact hs
    by_cases h0 : len ≤ 100
    · have g0 : (len : Int) ≤ 100 := by omega
      by_cases h1 : 0 ≤ st
      · have g2 : decide (st ≤ 2) = false := decide_eq_false fun h2 => h ⟨h0, h1, h2, fun e => absurd e hs⟩
        clear h hs h0
        go_enter Tryd.func93, Tryd.ntmps93
        go_wp2_with fail
        go_ret
        exact ⟨rfl, (Below.refl _ _).alloc (Nat.le_refl _) _⟩
      · have g1 : decide (0 ≤ st) = false := decide_eq_false h1
        clear h hs h0 h1
        go_enter Tryd.func93, Tryd.ntmps93
        go_wp2_with fail
        go_ret
        exact ⟨rfl, (Below.refl _ _).alloc (Nat.le_refl _) _⟩
    · have g0 : decide ((len : Int) ≤ 100) = false := decide_eq_false (by omega)
      clear h hs h0
      go_enter Tryd.func93, Tryd.ntmps93
      go_wp2_with fail
      go_ret
      exact ⟨rfl, (Below.refl _ _).alloc (Nat.le_refl _) _⟩

set_option maxRecDepth 100000 in
set_option maxHeartbeats 1000000 in
theorem check_head (oa : Option Addr) (n cp last : Nat) (max : Int) (w : World) (hn : n ≤ maxLen) (h : ¬ HeadOk n last max) :
    Calls Tryd.prog 55 #[.agg #[.slice oa n cp, .int .u32 (last : Int), .int .i64 max]] w fun e w' => e = .returned (.iface 146 (.int .i64 1)) ∧ Below w.heap.size w w' := by
  unfold maxLen at hn
  by_cases h1 : max < 1
  · clear h
    go_enter Tryd.func55, Tryd.ntmps55
    go_wp2_with fail
    go_ret
    exact ⟨rfl, (Below.refl _ _).alloc (Nat.le_refl _) _⟩
  have d1 : decide (max < 1) = false := decide_eq_false h1
  by_cases h2 : 8 < max
  · clear h h1
    go_enter Tryd.func55, Tryd.ntmps55
    go_wp2_with fail
    go_ret
    exact ⟨rfl, (Below.refl _ _).alloc (Nat.le_refl _) _⟩
  have d2 : decide (8 < max) = false := decide_eq_false h2
  by_cases h3 : max < (n : Int)
  · clear h h1 h2
    go_enter Tryd.func55, Tryd.ntmps55
    go_wp2_with fail
    go_ret
    exact ⟨rfl, (Below.refl _ _).alloc (Nat.le_refl _) _⟩
  have d3 : decide (max < (n : Int)) = false := decide_eq_false h3
  by_cases h4 : last = 0 ↔ n = 0
  · have h5 : ¬ (n ≤ last) := fun h5 => h ⟨by omega, by omega, by omega, h4, h5⟩
    have h6 : (last : Int) < (n : Int) := by omega
    have e1 : ((last : Int) == 0) = false := by rw [beq_eq_false_iff_ne]; omega
    have e2 : ((n : Int) == 0) = false := by rw [beq_eq_false_iff_ne]; omega
    clear h h1 h2 h3 h4 h5
    go_enter Tryd.func55, Tryd.ntmps55
    go_wp2_with fail
    go_ret
    exact ⟨rfl, (Below.refl _ _).alloc (Nat.le_refl _) _⟩
  · by_cases h5 : last = 0
    · have e2 : ((n : Int) == 0) = false := by rw [beq_eq_false_iff_ne]; intro e; exact h4 ⟨fun _ => by omega, fun _ => h5⟩
      subst h5
      clear h h1 h2 h3 h4
      go_enter Tryd.func55, Tryd.ntmps55
      go_wp2_with fail
      go_ret
      exact ⟨rfl, (Below.refl _ _).alloc (Nat.le_refl _) _⟩
    · have e1 : ((last : Int) == 0) = false := by rw [beq_eq_false_iff_ne]; omega
      have e2 : n = 0 := by
        rcases Nat.eq_zero_or_pos n with h0 | h0
        · exact h0
        · exact absurd ⟨fun e => absurd e h5, fun e => by omega⟩ h4
      have d4 : decide (max < 0) = false := decide_eq_false (by omega)
      subst e2
      clear h h1 h2 h3 h4 h5 d3
      go_enter Tryd.func55, Tryd.ntmps55
      go_wp2_with fail
      go_ret
      exact ⟨rfl, (Below.refl _ _).alloc (Nat.le_refl _) _⟩
end Go.Proofs.YtkaddilgegimjaaDoor
