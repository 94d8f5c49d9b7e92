/- Parts as memory has them: rows of structs of three cells; a plan that may be. -/
import Derived.Test.YtmhofofidmbgfaaDoorSmM
import Derived.Test.YtmhofofidmbgfaaDoorPoWeights
import Derived.Test.YtmhofofidmbgfaaDoorRws
import Derived.Test.YtmhofofidmbgfaaDoorApo
import Derived.Test.YtmhofofidmbgfaaDoorNm
namespace Go.Proofs.YtmhofofidmbgfaaDoor
set_option linter.unusedVariables false
set_option linter.unusedSimpArgs false
open Go.RowKit

/-- A part: its place, its generation, its bytes. -/
structure Sh where
  ix : Nat
  gen : Nat
  len : Nat
  f : Nat → Nat
instance : Inhabited Sh := ⟨⟨0, 0, 0, fun _ => 0⟩⟩
/-- Three cells that are a part's; its bytes lie in no block tb. -/
def IsSh (tb : Nat) (w : World) (C : List Value) (s : Sh) : Prop := ∃ oa cap, C = [.int .u8 (s.ix : Int), .int .u32 (s.gen : Int), .slice oa s.len cap] ∧ Bytes w oa s.len s.f ∧ (oa = none → s.len = 0) ∧ s.len ≤ cap ∧ cap ≤ maxLen ∧ Apart tb oa s.len
theorem IsSh.later {tb : Nat} {w w' : World} {C : List Value} {s : Sh} (h : IsSh tb w C s) (hb : Below w.heap.size w w') : IsSh tb w' C s := by
  obtain ⟨oa, cap, hC, hB, h1, h2⟩ := h
  exact ⟨oa, cap, hC, hB.later hb, h1, h2⟩
theorem IsSh.own {tb : Nat} {w w' : World} {C : List Value} {s : Sh} (h : IsSh tb w C s) (hO : Own tb w w') : IsSh tb w' C s := by
  obtain ⟨oa, cap, hC, hB, h1, h2, h3, h4⟩ := h
  exact ⟨oa, cap, hC, hB.own hO h4, h1, h2, h3, h4⟩
/-- n parts lie behind an address, in no block tb. -/
def Shs (tb : Nat) (w : World) (oa : Option Addr) (n : Nat) (S : Nat → Sh) : Prop := ∀ i, i < n → ∃ b off C, oa = some ⟨b, off, none⟩ ∧ b ≠ tb ∧ IsSh tb w C (S i) ∧ ∀ j, j < 3 → w.cell? ⟨b, off + i * 3 + j, none⟩ = C[j]?
theorem Shs.mono {tb : Nat} {w : World} {oa : Option Addr} {n m : Nat} {S : Nat → Sh} (h : Shs tb w oa n S) (hm : m ≤ n) : Shs tb w oa m S := fun i hi => h i (by omega)
theorem Shs.own {tb : Nat} {w w' : World} {oa : Option Addr} {n : Nat} {S : Nat → Sh} (h : Shs tb w oa n S) (hO : Own tb w w') : Shs tb w' oa n S := fun i hi => by
  obtain ⟨b, off, C, h1, hne, h2, h3⟩ := h i hi
  refine ⟨b, off, C, h1, hne, h2.own hO, fun j hj => ?_⟩
  obtain ⟨oa', cap, rfl, _⟩ := h2
  match j, hj with
  | 0, _ => exact hO.cell (h3 0 (by omega)) hne
  | 1, _ => exact hO.cell (h3 1 (by omega)) hne
  | 2, _ => exact hO.cell (h3 2 (by omega)) hne
theorem Shs.later {tb : Nat} {w w' : World} {oa : Option Addr} {n : Nat} {S : Nat → Sh} (h : Shs tb w oa n S) (hb : Below w.heap.size w w') : Shs tb w' oa n S := h.own (Own.of_below hb)
theorem Shs.get {tb : Nat} {w : World} {oa : Option Addr} {n : Nat} {S : Nat → Sh} (h : Shs tb w oa n S) (i : Nat) (hi : i < n) : ∃ b off od cap, oa = some ⟨b, off, none⟩ ∧ b ≠ tb ∧ Bytes w od (S i).len (S i).f ∧ (od = none → (S i).len = 0) ∧ (S i).len ≤ cap ∧ cap ≤ maxLen ∧ Apart tb od (S i).len ∧
    w.cell? ⟨b, off + i * 3, none⟩ = some (.int .u8 ((S i).ix : Int)) ∧ w.cell? ⟨b, off + i * 3 + 1, none⟩ = some (.int .u32 ((S i).gen : Int)) ∧ w.cell? ⟨b, off + i * 3 + 2, none⟩ = some (.slice od (S i).len cap) := by
  obtain ⟨b, off, C, h1, hne, ⟨oa', cap, hC, hB, hno, hl, hm, hA⟩, h3⟩ := h i hi
  subst hC
  exact ⟨b, off, oa', cap, h1, hne, hB, hno, hl, hm, hA, h3 0 (by omega), h3 1 (by omega), h3 2 (by omega)⟩
/-- May a plan be? -/
def MayP (K N : Int) : Prop := 2 ≤ K ∧ K ≤ N ∧ N ≤ 255

set_option maxHeartbeats 400000 in
theorem check_yes (K N g : Int) (w : World) (h : MayP K N) :
    Calls Tryd.prog 19 #[.agg #[.int .i64 K, .int .i64 N, .int .u32 g]] w fun e w' => e = .returned .nilIface ∧ Below w.heap.size w w' := by
  obtain ⟨h0, h1, h2⟩ := h
  have d0 : decide (K < 2) = false := decide_eq_false (by omega)
  have d1 : decide (N < K) = false := decide_eq_false (by omega)
  have d2 : decide (255 < N) = false := decide_eq_false (by omega)
  go_enter Tryd.func19, Tryd.ntmps19
  go_wp2_with fail
  go_ret
  exact ⟨rfl, (Below.refl _ _).alloc (Nat.le_refl _) _⟩
set_option maxHeartbeats 400000 in
theorem check_no (K N g : Int) (w : World) (h : ¬ MayP K N) :
    Calls Tryd.prog 19 #[.agg #[.int .i64 K, .int .i64 N, .int .u32 g]] w fun e w' => e = .returned (.iface 81 (.int .i64 1)) ∧ Below w.heap.size w w' := by
  by_cases h0 : K < 2
  · clear h
    go_enter Tryd.func19, Tryd.ntmps19
    go_wp2_with fail
    go_ret
    exact ⟨rfl, (Below.refl _ _).alloc (Nat.le_refl _) _⟩
  · have d0 : decide (K < 2) = false := decide_eq_false h0
    by_cases h1 : N < K
    · clear h h0
      go_enter Tryd.func19, Tryd.ntmps19
      go_wp2_with fail
      go_ret
      exact ⟨rfl, (Below.refl _ _).alloc (Nat.le_refl _) _⟩
    · have d1 : decide (N < K) = false := decide_eq_false h1
      have h2 : 255 < N := by
        rcases Int.lt_or_le 255 N with h2 | h2
        · exact h2
        · exact absurd ⟨by omega, by omega, h2⟩ h
      clear h h0 h1
      go_enter Tryd.func19, Tryd.ntmps19
      go_wp2_with fail
      go_ret
      exact ⟨rfl, (Below.refl _ _).alloc (Nat.le_refl _) _⟩
set_option maxHeartbeats 400000 in
theorem may_yes (K N g : Int) (w : World) (h : MayP K N) :
    Calls Tryd.prog 10 #[.agg #[.int .i64 K, .int .i64 N, .int .u32 g]] w fun e w' => e = .returned (.bool true) ∧ Below w.heap.size w w' := by
  obtain ⟨h0, h1, h2⟩ := h
  go_enter Tryd.func10, Tryd.ntmps10
  go_wp2_with fail
  go_ret
  exact ⟨rfl, (Below.refl _ _).alloc (Nat.le_refl _) _⟩
set_option maxHeartbeats 400000 in
theorem may_no (K N g : Int) (w : World) (h : ¬ MayP K N) :
    Calls Tryd.prog 10 #[.agg #[.int .i64 K, .int .i64 N, .int .u32 g]] w fun e w' => e = .returned (.bool false) ∧ Below w.heap.size w w' := by
  by_cases h0 : 2 ≤ K
  · by_cases h1 : K ≤ N
    · have d2 : decide (N ≤ 255) = false := decide_eq_false fun h2 => h ⟨h0, h1, h2⟩
      clear h
      go_enter Tryd.func10, Tryd.ntmps10
      go_wp2_with fail
      go_ret
      exact ⟨rfl, (Below.refl _ _).alloc (Nat.le_refl _) _⟩
    · have d1 : decide (K ≤ N) = false := decide_eq_false h1
      clear h h1
      go_enter Tryd.func10, Tryd.ntmps10
      go_wp2_with fail
      go_ret
      exact ⟨rfl, (Below.refl _ _).alloc (Nat.le_refl _) _⟩
  · have d0 : decide (2 ≤ K) = false := decide_eq_false h0
    clear h h0
    go_enter Tryd.func10, Tryd.ntmps10
    go_wp2_with fail
    go_ret
    exact ⟨rfl, (Below.refl _ _).alloc (Nat.le_refl _) _⟩
set_option maxHeartbeats 400000 in
theorem fits_yes (n : Nat) (w : World) (h1 : 1 ≤ n) (h2 : n ≤ 64) :
    Calls Tryd.prog 38 #[.int .i64 (n : Int)] w fun e w' => e = .returned (.bool true) ∧ w = w' := by
  have d1 : (1 : Int) ≤ (n : Int) := by omega
  have d2 : (n : Int) ≤ 64 := by omega
  go_enter Tryd.func38, Tryd.ntmps38
  go_wp2_with fail
  go_ret
  exact ⟨rfl, rfl⟩
set_option maxHeartbeats 400000 in
theorem fits_no (n : Nat) (w : World) (h : ¬ (1 ≤ n ∧ n ≤ 64)) :
    Calls Tryd.prog 38 #[.int .i64 (n : Int)] w fun e w' => e = .returned (.bool false) ∧ w = w' := by
  by_cases h1 : 1 ≤ n
  · have d1 : (1 : Int) ≤ (n : Int) := by omega
    have d2 : decide ((n : Int) ≤ 64) = false := decide_eq_false (by omega)
    clear h
    go_enter Tryd.func38, Tryd.ntmps38
    go_wp2_with fail
    go_ret
    exact ⟨rfl, rfl⟩
  · obtain rfl : n = 0 := by omega
    clear h h1
    go_enter Tryd.func38, Tryd.ntmps38
    go_wp2_with fail
    go_ret
    exact ⟨rfl, rfl⟩
end Go.Proofs.YtmhofofidmbgfaaDoor
