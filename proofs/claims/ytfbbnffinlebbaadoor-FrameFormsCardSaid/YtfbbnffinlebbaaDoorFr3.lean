/- Sectors held against others; the record that begins a list of sectors. -/
import Derived.Test.YtfbbnffinlebbaaDoorFr2
namespace Go.Proofs.YtfbbnffinlebbaaDoor
set_option linter.unusedVariables false
set_option linter.unusedSimpArgs false
open Go.RowKit

theorem orI {x y p s : Nat} (hx : x < 256) (hy : y < 256) (hp : x * 256 = p) (hs : p + y = s) : bits .or .i64 (p : Int) (y : Int) = (s : Int) := by
  have h := bits_join .i64 63 (by decide) (fun n h0 h1 => IntWalk.i64_in n (by omega)) 8 (p : Int) (y : Int) (by omega) (by omega) (by omega) (by omega) (by omega) (by omega)
  rw [h]; omega
/-- One field off the begin. -/
def FldA (p : Option Addr) (r : Nat) (F : Nat → Nat) (w0 : World) (e : Ending) (w' : World) : Prop :=
  Below w0.heap.size w0 w' ∧ (((r < 2 ∨ r < 2 + (256 * F 0 + F 1)) ∧ e = .returned (.tuple #[.slice none 0 0, .slice none 0 0, .bool false])) ∨
    (2 ≤ r ∧ 2 + (256 * F 0 + F 1) ≤ r ∧ ∃ oc cc p' cr', e = .returned (.tuple #[.slice oc (256 * F 0 + F 1) cc, .slice p' (r - 2 - (256 * F 0 + F 1)) cr', .bool true]) ∧ Bytes w' oc (256 * F 0 + F 1) (fun t => F (2 + t)) ∧ (oc = none → 256 * F 0 + F 1 = 0) ∧ 256 * F 0 + F 1 ≤ cc ∧ cc ≤ maxLen ∧ (∀ a, oc = some a → w0.heap.size ≤ a.block) ∧
      Bytes w' p' (r - 2 - (256 * F 0 + F 1)) (fun t => F (2 + (256 * F 0 + F 1) + t)) ∧ r - 2 - (256 * F 0 + F 1) ≤ cr' ∧ cr' ≤ maxLen ∧ ∀ a, p' = some a → ∃ a0, p = some a0 ∧ a0.block = a.block))
/-- The first ones of some rows are others. -/
def SameL (q : Nat) (LA LB : Nat → Nat) (GA GB : Nat → Nat → Nat) : Prop := ∀ i, i < q → LA i = LB i ∧ ∀ k, k < LA i → GA i k = GB i k
set_option maxRecDepth 100000 in
set_option maxHeartbeats 4000000 in
theorem begins_any (op oq : Option Addr) (ql cl q cq : Nat) (LA LB : Nat → Nat) (GA GB : Nat → Nat → Nat) (w : World) (hA : LBs w op ql LA GA) (hB : LBs w oq q LB GB) (hq : q ≤ ql) (hqm : ql ≤ maxLen) :
    Calls Tryd.prog 18 #[.slice op ql cl, .slice oq q cq] w fun e w' => ((e = .returned (.bool true) ∧ SameL q LA LB GA GB) ∨ (e = .returned (.bool false) ∧ ¬ SameL q LA LB GA GB)) ∧ Below w.heap.size w w' := by
  unfold maxLen at hqm
  have HA : Hid (∀ w', Below w.heap.size w w' → LBs w' op ql LA GA ∧ LBs w' oq q LB GB) := Lib.hid fun w' h => ⟨hA.later h, hB.later h⟩
  have HQ := Lib.hid (show q ≤ ql ∧ ql ≤ 9223372036854775807 from ⟨hq, hqm⟩)
  clear hA hB hq hqm
  go_enter Tryd.func18, Tryd.ntmps18
  go_wp2_with fail
  go_loopw [9] (fun x wr => ∃ i : Nat, i ≤ q ∧ x = .int .i64 (i : Int) ∧ SameL i LA LB GA GB ∧ Below w.heap.size w wr) (fun x _ => q - (intOf x).toNat)
  case atStart => exact ⟨0, Nat.zero_le _, rfl, fun j hj => absurd hj (Nat.not_lt_zero _), Below.refl _ _⟩
  case round =>
    obtain ⟨i, hi, rfl, hS, hX⟩ := hrel
    have HX := Lib.hid hX
    have HS := Lib.hid hS
    clear hX hS
    by_cases hlt : i < q
    · as_aux_lemma =>
      have i1 : (i : Int) < (q : Int) := by omega
      have i2 : (i : Int) < (ql : Int) := by have := HQ.out; omega
      have i0 : (0 : Int) ≤ (i : Int) := by omega
      have HI := Lib.hid hlt
      obtain ⟨h1, h2⟩ := HA.out wr HX.out
      obtain ⟨b, off, od, cp, rfl, c1, _, hb1, hd1, _⟩ := h1 i (by have := HQ.out; omega)
      obtain ⟨b2, off2, od2, cp2, rfl, c2, _, hb2, hd2, _⟩ := h2 i hlt
      obtain ⟨SA, hSA⟩ : ∃ x, strF (LA i) (GA i) = x := ⟨_, rfl⟩
      obtain ⟨SB, hSB⟩ : ∃ x, strF (LB i) (GB i) = x := ⟨_, rfl⟩
      have HEQ := Lib.hid (bequal_any od od2 (LA i) cp (LB i) cp2 SA SB wr ⟨GA i, hb1, hd1, hSA⟩ ⟨GB i, hb2, hd2, hSB⟩)
      have k4 : IntKind.i64.wrap ((i : Int) + 1) = ((i + 1 : Nat) : Int) := by have := HQ.out; rw [IntWalk.i64_in _ (by omega)]; omega
      by_cases e : SA = SB
      · have HE : Hid (LA i = LB i ∧ ∀ k, k < LA i → GA i k = GB i k) := Lib.hid (by
          rw [← hSA, ← hSB] at e
          exact strF_inj (fun k hk => (hb1 k hk).1) (fun k hk => (hb2 k hk).1) e)
        have HEQ : Hid (Calls Tryd.prog 20 #[.slice od (LA i) cp, .slice od2 (LB i) cp2] wr fun e w' => e = .returned (.bool true) ∧ wr = w') := Lib.hid (by have := HEQ.out; rwa [decide_eq_true e] at this)
        clear h1 h2 hlt hi hb1 hb2 hd1 hd2 hSA hSB e
        go_wp2_with fail
        refine HEQ.out.mono ?_
        rintro e w' ⟨rfl, rfl⟩
        clear HEQ c1 c2
        go_wp2_with fail
        go_roundw
        case rel =>
          refine ⟨i + 1, HI.out, by first | rfl | go_num, fun j hj => ?_, HX.out⟩
          by_cases hj2 : j < i
          · exact HS.out j hj2
          · obtain rfl : j = i := by omega
            exact HE.out
        case measure => have := HI.out; simp [intOf]; omega
      · have HE : Hid (¬ (LA i = LB i ∧ ∀ k, k < LA i → GA i k = GB i k)) := Lib.hid (fun ⟨h3, h4⟩ => e (by
          rw [← hSA, ← hSB, ← h3]
          exact strF_congr h4))
        have HEQ : Hid (Calls Tryd.prog 20 #[.slice od (LA i) cp, .slice od2 (LB i) cp2] wr fun e w' => e = .returned (.bool false) ∧ wr = w') := Lib.hid (by have := HEQ.out; rwa [decide_eq_false e] at this)
        clear h1 h2 hlt hi hb1 hb2 hd1 hd2 hSA hSB e
        go_wp2_with fail
        refine HEQ.out.mono ?_
        rintro e w' ⟨rfl, rfl⟩
        clear HEQ c1 c2
        go_wp2_with fail
        go_ret
        exact ⟨.inr ⟨rfl, fun h => HE.out (h i HI.out)⟩, HX.out⟩
    · obtain rfl : i = q := by omega
      have i1 : ¬ (i : Int) < (i : Int) := by omega
      clear hlt hi
      go_wp2_with fail
      go_ret
      exact ⟨.inl ⟨rfl, HS.out⟩, HX.out⟩
end Go.Proofs.YtfbbnffinlebbaaDoor
