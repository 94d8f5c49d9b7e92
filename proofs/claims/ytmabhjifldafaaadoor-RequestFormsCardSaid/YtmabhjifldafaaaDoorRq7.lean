/- Rows from a place on, cloned. -/
import Derived.Test.YtmabhjifldafaaaDoorRq4
namespace Go.Proofs.YtmabhjifldafaaaDoor
set_option linter.unusedVariables false
set_option linter.unusedSimpArgs false
open Go.RowKit

theorem LBs.hi {w : World} {b off q f d : Nat} {L : Nat → Nat} {G : Nat → Nat → Nat} (h : LBs w (some ⟨b, off, none⟩) q L G) (hd : f + d = q) : LBs w (some ⟨b, off + f, none⟩) d (fun i => L (f + i)) (fun i => G (f + i)) := fun i hi => by
  obtain ⟨b', off', od, cp, h1, h2, h3, h4, h5, h6⟩ := h (f + i) (by omega)
  cases h1
  exact ⟨b, off + f, od, cp, rfl, by rw [Nat.add_assoc]; exact h2, h3, h4, h5, h6⟩
/-- Lists stay where a block of no bytes is stored over. -/
theorem LBs.keep {w w' : World} {oa : Option Addr} {d g : Nat} {L : Nat → Nat} {G : Nat → Nat → Nat} {C : Array Value} {t : TypeId} (h : LBs w oa d L G) (hO : Own g w w') (hne : ∀ a, oa = some a → 0 < d → a.block ≠ g) (hB : Blk w g C t) (hC : ∀ (k : Nat) (x : Int), C[k]? ≠ some (Value.int .u8 x)) : LBs w' oa d L G := fun i hi => by
  obtain ⟨b, off, od, cp, h1, h2, h3, h4, h5, h6⟩ := h i hi
  refine ⟨b, off, od, cp, h1, hO.cell h2 (show b ≠ g from hne _ h1 (by omega)), h3, fun k hk => ?_, h5, h6⟩
  obtain ⟨q1, b2, off2, q2, q3⟩ := h4 k hk
  refine ⟨q1, b2, off2, q2, hO.cell q3 fun e => ?_⟩
  have e' : b2 = g := e
  subst e'
  rw [Blk.cell hB] at q3
  exact hC _ _ q3
theorem Bytes.keep {w w' : World} {oa : Option Addr} {n g : Nat} {f : Nat → Nat} {C : Array Value} {t : TypeId} (h : Bytes w oa n f) (hO : Own g w w') (hB : Blk w g C t) (hC : ∀ (k : Nat) (x : Int), C[k]? ≠ some (Value.int .u8 x)) : Bytes w' oa n f := fun k hk => by
  obtain ⟨q1, b2, off2, q2, q3⟩ := h k hk
  refine ⟨q1, b2, off2, q2, hO.cell q3 fun e => ?_⟩
  have e' : b2 = g := e
  subst e'
  rw [Blk.cell hB] at q3
  exact hC _ _ q3
set_option maxRecDepth 100000 in
set_option maxHeartbeats 8000000 in
theorem rest_any (b off q cq f d : Nat) (L : Nat → Nat) (G : Nat → Nat → Nat) (w : World) (hL : LBs w (some ⟨b, off, none⟩) q L G) (hq : q ≤ cq) (hcq : cq ≤ maxLen) (hd : f + d = q) (hq4 : q ≤ 1000) (hl : ∀ i, i < q → L i ≤ 100000) :
    Calls Tryd.prog 70 #[.slice (some ⟨b, off, none⟩) q cq, .int .i64 (f : Nat)] w fun e w' => ∃ o c, e = .returned (.slice o d c) ∧ LBs w' o d (fun i => L (f + i)) (fun i => G (f + i)) ∧ (o = none → d = 0) ∧ d ≤ c ∧ c ≤ maxLen ∧ (∀ a, o = some a → w.heap.size ≤ a.block) ∧ Below w.heap.size w w' := by
  unfold maxLen at hcq
  have HP : Hid (∀ w', Below w.heap.size w w' → LBs w' (some ⟨b, off + f, none⟩) d (fun i => L (f + i)) (fun i => G (f + i))) := Lib.hid fun w' h => (hL.later h).hi hd
  have HD : Hid (f + d = q ∧ q ≤ 1000 ∧ ∀ i, i < q → L i ≤ 100000) := Lib.hid ⟨hd, hq4, hl⟩
  have x0 : (0 : Int) ≤ (f : Int) := by omega
  have x1 : (f : Int) ≤ (q : Int) := by omega
  have x2 : f ≤ q := by omega
  have x3 : (q : Int) - (f : Int) = (d : Int) := by omega
  have x4 : q - f = d := by omega
  have x5 : (q : Int) ≤ (cq : Int) := by omega
  have x6 : f ≤ cq := by omega
  have x7 : (f : Int) ≤ (cq : Int) := by omega
  have x8 : (cq : Int) ≤ 9223372036854775807 := by omega
  by_cases hc : cq = f
  · obtain rfl : d = 0 := by omega
    clear hL hd hq hcq hq4 hl
    go_enter Tryd.func70, Tryd.ntmps70
    go_wp2_with fail
    go_loopw [5, 12] (fun x v wr => v = .int .i64 0 ∧ x = .slice none 0 0 ∧ Below w.heap.size w wr) (fun _ _ _ => 0)
    case atStart => exact ⟨by first | rfl | trivial, by first | rfl | trivial, Below.refl _ _⟩
    case round =>
      obtain ⟨rfl, rfl, hX⟩ := hrel
      have HX := Lib.hid hX
      clear hX
      go_wp2_with fail
      go_ret
      exact ⟨none, 0, rfl, LBs.zero _ _ _ _, by simp, Nat.le_refl _, by unfold maxLen; omega, (fun a e => by cases e), HX.out⟩
  · clear hL hd hq hcq hq4 hl
    have d0 : (d : Int) ≤ 9223372036854775807 := by have := HD.out; omega
    go_enter Tryd.func70, Tryd.ntmps70
    go_wp2_with fail
    go_loopw [5, 12] (fun x v wr => ∃ (i : Nat) (vb : Value), i ≤ d ∧ v = .int .i64 (i : Int) ∧ vb = x ∧ RL wr w.heap.size vb i (fun j => L (f + j)) (fun j => G (f + j)) ∧ Below w.heap.size w wr) (fun _ v _ => d - (intOf v).toNat)
    case atStart => exact ⟨0, _, Nat.zero_le _, rfl, rfl, RL.nil _ _ _ _, Below.refl _ _⟩
    case round =>
      obtain ⟨i, vb, hi, rfl, rfl, hR, hX⟩ := hrel
      have HX := Lib.hid hX
      have HR := Lib.hid hR
      clear hR hX
      by_cases hli : i < d
      · as_aux_lemma =>
        have i1 : (i : Int) < (d : Int) := by omega
        have i0 : (0 : Int) ≤ (i : Int) := by omega
        have HI : Hid (i < d) := Lib.hid hli
        obtain ⟨i2, hi2⟩ : ∃ z, i + 1 = z := ⟨_, rfl⟩
        have HI2 := Lib.hid hi2
        have iw : IntKind.i64.wrap ((i : Int) + 1) = (i2 : Int) := by have := HD.out; rw [IntWalk.i64_in _ (by omega)]; omega
        obtain ⟨b2, off2, od, cp, e0, hc, hlc, hB, hn, hm⟩ := HP.out wr HX.out i hli
        cases e0
        have HC := Lib.hid (clone_any od (L (f + i)) cp (G (f + i)) wr hB (by have h1 := HD.out; have h2 := h1.2.2 (f + i) (by omega); omega) hn)
        have c0 := hc
        clear hc hB hlc hm hn hi hli hi2
        go_wp2_with fail
        refine HC.out.mono ?_
        clear HC c0
        rintro e w1 ⟨o1, c1, rfl, hB1, hn1, hl1, hm1, hge1, hb1⟩
        have H1 : Hid (RL w1 w.heap.size vb i (fun j => L (f + j)) (fun j => G (f + j)) ∧ Below w.heap.size w w1 ∧ Bytes w1 o1 (L (f + i)) (G (f + i))) := Lib.hid ⟨HR.out.later hb1, HX.out.trans (hb1.mono HX.out.size), hB1⟩
        have HC1 : Hid (L (f + i) ≤ c1 ∧ c1 ≤ maxLen ∧ (o1 = none → L (f + i) = 0) ∧ (∀ ad, o1 = some ad → 0 < L (f + i) → vb.ownBlock ≠ some ad.block)) := Lib.hid ⟨hl1, hm1, hn1, fun ad ha _ e => by have h1 := hge1 ad ha; have h2 := (HR.out.lt _ e).2; omega⟩
        clear hB1 hn1 hl1 hm1 hge1 hb1
        go_wp2_with (first
          | (refine wpList_appR rfl (.tmp 16) (.tmp 19) rfl w.heap.size vb i _ _ (L (f + i)) (G (f + i)) o1 c1 w1 rfl H1.out.1 rfl H1.out.2.2 HC1.out.1 HC1.out.2.1 HC1.out.2.2.1 HC1.out.2.2.2 rfl (fun _ _ => rfl) (by have := HD.out; have := HI.out; omega) H1.out.2.1.size ?_
             intro v9 w9 hR9 hb9
             have H9 : Hid (RL w9 w.heap.size v9 (i + 1) (fun j => L (f + j)) (fun j => G (f + j)) ∧ Below w.heap.size w w9) := Lib.hid ⟨hR9, H1.out.2.1.trans hb9⟩
             clear hR9 hb9))
        go_roundw
        case rel => exact ⟨i2, _, by have := HI.out; have := HI2.out; omega, by first | rfl | go_num, rfl, by rw [← HI2.out]; exact H9.out.1, H9.out.2⟩
        case measure => have := HI.out; have := HI2.out; simp [intOf] <;> omega
      · obtain rfl : i = d := by omega
        clear hli hi
        go_wp2_with fail
        go_ret
        obtain ⟨o, c, rfl, h1, h2, h3, h4⟩ := HR.out.lbs
        exact ⟨o, c, rfl, h3, h4, h1, h2, (fun a e => by subst e; exact (HR.out.lt _ rfl).1), HX.out⟩
end Go.Proofs.YtmabhjifldafaaaDoor
