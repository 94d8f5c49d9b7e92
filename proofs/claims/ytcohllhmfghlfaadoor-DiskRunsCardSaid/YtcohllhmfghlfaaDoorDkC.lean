/- A disk: one like it. -/
import Derived.Test.YtcohllhmfghlfaaDoorDkB
import Derived.Maps.AppendAt
namespace Go.Proofs.YtcohllhmfghlfaaDoor
set_option linter.unusedVariables false
set_option linter.unusedSimpArgs false
open Go.RowKit

theorem info_se3 : ∃ z, (Tryd.prog.info? 68).map (fun i => (i.zero, i.size, i.bytes)) = some (some (.agg z), 64, 64) ∧ z.size = 64 := ⟨(rowC 64 (fun _ => 0)).toArray, info_sec3, by rw [List.size_toArray, rowC_len]⟩
theorem grown_below {w w' : World} {base k n : Nat} {e : TypeId} {v : Value} {xs : List Value} (hG : w.ownsRow base e k v n xs) (hs : base ≤ w.heap.size) (hg : w.grownBy w' v.ownBlock) : Below base w w' :=
  ⟨hg.os, hg.tape, hg.output, hg.size, fun q hq => hg.block q (by omega) (fun e => by have := (World.ownsRow.lt hG q e.symm).1; omega)⟩
set_option maxRecDepth 100000 in
set_option maxHeartbeats 4000000 in
theorem sclone_any (oa : Option Addr) (n cap : Nat) (xs : List Value) (w : World) (hl : xs.length = n * 64) (h1 : ∀ u ∈ xs, u.oneCell' = true) (hx : ∀ ad, oa = some ad → ∀ j u, xs[j]? = some u → w.cell? (ad.add j) = some u) (hno : oa = none → n = 0 ∧ cap = 0) (hn : n < 100000000) :
    Calls Tryd.prog 38 #[.slice oa n cap] w fun e w' => ∃ v', e = .returned v' ∧ w'.ownsRow w.heap.size 68 64 v' n xs ∧ Below w.heap.size w w' ∧ (v' = .slice none 0 0 → oa = none) := by
  have heq := Lib.run_eql_slice_nil (P := Tryd.prog) w 61 68 oa n cap 0 0 Tryd.underlying61
  cases oa with
  | none =>
    obtain ⟨rfl, rfl⟩ := hno rfl
    obtain rfl : xs = [] := List.eq_nil_of_length_eq_zero (by rw [hl, Nat.zero_mul])
    go_enter Tryd.func38, Tryd.ntmps38
    go_wp2_with fail
    go_ret
    refine ⟨_, rfl, World.ownsRow_nil _ _ _ _, ?_⟩
    first | exact Below.refl _ _ | exact ⟨Below.refl _ _, fun _ => rfl⟩
  | some ad =>
    obtain ⟨w1, hw1⟩ : ∃ x, w.alloc (.cells #[] 68) = x := ⟨_, rfl⟩
    have hb1 : Below w.heap.size w w1 := by rw [← hw1]; exact (Below.refl _ _).alloc (Nat.le_refl _) _
    have hE : Blk w1 w.heap.size #[] 68 := by rw [← hw1]; exact Blk.new _ _ _
    have HO : Hid (w1.ownsRow w.heap.size 68 64 (.slice (some ⟨w.heap.size, 0, none⟩) 0 0) 0 []) := Lib.hid ⟨by simp, .inr ⟨w.heap.size, 0, #[], rfl, Nat.le_refl _, hE, Nat.le_refl _, Nat.zero_le _, by simp, by simp⟩⟩
    have HX : Hid (∀ j u, xs[j]? = some u → w1.cell? (ad.add j) = some u) := Lib.hid fun j u hu => cell_below hb1 (hx ad rfl j u hu)
    have H1 := Lib.hid (show xs.length = n * 64 ∧ (∀ u ∈ xs, u.oneCell' = true) ∧ n < 100000000 ∧ Below w.heap.size w w1 from ⟨hl, h1, hn, hb1⟩)
    clear hE hx hl h1 hno hb1
    obtain ⟨z, hinf, hz⟩ := info_se3
    obtain ⟨i0, hi, hz0, hz1, hz2⟩ := info_parts hinf
    have HI := Lib.hid hi
    have HZ := Lib.hid (show i0.zero = some (.agg z) ∧ i0.size = 64 ∧ i0.bytes = 64 ∧ z.size = 64 from ⟨hz0, hz1, hz2, hz⟩)
    clear hinf hi hz0 hz1 hz2 hz
    go_enter Tryd.func38, Tryd.ntmps38
    go_wp2_with (first
      | (at_builtin; (try rw [hw1]); refine wpList_append_own_at w1 rfl (.tmp 5) (.tmp 6) 61 rfl w.heap.size 68 i0 (.agg z) 64 64 Tryd.underlying61 HI.out HZ.out.1 HZ.out.2.1 HZ.out.2.2.1 HZ.out.2.2.2 (by decide) (.slice (some ⟨w.heap.size, 0, none⟩) 0 0) 0 [] rfl HO.out ad n cap xs rfl H1.out.1 HX.out H1.out.2.1 (by have := H1.out.2.2.1; unfold maxLen; omega) (by have := H1.out.2.2.1; omega) H1.out.2.2.2.size ?_
         intro v' w' hA hg hnil hat
         have HA := Lib.hid hA
         have HG := Lib.hid hg
         have HN := Lib.hid hnil
         clear hA hg hnil hat))
    go_wp2_with fail
    go_ret
    have hA := HA.out
    rw [Nat.zero_add, List.nil_append] at hA
    refine ⟨_, rfl, hA, H1.out.2.2.2.trans (grown_below HO.out H1.out.2.2.2.size HG.out), fun e => ?_⟩
    have := (HN.out.1 e).1
    cases this
set_option maxRecDepth 100000 in
set_option maxHeartbeats 4000000 in
theorem wclone_any (oa : Option Addr) (n cap : Nat) (xs : List Value) (w : World) (hl : xs.length = n * 65) (h1 : ∀ u ∈ xs, u.oneCell' = true) (hx : ∀ ad, oa = some ad → ∀ j u, xs[j]? = some u → w.cell? (ad.add j) = some u) (hno : oa = none → n = 0 ∧ cap = 0) (hn : n < 100000000) :
    Calls Tryd.prog 39 #[.slice oa n cap] w fun e w' => ∃ v', e = .returned v' ∧ w'.ownsRow w.heap.size 70 65 v' n xs ∧ Below w.heap.size w w' ∧ (v' = .slice none 0 0 → oa = none) := by
  have heq := Lib.run_eql_slice_nil (P := Tryd.prog) w 62 70 oa n cap 0 0 Tryd.underlying62
  cases oa with
  | none =>
    obtain ⟨rfl, rfl⟩ := hno rfl
    obtain rfl : xs = [] := List.eq_nil_of_length_eq_zero (by rw [hl, Nat.zero_mul])
    go_enter Tryd.func39, Tryd.ntmps39
    go_wp2_with fail
    go_ret
    refine ⟨_, rfl, World.ownsRow_nil _ _ _ _, ?_⟩
    first | exact Below.refl _ _ | exact ⟨Below.refl _ _, fun _ => rfl⟩
  | some ad =>
    obtain ⟨w1, hw1⟩ : ∃ x, w.alloc (.cells #[] 70) = x := ⟨_, rfl⟩
    have hb1 : Below w.heap.size w w1 := by rw [← hw1]; exact (Below.refl _ _).alloc (Nat.le_refl _) _
    have hE : Blk w1 w.heap.size #[] 70 := by rw [← hw1]; exact Blk.new _ _ _
    have HO : Hid (w1.ownsRow w.heap.size 70 65 (.slice (some ⟨w.heap.size, 0, none⟩) 0 0) 0 []) := Lib.hid ⟨by simp, .inr ⟨w.heap.size, 0, #[], rfl, Nat.le_refl _, hE, Nat.le_refl _, Nat.zero_le _, by simp, by simp⟩⟩
    have HX : Hid (∀ j u, xs[j]? = some u → w1.cell? (ad.add j) = some u) := Lib.hid fun j u hu => cell_below hb1 (hx ad rfl j u hu)
    have H1 := Lib.hid (show xs.length = n * 65 ∧ (∀ u ∈ xs, u.oneCell' = true) ∧ n < 100000000 ∧ Below w.heap.size w w1 from ⟨hl, h1, hn, hb1⟩)
    clear hE hx hl h1 hno hb1
    obtain ⟨z, hinf, hz⟩ := info_wr3
    obtain ⟨i0, hi, hz0, hz1, hz2⟩ := info_parts hinf
    have HI := Lib.hid hi
    have HZ := Lib.hid (show i0.zero = some (.agg z) ∧ i0.size = 65 ∧ i0.bytes = 72 ∧ z.size = 65 from ⟨hz0, hz1, hz2, hz⟩)
    clear hinf hi hz0 hz1 hz2 hz
    go_enter Tryd.func39, Tryd.ntmps39
    go_wp2_with (first
      | (at_builtin; (try rw [hw1]); refine wpList_append_own_at w1 rfl (.tmp 5) (.tmp 6) 62 rfl w.heap.size 70 i0 (.agg z) 65 72 Tryd.underlying62 HI.out HZ.out.1 HZ.out.2.1 HZ.out.2.2.1 HZ.out.2.2.2 (by decide) (.slice (some ⟨w.heap.size, 0, none⟩) 0 0) 0 [] rfl HO.out ad n cap xs rfl H1.out.1 HX.out H1.out.2.1 (by have := H1.out.2.2.1; unfold maxLen; omega) (by have := H1.out.2.2.1; omega) H1.out.2.2.2.size ?_
         intro v' w' hA hg hnil hat
         have HA := Lib.hid hA
         have HG := Lib.hid hg
         have HN := Lib.hid hnil
         clear hA hg hnil hat))
    go_wp2_with fail
    go_ret
    have hA := HA.out
    rw [Nat.zero_add, List.nil_append] at hA
    refine ⟨_, rfl, hA, H1.out.2.2.2.trans (grown_below HO.out H1.out.2.2.2.size HG.out), fun e => ?_⟩
    have := (HN.out.1 e).1
    cases this
end Go.Proofs.YtcohllhmfghlfaaDoor
