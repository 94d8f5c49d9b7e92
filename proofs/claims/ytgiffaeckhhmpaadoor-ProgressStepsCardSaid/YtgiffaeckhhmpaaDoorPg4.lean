/- slices.Clone of parts. -/
import Derived.Test.YtgiffaeckhhmpaaDoorGp
import Derived.Test.YtgiffaeckhhmpaaDoorPg3
namespace Go.Proofs.YtgiffaeckhhmpaaDoor
set_option linter.unusedVariables false
set_option linter.unusedSimpArgs false
open Go.RowKit
theorem und_ss : Tryd.prog.underlying 29 = some (.slice 42) := by kernel_rfl
theorem Shs.none {tb : Nat} {w : World} {n : Nat} {S : Nat → Sh} (h : Shs tb w none n S) : n = 0 := by
  rcases Nat.eq_zero_or_pos n with h0 | h0
  · exact h0
  · obtain ⟨_, _, _, e, _⟩ := h 0 h0; cases e
set_option maxRecDepth 100000 in
set_option maxHeartbeats 4000000 in
theorem sclone_any (tb n cs : Nat) (oa : Option Addr) (S : Nat → Sh) (P : Nat → Prop) (w0 w : World) (hS : Shs tb w0 oa n S) (hb0 : Below w0.heap.size w0 w) (hP : ∀ q, q < w0.heap.size → q ≠ tb → P q) (hn : n < 100000) :
    Calls Tryd.prog 25 #[.slice oa n cs] w fun e w' => ∃ v, e = .returned v ∧ GP 42 P w' w.heap.size v n S ∧ Below w.heap.size w w' := by
  have heq := Lib.run_eql_slice_nil (P := Tryd.prog) w 29 42 oa n cs 0 0 und_ss
  cases oa with
  | none =>
    obtain rfl := hS.none
    go_enter Tryd.func25, Tryd.ntmps25
    go_wp2_with fail
    go_ret
    exact ⟨_, rfl, GP.nil _ _ _ _ _, Below.refl _ _⟩
  | some a =>
    have hE : Blk (w.alloc (.cells #[] 42)) w.heap.size #[] 42 := Blk.new _ _ _
    have HG := Lib.hid (GP.empty (P := P) hE (Nat.le_refl _) (fun _ => default))
    have HA := Lib.hid (hS.shP (P := P) (v := .slice (some ⟨w.heap.size, 0, none⟩) 0 0) (hb0.trans (((Below.refl w.heap.size w).alloc (Nat.le_refl _) (.cells #[] 42)).mono hb0.size)) (fun q hq => by have := hb0.size; simp [Value.ownBlock] at hq; omega) hP)
    have HN := Lib.hid (show 0 + n < 1000000 by omega)
    clear hE hS hP hn hb0
    go_enter Tryd.func25, Tryd.ntmps25
    go_wp2_with (at_builtin; refine app_GP und_ss info_share rfl rfl (.tmp 5) (.tmp 6) rfl P w.heap.size (.slice (some ⟨w.heap.size, 0, none⟩) 0 0) 0 n cs (fun _ => default) S (some a) _ rfl HG.out rfl HA.out (fun e => by cases e) HN.out ?c1 ?_)
    case c1 => simp
    intro v' w' hG hb _
    have hG2 := hG.congr (S' := S) fun i hi => by unfold catSh; rw [if_neg (Nat.not_lt_zero _), Nat.sub_zero]
    have hB' : Below w.heap.size w w' := ((Below.refl _ _).alloc (Nat.le_refl _) (.cells #[] 42)).trans hb
    have HG2 := Lib.hid hG2
    have HB := Lib.hid hB'
    clear hG hG2 hb HG HA hB'
    go_wp2_with fail
    go_ret
    exact ⟨v', rfl, HG2.out, HB.out⟩
end Go.Proofs.YtgiffaeckhhmpaaDoor
