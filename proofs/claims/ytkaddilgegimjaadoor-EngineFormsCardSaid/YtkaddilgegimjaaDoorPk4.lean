/- packed.Reader.Mark. -/
import Derived.Test.YtkaddilgegimjaaDoorPk3
namespace Go.Proofs.YtkaddilgegimjaaDoor
set_option linter.unusedVariables false
set_option linter.unusedSimpArgs false
open Go.RowKit

theorem Rd.wrong {w : World} {r N p : Nat} {F : Nat → Nat} {bad : Bool} (h : Rd w r N p F bad) : Rd (w.setCell ⟨r, 1, none⟩ (.bool true)) r N p F true ∧ Own r w (w.setCell ⟨r, 1, none⟩ (.bool true)) := by
  obtain ⟨hp, o, c, hR, hB, h3⟩ := h
  refine ⟨⟨hp, o, c, ?_, hB.set_apart hR no_u8_rd, h3⟩, (Own.refl r w).set 1 _⟩
  have := hR.set 1 (.bool true)
  simpa using this
set_option maxRecDepth 100000 in
set_option maxHeartbeats 1000000 in
theorem rmark_any (r N p : Nat) (F : Nat → Nat) (bad : Bool) (w : World) (s : ByteArray) (m : Nat) (hm : s.size = m) (hm8 : m ≤ 1000) (h : Rd w r N p F bad) (hF : ∀ i, i < N → F i < 256) (b : Bool) (hb : ((strF m (gotF F N p m)).toList == s.toList) = b) :
    Calls Tryd.prog 98 #[.pointer (some ⟨r, 0, none⟩), .string s] w fun e w' => e = .returned (.tuple #[]) ∧ Rd w' r N (nxt N p m) F (bd N p m bad || !b) ∧ Own r w w' := by
  have HGL := Lib.hid (gotF_lt (k := m) hF h.bytes)
  have C := Lib.hid (take_any r N p m F bad w h (by omega))
  have m8 : (m : Int) ≤ 1000 := by omega
  have HB := Lib.hid hb
  clear h hF hb hm8
  go_enter Tryd.func98, Tryd.ntmps98
  go_wp2_with fail
  refine C.out.mono ?_
  rintro e w2 ⟨rfl, hRw, hR2, hO2⟩
  have hcv := conv_any (cp := m) (Row.bytes hRw HGL.out)
  have hBb := HB.out
  obtain ⟨str, hstr⟩ : ∃ x, strF m (gotF F N p m) = x := ⟨_, rfl⟩
  rw [hstr] at hcv hBb
  clear hstr HB C HGL
  cases b
  · have HW := Lib.hid hR2.wrong
    have HO := Lib.hid hO2
    obtain ⟨_, o, c, hR, _⟩ := hR2
    have c1 : w2.cell? ⟨r, 1, none⟩ = some (.bool (bd N p m bad)) := hR.cell 1
    have z1 := hR.free 1
    generalize bd N p m bad = bb at *
    clear hR hO2 hRw
    go_wp2_with fail
    go_end0
    exact ⟨rfl, by rw [Bool.not_false, Bool.or_true]; exact HW.out.1, HO.out.trans HW.out.2⟩
  · have HR := Lib.hid hR2
    have HO := Lib.hid hO2
    clear hR2 hO2 hRw
    go_wp2_with fail
    go_end0
    exact ⟨rfl, by rw [Bool.not_true, Bool.or_false]; exact HR.out, HO.out⟩
end Go.Proofs.YtkaddilgegimjaaDoor
