/- The document's own split. -/
import Derived.Test.YtgiffaeckhhmpaaDoorSt1
import Derived.Test.YtgiffaeckhhmpaaDoorPoRef3
namespace Go.Proofs.YtgiffaeckhhmpaaDoor
set_option linter.unusedVariables false
set_option linter.unusedSimpArgs false
open Go.RowKit

theorem build_rsh (x g : Int) (w : World) : (Instr.build 55 #[(0, .int .u8 x), (1, .int .u32 g)]).run Tryd.prog w = .ok (.agg #[.int .u8 x, .int .u32 g, .slice none 0 0]) w := run_build w 55 _ _ (by kernel_rfl)
theorem zrs_run (w : World) : (zeroValue 55).run Tryd.prog w = .ok (.agg #[.int .u8 0, .int .u32 0, .slice none 0 0]) w := by kernel_rfl
theorem grown_in2 {w w' : World} {base n : Nat} {v : Value} {f : Nat → Nat} (h : Grow w base v n f) (hg : w.grownBy w' v.ownBlock) (hb : base ≤ w.heap.size) : Below base w w' := (Below.refl base w).grown hg hb (Grow.block h)
theorem cF_zero (s d : Nat → Nat) (k j : Nat) : cF s d k j 0 = s j := rfl
theorem cF_next (s d : Nat → Nat) (k j i : Nat) : cF s d k j (1 + i) = d (j * k + i) := by
  unfold cF catF; rw [if_neg (by omega), Nat.add_sub_cancel_left]
/-- The document's parts. -/
def rS (gen L : Nat) (s d : Nat → Nat) (k : Nat) : Nat → Sh := fun x => ⟨x + 1, gen, L, shF s d k (x + 1)⟩

end Go.Proofs.YtgiffaeckhhmpaaDoor
