/- Numbers with names: wraps, quotients, rests, as a walk meets them. -/
import Derived.IntWalk
namespace Go.Proofs.YtgfjlgaleddoaaaGreatDoor
set_option linter.unusedVariables false
set_option linter.unusedSimpArgs false

theorem wrs {c r k : Nat} (h : c + r = k) (hk : k < 1000) : IntKind.i64.wrap ((c : Int) + (r : Int)) = (k : Int) := by rw [IntWalk.i64_in _ (by omega)]; omega
theorem wrm {a b k : Nat} {m : Int} (hm : m = (b : Int)) (h : a * b = k) (hk : k < 1000) : IntKind.i64.wrap ((a : Int) * m) = (k : Int) := by
  subst hm
  have e : (a : Int) * (b : Int) = (k : Int) := by rw [← h]; exact (Int.natCast_mul a b).symm
  rw [e]; exact IntWalk.i64_in _ (by omega)
theorem wrn {a b k : Nat} {m : Int} (hm : m = (b : Int)) (h : b * a = k) (hk : k < 1000) : IntKind.i64.wrap (m * (a : Int)) = (k : Int) := by
  subst hm
  have e : (b : Int) * (a : Int) = (k : Int) := by rw [← h]; exact (Int.natCast_mul b a).symm
  rw [e]; exact IntWalk.i64_in _ (by omega)
theorem wrk {i k n : Nat} {m : Int} (hm : m = (n : Int)) (h : i + n = k) (hk : k < 1000) : IntKind.i64.wrap ((i : Int) + m) = (k : Int) := by subst hm; rw [IntWalk.i64_in _ (by omega)]; omega
theorem wrb {i k n : Nat} {m : Int} (hm : m = (n : Int)) (h : i = k + n) (hk : i < 1000) : IntKind.i64.wrap ((i : Int) - m) = (k : Int) := by subst hm; rw [IntWalk.i64_in _ (by omega)]; omega
theorem tmk {j r n : Nat} {m : Int} (hm : m = (n : Int)) (h : j % n = r) : ((j : Nat) : Int).tmod m = (r : Int) := by subst hm; rw [Int.tmod_eq_emod_of_nonneg (by omega)]; rw [← h]; exact (Int.natCast_emod j n).symm
theorem tdk {j r n : Nat} {m : Int} (hm : m = (n : Int)) (h : j / n = r) : ((j : Nat) : Int).tdiv m = (r : Int) := by subst hm; rw [Int.tdiv_eq_ediv_of_nonneg (by omega)]; rw [← h]; exact (Int.natCast_ediv j n).symm
theorem ixN {k : Nat} (m : Nat) (h : k < m) : (0 : Int) ≤ (k : Int) ∧ (k : Int) < (m : Nat) := by omega
theorem u32m (a b : Int) {c d e : Nat} (ha : a = (c : Int)) (hb : b = (d : Int)) (h : (c + d) % 4294967296 = e) : IntKind.u32.wrap (a + b) = (e : Int) := by
  subst ha hb; rw [← h]; simp [IntKind.wrap, IntKind.bits, IntKind.signed]
end Go.Proofs.YtgfjlgaleddoaaaGreatDoor
