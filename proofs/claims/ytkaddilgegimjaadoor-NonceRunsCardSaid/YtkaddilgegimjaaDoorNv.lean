/- NonceRuns, whatever the mark and the limit are; truth values that came in. -/
import Derived.Test.YtkaddilgegimjaaDoorNu
import Derived.Deep.Grids
namespace Go.Proofs.YtkaddilgegimjaaDoor
set_option linter.unusedVariables false
set_option linter.unusedSimpArgs false
open Go.ChangeShapes Go.WideShapes Go.ChangeAt Go.RowKit Go.Deep

theorem row_bools {H : Type} {enc : TypeId × Value → H} {P : Program} {W : World} {base : Nat} {held : Bool} {T E : TypeId} {fuel : Nat} {cs : List Value} {x : DataW H × List MemPlace}
    (hT : P.underlying T = some (.slice E)) (hE : P.underlying E = some .bool) (hc : P.cellsOf E = 1)
    (h : DataW.trod enc P W base (fun _ => true) held fuel T cs = some x) :
    ∃ oa n cap f, cs = [.slice oa n cap] ∧ n ≤ cap ∧ cap ≤ maxLen ∧ Bools W oa n f := by
  rcases open_bools hT hE hc h with ⟨hcs, _⟩ | ⟨a, n, cap, B, hcs, _, hl, hm, _, hcell⟩
  · exact ⟨none, 0, 0, fun _ => false, hcs, by omega, by unfold maxLen; omega, fun k hk => by omega⟩
  · refine ⟨some a, n, cap, B, hcs, hl, hm, fun k hk => ?_⟩
    obtain ⟨b, off, spot⟩ := a
    have hspot : spot = none := by simpa [Addr.add] using World.cell?_spot (hcell 0 (by omega))
    subst hspot
    refine ⟨b, off, rfl, ?_⟩
    have h1 := hcell k (by omega)
    have ha : (Addr.mk b off none).add k = ⟨b, off + k, none⟩ := by
      unfold Addr.add; split
      · rename_i hk0; subst hk0; rfl
      · rfl
    rw [ha] at h1; exact h1

theorem nruns_any (x y : Int) (oa : Option Addr) (n cp : Nat) (f : Nat → Bool) (w : World) (hg : Handle w) (hx : 0 ≤ x ∧ x ≤ 18446744073709551615) (hy : 0 ≤ y ∧ y ≤ 18446744073709551615) (hb : Bools w oa n f) (hn : n ≤ maxLen) :
    Calls Tryd.prog 3 #[.int .u64 x, .int .u64 y, .slice oa n cp] w fun e w' => e = .returned (.bool true) ∧ Below w.heap.size w w' := by
  obtain ⟨m, rfl⟩ := Int.eq_ofNat_of_zero_le hx.1
  obtain ⟨l, rfl⟩ := Int.eq_ofNat_of_zero_le hy.1
  have hm : m < 18446744073709551616 := by have := hx.2; omega
  have hl : l < 18446744073709551616 := by have := hy.2; omega
  by_cases h : m ≤ l ∧ l ≤ 281474976710656
  · exact nruns_yes oa n cp f m l w hg hb hn hm hl h.1 h.2
  · exact nruns_no oa n cp m l w hg hm hl h
end Go.Proofs.YtkaddilgegimjaaDoor
