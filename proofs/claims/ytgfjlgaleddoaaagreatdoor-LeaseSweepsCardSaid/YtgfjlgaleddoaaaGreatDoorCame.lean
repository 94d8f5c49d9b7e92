/- How rows of bytes that came in read, for walks. -/
import Derived.Test.YtgfjlgaleddoaaaGreatDoorBlk
import Derived.ProofKit
import Derived.OpenShut
import Derived.Below
import Derived.Lib.SmallJoins
namespace Go.Proofs.YtgfjlgaleddoaaaGreatDoor
set_option linter.unusedVariables false
set_option linter.unusedSimpArgs false
open Go.ChangeShapes Go.WideShapes Go.ChangeAt Go.RowKit

/-- n bytes lie behind an address, as a function tells them. -/
def Bytes (w : World) (oa : Option Addr) (n : Nat) (f : Nat → Nat) : Prop :=
  ∀ k, k < n → f k < 256 ∧ ∃ b off, oa = some ⟨b, off, none⟩ ∧ w.cell? ⟨b, off + k, none⟩ = some (.int .u8 (f k))
theorem Bytes.mono {w : World} {oa : Option Addr} {n m : Nat} {f : Nat → Nat} (h : Bytes w oa n f) (hm : m ≤ n) : Bytes w oa m f := fun k hk => h k (by omega)
theorem Bytes.later {w w' : World} {oa : Option Addr} {n : Nat} {f : Nat → Nat} (h : Bytes w oa n f) (hb : Below w.heap.size w w') : Bytes w' oa n f := fun k hk => by
  obtain ⟨h1, b, off, h2, h3⟩ := h k hk
  exact ⟨h1, b, off, h2, cell_below hb h3⟩
theorem Bytes.alloc {w : World} {oa : Option Addr} {n : Nat} {f : Nat → Nat} (h : Bytes w oa n f) (o : Obj) : Bytes (w.alloc o) oa n f :=
  h.later ((Below.refl _ _).alloc (Nat.le_refl _) o)

theorem row_bytes {H : Type} {enc : TypeId × Value → H} {P : Program} {W : World} {base : Nat} {held : Bool} {T E : TypeId} {fuel : Nat} {cs : List Value} {x : DataW H × List MemPlace}
    (hT : P.underlying T = some (.slice E)) (hE : P.underlying E = some (.int .u8)) (hc : P.cellsOf E = 1)
    (h : DataW.trod enc P W base (fun _ => true) held fuel T cs = some x) :
    ∃ oa n cap f, cs = [.slice oa n cap] ∧ n ≤ cap ∧ cap ≤ maxLen ∧ Bytes W oa cap f := by
  rcases open_ints hT hE hc h with ⟨hcs, _⟩ | ⟨a, n, cap, zs, hcs, _, hl, hm, hz, _, hcell, hwz⟩
  · exact ⟨none, 0, 0, fun _ => 0, hcs, by omega, by unfold maxLen; omega, fun k hk => by omega⟩
  · refine ⟨some a, n, cap, fun k => (zs.getD k 0).toNat, hcs, hl, hm, fun k hk => ?_⟩
    have hzl : zs.length = cap := by simpa using hz
    have hk' : k < zs.length := by omega
    have h1 := hcell k hk'
    have h2 := hwz _ (List.getElem_mem hk')
    have e : zs.getD k 0 = zs[k] := by simp [List.getD, hk']
    rw [e] at h1
    have hb : 0 ≤ zs[k] ∧ zs[k] ≤ 255 := by
      simp [Lit.wf, IntKind.min, IntKind.max, IntKind.bits, IntKind.signed] at h2; omega
    obtain ⟨b, off, spot⟩ := a
    have hspot : spot = none := by simpa [Addr.add] using World.cell?_spot (hcell 0 (by omega))
    subst hspot
    refine ⟨by simp only [e]; omega, b, off, rfl, ?_⟩
    simp only [e]
    rw [show ((zs[k].toNat : Nat) : Int) = zs[k] from by omega]
    have ha : (Addr.mk b off none).add k = ⟨b, off + k, none⟩ := by
      unfold Addr.add; split
      · rename_i hk0; subst hk0; rfl
      · rfl
    rw [ha] at h1; exact h1

theorem okWide_arr' {P : Program} {w : World} {r : Reach} {base : Nat} {t : TypeId} {v : Value} {n : Nat} {e : TypeId} (ht : P.underlying t = some (.array n e)) (h : Value.okWide P w r base t v) : ∃ cs, v = .agg cs ∧ cs.size = P.cellsOf t := by
  simp only [Value.okWide, ht] at h
  obtain ⟨cs, h1, h2, _⟩ := h
  exact ⟨cs, h1, h2⟩
/-- An array of two integers. -/
theorem arr2_int {H : Type} {enc : TypeId × Value → H} {P : Program} {W : World} {r : Reach} {b0 base : Nat} {spare : Nat → Bool} {held : Bool} {T E : TypeId} {k : IntKind} {v : Value} {d : DataW H} {p : List MemPlace}
    (hT : P.underlying T = some (.array 2 E)) (hE : P.underlying E = some (.int k)) (cT : P.cellsOf T = 2) (cE : P.cellsOf E = 1)
    (hv : Value.okWide P W r b0 T v) (h : DataW.Trod enc P W base spare held T v d p) :
    ∃ x y, v = .agg #[.int k x, .int k y] ∧ (Lit.int k x).wf = true ∧ (Lit.int k y).wf = true := by
  obtain ⟨cs, rfl, hsz⟩ := okWide_arr' hT hv
  rw [cT] at hsz
  obtain ⟨r0, r1, rfl⟩ := Joins.array2 hsz
  obtain ⟨f, hf⟩ := h
  obtain ⟨xs, m, _, _, _, hn2, hel⟩ := DataW.trod_array hT hf
  have g0 := hel 0 (by omega)
  have g1 := hel 1 (by omega)
  rw [cE] at g0 g1
  have t0 : (List.take 1 (List.drop (0 * 1) (Value.agg #[r0, r1]).cells.toList)) = [r0] := rfl
  have t1 : (List.take 1 (List.drop (1 * 1) (Value.agg #[r0, r1]).cells.toList)) = [r1] := rfl
  rw [t0, show xs[0]? = some xs[0] from by simp [hn2]] at g0
  rw [t1, show xs[1]? = some xs[1] from by simp [hn2]] at g1
  obtain ⟨x, e1, _, w1⟩ := DataW.trod_int hE g0
  obtain ⟨y, e2, _, w2⟩ := DataW.trod_int hE g1
  simp at e1 e2
  subst e1 e2
  exact ⟨x, y, rfl, w1, w2⟩

/-- An integer that came in lies within its kind. -/
theorem bd_of_wf_u64 {n : Int} (h : (Lit.int .u64 n).wf = true) : 0 ≤ n ∧ n ≤ 18446744073709551615 := by
  simp [Lit.wf, IntKind.min, IntKind.max, IntKind.signed, IntKind.bits] at h; omega
theorem bd_of_wf_u32 {n : Int} (h : (Lit.int .u32 n).wf = true) : 0 ≤ n ∧ n ≤ 4294967295 := by
  simp [Lit.wf, IntKind.min, IntKind.max, IntKind.signed, IntKind.bits] at h; omega
theorem bd_of_wf_u16 {n : Int} (h : (Lit.int .u16 n).wf = true) : 0 ≤ n ∧ n ≤ 65535 := by
  simp [Lit.wf, IntKind.min, IntKind.max, IntKind.signed, IntKind.bits] at h; omega
theorem bd_of_wf_u8 {n : Int} (h : (Lit.int .u8 n).wf = true) : 0 ≤ n ∧ n ≤ 255 := by
  simp [Lit.wf, IntKind.min, IntKind.max, IntKind.signed, IntKind.bits] at h; omega
theorem bd_of_wf_i64 {n : Int} (h : (Lit.int .i64 n).wf = true) : -9223372036854775808 ≤ n ∧ n ≤ 9223372036854775807 := by
  simp [Lit.wf, IntKind.min, IntKind.max, IntKind.signed, IntKind.bits] at h; omega

end Go.Proofs.YtgfjlgaleddoaaaGreatDoor
