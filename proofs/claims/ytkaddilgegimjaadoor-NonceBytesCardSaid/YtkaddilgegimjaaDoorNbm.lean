/- NonceBytes, whatever comes in. -/
import Derived.Test.YtkaddilgegimjaaDoorNbl
namespace Go.Proofs.YtkaddilgegimjaaDoor
set_option linter.unusedVariables false
set_option linter.unusedSimpArgs false
open Go.RowKit

theorem nbytes_any (oa : Option Addr) (n cp : Nat) (f : Nat → Nat) (t1 t2 n1 n2 : Int) (w : World) (hg : Handle w) (hb : Bytes w oa n f) (hc : n ≤ cp)
    (ht1 : 0 ≤ t1 ∧ t1 ≤ 4294967295) (ht2 : 0 ≤ t2 ∧ t2 ≤ 4294967295) (hn1 : 0 ≤ n1 ∧ n1 ≤ 18446744073709551615) (hn2 : 0 ≤ n2 ∧ n2 ≤ 18446744073709551615) :
    Calls Tryd.prog 4 #[.slice oa n cp, .agg #[.int .u32 t1, .int .u32 t2], .agg #[.int .u64 n1, .int .u64 n2]] w fun e w' => e = .returned (.bool true) ∧ Below w.heap.size w w' := by
  by_cases h100 : 100 < n
  · exact nbytes_big oa n cp t1 t2 n1 n2 w hg h100
  obtain ⟨t1, rfl⟩ := Int.eq_ofNat_of_zero_le ht1.1
  obtain ⟨t2, rfl⟩ := Int.eq_ofNat_of_zero_le ht2.1
  obtain ⟨n1, rfl⟩ := Int.eq_ofNat_of_zero_le hn1.1
  obtain ⟨n2, rfl⟩ := Int.eq_ofNat_of_zero_le hn2.1
  have a1 : t1 < 4294967296 := by omega
  have a2 : t2 < 4294967296 := by omega
  have a3 : n1 < 18446744073709551616 := by omega
  have a4 : n2 < 18446744073709551616 := by omega
  by_cases h12 : n = 12
  · subst h12
    obtain ⟨_, cb, co, rfl, _⟩ := hb 0 (by decide)
    by_cases e1 : t1 = t2
    · subst e1
      by_cases e2 : n1 = n2
      · subst e2; exact nbytes_ok_eq cb co cp t1 n1 w hg f hb hc a1 a3
      · exact nbytes_ok_nen cb co cp t1 n1 n2 w hg f hb hc a1 a3 a4 e2
    · exact nbytes_ok_net cb co cp t1 t2 n1 n2 w hg f hb hc a1 a2 a3 a4 e1
  · by_cases e1 : t1 = t2
    · subst e1
      by_cases e2 : n1 = n2
      · subst e2; exact nbytes_bad_eq oa n cp t1 n1 w hg (by omega) h12 a1 a3
      · exact nbytes_bad_nen oa n cp t1 n1 n2 w hg (by omega) h12 a1 a3 a4 e2
    · exact nbytes_bad_net oa n cp t1 t2 n1 n2 w hg (by omega) h12 a1 a2 a3 a4 e1
end Go.Proofs.YtkaddilgegimjaaDoor
