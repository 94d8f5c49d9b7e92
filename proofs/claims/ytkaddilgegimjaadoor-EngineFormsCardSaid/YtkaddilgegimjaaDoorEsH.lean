/- The document's Put in one. -/
import Derived.Test.YtkaddilgegimjaaDoorEsG
namespace Go.Proofs.YtkaddilgegimjaaDoor
set_option linter.unusedVariables false
set_option linter.unusedSimpArgs false
open Go.RowKit

theorem rput_ok (oa : Option Addr) (n cp last : Nat) (max : Int) (V : Nat → Ver) (w : World) (hn : n ≤ maxLen) (hl : last < 4294967295) (hV : Vers w oa n V) (hm : ∀ i, i < n → (V i).n < 4294967296) (hcp : n ≤ cp) (hz : oa = none → cp = 0) (od : Option Addr) (dl dc : Nat) (df : Nat → Nat) (cas : Int) (now : Nat)
    (h : SecOk n last max V) (hd : dl ≤ 100) (hc : cas < 0 ∨ cas = (last : Int)) (hB : Bytes w od dl df) (hno : od = none → dl = 0) (hdc : dl ≤ dc) (hdm : dc ≤ maxLen) :
    Calls Tryd.prog 44 #[.agg #[.slice oa n cp, .int .u32 (last : Int), .int .i64 max], .slice od dl dc, .int .i64 cas, .int .u64 (now : Int)] w fun e w' => ∃ v, e = .returned (.tuple #[.agg #[v, .int .u32 ((last + 1 : Nat) : Int), .int .i64 max], .int .i64 0]) ∧ RGV w' w.heap.size v (putN n max) (putV V (fromN n max) (putN n max - 1) ⟨last + 1, dl, df, now, 0⟩) ∧ Below w.heap.size w w' := by
  by_cases hx : (n : Int) = max
  · have e1 : putN n max = n := if_pos hx
    have e2 : fromN n max = 1 := if_pos hx
    rw [e1, e2]
    obtain ⟨m, rfl⟩ : ∃ m, n = m + 1 := ⟨n - 1, by have := h.1.1; omega⟩
    rw [Nat.add_sub_cancel]
    obtain ⟨b, off, _, rfl, _⟩ := hV 0 (by omega)
    by_cases h1 : cp = 1
    · subst h1
      obtain rfl : m = 0 := by omega
      rcases hc with hc | hc
      · exact rput_ng b off last max V w (last + 1) rfl hn hl hV hm od dl dc df cas now h hd hc hB hno hdc hdm (by omega)
      · exact rput_cg b off last max V w (last + 1) rfl hn hl hV hm od dl dc df cas now h hd hc hB hno hdc hdm (by omega)
    · rcases hc with hc | hc
      · exact rput_nf b off m cp last max V w (last + 1) rfl hn hl hV hm hcp h1 od dl dc df cas now h hd hc hB hno hdc hdm hx
      · exact rput_cf b off m cp last max V w (last + 1) rfl hn hl hV hm hcp h1 od dl dc df cas now h hd hc hB hno hdc hdm hx
  · have e1 : putN n max = n + 1 := if_neg hx
    have e2 : fromN n max = 0 := if_neg hx
    rw [e1, e2, Nat.add_sub_cancel]
    have hlt : (n : Int) < max := by have := h.1.2.2.1; omega
    rcases hc with hc | hc
    · exact rput_nm oa n cp last max V w (last + 1) rfl hn hl hV hm hcp hz od dl dc df cas now h hd hc hB hno hdc hdm hlt
    · exact rput_cm oa n cp last max V w (last + 1) rfl hn hl hV hm hcp hz od dl dc df cas now h hd hc hB hno hdc hdm hlt
end Go.Proofs.YtkaddilgegimjaaDoor
