/- EngineSteps, whatever came in. -/
import Derived.Test.YtkaddilgegimjaaDoorEsT
namespace Go.Proofs.YtkaddilgegimjaaDoor
set_option linter.unusedVariables false
set_option linter.unusedSimpArgs false
open Go.RowKit

set_option maxRecDepth 100000 in
set_option maxHeartbeats 1000000 in
theorem est_long (oa : Option Addr) (n cp last : Nat) (max : Int) (V : Nat → Ver) (xa : Option Addr) (la ca : Nat) (fa : Nat → Nat) (ja : Int) (na ta : Nat) (w : World) (hg : Handle w) (hn : n ≤ maxLen) (hn48 : n * 48 ≤ 140737488355328) (hl : last < 4294967296) (hV : Vers w oa n V) (hm : ∀ i, i < n → (V i).n < 4294967296) (hcp : n ≤ cp) (hz : oa = none → cp = 0) (hA : Bytes w xa la fa) (hna : xa = none → la = 0) (hlc : la ≤ ca) (hcm : ca ≤ maxLen) (hj : ja ≤ 9223372036854775807) (h : 400 < la) :
    Calls Tryd.prog 8 #[.agg #[.slice oa n cp, .int .u32 (last : Int), .int .i64 max], .agg #[.slice xa la ca, .int .i64 ja, .int .u32 (na : Int), .int .u64 (ta : Int)]] w fun e w' => e = .returned (.bool true) ∧ Below w.heap.size w w' := by
  have HN := Lib.hid hn
  have HV := Lib.hid hV
  have g0 : (400 : Int) < (la : Int) := by omega
  have F0 : Fr ((w.alloc (.cells #[.slice oa n cp, .int .u32 (last : Int), .int .i64 max] 73)).alloc (.cells #[.slice xa la ca, .int .i64 ja, .int .u32 (na : Int), .int .u64 (ta : Int)] 75)) [(w.heap.size + 1, #[.slice xa la ca, .int .i64 ja, .int .u32 (na : Int), .int .u64 (ta : Int)], 75), (w.heap.size, #[.slice oa n cp, .int .u32 (last : Int), .int .i64 max], 73)] := by simpa using ((Fr.nil w).new #[.slice oa n cp, .int .u32 (last : Int), .int .i64 max] 73).new #[.slice xa la ca, .int .i64 ja, .int .u32 (na : Int), .int .u64 (ta : Int)] 75
  have N0 : Wn w ((w.alloc (.cells #[.slice oa n cp, .int .u32 (last : Int), .int .i64 max] 73)).alloc (.cells #[.slice xa la ca, .int .i64 ja, .int .u32 (na : Int), .int .u64 (ta : Int)] 75)) := ((Wn.new hg).alloc _).alloc _
  have HF0 := Lib.hid F0
  have HR0 := Lib.hid N0
  clear hn hn48 hl hV hm hcp hz hA hna hlc hcm hj h F0 N0 hg
  have s00 : ((w.alloc (.cells #[.slice oa n cp, .int .u32 (last : Int), .int .i64 max] 73)).alloc (.cells #[.slice xa la ca, .int .i64 ja, .int .u32 (na : Int), .int .u64 (ta : Int)] 75)).cell? ⟨w.heap.size, 0, none⟩ = some (.slice oa n cp) := HF0.out.cell 1 0 rfl rfl
  have s01 : ((w.alloc (.cells #[.slice oa n cp, .int .u32 (last : Int), .int .i64 max] 73)).alloc (.cells #[.slice xa la ca, .int .i64 ja, .int .u32 (na : Int), .int .u64 (ta : Int)] 75)).cell? ⟨w.heap.size, 1, none⟩ = some (.int .u32 (last : Int)) := HF0.out.cell 1 1 rfl rfl
  have s02 : ((w.alloc (.cells #[.slice oa n cp, .int .u32 (last : Int), .int .i64 max] 73)).alloc (.cells #[.slice xa la ca, .int .i64 ja, .int .u32 (na : Int), .int .u64 (ta : Int)] 75)).cell? ⟨w.heap.size, 2, none⟩ = some (.int .i64 max) := HF0.out.cell 1 2 rfl rfl
  go_enter Tryd.func8, Tryd.ntmps8
  go_wp2_with fail
  refine (big_any oa n cp (last : Int) max V _ (HV.out.later HR0.out.bel) HN.out).mono ?_
  rintro e w1 ⟨r, rfl, hb1⟩
  have HR1 := Lib.hid (HR0.out.step hb1)
  have HF1 := Lib.hid (HF0.out.later hb1)
  clear hb1 HR0 HF0 s00 s01 s02
  have a10 : w1.cell? ⟨w.heap.size + 1, 0, none⟩ = some (.slice xa la ca) := HF1.out.cell 0 0 rfl rfl
  have a11 : w1.cell? ⟨w.heap.size + 1, 1, none⟩ = some (.int .i64 ja) := HF1.out.cell 0 1 rfl rfl
  have a12 : w1.cell? ⟨w.heap.size + 1, 2, none⟩ = some (.int .u32 (na : Int)) := HF1.out.cell 0 2 rfl rfl
  have a13 : w1.cell? ⟨w.heap.size + 1, 3, none⟩ = some (.int .u64 (ta : Int)) := HF1.out.cell 0 3 rfl rfl
  have s10 : w1.cell? ⟨w.heap.size, 0, none⟩ = some (.slice oa n cp) := HF1.out.cell 1 0 rfl rfl
  have s11 : w1.cell? ⟨w.heap.size, 1, none⟩ = some (.int .u32 (last : Int)) := HF1.out.cell 1 1 rfl rfl
  have s12 : w1.cell? ⟨w.heap.size, 2, none⟩ = some (.int .i64 max) := HF1.out.cell 1 2 rfl rfl
  cases r
  · go_wp2_with fail
    refine (sure30_any _ HR1.out.handle).mono ?_
    rintro e w2 ⟨rfl, hb2⟩
    go_wp2_with fail
    go_ret
    exact ⟨rfl, (HR1.out.step hb2).bel⟩
  · go_wp2_with fail
    refine (sure30_any _ HR1.out.handle).mono ?_
    rintro e w2 ⟨rfl, hb2⟩
    go_wp2_with fail
    go_ret
    exact ⟨rfl, (HR1.out.step hb2).bel⟩
theorem est_any (oa : Option Addr) (n cp last : Nat) (max : Int) (V : Nat → Ver) (xa : Option Addr) (la ca : Nat) (fa : Nat → Nat) (ja : Int) (na ta : Nat) (w : World) (hg : Handle w) (hn : n ≤ maxLen) (hn48 : n * 48 ≤ 140737488355328) (hl : last < 4294967296) (hV : Vers w oa n V) (hm : ∀ i, i < n → (V i).n < 4294967296) (hcp : n ≤ cp) (hz : oa = none → cp = 0) (hA : Bytes w xa la fa) (hna : xa = none → la = 0) (hlc : la ≤ ca) (hcm : ca ≤ maxLen) (hj : ja ≤ 9223372036854775807) :
    Calls Tryd.prog 8 #[.agg #[.slice oa n cp, .int .u32 (last : Int), .int .i64 max], .agg #[.slice xa la ca, .int .i64 ja, .int .u32 (na : Int), .int .u64 (ta : Int)]] w fun e w' => e = .returned (.bool true) ∧ Below w.heap.size w w' := by
  by_cases h : la ≤ 400
  · exact est_main oa n cp last max V xa la ca fa ja na ta w hg hn hn48 hl hV hm hcp hz hA hna hlc hcm hj h (Classical.em _)
  · exact est_long oa n cp last max V xa la ca fa ja na ta w hg hn hn48 hl hV hm hcp hz hA hna hlc hcm hj (by omega)
end Go.Proofs.YtkaddilgegimjaaDoor
