/- The walk of EngineCas. -/
import Derived.Test.YtkaddilgegimjaaDoorEnA
import Derived.Test.YtkaddilgegimjaaDoorEn5
namespace Go.Proofs.YtkaddilgegimjaaDoor
set_option linter.unusedVariables false
set_option linter.unusedSimpArgs false
open Go.RowKit

set_option maxRecDepth 100000 in
set_option maxHeartbeats 8000000 in
theorem cas_long (oa : Option Addr) (n cp last : Nat) (max : Int) (V : Nat → Ver) (xa xb : Option Addr) (la ca lb cb : Nat) (fa fb : Nat → Nat) (ja na ta jb nb tb : Int) (w : World) (hg : Handle w) (hn : n ≤ maxLen) (hn48 : n * 48 ≤ 140737488355328) (hl : last < 4294967296) (hV : Vers w oa n V) (hA : Bytes w xa la fa) (hB : Bytes w xb lb fb) (hna : xa = none → la = 0) (hnb : xb = none → lb = 0) (h : 100 < la) :
    Calls Tryd.prog 11 #[.agg #[.slice oa n cp, .int .u32 (last : Int), .int .i64 max], .agg #[.slice xa la ca, .int .i64 ja, .int .u32 na, .int .u64 ta], .agg #[.slice xb lb cb, .int .i64 jb, .int .u32 nb, .int .u64 tb]] w fun e w' => e = .returned (.bool true) ∧ Below w.heap.size w w' := by
  have HN := Lib.hid hn
  have HV := Lib.hid hV
  have HA := Lib.hid hA
  have HB := Lib.hid hB
  have HNa := Lib.hid hna
  have HNb := Lib.hid hnb
  have H48 := Lib.hid hn48
  have HLs := Lib.hid hl
  have F0 : Fr (((w.alloc (.cells #[.slice oa n cp, .int .u32 (last : Int), .int .i64 max] 73)).alloc (.cells #[.slice xa la ca, .int .i64 ja, .int .u32 na, .int .u64 ta] 75)).alloc (.cells #[.slice xb lb cb, .int .i64 jb, .int .u32 nb, .int .u64 tb] 75)) [(w.heap.size + 1 + 1, #[.slice xb lb cb, .int .i64 jb, .int .u32 nb, .int .u64 tb], 75), (w.heap.size + 1, #[.slice xa la ca, .int .i64 ja, .int .u32 na, .int .u64 ta], 75), (w.heap.size, #[.slice oa n cp, .int .u32 (last : Int), .int .i64 max], 73)] := by simpa using (((Fr.nil w).new #[.slice oa n cp, .int .u32 (last : Int), .int .i64 max] 73).new #[.slice xa la ca, .int .i64 ja, .int .u32 na, .int .u64 ta] 75).new #[.slice xb lb cb, .int .i64 jb, .int .u32 nb, .int .u64 tb] 75
  have N0 : Wn w (((w.alloc (.cells #[.slice oa n cp, .int .u32 (last : Int), .int .i64 max] 73)).alloc (.cells #[.slice xa la ca, .int .i64 ja, .int .u32 na, .int .u64 ta] 75)).alloc (.cells #[.slice xb lb cb, .int .i64 jb, .int .u32 nb, .int .u64 tb] 75)) := (((Wn.new hg).alloc _).alloc _).alloc _
  have HF0 := Lib.hid F0
  have HR0 := Lib.hid N0
  have g1 : (100 : Int) < (la : Int) := by omega
  clear hn hn48 hl hV hA hB hna hnb h F0 N0 hg
  go_enter Tryd.func11, Tryd.ntmps11
  go_wp2_with fail
  refine (give_any oa n cp (last : Int) max V _ (HV.out.later HR0.out.bel) H48.out).mono ?_
  rintro e w1 ⟨vx, rfl, hG1, hb1⟩
  obtain ⟨ox, cx, rfl, hcx, hcm, hVx⟩ := hG1.vers
  have R1 := (HR0.out.step hb1).alloc (.cells #[.slice ox n cx, .int .u32 (last : Int), .int .i64 max] 79)
  have HR1 := Lib.hid R1
  have F1 := (HF0.out.later hb1).new #[.slice ox n cx, .int .u32 (last : Int), .int .i64 max] 79
  have HF1 := Lib.hid F1
  have HVx1 := Lib.hid ((hVx).later ((Below.refl _ _).alloc (Nat.le_refl _) (.cells #[.slice ox n cx, .int .u32 (last : Int), .int .i64 max] 79)))
  clear R1 F1 hb1 HR0 HF0 
  have p10 : (w1.alloc (.cells #[.slice ox n cx, .int .u32 (last : Int), .int .i64 max] 79)).cell? ⟨w.heap.size, 0, none⟩ = some (.slice oa n cp) := HF1.out.cell 3 0 rfl rfl
  have p11 : (w1.alloc (.cells #[.slice ox n cx, .int .u32 (last : Int), .int .i64 max] 79)).cell? ⟨w.heap.size, 1, none⟩ = some (.int .u32 (last : Int)) := HF1.out.cell 3 1 rfl rfl
  have p12 : (w1.alloc (.cells #[.slice ox n cx, .int .u32 (last : Int), .int .i64 max] 79)).cell? ⟨w.heap.size, 2, none⟩ = some (.int .i64 max) := HF1.out.cell 3 2 rfl rfl
  clear hG1 hVx hcm
  go_wp2_with fail
  refine (big_any oa n cp (last : Int) max V _ (HV.out.later HR1.out.bel) HN.out).mono ?_
  rintro e w2 ⟨r, rfl, hb2⟩
  have HR2 := Lib.hid (HR1.out.step hb2)
  have HF2 := Lib.hid (HF1.out.later hb2)
  have HVx2 := Lib.hid (HVx1.out.later hb2)
  clear hb2 HR1 HF1 HVx1
  clear p10 p11 p12
  have a20 : w2.cell? ⟨w.heap.size + 1, 0, none⟩ = some (.slice xa la ca) := HF2.out.cell 2 0 rfl rfl
  have a21 : w2.cell? ⟨w.heap.size + 1, 1, none⟩ = some (.int .i64 ja) := HF2.out.cell 2 1 rfl rfl
  have a22 : w2.cell? ⟨w.heap.size + 1, 2, none⟩ = some (.int .u32 na) := HF2.out.cell 2 2 rfl rfl
  have a23 : w2.cell? ⟨w.heap.size + 1, 3, none⟩ = some (.int .u64 ta) := HF2.out.cell 2 3 rfl rfl
  have b20 : w2.cell? ⟨w.heap.size + 1 + 1, 0, none⟩ = some (.slice xb lb cb) := HF2.out.cell 1 0 rfl rfl
  have b21 : w2.cell? ⟨w.heap.size + 1 + 1, 1, none⟩ = some (.int .i64 jb) := HF2.out.cell 1 1 rfl rfl
  have b22 : w2.cell? ⟨w.heap.size + 1 + 1, 2, none⟩ = some (.int .u32 nb) := HF2.out.cell 1 2 rfl rfl
  have b23 : w2.cell? ⟨w.heap.size + 1 + 1, 3, none⟩ = some (.int .u64 tb) := HF2.out.cell 1 3 rfl rfl
  have x20 : w2.cell? ⟨w1.heap.size, 0, none⟩ = some (.slice ox n cx) := HF2.out.cell 0 0 rfl rfl
  have x21 : w2.cell? ⟨w1.heap.size, 1, none⟩ = some (.int .u32 (last : Int)) := HF2.out.cell 0 1 rfl rfl
  have x22 : w2.cell? ⟨w1.heap.size, 2, none⟩ = some (.int .i64 max) := HF2.out.cell 0 2 rfl rfl
  cases r
  · skip
    go_wp2_with fail
    refine (sure30_any _ HR2.out.handle).mono ?_
    rintro e w3 ⟨rfl, hb3⟩
    go_wp2_with fail
    go_ret
    exact ⟨rfl, (HR2.out.step hb3).bel⟩
  · go_wp2_with fail
    refine (sure30_any _ HR2.out.handle).mono ?_
    rintro e w3 ⟨rfl, hb3⟩
    go_wp2_with fail
    go_ret
    exact ⟨rfl, (HR2.out.step hb3).bel⟩
set_option maxRecDepth 100000 in
set_option maxHeartbeats 8000000 in
theorem cas_longb (oa : Option Addr) (n cp last : Nat) (max : Int) (V : Nat → Ver) (xa xb : Option Addr) (la ca lb cb : Nat) (fa fb : Nat → Nat) (ja na ta jb nb tb : Int) (w : World) (hg : Handle w) (hn : n ≤ maxLen) (hn48 : n * 48 ≤ 140737488355328) (hl : last < 4294967296) (hV : Vers w oa n V) (hA : Bytes w xa la fa) (hB : Bytes w xb lb fb) (hna : xa = none → la = 0) (hnb : xb = none → lb = 0) (h1 : la ≤ 100) (h : 100 < lb) :
    Calls Tryd.prog 11 #[.agg #[.slice oa n cp, .int .u32 (last : Int), .int .i64 max], .agg #[.slice xa la ca, .int .i64 ja, .int .u32 na, .int .u64 ta], .agg #[.slice xb lb cb, .int .i64 jb, .int .u32 nb, .int .u64 tb]] w fun e w' => e = .returned (.bool true) ∧ Below w.heap.size w w' := by
  have HN := Lib.hid hn
  have HV := Lib.hid hV
  have HA := Lib.hid hA
  have HB := Lib.hid hB
  have HNa := Lib.hid hna
  have HNb := Lib.hid hnb
  have H48 := Lib.hid hn48
  have HLs := Lib.hid hl
  have F0 : Fr (((w.alloc (.cells #[.slice oa n cp, .int .u32 (last : Int), .int .i64 max] 73)).alloc (.cells #[.slice xa la ca, .int .i64 ja, .int .u32 na, .int .u64 ta] 75)).alloc (.cells #[.slice xb lb cb, .int .i64 jb, .int .u32 nb, .int .u64 tb] 75)) [(w.heap.size + 1 + 1, #[.slice xb lb cb, .int .i64 jb, .int .u32 nb, .int .u64 tb], 75), (w.heap.size + 1, #[.slice xa la ca, .int .i64 ja, .int .u32 na, .int .u64 ta], 75), (w.heap.size, #[.slice oa n cp, .int .u32 (last : Int), .int .i64 max], 73)] := by simpa using (((Fr.nil w).new #[.slice oa n cp, .int .u32 (last : Int), .int .i64 max] 73).new #[.slice xa la ca, .int .i64 ja, .int .u32 na, .int .u64 ta] 75).new #[.slice xb lb cb, .int .i64 jb, .int .u32 nb, .int .u64 tb] 75
  have N0 : Wn w (((w.alloc (.cells #[.slice oa n cp, .int .u32 (last : Int), .int .i64 max] 73)).alloc (.cells #[.slice xa la ca, .int .i64 ja, .int .u32 na, .int .u64 ta] 75)).alloc (.cells #[.slice xb lb cb, .int .i64 jb, .int .u32 nb, .int .u64 tb] 75)) := (((Wn.new hg).alloc _).alloc _).alloc _
  have HF0 := Lib.hid F0
  have HR0 := Lib.hid N0
  have g0 : (la : Int) ≤ 100 := by omega
  have g1 : (100 : Int) < (lb : Int) := by omega
  clear h1
  clear hn hn48 hl hV hA hB hna hnb h F0 N0 hg
  go_enter Tryd.func11, Tryd.ntmps11
  go_wp2_with fail
  refine (give_any oa n cp (last : Int) max V _ (HV.out.later HR0.out.bel) H48.out).mono ?_
  rintro e w1 ⟨vx, rfl, hG1, hb1⟩
  obtain ⟨ox, cx, rfl, hcx, hcm, hVx⟩ := hG1.vers
  have R1 := (HR0.out.step hb1).alloc (.cells #[.slice ox n cx, .int .u32 (last : Int), .int .i64 max] 79)
  have HR1 := Lib.hid R1
  have F1 := (HF0.out.later hb1).new #[.slice ox n cx, .int .u32 (last : Int), .int .i64 max] 79
  have HF1 := Lib.hid F1
  have HVx1 := Lib.hid ((hVx).later ((Below.refl _ _).alloc (Nat.le_refl _) (.cells #[.slice ox n cx, .int .u32 (last : Int), .int .i64 max] 79)))
  clear R1 F1 hb1 HR0 HF0 
  have p10 : (w1.alloc (.cells #[.slice ox n cx, .int .u32 (last : Int), .int .i64 max] 79)).cell? ⟨w.heap.size, 0, none⟩ = some (.slice oa n cp) := HF1.out.cell 3 0 rfl rfl
  have p11 : (w1.alloc (.cells #[.slice ox n cx, .int .u32 (last : Int), .int .i64 max] 79)).cell? ⟨w.heap.size, 1, none⟩ = some (.int .u32 (last : Int)) := HF1.out.cell 3 1 rfl rfl
  have p12 : (w1.alloc (.cells #[.slice ox n cx, .int .u32 (last : Int), .int .i64 max] 79)).cell? ⟨w.heap.size, 2, none⟩ = some (.int .i64 max) := HF1.out.cell 3 2 rfl rfl
  clear hG1 hVx hcm
  go_wp2_with fail
  refine (big_any oa n cp (last : Int) max V _ (HV.out.later HR1.out.bel) HN.out).mono ?_
  rintro e w2 ⟨r, rfl, hb2⟩
  have HR2 := Lib.hid (HR1.out.step hb2)
  have HF2 := Lib.hid (HF1.out.later hb2)
  have HVx2 := Lib.hid (HVx1.out.later hb2)
  clear hb2 HR1 HF1 HVx1
  clear p10 p11 p12
  have a20 : w2.cell? ⟨w.heap.size + 1, 0, none⟩ = some (.slice xa la ca) := HF2.out.cell 2 0 rfl rfl
  have a21 : w2.cell? ⟨w.heap.size + 1, 1, none⟩ = some (.int .i64 ja) := HF2.out.cell 2 1 rfl rfl
  have a22 : w2.cell? ⟨w.heap.size + 1, 2, none⟩ = some (.int .u32 na) := HF2.out.cell 2 2 rfl rfl
  have a23 : w2.cell? ⟨w.heap.size + 1, 3, none⟩ = some (.int .u64 ta) := HF2.out.cell 2 3 rfl rfl
  have b20 : w2.cell? ⟨w.heap.size + 1 + 1, 0, none⟩ = some (.slice xb lb cb) := HF2.out.cell 1 0 rfl rfl
  have b21 : w2.cell? ⟨w.heap.size + 1 + 1, 1, none⟩ = some (.int .i64 jb) := HF2.out.cell 1 1 rfl rfl
  have b22 : w2.cell? ⟨w.heap.size + 1 + 1, 2, none⟩ = some (.int .u32 nb) := HF2.out.cell 1 2 rfl rfl
  have b23 : w2.cell? ⟨w.heap.size + 1 + 1, 3, none⟩ = some (.int .u64 tb) := HF2.out.cell 1 3 rfl rfl
  have x20 : w2.cell? ⟨w1.heap.size, 0, none⟩ = some (.slice ox n cx) := HF2.out.cell 0 0 rfl rfl
  have x21 : w2.cell? ⟨w1.heap.size, 1, none⟩ = some (.int .u32 (last : Int)) := HF2.out.cell 0 1 rfl rfl
  have x22 : w2.cell? ⟨w1.heap.size, 2, none⟩ = some (.int .i64 max) := HF2.out.cell 0 2 rfl rfl
  cases r
  · skip
    go_wp2_with fail
    refine (sure30_any _ HR2.out.handle).mono ?_
    rintro e w3 ⟨rfl, hb3⟩
    go_wp2_with fail
    go_ret
    exact ⟨rfl, (HR2.out.step hb3).bel⟩
  · go_wp2_with fail
    refine (sure30_any _ HR2.out.handle).mono ?_
    rintro e w3 ⟨rfl, hb3⟩
    go_wp2_with fail
    go_ret
    exact ⟨rfl, (HR2.out.step hb3).bel⟩
set_option maxRecDepth 100000 in
set_option maxHeartbeats 8000000 in
theorem cas_bad (oa : Option Addr) (n cp last : Nat) (max : Int) (V : Nat → Ver) (xa xb : Option Addr) (la ca lb cb : Nat) (fa fb : Nat → Nat) (ja na ta jb nb tb : Int) (w : World) (hg : Handle w) (hn : n ≤ maxLen) (hn48 : n * 48 ≤ 140737488355328) (hl : last < 4294967296) (hV : Vers w oa n V) (hA : Bytes w xa la fa) (hB : Bytes w xb lb fb) (hna : xa = none → la = 0) (hnb : xb = none → lb = 0) (h1 : la ≤ 100) (h2 : lb ≤ 100) (h : ¬ SecOk n last max V) :
    Calls Tryd.prog 11 #[.agg #[.slice oa n cp, .int .u32 (last : Int), .int .i64 max], .agg #[.slice xa la ca, .int .i64 ja, .int .u32 na, .int .u64 ta], .agg #[.slice xb lb cb, .int .i64 jb, .int .u32 nb, .int .u64 tb]] w fun e w' => e = .returned (.bool true) ∧ Below w.heap.size w w' := by
  have HN := Lib.hid hn
  have HV := Lib.hid hV
  have HA := Lib.hid hA
  have HB := Lib.hid hB
  have HNa := Lib.hid hna
  have HNb := Lib.hid hnb
  have H48 := Lib.hid hn48
  have HLs := Lib.hid hl
  have F0 : Fr (((w.alloc (.cells #[.slice oa n cp, .int .u32 (last : Int), .int .i64 max] 73)).alloc (.cells #[.slice xa la ca, .int .i64 ja, .int .u32 na, .int .u64 ta] 75)).alloc (.cells #[.slice xb lb cb, .int .i64 jb, .int .u32 nb, .int .u64 tb] 75)) [(w.heap.size + 1 + 1, #[.slice xb lb cb, .int .i64 jb, .int .u32 nb, .int .u64 tb], 75), (w.heap.size + 1, #[.slice xa la ca, .int .i64 ja, .int .u32 na, .int .u64 ta], 75), (w.heap.size, #[.slice oa n cp, .int .u32 (last : Int), .int .i64 max], 73)] := by simpa using (((Fr.nil w).new #[.slice oa n cp, .int .u32 (last : Int), .int .i64 max] 73).new #[.slice xa la ca, .int .i64 ja, .int .u32 na, .int .u64 ta] 75).new #[.slice xb lb cb, .int .i64 jb, .int .u32 nb, .int .u64 tb] 75
  have N0 : Wn w (((w.alloc (.cells #[.slice oa n cp, .int .u32 (last : Int), .int .i64 max] 73)).alloc (.cells #[.slice xa la ca, .int .i64 ja, .int .u32 na, .int .u64 ta] 75)).alloc (.cells #[.slice xb lb cb, .int .i64 jb, .int .u32 nb, .int .u64 tb] 75)) := (((Wn.new hg).alloc _).alloc _).alloc _
  have HF0 := Lib.hid F0
  have HR0 := Lib.hid N0
  have g0 : (la : Int) ≤ 100 := by omega
  have g1 : (lb : Int) ≤ 100 := by omega
  have HS := Lib.hid h
  clear h1 h2
  clear hn hn48 hl hV hA hB hna hnb h F0 N0 hg
  go_enter Tryd.func11, Tryd.ntmps11
  go_wp2_with fail
  refine (give_any oa n cp (last : Int) max V _ (HV.out.later HR0.out.bel) H48.out).mono ?_
  rintro e w1 ⟨vx, rfl, hG1, hb1⟩
  obtain ⟨ox, cx, rfl, hcx, hcm, hVx⟩ := hG1.vers
  have R1 := (HR0.out.step hb1).alloc (.cells #[.slice ox n cx, .int .u32 (last : Int), .int .i64 max] 79)
  have HR1 := Lib.hid R1
  have F1 := (HF0.out.later hb1).new #[.slice ox n cx, .int .u32 (last : Int), .int .i64 max] 79
  have HF1 := Lib.hid F1
  have HVx1 := Lib.hid ((hVx).later ((Below.refl _ _).alloc (Nat.le_refl _) (.cells #[.slice ox n cx, .int .u32 (last : Int), .int .i64 max] 79)))
  clear R1 F1 hb1 HR0 HF0 
  have p10 : (w1.alloc (.cells #[.slice ox n cx, .int .u32 (last : Int), .int .i64 max] 79)).cell? ⟨w.heap.size, 0, none⟩ = some (.slice oa n cp) := HF1.out.cell 3 0 rfl rfl
  have p11 : (w1.alloc (.cells #[.slice ox n cx, .int .u32 (last : Int), .int .i64 max] 79)).cell? ⟨w.heap.size, 1, none⟩ = some (.int .u32 (last : Int)) := HF1.out.cell 3 1 rfl rfl
  have p12 : (w1.alloc (.cells #[.slice ox n cx, .int .u32 (last : Int), .int .i64 max] 79)).cell? ⟨w.heap.size, 2, none⟩ = some (.int .i64 max) := HF1.out.cell 3 2 rfl rfl
  clear hG1 hVx hcm
  go_wp2_with fail
  refine (big_any oa n cp (last : Int) max V _ (HV.out.later HR1.out.bel) HN.out).mono ?_
  rintro e w2 ⟨r, rfl, hb2⟩
  have HR2 := Lib.hid (HR1.out.step hb2)
  have HF2 := Lib.hid (HF1.out.later hb2)
  have HVx2 := Lib.hid (HVx1.out.later hb2)
  clear hb2 HR1 HF1 HVx1
  clear p10 p11 p12
  have a20 : w2.cell? ⟨w.heap.size + 1, 0, none⟩ = some (.slice xa la ca) := HF2.out.cell 2 0 rfl rfl
  have a21 : w2.cell? ⟨w.heap.size + 1, 1, none⟩ = some (.int .i64 ja) := HF2.out.cell 2 1 rfl rfl
  have a22 : w2.cell? ⟨w.heap.size + 1, 2, none⟩ = some (.int .u32 na) := HF2.out.cell 2 2 rfl rfl
  have a23 : w2.cell? ⟨w.heap.size + 1, 3, none⟩ = some (.int .u64 ta) := HF2.out.cell 2 3 rfl rfl
  have b20 : w2.cell? ⟨w.heap.size + 1 + 1, 0, none⟩ = some (.slice xb lb cb) := HF2.out.cell 1 0 rfl rfl
  have b21 : w2.cell? ⟨w.heap.size + 1 + 1, 1, none⟩ = some (.int .i64 jb) := HF2.out.cell 1 1 rfl rfl
  have b22 : w2.cell? ⟨w.heap.size + 1 + 1, 2, none⟩ = some (.int .u32 nb) := HF2.out.cell 1 2 rfl rfl
  have b23 : w2.cell? ⟨w.heap.size + 1 + 1, 3, none⟩ = some (.int .u64 tb) := HF2.out.cell 1 3 rfl rfl
  have x20 : w2.cell? ⟨w1.heap.size, 0, none⟩ = some (.slice ox n cx) := HF2.out.cell 0 0 rfl rfl
  have x21 : w2.cell? ⟨w1.heap.size, 1, none⟩ = some (.int .u32 (last : Int)) := HF2.out.cell 0 1 rfl rfl
  have x22 : w2.cell? ⟨w1.heap.size, 2, none⟩ = some (.int .i64 max) := HF2.out.cell 0 2 rfl rfl
  cases r
  · skip
    go_wp2_with fail
    refine (check_bad ox n cx last max V _ HN.out HLs.out HVx2.out HS.out).mono ?_
    rintro e w3 ⟨rfl, hb3⟩
    have HR3 := Lib.hid (HR2.out.step hb3)
    have HF3 := Lib.hid (HF2.out.later hb3)
    have HVx3 := Lib.hid (HVx2.out.later hb3)
    clear hb3 HR2 HF2 HVx2
    clear a20 a21 a22 a23 b20 b21 b22 b23 x20 x21 x22
    go_wp2_with fail
    refine (sure30_any _ HR3.out.handle).mono ?_
    rintro e w4 ⟨rfl, hb4⟩
    go_wp2_with fail
    go_ret
    exact ⟨rfl, (HR3.out.step hb4).bel⟩
  · go_wp2_with fail
    refine (sure30_any _ HR2.out.handle).mono ?_
    rintro e w3 ⟨rfl, hb3⟩
    go_wp2_with fail
    go_ret
    exact ⟨rfl, (HR2.out.step hb3).bel⟩
set_option maxRecDepth 100000 in
set_option maxHeartbeats 8000000 in
theorem cas_far (oa : Option Addr) (n cp last : Nat) (max : Int) (V : Nat → Ver) (xa xb : Option Addr) (la ca lb cb : Nat) (fa fb : Nat → Nat) (ja na ta jb nb tb : Int) (w : World) (hg : Handle w) (hn : n ≤ maxLen) (hn48 : n * 48 ≤ 140737488355328) (hl : last < 4294967296) (hV : Vers w oa n V) (hA : Bytes w xa la fa) (hB : Bytes w xb lb fb) (hna : xa = none → la = 0) (hnb : xb = none → lb = 0) (h1 : la ≤ 100) (h2 : lb ≤ 100) (h3 : SecOk n last max V) (h : 2147483648 < last) :
    Calls Tryd.prog 11 #[.agg #[.slice oa n cp, .int .u32 (last : Int), .int .i64 max], .agg #[.slice xa la ca, .int .i64 ja, .int .u32 na, .int .u64 ta], .agg #[.slice xb lb cb, .int .i64 jb, .int .u32 nb, .int .u64 tb]] w fun e w' => e = .returned (.bool true) ∧ Below w.heap.size w w' := by
  have HN := Lib.hid hn
  have HV := Lib.hid hV
  have HA := Lib.hid hA
  have HB := Lib.hid hB
  have HNa := Lib.hid hna
  have HNb := Lib.hid hnb
  have H48 := Lib.hid hn48
  have HLs := Lib.hid hl
  have F0 : Fr (((w.alloc (.cells #[.slice oa n cp, .int .u32 (last : Int), .int .i64 max] 73)).alloc (.cells #[.slice xa la ca, .int .i64 ja, .int .u32 na, .int .u64 ta] 75)).alloc (.cells #[.slice xb lb cb, .int .i64 jb, .int .u32 nb, .int .u64 tb] 75)) [(w.heap.size + 1 + 1, #[.slice xb lb cb, .int .i64 jb, .int .u32 nb, .int .u64 tb], 75), (w.heap.size + 1, #[.slice xa la ca, .int .i64 ja, .int .u32 na, .int .u64 ta], 75), (w.heap.size, #[.slice oa n cp, .int .u32 (last : Int), .int .i64 max], 73)] := by simpa using (((Fr.nil w).new #[.slice oa n cp, .int .u32 (last : Int), .int .i64 max] 73).new #[.slice xa la ca, .int .i64 ja, .int .u32 na, .int .u64 ta] 75).new #[.slice xb lb cb, .int .i64 jb, .int .u32 nb, .int .u64 tb] 75
  have N0 : Wn w (((w.alloc (.cells #[.slice oa n cp, .int .u32 (last : Int), .int .i64 max] 73)).alloc (.cells #[.slice xa la ca, .int .i64 ja, .int .u32 na, .int .u64 ta] 75)).alloc (.cells #[.slice xb lb cb, .int .i64 jb, .int .u32 nb, .int .u64 tb] 75)) := (((Wn.new hg).alloc _).alloc _).alloc _
  have HF0 := Lib.hid F0
  have HR0 := Lib.hid N0
  have g0 : (la : Int) ≤ 100 := by omega
  have g1 : (lb : Int) ≤ 100 := by omega
  have HS := Lib.hid h3
  have g2 : (2147483648 : Int) < (last : Int) := by omega
  clear h1 h2 h3
  clear hn hn48 hl hV hA hB hna hnb h F0 N0 hg
  go_enter Tryd.func11, Tryd.ntmps11
  go_wp2_with fail
  refine (give_any oa n cp (last : Int) max V _ (HV.out.later HR0.out.bel) H48.out).mono ?_
  rintro e w1 ⟨vx, rfl, hG1, hb1⟩
  obtain ⟨ox, cx, rfl, hcx, hcm, hVx⟩ := hG1.vers
  have R1 := (HR0.out.step hb1).alloc (.cells #[.slice ox n cx, .int .u32 (last : Int), .int .i64 max] 79)
  have HR1 := Lib.hid R1
  have F1 := (HF0.out.later hb1).new #[.slice ox n cx, .int .u32 (last : Int), .int .i64 max] 79
  have HF1 := Lib.hid F1
  have HVx1 := Lib.hid ((hVx).later ((Below.refl _ _).alloc (Nat.le_refl _) (.cells #[.slice ox n cx, .int .u32 (last : Int), .int .i64 max] 79)))
  clear R1 F1 hb1 HR0 HF0 
  have p10 : (w1.alloc (.cells #[.slice ox n cx, .int .u32 (last : Int), .int .i64 max] 79)).cell? ⟨w.heap.size, 0, none⟩ = some (.slice oa n cp) := HF1.out.cell 3 0 rfl rfl
  have p11 : (w1.alloc (.cells #[.slice ox n cx, .int .u32 (last : Int), .int .i64 max] 79)).cell? ⟨w.heap.size, 1, none⟩ = some (.int .u32 (last : Int)) := HF1.out.cell 3 1 rfl rfl
  have p12 : (w1.alloc (.cells #[.slice ox n cx, .int .u32 (last : Int), .int .i64 max] 79)).cell? ⟨w.heap.size, 2, none⟩ = some (.int .i64 max) := HF1.out.cell 3 2 rfl rfl
  clear hG1 hVx hcm
  go_wp2_with fail
  refine (big_any oa n cp (last : Int) max V _ (HV.out.later HR1.out.bel) HN.out).mono ?_
  rintro e w2 ⟨r, rfl, hb2⟩
  have HR2 := Lib.hid (HR1.out.step hb2)
  have HF2 := Lib.hid (HF1.out.later hb2)
  have HVx2 := Lib.hid (HVx1.out.later hb2)
  clear hb2 HR1 HF1 HVx1
  clear p10 p11 p12
  have a20 : w2.cell? ⟨w.heap.size + 1, 0, none⟩ = some (.slice xa la ca) := HF2.out.cell 2 0 rfl rfl
  have a21 : w2.cell? ⟨w.heap.size + 1, 1, none⟩ = some (.int .i64 ja) := HF2.out.cell 2 1 rfl rfl
  have a22 : w2.cell? ⟨w.heap.size + 1, 2, none⟩ = some (.int .u32 na) := HF2.out.cell 2 2 rfl rfl
  have a23 : w2.cell? ⟨w.heap.size + 1, 3, none⟩ = some (.int .u64 ta) := HF2.out.cell 2 3 rfl rfl
  have b20 : w2.cell? ⟨w.heap.size + 1 + 1, 0, none⟩ = some (.slice xb lb cb) := HF2.out.cell 1 0 rfl rfl
  have b21 : w2.cell? ⟨w.heap.size + 1 + 1, 1, none⟩ = some (.int .i64 jb) := HF2.out.cell 1 1 rfl rfl
  have b22 : w2.cell? ⟨w.heap.size + 1 + 1, 2, none⟩ = some (.int .u32 nb) := HF2.out.cell 1 2 rfl rfl
  have b23 : w2.cell? ⟨w.heap.size + 1 + 1, 3, none⟩ = some (.int .u64 tb) := HF2.out.cell 1 3 rfl rfl
  have x20 : w2.cell? ⟨w1.heap.size, 0, none⟩ = some (.slice ox n cx) := HF2.out.cell 0 0 rfl rfl
  have x21 : w2.cell? ⟨w1.heap.size, 1, none⟩ = some (.int .u32 (last : Int)) := HF2.out.cell 0 1 rfl rfl
  have x22 : w2.cell? ⟨w1.heap.size, 2, none⟩ = some (.int .i64 max) := HF2.out.cell 0 2 rfl rfl
  cases r
  · skip
    go_wp2_with fail
    refine (check_yes ox n cx last max V _ HN.out HLs.out HVx2.out HS.out).mono ?_
    rintro e w3 ⟨rfl, hb3⟩
    have HR3 := Lib.hid (HR2.out.step hb3)
    have HF3 := Lib.hid (HF2.out.later hb3)
    have HVx3 := Lib.hid (HVx2.out.later hb3)
    clear hb3 HR2 HF2 HVx2
    clear a20 a21 a22 a23 b20 b21 b22 b23 x20 x21 x22
    have s30 : w3.cell? ⟨w.heap.size, 0, none⟩ = some (.slice oa n cp) := HF3.out.cell 3 0 rfl rfl
    have s31 : w3.cell? ⟨w.heap.size, 1, none⟩ = some (.int .u32 (last : Int)) := HF3.out.cell 3 1 rfl rfl
    have s32 : w3.cell? ⟨w.heap.size, 2, none⟩ = some (.int .i64 max) := HF3.out.cell 3 2 rfl rfl
    go_wp2_with fail
    refine (sure30_any _ HR3.out.handle).mono ?_
    rintro e w4 ⟨rfl, hb4⟩
    go_wp2_with fail
    go_ret
    exact ⟨rfl, (HR3.out.step hb4).bel⟩
  · go_wp2_with fail
    refine (sure30_any _ HR2.out.handle).mono ?_
    rintro e w3 ⟨rfl, hb3⟩
    go_wp2_with fail
    go_ret
    exact ⟨rfl, (HR2.out.step hb3).bel⟩
set_option maxRecDepth 100000 in
set_option maxHeartbeats 8000000 in
theorem cas_main (oa : Option Addr) (n cp last : Nat) (max : Int) (V : Nat → Ver) (xa xb : Option Addr) (la ca lb cb : Nat) (fa fb : Nat → Nat) (ja na ta jb nb tb : Int) (w : World) (hg : Handle w) (hn : n ≤ maxLen) (hn48 : n * 48 ≤ 140737488355328) (hl : last < 4294967296) (hV : Vers w oa n V) (hA : Bytes w xa la fa) (hB : Bytes w xb lb fb) (hna : xa = none → la = 0) (hnb : xb = none → lb = 0) (h1 : la ≤ 100) (h2 : lb ≤ 100) (h3 : SecOk n last max V) (h : last ≤ 2147483648) :
    Calls Tryd.prog 11 #[.agg #[.slice oa n cp, .int .u32 (last : Int), .int .i64 max], .agg #[.slice xa la ca, .int .i64 ja, .int .u32 na, .int .u64 ta], .agg #[.slice xb lb cb, .int .i64 jb, .int .u32 nb, .int .u64 tb]] w fun e w' => e = .returned (.bool true) ∧ Below w.heap.size w w' := by
  have HN := Lib.hid hn
  have HV := Lib.hid hV
  have HA := Lib.hid hA
  have HB := Lib.hid hB
  have HNa := Lib.hid hna
  have HNb := Lib.hid hnb
  have H48 := Lib.hid hn48
  have HLs := Lib.hid hl
  have F0 : Fr (((w.alloc (.cells #[.slice oa n cp, .int .u32 (last : Int), .int .i64 max] 73)).alloc (.cells #[.slice xa la ca, .int .i64 ja, .int .u32 na, .int .u64 ta] 75)).alloc (.cells #[.slice xb lb cb, .int .i64 jb, .int .u32 nb, .int .u64 tb] 75)) [(w.heap.size + 1 + 1, #[.slice xb lb cb, .int .i64 jb, .int .u32 nb, .int .u64 tb], 75), (w.heap.size + 1, #[.slice xa la ca, .int .i64 ja, .int .u32 na, .int .u64 ta], 75), (w.heap.size, #[.slice oa n cp, .int .u32 (last : Int), .int .i64 max], 73)] := by simpa using (((Fr.nil w).new #[.slice oa n cp, .int .u32 (last : Int), .int .i64 max] 73).new #[.slice xa la ca, .int .i64 ja, .int .u32 na, .int .u64 ta] 75).new #[.slice xb lb cb, .int .i64 jb, .int .u32 nb, .int .u64 tb] 75
  have N0 : Wn w (((w.alloc (.cells #[.slice oa n cp, .int .u32 (last : Int), .int .i64 max] 73)).alloc (.cells #[.slice xa la ca, .int .i64 ja, .int .u32 na, .int .u64 ta] 75)).alloc (.cells #[.slice xb lb cb, .int .i64 jb, .int .u32 nb, .int .u64 tb] 75)) := (((Wn.new hg).alloc _).alloc _).alloc _
  have HF0 := Lib.hid F0
  have HR0 := Lib.hid N0
  have g0 : (la : Int) ≤ 100 := by omega
  have g1 : (lb : Int) ≤ 100 := by omega
  have HS := Lib.hid h3
  have g2 : (last : Int) ≤ 2147483648 := by omega
  have g3 : (0 : Int) ≤ (last : Int) := by omega
  have HA1 := Lib.hid h1
  have HB1 := Lib.hid h2
  have HM := Lib.hid h
  clear h1 h2 h3
  clear hn hn48 hl hV hA hB hna hnb h F0 N0 hg
  go_enter Tryd.func11, Tryd.ntmps11
  go_wp2_with fail
  refine (give_any oa n cp (last : Int) max V _ (HV.out.later HR0.out.bel) H48.out).mono ?_
  rintro e w1 ⟨vx, rfl, hG1, hb1⟩
  obtain ⟨ox, cx, rfl, hcx, hcm, hVx⟩ := hG1.vers
  have R1 := (HR0.out.step hb1).alloc (.cells #[.slice ox n cx, .int .u32 (last : Int), .int .i64 max] 79)
  have HR1 := Lib.hid R1
  have F1 := (HF0.out.later hb1).new #[.slice ox n cx, .int .u32 (last : Int), .int .i64 max] 79
  have HF1 := Lib.hid F1
  have HVx1 := Lib.hid ((hVx).later ((Below.refl _ _).alloc (Nat.le_refl _) (.cells #[.slice ox n cx, .int .u32 (last : Int), .int .i64 max] 79)))
  clear R1 F1 hb1 HR0 HF0 
  have p10 : (w1.alloc (.cells #[.slice ox n cx, .int .u32 (last : Int), .int .i64 max] 79)).cell? ⟨w.heap.size, 0, none⟩ = some (.slice oa n cp) := HF1.out.cell 3 0 rfl rfl
  have p11 : (w1.alloc (.cells #[.slice ox n cx, .int .u32 (last : Int), .int .i64 max] 79)).cell? ⟨w.heap.size, 1, none⟩ = some (.int .u32 (last : Int)) := HF1.out.cell 3 1 rfl rfl
  have p12 : (w1.alloc (.cells #[.slice ox n cx, .int .u32 (last : Int), .int .i64 max] 79)).cell? ⟨w.heap.size, 2, none⟩ = some (.int .i64 max) := HF1.out.cell 3 2 rfl rfl
  clear hG1 hVx hcm
  go_wp2_with fail
  refine (big_any oa n cp (last : Int) max V _ (HV.out.later HR1.out.bel) HN.out).mono ?_
  rintro e w2 ⟨r, rfl, hb2⟩
  have HR2 := Lib.hid (HR1.out.step hb2)
  have HF2 := Lib.hid (HF1.out.later hb2)
  have HVx2 := Lib.hid (HVx1.out.later hb2)
  clear hb2 HR1 HF1 HVx1
  clear p10 p11 p12
  have a20 : w2.cell? ⟨w.heap.size + 1, 0, none⟩ = some (.slice xa la ca) := HF2.out.cell 2 0 rfl rfl
  have a21 : w2.cell? ⟨w.heap.size + 1, 1, none⟩ = some (.int .i64 ja) := HF2.out.cell 2 1 rfl rfl
  have a22 : w2.cell? ⟨w.heap.size + 1, 2, none⟩ = some (.int .u32 na) := HF2.out.cell 2 2 rfl rfl
  have a23 : w2.cell? ⟨w.heap.size + 1, 3, none⟩ = some (.int .u64 ta) := HF2.out.cell 2 3 rfl rfl
  have b20 : w2.cell? ⟨w.heap.size + 1 + 1, 0, none⟩ = some (.slice xb lb cb) := HF2.out.cell 1 0 rfl rfl
  have b21 : w2.cell? ⟨w.heap.size + 1 + 1, 1, none⟩ = some (.int .i64 jb) := HF2.out.cell 1 1 rfl rfl
  have b22 : w2.cell? ⟨w.heap.size + 1 + 1, 2, none⟩ = some (.int .u32 nb) := HF2.out.cell 1 2 rfl rfl
  have b23 : w2.cell? ⟨w.heap.size + 1 + 1, 3, none⟩ = some (.int .u64 tb) := HF2.out.cell 1 3 rfl rfl
  have x20 : w2.cell? ⟨w1.heap.size, 0, none⟩ = some (.slice ox n cx) := HF2.out.cell 0 0 rfl rfl
  have x21 : w2.cell? ⟨w1.heap.size, 1, none⟩ = some (.int .u32 (last : Int)) := HF2.out.cell 0 1 rfl rfl
  have x22 : w2.cell? ⟨w1.heap.size, 2, none⟩ = some (.int .i64 max) := HF2.out.cell 0 2 rfl rfl
  cases r
  · skip
    go_wp2_with fail
    refine (check_yes ox n cx last max V _ HN.out HLs.out HVx2.out HS.out).mono ?_
    rintro e w3 ⟨rfl, hb3⟩
    have HR3 := Lib.hid (HR2.out.step hb3)
    have HF3 := Lib.hid (HF2.out.later hb3)
    have HVx3 := Lib.hid (HVx2.out.later hb3)
    clear hb3 HR2 HF2 HVx2
    clear a20 a21 a22 a23 b20 b21 b22 b23 x20 x21 x22
    have s30 : w3.cell? ⟨w.heap.size, 0, none⟩ = some (.slice oa n cp) := HF3.out.cell 3 0 rfl rfl
    have s31 : w3.cell? ⟨w.heap.size, 1, none⟩ = some (.int .u32 (last : Int)) := HF3.out.cell 3 1 rfl rfl
    have s32 : w3.cell? ⟨w.heap.size, 2, none⟩ = some (.int .i64 max) := HF3.out.cell 3 2 rfl rfl
    have a30 : w3.cell? ⟨w.heap.size + 1, 0, none⟩ = some (.slice xa la ca) := HF3.out.cell 2 0 rfl rfl
    have a31 : w3.cell? ⟨w.heap.size + 1, 1, none⟩ = some (.int .i64 ja) := HF3.out.cell 2 1 rfl rfl
    have a32 : w3.cell? ⟨w.heap.size + 1, 2, none⟩ = some (.int .u32 na) := HF3.out.cell 2 2 rfl rfl
    have a33 : w3.cell? ⟨w.heap.size + 1, 3, none⟩ = some (.int .u64 ta) := HF3.out.cell 2 3 rfl rfl
    have x30 : w3.cell? ⟨w1.heap.size, 0, none⟩ = some (.slice ox n cx) := HF3.out.cell 0 0 rfl rfl
    have x31 : w3.cell? ⟨w1.heap.size, 1, none⟩ = some (.int .u32 (last : Int)) := HF3.out.cell 0 1 rfl rfl
    have x32 : w3.cell? ⟨w1.heap.size, 2, none⟩ = some (.int .i64 max) := HF3.out.cell 0 2 rfl rfl
    go_wp2_with fail
    refine (put_ok ox n cx last max V _ HN.out (by have := HM.out; omega) HVx3.out hcx xa la ca fa (last : Int) 1 HS.out HA1.out (.inr rfl) (HA.out.later HR3.out.bel) HNa.out).mono ?_
    rintro e w4 ⟨vy, rfl, hG4, hb4⟩
    have S4 := put_sec (dl := la) (df := fa) (now := 1) HS.out HA1.out
    obtain ⟨n1, hn1⟩ : ∃ m, putN n max = m := ⟨_, rfl⟩
    obtain ⟨V1, hV1⟩ : ∃ U, putV V (fromN n max) (putN n max - 1) ⟨last + 1, la, fa, 1, 0⟩ = U := ⟨_, rfl⟩
    rw [hV1, hn1] at hG4 S4
    obtain ⟨l1, hl1⟩ : ∃ m, last + 1 = m := ⟨_, rfl⟩
    rw [hl1] at S4 ⊢
    obtain ⟨oy, cy, rfl, hcy, hcmy, hVy⟩ := hG4.vers
    have HS4 := Lib.hid S4
    have HL1 := Lib.hid hl1
    have HN1 := Lib.hid (show n1 ≤ maxLen by have := S4.1.2.1; have := S4.1.2.2.1; unfold maxLen; omega)
    clear S4 hV1 hn1 hl1
    have R4 := (HR3.out.step hb4).alloc (.cells #[.slice oy n1 cy, .int .u32 (l1 : Int), .int .i64 max] 79)
    have HR4 := Lib.hid R4
    have F4 := (HF3.out.later hb4).new #[.slice oy n1 cy, .int .u32 (l1 : Int), .int .i64 max] 79
    have HF4 := Lib.hid F4
    have HVx4 := Lib.hid ((HVx3.out.later hb4).later ((Below.refl _ _).alloc (Nat.le_refl _) (.cells #[.slice oy n1 cy, .int .u32 (l1 : Int), .int .i64 max] 79)))
    have HVy4 := Lib.hid ((hVy).later ((Below.refl _ _).alloc (Nat.le_refl _) (.cells #[.slice oy n1 cy, .int .u32 (l1 : Int), .int .i64 max] 79)))
    clear R4 F4 hb4 HR3 HF3 HVx3
    clear hG4 hVy hcmy s30 s31 s32 a30 a31 a32 a33 x30 x31 x32
    have s40 : (w4.alloc (.cells #[.slice oy n1 cy, .int .u32 (l1 : Int), .int .i64 max] 79)).cell? ⟨w.heap.size, 0, none⟩ = some (.slice oa n cp) := HF4.out.cell 4 0 rfl rfl
    have s41 : (w4.alloc (.cells #[.slice oy n1 cy, .int .u32 (l1 : Int), .int .i64 max] 79)).cell? ⟨w.heap.size, 1, none⟩ = some (.int .u32 (last : Int)) := HF4.out.cell 4 1 rfl rfl
    have s42 : (w4.alloc (.cells #[.slice oy n1 cy, .int .u32 (l1 : Int), .int .i64 max] 79)).cell? ⟨w.heap.size, 2, none⟩ = some (.int .i64 max) := HF4.out.cell 4 2 rfl rfl
    have b40 : (w4.alloc (.cells #[.slice oy n1 cy, .int .u32 (l1 : Int), .int .i64 max] 79)).cell? ⟨w.heap.size + 1 + 1, 0, none⟩ = some (.slice xb lb cb) := HF4.out.cell 2 0 rfl rfl
    have b41 : (w4.alloc (.cells #[.slice oy n1 cy, .int .u32 (l1 : Int), .int .i64 max] 79)).cell? ⟨w.heap.size + 1 + 1, 1, none⟩ = some (.int .i64 jb) := HF4.out.cell 2 1 rfl rfl
    have b42 : (w4.alloc (.cells #[.slice oy n1 cy, .int .u32 (l1 : Int), .int .i64 max] 79)).cell? ⟨w.heap.size + 1 + 1, 2, none⟩ = some (.int .u32 nb) := HF4.out.cell 2 2 rfl rfl
    have b43 : (w4.alloc (.cells #[.slice oy n1 cy, .int .u32 (l1 : Int), .int .i64 max] 79)).cell? ⟨w.heap.size + 1 + 1, 3, none⟩ = some (.int .u64 tb) := HF4.out.cell 2 3 rfl rfl
    go_wp2_with fail
    refine (put_ver oy n1 cy l1 max V1 _ HN1.out (by have := HL1.out; have := HM.out; omega) HVy4.out xb lb cb fb (last : Int) 1 HS4.out HB1.out (by omega) (by omega) (by have := HL1.out; omega)).mono ?_
    rintro e w5 ⟨rfl, hb5⟩
    have R5 := (HR4.out.step hb5).alloc (.cells #[.slice none 0 0, .int .u32 0, .int .i64 0] 79)
    have HR5 := Lib.hid R5
    have F5 := (HF4.out.later hb5).new #[.slice none 0 0, .int .u32 0, .int .i64 0] 79
    have HF5 := Lib.hid F5
    have HVx5 := Lib.hid ((HVx4.out.later hb5).later ((Below.refl _ _).alloc (Nat.le_refl _) (.cells #[.slice none 0 0, .int .u32 0, .int .i64 0] 79)))
    have HVy5 := Lib.hid ((HVy4.out.later hb5).later ((Below.refl _ _).alloc (Nat.le_refl _) (.cells #[.slice none 0 0, .int .u32 0, .int .i64 0] 79)))
    clear R5 F5 hb5 HR4 HF4 HVx4 HVy4
    clear s40 s41 s42 b40 b41 b42 b43
    have y50 : (w5.alloc (.cells #[.slice none 0 0, .int .u32 0, .int .i64 0] 79)).cell? ⟨w4.heap.size, 0, none⟩ = some (.slice oy n1 cy) := HF5.out.cell 1 0 rfl rfl
    have y51 : (w5.alloc (.cells #[.slice none 0 0, .int .u32 0, .int .i64 0] 79)).cell? ⟨w4.heap.size, 1, none⟩ = some (.int .u32 (l1 : Int)) := HF5.out.cell 1 1 rfl rfl
    have y52 : (w5.alloc (.cells #[.slice none 0 0, .int .u32 0, .int .i64 0] 79)).cell? ⟨w4.heap.size, 2, none⟩ = some (.int .i64 max) := HF5.out.cell 1 2 rfl rfl
    have b50 : (w5.alloc (.cells #[.slice none 0 0, .int .u32 0, .int .i64 0] 79)).cell? ⟨w.heap.size + 1 + 1, 0, none⟩ = some (.slice xb lb cb) := HF5.out.cell 3 0 rfl rfl
    have b51 : (w5.alloc (.cells #[.slice none 0 0, .int .u32 0, .int .i64 0] 79)).cell? ⟨w.heap.size + 1 + 1, 1, none⟩ = some (.int .i64 jb) := HF5.out.cell 3 1 rfl rfl
    have b52 : (w5.alloc (.cells #[.slice none 0 0, .int .u32 0, .int .i64 0] 79)).cell? ⟨w.heap.size + 1 + 1, 2, none⟩ = some (.int .u32 nb) := HF5.out.cell 3 2 rfl rfl
    have b53 : (w5.alloc (.cells #[.slice none 0 0, .int .u32 0, .int .i64 0] 79)).cell? ⟨w.heap.size + 1 + 1, 3, none⟩ = some (.int .u64 tb) := HF5.out.cell 3 3 rfl rfl
    go_wp2_with fail
    refine (put_ok oy n1 cy l1 max V1 _ HN1.out (by have := HL1.out; have := HM.out; omega) HVy5.out hcy xb lb cb fb (-1) 1 HS4.out HB1.out (.inl (by decide)) (HB.out.later HR5.out.bel) HNb.out).mono ?_
    rintro e w6 ⟨vz, rfl, hG6, hb6⟩
    have S6 := put_sec (dl := lb) (df := fb) (now := 1) HS4.out HB1.out
    obtain ⟨n2, hn2⟩ : ∃ m, putN n1 max = m := ⟨_, rfl⟩
    obtain ⟨V2, hV2⟩ : ∃ U, putV V1 (fromN n1 max) (putN n1 max - 1) ⟨l1 + 1, lb, fb, 1, 0⟩ = U := ⟨_, rfl⟩
    have hat : V2 (n2 - 1) = ⟨l1 + 1, lb, fb, 1, 0⟩ := by rw [← hV2, hn2]; exact putV_at
    rw [hV2, hn2] at hG6 S6
    obtain ⟨l2, hl2⟩ : ∃ m, l1 + 1 = m := ⟨_, rfl⟩
    rw [hl2] at S6 hat ⊢
    obtain ⟨oz, cz, rfl, hcz, hcmz, hVz⟩ := hG6.vers
    have HS6 := Lib.hid S6
    have HL2 := Lib.hid hl2
    have HAt := Lib.hid hat
    have HN2 := Lib.hid (show n2 ≤ maxLen by have := S6.1.2.1; have := S6.1.2.2.1; unfold maxLen; omega)
    have HP2 := Lib.hid (show n2 - 1 < n2 by have h4 := S6.1.2.2.2.1; have : n2 ≠ 0 := fun e => by have := h4.2 e; omega
                                             omega)
    clear S6 hV2 hn2 hl2 hat
    have R6 := (HR5.out.step hb6).alloc (.cells #[.slice oz n2 cz, .int .u32 (l2 : Int), .int .i64 max] 79)
    have HR6 := Lib.hid R6
    have F6 := (HF5.out.later hb6).new #[.slice oz n2 cz, .int .u32 (l2 : Int), .int .i64 max] 79
    have HF6 := Lib.hid F6
    have HVx6 := Lib.hid ((HVx5.out.later hb6).later ((Below.refl _ _).alloc (Nat.le_refl _) (.cells #[.slice oz n2 cz, .int .u32 (l2 : Int), .int .i64 max] 79)))
    have HVy6 := Lib.hid ((HVy5.out.later hb6).later ((Below.refl _ _).alloc (Nat.le_refl _) (.cells #[.slice oz n2 cz, .int .u32 (l2 : Int), .int .i64 max] 79)))
    have HVz6 := Lib.hid ((hVz).later ((Below.refl _ _).alloc (Nat.le_refl _) (.cells #[.slice oz n2 cz, .int .u32 (l2 : Int), .int .i64 max] 79)))
    clear R6 F6 hb6 HR5 HF5 HVx5 HVy5
    clear hG6 hVz hcmz y50 y51 y52 b50 b51 b52 b53
    have C7 : Hid (Calls Tryd.prog 45 #[.agg #[.slice oz n2 cz, .int .u32 (l2 : Int), .int .i64 max], .int .u32 0] (w6.alloc (.cells #[.slice oz n2 cz, .int .u32 (l2 : Int), .int .i64 max] 79)) fun e w' => ∃ od cap, e = .returned (.tuple #[.agg #[.int .u32 (l2 : Int), .slice od lb cap, .int .u64 1, .int .i64 0], .nilIface]) ∧ Bytes w' od lb fb ∧ Below (w6.alloc (.cells #[.slice oz n2 cz, .int .u32 (l2 : Int), .int .i64 max] 79)).heap.size (w6.alloc (.cells #[.slice oz n2 cz, .int .u32 (l2 : Int), .int .i64 max] 79)) w') := Lib.hid (by
      have hh := get_ok oz n2 cz l2 max V2 (w6.alloc (.cells #[.slice oz n2 cz, .int .u32 (l2 : Int), .int .i64 max] 79)) HN2.out (by have := HL1.out; have := HL2.out; have := HM.out; omega) HVz6.out 0 (n2 - 1) HS6.out HP2.out (by rw [HAt.out]; rfl) (by rw [HAt.out])
      rw [HAt.out] at hh
      exact hh.mono fun e w' ⟨od, cap, h1, h2, _, h3⟩ => ⟨od, cap, h1, h2, h3⟩)
    go_wp2_with fail
    refine C7.out.mono ?_
    rintro e w7 ⟨od7, cap7, rfl, hBd7, hb7⟩
    have R7 := (HR6.out.step hb7).alloc (.cells #[.int .u32 (l2 : Int), .slice od7 lb cap7, .int .u64 1, .int .i64 0] 86)
    have HR7 := Lib.hid R7
    have F7 := (HF6.out.later hb7).new #[.int .u32 (l2 : Int), .slice od7 lb cap7, .int .u64 1, .int .i64 0] 86
    have HF7 := Lib.hid F7
    have HVx7 := Lib.hid ((HVx6.out.later hb7).later ((Below.refl _ _).alloc (Nat.le_refl _) (.cells #[.int .u32 (l2 : Int), .slice od7 lb cap7, .int .u64 1, .int .i64 0] 86)))
    have HVy7 := Lib.hid ((HVy6.out.later hb7).later ((Below.refl _ _).alloc (Nat.le_refl _) (.cells #[.int .u32 (l2 : Int), .slice od7 lb cap7, .int .u64 1, .int .i64 0] 86)))
    have HVz7 := Lib.hid ((HVz6.out.later hb7).later ((Below.refl _ _).alloc (Nat.le_refl _) (.cells #[.int .u32 (l2 : Int), .slice od7 lb cap7, .int .u64 1, .int .i64 0] 86)))
    have HBd7 := Lib.hid ((hBd7).later ((Below.refl _ _).alloc (Nat.le_refl _) (.cells #[.int .u32 (l2 : Int), .slice od7 lb cap7, .int .u64 1, .int .i64 0] 86)))
    clear R7 F7 hb7 HR6 HF6 HVx6 HVy6 HVz6
    clear C7 hBd7
    have hR7 := HR7.out
    go_wp2_with fail
    refine (num_err30 20 _ hR7.handle).mono ?_
    rintro e w8 ⟨rfl, hb8⟩
    clear hR7
    have HR8 := Lib.hid (HR7.out.step hb8)
    have HF8 := Lib.hid (HF7.out.later hb8)
    have HVx8 := Lib.hid (HVx7.out.later hb8)
    have HVy8 := Lib.hid (HVy7.out.later hb8)
    have HVz8 := Lib.hid (HVz7.out.later hb8)
    have HBd8 := Lib.hid (HBd7.out.later hb8)
    clear hb8 HR7 HF7 HVx7 HVy7 HVz7 HBd7
    have v80 : w8.cell? ⟨w7.heap.size, 0, none⟩ = some (.int .u32 (l2 : Int)) := HF8.out.cell 0 0 rfl rfl
    have v81 : w8.cell? ⟨w7.heap.size, 1, none⟩ = some (.slice od7 lb cap7) := HF8.out.cell 0 1 rfl rfl
    have v82 : w8.cell? ⟨w7.heap.size, 2, none⟩ = some (.int .u64 1) := HF8.out.cell 0 2 rfl rfl
    have v83 : w8.cell? ⟨w7.heap.size, 3, none⟩ = some (.int .i64 0) := HF8.out.cell 0 3 rfl rfl
    have b80 : w8.cell? ⟨w.heap.size + 1 + 1, 0, none⟩ = some (.slice xb lb cb) := HF8.out.cell 5 0 rfl rfl
    have b81 : w8.cell? ⟨w.heap.size + 1 + 1, 1, none⟩ = some (.int .i64 jb) := HF8.out.cell 5 1 rfl rfl
    have b82 : w8.cell? ⟨w.heap.size + 1 + 1, 2, none⟩ = some (.int .u32 nb) := HF8.out.cell 5 2 rfl rfl
    have b83 : w8.cell? ⟨w.heap.size + 1 + 1, 3, none⟩ = some (.int .u64 tb) := HF8.out.cell 5 3 rfl rfl
    have s80 : w8.cell? ⟨w.heap.size, 0, none⟩ = some (.slice oa n cp) := HF8.out.cell 7 0 rfl rfl
    have s81 : w8.cell? ⟨w.heap.size, 1, none⟩ = some (.int .u32 (last : Int)) := HF8.out.cell 7 1 rfl rfl
    have s82 : w8.cell? ⟨w.heap.size, 2, none⟩ = some (.int .i64 max) := HF8.out.cell 7 2 rfl rfl
    have hc1 := conv_any (cp := cap7) HBd8.out
    have hc2 := conv_any (cp := cb) (HB.out.later HR8.out.bel)
    have hw2 : IntKind.u32.wrap ((last : Int) + 2) = (l2 : Int) := by rw [IntKind.wrap_u32]; have := HL1.out; have := HL2.out; have := HM.out; omega
    generalize strF lb fb = str at *
    go_wp2_with fail
    refine (sure30_any _ HR8.out.handle).mono ?_
    rintro e w9 ⟨rfl, hb9⟩
    go_wp2_with fail
    go_ret
    exact ⟨rfl, (HR8.out.step hb9).bel⟩
  · go_wp2_with fail
    refine (sure30_any _ HR2.out.handle).mono ?_
    rintro e w3 ⟨rfl, hb3⟩
    go_wp2_with fail
    go_ret
    exact ⟨rfl, (HR2.out.step hb3).bel⟩
theorem cas_any (oa : Option Addr) (n cp last : Nat) (max : Int) (V : Nat → Ver) (xa xb : Option Addr) (la ca lb cb : Nat) (fa fb : Nat → Nat) (ja na ta jb nb tb : Int) (w : World) (hg : Handle w) (hn : n ≤ maxLen) (hn48 : n * 48 ≤ 140737488355328) (hl : last < 4294967296) (hV : Vers w oa n V) (hA : Bytes w xa la fa) (hB : Bytes w xb lb fb) (hna : xa = none → la = 0) (hnb : xb = none → lb = 0) :
    Calls Tryd.prog 11 #[.agg #[.slice oa n cp, .int .u32 (last : Int), .int .i64 max], .agg #[.slice xa la ca, .int .i64 ja, .int .u32 na, .int .u64 ta], .agg #[.slice xb lb cb, .int .i64 jb, .int .u32 nb, .int .u64 tb]] w fun e w' => e = .returned (.bool true) ∧ Below w.heap.size w w' := by
  by_cases h1 : la ≤ 100
  · by_cases h2 : lb ≤ 100
    · by_cases h3 : SecOk n last max V
      · by_cases h : last ≤ 2147483648
        · exact cas_main oa n cp last max V xa xb la ca lb cb fa fb ja na ta jb nb tb w hg hn hn48 hl hV hA hB hna hnb h1 h2 h3 h
        · exact cas_far oa n cp last max V xa xb la ca lb cb fa fb ja na ta jb nb tb w hg hn hn48 hl hV hA hB hna hnb h1 h2 h3 (by omega)
      · exact cas_bad oa n cp last max V xa xb la ca lb cb fa fb ja na ta jb nb tb w hg hn hn48 hl hV hA hB hna hnb h1 h2 h3
    · exact cas_longb oa n cp last max V xa xb la ca lb cb fa fb ja na ta jb nb tb w hg hn hn48 hl hV hA hB hna hnb h1 (by omega)
  · exact cas_long oa n cp last max V xa xb la ca lb cb fa fb ja na ta jb nb tb w hg hn hn48 hl hV hA hB hna hnb (by omega)
end Go.Proofs.YtkaddilgegimjaaDoor
