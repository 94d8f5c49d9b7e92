/- The walk of EngineSteps. -/
import Derived.Test.YtkaddilgegimjaaDoorEsI
import Derived.Test.YtkaddilgegimjaaDoorEs1
import Derived.Test.YtkaddilgegimjaaDoorEn5
import Derived.Test.YtkaddilgegimjaaDoorEs3
namespace Go.Proofs.YtkaddilgegimjaaDoor
set_option linter.unusedVariables false
set_option linter.unusedSimpArgs false
open Go.RowKit

theorem new_any (m : Int) (w : World) :
    Calls Tryd.prog 51 #[.int .i64 m] w fun e w' => ∃ mx ve, e = .returned (.tuple #[.agg #[.slice none 0 0, .int .u32 0, .int .i64 mx], ve]) ∧ ((1 ≤ m ∧ m ≤ 8 ∧ mx = m ∧ ve = .nilIface) ∨ ((m < 1 ∨ 8 < m) ∧ mx = 0 ∧ ve = .iface 146 (.int .i64 1))) ∧ Below w.heap.size w w' := by
  by_cases h : 1 ≤ m ∧ m ≤ 8
  · exact (new_ok m h.1 h.2 w).mono fun _ _ ⟨he, hb⟩ => ⟨m, _, he, .inl ⟨h.1, h.2, rfl, rfl⟩, hb⟩
  · have h' : m < 1 ∨ 8 < m := by omega
    exact (new_bad m h' w).mono fun _ _ ⟨he, hb⟩ => ⟨0, _, he, .inr ⟨h', rfl, rfl⟩, hb⟩

set_option maxRecDepth 100000 in
set_option maxHeartbeats 16000000 in
theorem est_main (oa : Option Addr) (n cp last : Nat) (max : Int) (V : Nat → Ver) (xa : Option Addr) (la ca : Nat) (fa : Nat → Nat) (ja : Int) (na ta : Nat) (w : World) (hg : Handle w) (hn : n ≤ maxLen) (hn48 : n * 48 ≤ 140737488355328) (hl : last < 4294967296) (hV : Vers w oa n V) (hm : ∀ i, i < n → (V i).n < 4294967296) (hcp : n ≤ cp) (hz : oa = none → cp = 0) (hA : Bytes w xa la fa) (hna : xa = none → la = 0) (hlc : la ≤ ca) (hcm : ca ≤ maxLen) (hj : ja ≤ 9223372036854775807) (h : la ≤ 400) (hS : SecOk n last max V ∨ ¬ SecOk n last max V) :
    Calls Tryd.prog 8 #[.agg #[.slice oa n cp, .int .u32 (last : Int), .int .i64 max], .agg #[.slice xa la ca, .int .i64 ja, .int .u32 (na : Int), .int .u64 (ta : Int)]] w fun e w' => e = .returned (.bool true) ∧ Below w.heap.size w w' := by
  obtain ⟨n1, l1, m1, V1, k1, hn1, hP1, hD1⟩ := put_pair n last max V la fa ja ta hn hl hm hj
  obtain ⟨vm, vl, vf, vt, vs, k2, hP2, hD2⟩ := get_pair n last max V na hn hl hm
  obtain ⟨n3, l3, m3, V3, k3, hn3, hP3, hD3⟩ := delete_pair n last max V na hn hl hm
  obtain ⟨n4, l4, m4, V4, k4, hn4, hP4, hD4⟩ := undelete_pair n last max V na hn hl hm
  obtain ⟨n5, l5, m5, V5, k5, hn5, hP5, hD5⟩ := destroy_pair n last max V na hn hl hm
  have HP1 := Lib.hid hP1
  have HD1 := Lib.hid hD1
  have HP2 := Lib.hid hP2
  have HD2 := Lib.hid hD2
  have HP3 := Lib.hid hP3
  have HD3 := Lib.hid hD3
  have HP4 := Lib.hid hP4
  have HD4 := Lib.hid hD4
  have HP5 := Lib.hid hP5
  have HD5 := Lib.hid hD5
  have HN1 := Lib.hid hn1
  have HN3 := Lib.hid hn3
  have HN4 := Lib.hid hn4
  have HN5 := Lib.hid hn5
  clear hP1 hD1 hP2 hD2 hP3 hD3 hP4 hD4 hP5 hD5 hn1 hn3 hn4 hn5
  have HN := Lib.hid hn
  have HV := Lib.hid hV
  have HM := Lib.hid hm
  have HA := Lib.hid hA
  have HNa := Lib.hid hna
  have HLC := Lib.hid hlc
  have HCM := Lib.hid hcm
  have HCP := Lib.hid hcp
  have HZ := Lib.hid hz
  have H48 := Lib.hid hn48
  have HLs := Lib.hid hl
  have HSS := Lib.hid hS
  have HJ := Lib.hid hj
  have g0 : (la : Int) ≤ 400 := by omega
  have F0 : Fr ((w.alloc (.cells #[.slice oa n cp, .int .u32 (last : Int), .int .i64 max] 73)).alloc (.cells #[.slice xa la ca, .int .i64 ja, .int .u32 (na : Int), .int .u64 (ta : Int)] 75)) [(w.heap.size + 1, #[.slice xa la ca, .int .i64 ja, .int .u32 (na : Int), .int .u64 (ta : Int)], 75), (w.heap.size, #[.slice oa n cp, .int .u32 (last : Int), .int .i64 max], 73)] := by simpa using ((Fr.nil w).new #[.slice oa n cp, .int .u32 (last : Int), .int .i64 max] 73).new #[.slice xa la ca, .int .i64 ja, .int .u32 (na : Int), .int .u64 (ta : Int)] 75
  have N0 : Wn w ((w.alloc (.cells #[.slice oa n cp, .int .u32 (last : Int), .int .i64 max] 73)).alloc (.cells #[.slice xa la ca, .int .i64 ja, .int .u32 (na : Int), .int .u64 (ta : Int)] 75)) := ((Wn.new hg).alloc _).alloc _
  have HF0 := Lib.hid F0
  have HR0 := Lib.hid N0
  clear hn hn48 hl hV hm hcp hz hA hna hlc hcm hj h hS F0 N0 hg
  have s00 : ((w.alloc (.cells #[.slice oa n cp, .int .u32 (last : Int), .int .i64 max] 73)).alloc (.cells #[.slice xa la ca, .int .i64 ja, .int .u32 (na : Int), .int .u64 (ta : Int)] 75)).cell? ⟨w.heap.size, 0, none⟩ = some (.slice oa n cp) := HF0.out.cell 1 0 rfl rfl
  have s01 : ((w.alloc (.cells #[.slice oa n cp, .int .u32 (last : Int), .int .i64 max] 73)).alloc (.cells #[.slice xa la ca, .int .i64 ja, .int .u32 (na : Int), .int .u64 (ta : Int)] 75)).cell? ⟨w.heap.size, 1, none⟩ = some (.int .u32 (last : Int)) := HF0.out.cell 1 1 rfl rfl
  have s02 : ((w.alloc (.cells #[.slice oa n cp, .int .u32 (last : Int), .int .i64 max] 73)).alloc (.cells #[.slice xa la ca, .int .i64 ja, .int .u32 (na : Int), .int .u64 (ta : Int)] 75)).cell? ⟨w.heap.size, 2, none⟩ = some (.int .i64 max) := HF0.out.cell 1 2 rfl rfl
  go_enter Tryd.func8, Tryd.ntmps8
  go_wp2_with fail
  refine (big_any oa n cp (last : Int) max V _ (HV.out.later HR0.out.bel) HN.out).mono ?_
  rintro e w1 ⟨r, rfl, hb1⟩
  have HR1 := Lib.hid (HR0.out.step hb1)
  have HF1 := Lib.hid (HF0.out.later hb1)
  clear hb1 HR0 HF0 s00 s01 s02
  have a10 : w1.cell? ⟨w.heap.size + 1, 0, none⟩ = some (.slice xa la ca) := HF1.out.cell 0 0 rfl rfl
  have a11 : w1.cell? ⟨w.heap.size + 1, 1, none⟩ = some (.int .i64 ja) := HF1.out.cell 0 1 rfl rfl
  have a12 : w1.cell? ⟨w.heap.size + 1, 2, none⟩ = some (.int .u32 (na : Int)) := HF1.out.cell 0 2 rfl rfl
  have a13 : w1.cell? ⟨w.heap.size + 1, 3, none⟩ = some (.int .u64 (ta : Int)) := HF1.out.cell 0 3 rfl rfl
  have s10 : w1.cell? ⟨w.heap.size, 0, none⟩ = some (.slice oa n cp) := HF1.out.cell 1 0 rfl rfl
  have s11 : w1.cell? ⟨w.heap.size, 1, none⟩ = some (.int .u32 (last : Int)) := HF1.out.cell 1 1 rfl rfl
  have s12 : w1.cell? ⟨w.heap.size, 2, none⟩ = some (.int .i64 max) := HF1.out.cell 1 2 rfl rfl
  cases r
  · skip
    go_wp2_with fail
    refine (give_any oa n cp (last : Int) max V _ (HV.out.later HR1.out.bel) H48.out).mono ?_
    rintro e w2 ⟨vx, rfl, hG2, hb2⟩
    obtain ⟨ox, cx, rfl, hcx, hcm, hVx⟩ := hG2.vers
    have HCX := Lib.hid hcx
    have R2 := (HR1.out.step hb2).alloc (.cells #[.slice ox n cx, .int .u32 (last : Int), .int .i64 max] 79)
    have HR2 := Lib.hid R2
    have F2 := (HF1.out.later hb2).new #[.slice ox n cx, .int .u32 (last : Int), .int .i64 max] 79
    have HF2 := Lib.hid F2
    have HVx2 := Lib.hid ((hVx).later ((Below.refl _ _).alloc (Nat.le_refl _) (.cells #[.slice ox n cx, .int .u32 (last : Int), .int .i64 max] 79)))
    clear R2 F2 hb2 HR1 HF1  hG2 hVx hcm hcx a10 a11 a12 a13 s10 s11 s12
    have x30 : (w2.alloc (.cells #[.slice ox n cx, .int .u32 (last : Int), .int .i64 max] 79)).cell? ⟨w2.heap.size, 0, none⟩ = some (.slice ox n cx) := HF2.out.cell 0 0 rfl rfl
    have x31 : (w2.alloc (.cells #[.slice ox n cx, .int .u32 (last : Int), .int .i64 max] 79)).cell? ⟨w2.heap.size, 1, none⟩ = some (.int .u32 (last : Int)) := HF2.out.cell 0 1 rfl rfl
    have x32 : (w2.alloc (.cells #[.slice ox n cx, .int .u32 (last : Int), .int .i64 max] 79)).cell? ⟨w2.heap.size, 2, none⟩ = some (.int .i64 max) := HF2.out.cell 0 2 rfl rfl
    have a30 : (w2.alloc (.cells #[.slice ox n cx, .int .u32 (last : Int), .int .i64 max] 79)).cell? ⟨w.heap.size + 1, 0, none⟩ = some (.slice xa la ca) := HF2.out.cell 1 0 rfl rfl
    have a31 : (w2.alloc (.cells #[.slice ox n cx, .int .u32 (last : Int), .int .i64 max] 79)).cell? ⟨w.heap.size + 1, 1, none⟩ = some (.int .i64 ja) := HF2.out.cell 1 1 rfl rfl
    have a32 : (w2.alloc (.cells #[.slice ox n cx, .int .u32 (last : Int), .int .i64 max] 79)).cell? ⟨w.heap.size + 1, 2, none⟩ = some (.int .u32 (na : Int)) := HF2.out.cell 1 2 rfl rfl
    have a33 : (w2.alloc (.cells #[.slice ox n cx, .int .u32 (last : Int), .int .i64 max] 79)).cell? ⟨w.heap.size + 1, 3, none⟩ = some (.int .u64 (ta : Int)) := HF2.out.cell 1 3 rfl rfl
    go_wp2_with fail
    refine (HP1.out ox cx xa ca _ HVx2.out HCX.out (HA.out.later HR2.out.bel) HNa.out).mono ?_
    rintro e w3 ⟨o3, c3, e1, rfl, he1, hV3, hb3⟩
    have HE1 := Lib.hid he1
    clear he1
    have R3 := (HR2.out.step hb3).alloc (.cells #[.slice o3 n1 c3, .int .u32 (l1 : Int), .int .i64 m1] 79)
    have HR3 := Lib.hid R3
    have F3 := (HF2.out.later hb3).new #[.slice o3 n1 c3, .int .u32 (l1 : Int), .int .i64 m1] 79
    have HF3 := Lib.hid F3
    have HVx3 := Lib.hid ((HVx2.out.later hb3).later ((Below.refl _ _).alloc (Nat.le_refl _) (.cells #[.slice o3 n1 c3, .int .u32 (l1 : Int), .int .i64 m1] 79)))
    have HVb3 := Lib.hid ((hV3).later ((Below.refl _ _).alloc (Nat.le_refl _) (.cells #[.slice o3 n1 c3, .int .u32 (l1 : Int), .int .i64 m1] 79)))
    clear R3 F3 hb3 HR2 HF2 HVx2 hV3 x30 x31 x32 a30 a31 a32 a33
    have s40 : (w3.alloc (.cells #[.slice o3 n1 c3, .int .u32 (l1 : Int), .int .i64 m1] 79)).cell? ⟨w.heap.size, 0, none⟩ = some (.slice oa n cp) := HF3.out.cell 3 0 rfl rfl
    have s41 : (w3.alloc (.cells #[.slice o3 n1 c3, .int .u32 (l1 : Int), .int .i64 m1] 79)).cell? ⟨w.heap.size, 1, none⟩ = some (.int .u32 (last : Int)) := HF3.out.cell 3 1 rfl rfl
    have s42 : (w3.alloc (.cells #[.slice o3 n1 c3, .int .u32 (l1 : Int), .int .i64 m1] 79)).cell? ⟨w.heap.size, 2, none⟩ = some (.int .i64 max) := HF3.out.cell 3 2 rfl rfl
    have a40 : (w3.alloc (.cells #[.slice o3 n1 c3, .int .u32 (l1 : Int), .int .i64 m1] 79)).cell? ⟨w.heap.size + 1, 0, none⟩ = some (.slice xa la ca) := HF3.out.cell 2 0 rfl rfl
    have a41 : (w3.alloc (.cells #[.slice o3 n1 c3, .int .u32 (l1 : Int), .int .i64 m1] 79)).cell? ⟨w.heap.size + 1, 1, none⟩ = some (.int .i64 ja) := HF3.out.cell 2 1 rfl rfl
    have a42 : (w3.alloc (.cells #[.slice o3 n1 c3, .int .u32 (l1 : Int), .int .i64 m1] 79)).cell? ⟨w.heap.size + 1, 2, none⟩ = some (.int .u32 (na : Int)) := HF3.out.cell 2 2 rfl rfl
    have a43 : (w3.alloc (.cells #[.slice o3 n1 c3, .int .u32 (l1 : Int), .int .i64 m1] 79)).cell? ⟨w.heap.size + 1, 3, none⟩ = some (.int .u64 (ta : Int)) := HF3.out.cell 2 3 rfl rfl
    go_wp2_with fail
    refine (HD1.out oa cp xa ca _ (HV.out.later HR3.out.bel) HCP.out HZ.out (HA.out.later HR3.out.bel) HNa.out HLC.out HCM.out).mono ?_
    rintro e w4 ⟨o4, c4, rfl, hV4, hb4⟩
    have R4 := (HR3.out.step hb4).alloc (.cells #[.slice o4 n1 c4, .int .u32 (l1 : Int), .int .i64 m1] 73)
    have HR4 := Lib.hid R4
    have F4 := (HF3.out.later hb4).new #[.slice o4 n1 c4, .int .u32 (l1 : Int), .int .i64 m1] 73
    have HF4 := Lib.hid F4
    have HVx4 := Lib.hid ((HVx3.out.later hb4).later ((Below.refl _ _).alloc (Nat.le_refl _) (.cells #[.slice o4 n1 c4, .int .u32 (l1 : Int), .int .i64 m1] 73)))
    have HVb4 := Lib.hid ((HVb3.out.later hb4).later ((Below.refl _ _).alloc (Nat.le_refl _) (.cells #[.slice o4 n1 c4, .int .u32 (l1 : Int), .int .i64 m1] 73)))
    have HVc4 := Lib.hid ((hV4).later ((Below.refl _ _).alloc (Nat.le_refl _) (.cells #[.slice o4 n1 c4, .int .u32 (l1 : Int), .int .i64 m1] 73)))
    clear R4 F4 hb4 HR3 HF3 HVx3 HVb3 hV4 s40 s41 s42 a40 a41 a42 a43
    have x50 : (w4.alloc (.cells #[.slice o4 n1 c4, .int .u32 (l1 : Int), .int .i64 m1] 73)).cell? ⟨w2.heap.size, 0, none⟩ = some (.slice ox n cx) := HF4.out.cell 2 0 rfl rfl
    have x51 : (w4.alloc (.cells #[.slice o4 n1 c4, .int .u32 (l1 : Int), .int .i64 m1] 73)).cell? ⟨w2.heap.size, 1, none⟩ = some (.int .u32 (last : Int)) := HF4.out.cell 2 1 rfl rfl
    have x52 : (w4.alloc (.cells #[.slice o4 n1 c4, .int .u32 (l1 : Int), .int .i64 m1] 73)).cell? ⟨w2.heap.size, 2, none⟩ = some (.int .i64 max) := HF4.out.cell 2 2 rfl rfl
    have a50 : (w4.alloc (.cells #[.slice o4 n1 c4, .int .u32 (l1 : Int), .int .i64 m1] 73)).cell? ⟨w.heap.size + 1, 0, none⟩ = some (.slice xa la ca) := HF4.out.cell 3 0 rfl rfl
    have a51 : (w4.alloc (.cells #[.slice o4 n1 c4, .int .u32 (l1 : Int), .int .i64 m1] 73)).cell? ⟨w.heap.size + 1, 1, none⟩ = some (.int .i64 ja) := HF4.out.cell 3 1 rfl rfl
    have a52 : (w4.alloc (.cells #[.slice o4 n1 c4, .int .u32 (l1 : Int), .int .i64 m1] 73)).cell? ⟨w.heap.size + 1, 2, none⟩ = some (.int .u32 (na : Int)) := HF4.out.cell 3 2 rfl rfl
    have a53 : (w4.alloc (.cells #[.slice o4 n1 c4, .int .u32 (l1 : Int), .int .i64 m1] 73)).cell? ⟨w.heap.size + 1, 3, none⟩ = some (.int .u64 (ta : Int)) := HF4.out.cell 3 3 rfl rfl
    go_wp2_with fail
    refine (HP2.out ox cx _ HVx4.out).mono ?_
    rintro e w5 ⟨o5, c5, e2, rfl, he2, hV5, hb5⟩
    have HE2 := Lib.hid he2
    clear he2
    have R5 := (HR4.out.step hb5).alloc (.cells #[.int .u32 (vm : Int), .slice o5 vl c5, .int .u64 (vt : Int), .int .i64 vs] 86)
    have HR5 := Lib.hid R5
    have F5 := (HF4.out.later hb5).new #[.int .u32 (vm : Int), .slice o5 vl c5, .int .u64 (vt : Int), .int .i64 vs] 86
    have HF5 := Lib.hid F5
    have HVx5 := Lib.hid ((HVx4.out.later hb5).later ((Below.refl _ _).alloc (Nat.le_refl _) (.cells #[.int .u32 (vm : Int), .slice o5 vl c5, .int .u64 (vt : Int), .int .i64 vs] 86)))
    have HVb5 := Lib.hid ((HVb4.out.later hb5).later ((Below.refl _ _).alloc (Nat.le_refl _) (.cells #[.int .u32 (vm : Int), .slice o5 vl c5, .int .u64 (vt : Int), .int .i64 vs] 86)))
    have HVc5 := Lib.hid ((HVc4.out.later hb5).later ((Below.refl _ _).alloc (Nat.le_refl _) (.cells #[.int .u32 (vm : Int), .slice o5 vl c5, .int .u64 (vt : Int), .int .i64 vs] 86)))
    have HBv5 := Lib.hid ((hV5).later ((Below.refl _ _).alloc (Nat.le_refl _) (.cells #[.int .u32 (vm : Int), .slice o5 vl c5, .int .u64 (vt : Int), .int .i64 vs] 86)))
    clear R5 F5 hb5 HR4 HF4 HVx4 HVb4 HVc4 hV5 x50 x51 x52 a50 a51 a52 a53
    have s60 : (w5.alloc (.cells #[.int .u32 (vm : Int), .slice o5 vl c5, .int .u64 (vt : Int), .int .i64 vs] 86)).cell? ⟨w.heap.size, 0, none⟩ = some (.slice oa n cp) := HF5.out.cell 5 0 rfl rfl
    have s61 : (w5.alloc (.cells #[.int .u32 (vm : Int), .slice o5 vl c5, .int .u64 (vt : Int), .int .i64 vs] 86)).cell? ⟨w.heap.size, 1, none⟩ = some (.int .u32 (last : Int)) := HF5.out.cell 5 1 rfl rfl
    have s62 : (w5.alloc (.cells #[.int .u32 (vm : Int), .slice o5 vl c5, .int .u64 (vt : Int), .int .i64 vs] 86)).cell? ⟨w.heap.size, 2, none⟩ = some (.int .i64 max) := HF5.out.cell 5 2 rfl rfl
    have a60 : (w5.alloc (.cells #[.int .u32 (vm : Int), .slice o5 vl c5, .int .u64 (vt : Int), .int .i64 vs] 86)).cell? ⟨w.heap.size + 1, 0, none⟩ = some (.slice xa la ca) := HF5.out.cell 4 0 rfl rfl
    have a61 : (w5.alloc (.cells #[.int .u32 (vm : Int), .slice o5 vl c5, .int .u64 (vt : Int), .int .i64 vs] 86)).cell? ⟨w.heap.size + 1, 1, none⟩ = some (.int .i64 ja) := HF5.out.cell 4 1 rfl rfl
    have a62 : (w5.alloc (.cells #[.int .u32 (vm : Int), .slice o5 vl c5, .int .u64 (vt : Int), .int .i64 vs] 86)).cell? ⟨w.heap.size + 1, 2, none⟩ = some (.int .u32 (na : Int)) := HF5.out.cell 4 2 rfl rfl
    have a63 : (w5.alloc (.cells #[.int .u32 (vm : Int), .slice o5 vl c5, .int .u64 (vt : Int), .int .i64 vs] 86)).cell? ⟨w.heap.size + 1, 3, none⟩ = some (.int .u64 (ta : Int)) := HF5.out.cell 4 3 rfl rfl
    go_wp2_with fail
    refine (HD2.out oa cp _ (HV.out.later HR5.out.bel)).mono ?_
    rintro e w6 ⟨o6, c6, rfl, hV6, hb6⟩
    have R6 := (HR5.out.step hb6).alloc (.cells #[.int .u32 (vm : Int), .slice o6 vl c6, .int .u64 (vt : Int), .int .i64 vs] 89)
    have HR6 := Lib.hid R6
    have F6 := (HF5.out.later hb6).new #[.int .u32 (vm : Int), .slice o6 vl c6, .int .u64 (vt : Int), .int .i64 vs] 89
    have HF6 := Lib.hid F6
    have HVx6 := Lib.hid ((HVx5.out.later hb6).later ((Below.refl _ _).alloc (Nat.le_refl _) (.cells #[.int .u32 (vm : Int), .slice o6 vl c6, .int .u64 (vt : Int), .int .i64 vs] 89)))
    have HVb6 := Lib.hid ((HVb5.out.later hb6).later ((Below.refl _ _).alloc (Nat.le_refl _) (.cells #[.int .u32 (vm : Int), .slice o6 vl c6, .int .u64 (vt : Int), .int .i64 vs] 89)))
    have HVc6 := Lib.hid ((HVc5.out.later hb6).later ((Below.refl _ _).alloc (Nat.le_refl _) (.cells #[.int .u32 (vm : Int), .slice o6 vl c6, .int .u64 (vt : Int), .int .i64 vs] 89)))
    have HBv6 := Lib.hid ((HBv5.out.later hb6).later ((Below.refl _ _).alloc (Nat.le_refl _) (.cells #[.int .u32 (vm : Int), .slice o6 vl c6, .int .u64 (vt : Int), .int .i64 vs] 89)))
    have HBw6 := Lib.hid ((hV6).later ((Below.refl _ _).alloc (Nat.le_refl _) (.cells #[.int .u32 (vm : Int), .slice o6 vl c6, .int .u64 (vt : Int), .int .i64 vs] 89)))
    clear R6 F6 hb6 HR5 HF5 HVx5 HVb5 HVc5 HBv5 hV6 s60 s61 s62 a60 a61 a62 a63
    have x70 : (w6.alloc (.cells #[.int .u32 (vm : Int), .slice o6 vl c6, .int .u64 (vt : Int), .int .i64 vs] 89)).cell? ⟨w2.heap.size, 0, none⟩ = some (.slice ox n cx) := HF6.out.cell 4 0 rfl rfl
    have x71 : (w6.alloc (.cells #[.int .u32 (vm : Int), .slice o6 vl c6, .int .u64 (vt : Int), .int .i64 vs] 89)).cell? ⟨w2.heap.size, 1, none⟩ = some (.int .u32 (last : Int)) := HF6.out.cell 4 1 rfl rfl
    have x72 : (w6.alloc (.cells #[.int .u32 (vm : Int), .slice o6 vl c6, .int .u64 (vt : Int), .int .i64 vs] 89)).cell? ⟨w2.heap.size, 2, none⟩ = some (.int .i64 max) := HF6.out.cell 4 2 rfl rfl
    have a70 : (w6.alloc (.cells #[.int .u32 (vm : Int), .slice o6 vl c6, .int .u64 (vt : Int), .int .i64 vs] 89)).cell? ⟨w.heap.size + 1, 0, none⟩ = some (.slice xa la ca) := HF6.out.cell 5 0 rfl rfl
    have a71 : (w6.alloc (.cells #[.int .u32 (vm : Int), .slice o6 vl c6, .int .u64 (vt : Int), .int .i64 vs] 89)).cell? ⟨w.heap.size + 1, 1, none⟩ = some (.int .i64 ja) := HF6.out.cell 5 1 rfl rfl
    have a72 : (w6.alloc (.cells #[.int .u32 (vm : Int), .slice o6 vl c6, .int .u64 (vt : Int), .int .i64 vs] 89)).cell? ⟨w.heap.size + 1, 2, none⟩ = some (.int .u32 (na : Int)) := HF6.out.cell 5 2 rfl rfl
    have a73 : (w6.alloc (.cells #[.int .u32 (vm : Int), .slice o6 vl c6, .int .u64 (vt : Int), .int .i64 vs] 89)).cell? ⟨w.heap.size + 1, 3, none⟩ = some (.int .u64 (ta : Int)) := HF6.out.cell 5 3 rfl rfl
    go_wp2_with fail
    refine (HP3.out ox cx _ HVx6.out).mono ?_
    rintro e w7 ⟨o7, c7, e3, rfl, he3, hV7, hb7⟩
    have HE3 := Lib.hid he3
    clear he3
    have R7 := (HR6.out.step hb7).alloc (.cells #[.slice o7 n3 c7, .int .u32 (l3 : Int), .int .i64 m3] 79)
    have HR7 := Lib.hid R7
    have F7 := (HF6.out.later hb7).new #[.slice o7 n3 c7, .int .u32 (l3 : Int), .int .i64 m3] 79
    have HF7 := Lib.hid F7
    have HVx7 := Lib.hid ((HVx6.out.later hb7).later ((Below.refl _ _).alloc (Nat.le_refl _) (.cells #[.slice o7 n3 c7, .int .u32 (l3 : Int), .int .i64 m3] 79)))
    have HVb7 := Lib.hid ((HVb6.out.later hb7).later ((Below.refl _ _).alloc (Nat.le_refl _) (.cells #[.slice o7 n3 c7, .int .u32 (l3 : Int), .int .i64 m3] 79)))
    have HVc7 := Lib.hid ((HVc6.out.later hb7).later ((Below.refl _ _).alloc (Nat.le_refl _) (.cells #[.slice o7 n3 c7, .int .u32 (l3 : Int), .int .i64 m3] 79)))
    have HBv7 := Lib.hid ((HBv6.out.later hb7).later ((Below.refl _ _).alloc (Nat.le_refl _) (.cells #[.slice o7 n3 c7, .int .u32 (l3 : Int), .int .i64 m3] 79)))
    have HBw7 := Lib.hid ((HBw6.out.later hb7).later ((Below.refl _ _).alloc (Nat.le_refl _) (.cells #[.slice o7 n3 c7, .int .u32 (l3 : Int), .int .i64 m3] 79)))
    have HVd7 := Lib.hid ((hV7).later ((Below.refl _ _).alloc (Nat.le_refl _) (.cells #[.slice o7 n3 c7, .int .u32 (l3 : Int), .int .i64 m3] 79)))
    clear R7 F7 hb7 HR6 HF6 HVx6 HVb6 HVc6 HBv6 HBw6 hV7 x70 x71 x72 a70 a71 a72 a73
    have s80 : (w7.alloc (.cells #[.slice o7 n3 c7, .int .u32 (l3 : Int), .int .i64 m3] 79)).cell? ⟨w.heap.size, 0, none⟩ = some (.slice oa n cp) := HF7.out.cell 7 0 rfl rfl
    have s81 : (w7.alloc (.cells #[.slice o7 n3 c7, .int .u32 (l3 : Int), .int .i64 m3] 79)).cell? ⟨w.heap.size, 1, none⟩ = some (.int .u32 (last : Int)) := HF7.out.cell 7 1 rfl rfl
    have s82 : (w7.alloc (.cells #[.slice o7 n3 c7, .int .u32 (l3 : Int), .int .i64 m3] 79)).cell? ⟨w.heap.size, 2, none⟩ = some (.int .i64 max) := HF7.out.cell 7 2 rfl rfl
    have a80 : (w7.alloc (.cells #[.slice o7 n3 c7, .int .u32 (l3 : Int), .int .i64 m3] 79)).cell? ⟨w.heap.size + 1, 0, none⟩ = some (.slice xa la ca) := HF7.out.cell 6 0 rfl rfl
    have a81 : (w7.alloc (.cells #[.slice o7 n3 c7, .int .u32 (l3 : Int), .int .i64 m3] 79)).cell? ⟨w.heap.size + 1, 1, none⟩ = some (.int .i64 ja) := HF7.out.cell 6 1 rfl rfl
    have a82 : (w7.alloc (.cells #[.slice o7 n3 c7, .int .u32 (l3 : Int), .int .i64 m3] 79)).cell? ⟨w.heap.size + 1, 2, none⟩ = some (.int .u32 (na : Int)) := HF7.out.cell 6 2 rfl rfl
    have a83 : (w7.alloc (.cells #[.slice o7 n3 c7, .int .u32 (l3 : Int), .int .i64 m3] 79)).cell? ⟨w.heap.size + 1, 3, none⟩ = some (.int .u64 (ta : Int)) := HF7.out.cell 6 3 rfl rfl
    go_wp2_with fail
    refine (HD3.out oa cp _ (HV.out.later HR7.out.bel)).mono ?_
    rintro e w8 ⟨o8, c8, rfl, hV8, hb8⟩
    have R8 := (HR7.out.step hb8).alloc (.cells #[.slice o8 n3 c8, .int .u32 (l3 : Int), .int .i64 m3] 73)
    have HR8 := Lib.hid R8
    have F8 := (HF7.out.later hb8).new #[.slice o8 n3 c8, .int .u32 (l3 : Int), .int .i64 m3] 73
    have HF8 := Lib.hid F8
    have HVx8 := Lib.hid ((HVx7.out.later hb8).later ((Below.refl _ _).alloc (Nat.le_refl _) (.cells #[.slice o8 n3 c8, .int .u32 (l3 : Int), .int .i64 m3] 73)))
    have HVb8 := Lib.hid ((HVb7.out.later hb8).later ((Below.refl _ _).alloc (Nat.le_refl _) (.cells #[.slice o8 n3 c8, .int .u32 (l3 : Int), .int .i64 m3] 73)))
    have HVc8 := Lib.hid ((HVc7.out.later hb8).later ((Below.refl _ _).alloc (Nat.le_refl _) (.cells #[.slice o8 n3 c8, .int .u32 (l3 : Int), .int .i64 m3] 73)))
    have HBv8 := Lib.hid ((HBv7.out.later hb8).later ((Below.refl _ _).alloc (Nat.le_refl _) (.cells #[.slice o8 n3 c8, .int .u32 (l3 : Int), .int .i64 m3] 73)))
    have HBw8 := Lib.hid ((HBw7.out.later hb8).later ((Below.refl _ _).alloc (Nat.le_refl _) (.cells #[.slice o8 n3 c8, .int .u32 (l3 : Int), .int .i64 m3] 73)))
    have HVd8 := Lib.hid ((HVd7.out.later hb8).later ((Below.refl _ _).alloc (Nat.le_refl _) (.cells #[.slice o8 n3 c8, .int .u32 (l3 : Int), .int .i64 m3] 73)))
    have HVj8 := Lib.hid ((hV8).later ((Below.refl _ _).alloc (Nat.le_refl _) (.cells #[.slice o8 n3 c8, .int .u32 (l3 : Int), .int .i64 m3] 73)))
    clear R8 F8 hb8 HR7 HF7 HVx7 HVb7 HVc7 HBv7 HBw7 HVd7 hV8 s80 s81 s82 a80 a81 a82 a83
    have x90 : (w8.alloc (.cells #[.slice o8 n3 c8, .int .u32 (l3 : Int), .int .i64 m3] 73)).cell? ⟨w2.heap.size, 0, none⟩ = some (.slice ox n cx) := HF8.out.cell 6 0 rfl rfl
    have x91 : (w8.alloc (.cells #[.slice o8 n3 c8, .int .u32 (l3 : Int), .int .i64 m3] 73)).cell? ⟨w2.heap.size, 1, none⟩ = some (.int .u32 (last : Int)) := HF8.out.cell 6 1 rfl rfl
    have x92 : (w8.alloc (.cells #[.slice o8 n3 c8, .int .u32 (l3 : Int), .int .i64 m3] 73)).cell? ⟨w2.heap.size, 2, none⟩ = some (.int .i64 max) := HF8.out.cell 6 2 rfl rfl
    have a90 : (w8.alloc (.cells #[.slice o8 n3 c8, .int .u32 (l3 : Int), .int .i64 m3] 73)).cell? ⟨w.heap.size + 1, 0, none⟩ = some (.slice xa la ca) := HF8.out.cell 7 0 rfl rfl
    have a91 : (w8.alloc (.cells #[.slice o8 n3 c8, .int .u32 (l3 : Int), .int .i64 m3] 73)).cell? ⟨w.heap.size + 1, 1, none⟩ = some (.int .i64 ja) := HF8.out.cell 7 1 rfl rfl
    have a92 : (w8.alloc (.cells #[.slice o8 n3 c8, .int .u32 (l3 : Int), .int .i64 m3] 73)).cell? ⟨w.heap.size + 1, 2, none⟩ = some (.int .u32 (na : Int)) := HF8.out.cell 7 2 rfl rfl
    have a93 : (w8.alloc (.cells #[.slice o8 n3 c8, .int .u32 (l3 : Int), .int .i64 m3] 73)).cell? ⟨w.heap.size + 1, 3, none⟩ = some (.int .u64 (ta : Int)) := HF8.out.cell 7 3 rfl rfl
    go_wp2_with fail
    refine (HP4.out ox cx _ HVx8.out).mono ?_
    rintro e w9 ⟨o9, c9, e4, rfl, he4, hV9, hb9⟩
    have HE4 := Lib.hid he4
    clear he4
    have R9 := (HR8.out.step hb9).alloc (.cells #[.slice o9 n4 c9, .int .u32 (l4 : Int), .int .i64 m4] 79)
    have HR9 := Lib.hid R9
    have F9 := (HF8.out.later hb9).new #[.slice o9 n4 c9, .int .u32 (l4 : Int), .int .i64 m4] 79
    have HF9 := Lib.hid F9
    have HVx9 := Lib.hid ((HVx8.out.later hb9).later ((Below.refl _ _).alloc (Nat.le_refl _) (.cells #[.slice o9 n4 c9, .int .u32 (l4 : Int), .int .i64 m4] 79)))
    have HVb9 := Lib.hid ((HVb8.out.later hb9).later ((Below.refl _ _).alloc (Nat.le_refl _) (.cells #[.slice o9 n4 c9, .int .u32 (l4 : Int), .int .i64 m4] 79)))
    have HVc9 := Lib.hid ((HVc8.out.later hb9).later ((Below.refl _ _).alloc (Nat.le_refl _) (.cells #[.slice o9 n4 c9, .int .u32 (l4 : Int), .int .i64 m4] 79)))
    have HBv9 := Lib.hid ((HBv8.out.later hb9).later ((Below.refl _ _).alloc (Nat.le_refl _) (.cells #[.slice o9 n4 c9, .int .u32 (l4 : Int), .int .i64 m4] 79)))
    have HBw9 := Lib.hid ((HBw8.out.later hb9).later ((Below.refl _ _).alloc (Nat.le_refl _) (.cells #[.slice o9 n4 c9, .int .u32 (l4 : Int), .int .i64 m4] 79)))
    have HVd9 := Lib.hid ((HVd8.out.later hb9).later ((Below.refl _ _).alloc (Nat.le_refl _) (.cells #[.slice o9 n4 c9, .int .u32 (l4 : Int), .int .i64 m4] 79)))
    have HVj9 := Lib.hid ((HVj8.out.later hb9).later ((Below.refl _ _).alloc (Nat.le_refl _) (.cells #[.slice o9 n4 c9, .int .u32 (l4 : Int), .int .i64 m4] 79)))
    have HVl9 := Lib.hid ((hV9).later ((Below.refl _ _).alloc (Nat.le_refl _) (.cells #[.slice o9 n4 c9, .int .u32 (l4 : Int), .int .i64 m4] 79)))
    clear R9 F9 hb9 HR8 HF8 HVx8 HVb8 HVc8 HBv8 HBw8 HVd8 HVj8 hV9 x90 x91 x92 a90 a91 a92 a93
    have s100 : (w9.alloc (.cells #[.slice o9 n4 c9, .int .u32 (l4 : Int), .int .i64 m4] 79)).cell? ⟨w.heap.size, 0, none⟩ = some (.slice oa n cp) := HF9.out.cell 9 0 rfl rfl
    have s101 : (w9.alloc (.cells #[.slice o9 n4 c9, .int .u32 (l4 : Int), .int .i64 m4] 79)).cell? ⟨w.heap.size, 1, none⟩ = some (.int .u32 (last : Int)) := HF9.out.cell 9 1 rfl rfl
    have s102 : (w9.alloc (.cells #[.slice o9 n4 c9, .int .u32 (l4 : Int), .int .i64 m4] 79)).cell? ⟨w.heap.size, 2, none⟩ = some (.int .i64 max) := HF9.out.cell 9 2 rfl rfl
    have a100 : (w9.alloc (.cells #[.slice o9 n4 c9, .int .u32 (l4 : Int), .int .i64 m4] 79)).cell? ⟨w.heap.size + 1, 0, none⟩ = some (.slice xa la ca) := HF9.out.cell 8 0 rfl rfl
    have a101 : (w9.alloc (.cells #[.slice o9 n4 c9, .int .u32 (l4 : Int), .int .i64 m4] 79)).cell? ⟨w.heap.size + 1, 1, none⟩ = some (.int .i64 ja) := HF9.out.cell 8 1 rfl rfl
    have a102 : (w9.alloc (.cells #[.slice o9 n4 c9, .int .u32 (l4 : Int), .int .i64 m4] 79)).cell? ⟨w.heap.size + 1, 2, none⟩ = some (.int .u32 (na : Int)) := HF9.out.cell 8 2 rfl rfl
    have a103 : (w9.alloc (.cells #[.slice o9 n4 c9, .int .u32 (l4 : Int), .int .i64 m4] 79)).cell? ⟨w.heap.size + 1, 3, none⟩ = some (.int .u64 (ta : Int)) := HF9.out.cell 8 3 rfl rfl
    go_wp2_with fail
    refine (HD4.out oa cp _ (HV.out.later HR9.out.bel)).mono ?_
    rintro e w10 ⟨o10, c10, rfl, hV10, hb10⟩
    have R10 := (HR9.out.step hb10).alloc (.cells #[.slice o10 n4 c10, .int .u32 (l4 : Int), .int .i64 m4] 73)
    have HR10 := Lib.hid R10
    have F10 := (HF9.out.later hb10).new #[.slice o10 n4 c10, .int .u32 (l4 : Int), .int .i64 m4] 73
    have HF10 := Lib.hid F10
    have HVx10 := Lib.hid ((HVx9.out.later hb10).later ((Below.refl _ _).alloc (Nat.le_refl _) (.cells #[.slice o10 n4 c10, .int .u32 (l4 : Int), .int .i64 m4] 73)))
    have HVb10 := Lib.hid ((HVb9.out.later hb10).later ((Below.refl _ _).alloc (Nat.le_refl _) (.cells #[.slice o10 n4 c10, .int .u32 (l4 : Int), .int .i64 m4] 73)))
    have HVc10 := Lib.hid ((HVc9.out.later hb10).later ((Below.refl _ _).alloc (Nat.le_refl _) (.cells #[.slice o10 n4 c10, .int .u32 (l4 : Int), .int .i64 m4] 73)))
    have HBv10 := Lib.hid ((HBv9.out.later hb10).later ((Below.refl _ _).alloc (Nat.le_refl _) (.cells #[.slice o10 n4 c10, .int .u32 (l4 : Int), .int .i64 m4] 73)))
    have HBw10 := Lib.hid ((HBw9.out.later hb10).later ((Below.refl _ _).alloc (Nat.le_refl _) (.cells #[.slice o10 n4 c10, .int .u32 (l4 : Int), .int .i64 m4] 73)))
    have HVd10 := Lib.hid ((HVd9.out.later hb10).later ((Below.refl _ _).alloc (Nat.le_refl _) (.cells #[.slice o10 n4 c10, .int .u32 (l4 : Int), .int .i64 m4] 73)))
    have HVj10 := Lib.hid ((HVj9.out.later hb10).later ((Below.refl _ _).alloc (Nat.le_refl _) (.cells #[.slice o10 n4 c10, .int .u32 (l4 : Int), .int .i64 m4] 73)))
    have HVl10 := Lib.hid ((HVl9.out.later hb10).later ((Below.refl _ _).alloc (Nat.le_refl _) (.cells #[.slice o10 n4 c10, .int .u32 (l4 : Int), .int .i64 m4] 73)))
    have HVn10 := Lib.hid ((hV10).later ((Below.refl _ _).alloc (Nat.le_refl _) (.cells #[.slice o10 n4 c10, .int .u32 (l4 : Int), .int .i64 m4] 73)))
    clear R10 F10 hb10 HR9 HF9 HVx9 HVb9 HVc9 HBv9 HBw9 HVd9 HVj9 HVl9 hV10 s100 s101 s102 a100 a101 a102 a103
    have x110 : (w10.alloc (.cells #[.slice o10 n4 c10, .int .u32 (l4 : Int), .int .i64 m4] 73)).cell? ⟨w2.heap.size, 0, none⟩ = some (.slice ox n cx) := HF10.out.cell 8 0 rfl rfl
    have x111 : (w10.alloc (.cells #[.slice o10 n4 c10, .int .u32 (l4 : Int), .int .i64 m4] 73)).cell? ⟨w2.heap.size, 1, none⟩ = some (.int .u32 (last : Int)) := HF10.out.cell 8 1 rfl rfl
    have x112 : (w10.alloc (.cells #[.slice o10 n4 c10, .int .u32 (l4 : Int), .int .i64 m4] 73)).cell? ⟨w2.heap.size, 2, none⟩ = some (.int .i64 max) := HF10.out.cell 8 2 rfl rfl
    have a110 : (w10.alloc (.cells #[.slice o10 n4 c10, .int .u32 (l4 : Int), .int .i64 m4] 73)).cell? ⟨w.heap.size + 1, 0, none⟩ = some (.slice xa la ca) := HF10.out.cell 9 0 rfl rfl
    have a111 : (w10.alloc (.cells #[.slice o10 n4 c10, .int .u32 (l4 : Int), .int .i64 m4] 73)).cell? ⟨w.heap.size + 1, 1, none⟩ = some (.int .i64 ja) := HF10.out.cell 9 1 rfl rfl
    have a112 : (w10.alloc (.cells #[.slice o10 n4 c10, .int .u32 (l4 : Int), .int .i64 m4] 73)).cell? ⟨w.heap.size + 1, 2, none⟩ = some (.int .u32 (na : Int)) := HF10.out.cell 9 2 rfl rfl
    have a113 : (w10.alloc (.cells #[.slice o10 n4 c10, .int .u32 (l4 : Int), .int .i64 m4] 73)).cell? ⟨w.heap.size + 1, 3, none⟩ = some (.int .u64 (ta : Int)) := HF10.out.cell 9 3 rfl rfl
    go_wp2_with fail
    refine (HP5.out ox cx _ HVx10.out).mono ?_
    rintro e w11 ⟨o11, c11, e5, rfl, he5, hV11, hb11⟩
    have HE5 := Lib.hid he5
    clear he5
    have R11 := (HR10.out.step hb11).alloc (.cells #[.slice o11 n5 c11, .int .u32 (l5 : Int), .int .i64 m5] 79)
    have HR11 := Lib.hid R11
    have F11 := (HF10.out.later hb11).new #[.slice o11 n5 c11, .int .u32 (l5 : Int), .int .i64 m5] 79
    have HF11 := Lib.hid F11
    have HVx11 := Lib.hid ((HVx10.out.later hb11).later ((Below.refl _ _).alloc (Nat.le_refl _) (.cells #[.slice o11 n5 c11, .int .u32 (l5 : Int), .int .i64 m5] 79)))
    have HVb11 := Lib.hid ((HVb10.out.later hb11).later ((Below.refl _ _).alloc (Nat.le_refl _) (.cells #[.slice o11 n5 c11, .int .u32 (l5 : Int), .int .i64 m5] 79)))
    have HVc11 := Lib.hid ((HVc10.out.later hb11).later ((Below.refl _ _).alloc (Nat.le_refl _) (.cells #[.slice o11 n5 c11, .int .u32 (l5 : Int), .int .i64 m5] 79)))
    have HBv11 := Lib.hid ((HBv10.out.later hb11).later ((Below.refl _ _).alloc (Nat.le_refl _) (.cells #[.slice o11 n5 c11, .int .u32 (l5 : Int), .int .i64 m5] 79)))
    have HBw11 := Lib.hid ((HBw10.out.later hb11).later ((Below.refl _ _).alloc (Nat.le_refl _) (.cells #[.slice o11 n5 c11, .int .u32 (l5 : Int), .int .i64 m5] 79)))
    have HVd11 := Lib.hid ((HVd10.out.later hb11).later ((Below.refl _ _).alloc (Nat.le_refl _) (.cells #[.slice o11 n5 c11, .int .u32 (l5 : Int), .int .i64 m5] 79)))
    have HVj11 := Lib.hid ((HVj10.out.later hb11).later ((Below.refl _ _).alloc (Nat.le_refl _) (.cells #[.slice o11 n5 c11, .int .u32 (l5 : Int), .int .i64 m5] 79)))
    have HVl11 := Lib.hid ((HVl10.out.later hb11).later ((Below.refl _ _).alloc (Nat.le_refl _) (.cells #[.slice o11 n5 c11, .int .u32 (l5 : Int), .int .i64 m5] 79)))
    have HVn11 := Lib.hid ((HVn10.out.later hb11).later ((Below.refl _ _).alloc (Nat.le_refl _) (.cells #[.slice o11 n5 c11, .int .u32 (l5 : Int), .int .i64 m5] 79)))
    have HVp11 := Lib.hid ((hV11).later ((Below.refl _ _).alloc (Nat.le_refl _) (.cells #[.slice o11 n5 c11, .int .u32 (l5 : Int), .int .i64 m5] 79)))
    clear R11 F11 hb11 HR10 HF10 HVx10 HVb10 HVc10 HBv10 HBw10 HVd10 HVj10 HVl10 HVn10 hV11 x110 x111 x112 a110 a111 a112 a113
    have s120 : (w11.alloc (.cells #[.slice o11 n5 c11, .int .u32 (l5 : Int), .int .i64 m5] 79)).cell? ⟨w.heap.size, 0, none⟩ = some (.slice oa n cp) := HF11.out.cell 11 0 rfl rfl
    have s121 : (w11.alloc (.cells #[.slice o11 n5 c11, .int .u32 (l5 : Int), .int .i64 m5] 79)).cell? ⟨w.heap.size, 1, none⟩ = some (.int .u32 (last : Int)) := HF11.out.cell 11 1 rfl rfl
    have s122 : (w11.alloc (.cells #[.slice o11 n5 c11, .int .u32 (l5 : Int), .int .i64 m5] 79)).cell? ⟨w.heap.size, 2, none⟩ = some (.int .i64 max) := HF11.out.cell 11 2 rfl rfl
    have a120 : (w11.alloc (.cells #[.slice o11 n5 c11, .int .u32 (l5 : Int), .int .i64 m5] 79)).cell? ⟨w.heap.size + 1, 0, none⟩ = some (.slice xa la ca) := HF11.out.cell 10 0 rfl rfl
    have a121 : (w11.alloc (.cells #[.slice o11 n5 c11, .int .u32 (l5 : Int), .int .i64 m5] 79)).cell? ⟨w.heap.size + 1, 1, none⟩ = some (.int .i64 ja) := HF11.out.cell 10 1 rfl rfl
    have a122 : (w11.alloc (.cells #[.slice o11 n5 c11, .int .u32 (l5 : Int), .int .i64 m5] 79)).cell? ⟨w.heap.size + 1, 2, none⟩ = some (.int .u32 (na : Int)) := HF11.out.cell 10 2 rfl rfl
    have a123 : (w11.alloc (.cells #[.slice o11 n5 c11, .int .u32 (l5 : Int), .int .i64 m5] 79)).cell? ⟨w.heap.size + 1, 3, none⟩ = some (.int .u64 (ta : Int)) := HF11.out.cell 10 3 rfl rfl
    go_wp2_with fail
    refine (HD5.out oa cp _ (HV.out.later HR11.out.bel)).mono ?_
    rintro e w12 ⟨o12, c12, rfl, hV12, hb12⟩
    have R12 := (HR11.out.step hb12).alloc (.cells #[.slice o12 n5 c12, .int .u32 (l5 : Int), .int .i64 m5] 73)
    have HR12 := Lib.hid R12
    have F12 := (HF11.out.later hb12).new #[.slice o12 n5 c12, .int .u32 (l5 : Int), .int .i64 m5] 73
    have HF12 := Lib.hid F12
    have HVx12 := Lib.hid ((HVx11.out.later hb12).later ((Below.refl _ _).alloc (Nat.le_refl _) (.cells #[.slice o12 n5 c12, .int .u32 (l5 : Int), .int .i64 m5] 73)))
    have HVb12 := Lib.hid ((HVb11.out.later hb12).later ((Below.refl _ _).alloc (Nat.le_refl _) (.cells #[.slice o12 n5 c12, .int .u32 (l5 : Int), .int .i64 m5] 73)))
    have HVc12 := Lib.hid ((HVc11.out.later hb12).later ((Below.refl _ _).alloc (Nat.le_refl _) (.cells #[.slice o12 n5 c12, .int .u32 (l5 : Int), .int .i64 m5] 73)))
    have HBv12 := Lib.hid ((HBv11.out.later hb12).later ((Below.refl _ _).alloc (Nat.le_refl _) (.cells #[.slice o12 n5 c12, .int .u32 (l5 : Int), .int .i64 m5] 73)))
    have HBw12 := Lib.hid ((HBw11.out.later hb12).later ((Below.refl _ _).alloc (Nat.le_refl _) (.cells #[.slice o12 n5 c12, .int .u32 (l5 : Int), .int .i64 m5] 73)))
    have HVd12 := Lib.hid ((HVd11.out.later hb12).later ((Below.refl _ _).alloc (Nat.le_refl _) (.cells #[.slice o12 n5 c12, .int .u32 (l5 : Int), .int .i64 m5] 73)))
    have HVj12 := Lib.hid ((HVj11.out.later hb12).later ((Below.refl _ _).alloc (Nat.le_refl _) (.cells #[.slice o12 n5 c12, .int .u32 (l5 : Int), .int .i64 m5] 73)))
    have HVl12 := Lib.hid ((HVl11.out.later hb12).later ((Below.refl _ _).alloc (Nat.le_refl _) (.cells #[.slice o12 n5 c12, .int .u32 (l5 : Int), .int .i64 m5] 73)))
    have HVn12 := Lib.hid ((HVn11.out.later hb12).later ((Below.refl _ _).alloc (Nat.le_refl _) (.cells #[.slice o12 n5 c12, .int .u32 (l5 : Int), .int .i64 m5] 73)))
    have HVp12 := Lib.hid ((HVp11.out.later hb12).later ((Below.refl _ _).alloc (Nat.le_refl _) (.cells #[.slice o12 n5 c12, .int .u32 (l5 : Int), .int .i64 m5] 73)))
    have HVr12 := Lib.hid ((hV12).later ((Below.refl _ _).alloc (Nat.le_refl _) (.cells #[.slice o12 n5 c12, .int .u32 (l5 : Int), .int .i64 m5] 73)))
    clear R12 F12 hb12 HR11 HF11 HVx11 HVb11 HVc11 HBv11 HBw11 HVd11 HVj11 HVl11 HVn11 HVp11 hV12 s120 s121 s122 a120 a121 a122 a123
    have a130 : (w12.alloc (.cells #[.slice o12 n5 c12, .int .u32 (l5 : Int), .int .i64 m5] 73)).cell? ⟨w.heap.size + 1, 0, none⟩ = some (.slice xa la ca) := HF12.out.cell 11 0 rfl rfl
    have a131 : (w12.alloc (.cells #[.slice o12 n5 c12, .int .u32 (l5 : Int), .int .i64 m5] 73)).cell? ⟨w.heap.size + 1, 1, none⟩ = some (.int .i64 ja) := HF12.out.cell 11 1 rfl rfl
    have a132 : (w12.alloc (.cells #[.slice o12 n5 c12, .int .u32 (l5 : Int), .int .i64 m5] 73)).cell? ⟨w.heap.size + 1, 2, none⟩ = some (.int .u32 (na : Int)) := HF12.out.cell 11 2 rfl rfl
    have a133 : (w12.alloc (.cells #[.slice o12 n5 c12, .int .u32 (l5 : Int), .int .i64 m5] 73)).cell? ⟨w.heap.size + 1, 3, none⟩ = some (.int .u64 (ta : Int)) := HF12.out.cell 11 3 rfl rfl
    go_wp2_with fail
    refine (new_any ja _).mono ?_
    rintro e w13 ⟨mx, eu, rfl, hnew, hb13⟩
    have HNEW := Lib.hid hnew
    clear hnew
    have R13 := (HR12.out.step hb13).alloc (.cells #[.slice none 0 0, .int .u32 0, .int .i64 mx] 79)
    have HR13 := Lib.hid R13
    have F13 := (HF12.out.later hb13).new #[.slice none 0 0, .int .u32 0, .int .i64 mx] 79
    have HF13 := Lib.hid F13
    have HVx13 := Lib.hid ((HVx12.out.later hb13).later ((Below.refl _ _).alloc (Nat.le_refl _) (.cells #[.slice none 0 0, .int .u32 0, .int .i64 mx] 79)))
    have HVb13 := Lib.hid ((HVb12.out.later hb13).later ((Below.refl _ _).alloc (Nat.le_refl _) (.cells #[.slice none 0 0, .int .u32 0, .int .i64 mx] 79)))
    have HVc13 := Lib.hid ((HVc12.out.later hb13).later ((Below.refl _ _).alloc (Nat.le_refl _) (.cells #[.slice none 0 0, .int .u32 0, .int .i64 mx] 79)))
    have HBv13 := Lib.hid ((HBv12.out.later hb13).later ((Below.refl _ _).alloc (Nat.le_refl _) (.cells #[.slice none 0 0, .int .u32 0, .int .i64 mx] 79)))
    have HBw13 := Lib.hid ((HBw12.out.later hb13).later ((Below.refl _ _).alloc (Nat.le_refl _) (.cells #[.slice none 0 0, .int .u32 0, .int .i64 mx] 79)))
    have HVd13 := Lib.hid ((HVd12.out.later hb13).later ((Below.refl _ _).alloc (Nat.le_refl _) (.cells #[.slice none 0 0, .int .u32 0, .int .i64 mx] 79)))
    have HVj13 := Lib.hid ((HVj12.out.later hb13).later ((Below.refl _ _).alloc (Nat.le_refl _) (.cells #[.slice none 0 0, .int .u32 0, .int .i64 mx] 79)))
    have HVl13 := Lib.hid ((HVl12.out.later hb13).later ((Below.refl _ _).alloc (Nat.le_refl _) (.cells #[.slice none 0 0, .int .u32 0, .int .i64 mx] 79)))
    have HVn13 := Lib.hid ((HVn12.out.later hb13).later ((Below.refl _ _).alloc (Nat.le_refl _) (.cells #[.slice none 0 0, .int .u32 0, .int .i64 mx] 79)))
    have HVp13 := Lib.hid ((HVp12.out.later hb13).later ((Below.refl _ _).alloc (Nat.le_refl _) (.cells #[.slice none 0 0, .int .u32 0, .int .i64 mx] 79)))
    have HVr13 := Lib.hid ((HVr12.out.later hb13).later ((Below.refl _ _).alloc (Nat.le_refl _) (.cells #[.slice none 0 0, .int .u32 0, .int .i64 mx] 79)))
    clear R13 F13 hb13 HR12 HF12 HVx12 HVb12 HVc12 HBv12 HBw12 HVd12 HVj12 HVl12 HVn12 HVp12 HVr12 a130 a131 a132 a133
    have p140 : (w13.alloc (.cells #[.slice none 0 0, .int .u32 0, .int .i64 mx] 79)).cell? ⟨w3.heap.size, 0, none⟩ = some (.slice o3 n1 c3) := HF13.out.cell 10 0 rfl rfl
    have p141 : (w13.alloc (.cells #[.slice none 0 0, .int .u32 0, .int .i64 mx] 79)).cell? ⟨w3.heap.size, 1, none⟩ = some (.int .u32 (l1 : Int)) := HF13.out.cell 10 1 rfl rfl
    have p142 : (w13.alloc (.cells #[.slice none 0 0, .int .u32 0, .int .i64 mx] 79)).cell? ⟨w3.heap.size, 2, none⟩ = some (.int .i64 m1) := HF13.out.cell 10 2 rfl rfl
    have q140 : (w13.alloc (.cells #[.slice none 0 0, .int .u32 0, .int .i64 mx] 79)).cell? ⟨w4.heap.size, 0, none⟩ = some (.slice o4 n1 c4) := HF13.out.cell 9 0 rfl rfl
    have q141 : (w13.alloc (.cells #[.slice none 0 0, .int .u32 0, .int .i64 mx] 79)).cell? ⟨w4.heap.size, 1, none⟩ = some (.int .u32 (l1 : Int)) := HF13.out.cell 9 1 rfl rfl
    have q142 : (w13.alloc (.cells #[.slice none 0 0, .int .u32 0, .int .i64 mx] 79)).cell? ⟨w4.heap.size, 2, none⟩ = some (.int .i64 m1) := HF13.out.cell 9 2 rfl rfl
    go_wp2_with fail
    refine (issec_yes o3 o4 n1 c3 c4 _ _ _ _ HVb13.out HVc13.out HN1.out).mono ?_
    rintro e w14 ⟨rfl, hb14⟩
    have HR14 := Lib.hid (HR13.out.step hb14)
    have HF14 := Lib.hid (HF13.out.later hb14)
    have HVx14 := Lib.hid (HVx13.out.later hb14)
    have HVb14 := Lib.hid (HVb13.out.later hb14)
    have HVc14 := Lib.hid (HVc13.out.later hb14)
    have HBv14 := Lib.hid (HBv13.out.later hb14)
    have HBw14 := Lib.hid (HBw13.out.later hb14)
    have HVd14 := Lib.hid (HVd13.out.later hb14)
    have HVj14 := Lib.hid (HVj13.out.later hb14)
    have HVl14 := Lib.hid (HVl13.out.later hb14)
    have HVn14 := Lib.hid (HVn13.out.later hb14)
    have HVp14 := Lib.hid (HVp13.out.later hb14)
    have HVr14 := Lib.hid (HVr13.out.later hb14)
    clear hb14 HR13 HF13 HVx13 HVb13 HVc13 HBv13 HBw13 HVd13 HVj13 HVl13 HVn13 HVp13 HVr13
    clear p140 p141 p142 q140 q141 q142
    go_wp2_with fail
    refine (num_errv HE1.out _ HR14.out.handle).mono ?_
    rintro e w15 ⟨rfl, hb15⟩
    have HR15 := Lib.hid (HR14.out.step hb15)
    have HF15 := Lib.hid (HF14.out.later hb15)
    have HVx15 := Lib.hid (HVx14.out.later hb15)
    have HVb15 := Lib.hid (HVb14.out.later hb15)
    have HVc15 := Lib.hid (HVc14.out.later hb15)
    have HBv15 := Lib.hid (HBv14.out.later hb15)
    have HBw15 := Lib.hid (HBw14.out.later hb15)
    have HVd15 := Lib.hid (HVd14.out.later hb15)
    have HVj15 := Lib.hid (HVj14.out.later hb15)
    have HVl15 := Lib.hid (HVl14.out.later hb15)
    have HVn15 := Lib.hid (HVn14.out.later hb15)
    have HVp15 := Lib.hid (HVp14.out.later hb15)
    have HVr15 := Lib.hid (HVr14.out.later hb15)
    clear hb15 HR14 HF14 HVx14 HVb14 HVc14 HBv14 HBw14 HVd14 HVj14 HVl14 HVn14 HVp14 HVr14
    have p160 : w15.cell? ⟨w5.heap.size, 0, none⟩ = some (.int .u32 (vm : Int)) := HF15.out.cell 8 0 rfl rfl
    have p161 : w15.cell? ⟨w5.heap.size, 1, none⟩ = some (.slice o5 vl c5) := HF15.out.cell 8 1 rfl rfl
    have p162 : w15.cell? ⟨w5.heap.size, 2, none⟩ = some (.int .u64 (vt : Int)) := HF15.out.cell 8 2 rfl rfl
    have p163 : w15.cell? ⟨w5.heap.size, 3, none⟩ = some (.int .i64 vs) := HF15.out.cell 8 3 rfl rfl
    have q160 : w15.cell? ⟨w6.heap.size, 0, none⟩ = some (.int .u32 (vm : Int)) := HF15.out.cell 7 0 rfl rfl
    have q161 : w15.cell? ⟨w6.heap.size, 1, none⟩ = some (.slice o6 vl c6) := HF15.out.cell 7 1 rfl rfl
    have q162 : w15.cell? ⟨w6.heap.size, 2, none⟩ = some (.int .u64 (vt : Int)) := HF15.out.cell 7 2 rfl rfl
    have q163 : w15.cell? ⟨w6.heap.size, 3, none⟩ = some (.int .i64 vs) := HF15.out.cell 7 3 rfl rfl
    go_wp2_with fail
    refine (isver_yes _ _ _ o5 o6 vl c5 c6 vf _ HBv15.out HBw15.out).mono ?_
    rintro e w16 ⟨rfl, hb16⟩
    have HR16 := Lib.hid (HR15.out.step hb16)
    have HF16 := Lib.hid (HF15.out.later hb16)
    have HVx16 := Lib.hid (HVx15.out.later hb16)
    have HVb16 := Lib.hid (HVb15.out.later hb16)
    have HVc16 := Lib.hid (HVc15.out.later hb16)
    have HBv16 := Lib.hid (HBv15.out.later hb16)
    have HBw16 := Lib.hid (HBw15.out.later hb16)
    have HVd16 := Lib.hid (HVd15.out.later hb16)
    have HVj16 := Lib.hid (HVj15.out.later hb16)
    have HVl16 := Lib.hid (HVl15.out.later hb16)
    have HVn16 := Lib.hid (HVn15.out.later hb16)
    have HVp16 := Lib.hid (HVp15.out.later hb16)
    have HVr16 := Lib.hid (HVr15.out.later hb16)
    clear hb16 HR15 HF15 HVx15 HVb15 HVc15 HBv15 HBw15 HVd15 HVj15 HVl15 HVn15 HVp15 HVr15
    clear p160 p161 p162 p163 q160 q161 q162 q163
    go_wp2_with fail
    refine (num_errv HE2.out _ HR16.out.handle).mono ?_
    rintro e w17 ⟨rfl, hb17⟩
    have HR17 := Lib.hid (HR16.out.step hb17)
    have HF17 := Lib.hid (HF16.out.later hb17)
    have HVx17 := Lib.hid (HVx16.out.later hb17)
    have HVb17 := Lib.hid (HVb16.out.later hb17)
    have HVc17 := Lib.hid (HVc16.out.later hb17)
    have HBv17 := Lib.hid (HBv16.out.later hb17)
    have HBw17 := Lib.hid (HBw16.out.later hb17)
    have HVd17 := Lib.hid (HVd16.out.later hb17)
    have HVj17 := Lib.hid (HVj16.out.later hb17)
    have HVl17 := Lib.hid (HVl16.out.later hb17)
    have HVn17 := Lib.hid (HVn16.out.later hb17)
    have HVp17 := Lib.hid (HVp16.out.later hb17)
    have HVr17 := Lib.hid (HVr16.out.later hb17)
    clear hb17 HR16 HF16 HVx16 HVb16 HVc16 HBv16 HBw16 HVd16 HVj16 HVl16 HVn16 HVp16 HVr16
    have p180 : w17.cell? ⟨w7.heap.size, 0, none⟩ = some (.slice o7 n3 c7) := HF17.out.cell 6 0 rfl rfl
    have p181 : w17.cell? ⟨w7.heap.size, 1, none⟩ = some (.int .u32 (l3 : Int)) := HF17.out.cell 6 1 rfl rfl
    have p182 : w17.cell? ⟨w7.heap.size, 2, none⟩ = some (.int .i64 m3) := HF17.out.cell 6 2 rfl rfl
    have q180 : w17.cell? ⟨w8.heap.size, 0, none⟩ = some (.slice o8 n3 c8) := HF17.out.cell 5 0 rfl rfl
    have q181 : w17.cell? ⟨w8.heap.size, 1, none⟩ = some (.int .u32 (l3 : Int)) := HF17.out.cell 5 1 rfl rfl
    have q182 : w17.cell? ⟨w8.heap.size, 2, none⟩ = some (.int .i64 m3) := HF17.out.cell 5 2 rfl rfl
    go_wp2_with fail
    refine (issec_yes o7 o8 n3 c7 c8 _ _ _ _ HVd17.out HVj17.out HN3.out).mono ?_
    rintro e w18 ⟨rfl, hb18⟩
    have HR18 := Lib.hid (HR17.out.step hb18)
    have HF18 := Lib.hid (HF17.out.later hb18)
    have HVx18 := Lib.hid (HVx17.out.later hb18)
    have HVb18 := Lib.hid (HVb17.out.later hb18)
    have HVc18 := Lib.hid (HVc17.out.later hb18)
    have HBv18 := Lib.hid (HBv17.out.later hb18)
    have HBw18 := Lib.hid (HBw17.out.later hb18)
    have HVd18 := Lib.hid (HVd17.out.later hb18)
    have HVj18 := Lib.hid (HVj17.out.later hb18)
    have HVl18 := Lib.hid (HVl17.out.later hb18)
    have HVn18 := Lib.hid (HVn17.out.later hb18)
    have HVp18 := Lib.hid (HVp17.out.later hb18)
    have HVr18 := Lib.hid (HVr17.out.later hb18)
    clear hb18 HR17 HF17 HVx17 HVb17 HVc17 HBv17 HBw17 HVd17 HVj17 HVl17 HVn17 HVp17 HVr17
    clear p180 p181 p182 q180 q181 q182
    go_wp2_with fail
    refine (num_errv HE3.out _ HR18.out.handle).mono ?_
    rintro e w19 ⟨rfl, hb19⟩
    have HR19 := Lib.hid (HR18.out.step hb19)
    have HF19 := Lib.hid (HF18.out.later hb19)
    have HVx19 := Lib.hid (HVx18.out.later hb19)
    have HVb19 := Lib.hid (HVb18.out.later hb19)
    have HVc19 := Lib.hid (HVc18.out.later hb19)
    have HBv19 := Lib.hid (HBv18.out.later hb19)
    have HBw19 := Lib.hid (HBw18.out.later hb19)
    have HVd19 := Lib.hid (HVd18.out.later hb19)
    have HVj19 := Lib.hid (HVj18.out.later hb19)
    have HVl19 := Lib.hid (HVl18.out.later hb19)
    have HVn19 := Lib.hid (HVn18.out.later hb19)
    have HVp19 := Lib.hid (HVp18.out.later hb19)
    have HVr19 := Lib.hid (HVr18.out.later hb19)
    clear hb19 HR18 HF18 HVx18 HVb18 HVc18 HBv18 HBw18 HVd18 HVj18 HVl18 HVn18 HVp18 HVr18
    have p200 : w19.cell? ⟨w9.heap.size, 0, none⟩ = some (.slice o9 n4 c9) := HF19.out.cell 4 0 rfl rfl
    have p201 : w19.cell? ⟨w9.heap.size, 1, none⟩ = some (.int .u32 (l4 : Int)) := HF19.out.cell 4 1 rfl rfl
    have p202 : w19.cell? ⟨w9.heap.size, 2, none⟩ = some (.int .i64 m4) := HF19.out.cell 4 2 rfl rfl
    have q200 : w19.cell? ⟨w10.heap.size, 0, none⟩ = some (.slice o10 n4 c10) := HF19.out.cell 3 0 rfl rfl
    have q201 : w19.cell? ⟨w10.heap.size, 1, none⟩ = some (.int .u32 (l4 : Int)) := HF19.out.cell 3 1 rfl rfl
    have q202 : w19.cell? ⟨w10.heap.size, 2, none⟩ = some (.int .i64 m4) := HF19.out.cell 3 2 rfl rfl
    go_wp2_with fail
    refine (issec_yes o9 o10 n4 c9 c10 _ _ _ _ HVl19.out HVn19.out HN4.out).mono ?_
    rintro e w20 ⟨rfl, hb20⟩
    have HR20 := Lib.hid (HR19.out.step hb20)
    have HF20 := Lib.hid (HF19.out.later hb20)
    have HVx20 := Lib.hid (HVx19.out.later hb20)
    have HVb20 := Lib.hid (HVb19.out.later hb20)
    have HVc20 := Lib.hid (HVc19.out.later hb20)
    have HBv20 := Lib.hid (HBv19.out.later hb20)
    have HBw20 := Lib.hid (HBw19.out.later hb20)
    have HVd20 := Lib.hid (HVd19.out.later hb20)
    have HVj20 := Lib.hid (HVj19.out.later hb20)
    have HVl20 := Lib.hid (HVl19.out.later hb20)
    have HVn20 := Lib.hid (HVn19.out.later hb20)
    have HVp20 := Lib.hid (HVp19.out.later hb20)
    have HVr20 := Lib.hid (HVr19.out.later hb20)
    clear hb20 HR19 HF19 HVx19 HVb19 HVc19 HBv19 HBw19 HVd19 HVj19 HVl19 HVn19 HVp19 HVr19
    clear p200 p201 p202 q200 q201 q202
    go_wp2_with fail
    refine (num_errv HE4.out _ HR20.out.handle).mono ?_
    rintro e w21 ⟨rfl, hb21⟩
    have HR21 := Lib.hid (HR20.out.step hb21)
    have HF21 := Lib.hid (HF20.out.later hb21)
    have HVx21 := Lib.hid (HVx20.out.later hb21)
    have HVb21 := Lib.hid (HVb20.out.later hb21)
    have HVc21 := Lib.hid (HVc20.out.later hb21)
    have HBv21 := Lib.hid (HBv20.out.later hb21)
    have HBw21 := Lib.hid (HBw20.out.later hb21)
    have HVd21 := Lib.hid (HVd20.out.later hb21)
    have HVj21 := Lib.hid (HVj20.out.later hb21)
    have HVl21 := Lib.hid (HVl20.out.later hb21)
    have HVn21 := Lib.hid (HVn20.out.later hb21)
    have HVp21 := Lib.hid (HVp20.out.later hb21)
    have HVr21 := Lib.hid (HVr20.out.later hb21)
    clear hb21 HR20 HF20 HVx20 HVb20 HVc20 HBv20 HBw20 HVd20 HVj20 HVl20 HVn20 HVp20 HVr20
    have p220 : w21.cell? ⟨w11.heap.size, 0, none⟩ = some (.slice o11 n5 c11) := HF21.out.cell 2 0 rfl rfl
    have p221 : w21.cell? ⟨w11.heap.size, 1, none⟩ = some (.int .u32 (l5 : Int)) := HF21.out.cell 2 1 rfl rfl
    have p222 : w21.cell? ⟨w11.heap.size, 2, none⟩ = some (.int .i64 m5) := HF21.out.cell 2 2 rfl rfl
    have q220 : w21.cell? ⟨w12.heap.size, 0, none⟩ = some (.slice o12 n5 c12) := HF21.out.cell 1 0 rfl rfl
    have q221 : w21.cell? ⟨w12.heap.size, 1, none⟩ = some (.int .u32 (l5 : Int)) := HF21.out.cell 1 1 rfl rfl
    have q222 : w21.cell? ⟨w12.heap.size, 2, none⟩ = some (.int .i64 m5) := HF21.out.cell 1 2 rfl rfl
    go_wp2_with fail
    refine (issec_yes o11 o12 n5 c11 c12 _ _ _ _ HVp21.out HVr21.out HN5.out).mono ?_
    rintro e w22 ⟨rfl, hb22⟩
    have HR22 := Lib.hid (HR21.out.step hb22)
    have HF22 := Lib.hid (HF21.out.later hb22)
    have HVx22 := Lib.hid (HVx21.out.later hb22)
    have HVb22 := Lib.hid (HVb21.out.later hb22)
    have HVc22 := Lib.hid (HVc21.out.later hb22)
    have HBv22 := Lib.hid (HBv21.out.later hb22)
    have HBw22 := Lib.hid (HBw21.out.later hb22)
    have HVd22 := Lib.hid (HVd21.out.later hb22)
    have HVj22 := Lib.hid (HVj21.out.later hb22)
    have HVl22 := Lib.hid (HVl21.out.later hb22)
    have HVn22 := Lib.hid (HVn21.out.later hb22)
    have HVp22 := Lib.hid (HVp21.out.later hb22)
    have HVr22 := Lib.hid (HVr21.out.later hb22)
    clear hb22 HR21 HF21 HVx21 HVb21 HVc21 HBv21 HBw21 HVd21 HVj21 HVl21 HVn21 HVp21 HVr21
    clear p220 p221 p222 q220 q221 q222
    go_wp2_with fail
    refine (num_errv HE5.out _ HR22.out.handle).mono ?_
    rintro e w23 ⟨rfl, hb23⟩
    have HR23 := Lib.hid (HR22.out.step hb23)
    have HF23 := Lib.hid (HF22.out.later hb23)
    have HVx23 := Lib.hid (HVx22.out.later hb23)
    have HVb23 := Lib.hid (HVb22.out.later hb23)
    have HVc23 := Lib.hid (HVc22.out.later hb23)
    have HBv23 := Lib.hid (HBv22.out.later hb23)
    have HBw23 := Lib.hid (HBw22.out.later hb23)
    have HVd23 := Lib.hid (HVd22.out.later hb23)
    have HVj23 := Lib.hid (HVj22.out.later hb23)
    have HVl23 := Lib.hid (HVl22.out.later hb23)
    have HVn23 := Lib.hid (HVn22.out.later hb23)
    have HVp23 := Lib.hid (HVp22.out.later hb23)
    have HVr23 := Lib.hid (HVr22.out.later hb23)
    clear hb23 HR22 HF22 HVx22 HVb22 HVc22 HBv22 HBw22 HVd22 HVj22 HVl22 HVn22 HVp22 HVr22
    have p240 : w23.cell? ⟨w2.heap.size, 0, none⟩ = some (.slice ox n cx) := HF23.out.cell 11 0 rfl rfl
    have p241 : w23.cell? ⟨w2.heap.size, 1, none⟩ = some (.int .u32 (last : Int)) := HF23.out.cell 11 1 rfl rfl
    have p242 : w23.cell? ⟨w2.heap.size, 2, none⟩ = some (.int .i64 max) := HF23.out.cell 11 2 rfl rfl
    have q240 : w23.cell? ⟨w.heap.size, 0, none⟩ = some (.slice oa n cp) := HF23.out.cell 13 0 rfl rfl
    have q241 : w23.cell? ⟨w.heap.size, 1, none⟩ = some (.int .u32 (last : Int)) := HF23.out.cell 13 1 rfl rfl
    have q242 : w23.cell? ⟨w.heap.size, 2, none⟩ = some (.int .i64 max) := HF23.out.cell 13 2 rfl rfl
    go_wp2_with fail
    refine (issec_yes ox oa n cx cp _ _ _ _ HVx23.out (HV.out.later HR23.out.bel) HN.out).mono ?_
    rintro e w24 ⟨rfl, hb24⟩
    have HR24 := Lib.hid (HR23.out.step hb24)
    have HF24 := Lib.hid (HF23.out.later hb24)
    have HVx24 := Lib.hid (HVx23.out.later hb24)
    have HVb24 := Lib.hid (HVb23.out.later hb24)
    have HVc24 := Lib.hid (HVc23.out.later hb24)
    have HBv24 := Lib.hid (HBv23.out.later hb24)
    have HBw24 := Lib.hid (HBw23.out.later hb24)
    have HVd24 := Lib.hid (HVd23.out.later hb24)
    have HVj24 := Lib.hid (HVj23.out.later hb24)
    have HVl24 := Lib.hid (HVl23.out.later hb24)
    have HVn24 := Lib.hid (HVn23.out.later hb24)
    have HVp24 := Lib.hid (HVp23.out.later hb24)
    have HVr24 := Lib.hid (HVr23.out.later hb24)
    clear hb24 HR23 HF23 HVx23 HVb23 HVc23 HBv23 HBw23 HVd23 HVj23 HVl23 HVn23 HVp23 HVr23
    clear p240 p241 p242 q240 q241 q242
    rcases HNEW.out with ⟨h1, h8, e1, e2⟩ | ⟨h1, e1, e2⟩
    · obtain rfl : ja = mx := e1.symm
      subst e2
      clear HNEW
      rcases HSS.out with hS | hS
      · have HS := Lib.hid hS
        clear hS
        have k0 : w24.cell? ⟨w13.heap.size, 0, none⟩ = some (.slice none 0 0) := HF24.out.cell 0 0 rfl rfl
        have k1 : w24.cell? ⟨w13.heap.size, 1, none⟩ = some (.int .u32 0) := HF24.out.cell 0 1 rfl rfl
        have k2 : w24.cell? ⟨w13.heap.size, 2, none⟩ = some (.int .i64 ja) := HF24.out.cell 0 2 rfl rfl
        have k3 : w24.cell? ⟨w.heap.size + 1, 0, none⟩ = some (.slice xa la ca) := HF24.out.cell 12 0 rfl rfl
        have k4 : w24.cell? ⟨w.heap.size + 1, 1, none⟩ = some (.int .i64 ja) := HF24.out.cell 12 1 rfl rfl
        have k5 : w24.cell? ⟨w.heap.size + 1, 2, none⟩ = some (.int .u32 (na : Int)) := HF24.out.cell 12 2 rfl rfl
        have k6 : w24.cell? ⟨w.heap.size + 1, 3, none⟩ = some (.int .u64 (ta : Int)) := HF24.out.cell 12 3 rfl rfl
        have k7 : w24.cell? ⟨w2.heap.size, 0, none⟩ = some (.slice ox n cx) := HF24.out.cell 11 0 rfl rfl
        have k8 : w24.cell? ⟨w2.heap.size, 1, none⟩ = some (.int .u32 (last : Int)) := HF24.out.cell 11 1 rfl rfl
        have k9 : w24.cell? ⟨w2.heap.size, 2, none⟩ = some (.int .i64 max) := HF24.out.cell 11 2 rfl rfl
        have k10 : w24.cell? ⟨w.heap.size, 0, none⟩ = some (.slice oa n cp) := HF24.out.cell 13 0 rfl rfl
        have k11 : w24.cell? ⟨w.heap.size, 1, none⟩ = some (.int .u32 (last : Int)) := HF24.out.cell 13 1 rfl rfl
        have k12 : w24.cell? ⟨w.heap.size, 2, none⟩ = some (.int .i64 max) := HF24.out.cell 13 2 rfl rfl
        have HFd := HF24
        have HRd := HR24
        have HXd := HVx24
        have Kd : Hid (Wn w w24.drew ∧ Fr w24.drew [(w13.heap.size, #[.slice none 0 0, .int .u32 0, .int .i64 ja], 79), (w12.heap.size, #[.slice o12 n5 c12, .int .u32 (l5 : Int), .int .i64 m5], 73), (w11.heap.size, #[.slice o11 n5 c11, .int .u32 (l5 : Int), .int .i64 m5], 79), (w10.heap.size, #[.slice o10 n4 c10, .int .u32 (l4 : Int), .int .i64 m4], 73), (w9.heap.size, #[.slice o9 n4 c9, .int .u32 (l4 : Int), .int .i64 m4], 79), (w8.heap.size, #[.slice o8 n3 c8, .int .u32 (l3 : Int), .int .i64 m3], 73), (w7.heap.size, #[.slice o7 n3 c7, .int .u32 (l3 : Int), .int .i64 m3], 79), (w6.heap.size, #[.int .u32 (vm : Int), .slice o6 vl c6, .int .u64 (vt : Int), .int .i64 vs], 89), (w5.heap.size, #[.int .u32 (vm : Int), .slice o5 vl c5, .int .u64 (vt : Int), .int .i64 vs], 86), (w4.heap.size, #[.slice o4 n1 c4, .int .u32 (l1 : Int), .int .i64 m1], 73), (w3.heap.size, #[.slice o3 n1 c3, .int .u32 (l1 : Int), .int .i64 m1], 79), (w2.heap.size, #[.slice ox n cx, .int .u32 (last : Int), .int .i64 max], 79), (w.heap.size + 1, #[.slice xa la ca, .int .i64 ja, .int .u32 (na : Int), .int .u64 (ta : Int)], 75), (w.heap.size, #[.slice oa n cp, .int .u32 (last : Int), .int .i64 max], 73)] ∧ Vers w24.drew ox n V) := Lib.hid ⟨HR24.out.drew, HF24.out, HVx24.out⟩
        clear HFd HRd HXd
        go_wp2_with fail
        refine wp_region_held_drew (S := (fun w' => w'.cell? ⟨w13.heap.size, 0, none⟩ = some (.slice none 0 0) ∧ w'.cell? ⟨w13.heap.size, 1, none⟩ = some (.int .u32 0) ∧ w'.cell? ⟨w13.heap.size, 2, none⟩ = some (.int .i64 ja) ∧ w'.cell? ⟨w.heap.size + 1, 0, none⟩ = some (.slice xa la ca) ∧ w'.cell? ⟨w.heap.size + 1, 1, none⟩ = some (.int .i64 ja) ∧ w'.cell? ⟨w.heap.size + 1, 2, none⟩ = some (.int .u32 (na : Int)) ∧ w'.cell? ⟨w.heap.size + 1, 3, none⟩ = some (.int .u64 (ta : Int)) ∧ w'.cell? ⟨w2.heap.size, 0, none⟩ = some (.slice ox n cx) ∧ w'.cell? ⟨w2.heap.size, 1, none⟩ = some (.int .u32 (last : Int)) ∧ w'.cell? ⟨w2.heap.size, 2, none⟩ = some (.int .i64 max) ∧ w'.cell? ⟨w.heap.size, 0, none⟩ = some (.slice oa n cp) ∧ w'.cell? ⟨w.heap.size, 1, none⟩ = some (.int .u32 (last : Int)) ∧ w'.cell? ⟨w.heap.size, 2, none⟩ = some (.int .i64 max))) (by kernel_rfl) ?_ (fun hHeld => ?_)
        · (try dsimp only)
          go_keep
        refine wpAnyH_take (i := 0) (oi := { dst := some 196, op := Op.move (Operand.tmp 27), type := 26, pos := "law.go:104", after := #[], guard := none }) (v := ?_) rfl (by kernel_rfl) (by kernel_rfl) (by kernel_rfl) (fun _ _ _ h => h) (Or.inl ⟨by rfl, ?_⟩) (by assumption) ?_
        rotate_left
        · intro w hSw
          (try dsimp only at hSw)
          go_simp
          (try with_reducible rfl)
        (try simp only [Act.put, List.setIfInBounds_toArray, List.set_cons_zero, List.set_cons_succ])
        refine wpAnyH_take (i := 1) (oi := { dst := some 197, op := Op.binOp BinOp.eql 26 (Operand.tmp 196) (Operand.const Value.nilIface) 26, type := 4, pos := "law.go:104", after := #[{ on := 0, ground := Ground.data }], guard := none }) (v := ?_) rfl (by kernel_rfl) (by kernel_rfl) (by kernel_rfl) (fun _ _ _ h => h) (Or.inl ⟨by rfl, ?_⟩) (by assumption) ?_
        rotate_left
        · intro w hSw
          (try dsimp only at hSw)
          go_simp
          (try with_reducible rfl)
        (try simp only [Act.put, List.setIfInBounds_toArray, List.set_cons_zero, List.set_cons_succ])
        refine wpAnyH_take (i := 2) (oi := { dst := some 198, op := Op.move (Operand.tmp 28), type := 4, pos := "law.go:104", after := #[], guard := none }) (v := ?_) rfl (by kernel_rfl) (by kernel_rfl) (by kernel_rfl) (fun _ _ _ h => h) (Or.inl ⟨by rfl, ?_⟩) (by assumption) ?_
        rotate_left
        · intro w hSw
          (try dsimp only at hSw)
          go_simp
          (try with_reducible rfl)
        (try simp only [Act.put, List.setIfInBounds_toArray, List.set_cons_zero, List.set_cons_succ])
        refine wpAnyH_take (i := 3) (oi := { dst := some 199, op := Op.binOp BinOp.eql 4 (Operand.tmp 197) (Operand.tmp 198) 4, type := 4, pos := "law.go:104", after := #[{ on := 1, ground := Ground.data }, { on := 2, ground := Ground.data }], guard := none }) (v := ?_) rfl (by kernel_rfl) (by kernel_rfl) (by kernel_rfl) (fun _ _ _ h => h) (Or.inl ⟨by rfl, ?_⟩) (by assumption) ?_
        rotate_left
        · intro w hSw
          (try dsimp only at hSw)
          go_simp
          (try with_reducible rfl)
        (try simp only [Act.put, List.setIfInBounds_toArray, List.set_cons_zero, List.set_cons_succ])
        refine wpAnyH_take (i := 4) (oi := { dst := some 200, op := Op.move (Operand.tmp 199), type := 4, pos := "law.go:104", after := #[{ on := 3, ground := Ground.data }], guard := none }) (v := ?_) rfl (by kernel_rfl) (by kernel_rfl) (by kernel_rfl) (fun _ _ _ h => h) (Or.inl ⟨by rfl, ?_⟩) (by assumption) ?_
        rotate_left
        · intro w hSw
          (try dsimp only at hSw)
          go_simp
          (try with_reducible rfl)
        (try simp only [Act.put, List.setIfInBounds_toArray, List.set_cons_zero, List.set_cons_succ])
        refine wpAnyH_take (i := 5) (oi := { dst := some 201, op := Op.move (Operand.tmp 28), type := 4, pos := "law.go:104", after := #[{ on := 4, ground := Ground.guard }], guard := some (4, true) }) (v := ?_) rfl (by kernel_rfl) (by kernel_rfl) (by kernel_rfl) (fun _ _ _ h => h) (Or.inl ⟨by rfl, ?_⟩) (by assumption) ?_
        rotate_left
        · intro w hSw
          (try dsimp only at hSw)
          go_simp
          (try with_reducible rfl)
        (try simp only [Act.put, List.setIfInBounds_toArray, List.set_cons_zero, List.set_cons_succ])
        refine wpAnyH_take (i := 6) (oi := { dst := some 202, op := Op.unOp UnOp.not 4 (Operand.tmp 201), type := 4, pos := "law.go:104", after := #[{ on := 5, ground := Ground.data }, { on := 4, ground := Ground.guard }], guard := some (4, true) }) (v := ?_) rfl (by kernel_rfl) (by kernel_rfl) (by kernel_rfl) (fun _ _ _ h => h) (Or.inl ⟨by rfl, ?_⟩) (by assumption) ?_
        rotate_left
        · intro w hSw
          (try dsimp only at hSw)
          go_simp
          (try with_reducible rfl)
        (try simp only [Act.put, List.setIfInBounds_toArray, List.set_cons_zero, List.set_cons_succ])
        refine wpAnyH_take (i := 7) (oi := { dst := some 203, op := Op.move (Operand.tmp 202), type := 4, pos := "law.go:104", after := #[{ on := 6, ground := Ground.data }, { on := 4, ground := Ground.chain }, { on := 4, ground := Ground.guard }], guard := some (4, true) }) (v := ?_) rfl (by kernel_rfl) (by kernel_rfl) (by kernel_rfl) (fun _ _ _ h => h) (Or.inl ⟨by rfl, ?_⟩) (by assumption) ?_
        rotate_left
        · intro w hSw
          (try dsimp only at hSw)
          go_simp
          (try with_reducible rfl)
        (try simp only [Act.put, List.setIfInBounds_toArray, List.set_cons_zero, List.set_cons_succ])
        refine wpAnyH_take (i := 8) (oi := { dst := some 204, op := Op.fieldAddr 79 (Operand.tmp 26) 2, type := 0, pos := "law.go:104", after := #[{ on := 7, ground := Ground.guard }], guard := some (7, false) }) (v := ?_) rfl (by kernel_rfl) (by kernel_rfl) (by kernel_rfl) (fun _ _ _ h => h) (Or.inl ⟨by rfl, ?_⟩) (by assumption) ?_
        rotate_left
        · intro w hSw
          (try dsimp only at hSw)
          go_simp
          (try with_reducible rfl)
        (try simp only [Act.put, List.setIfInBounds_toArray, List.set_cons_zero, List.set_cons_succ])
        refine wpAnyH_take (i := 9) (oi := { dst := some 205, op := Op.load 3 (Operand.tmp 204), type := 3, pos := "law.go:104", after := #[{ on := 8, ground := Ground.data }, { on := 7, ground := Ground.guard }], guard := some (7, false) }) (v := ?_) rfl (by kernel_rfl) (by kernel_rfl) (by kernel_rfl) (fun _ _ _ h => h) (Or.inl ⟨by rfl, ?_⟩) (by assumption) ?_
        rotate_left
        · intro w hSw
          (try dsimp only at hSw)
          go_simp
          (try with_reducible rfl)
        (try simp only [Act.put, List.setIfInBounds_toArray, List.set_cons_zero, List.set_cons_succ])
        refine wpAnyH_take (i := 10) (oi := { dst := some 206, op := Op.fieldAddr 75 (Operand.tmp 3) 1, type := 0, pos := "law.go:104", after := #[{ on := 7, ground := Ground.guard }], guard := some (7, false) }) (v := ?_) rfl (by kernel_rfl) (by kernel_rfl) (by kernel_rfl) (fun _ _ _ h => h) (Or.inl ⟨by rfl, ?_⟩) (by assumption) ?_
        rotate_left
        · intro w hSw
          (try dsimp only at hSw)
          go_simp
          (try with_reducible rfl)
        (try simp only [Act.put, List.setIfInBounds_toArray, List.set_cons_zero, List.set_cons_succ])
        refine wpAnyH_take (i := 11) (oi := { dst := some 207, op := Op.load 3 (Operand.tmp 206), type := 3, pos := "law.go:104", after := #[{ on := 10, ground := Ground.data }, { on := 7, ground := Ground.guard }], guard := some (7, false) }) (v := ?_) rfl (by kernel_rfl) (by kernel_rfl) (by kernel_rfl) (fun _ _ _ h => h) (Or.inl ⟨by rfl, ?_⟩) (by assumption) ?_
        rotate_left
        · intro w hSw
          (try dsimp only at hSw)
          go_simp
          (try with_reducible rfl)
        (try simp only [Act.put, List.setIfInBounds_toArray, List.set_cons_zero, List.set_cons_succ])
        refine wpAnyH_take (i := 12) (oi := { dst := some 208, op := Op.binOp BinOp.eql 3 (Operand.tmp 205) (Operand.tmp 207) 3, type := 4, pos := "law.go:104", after := #[{ on := 9, ground := Ground.data }, { on := 11, ground := Ground.data }, { on := 7, ground := Ground.guard }], guard := some (7, false) }) (v := ?_) rfl (by kernel_rfl) (by kernel_rfl) (by kernel_rfl) (fun _ _ _ h => h) (Or.inl ⟨by rfl, ?_⟩) (by assumption) ?_
        rotate_left
        · intro w hSw
          (try dsimp only at hSw)
          go_simp
          (try with_reducible rfl)
        (try simp only [Act.put, List.setIfInBounds_toArray, List.set_cons_zero, List.set_cons_succ])
        refine wpAnyH_take (i := 13) (oi := { dst := some 209, op := Op.pick (Operand.tmp 203) (Operand.const (Value.bool true)) (Operand.tmp 208), type := 4, pos := "law.go:104", after := #[{ on := 7, ground := Ground.data }, { on := 12, ground := Ground.data }, { on := 4, ground := Ground.guard }], guard := some (4, true) }) (v := ?_) rfl (by kernel_rfl) (by kernel_rfl) (by kernel_rfl) (fun _ _ _ h => h) (Or.inl ⟨by rfl, ?_⟩) (by assumption) ?_
        rotate_left
        · intro w hSw
          (try dsimp only at hSw)
          go_simp
          (try with_reducible rfl)
        (try simp only [Act.put, List.setIfInBounds_toArray, List.set_cons_zero, List.set_cons_succ])
        refine wpAnyH_take (i := 14) (oi := { dst := some 210, op := Op.pick (Operand.tmp 200) (Operand.tmp 209) (Operand.const (Value.bool false)), type := 4, pos := "law.go:104", after := #[{ on := 4, ground := Ground.data }, { on := 13, ground := Ground.data }], guard := none }) (v := ?_) rfl (by kernel_rfl) (by kernel_rfl) (by kernel_rfl) (fun _ _ _ h => h) (Or.inl ⟨by rfl, ?_⟩) (by assumption) ?_
        rotate_left
        · intro w hSw
          (try dsimp only at hSw)
          go_simp
          (try with_reducible rfl)
        (try simp only [Act.put, List.setIfInBounds_toArray, List.set_cons_zero, List.set_cons_succ])
        refine wpAnyH_take (i := 15) (oi := { dst := some 211, op := Op.move (Operand.tmp 210), type := 4, pos := "law.go:104", after := #[{ on := 14, ground := Ground.data }, { on := 7, ground := Ground.chain }], guard := none }) (v := ?_) rfl (by kernel_rfl) (by kernel_rfl) (by kernel_rfl) (fun _ _ _ h => h) (Or.inl ⟨by rfl, ?_⟩) (by assumption) ?_
        rotate_left
        · intro w hSw
          (try dsimp only at hSw)
          go_simp
          (try with_reducible rfl)
        (try simp only [Act.put, List.setIfInBounds_toArray, List.set_cons_zero, List.set_cons_succ])
        refine wpAnyH_take (i := 16) (oi := { dst := some 212, op := Op.move (Operand.tmp 28), type := 4, pos := "law.go:104", after := #[{ on := 15, ground := Ground.guard }], guard := some (15, true) }) (v := ?_) rfl (by kernel_rfl) (by kernel_rfl) (by kernel_rfl) (fun _ _ _ h => h) (Or.inl ⟨by rfl, ?_⟩) (by assumption) ?_
        rotate_left
        · intro w hSw
          (try dsimp only at hSw)
          go_simp
          (try with_reducible rfl)
        (try simp only [Act.put, List.setIfInBounds_toArray, List.set_cons_zero, List.set_cons_succ])
        refine wpAnyH_take (i := 17) (oi := { dst := some 213, op := Op.move (Operand.tmp 212), type := 4, pos := "law.go:104", after := #[{ on := 16, ground := Ground.data }, { on := 15, ground := Ground.chain }, { on := 15, ground := Ground.guard }], guard := some (15, true) }) (v := ?_) rfl (by kernel_rfl) (by kernel_rfl) (by kernel_rfl) (fun _ _ _ h => h) (Or.inl ⟨by rfl, ?_⟩) (by assumption) ?_
        rotate_left
        · intro w hSw
          (try dsimp only at hSw)
          go_simp
          (try with_reducible rfl)
        (try simp only [Act.put, List.setIfInBounds_toArray, List.set_cons_zero, List.set_cons_succ])
        refine wpAnyH_take (i := 18) (oi := { dst := some 214, op := Op.move (Operand.tmp 27), type := 26, pos := "law.go:104", after := #[{ on := 17, ground := Ground.guard }], guard := some (17, false) }) (v := undef) rfl (by kernel_rfl) (by kernel_rfl) (by kernel_rfl) (fun _ _ _ h => h) (Or.inr ⟨by rfl, rfl⟩) (by assumption) ?_
        (try simp only [Act.put, List.setIfInBounds_toArray, List.set_cons_zero, List.set_cons_succ])
        refine wpAnyH_take (i := 19) (oi := { dst := some 215, op := Op.call { callee := Callee.value (Operand.func 53), args := #[Operand.tmp 214], argTypes := #[26] }, type := 3, pos := "law.go:104", after := #[{ on := 18, ground := Ground.data }, { on := 17, ground := Ground.chain }, { on := 17, ground := Ground.guard }], guard := some (17, false) }) (v := undef) rfl (by kernel_rfl) (by kernel_rfl) (by kernel_rfl) (fun _ _ _ h => h) (Or.inr ⟨by rfl, rfl⟩) (by assumption) ?_
        (try simp only [Act.put, List.setIfInBounds_toArray, List.set_cons_zero, List.set_cons_succ])
        refine wpAnyH_take (i := 20) (oi := { dst := some 216, op := Op.binOp BinOp.eql 3 (Operand.tmp 215) (Operand.const (Value.int IntKind.i64 1)) 3, type := 4, pos := "law.go:104", after := #[{ on := 19, ground := Ground.data }, { on := 17, ground := Ground.guard }], guard := some (17, false) }) (v := undef) rfl (by kernel_rfl) (by kernel_rfl) (by kernel_rfl) (fun _ _ _ h => h) (Or.inr ⟨by rfl, rfl⟩) (by assumption) ?_
        (try simp only [Act.put, List.setIfInBounds_toArray, List.set_cons_zero, List.set_cons_succ])
        refine wpAnyH_take (i := 21) (oi := { dst := some 217, op := Op.pick (Operand.tmp 213) (Operand.const (Value.bool true)) (Operand.tmp 216), type := 4, pos := "law.go:104", after := #[{ on := 17, ground := Ground.data }, { on := 20, ground := Ground.data }, { on := 15, ground := Ground.guard }], guard := some (15, true) }) (v := ?_) rfl (by kernel_rfl) (by kernel_rfl) (by kernel_rfl) (fun _ _ _ h => h) (Or.inl ⟨by rfl, ?_⟩) (by assumption) ?_
        rotate_left
        · intro w hSw
          (try dsimp only at hSw)
          go_simp
          (try with_reducible rfl)
        (try simp only [Act.put, List.setIfInBounds_toArray, List.set_cons_zero, List.set_cons_succ])
        refine wpAnyH_take (i := 22) (oi := { dst := some 218, op := Op.pick (Operand.tmp 211) (Operand.tmp 217) (Operand.const (Value.bool false)), type := 4, pos := "law.go:104", after := #[{ on := 15, ground := Ground.data }, { on := 21, ground := Ground.data }], guard := none }) (v := ?_) rfl (by kernel_rfl) (by kernel_rfl) (by kernel_rfl) (fun _ _ _ h => h) (Or.inl ⟨by rfl, ?_⟩) (by assumption) ?_
        rotate_left
        · intro w hSw
          (try dsimp only at hSw)
          go_simp
          (try with_reducible rfl)
        (try simp only [Act.put, List.setIfInBounds_toArray, List.set_cons_zero, List.set_cons_succ])
        refine wpAnyH_take (i := 23) (oi := { dst := some 219, op := Op.move (Operand.tmp 218), type := 4, pos := "law.go:104", after := #[{ on := 22, ground := Ground.data }, { on := 19, ground := Ground.chain }], guard := none }) (v := ?_) rfl (by kernel_rfl) (by kernel_rfl) (by kernel_rfl) (fun _ _ _ h => h) (Or.inl ⟨by rfl, ?_⟩) (by assumption) ?_
        rotate_left
        · intro w hSw
          (try dsimp only at hSw)
          go_simp
          (try with_reducible rfl)
        (try simp only [Act.put, List.setIfInBounds_toArray, List.set_cons_zero, List.set_cons_succ])
        refine wpAnyH_take (i := 24) (oi := { dst := some 220, op := Op.fieldAddr 79 (Operand.tmp 26) 0, type := 0, pos := "law.go:104", after := #[{ on := 23, ground := Ground.guard }], guard := some (23, true) }) (v := ?_) rfl (by kernel_rfl) (by kernel_rfl) (by kernel_rfl) (fun _ _ _ h => h) (Or.inl ⟨by rfl, ?_⟩) (by assumption) ?_
        rotate_left
        · intro w hSw
          (try dsimp only at hSw)
          go_simp
          (try with_reducible rfl)
        (try simp only [Act.put, List.setIfInBounds_toArray, List.set_cons_zero, List.set_cons_succ])
        refine wpAnyH_take (i := 25) (oi := { dst := some 221, op := Op.load 77 (Operand.tmp 220), type := 77, pos := "law.go:104", after := #[{ on := 24, ground := Ground.data }, { on := 23, ground := Ground.guard }], guard := some (23, true) }) (v := ?_) rfl (by kernel_rfl) (by kernel_rfl) (by kernel_rfl) (fun _ _ _ h => h) (Or.inl ⟨by rfl, ?_⟩) (by assumption) ?_
        rotate_left
        · intro w hSw
          (try dsimp only at hSw)
          go_simp
          (try with_reducible rfl)
        (try simp only [Act.put, List.setIfInBounds_toArray, List.set_cons_zero, List.set_cons_succ])
        refine wpAnyH_take (i := 26) (oi := { dst := some 222, op := Op.call { callee := Callee.builtin Builtin.len, args := #[Operand.tmp 221], argTypes := #[77] }, type := 3, pos := "law.go:104", after := #[{ on := 25, ground := Ground.data }, { on := 23, ground := Ground.guard }], guard := some (23, true) }) (v := ?_) rfl (by kernel_rfl) (by kernel_rfl) (by kernel_rfl) (fun _ _ _ h => h) (Or.inl ⟨by rfl, ?_⟩) (by assumption) ?_
        rotate_left
        · intro w hSw
          (try dsimp only at hSw)
          go_simp
          (try with_reducible rfl)
        (try simp only [Act.put, List.setIfInBounds_toArray, List.set_cons_zero, List.set_cons_succ])
        refine wpAnyH_take (i := 27) (oi := { dst := some 223, op := Op.binOp BinOp.eql 3 (Operand.tmp 222) (Operand.const (Value.int IntKind.i64 0)) 3, type := 4, pos := "law.go:104", after := #[{ on := 26, ground := Ground.data }, { on := 23, ground := Ground.guard }], guard := some (23, true) }) (v := ?_) rfl (by kernel_rfl) (by kernel_rfl) (by kernel_rfl) (fun _ _ _ h => h) (Or.inl ⟨by rfl, ?_⟩) (by assumption) ?_
        rotate_left
        · intro w hSw
          (try dsimp only at hSw)
          go_simp
          (try with_reducible rfl)
        (try simp only [Act.put, List.setIfInBounds_toArray, List.set_cons_zero, List.set_cons_succ])
        refine wpAnyH_take (i := 28) (oi := { dst := some 224, op := Op.pick (Operand.tmp 219) (Operand.tmp 223) (Operand.const (Value.bool false)), type := 4, pos := "law.go:104", after := #[{ on := 23, ground := Ground.data }, { on := 27, ground := Ground.data }], guard := none }) (v := ?_) rfl (by kernel_rfl) (by kernel_rfl) (by kernel_rfl) (fun _ _ _ h => h) (Or.inl ⟨by rfl, ?_⟩) (by assumption) ?_
        rotate_left
        · intro w hSw
          (try dsimp only at hSw)
          go_simp
          (try with_reducible rfl)
        (try simp only [Act.put, List.setIfInBounds_toArray, List.set_cons_zero, List.set_cons_succ])
        refine wpAnyH_take (i := 29) (oi := { dst := some 225, op := Op.move (Operand.tmp 224), type := 4, pos := "law.go:104", after := #[{ on := 28, ground := Ground.data }, { on := 23, ground := Ground.chain }], guard := none }) (v := ?_) rfl (by kernel_rfl) (by kernel_rfl) (by kernel_rfl) (fun _ _ _ h => h) (Or.inl ⟨by rfl, ?_⟩) (by assumption) ?_
        rotate_left
        · intro w hSw
          (try dsimp only at hSw)
          go_simp
          (try with_reducible rfl)
        (try simp only [Act.put, List.setIfInBounds_toArray, List.set_cons_zero, List.set_cons_succ])
        refine wpAnyH_take (i := 30) (oi := { dst := some 226, op := Op.load 79 (Operand.tmp 5), type := 79, pos := "law.go:104", after := #[{ on := 29, ground := Ground.guard }], guard := some (29, true) }) (v := ?_) rfl (by kernel_rfl) (by kernel_rfl) (by kernel_rfl) (fun _ _ _ h => h) (Or.inl ⟨by rfl, ?_⟩) (by assumption) ?_
        rotate_left
        · intro w hSw
          (try dsimp only at hSw)
          go_simp
          (try with_reducible rfl)
        (try simp only [Act.put, List.setIfInBounds_toArray, List.set_cons_zero, List.set_cons_succ])
        refine wpAnyH_take (i := 33) (oi := { dst := some 229, op := Op.load 73 (Operand.tmp 2), type := 73, pos := "law.go:104", after := #[{ on := 29, ground := Ground.guard }], guard := some (29, true) }) (v := ?_) rfl (by kernel_rfl) (by kernel_rfl) (by kernel_rfl) (fun _ _ _ h => h) (Or.inl ⟨by rfl, ?_⟩) (by assumption) ?_
        rotate_left
        · intro w hSw
          (try dsimp only at hSw)
          go_simp
          (try with_reducible rfl)
        (try simp only [Act.put, List.setIfInBounds_toArray, List.set_cons_zero, List.set_cons_succ])
        refine wpAnyH_ready (rs := [31]) (by kernel_rfl) (by simp) ?_
        refine AllReadyH.cons (o := { dst := some 227, op := Op.call { callee := Callee.value (Operand.func 55), args := #[Operand.tmp 226], argTypes := #[79] }, type := 26, pos := "law.go:104", after := #[{ on := 30, ground := Ground.data }, { on := 29, ground := Ground.chain }, { on := 29, ground := Ground.guard }], guard := some (29, true) }) rfl (fun K hK => ?_) AllReadyH.nil
        go_simp
        (refine (check_yes ox n cx last max V _ HN.out HLs.out Kd.out.2.2 HS.out).mono ?_; rintro e wz31 ⟨rfl, hbz31⟩; have Kz31 := Lib.hid (And.intro (Kd.out.1.step hbz31) (And.intro (Kd.out.2.1.later hbz31) (Kd.out.2.2.later hbz31))); clear hbz31 Kd; clear k0 k1 k2 k3 k4 k5 k6 k7 k8 k9 k10 k11 k12; have kz31_0 : wz31.cell? ⟨w13.heap.size, 0, none⟩ = some (.slice none 0 0) := Kz31.out.2.1.cell 0 0 rfl rfl; have kz31_1 : wz31.cell? ⟨w13.heap.size, 1, none⟩ = some (.int .u32 0) := Kz31.out.2.1.cell 0 1 rfl rfl; have kz31_2 : wz31.cell? ⟨w13.heap.size, 2, none⟩ = some (.int .i64 ja) := Kz31.out.2.1.cell 0 2 rfl rfl; have kz31_3 : wz31.cell? ⟨w.heap.size + 1, 0, none⟩ = some (.slice xa la ca) := Kz31.out.2.1.cell 12 0 rfl rfl; have kz31_4 : wz31.cell? ⟨w.heap.size + 1, 1, none⟩ = some (.int .i64 ja) := Kz31.out.2.1.cell 12 1 rfl rfl; have kz31_5 : wz31.cell? ⟨w.heap.size + 1, 2, none⟩ = some (.int .u32 (na : Int)) := Kz31.out.2.1.cell 12 2 rfl rfl; have kz31_6 : wz31.cell? ⟨w.heap.size + 1, 3, none⟩ = some (.int .u64 (ta : Int)) := Kz31.out.2.1.cell 12 3 rfl rfl; have kz31_7 : wz31.cell? ⟨w2.heap.size, 0, none⟩ = some (.slice ox n cx) := Kz31.out.2.1.cell 11 0 rfl rfl; have kz31_8 : wz31.cell? ⟨w2.heap.size, 1, none⟩ = some (.int .u32 (last : Int)) := Kz31.out.2.1.cell 11 1 rfl rfl; have kz31_9 : wz31.cell? ⟨w2.heap.size, 2, none⟩ = some (.int .i64 max) := Kz31.out.2.1.cell 11 2 rfl rfl; have kz31_10 : wz31.cell? ⟨w.heap.size, 0, none⟩ = some (.slice oa n cp) := Kz31.out.2.1.cell 13 0 rfl rfl; have kz31_11 : wz31.cell? ⟨w.heap.size, 1, none⟩ = some (.int .u32 (last : Int)) := Kz31.out.2.1.cell 13 1 rfl rfl; have kz31_12 : wz31.cell? ⟨w.heap.size, 2, none⟩ = some (.int .i64 max) := Kz31.out.2.1.cell 13 2 rfl rfl; skip)
        (try go_wp2_with fail)
        refine hK.out _ _ ?_ (fun hHeld => ?_)
        · (try dsimp only)
          go_keep
        clear hK K
        (try simp only [Act.put, List.setIfInBounds_toArray, List.set_cons_zero, List.set_cons_succ])
        refine wpAnyH_take (i := 32) (oi := { dst := some 228, op := Op.binOp BinOp.eql 26 (Operand.tmp 227) (Operand.const Value.nilIface) 26, type := 4, pos := "law.go:104", after := #[{ on := 31, ground := Ground.data }, { on := 29, ground := Ground.guard }], guard := some (29, true) }) (v := ?_) rfl (by kernel_rfl) (by kernel_rfl) (by kernel_rfl) (fun _ _ _ h => h) (Or.inl ⟨by rfl, ?_⟩) (by assumption) ?_
        rotate_left
        · intro w hSw
          (try dsimp only at hSw)
          go_simp
          (try with_reducible rfl)
        (try simp only [Act.put, List.setIfInBounds_toArray, List.set_cons_zero, List.set_cons_succ])
        refine wpAnyH_ready (rs := [34]) (by kernel_rfl) (by simp) ?_
        refine AllReadyH.cons (o := { dst := some 230, op := Op.call { callee := Callee.value (Operand.func 56), args := #[Operand.tmp 229], argTypes := #[73] }, type := 4, pos := "law.go:104", after := #[{ on := 33, ground := Ground.data }, { on := 31, ground := Ground.chain }, { on := 29, ground := Ground.guard }], guard := some (29, true) }) rfl (fun K hK => ?_) AllReadyH.nil
        go_simp
        (refine (rmay_yes oa n cp last max V _ HN.out HLs.out (HV.out.later Kz31.out.1.bel) HM.out HS.out).mono ?_; rintro e wz34 ⟨rfl, hbz34⟩; have Kz34 := Lib.hid (And.intro (Kz31.out.1.step hbz34) (And.intro (Kz31.out.2.1.later hbz34) (Kz31.out.2.2.later hbz34))); clear hbz34 Kz31; clear kz31_0 kz31_1 kz31_2 kz31_3 kz31_4 kz31_5 kz31_6 kz31_7 kz31_8 kz31_9 kz31_10 kz31_11 kz31_12; have kz34_0 : wz34.cell? ⟨w13.heap.size, 0, none⟩ = some (.slice none 0 0) := Kz34.out.2.1.cell 0 0 rfl rfl; have kz34_1 : wz34.cell? ⟨w13.heap.size, 1, none⟩ = some (.int .u32 0) := Kz34.out.2.1.cell 0 1 rfl rfl; have kz34_2 : wz34.cell? ⟨w13.heap.size, 2, none⟩ = some (.int .i64 ja) := Kz34.out.2.1.cell 0 2 rfl rfl; have kz34_3 : wz34.cell? ⟨w.heap.size + 1, 0, none⟩ = some (.slice xa la ca) := Kz34.out.2.1.cell 12 0 rfl rfl; have kz34_4 : wz34.cell? ⟨w.heap.size + 1, 1, none⟩ = some (.int .i64 ja) := Kz34.out.2.1.cell 12 1 rfl rfl; have kz34_5 : wz34.cell? ⟨w.heap.size + 1, 2, none⟩ = some (.int .u32 (na : Int)) := Kz34.out.2.1.cell 12 2 rfl rfl; have kz34_6 : wz34.cell? ⟨w.heap.size + 1, 3, none⟩ = some (.int .u64 (ta : Int)) := Kz34.out.2.1.cell 12 3 rfl rfl; have kz34_7 : wz34.cell? ⟨w2.heap.size, 0, none⟩ = some (.slice ox n cx) := Kz34.out.2.1.cell 11 0 rfl rfl; have kz34_8 : wz34.cell? ⟨w2.heap.size, 1, none⟩ = some (.int .u32 (last : Int)) := Kz34.out.2.1.cell 11 1 rfl rfl; have kz34_9 : wz34.cell? ⟨w2.heap.size, 2, none⟩ = some (.int .i64 max) := Kz34.out.2.1.cell 11 2 rfl rfl; have kz34_10 : wz34.cell? ⟨w.heap.size, 0, none⟩ = some (.slice oa n cp) := Kz34.out.2.1.cell 13 0 rfl rfl; have kz34_11 : wz34.cell? ⟨w.heap.size, 1, none⟩ = some (.int .u32 (last : Int)) := Kz34.out.2.1.cell 13 1 rfl rfl; have kz34_12 : wz34.cell? ⟨w.heap.size, 2, none⟩ = some (.int .i64 max) := Kz34.out.2.1.cell 13 2 rfl rfl; skip)
        (try go_wp2_with fail)
        refine hK.out _ _ ?_ (fun hHeld => ?_)
        · (try dsimp only)
          go_keep
        clear hK K
        (try simp only [Act.put, List.setIfInBounds_toArray, List.set_cons_zero, List.set_cons_succ])
        refine wpAnyH_take (i := 35) (oi := { dst := some 231, op := Op.binOp BinOp.eql 4 (Operand.tmp 228) (Operand.tmp 230) 4, type := 4, pos := "law.go:104", after := #[{ on := 32, ground := Ground.data }, { on := 34, ground := Ground.data }, { on := 29, ground := Ground.guard }], guard := some (29, true) }) (v := ?_) rfl (by kernel_rfl) (by kernel_rfl) (by kernel_rfl) (fun _ _ _ h => h) (Or.inl ⟨by rfl, ?_⟩) (by assumption) ?_
        rotate_left
        · intro w hSw
          (try dsimp only at hSw)
          go_simp
          (try with_reducible rfl)
        (try simp only [Act.put, List.setIfInBounds_toArray, List.set_cons_zero, List.set_cons_succ])
        refine wpAnyH_take (i := 36) (oi := { dst := some 232, op := Op.pick (Operand.tmp 225) (Operand.tmp 231) (Operand.const (Value.bool false)), type := 4, pos := "law.go:104", after := #[{ on := 29, ground := Ground.data }, { on := 35, ground := Ground.data }], guard := none }) (v := ?_) rfl (by kernel_rfl) (by kernel_rfl) (by kernel_rfl) (fun _ _ _ h => h) (Or.inl ⟨by rfl, ?_⟩) (by assumption) ?_
        rotate_left
        · intro w hSw
          (try dsimp only at hSw)
          go_simp
          (try with_reducible rfl)
        (try simp only [Act.put, List.setIfInBounds_toArray, List.set_cons_zero, List.set_cons_succ])
        refine wpAnyH_take (i := 37) (oi := { dst := some 233, op := Op.move (Operand.tmp 232), type := 4, pos := "law.go:104", after := #[{ on := 36, ground := Ground.data }, { on := 34, ground := Ground.chain }], guard := none }) (v := ?_) rfl (by kernel_rfl) (by kernel_rfl) (by kernel_rfl) (fun _ _ _ h => h) (Or.inl ⟨by rfl, ?_⟩) (by assumption) ?_
        rotate_left
        · intro w hSw
          (try dsimp only at hSw)
          go_simp
          (try with_reducible rfl)
        (try simp only [Act.put, List.setIfInBounds_toArray, List.set_cons_zero, List.set_cons_succ])
        refine wpAnyH_ready (rs := [38]) (by kernel_rfl) (by simp) ?_
        refine AllReadyH.cons (o := { dst := some 234, op := Op.call { callee := Callee.value (Operand.func 41), args := #[], argTypes := #[] }, type := 4, pos := "law.go:104", after := #[{ on := 37, ground := Ground.chain }, { on := 37, ground := Ground.guard }], guard := some (37, true) }) rfl (fun K hK => ?_) AllReadyH.nil
        go_simp
        (refine (sure30_any _ Kz34.out.1.handle).mono ?_; rintro e wz38 ⟨rfl, hbz38⟩; have Kz38 := Lib.hid (And.intro (Kz34.out.1.step hbz38) (And.intro (Kz34.out.2.1.later hbz38) (Kz34.out.2.2.later hbz38))); clear hbz38 Kz34; clear kz34_0 kz34_1 kz34_2 kz34_3 kz34_4 kz34_5 kz34_6 kz34_7 kz34_8 kz34_9 kz34_10 kz34_11 kz34_12; have kz38_0 : wz38.cell? ⟨w13.heap.size, 0, none⟩ = some (.slice none 0 0) := Kz38.out.2.1.cell 0 0 rfl rfl; have kz38_1 : wz38.cell? ⟨w13.heap.size, 1, none⟩ = some (.int .u32 0) := Kz38.out.2.1.cell 0 1 rfl rfl; have kz38_2 : wz38.cell? ⟨w13.heap.size, 2, none⟩ = some (.int .i64 ja) := Kz38.out.2.1.cell 0 2 rfl rfl; have kz38_3 : wz38.cell? ⟨w.heap.size + 1, 0, none⟩ = some (.slice xa la ca) := Kz38.out.2.1.cell 12 0 rfl rfl; have kz38_4 : wz38.cell? ⟨w.heap.size + 1, 1, none⟩ = some (.int .i64 ja) := Kz38.out.2.1.cell 12 1 rfl rfl; have kz38_5 : wz38.cell? ⟨w.heap.size + 1, 2, none⟩ = some (.int .u32 (na : Int)) := Kz38.out.2.1.cell 12 2 rfl rfl; have kz38_6 : wz38.cell? ⟨w.heap.size + 1, 3, none⟩ = some (.int .u64 (ta : Int)) := Kz38.out.2.1.cell 12 3 rfl rfl; have kz38_7 : wz38.cell? ⟨w2.heap.size, 0, none⟩ = some (.slice ox n cx) := Kz38.out.2.1.cell 11 0 rfl rfl; have kz38_8 : wz38.cell? ⟨w2.heap.size, 1, none⟩ = some (.int .u32 (last : Int)) := Kz38.out.2.1.cell 11 1 rfl rfl; have kz38_9 : wz38.cell? ⟨w2.heap.size, 2, none⟩ = some (.int .i64 max) := Kz38.out.2.1.cell 11 2 rfl rfl; have kz38_10 : wz38.cell? ⟨w.heap.size, 0, none⟩ = some (.slice oa n cp) := Kz38.out.2.1.cell 13 0 rfl rfl; have kz38_11 : wz38.cell? ⟨w.heap.size, 1, none⟩ = some (.int .u32 (last : Int)) := Kz38.out.2.1.cell 13 1 rfl rfl; have kz38_12 : wz38.cell? ⟨w.heap.size, 2, none⟩ = some (.int .i64 max) := Kz38.out.2.1.cell 13 2 rfl rfl; skip)
        (try go_wp2_with fail)
        refine hK.out _ _ ?_ (fun hHeld => ?_)
        · (try dsimp only)
          go_keep
        clear hK K
        (try simp only [Act.put, List.setIfInBounds_toArray, List.set_cons_zero, List.set_cons_succ])
        refine wpAnyH_take (i := 39) (oi := { dst := some 235, op := Op.pick (Operand.tmp 233) (Operand.tmp 234) (Operand.const (Value.bool false)), type := 4, pos := "law.go:104", after := #[{ on := 37, ground := Ground.data }, { on := 38, ground := Ground.data }], guard := none }) (v := ?_) rfl (by kernel_rfl) (by kernel_rfl) (by kernel_rfl) (fun _ _ _ h => h) (Or.inl ⟨by rfl, ?_⟩) (by assumption) ?_
        rotate_left
        · intro w hSw
          (try dsimp only at hSw)
          go_simp
          (try with_reducible rfl)
        (try simp only [Act.put, List.setIfInBounds_toArray, List.set_cons_zero, List.set_cons_succ])
        refine wpAnyH_take (i := 40) (oi := { dst := some 4, op := Op.assign (Operand.tmp 235), type := 4, pos := "law.go:104", after := _, guard := none }) (v := ?_) rfl (by kernel_rfl) (by kernel_rfl) (by kernel_rfl) (fun _ _ _ h => h) (Or.inl ⟨by rfl, ?_⟩) (by assumption) ?_
        rotate_left
        · intro w hSw
          (try dsimp only at hSw)
          go_simp
          (try with_reducible rfl)
        (try simp only [Act.put, List.setIfInBounds_toArray, List.set_cons_zero, List.set_cons_succ])
        refine wpAnyH_done (by kernel_rfl) ?_ _
        go_wp2_with fail
        go_ret
        exact ⟨rfl, Kz38.out.1.bel⟩
      · have HS := Lib.hid hS
        clear hS
        have k0 : w24.cell? ⟨w13.heap.size, 0, none⟩ = some (.slice none 0 0) := HF24.out.cell 0 0 rfl rfl
        have k1 : w24.cell? ⟨w13.heap.size, 1, none⟩ = some (.int .u32 0) := HF24.out.cell 0 1 rfl rfl
        have k2 : w24.cell? ⟨w13.heap.size, 2, none⟩ = some (.int .i64 ja) := HF24.out.cell 0 2 rfl rfl
        have k3 : w24.cell? ⟨w.heap.size + 1, 0, none⟩ = some (.slice xa la ca) := HF24.out.cell 12 0 rfl rfl
        have k4 : w24.cell? ⟨w.heap.size + 1, 1, none⟩ = some (.int .i64 ja) := HF24.out.cell 12 1 rfl rfl
        have k5 : w24.cell? ⟨w.heap.size + 1, 2, none⟩ = some (.int .u32 (na : Int)) := HF24.out.cell 12 2 rfl rfl
        have k6 : w24.cell? ⟨w.heap.size + 1, 3, none⟩ = some (.int .u64 (ta : Int)) := HF24.out.cell 12 3 rfl rfl
        have k7 : w24.cell? ⟨w2.heap.size, 0, none⟩ = some (.slice ox n cx) := HF24.out.cell 11 0 rfl rfl
        have k8 : w24.cell? ⟨w2.heap.size, 1, none⟩ = some (.int .u32 (last : Int)) := HF24.out.cell 11 1 rfl rfl
        have k9 : w24.cell? ⟨w2.heap.size, 2, none⟩ = some (.int .i64 max) := HF24.out.cell 11 2 rfl rfl
        have k10 : w24.cell? ⟨w.heap.size, 0, none⟩ = some (.slice oa n cp) := HF24.out.cell 13 0 rfl rfl
        have k11 : w24.cell? ⟨w.heap.size, 1, none⟩ = some (.int .u32 (last : Int)) := HF24.out.cell 13 1 rfl rfl
        have k12 : w24.cell? ⟨w.heap.size, 2, none⟩ = some (.int .i64 max) := HF24.out.cell 13 2 rfl rfl
        have HFd := HF24
        have HRd := HR24
        have HXd := HVx24
        have Kd : Hid (Wn w w24.drew ∧ Fr w24.drew [(w13.heap.size, #[.slice none 0 0, .int .u32 0, .int .i64 ja], 79), (w12.heap.size, #[.slice o12 n5 c12, .int .u32 (l5 : Int), .int .i64 m5], 73), (w11.heap.size, #[.slice o11 n5 c11, .int .u32 (l5 : Int), .int .i64 m5], 79), (w10.heap.size, #[.slice o10 n4 c10, .int .u32 (l4 : Int), .int .i64 m4], 73), (w9.heap.size, #[.slice o9 n4 c9, .int .u32 (l4 : Int), .int .i64 m4], 79), (w8.heap.size, #[.slice o8 n3 c8, .int .u32 (l3 : Int), .int .i64 m3], 73), (w7.heap.size, #[.slice o7 n3 c7, .int .u32 (l3 : Int), .int .i64 m3], 79), (w6.heap.size, #[.int .u32 (vm : Int), .slice o6 vl c6, .int .u64 (vt : Int), .int .i64 vs], 89), (w5.heap.size, #[.int .u32 (vm : Int), .slice o5 vl c5, .int .u64 (vt : Int), .int .i64 vs], 86), (w4.heap.size, #[.slice o4 n1 c4, .int .u32 (l1 : Int), .int .i64 m1], 73), (w3.heap.size, #[.slice o3 n1 c3, .int .u32 (l1 : Int), .int .i64 m1], 79), (w2.heap.size, #[.slice ox n cx, .int .u32 (last : Int), .int .i64 max], 79), (w.heap.size + 1, #[.slice xa la ca, .int .i64 ja, .int .u32 (na : Int), .int .u64 (ta : Int)], 75), (w.heap.size, #[.slice oa n cp, .int .u32 (last : Int), .int .i64 max], 73)] ∧ Vers w24.drew ox n V) := Lib.hid ⟨HR24.out.drew, HF24.out, HVx24.out⟩
        clear HFd HRd HXd
        go_wp2_with fail
        refine wp_region_held_drew (S := (fun w' => w'.cell? ⟨w13.heap.size, 0, none⟩ = some (.slice none 0 0) ∧ w'.cell? ⟨w13.heap.size, 1, none⟩ = some (.int .u32 0) ∧ w'.cell? ⟨w13.heap.size, 2, none⟩ = some (.int .i64 ja) ∧ w'.cell? ⟨w.heap.size + 1, 0, none⟩ = some (.slice xa la ca) ∧ w'.cell? ⟨w.heap.size + 1, 1, none⟩ = some (.int .i64 ja) ∧ w'.cell? ⟨w.heap.size + 1, 2, none⟩ = some (.int .u32 (na : Int)) ∧ w'.cell? ⟨w.heap.size + 1, 3, none⟩ = some (.int .u64 (ta : Int)) ∧ w'.cell? ⟨w2.heap.size, 0, none⟩ = some (.slice ox n cx) ∧ w'.cell? ⟨w2.heap.size, 1, none⟩ = some (.int .u32 (last : Int)) ∧ w'.cell? ⟨w2.heap.size, 2, none⟩ = some (.int .i64 max) ∧ w'.cell? ⟨w.heap.size, 0, none⟩ = some (.slice oa n cp) ∧ w'.cell? ⟨w.heap.size, 1, none⟩ = some (.int .u32 (last : Int)) ∧ w'.cell? ⟨w.heap.size, 2, none⟩ = some (.int .i64 max))) (by kernel_rfl) ?_ (fun hHeld => ?_)
        · (try dsimp only)
          go_keep
        refine wpAnyH_take (i := 0) (oi := { dst := some 196, op := Op.move (Operand.tmp 27), type := 26, pos := "law.go:104", after := #[], guard := none }) (v := ?_) rfl (by kernel_rfl) (by kernel_rfl) (by kernel_rfl) (fun _ _ _ h => h) (Or.inl ⟨by rfl, ?_⟩) (by assumption) ?_
        rotate_left
        · intro w hSw
          (try dsimp only at hSw)
          go_simp
          (try with_reducible rfl)
        (try simp only [Act.put, List.setIfInBounds_toArray, List.set_cons_zero, List.set_cons_succ])
        refine wpAnyH_take (i := 1) (oi := { dst := some 197, op := Op.binOp BinOp.eql 26 (Operand.tmp 196) (Operand.const Value.nilIface) 26, type := 4, pos := "law.go:104", after := #[{ on := 0, ground := Ground.data }], guard := none }) (v := ?_) rfl (by kernel_rfl) (by kernel_rfl) (by kernel_rfl) (fun _ _ _ h => h) (Or.inl ⟨by rfl, ?_⟩) (by assumption) ?_
        rotate_left
        · intro w hSw
          (try dsimp only at hSw)
          go_simp
          (try with_reducible rfl)
        (try simp only [Act.put, List.setIfInBounds_toArray, List.set_cons_zero, List.set_cons_succ])
        refine wpAnyH_take (i := 2) (oi := { dst := some 198, op := Op.move (Operand.tmp 28), type := 4, pos := "law.go:104", after := #[], guard := none }) (v := ?_) rfl (by kernel_rfl) (by kernel_rfl) (by kernel_rfl) (fun _ _ _ h => h) (Or.inl ⟨by rfl, ?_⟩) (by assumption) ?_
        rotate_left
        · intro w hSw
          (try dsimp only at hSw)
          go_simp
          (try with_reducible rfl)
        (try simp only [Act.put, List.setIfInBounds_toArray, List.set_cons_zero, List.set_cons_succ])
        refine wpAnyH_take (i := 3) (oi := { dst := some 199, op := Op.binOp BinOp.eql 4 (Operand.tmp 197) (Operand.tmp 198) 4, type := 4, pos := "law.go:104", after := #[{ on := 1, ground := Ground.data }, { on := 2, ground := Ground.data }], guard := none }) (v := ?_) rfl (by kernel_rfl) (by kernel_rfl) (by kernel_rfl) (fun _ _ _ h => h) (Or.inl ⟨by rfl, ?_⟩) (by assumption) ?_
        rotate_left
        · intro w hSw
          (try dsimp only at hSw)
          go_simp
          (try with_reducible rfl)
        (try simp only [Act.put, List.setIfInBounds_toArray, List.set_cons_zero, List.set_cons_succ])
        refine wpAnyH_take (i := 4) (oi := { dst := some 200, op := Op.move (Operand.tmp 199), type := 4, pos := "law.go:104", after := #[{ on := 3, ground := Ground.data }], guard := none }) (v := ?_) rfl (by kernel_rfl) (by kernel_rfl) (by kernel_rfl) (fun _ _ _ h => h) (Or.inl ⟨by rfl, ?_⟩) (by assumption) ?_
        rotate_left
        · intro w hSw
          (try dsimp only at hSw)
          go_simp
          (try with_reducible rfl)
        (try simp only [Act.put, List.setIfInBounds_toArray, List.set_cons_zero, List.set_cons_succ])
        refine wpAnyH_take (i := 5) (oi := { dst := some 201, op := Op.move (Operand.tmp 28), type := 4, pos := "law.go:104", after := #[{ on := 4, ground := Ground.guard }], guard := some (4, true) }) (v := ?_) rfl (by kernel_rfl) (by kernel_rfl) (by kernel_rfl) (fun _ _ _ h => h) (Or.inl ⟨by rfl, ?_⟩) (by assumption) ?_
        rotate_left
        · intro w hSw
          (try dsimp only at hSw)
          go_simp
          (try with_reducible rfl)
        (try simp only [Act.put, List.setIfInBounds_toArray, List.set_cons_zero, List.set_cons_succ])
        refine wpAnyH_take (i := 6) (oi := { dst := some 202, op := Op.unOp UnOp.not 4 (Operand.tmp 201), type := 4, pos := "law.go:104", after := #[{ on := 5, ground := Ground.data }, { on := 4, ground := Ground.guard }], guard := some (4, true) }) (v := ?_) rfl (by kernel_rfl) (by kernel_rfl) (by kernel_rfl) (fun _ _ _ h => h) (Or.inl ⟨by rfl, ?_⟩) (by assumption) ?_
        rotate_left
        · intro w hSw
          (try dsimp only at hSw)
          go_simp
          (try with_reducible rfl)
        (try simp only [Act.put, List.setIfInBounds_toArray, List.set_cons_zero, List.set_cons_succ])
        refine wpAnyH_take (i := 7) (oi := { dst := some 203, op := Op.move (Operand.tmp 202), type := 4, pos := "law.go:104", after := #[{ on := 6, ground := Ground.data }, { on := 4, ground := Ground.chain }, { on := 4, ground := Ground.guard }], guard := some (4, true) }) (v := ?_) rfl (by kernel_rfl) (by kernel_rfl) (by kernel_rfl) (fun _ _ _ h => h) (Or.inl ⟨by rfl, ?_⟩) (by assumption) ?_
        rotate_left
        · intro w hSw
          (try dsimp only at hSw)
          go_simp
          (try with_reducible rfl)
        (try simp only [Act.put, List.setIfInBounds_toArray, List.set_cons_zero, List.set_cons_succ])
        refine wpAnyH_take (i := 8) (oi := { dst := some 204, op := Op.fieldAddr 79 (Operand.tmp 26) 2, type := 0, pos := "law.go:104", after := #[{ on := 7, ground := Ground.guard }], guard := some (7, false) }) (v := ?_) rfl (by kernel_rfl) (by kernel_rfl) (by kernel_rfl) (fun _ _ _ h => h) (Or.inl ⟨by rfl, ?_⟩) (by assumption) ?_
        rotate_left
        · intro w hSw
          (try dsimp only at hSw)
          go_simp
          (try with_reducible rfl)
        (try simp only [Act.put, List.setIfInBounds_toArray, List.set_cons_zero, List.set_cons_succ])
        refine wpAnyH_take (i := 9) (oi := { dst := some 205, op := Op.load 3 (Operand.tmp 204), type := 3, pos := "law.go:104", after := #[{ on := 8, ground := Ground.data }, { on := 7, ground := Ground.guard }], guard := some (7, false) }) (v := ?_) rfl (by kernel_rfl) (by kernel_rfl) (by kernel_rfl) (fun _ _ _ h => h) (Or.inl ⟨by rfl, ?_⟩) (by assumption) ?_
        rotate_left
        · intro w hSw
          (try dsimp only at hSw)
          go_simp
          (try with_reducible rfl)
        (try simp only [Act.put, List.setIfInBounds_toArray, List.set_cons_zero, List.set_cons_succ])
        refine wpAnyH_take (i := 10) (oi := { dst := some 206, op := Op.fieldAddr 75 (Operand.tmp 3) 1, type := 0, pos := "law.go:104", after := #[{ on := 7, ground := Ground.guard }], guard := some (7, false) }) (v := ?_) rfl (by kernel_rfl) (by kernel_rfl) (by kernel_rfl) (fun _ _ _ h => h) (Or.inl ⟨by rfl, ?_⟩) (by assumption) ?_
        rotate_left
        · intro w hSw
          (try dsimp only at hSw)
          go_simp
          (try with_reducible rfl)
        (try simp only [Act.put, List.setIfInBounds_toArray, List.set_cons_zero, List.set_cons_succ])
        refine wpAnyH_take (i := 11) (oi := { dst := some 207, op := Op.load 3 (Operand.tmp 206), type := 3, pos := "law.go:104", after := #[{ on := 10, ground := Ground.data }, { on := 7, ground := Ground.guard }], guard := some (7, false) }) (v := ?_) rfl (by kernel_rfl) (by kernel_rfl) (by kernel_rfl) (fun _ _ _ h => h) (Or.inl ⟨by rfl, ?_⟩) (by assumption) ?_
        rotate_left
        · intro w hSw
          (try dsimp only at hSw)
          go_simp
          (try with_reducible rfl)
        (try simp only [Act.put, List.setIfInBounds_toArray, List.set_cons_zero, List.set_cons_succ])
        refine wpAnyH_take (i := 12) (oi := { dst := some 208, op := Op.binOp BinOp.eql 3 (Operand.tmp 205) (Operand.tmp 207) 3, type := 4, pos := "law.go:104", after := #[{ on := 9, ground := Ground.data }, { on := 11, ground := Ground.data }, { on := 7, ground := Ground.guard }], guard := some (7, false) }) (v := ?_) rfl (by kernel_rfl) (by kernel_rfl) (by kernel_rfl) (fun _ _ _ h => h) (Or.inl ⟨by rfl, ?_⟩) (by assumption) ?_
        rotate_left
        · intro w hSw
          (try dsimp only at hSw)
          go_simp
          (try with_reducible rfl)
        (try simp only [Act.put, List.setIfInBounds_toArray, List.set_cons_zero, List.set_cons_succ])
        refine wpAnyH_take (i := 13) (oi := { dst := some 209, op := Op.pick (Operand.tmp 203) (Operand.const (Value.bool true)) (Operand.tmp 208), type := 4, pos := "law.go:104", after := #[{ on := 7, ground := Ground.data }, { on := 12, ground := Ground.data }, { on := 4, ground := Ground.guard }], guard := some (4, true) }) (v := ?_) rfl (by kernel_rfl) (by kernel_rfl) (by kernel_rfl) (fun _ _ _ h => h) (Or.inl ⟨by rfl, ?_⟩) (by assumption) ?_
        rotate_left
        · intro w hSw
          (try dsimp only at hSw)
          go_simp
          (try with_reducible rfl)
        (try simp only [Act.put, List.setIfInBounds_toArray, List.set_cons_zero, List.set_cons_succ])
        refine wpAnyH_take (i := 14) (oi := { dst := some 210, op := Op.pick (Operand.tmp 200) (Operand.tmp 209) (Operand.const (Value.bool false)), type := 4, pos := "law.go:104", after := #[{ on := 4, ground := Ground.data }, { on := 13, ground := Ground.data }], guard := none }) (v := ?_) rfl (by kernel_rfl) (by kernel_rfl) (by kernel_rfl) (fun _ _ _ h => h) (Or.inl ⟨by rfl, ?_⟩) (by assumption) ?_
        rotate_left
        · intro w hSw
          (try dsimp only at hSw)
          go_simp
          (try with_reducible rfl)
        (try simp only [Act.put, List.setIfInBounds_toArray, List.set_cons_zero, List.set_cons_succ])
        refine wpAnyH_take (i := 15) (oi := { dst := some 211, op := Op.move (Operand.tmp 210), type := 4, pos := "law.go:104", after := #[{ on := 14, ground := Ground.data }, { on := 7, ground := Ground.chain }], guard := none }) (v := ?_) rfl (by kernel_rfl) (by kernel_rfl) (by kernel_rfl) (fun _ _ _ h => h) (Or.inl ⟨by rfl, ?_⟩) (by assumption) ?_
        rotate_left
        · intro w hSw
          (try dsimp only at hSw)
          go_simp
          (try with_reducible rfl)
        (try simp only [Act.put, List.setIfInBounds_toArray, List.set_cons_zero, List.set_cons_succ])
        refine wpAnyH_take (i := 16) (oi := { dst := some 212, op := Op.move (Operand.tmp 28), type := 4, pos := "law.go:104", after := #[{ on := 15, ground := Ground.guard }], guard := some (15, true) }) (v := ?_) rfl (by kernel_rfl) (by kernel_rfl) (by kernel_rfl) (fun _ _ _ h => h) (Or.inl ⟨by rfl, ?_⟩) (by assumption) ?_
        rotate_left
        · intro w hSw
          (try dsimp only at hSw)
          go_simp
          (try with_reducible rfl)
        (try simp only [Act.put, List.setIfInBounds_toArray, List.set_cons_zero, List.set_cons_succ])
        refine wpAnyH_take (i := 17) (oi := { dst := some 213, op := Op.move (Operand.tmp 212), type := 4, pos := "law.go:104", after := #[{ on := 16, ground := Ground.data }, { on := 15, ground := Ground.chain }, { on := 15, ground := Ground.guard }], guard := some (15, true) }) (v := ?_) rfl (by kernel_rfl) (by kernel_rfl) (by kernel_rfl) (fun _ _ _ h => h) (Or.inl ⟨by rfl, ?_⟩) (by assumption) ?_
        rotate_left
        · intro w hSw
          (try dsimp only at hSw)
          go_simp
          (try with_reducible rfl)
        (try simp only [Act.put, List.setIfInBounds_toArray, List.set_cons_zero, List.set_cons_succ])
        refine wpAnyH_take (i := 18) (oi := { dst := some 214, op := Op.move (Operand.tmp 27), type := 26, pos := "law.go:104", after := #[{ on := 17, ground := Ground.guard }], guard := some (17, false) }) (v := undef) rfl (by kernel_rfl) (by kernel_rfl) (by kernel_rfl) (fun _ _ _ h => h) (Or.inr ⟨by rfl, rfl⟩) (by assumption) ?_
        (try simp only [Act.put, List.setIfInBounds_toArray, List.set_cons_zero, List.set_cons_succ])
        refine wpAnyH_take (i := 19) (oi := { dst := some 215, op := Op.call { callee := Callee.value (Operand.func 53), args := #[Operand.tmp 214], argTypes := #[26] }, type := 3, pos := "law.go:104", after := #[{ on := 18, ground := Ground.data }, { on := 17, ground := Ground.chain }, { on := 17, ground := Ground.guard }], guard := some (17, false) }) (v := undef) rfl (by kernel_rfl) (by kernel_rfl) (by kernel_rfl) (fun _ _ _ h => h) (Or.inr ⟨by rfl, rfl⟩) (by assumption) ?_
        (try simp only [Act.put, List.setIfInBounds_toArray, List.set_cons_zero, List.set_cons_succ])
        refine wpAnyH_take (i := 20) (oi := { dst := some 216, op := Op.binOp BinOp.eql 3 (Operand.tmp 215) (Operand.const (Value.int IntKind.i64 1)) 3, type := 4, pos := "law.go:104", after := #[{ on := 19, ground := Ground.data }, { on := 17, ground := Ground.guard }], guard := some (17, false) }) (v := undef) rfl (by kernel_rfl) (by kernel_rfl) (by kernel_rfl) (fun _ _ _ h => h) (Or.inr ⟨by rfl, rfl⟩) (by assumption) ?_
        (try simp only [Act.put, List.setIfInBounds_toArray, List.set_cons_zero, List.set_cons_succ])
        refine wpAnyH_take (i := 21) (oi := { dst := some 217, op := Op.pick (Operand.tmp 213) (Operand.const (Value.bool true)) (Operand.tmp 216), type := 4, pos := "law.go:104", after := #[{ on := 17, ground := Ground.data }, { on := 20, ground := Ground.data }, { on := 15, ground := Ground.guard }], guard := some (15, true) }) (v := ?_) rfl (by kernel_rfl) (by kernel_rfl) (by kernel_rfl) (fun _ _ _ h => h) (Or.inl ⟨by rfl, ?_⟩) (by assumption) ?_
        rotate_left
        · intro w hSw
          (try dsimp only at hSw)
          go_simp
          (try with_reducible rfl)
        (try simp only [Act.put, List.setIfInBounds_toArray, List.set_cons_zero, List.set_cons_succ])
        refine wpAnyH_take (i := 22) (oi := { dst := some 218, op := Op.pick (Operand.tmp 211) (Operand.tmp 217) (Operand.const (Value.bool false)), type := 4, pos := "law.go:104", after := #[{ on := 15, ground := Ground.data }, { on := 21, ground := Ground.data }], guard := none }) (v := ?_) rfl (by kernel_rfl) (by kernel_rfl) (by kernel_rfl) (fun _ _ _ h => h) (Or.inl ⟨by rfl, ?_⟩) (by assumption) ?_
        rotate_left
        · intro w hSw
          (try dsimp only at hSw)
          go_simp
          (try with_reducible rfl)
        (try simp only [Act.put, List.setIfInBounds_toArray, List.set_cons_zero, List.set_cons_succ])
        refine wpAnyH_take (i := 23) (oi := { dst := some 219, op := Op.move (Operand.tmp 218), type := 4, pos := "law.go:104", after := #[{ on := 22, ground := Ground.data }, { on := 19, ground := Ground.chain }], guard := none }) (v := ?_) rfl (by kernel_rfl) (by kernel_rfl) (by kernel_rfl) (fun _ _ _ h => h) (Or.inl ⟨by rfl, ?_⟩) (by assumption) ?_
        rotate_left
        · intro w hSw
          (try dsimp only at hSw)
          go_simp
          (try with_reducible rfl)
        (try simp only [Act.put, List.setIfInBounds_toArray, List.set_cons_zero, List.set_cons_succ])
        refine wpAnyH_take (i := 24) (oi := { dst := some 220, op := Op.fieldAddr 79 (Operand.tmp 26) 0, type := 0, pos := "law.go:104", after := #[{ on := 23, ground := Ground.guard }], guard := some (23, true) }) (v := ?_) rfl (by kernel_rfl) (by kernel_rfl) (by kernel_rfl) (fun _ _ _ h => h) (Or.inl ⟨by rfl, ?_⟩) (by assumption) ?_
        rotate_left
        · intro w hSw
          (try dsimp only at hSw)
          go_simp
          (try with_reducible rfl)
        (try simp only [Act.put, List.setIfInBounds_toArray, List.set_cons_zero, List.set_cons_succ])
        refine wpAnyH_take (i := 25) (oi := { dst := some 221, op := Op.load 77 (Operand.tmp 220), type := 77, pos := "law.go:104", after := #[{ on := 24, ground := Ground.data }, { on := 23, ground := Ground.guard }], guard := some (23, true) }) (v := ?_) rfl (by kernel_rfl) (by kernel_rfl) (by kernel_rfl) (fun _ _ _ h => h) (Or.inl ⟨by rfl, ?_⟩) (by assumption) ?_
        rotate_left
        · intro w hSw
          (try dsimp only at hSw)
          go_simp
          (try with_reducible rfl)
        (try simp only [Act.put, List.setIfInBounds_toArray, List.set_cons_zero, List.set_cons_succ])
        refine wpAnyH_take (i := 26) (oi := { dst := some 222, op := Op.call { callee := Callee.builtin Builtin.len, args := #[Operand.tmp 221], argTypes := #[77] }, type := 3, pos := "law.go:104", after := #[{ on := 25, ground := Ground.data }, { on := 23, ground := Ground.guard }], guard := some (23, true) }) (v := ?_) rfl (by kernel_rfl) (by kernel_rfl) (by kernel_rfl) (fun _ _ _ h => h) (Or.inl ⟨by rfl, ?_⟩) (by assumption) ?_
        rotate_left
        · intro w hSw
          (try dsimp only at hSw)
          go_simp
          (try with_reducible rfl)
        (try simp only [Act.put, List.setIfInBounds_toArray, List.set_cons_zero, List.set_cons_succ])
        refine wpAnyH_take (i := 27) (oi := { dst := some 223, op := Op.binOp BinOp.eql 3 (Operand.tmp 222) (Operand.const (Value.int IntKind.i64 0)) 3, type := 4, pos := "law.go:104", after := #[{ on := 26, ground := Ground.data }, { on := 23, ground := Ground.guard }], guard := some (23, true) }) (v := ?_) rfl (by kernel_rfl) (by kernel_rfl) (by kernel_rfl) (fun _ _ _ h => h) (Or.inl ⟨by rfl, ?_⟩) (by assumption) ?_
        rotate_left
        · intro w hSw
          (try dsimp only at hSw)
          go_simp
          (try with_reducible rfl)
        (try simp only [Act.put, List.setIfInBounds_toArray, List.set_cons_zero, List.set_cons_succ])
        refine wpAnyH_take (i := 28) (oi := { dst := some 224, op := Op.pick (Operand.tmp 219) (Operand.tmp 223) (Operand.const (Value.bool false)), type := 4, pos := "law.go:104", after := #[{ on := 23, ground := Ground.data }, { on := 27, ground := Ground.data }], guard := none }) (v := ?_) rfl (by kernel_rfl) (by kernel_rfl) (by kernel_rfl) (fun _ _ _ h => h) (Or.inl ⟨by rfl, ?_⟩) (by assumption) ?_
        rotate_left
        · intro w hSw
          (try dsimp only at hSw)
          go_simp
          (try with_reducible rfl)
        (try simp only [Act.put, List.setIfInBounds_toArray, List.set_cons_zero, List.set_cons_succ])
        refine wpAnyH_take (i := 29) (oi := { dst := some 225, op := Op.move (Operand.tmp 224), type := 4, pos := "law.go:104", after := #[{ on := 28, ground := Ground.data }, { on := 23, ground := Ground.chain }], guard := none }) (v := ?_) rfl (by kernel_rfl) (by kernel_rfl) (by kernel_rfl) (fun _ _ _ h => h) (Or.inl ⟨by rfl, ?_⟩) (by assumption) ?_
        rotate_left
        · intro w hSw
          (try dsimp only at hSw)
          go_simp
          (try with_reducible rfl)
        (try simp only [Act.put, List.setIfInBounds_toArray, List.set_cons_zero, List.set_cons_succ])
        refine wpAnyH_take (i := 30) (oi := { dst := some 226, op := Op.load 79 (Operand.tmp 5), type := 79, pos := "law.go:104", after := #[{ on := 29, ground := Ground.guard }], guard := some (29, true) }) (v := ?_) rfl (by kernel_rfl) (by kernel_rfl) (by kernel_rfl) (fun _ _ _ h => h) (Or.inl ⟨by rfl, ?_⟩) (by assumption) ?_
        rotate_left
        · intro w hSw
          (try dsimp only at hSw)
          go_simp
          (try with_reducible rfl)
        (try simp only [Act.put, List.setIfInBounds_toArray, List.set_cons_zero, List.set_cons_succ])
        refine wpAnyH_take (i := 33) (oi := { dst := some 229, op := Op.load 73 (Operand.tmp 2), type := 73, pos := "law.go:104", after := #[{ on := 29, ground := Ground.guard }], guard := some (29, true) }) (v := ?_) rfl (by kernel_rfl) (by kernel_rfl) (by kernel_rfl) (fun _ _ _ h => h) (Or.inl ⟨by rfl, ?_⟩) (by assumption) ?_
        rotate_left
        · intro w hSw
          (try dsimp only at hSw)
          go_simp
          (try with_reducible rfl)
        (try simp only [Act.put, List.setIfInBounds_toArray, List.set_cons_zero, List.set_cons_succ])
        refine wpAnyH_ready (rs := [31]) (by kernel_rfl) (by simp) ?_
        refine AllReadyH.cons (o := { dst := some 227, op := Op.call { callee := Callee.value (Operand.func 55), args := #[Operand.tmp 226], argTypes := #[79] }, type := 26, pos := "law.go:104", after := #[{ on := 30, ground := Ground.data }, { on := 29, ground := Ground.chain }, { on := 29, ground := Ground.guard }], guard := some (29, true) }) rfl (fun K hK => ?_) AllReadyH.nil
        go_simp
        (refine (check_bad ox n cx last max V _ HN.out HLs.out Kd.out.2.2 HS.out).mono ?_; rintro e wz31 ⟨rfl, hbz31⟩; have Kz31 := Lib.hid (And.intro (Kd.out.1.step hbz31) (And.intro (Kd.out.2.1.later hbz31) (Kd.out.2.2.later hbz31))); clear hbz31 Kd; clear k0 k1 k2 k3 k4 k5 k6 k7 k8 k9 k10 k11 k12; have kz31_0 : wz31.cell? ⟨w13.heap.size, 0, none⟩ = some (.slice none 0 0) := Kz31.out.2.1.cell 0 0 rfl rfl; have kz31_1 : wz31.cell? ⟨w13.heap.size, 1, none⟩ = some (.int .u32 0) := Kz31.out.2.1.cell 0 1 rfl rfl; have kz31_2 : wz31.cell? ⟨w13.heap.size, 2, none⟩ = some (.int .i64 ja) := Kz31.out.2.1.cell 0 2 rfl rfl; have kz31_3 : wz31.cell? ⟨w.heap.size + 1, 0, none⟩ = some (.slice xa la ca) := Kz31.out.2.1.cell 12 0 rfl rfl; have kz31_4 : wz31.cell? ⟨w.heap.size + 1, 1, none⟩ = some (.int .i64 ja) := Kz31.out.2.1.cell 12 1 rfl rfl; have kz31_5 : wz31.cell? ⟨w.heap.size + 1, 2, none⟩ = some (.int .u32 (na : Int)) := Kz31.out.2.1.cell 12 2 rfl rfl; have kz31_6 : wz31.cell? ⟨w.heap.size + 1, 3, none⟩ = some (.int .u64 (ta : Int)) := Kz31.out.2.1.cell 12 3 rfl rfl; have kz31_7 : wz31.cell? ⟨w2.heap.size, 0, none⟩ = some (.slice ox n cx) := Kz31.out.2.1.cell 11 0 rfl rfl; have kz31_8 : wz31.cell? ⟨w2.heap.size, 1, none⟩ = some (.int .u32 (last : Int)) := Kz31.out.2.1.cell 11 1 rfl rfl; have kz31_9 : wz31.cell? ⟨w2.heap.size, 2, none⟩ = some (.int .i64 max) := Kz31.out.2.1.cell 11 2 rfl rfl; have kz31_10 : wz31.cell? ⟨w.heap.size, 0, none⟩ = some (.slice oa n cp) := Kz31.out.2.1.cell 13 0 rfl rfl; have kz31_11 : wz31.cell? ⟨w.heap.size, 1, none⟩ = some (.int .u32 (last : Int)) := Kz31.out.2.1.cell 13 1 rfl rfl; have kz31_12 : wz31.cell? ⟨w.heap.size, 2, none⟩ = some (.int .i64 max) := Kz31.out.2.1.cell 13 2 rfl rfl; skip)
        (try go_wp2_with fail)
        refine hK.out _ _ ?_ (fun hHeld => ?_)
        · (try dsimp only)
          go_keep
        clear hK K
        (try simp only [Act.put, List.setIfInBounds_toArray, List.set_cons_zero, List.set_cons_succ])
        refine wpAnyH_take (i := 32) (oi := { dst := some 228, op := Op.binOp BinOp.eql 26 (Operand.tmp 227) (Operand.const Value.nilIface) 26, type := 4, pos := "law.go:104", after := #[{ on := 31, ground := Ground.data }, { on := 29, ground := Ground.guard }], guard := some (29, true) }) (v := ?_) rfl (by kernel_rfl) (by kernel_rfl) (by kernel_rfl) (fun _ _ _ h => h) (Or.inl ⟨by rfl, ?_⟩) (by assumption) ?_
        rotate_left
        · intro w hSw
          (try dsimp only at hSw)
          go_simp
          (try with_reducible rfl)
        (try simp only [Act.put, List.setIfInBounds_toArray, List.set_cons_zero, List.set_cons_succ])
        refine wpAnyH_ready (rs := [34]) (by kernel_rfl) (by simp) ?_
        refine AllReadyH.cons (o := { dst := some 230, op := Op.call { callee := Callee.value (Operand.func 56), args := #[Operand.tmp 229], argTypes := #[73] }, type := 4, pos := "law.go:104", after := #[{ on := 33, ground := Ground.data }, { on := 31, ground := Ground.chain }, { on := 29, ground := Ground.guard }], guard := some (29, true) }) rfl (fun K hK => ?_) AllReadyH.nil
        go_simp
        (refine (rmay_no' oa n cp last max V _ HN.out HLs.out (HV.out.later Kz31.out.1.bel) HM.out HS.out).mono ?_; rintro e wz34 ⟨rfl, hbz34⟩; have Kz34 := Lib.hid (And.intro (Kz31.out.1.step hbz34) (And.intro (Kz31.out.2.1.later hbz34) (Kz31.out.2.2.later hbz34))); clear hbz34 Kz31; clear kz31_0 kz31_1 kz31_2 kz31_3 kz31_4 kz31_5 kz31_6 kz31_7 kz31_8 kz31_9 kz31_10 kz31_11 kz31_12; have kz34_0 : wz34.cell? ⟨w13.heap.size, 0, none⟩ = some (.slice none 0 0) := Kz34.out.2.1.cell 0 0 rfl rfl; have kz34_1 : wz34.cell? ⟨w13.heap.size, 1, none⟩ = some (.int .u32 0) := Kz34.out.2.1.cell 0 1 rfl rfl; have kz34_2 : wz34.cell? ⟨w13.heap.size, 2, none⟩ = some (.int .i64 ja) := Kz34.out.2.1.cell 0 2 rfl rfl; have kz34_3 : wz34.cell? ⟨w.heap.size + 1, 0, none⟩ = some (.slice xa la ca) := Kz34.out.2.1.cell 12 0 rfl rfl; have kz34_4 : wz34.cell? ⟨w.heap.size + 1, 1, none⟩ = some (.int .i64 ja) := Kz34.out.2.1.cell 12 1 rfl rfl; have kz34_5 : wz34.cell? ⟨w.heap.size + 1, 2, none⟩ = some (.int .u32 (na : Int)) := Kz34.out.2.1.cell 12 2 rfl rfl; have kz34_6 : wz34.cell? ⟨w.heap.size + 1, 3, none⟩ = some (.int .u64 (ta : Int)) := Kz34.out.2.1.cell 12 3 rfl rfl; have kz34_7 : wz34.cell? ⟨w2.heap.size, 0, none⟩ = some (.slice ox n cx) := Kz34.out.2.1.cell 11 0 rfl rfl; have kz34_8 : wz34.cell? ⟨w2.heap.size, 1, none⟩ = some (.int .u32 (last : Int)) := Kz34.out.2.1.cell 11 1 rfl rfl; have kz34_9 : wz34.cell? ⟨w2.heap.size, 2, none⟩ = some (.int .i64 max) := Kz34.out.2.1.cell 11 2 rfl rfl; have kz34_10 : wz34.cell? ⟨w.heap.size, 0, none⟩ = some (.slice oa n cp) := Kz34.out.2.1.cell 13 0 rfl rfl; have kz34_11 : wz34.cell? ⟨w.heap.size, 1, none⟩ = some (.int .u32 (last : Int)) := Kz34.out.2.1.cell 13 1 rfl rfl; have kz34_12 : wz34.cell? ⟨w.heap.size, 2, none⟩ = some (.int .i64 max) := Kz34.out.2.1.cell 13 2 rfl rfl; skip)
        (try go_wp2_with fail)
        refine hK.out _ _ ?_ (fun hHeld => ?_)
        · (try dsimp only)
          go_keep
        clear hK K
        (try simp only [Act.put, List.setIfInBounds_toArray, List.set_cons_zero, List.set_cons_succ])
        refine wpAnyH_take (i := 35) (oi := { dst := some 231, op := Op.binOp BinOp.eql 4 (Operand.tmp 228) (Operand.tmp 230) 4, type := 4, pos := "law.go:104", after := #[{ on := 32, ground := Ground.data }, { on := 34, ground := Ground.data }, { on := 29, ground := Ground.guard }], guard := some (29, true) }) (v := ?_) rfl (by kernel_rfl) (by kernel_rfl) (by kernel_rfl) (fun _ _ _ h => h) (Or.inl ⟨by rfl, ?_⟩) (by assumption) ?_
        rotate_left
        · intro w hSw
          (try dsimp only at hSw)
          go_simp
          (try with_reducible rfl)
        (try simp only [Act.put, List.setIfInBounds_toArray, List.set_cons_zero, List.set_cons_succ])
        refine wpAnyH_take (i := 36) (oi := { dst := some 232, op := Op.pick (Operand.tmp 225) (Operand.tmp 231) (Operand.const (Value.bool false)), type := 4, pos := "law.go:104", after := #[{ on := 29, ground := Ground.data }, { on := 35, ground := Ground.data }], guard := none }) (v := ?_) rfl (by kernel_rfl) (by kernel_rfl) (by kernel_rfl) (fun _ _ _ h => h) (Or.inl ⟨by rfl, ?_⟩) (by assumption) ?_
        rotate_left
        · intro w hSw
          (try dsimp only at hSw)
          go_simp
          (try with_reducible rfl)
        (try simp only [Act.put, List.setIfInBounds_toArray, List.set_cons_zero, List.set_cons_succ])
        refine wpAnyH_take (i := 37) (oi := { dst := some 233, op := Op.move (Operand.tmp 232), type := 4, pos := "law.go:104", after := #[{ on := 36, ground := Ground.data }, { on := 34, ground := Ground.chain }], guard := none }) (v := ?_) rfl (by kernel_rfl) (by kernel_rfl) (by kernel_rfl) (fun _ _ _ h => h) (Or.inl ⟨by rfl, ?_⟩) (by assumption) ?_
        rotate_left
        · intro w hSw
          (try dsimp only at hSw)
          go_simp
          (try with_reducible rfl)
        (try simp only [Act.put, List.setIfInBounds_toArray, List.set_cons_zero, List.set_cons_succ])
        refine wpAnyH_ready (rs := [38]) (by kernel_rfl) (by simp) ?_
        refine AllReadyH.cons (o := { dst := some 234, op := Op.call { callee := Callee.value (Operand.func 41), args := #[], argTypes := #[] }, type := 4, pos := "law.go:104", after := #[{ on := 37, ground := Ground.chain }, { on := 37, ground := Ground.guard }], guard := some (37, true) }) rfl (fun K hK => ?_) AllReadyH.nil
        go_simp
        (refine (sure30_any _ Kz34.out.1.handle).mono ?_; rintro e wz38 ⟨rfl, hbz38⟩; have Kz38 := Lib.hid (And.intro (Kz34.out.1.step hbz38) (And.intro (Kz34.out.2.1.later hbz38) (Kz34.out.2.2.later hbz38))); clear hbz38 Kz34; clear kz34_0 kz34_1 kz34_2 kz34_3 kz34_4 kz34_5 kz34_6 kz34_7 kz34_8 kz34_9 kz34_10 kz34_11 kz34_12; have kz38_0 : wz38.cell? ⟨w13.heap.size, 0, none⟩ = some (.slice none 0 0) := Kz38.out.2.1.cell 0 0 rfl rfl; have kz38_1 : wz38.cell? ⟨w13.heap.size, 1, none⟩ = some (.int .u32 0) := Kz38.out.2.1.cell 0 1 rfl rfl; have kz38_2 : wz38.cell? ⟨w13.heap.size, 2, none⟩ = some (.int .i64 ja) := Kz38.out.2.1.cell 0 2 rfl rfl; have kz38_3 : wz38.cell? ⟨w.heap.size + 1, 0, none⟩ = some (.slice xa la ca) := Kz38.out.2.1.cell 12 0 rfl rfl; have kz38_4 : wz38.cell? ⟨w.heap.size + 1, 1, none⟩ = some (.int .i64 ja) := Kz38.out.2.1.cell 12 1 rfl rfl; have kz38_5 : wz38.cell? ⟨w.heap.size + 1, 2, none⟩ = some (.int .u32 (na : Int)) := Kz38.out.2.1.cell 12 2 rfl rfl; have kz38_6 : wz38.cell? ⟨w.heap.size + 1, 3, none⟩ = some (.int .u64 (ta : Int)) := Kz38.out.2.1.cell 12 3 rfl rfl; have kz38_7 : wz38.cell? ⟨w2.heap.size, 0, none⟩ = some (.slice ox n cx) := Kz38.out.2.1.cell 11 0 rfl rfl; have kz38_8 : wz38.cell? ⟨w2.heap.size, 1, none⟩ = some (.int .u32 (last : Int)) := Kz38.out.2.1.cell 11 1 rfl rfl; have kz38_9 : wz38.cell? ⟨w2.heap.size, 2, none⟩ = some (.int .i64 max) := Kz38.out.2.1.cell 11 2 rfl rfl; have kz38_10 : wz38.cell? ⟨w.heap.size, 0, none⟩ = some (.slice oa n cp) := Kz38.out.2.1.cell 13 0 rfl rfl; have kz38_11 : wz38.cell? ⟨w.heap.size, 1, none⟩ = some (.int .u32 (last : Int)) := Kz38.out.2.1.cell 13 1 rfl rfl; have kz38_12 : wz38.cell? ⟨w.heap.size, 2, none⟩ = some (.int .i64 max) := Kz38.out.2.1.cell 13 2 rfl rfl; skip)
        (try go_wp2_with fail)
        refine hK.out _ _ ?_ (fun hHeld => ?_)
        · (try dsimp only)
          go_keep
        clear hK K
        (try simp only [Act.put, List.setIfInBounds_toArray, List.set_cons_zero, List.set_cons_succ])
        refine wpAnyH_take (i := 39) (oi := { dst := some 235, op := Op.pick (Operand.tmp 233) (Operand.tmp 234) (Operand.const (Value.bool false)), type := 4, pos := "law.go:104", after := #[{ on := 37, ground := Ground.data }, { on := 38, ground := Ground.data }], guard := none }) (v := ?_) rfl (by kernel_rfl) (by kernel_rfl) (by kernel_rfl) (fun _ _ _ h => h) (Or.inl ⟨by rfl, ?_⟩) (by assumption) ?_
        rotate_left
        · intro w hSw
          (try dsimp only at hSw)
          go_simp
          (try with_reducible rfl)
        (try simp only [Act.put, List.setIfInBounds_toArray, List.set_cons_zero, List.set_cons_succ])
        refine wpAnyH_take (i := 40) (oi := { dst := some 4, op := Op.assign (Operand.tmp 235), type := 4, pos := "law.go:104", after := _, guard := none }) (v := ?_) rfl (by kernel_rfl) (by kernel_rfl) (by kernel_rfl) (fun _ _ _ h => h) (Or.inl ⟨by rfl, ?_⟩) (by assumption) ?_
        rotate_left
        · intro w hSw
          (try dsimp only at hSw)
          go_simp
          (try with_reducible rfl)
        (try simp only [Act.put, List.setIfInBounds_toArray, List.set_cons_zero, List.set_cons_succ])
        refine wpAnyH_done (by kernel_rfl) ?_ _
        go_wp2_with fail
        go_ret
        exact ⟨rfl, Kz38.out.1.bel⟩
    · subst e1 e2
      clear HNEW
      rcases h1 with h1 | h1
      · have g1 : ¬ (1 ≤ ja) := by omega
        rcases HSS.out with hS | hS
        · have HS := Lib.hid hS
          clear hS
          have k0 : w24.cell? ⟨w13.heap.size, 0, none⟩ = some (.slice none 0 0) := HF24.out.cell 0 0 rfl rfl
          have k1 : w24.cell? ⟨w13.heap.size, 1, none⟩ = some (.int .u32 0) := HF24.out.cell 0 1 rfl rfl
          have k2 : w24.cell? ⟨w13.heap.size, 2, none⟩ = some (.int .i64 0) := HF24.out.cell 0 2 rfl rfl
          have k3 : w24.cell? ⟨w.heap.size + 1, 0, none⟩ = some (.slice xa la ca) := HF24.out.cell 12 0 rfl rfl
          have k4 : w24.cell? ⟨w.heap.size + 1, 1, none⟩ = some (.int .i64 ja) := HF24.out.cell 12 1 rfl rfl
          have k5 : w24.cell? ⟨w.heap.size + 1, 2, none⟩ = some (.int .u32 (na : Int)) := HF24.out.cell 12 2 rfl rfl
          have k6 : w24.cell? ⟨w.heap.size + 1, 3, none⟩ = some (.int .u64 (ta : Int)) := HF24.out.cell 12 3 rfl rfl
          have k7 : w24.cell? ⟨w2.heap.size, 0, none⟩ = some (.slice ox n cx) := HF24.out.cell 11 0 rfl rfl
          have k8 : w24.cell? ⟨w2.heap.size, 1, none⟩ = some (.int .u32 (last : Int)) := HF24.out.cell 11 1 rfl rfl
          have k9 : w24.cell? ⟨w2.heap.size, 2, none⟩ = some (.int .i64 max) := HF24.out.cell 11 2 rfl rfl
          have k10 : w24.cell? ⟨w.heap.size, 0, none⟩ = some (.slice oa n cp) := HF24.out.cell 13 0 rfl rfl
          have k11 : w24.cell? ⟨w.heap.size, 1, none⟩ = some (.int .u32 (last : Int)) := HF24.out.cell 13 1 rfl rfl
          have k12 : w24.cell? ⟨w.heap.size, 2, none⟩ = some (.int .i64 max) := HF24.out.cell 13 2 rfl rfl
          have HFd := HF24
          have HRd := HR24
          have HXd := HVx24
          have Kd : Hid (Wn w w24.drew ∧ Fr w24.drew [(w13.heap.size, #[.slice none 0 0, .int .u32 0, .int .i64 0], 79), (w12.heap.size, #[.slice o12 n5 c12, .int .u32 (l5 : Int), .int .i64 m5], 73), (w11.heap.size, #[.slice o11 n5 c11, .int .u32 (l5 : Int), .int .i64 m5], 79), (w10.heap.size, #[.slice o10 n4 c10, .int .u32 (l4 : Int), .int .i64 m4], 73), (w9.heap.size, #[.slice o9 n4 c9, .int .u32 (l4 : Int), .int .i64 m4], 79), (w8.heap.size, #[.slice o8 n3 c8, .int .u32 (l3 : Int), .int .i64 m3], 73), (w7.heap.size, #[.slice o7 n3 c7, .int .u32 (l3 : Int), .int .i64 m3], 79), (w6.heap.size, #[.int .u32 (vm : Int), .slice o6 vl c6, .int .u64 (vt : Int), .int .i64 vs], 89), (w5.heap.size, #[.int .u32 (vm : Int), .slice o5 vl c5, .int .u64 (vt : Int), .int .i64 vs], 86), (w4.heap.size, #[.slice o4 n1 c4, .int .u32 (l1 : Int), .int .i64 m1], 73), (w3.heap.size, #[.slice o3 n1 c3, .int .u32 (l1 : Int), .int .i64 m1], 79), (w2.heap.size, #[.slice ox n cx, .int .u32 (last : Int), .int .i64 max], 79), (w.heap.size + 1, #[.slice xa la ca, .int .i64 ja, .int .u32 (na : Int), .int .u64 (ta : Int)], 75), (w.heap.size, #[.slice oa n cp, .int .u32 (last : Int), .int .i64 max], 73)] ∧ Vers w24.drew ox n V) := Lib.hid ⟨HR24.out.drew, HF24.out, HVx24.out⟩
          clear HFd HRd HXd
          go_wp2_with fail
          refine wp_region_held_drew (S := (fun w' => w'.cell? ⟨w13.heap.size, 0, none⟩ = some (.slice none 0 0) ∧ w'.cell? ⟨w13.heap.size, 1, none⟩ = some (.int .u32 0) ∧ w'.cell? ⟨w13.heap.size, 2, none⟩ = some (.int .i64 0) ∧ w'.cell? ⟨w.heap.size + 1, 0, none⟩ = some (.slice xa la ca) ∧ w'.cell? ⟨w.heap.size + 1, 1, none⟩ = some (.int .i64 ja) ∧ w'.cell? ⟨w.heap.size + 1, 2, none⟩ = some (.int .u32 (na : Int)) ∧ w'.cell? ⟨w.heap.size + 1, 3, none⟩ = some (.int .u64 (ta : Int)) ∧ w'.cell? ⟨w2.heap.size, 0, none⟩ = some (.slice ox n cx) ∧ w'.cell? ⟨w2.heap.size, 1, none⟩ = some (.int .u32 (last : Int)) ∧ w'.cell? ⟨w2.heap.size, 2, none⟩ = some (.int .i64 max) ∧ w'.cell? ⟨w.heap.size, 0, none⟩ = some (.slice oa n cp) ∧ w'.cell? ⟨w.heap.size, 1, none⟩ = some (.int .u32 (last : Int)) ∧ w'.cell? ⟨w.heap.size, 2, none⟩ = some (.int .i64 max))) (by kernel_rfl) ?_ (fun hHeld => ?_)
          · (try dsimp only)
            go_keep
          refine wpAnyH_take (i := 0) (oi := { dst := some 196, op := Op.move (Operand.tmp 27), type := 26, pos := "law.go:104", after := #[], guard := none }) (v := ?_) rfl (by kernel_rfl) (by kernel_rfl) (by kernel_rfl) (fun _ _ _ h => h) (Or.inl ⟨by rfl, ?_⟩) (by assumption) ?_
          rotate_left
          · intro w hSw
            (try dsimp only at hSw)
            go_simp
            (try with_reducible rfl)
          (try simp only [Act.put, List.setIfInBounds_toArray, List.set_cons_zero, List.set_cons_succ])
          refine wpAnyH_take (i := 1) (oi := { dst := some 197, op := Op.binOp BinOp.eql 26 (Operand.tmp 196) (Operand.const Value.nilIface) 26, type := 4, pos := "law.go:104", after := #[{ on := 0, ground := Ground.data }], guard := none }) (v := ?_) rfl (by kernel_rfl) (by kernel_rfl) (by kernel_rfl) (fun _ _ _ h => h) (Or.inl ⟨by rfl, ?_⟩) (by assumption) ?_
          rotate_left
          · intro w hSw
            (try dsimp only at hSw)
            go_simp
            (try with_reducible rfl)
          (try simp only [Act.put, List.setIfInBounds_toArray, List.set_cons_zero, List.set_cons_succ])
          refine wpAnyH_take (i := 2) (oi := { dst := some 198, op := Op.move (Operand.tmp 28), type := 4, pos := "law.go:104", after := #[], guard := none }) (v := ?_) rfl (by kernel_rfl) (by kernel_rfl) (by kernel_rfl) (fun _ _ _ h => h) (Or.inl ⟨by rfl, ?_⟩) (by assumption) ?_
          rotate_left
          · intro w hSw
            (try dsimp only at hSw)
            go_simp
            (try with_reducible rfl)
          (try simp only [Act.put, List.setIfInBounds_toArray, List.set_cons_zero, List.set_cons_succ])
          refine wpAnyH_take (i := 3) (oi := { dst := some 199, op := Op.binOp BinOp.eql 4 (Operand.tmp 197) (Operand.tmp 198) 4, type := 4, pos := "law.go:104", after := #[{ on := 1, ground := Ground.data }, { on := 2, ground := Ground.data }], guard := none }) (v := ?_) rfl (by kernel_rfl) (by kernel_rfl) (by kernel_rfl) (fun _ _ _ h => h) (Or.inl ⟨by rfl, ?_⟩) (by assumption) ?_
          rotate_left
          · intro w hSw
            (try dsimp only at hSw)
            go_simp
            (try with_reducible rfl)
          (try simp only [Act.put, List.setIfInBounds_toArray, List.set_cons_zero, List.set_cons_succ])
          refine wpAnyH_take (i := 4) (oi := { dst := some 200, op := Op.move (Operand.tmp 199), type := 4, pos := "law.go:104", after := #[{ on := 3, ground := Ground.data }], guard := none }) (v := ?_) rfl (by kernel_rfl) (by kernel_rfl) (by kernel_rfl) (fun _ _ _ h => h) (Or.inl ⟨by rfl, ?_⟩) (by assumption) ?_
          rotate_left
          · intro w hSw
            (try dsimp only at hSw)
            go_simp
            (try with_reducible rfl)
          (try simp only [Act.put, List.setIfInBounds_toArray, List.set_cons_zero, List.set_cons_succ])
          refine wpAnyH_take (i := 5) (oi := { dst := some 201, op := Op.move (Operand.tmp 28), type := 4, pos := "law.go:104", after := #[{ on := 4, ground := Ground.guard }], guard := some (4, true) }) (v := ?_) rfl (by kernel_rfl) (by kernel_rfl) (by kernel_rfl) (fun _ _ _ h => h) (Or.inl ⟨by rfl, ?_⟩) (by assumption) ?_
          rotate_left
          · intro w hSw
            (try dsimp only at hSw)
            go_simp
            (try with_reducible rfl)
          (try simp only [Act.put, List.setIfInBounds_toArray, List.set_cons_zero, List.set_cons_succ])
          refine wpAnyH_take (i := 6) (oi := { dst := some 202, op := Op.unOp UnOp.not 4 (Operand.tmp 201), type := 4, pos := "law.go:104", after := #[{ on := 5, ground := Ground.data }, { on := 4, ground := Ground.guard }], guard := some (4, true) }) (v := ?_) rfl (by kernel_rfl) (by kernel_rfl) (by kernel_rfl) (fun _ _ _ h => h) (Or.inl ⟨by rfl, ?_⟩) (by assumption) ?_
          rotate_left
          · intro w hSw
            (try dsimp only at hSw)
            go_simp
            (try with_reducible rfl)
          (try simp only [Act.put, List.setIfInBounds_toArray, List.set_cons_zero, List.set_cons_succ])
          refine wpAnyH_take (i := 7) (oi := { dst := some 203, op := Op.move (Operand.tmp 202), type := 4, pos := "law.go:104", after := #[{ on := 6, ground := Ground.data }, { on := 4, ground := Ground.chain }, { on := 4, ground := Ground.guard }], guard := some (4, true) }) (v := ?_) rfl (by kernel_rfl) (by kernel_rfl) (by kernel_rfl) (fun _ _ _ h => h) (Or.inl ⟨by rfl, ?_⟩) (by assumption) ?_
          rotate_left
          · intro w hSw
            (try dsimp only at hSw)
            go_simp
            (try with_reducible rfl)
          (try simp only [Act.put, List.setIfInBounds_toArray, List.set_cons_zero, List.set_cons_succ])
          refine wpAnyH_take (i := 8) (oi := { dst := some 204, op := Op.fieldAddr 79 (Operand.tmp 26) 2, type := 0, pos := "law.go:104", after := #[{ on := 7, ground := Ground.guard }], guard := some (7, false) }) (v := undef) rfl (by kernel_rfl) (by kernel_rfl) (by kernel_rfl) (fun _ _ _ h => h) (Or.inr ⟨by rfl, rfl⟩) (by assumption) ?_
          (try simp only [Act.put, List.setIfInBounds_toArray, List.set_cons_zero, List.set_cons_succ])
          refine wpAnyH_take (i := 9) (oi := { dst := some 205, op := Op.load 3 (Operand.tmp 204), type := 3, pos := "law.go:104", after := #[{ on := 8, ground := Ground.data }, { on := 7, ground := Ground.guard }], guard := some (7, false) }) (v := undef) rfl (by kernel_rfl) (by kernel_rfl) (by kernel_rfl) (fun _ _ _ h => h) (Or.inr ⟨by rfl, rfl⟩) (by assumption) ?_
          (try simp only [Act.put, List.setIfInBounds_toArray, List.set_cons_zero, List.set_cons_succ])
          refine wpAnyH_take (i := 10) (oi := { dst := some 206, op := Op.fieldAddr 75 (Operand.tmp 3) 1, type := 0, pos := "law.go:104", after := #[{ on := 7, ground := Ground.guard }], guard := some (7, false) }) (v := undef) rfl (by kernel_rfl) (by kernel_rfl) (by kernel_rfl) (fun _ _ _ h => h) (Or.inr ⟨by rfl, rfl⟩) (by assumption) ?_
          (try simp only [Act.put, List.setIfInBounds_toArray, List.set_cons_zero, List.set_cons_succ])
          refine wpAnyH_take (i := 11) (oi := { dst := some 207, op := Op.load 3 (Operand.tmp 206), type := 3, pos := "law.go:104", after := #[{ on := 10, ground := Ground.data }, { on := 7, ground := Ground.guard }], guard := some (7, false) }) (v := undef) rfl (by kernel_rfl) (by kernel_rfl) (by kernel_rfl) (fun _ _ _ h => h) (Or.inr ⟨by rfl, rfl⟩) (by assumption) ?_
          (try simp only [Act.put, List.setIfInBounds_toArray, List.set_cons_zero, List.set_cons_succ])
          refine wpAnyH_take (i := 12) (oi := { dst := some 208, op := Op.binOp BinOp.eql 3 (Operand.tmp 205) (Operand.tmp 207) 3, type := 4, pos := "law.go:104", after := #[{ on := 9, ground := Ground.data }, { on := 11, ground := Ground.data }, { on := 7, ground := Ground.guard }], guard := some (7, false) }) (v := undef) rfl (by kernel_rfl) (by kernel_rfl) (by kernel_rfl) (fun _ _ _ h => h) (Or.inr ⟨by rfl, rfl⟩) (by assumption) ?_
          (try simp only [Act.put, List.setIfInBounds_toArray, List.set_cons_zero, List.set_cons_succ])
          refine wpAnyH_take (i := 13) (oi := { dst := some 209, op := Op.pick (Operand.tmp 203) (Operand.const (Value.bool true)) (Operand.tmp 208), type := 4, pos := "law.go:104", after := #[{ on := 7, ground := Ground.data }, { on := 12, ground := Ground.data }, { on := 4, ground := Ground.guard }], guard := some (4, true) }) (v := ?_) rfl (by kernel_rfl) (by kernel_rfl) (by kernel_rfl) (fun _ _ _ h => h) (Or.inl ⟨by rfl, ?_⟩) (by assumption) ?_
          rotate_left
          · intro w hSw
            (try dsimp only at hSw)
            go_simp
            (try with_reducible rfl)
          (try simp only [Act.put, List.setIfInBounds_toArray, List.set_cons_zero, List.set_cons_succ])
          refine wpAnyH_take (i := 14) (oi := { dst := some 210, op := Op.pick (Operand.tmp 200) (Operand.tmp 209) (Operand.const (Value.bool false)), type := 4, pos := "law.go:104", after := #[{ on := 4, ground := Ground.data }, { on := 13, ground := Ground.data }], guard := none }) (v := ?_) rfl (by kernel_rfl) (by kernel_rfl) (by kernel_rfl) (fun _ _ _ h => h) (Or.inl ⟨by rfl, ?_⟩) (by assumption) ?_
          rotate_left
          · intro w hSw
            (try dsimp only at hSw)
            go_simp
            (try with_reducible rfl)
          (try simp only [Act.put, List.setIfInBounds_toArray, List.set_cons_zero, List.set_cons_succ])
          refine wpAnyH_take (i := 15) (oi := { dst := some 211, op := Op.move (Operand.tmp 210), type := 4, pos := "law.go:104", after := #[{ on := 14, ground := Ground.data }, { on := 7, ground := Ground.chain }], guard := none }) (v := ?_) rfl (by kernel_rfl) (by kernel_rfl) (by kernel_rfl) (fun _ _ _ h => h) (Or.inl ⟨by rfl, ?_⟩) (by assumption) ?_
          rotate_left
          · intro w hSw
            (try dsimp only at hSw)
            go_simp
            (try with_reducible rfl)
          (try simp only [Act.put, List.setIfInBounds_toArray, List.set_cons_zero, List.set_cons_succ])
          refine wpAnyH_take (i := 16) (oi := { dst := some 212, op := Op.move (Operand.tmp 28), type := 4, pos := "law.go:104", after := #[{ on := 15, ground := Ground.guard }], guard := some (15, true) }) (v := ?_) rfl (by kernel_rfl) (by kernel_rfl) (by kernel_rfl) (fun _ _ _ h => h) (Or.inl ⟨by rfl, ?_⟩) (by assumption) ?_
          rotate_left
          · intro w hSw
            (try dsimp only at hSw)
            go_simp
            (try with_reducible rfl)
          (try simp only [Act.put, List.setIfInBounds_toArray, List.set_cons_zero, List.set_cons_succ])
          refine wpAnyH_take (i := 17) (oi := { dst := some 213, op := Op.move (Operand.tmp 212), type := 4, pos := "law.go:104", after := #[{ on := 16, ground := Ground.data }, { on := 15, ground := Ground.chain }, { on := 15, ground := Ground.guard }], guard := some (15, true) }) (v := ?_) rfl (by kernel_rfl) (by kernel_rfl) (by kernel_rfl) (fun _ _ _ h => h) (Or.inl ⟨by rfl, ?_⟩) (by assumption) ?_
          rotate_left
          · intro w hSw
            (try dsimp only at hSw)
            go_simp
            (try with_reducible rfl)
          (try simp only [Act.put, List.setIfInBounds_toArray, List.set_cons_zero, List.set_cons_succ])
          refine wpAnyH_take (i := 18) (oi := { dst := some 214, op := Op.move (Operand.tmp 27), type := 26, pos := "law.go:104", after := #[{ on := 17, ground := Ground.guard }], guard := some (17, false) }) (v := ?_) rfl (by kernel_rfl) (by kernel_rfl) (by kernel_rfl) (fun _ _ _ h => h) (Or.inl ⟨by rfl, ?_⟩) (by assumption) ?_
          rotate_left
          · intro w hSw
            (try dsimp only at hSw)
            go_simp
            (try with_reducible rfl)
          (try simp only [Act.put, List.setIfInBounds_toArray, List.set_cons_zero, List.set_cons_succ])
          refine wpAnyH_ready (rs := [19]) (by kernel_rfl) (by simp) ?_
          refine AllReadyH.cons (o := { dst := some 215, op := Op.call { callee := Callee.value (Operand.func 53), args := #[Operand.tmp 214], argTypes := #[26] }, type := 3, pos := "law.go:104", after := #[{ on := 18, ground := Ground.data }, { on := 17, ground := Ground.chain }, { on := 17, ground := Ground.guard }], guard := some (17, false) }) rfl (fun K hK => ?_) AllReadyH.nil
          go_simp
          (refine (num_errv (k := 1) (ErrV.of (by decide)) _ Kd.out.1.handle).mono ?_; rintro e wz19 ⟨rfl, hbz19⟩; have Kz19 := Lib.hid (And.intro (Kd.out.1.step hbz19) (And.intro (Kd.out.2.1.later hbz19) (Kd.out.2.2.later hbz19))); clear hbz19 Kd; clear k0 k1 k2 k3 k4 k5 k6 k7 k8 k9 k10 k11 k12; have kz19_0 : wz19.cell? ⟨w13.heap.size, 0, none⟩ = some (.slice none 0 0) := Kz19.out.2.1.cell 0 0 rfl rfl; have kz19_1 : wz19.cell? ⟨w13.heap.size, 1, none⟩ = some (.int .u32 0) := Kz19.out.2.1.cell 0 1 rfl rfl; have kz19_2 : wz19.cell? ⟨w13.heap.size, 2, none⟩ = some (.int .i64 0) := Kz19.out.2.1.cell 0 2 rfl rfl; have kz19_3 : wz19.cell? ⟨w.heap.size + 1, 0, none⟩ = some (.slice xa la ca) := Kz19.out.2.1.cell 12 0 rfl rfl; have kz19_4 : wz19.cell? ⟨w.heap.size + 1, 1, none⟩ = some (.int .i64 ja) := Kz19.out.2.1.cell 12 1 rfl rfl; have kz19_5 : wz19.cell? ⟨w.heap.size + 1, 2, none⟩ = some (.int .u32 (na : Int)) := Kz19.out.2.1.cell 12 2 rfl rfl; have kz19_6 : wz19.cell? ⟨w.heap.size + 1, 3, none⟩ = some (.int .u64 (ta : Int)) := Kz19.out.2.1.cell 12 3 rfl rfl; have kz19_7 : wz19.cell? ⟨w2.heap.size, 0, none⟩ = some (.slice ox n cx) := Kz19.out.2.1.cell 11 0 rfl rfl; have kz19_8 : wz19.cell? ⟨w2.heap.size, 1, none⟩ = some (.int .u32 (last : Int)) := Kz19.out.2.1.cell 11 1 rfl rfl; have kz19_9 : wz19.cell? ⟨w2.heap.size, 2, none⟩ = some (.int .i64 max) := Kz19.out.2.1.cell 11 2 rfl rfl; have kz19_10 : wz19.cell? ⟨w.heap.size, 0, none⟩ = some (.slice oa n cp) := Kz19.out.2.1.cell 13 0 rfl rfl; have kz19_11 : wz19.cell? ⟨w.heap.size, 1, none⟩ = some (.int .u32 (last : Int)) := Kz19.out.2.1.cell 13 1 rfl rfl; have kz19_12 : wz19.cell? ⟨w.heap.size, 2, none⟩ = some (.int .i64 max) := Kz19.out.2.1.cell 13 2 rfl rfl; skip)
          (try go_wp2_with fail)
          refine hK.out _ _ ?_ (fun hHeld => ?_)
          · (try dsimp only)
            go_keep
          clear hK K
          (try simp only [Act.put, List.setIfInBounds_toArray, List.set_cons_zero, List.set_cons_succ])
          refine wpAnyH_take (i := 20) (oi := { dst := some 216, op := Op.binOp BinOp.eql 3 (Operand.tmp 215) (Operand.const (Value.int IntKind.i64 1)) 3, type := 4, pos := "law.go:104", after := #[{ on := 19, ground := Ground.data }, { on := 17, ground := Ground.guard }], guard := some (17, false) }) (v := ?_) rfl (by kernel_rfl) (by kernel_rfl) (by kernel_rfl) (fun _ _ _ h => h) (Or.inl ⟨by rfl, ?_⟩) (by assumption) ?_
          rotate_left
          · intro w hSw
            (try dsimp only at hSw)
            go_simp
            (try with_reducible rfl)
          (try simp only [Act.put, List.setIfInBounds_toArray, List.set_cons_zero, List.set_cons_succ])
          refine wpAnyH_take (i := 21) (oi := { dst := some 217, op := Op.pick (Operand.tmp 213) (Operand.const (Value.bool true)) (Operand.tmp 216), type := 4, pos := "law.go:104", after := #[{ on := 17, ground := Ground.data }, { on := 20, ground := Ground.data }, { on := 15, ground := Ground.guard }], guard := some (15, true) }) (v := ?_) rfl (by kernel_rfl) (by kernel_rfl) (by kernel_rfl) (fun _ _ _ h => h) (Or.inl ⟨by rfl, ?_⟩) (by assumption) ?_
          rotate_left
          · intro w hSw
            (try dsimp only at hSw)
            go_simp
            (try with_reducible rfl)
          (try simp only [Act.put, List.setIfInBounds_toArray, List.set_cons_zero, List.set_cons_succ])
          refine wpAnyH_take (i := 22) (oi := { dst := some 218, op := Op.pick (Operand.tmp 211) (Operand.tmp 217) (Operand.const (Value.bool false)), type := 4, pos := "law.go:104", after := #[{ on := 15, ground := Ground.data }, { on := 21, ground := Ground.data }], guard := none }) (v := ?_) rfl (by kernel_rfl) (by kernel_rfl) (by kernel_rfl) (fun _ _ _ h => h) (Or.inl ⟨by rfl, ?_⟩) (by assumption) ?_
          rotate_left
          · intro w hSw
            (try dsimp only at hSw)
            go_simp
            (try with_reducible rfl)
          (try simp only [Act.put, List.setIfInBounds_toArray, List.set_cons_zero, List.set_cons_succ])
          refine wpAnyH_take (i := 23) (oi := { dst := some 219, op := Op.move (Operand.tmp 218), type := 4, pos := "law.go:104", after := #[{ on := 22, ground := Ground.data }, { on := 19, ground := Ground.chain }], guard := none }) (v := ?_) rfl (by kernel_rfl) (by kernel_rfl) (by kernel_rfl) (fun _ _ _ h => h) (Or.inl ⟨by rfl, ?_⟩) (by assumption) ?_
          rotate_left
          · intro w hSw
            (try dsimp only at hSw)
            go_simp
            (try with_reducible rfl)
          (try simp only [Act.put, List.setIfInBounds_toArray, List.set_cons_zero, List.set_cons_succ])
          refine wpAnyH_take (i := 24) (oi := { dst := some 220, op := Op.fieldAddr 79 (Operand.tmp 26) 0, type := 0, pos := "law.go:104", after := #[{ on := 23, ground := Ground.guard }], guard := some (23, true) }) (v := ?_) rfl (by kernel_rfl) (by kernel_rfl) (by kernel_rfl) (fun _ _ _ h => h) (Or.inl ⟨by rfl, ?_⟩) (by assumption) ?_
          rotate_left
          · intro w hSw
            (try dsimp only at hSw)
            go_simp
            (try with_reducible rfl)
          (try simp only [Act.put, List.setIfInBounds_toArray, List.set_cons_zero, List.set_cons_succ])
          refine wpAnyH_take (i := 25) (oi := { dst := some 221, op := Op.load 77 (Operand.tmp 220), type := 77, pos := "law.go:104", after := #[{ on := 24, ground := Ground.data }, { on := 23, ground := Ground.guard }], guard := some (23, true) }) (v := ?_) rfl (by kernel_rfl) (by kernel_rfl) (by kernel_rfl) (fun _ _ _ h => h) (Or.inl ⟨by rfl, ?_⟩) (by assumption) ?_
          rotate_left
          · intro w hSw
            (try dsimp only at hSw)
            go_simp
            (try with_reducible rfl)
          (try simp only [Act.put, List.setIfInBounds_toArray, List.set_cons_zero, List.set_cons_succ])
          refine wpAnyH_take (i := 26) (oi := { dst := some 222, op := Op.call { callee := Callee.builtin Builtin.len, args := #[Operand.tmp 221], argTypes := #[77] }, type := 3, pos := "law.go:104", after := #[{ on := 25, ground := Ground.data }, { on := 23, ground := Ground.guard }], guard := some (23, true) }) (v := ?_) rfl (by kernel_rfl) (by kernel_rfl) (by kernel_rfl) (fun _ _ _ h => h) (Or.inl ⟨by rfl, ?_⟩) (by assumption) ?_
          rotate_left
          · intro w hSw
            (try dsimp only at hSw)
            go_simp
            (try with_reducible rfl)
          (try simp only [Act.put, List.setIfInBounds_toArray, List.set_cons_zero, List.set_cons_succ])
          refine wpAnyH_take (i := 27) (oi := { dst := some 223, op := Op.binOp BinOp.eql 3 (Operand.tmp 222) (Operand.const (Value.int IntKind.i64 0)) 3, type := 4, pos := "law.go:104", after := #[{ on := 26, ground := Ground.data }, { on := 23, ground := Ground.guard }], guard := some (23, true) }) (v := ?_) rfl (by kernel_rfl) (by kernel_rfl) (by kernel_rfl) (fun _ _ _ h => h) (Or.inl ⟨by rfl, ?_⟩) (by assumption) ?_
          rotate_left
          · intro w hSw
            (try dsimp only at hSw)
            go_simp
            (try with_reducible rfl)
          (try simp only [Act.put, List.setIfInBounds_toArray, List.set_cons_zero, List.set_cons_succ])
          refine wpAnyH_take (i := 28) (oi := { dst := some 224, op := Op.pick (Operand.tmp 219) (Operand.tmp 223) (Operand.const (Value.bool false)), type := 4, pos := "law.go:104", after := #[{ on := 23, ground := Ground.data }, { on := 27, ground := Ground.data }], guard := none }) (v := ?_) rfl (by kernel_rfl) (by kernel_rfl) (by kernel_rfl) (fun _ _ _ h => h) (Or.inl ⟨by rfl, ?_⟩) (by assumption) ?_
          rotate_left
          · intro w hSw
            (try dsimp only at hSw)
            go_simp
            (try with_reducible rfl)
          (try simp only [Act.put, List.setIfInBounds_toArray, List.set_cons_zero, List.set_cons_succ])
          refine wpAnyH_take (i := 29) (oi := { dst := some 225, op := Op.move (Operand.tmp 224), type := 4, pos := "law.go:104", after := #[{ on := 28, ground := Ground.data }, { on := 23, ground := Ground.chain }], guard := none }) (v := ?_) rfl (by kernel_rfl) (by kernel_rfl) (by kernel_rfl) (fun _ _ _ h => h) (Or.inl ⟨by rfl, ?_⟩) (by assumption) ?_
          rotate_left
          · intro w hSw
            (try dsimp only at hSw)
            go_simp
            (try with_reducible rfl)
          (try simp only [Act.put, List.setIfInBounds_toArray, List.set_cons_zero, List.set_cons_succ])
          refine wpAnyH_take (i := 30) (oi := { dst := some 226, op := Op.load 79 (Operand.tmp 5), type := 79, pos := "law.go:104", after := #[{ on := 29, ground := Ground.guard }], guard := some (29, true) }) (v := ?_) rfl (by kernel_rfl) (by kernel_rfl) (by kernel_rfl) (fun _ _ _ h => h) (Or.inl ⟨by rfl, ?_⟩) (by assumption) ?_
          rotate_left
          · intro w hSw
            (try dsimp only at hSw)
            go_simp
            (try with_reducible rfl)
          (try simp only [Act.put, List.setIfInBounds_toArray, List.set_cons_zero, List.set_cons_succ])
          refine wpAnyH_take (i := 33) (oi := { dst := some 229, op := Op.load 73 (Operand.tmp 2), type := 73, pos := "law.go:104", after := #[{ on := 29, ground := Ground.guard }], guard := some (29, true) }) (v := ?_) rfl (by kernel_rfl) (by kernel_rfl) (by kernel_rfl) (fun _ _ _ h => h) (Or.inl ⟨by rfl, ?_⟩) (by assumption) ?_
          rotate_left
          · intro w hSw
            (try dsimp only at hSw)
            go_simp
            (try with_reducible rfl)
          (try simp only [Act.put, List.setIfInBounds_toArray, List.set_cons_zero, List.set_cons_succ])
          refine wpAnyH_ready (rs := [31]) (by kernel_rfl) (by simp) ?_
          refine AllReadyH.cons (o := { dst := some 227, op := Op.call { callee := Callee.value (Operand.func 55), args := #[Operand.tmp 226], argTypes := #[79] }, type := 26, pos := "law.go:104", after := #[{ on := 30, ground := Ground.data }, { on := 29, ground := Ground.chain }, { on := 29, ground := Ground.guard }], guard := some (29, true) }) rfl (fun K hK => ?_) AllReadyH.nil
          go_simp
          (refine (check_yes ox n cx last max V _ HN.out HLs.out Kz19.out.2.2 HS.out).mono ?_; rintro e wz31 ⟨rfl, hbz31⟩; have Kz31 := Lib.hid (And.intro (Kz19.out.1.step hbz31) (And.intro (Kz19.out.2.1.later hbz31) (Kz19.out.2.2.later hbz31))); clear hbz31 Kz19; clear kz19_0 kz19_1 kz19_2 kz19_3 kz19_4 kz19_5 kz19_6 kz19_7 kz19_8 kz19_9 kz19_10 kz19_11 kz19_12; have kz31_0 : wz31.cell? ⟨w13.heap.size, 0, none⟩ = some (.slice none 0 0) := Kz31.out.2.1.cell 0 0 rfl rfl; have kz31_1 : wz31.cell? ⟨w13.heap.size, 1, none⟩ = some (.int .u32 0) := Kz31.out.2.1.cell 0 1 rfl rfl; have kz31_2 : wz31.cell? ⟨w13.heap.size, 2, none⟩ = some (.int .i64 0) := Kz31.out.2.1.cell 0 2 rfl rfl; have kz31_3 : wz31.cell? ⟨w.heap.size + 1, 0, none⟩ = some (.slice xa la ca) := Kz31.out.2.1.cell 12 0 rfl rfl; have kz31_4 : wz31.cell? ⟨w.heap.size + 1, 1, none⟩ = some (.int .i64 ja) := Kz31.out.2.1.cell 12 1 rfl rfl; have kz31_5 : wz31.cell? ⟨w.heap.size + 1, 2, none⟩ = some (.int .u32 (na : Int)) := Kz31.out.2.1.cell 12 2 rfl rfl; have kz31_6 : wz31.cell? ⟨w.heap.size + 1, 3, none⟩ = some (.int .u64 (ta : Int)) := Kz31.out.2.1.cell 12 3 rfl rfl; have kz31_7 : wz31.cell? ⟨w2.heap.size, 0, none⟩ = some (.slice ox n cx) := Kz31.out.2.1.cell 11 0 rfl rfl; have kz31_8 : wz31.cell? ⟨w2.heap.size, 1, none⟩ = some (.int .u32 (last : Int)) := Kz31.out.2.1.cell 11 1 rfl rfl; have kz31_9 : wz31.cell? ⟨w2.heap.size, 2, none⟩ = some (.int .i64 max) := Kz31.out.2.1.cell 11 2 rfl rfl; have kz31_10 : wz31.cell? ⟨w.heap.size, 0, none⟩ = some (.slice oa n cp) := Kz31.out.2.1.cell 13 0 rfl rfl; have kz31_11 : wz31.cell? ⟨w.heap.size, 1, none⟩ = some (.int .u32 (last : Int)) := Kz31.out.2.1.cell 13 1 rfl rfl; have kz31_12 : wz31.cell? ⟨w.heap.size, 2, none⟩ = some (.int .i64 max) := Kz31.out.2.1.cell 13 2 rfl rfl; skip)
          (try go_wp2_with fail)
          refine hK.out _ _ ?_ (fun hHeld => ?_)
          · (try dsimp only)
            go_keep
          clear hK K
          (try simp only [Act.put, List.setIfInBounds_toArray, List.set_cons_zero, List.set_cons_succ])
          refine wpAnyH_take (i := 32) (oi := { dst := some 228, op := Op.binOp BinOp.eql 26 (Operand.tmp 227) (Operand.const Value.nilIface) 26, type := 4, pos := "law.go:104", after := #[{ on := 31, ground := Ground.data }, { on := 29, ground := Ground.guard }], guard := some (29, true) }) (v := ?_) rfl (by kernel_rfl) (by kernel_rfl) (by kernel_rfl) (fun _ _ _ h => h) (Or.inl ⟨by rfl, ?_⟩) (by assumption) ?_
          rotate_left
          · intro w hSw
            (try dsimp only at hSw)
            go_simp
            (try with_reducible rfl)
          (try simp only [Act.put, List.setIfInBounds_toArray, List.set_cons_zero, List.set_cons_succ])
          refine wpAnyH_ready (rs := [34]) (by kernel_rfl) (by simp) ?_
          refine AllReadyH.cons (o := { dst := some 230, op := Op.call { callee := Callee.value (Operand.func 56), args := #[Operand.tmp 229], argTypes := #[73] }, type := 4, pos := "law.go:104", after := #[{ on := 33, ground := Ground.data }, { on := 31, ground := Ground.chain }, { on := 29, ground := Ground.guard }], guard := some (29, true) }) rfl (fun K hK => ?_) AllReadyH.nil
          go_simp
          (refine (rmay_yes oa n cp last max V _ HN.out HLs.out (HV.out.later Kz31.out.1.bel) HM.out HS.out).mono ?_; rintro e wz34 ⟨rfl, hbz34⟩; have Kz34 := Lib.hid (And.intro (Kz31.out.1.step hbz34) (And.intro (Kz31.out.2.1.later hbz34) (Kz31.out.2.2.later hbz34))); clear hbz34 Kz31; clear kz31_0 kz31_1 kz31_2 kz31_3 kz31_4 kz31_5 kz31_6 kz31_7 kz31_8 kz31_9 kz31_10 kz31_11 kz31_12; have kz34_0 : wz34.cell? ⟨w13.heap.size, 0, none⟩ = some (.slice none 0 0) := Kz34.out.2.1.cell 0 0 rfl rfl; have kz34_1 : wz34.cell? ⟨w13.heap.size, 1, none⟩ = some (.int .u32 0) := Kz34.out.2.1.cell 0 1 rfl rfl; have kz34_2 : wz34.cell? ⟨w13.heap.size, 2, none⟩ = some (.int .i64 0) := Kz34.out.2.1.cell 0 2 rfl rfl; have kz34_3 : wz34.cell? ⟨w.heap.size + 1, 0, none⟩ = some (.slice xa la ca) := Kz34.out.2.1.cell 12 0 rfl rfl; have kz34_4 : wz34.cell? ⟨w.heap.size + 1, 1, none⟩ = some (.int .i64 ja) := Kz34.out.2.1.cell 12 1 rfl rfl; have kz34_5 : wz34.cell? ⟨w.heap.size + 1, 2, none⟩ = some (.int .u32 (na : Int)) := Kz34.out.2.1.cell 12 2 rfl rfl; have kz34_6 : wz34.cell? ⟨w.heap.size + 1, 3, none⟩ = some (.int .u64 (ta : Int)) := Kz34.out.2.1.cell 12 3 rfl rfl; have kz34_7 : wz34.cell? ⟨w2.heap.size, 0, none⟩ = some (.slice ox n cx) := Kz34.out.2.1.cell 11 0 rfl rfl; have kz34_8 : wz34.cell? ⟨w2.heap.size, 1, none⟩ = some (.int .u32 (last : Int)) := Kz34.out.2.1.cell 11 1 rfl rfl; have kz34_9 : wz34.cell? ⟨w2.heap.size, 2, none⟩ = some (.int .i64 max) := Kz34.out.2.1.cell 11 2 rfl rfl; have kz34_10 : wz34.cell? ⟨w.heap.size, 0, none⟩ = some (.slice oa n cp) := Kz34.out.2.1.cell 13 0 rfl rfl; have kz34_11 : wz34.cell? ⟨w.heap.size, 1, none⟩ = some (.int .u32 (last : Int)) := Kz34.out.2.1.cell 13 1 rfl rfl; have kz34_12 : wz34.cell? ⟨w.heap.size, 2, none⟩ = some (.int .i64 max) := Kz34.out.2.1.cell 13 2 rfl rfl; skip)
          (try go_wp2_with fail)
          refine hK.out _ _ ?_ (fun hHeld => ?_)
          · (try dsimp only)
            go_keep
          clear hK K
          (try simp only [Act.put, List.setIfInBounds_toArray, List.set_cons_zero, List.set_cons_succ])
          refine wpAnyH_take (i := 35) (oi := { dst := some 231, op := Op.binOp BinOp.eql 4 (Operand.tmp 228) (Operand.tmp 230) 4, type := 4, pos := "law.go:104", after := #[{ on := 32, ground := Ground.data }, { on := 34, ground := Ground.data }, { on := 29, ground := Ground.guard }], guard := some (29, true) }) (v := ?_) rfl (by kernel_rfl) (by kernel_rfl) (by kernel_rfl) (fun _ _ _ h => h) (Or.inl ⟨by rfl, ?_⟩) (by assumption) ?_
          rotate_left
          · intro w hSw
            (try dsimp only at hSw)
            go_simp
            (try with_reducible rfl)
          (try simp only [Act.put, List.setIfInBounds_toArray, List.set_cons_zero, List.set_cons_succ])
          refine wpAnyH_take (i := 36) (oi := { dst := some 232, op := Op.pick (Operand.tmp 225) (Operand.tmp 231) (Operand.const (Value.bool false)), type := 4, pos := "law.go:104", after := #[{ on := 29, ground := Ground.data }, { on := 35, ground := Ground.data }], guard := none }) (v := ?_) rfl (by kernel_rfl) (by kernel_rfl) (by kernel_rfl) (fun _ _ _ h => h) (Or.inl ⟨by rfl, ?_⟩) (by assumption) ?_
          rotate_left
          · intro w hSw
            (try dsimp only at hSw)
            go_simp
            (try with_reducible rfl)
          (try simp only [Act.put, List.setIfInBounds_toArray, List.set_cons_zero, List.set_cons_succ])
          refine wpAnyH_take (i := 37) (oi := { dst := some 233, op := Op.move (Operand.tmp 232), type := 4, pos := "law.go:104", after := #[{ on := 36, ground := Ground.data }, { on := 34, ground := Ground.chain }], guard := none }) (v := ?_) rfl (by kernel_rfl) (by kernel_rfl) (by kernel_rfl) (fun _ _ _ h => h) (Or.inl ⟨by rfl, ?_⟩) (by assumption) ?_
          rotate_left
          · intro w hSw
            (try dsimp only at hSw)
            go_simp
            (try with_reducible rfl)
          (try simp only [Act.put, List.setIfInBounds_toArray, List.set_cons_zero, List.set_cons_succ])
          refine wpAnyH_ready (rs := [38]) (by kernel_rfl) (by simp) ?_
          refine AllReadyH.cons (o := { dst := some 234, op := Op.call { callee := Callee.value (Operand.func 41), args := #[], argTypes := #[] }, type := 4, pos := "law.go:104", after := #[{ on := 37, ground := Ground.chain }, { on := 37, ground := Ground.guard }], guard := some (37, true) }) rfl (fun K hK => ?_) AllReadyH.nil
          go_simp
          (refine (sure30_any _ Kz34.out.1.handle).mono ?_; rintro e wz38 ⟨rfl, hbz38⟩; have Kz38 := Lib.hid (And.intro (Kz34.out.1.step hbz38) (And.intro (Kz34.out.2.1.later hbz38) (Kz34.out.2.2.later hbz38))); clear hbz38 Kz34; clear kz34_0 kz34_1 kz34_2 kz34_3 kz34_4 kz34_5 kz34_6 kz34_7 kz34_8 kz34_9 kz34_10 kz34_11 kz34_12; have kz38_0 : wz38.cell? ⟨w13.heap.size, 0, none⟩ = some (.slice none 0 0) := Kz38.out.2.1.cell 0 0 rfl rfl; have kz38_1 : wz38.cell? ⟨w13.heap.size, 1, none⟩ = some (.int .u32 0) := Kz38.out.2.1.cell 0 1 rfl rfl; have kz38_2 : wz38.cell? ⟨w13.heap.size, 2, none⟩ = some (.int .i64 0) := Kz38.out.2.1.cell 0 2 rfl rfl; have kz38_3 : wz38.cell? ⟨w.heap.size + 1, 0, none⟩ = some (.slice xa la ca) := Kz38.out.2.1.cell 12 0 rfl rfl; have kz38_4 : wz38.cell? ⟨w.heap.size + 1, 1, none⟩ = some (.int .i64 ja) := Kz38.out.2.1.cell 12 1 rfl rfl; have kz38_5 : wz38.cell? ⟨w.heap.size + 1, 2, none⟩ = some (.int .u32 (na : Int)) := Kz38.out.2.1.cell 12 2 rfl rfl; have kz38_6 : wz38.cell? ⟨w.heap.size + 1, 3, none⟩ = some (.int .u64 (ta : Int)) := Kz38.out.2.1.cell 12 3 rfl rfl; have kz38_7 : wz38.cell? ⟨w2.heap.size, 0, none⟩ = some (.slice ox n cx) := Kz38.out.2.1.cell 11 0 rfl rfl; have kz38_8 : wz38.cell? ⟨w2.heap.size, 1, none⟩ = some (.int .u32 (last : Int)) := Kz38.out.2.1.cell 11 1 rfl rfl; have kz38_9 : wz38.cell? ⟨w2.heap.size, 2, none⟩ = some (.int .i64 max) := Kz38.out.2.1.cell 11 2 rfl rfl; have kz38_10 : wz38.cell? ⟨w.heap.size, 0, none⟩ = some (.slice oa n cp) := Kz38.out.2.1.cell 13 0 rfl rfl; have kz38_11 : wz38.cell? ⟨w.heap.size, 1, none⟩ = some (.int .u32 (last : Int)) := Kz38.out.2.1.cell 13 1 rfl rfl; have kz38_12 : wz38.cell? ⟨w.heap.size, 2, none⟩ = some (.int .i64 max) := Kz38.out.2.1.cell 13 2 rfl rfl; skip)
          (try go_wp2_with fail)
          refine hK.out _ _ ?_ (fun hHeld => ?_)
          · (try dsimp only)
            go_keep
          clear hK K
          (try simp only [Act.put, List.setIfInBounds_toArray, List.set_cons_zero, List.set_cons_succ])
          refine wpAnyH_take (i := 39) (oi := { dst := some 235, op := Op.pick (Operand.tmp 233) (Operand.tmp 234) (Operand.const (Value.bool false)), type := 4, pos := "law.go:104", after := #[{ on := 37, ground := Ground.data }, { on := 38, ground := Ground.data }], guard := none }) (v := ?_) rfl (by kernel_rfl) (by kernel_rfl) (by kernel_rfl) (fun _ _ _ h => h) (Or.inl ⟨by rfl, ?_⟩) (by assumption) ?_
          rotate_left
          · intro w hSw
            (try dsimp only at hSw)
            go_simp
            (try with_reducible rfl)
          (try simp only [Act.put, List.setIfInBounds_toArray, List.set_cons_zero, List.set_cons_succ])
          refine wpAnyH_take (i := 40) (oi := { dst := some 4, op := Op.assign (Operand.tmp 235), type := 4, pos := "law.go:104", after := _, guard := none }) (v := ?_) rfl (by kernel_rfl) (by kernel_rfl) (by kernel_rfl) (fun _ _ _ h => h) (Or.inl ⟨by rfl, ?_⟩) (by assumption) ?_
          rotate_left
          · intro w hSw
            (try dsimp only at hSw)
            go_simp
            (try with_reducible rfl)
          (try simp only [Act.put, List.setIfInBounds_toArray, List.set_cons_zero, List.set_cons_succ])
          refine wpAnyH_done (by kernel_rfl) ?_ _
          go_wp2_with fail
          go_ret
          exact ⟨rfl, Kz38.out.1.bel⟩
        · have HS := Lib.hid hS
          clear hS
          have k0 : w24.cell? ⟨w13.heap.size, 0, none⟩ = some (.slice none 0 0) := HF24.out.cell 0 0 rfl rfl
          have k1 : w24.cell? ⟨w13.heap.size, 1, none⟩ = some (.int .u32 0) := HF24.out.cell 0 1 rfl rfl
          have k2 : w24.cell? ⟨w13.heap.size, 2, none⟩ = some (.int .i64 0) := HF24.out.cell 0 2 rfl rfl
          have k3 : w24.cell? ⟨w.heap.size + 1, 0, none⟩ = some (.slice xa la ca) := HF24.out.cell 12 0 rfl rfl
          have k4 : w24.cell? ⟨w.heap.size + 1, 1, none⟩ = some (.int .i64 ja) := HF24.out.cell 12 1 rfl rfl
          have k5 : w24.cell? ⟨w.heap.size + 1, 2, none⟩ = some (.int .u32 (na : Int)) := HF24.out.cell 12 2 rfl rfl
          have k6 : w24.cell? ⟨w.heap.size + 1, 3, none⟩ = some (.int .u64 (ta : Int)) := HF24.out.cell 12 3 rfl rfl
          have k7 : w24.cell? ⟨w2.heap.size, 0, none⟩ = some (.slice ox n cx) := HF24.out.cell 11 0 rfl rfl
          have k8 : w24.cell? ⟨w2.heap.size, 1, none⟩ = some (.int .u32 (last : Int)) := HF24.out.cell 11 1 rfl rfl
          have k9 : w24.cell? ⟨w2.heap.size, 2, none⟩ = some (.int .i64 max) := HF24.out.cell 11 2 rfl rfl
          have k10 : w24.cell? ⟨w.heap.size, 0, none⟩ = some (.slice oa n cp) := HF24.out.cell 13 0 rfl rfl
          have k11 : w24.cell? ⟨w.heap.size, 1, none⟩ = some (.int .u32 (last : Int)) := HF24.out.cell 13 1 rfl rfl
          have k12 : w24.cell? ⟨w.heap.size, 2, none⟩ = some (.int .i64 max) := HF24.out.cell 13 2 rfl rfl
          have HFd := HF24
          have HRd := HR24
          have HXd := HVx24
          have Kd : Hid (Wn w w24.drew ∧ Fr w24.drew [(w13.heap.size, #[.slice none 0 0, .int .u32 0, .int .i64 0], 79), (w12.heap.size, #[.slice o12 n5 c12, .int .u32 (l5 : Int), .int .i64 m5], 73), (w11.heap.size, #[.slice o11 n5 c11, .int .u32 (l5 : Int), .int .i64 m5], 79), (w10.heap.size, #[.slice o10 n4 c10, .int .u32 (l4 : Int), .int .i64 m4], 73), (w9.heap.size, #[.slice o9 n4 c9, .int .u32 (l4 : Int), .int .i64 m4], 79), (w8.heap.size, #[.slice o8 n3 c8, .int .u32 (l3 : Int), .int .i64 m3], 73), (w7.heap.size, #[.slice o7 n3 c7, .int .u32 (l3 : Int), .int .i64 m3], 79), (w6.heap.size, #[.int .u32 (vm : Int), .slice o6 vl c6, .int .u64 (vt : Int), .int .i64 vs], 89), (w5.heap.size, #[.int .u32 (vm : Int), .slice o5 vl c5, .int .u64 (vt : Int), .int .i64 vs], 86), (w4.heap.size, #[.slice o4 n1 c4, .int .u32 (l1 : Int), .int .i64 m1], 73), (w3.heap.size, #[.slice o3 n1 c3, .int .u32 (l1 : Int), .int .i64 m1], 79), (w2.heap.size, #[.slice ox n cx, .int .u32 (last : Int), .int .i64 max], 79), (w.heap.size + 1, #[.slice xa la ca, .int .i64 ja, .int .u32 (na : Int), .int .u64 (ta : Int)], 75), (w.heap.size, #[.slice oa n cp, .int .u32 (last : Int), .int .i64 max], 73)] ∧ Vers w24.drew ox n V) := Lib.hid ⟨HR24.out.drew, HF24.out, HVx24.out⟩
          clear HFd HRd HXd
          go_wp2_with fail
          refine wp_region_held_drew (S := (fun w' => w'.cell? ⟨w13.heap.size, 0, none⟩ = some (.slice none 0 0) ∧ w'.cell? ⟨w13.heap.size, 1, none⟩ = some (.int .u32 0) ∧ w'.cell? ⟨w13.heap.size, 2, none⟩ = some (.int .i64 0) ∧ w'.cell? ⟨w.heap.size + 1, 0, none⟩ = some (.slice xa la ca) ∧ w'.cell? ⟨w.heap.size + 1, 1, none⟩ = some (.int .i64 ja) ∧ w'.cell? ⟨w.heap.size + 1, 2, none⟩ = some (.int .u32 (na : Int)) ∧ w'.cell? ⟨w.heap.size + 1, 3, none⟩ = some (.int .u64 (ta : Int)) ∧ w'.cell? ⟨w2.heap.size, 0, none⟩ = some (.slice ox n cx) ∧ w'.cell? ⟨w2.heap.size, 1, none⟩ = some (.int .u32 (last : Int)) ∧ w'.cell? ⟨w2.heap.size, 2, none⟩ = some (.int .i64 max) ∧ w'.cell? ⟨w.heap.size, 0, none⟩ = some (.slice oa n cp) ∧ w'.cell? ⟨w.heap.size, 1, none⟩ = some (.int .u32 (last : Int)) ∧ w'.cell? ⟨w.heap.size, 2, none⟩ = some (.int .i64 max))) (by kernel_rfl) ?_ (fun hHeld => ?_)
          · (try dsimp only)
            go_keep
          refine wpAnyH_take (i := 0) (oi := { dst := some 196, op := Op.move (Operand.tmp 27), type := 26, pos := "law.go:104", after := #[], guard := none }) (v := ?_) rfl (by kernel_rfl) (by kernel_rfl) (by kernel_rfl) (fun _ _ _ h => h) (Or.inl ⟨by rfl, ?_⟩) (by assumption) ?_
          rotate_left
          · intro w hSw
            (try dsimp only at hSw)
            go_simp
            (try with_reducible rfl)
          (try simp only [Act.put, List.setIfInBounds_toArray, List.set_cons_zero, List.set_cons_succ])
          refine wpAnyH_take (i := 1) (oi := { dst := some 197, op := Op.binOp BinOp.eql 26 (Operand.tmp 196) (Operand.const Value.nilIface) 26, type := 4, pos := "law.go:104", after := #[{ on := 0, ground := Ground.data }], guard := none }) (v := ?_) rfl (by kernel_rfl) (by kernel_rfl) (by kernel_rfl) (fun _ _ _ h => h) (Or.inl ⟨by rfl, ?_⟩) (by assumption) ?_
          rotate_left
          · intro w hSw
            (try dsimp only at hSw)
            go_simp
            (try with_reducible rfl)
          (try simp only [Act.put, List.setIfInBounds_toArray, List.set_cons_zero, List.set_cons_succ])
          refine wpAnyH_take (i := 2) (oi := { dst := some 198, op := Op.move (Operand.tmp 28), type := 4, pos := "law.go:104", after := #[], guard := none }) (v := ?_) rfl (by kernel_rfl) (by kernel_rfl) (by kernel_rfl) (fun _ _ _ h => h) (Or.inl ⟨by rfl, ?_⟩) (by assumption) ?_
          rotate_left
          · intro w hSw
            (try dsimp only at hSw)
            go_simp
            (try with_reducible rfl)
          (try simp only [Act.put, List.setIfInBounds_toArray, List.set_cons_zero, List.set_cons_succ])
          refine wpAnyH_take (i := 3) (oi := { dst := some 199, op := Op.binOp BinOp.eql 4 (Operand.tmp 197) (Operand.tmp 198) 4, type := 4, pos := "law.go:104", after := #[{ on := 1, ground := Ground.data }, { on := 2, ground := Ground.data }], guard := none }) (v := ?_) rfl (by kernel_rfl) (by kernel_rfl) (by kernel_rfl) (fun _ _ _ h => h) (Or.inl ⟨by rfl, ?_⟩) (by assumption) ?_
          rotate_left
          · intro w hSw
            (try dsimp only at hSw)
            go_simp
            (try with_reducible rfl)
          (try simp only [Act.put, List.setIfInBounds_toArray, List.set_cons_zero, List.set_cons_succ])
          refine wpAnyH_take (i := 4) (oi := { dst := some 200, op := Op.move (Operand.tmp 199), type := 4, pos := "law.go:104", after := #[{ on := 3, ground := Ground.data }], guard := none }) (v := ?_) rfl (by kernel_rfl) (by kernel_rfl) (by kernel_rfl) (fun _ _ _ h => h) (Or.inl ⟨by rfl, ?_⟩) (by assumption) ?_
          rotate_left
          · intro w hSw
            (try dsimp only at hSw)
            go_simp
            (try with_reducible rfl)
          (try simp only [Act.put, List.setIfInBounds_toArray, List.set_cons_zero, List.set_cons_succ])
          refine wpAnyH_take (i := 5) (oi := { dst := some 201, op := Op.move (Operand.tmp 28), type := 4, pos := "law.go:104", after := #[{ on := 4, ground := Ground.guard }], guard := some (4, true) }) (v := ?_) rfl (by kernel_rfl) (by kernel_rfl) (by kernel_rfl) (fun _ _ _ h => h) (Or.inl ⟨by rfl, ?_⟩) (by assumption) ?_
          rotate_left
          · intro w hSw
            (try dsimp only at hSw)
            go_simp
            (try with_reducible rfl)
          (try simp only [Act.put, List.setIfInBounds_toArray, List.set_cons_zero, List.set_cons_succ])
          refine wpAnyH_take (i := 6) (oi := { dst := some 202, op := Op.unOp UnOp.not 4 (Operand.tmp 201), type := 4, pos := "law.go:104", after := #[{ on := 5, ground := Ground.data }, { on := 4, ground := Ground.guard }], guard := some (4, true) }) (v := ?_) rfl (by kernel_rfl) (by kernel_rfl) (by kernel_rfl) (fun _ _ _ h => h) (Or.inl ⟨by rfl, ?_⟩) (by assumption) ?_
          rotate_left
          · intro w hSw
            (try dsimp only at hSw)
            go_simp
            (try with_reducible rfl)
          (try simp only [Act.put, List.setIfInBounds_toArray, List.set_cons_zero, List.set_cons_succ])
          refine wpAnyH_take (i := 7) (oi := { dst := some 203, op := Op.move (Operand.tmp 202), type := 4, pos := "law.go:104", after := #[{ on := 6, ground := Ground.data }, { on := 4, ground := Ground.chain }, { on := 4, ground := Ground.guard }], guard := some (4, true) }) (v := ?_) rfl (by kernel_rfl) (by kernel_rfl) (by kernel_rfl) (fun _ _ _ h => h) (Or.inl ⟨by rfl, ?_⟩) (by assumption) ?_
          rotate_left
          · intro w hSw
            (try dsimp only at hSw)
            go_simp
            (try with_reducible rfl)
          (try simp only [Act.put, List.setIfInBounds_toArray, List.set_cons_zero, List.set_cons_succ])
          refine wpAnyH_take (i := 8) (oi := { dst := some 204, op := Op.fieldAddr 79 (Operand.tmp 26) 2, type := 0, pos := "law.go:104", after := #[{ on := 7, ground := Ground.guard }], guard := some (7, false) }) (v := undef) rfl (by kernel_rfl) (by kernel_rfl) (by kernel_rfl) (fun _ _ _ h => h) (Or.inr ⟨by rfl, rfl⟩) (by assumption) ?_
          (try simp only [Act.put, List.setIfInBounds_toArray, List.set_cons_zero, List.set_cons_succ])
          refine wpAnyH_take (i := 9) (oi := { dst := some 205, op := Op.load 3 (Operand.tmp 204), type := 3, pos := "law.go:104", after := #[{ on := 8, ground := Ground.data }, { on := 7, ground := Ground.guard }], guard := some (7, false) }) (v := undef) rfl (by kernel_rfl) (by kernel_rfl) (by kernel_rfl) (fun _ _ _ h => h) (Or.inr ⟨by rfl, rfl⟩) (by assumption) ?_
          (try simp only [Act.put, List.setIfInBounds_toArray, List.set_cons_zero, List.set_cons_succ])
          refine wpAnyH_take (i := 10) (oi := { dst := some 206, op := Op.fieldAddr 75 (Operand.tmp 3) 1, type := 0, pos := "law.go:104", after := #[{ on := 7, ground := Ground.guard }], guard := some (7, false) }) (v := undef) rfl (by kernel_rfl) (by kernel_rfl) (by kernel_rfl) (fun _ _ _ h => h) (Or.inr ⟨by rfl, rfl⟩) (by assumption) ?_
          (try simp only [Act.put, List.setIfInBounds_toArray, List.set_cons_zero, List.set_cons_succ])
          refine wpAnyH_take (i := 11) (oi := { dst := some 207, op := Op.load 3 (Operand.tmp 206), type := 3, pos := "law.go:104", after := #[{ on := 10, ground := Ground.data }, { on := 7, ground := Ground.guard }], guard := some (7, false) }) (v := undef) rfl (by kernel_rfl) (by kernel_rfl) (by kernel_rfl) (fun _ _ _ h => h) (Or.inr ⟨by rfl, rfl⟩) (by assumption) ?_
          (try simp only [Act.put, List.setIfInBounds_toArray, List.set_cons_zero, List.set_cons_succ])
          refine wpAnyH_take (i := 12) (oi := { dst := some 208, op := Op.binOp BinOp.eql 3 (Operand.tmp 205) (Operand.tmp 207) 3, type := 4, pos := "law.go:104", after := #[{ on := 9, ground := Ground.data }, { on := 11, ground := Ground.data }, { on := 7, ground := Ground.guard }], guard := some (7, false) }) (v := undef) rfl (by kernel_rfl) (by kernel_rfl) (by kernel_rfl) (fun _ _ _ h => h) (Or.inr ⟨by rfl, rfl⟩) (by assumption) ?_
          (try simp only [Act.put, List.setIfInBounds_toArray, List.set_cons_zero, List.set_cons_succ])
          refine wpAnyH_take (i := 13) (oi := { dst := some 209, op := Op.pick (Operand.tmp 203) (Operand.const (Value.bool true)) (Operand.tmp 208), type := 4, pos := "law.go:104", after := #[{ on := 7, ground := Ground.data }, { on := 12, ground := Ground.data }, { on := 4, ground := Ground.guard }], guard := some (4, true) }) (v := ?_) rfl (by kernel_rfl) (by kernel_rfl) (by kernel_rfl) (fun _ _ _ h => h) (Or.inl ⟨by rfl, ?_⟩) (by assumption) ?_
          rotate_left
          · intro w hSw
            (try dsimp only at hSw)
            go_simp
            (try with_reducible rfl)
          (try simp only [Act.put, List.setIfInBounds_toArray, List.set_cons_zero, List.set_cons_succ])
          refine wpAnyH_take (i := 14) (oi := { dst := some 210, op := Op.pick (Operand.tmp 200) (Operand.tmp 209) (Operand.const (Value.bool false)), type := 4, pos := "law.go:104", after := #[{ on := 4, ground := Ground.data }, { on := 13, ground := Ground.data }], guard := none }) (v := ?_) rfl (by kernel_rfl) (by kernel_rfl) (by kernel_rfl) (fun _ _ _ h => h) (Or.inl ⟨by rfl, ?_⟩) (by assumption) ?_
          rotate_left
          · intro w hSw
            (try dsimp only at hSw)
            go_simp
            (try with_reducible rfl)
          (try simp only [Act.put, List.setIfInBounds_toArray, List.set_cons_zero, List.set_cons_succ])
          refine wpAnyH_take (i := 15) (oi := { dst := some 211, op := Op.move (Operand.tmp 210), type := 4, pos := "law.go:104", after := #[{ on := 14, ground := Ground.data }, { on := 7, ground := Ground.chain }], guard := none }) (v := ?_) rfl (by kernel_rfl) (by kernel_rfl) (by kernel_rfl) (fun _ _ _ h => h) (Or.inl ⟨by rfl, ?_⟩) (by assumption) ?_
          rotate_left
          · intro w hSw
            (try dsimp only at hSw)
            go_simp
            (try with_reducible rfl)
          (try simp only [Act.put, List.setIfInBounds_toArray, List.set_cons_zero, List.set_cons_succ])
          refine wpAnyH_take (i := 16) (oi := { dst := some 212, op := Op.move (Operand.tmp 28), type := 4, pos := "law.go:104", after := #[{ on := 15, ground := Ground.guard }], guard := some (15, true) }) (v := ?_) rfl (by kernel_rfl) (by kernel_rfl) (by kernel_rfl) (fun _ _ _ h => h) (Or.inl ⟨by rfl, ?_⟩) (by assumption) ?_
          rotate_left
          · intro w hSw
            (try dsimp only at hSw)
            go_simp
            (try with_reducible rfl)
          (try simp only [Act.put, List.setIfInBounds_toArray, List.set_cons_zero, List.set_cons_succ])
          refine wpAnyH_take (i := 17) (oi := { dst := some 213, op := Op.move (Operand.tmp 212), type := 4, pos := "law.go:104", after := #[{ on := 16, ground := Ground.data }, { on := 15, ground := Ground.chain }, { on := 15, ground := Ground.guard }], guard := some (15, true) }) (v := ?_) rfl (by kernel_rfl) (by kernel_rfl) (by kernel_rfl) (fun _ _ _ h => h) (Or.inl ⟨by rfl, ?_⟩) (by assumption) ?_
          rotate_left
          · intro w hSw
            (try dsimp only at hSw)
            go_simp
            (try with_reducible rfl)
          (try simp only [Act.put, List.setIfInBounds_toArray, List.set_cons_zero, List.set_cons_succ])
          refine wpAnyH_take (i := 18) (oi := { dst := some 214, op := Op.move (Operand.tmp 27), type := 26, pos := "law.go:104", after := #[{ on := 17, ground := Ground.guard }], guard := some (17, false) }) (v := ?_) rfl (by kernel_rfl) (by kernel_rfl) (by kernel_rfl) (fun _ _ _ h => h) (Or.inl ⟨by rfl, ?_⟩) (by assumption) ?_
          rotate_left
          · intro w hSw
            (try dsimp only at hSw)
            go_simp
            (try with_reducible rfl)
          (try simp only [Act.put, List.setIfInBounds_toArray, List.set_cons_zero, List.set_cons_succ])
          refine wpAnyH_ready (rs := [19]) (by kernel_rfl) (by simp) ?_
          refine AllReadyH.cons (o := { dst := some 215, op := Op.call { callee := Callee.value (Operand.func 53), args := #[Operand.tmp 214], argTypes := #[26] }, type := 3, pos := "law.go:104", after := #[{ on := 18, ground := Ground.data }, { on := 17, ground := Ground.chain }, { on := 17, ground := Ground.guard }], guard := some (17, false) }) rfl (fun K hK => ?_) AllReadyH.nil
          go_simp
          (refine (num_errv (k := 1) (ErrV.of (by decide)) _ Kd.out.1.handle).mono ?_; rintro e wz19 ⟨rfl, hbz19⟩; have Kz19 := Lib.hid (And.intro (Kd.out.1.step hbz19) (And.intro (Kd.out.2.1.later hbz19) (Kd.out.2.2.later hbz19))); clear hbz19 Kd; clear k0 k1 k2 k3 k4 k5 k6 k7 k8 k9 k10 k11 k12; have kz19_0 : wz19.cell? ⟨w13.heap.size, 0, none⟩ = some (.slice none 0 0) := Kz19.out.2.1.cell 0 0 rfl rfl; have kz19_1 : wz19.cell? ⟨w13.heap.size, 1, none⟩ = some (.int .u32 0) := Kz19.out.2.1.cell 0 1 rfl rfl; have kz19_2 : wz19.cell? ⟨w13.heap.size, 2, none⟩ = some (.int .i64 0) := Kz19.out.2.1.cell 0 2 rfl rfl; have kz19_3 : wz19.cell? ⟨w.heap.size + 1, 0, none⟩ = some (.slice xa la ca) := Kz19.out.2.1.cell 12 0 rfl rfl; have kz19_4 : wz19.cell? ⟨w.heap.size + 1, 1, none⟩ = some (.int .i64 ja) := Kz19.out.2.1.cell 12 1 rfl rfl; have kz19_5 : wz19.cell? ⟨w.heap.size + 1, 2, none⟩ = some (.int .u32 (na : Int)) := Kz19.out.2.1.cell 12 2 rfl rfl; have kz19_6 : wz19.cell? ⟨w.heap.size + 1, 3, none⟩ = some (.int .u64 (ta : Int)) := Kz19.out.2.1.cell 12 3 rfl rfl; have kz19_7 : wz19.cell? ⟨w2.heap.size, 0, none⟩ = some (.slice ox n cx) := Kz19.out.2.1.cell 11 0 rfl rfl; have kz19_8 : wz19.cell? ⟨w2.heap.size, 1, none⟩ = some (.int .u32 (last : Int)) := Kz19.out.2.1.cell 11 1 rfl rfl; have kz19_9 : wz19.cell? ⟨w2.heap.size, 2, none⟩ = some (.int .i64 max) := Kz19.out.2.1.cell 11 2 rfl rfl; have kz19_10 : wz19.cell? ⟨w.heap.size, 0, none⟩ = some (.slice oa n cp) := Kz19.out.2.1.cell 13 0 rfl rfl; have kz19_11 : wz19.cell? ⟨w.heap.size, 1, none⟩ = some (.int .u32 (last : Int)) := Kz19.out.2.1.cell 13 1 rfl rfl; have kz19_12 : wz19.cell? ⟨w.heap.size, 2, none⟩ = some (.int .i64 max) := Kz19.out.2.1.cell 13 2 rfl rfl; skip)
          (try go_wp2_with fail)
          refine hK.out _ _ ?_ (fun hHeld => ?_)
          · (try dsimp only)
            go_keep
          clear hK K
          (try simp only [Act.put, List.setIfInBounds_toArray, List.set_cons_zero, List.set_cons_succ])
          refine wpAnyH_take (i := 20) (oi := { dst := some 216, op := Op.binOp BinOp.eql 3 (Operand.tmp 215) (Operand.const (Value.int IntKind.i64 1)) 3, type := 4, pos := "law.go:104", after := #[{ on := 19, ground := Ground.data }, { on := 17, ground := Ground.guard }], guard := some (17, false) }) (v := ?_) rfl (by kernel_rfl) (by kernel_rfl) (by kernel_rfl) (fun _ _ _ h => h) (Or.inl ⟨by rfl, ?_⟩) (by assumption) ?_
          rotate_left
          · intro w hSw
            (try dsimp only at hSw)
            go_simp
            (try with_reducible rfl)
          (try simp only [Act.put, List.setIfInBounds_toArray, List.set_cons_zero, List.set_cons_succ])
          refine wpAnyH_take (i := 21) (oi := { dst := some 217, op := Op.pick (Operand.tmp 213) (Operand.const (Value.bool true)) (Operand.tmp 216), type := 4, pos := "law.go:104", after := #[{ on := 17, ground := Ground.data }, { on := 20, ground := Ground.data }, { on := 15, ground := Ground.guard }], guard := some (15, true) }) (v := ?_) rfl (by kernel_rfl) (by kernel_rfl) (by kernel_rfl) (fun _ _ _ h => h) (Or.inl ⟨by rfl, ?_⟩) (by assumption) ?_
          rotate_left
          · intro w hSw
            (try dsimp only at hSw)
            go_simp
            (try with_reducible rfl)
          (try simp only [Act.put, List.setIfInBounds_toArray, List.set_cons_zero, List.set_cons_succ])
          refine wpAnyH_take (i := 22) (oi := { dst := some 218, op := Op.pick (Operand.tmp 211) (Operand.tmp 217) (Operand.const (Value.bool false)), type := 4, pos := "law.go:104", after := #[{ on := 15, ground := Ground.data }, { on := 21, ground := Ground.data }], guard := none }) (v := ?_) rfl (by kernel_rfl) (by kernel_rfl) (by kernel_rfl) (fun _ _ _ h => h) (Or.inl ⟨by rfl, ?_⟩) (by assumption) ?_
          rotate_left
          · intro w hSw
            (try dsimp only at hSw)
            go_simp
            (try with_reducible rfl)
          (try simp only [Act.put, List.setIfInBounds_toArray, List.set_cons_zero, List.set_cons_succ])
          refine wpAnyH_take (i := 23) (oi := { dst := some 219, op := Op.move (Operand.tmp 218), type := 4, pos := "law.go:104", after := #[{ on := 22, ground := Ground.data }, { on := 19, ground := Ground.chain }], guard := none }) (v := ?_) rfl (by kernel_rfl) (by kernel_rfl) (by kernel_rfl) (fun _ _ _ h => h) (Or.inl ⟨by rfl, ?_⟩) (by assumption) ?_
          rotate_left
          · intro w hSw
            (try dsimp only at hSw)
            go_simp
            (try with_reducible rfl)
          (try simp only [Act.put, List.setIfInBounds_toArray, List.set_cons_zero, List.set_cons_succ])
          refine wpAnyH_take (i := 24) (oi := { dst := some 220, op := Op.fieldAddr 79 (Operand.tmp 26) 0, type := 0, pos := "law.go:104", after := #[{ on := 23, ground := Ground.guard }], guard := some (23, true) }) (v := ?_) rfl (by kernel_rfl) (by kernel_rfl) (by kernel_rfl) (fun _ _ _ h => h) (Or.inl ⟨by rfl, ?_⟩) (by assumption) ?_
          rotate_left
          · intro w hSw
            (try dsimp only at hSw)
            go_simp
            (try with_reducible rfl)
          (try simp only [Act.put, List.setIfInBounds_toArray, List.set_cons_zero, List.set_cons_succ])
          refine wpAnyH_take (i := 25) (oi := { dst := some 221, op := Op.load 77 (Operand.tmp 220), type := 77, pos := "law.go:104", after := #[{ on := 24, ground := Ground.data }, { on := 23, ground := Ground.guard }], guard := some (23, true) }) (v := ?_) rfl (by kernel_rfl) (by kernel_rfl) (by kernel_rfl) (fun _ _ _ h => h) (Or.inl ⟨by rfl, ?_⟩) (by assumption) ?_
          rotate_left
          · intro w hSw
            (try dsimp only at hSw)
            go_simp
            (try with_reducible rfl)
          (try simp only [Act.put, List.setIfInBounds_toArray, List.set_cons_zero, List.set_cons_succ])
          refine wpAnyH_take (i := 26) (oi := { dst := some 222, op := Op.call { callee := Callee.builtin Builtin.len, args := #[Operand.tmp 221], argTypes := #[77] }, type := 3, pos := "law.go:104", after := #[{ on := 25, ground := Ground.data }, { on := 23, ground := Ground.guard }], guard := some (23, true) }) (v := ?_) rfl (by kernel_rfl) (by kernel_rfl) (by kernel_rfl) (fun _ _ _ h => h) (Or.inl ⟨by rfl, ?_⟩) (by assumption) ?_
          rotate_left
          · intro w hSw
            (try dsimp only at hSw)
            go_simp
            (try with_reducible rfl)
          (try simp only [Act.put, List.setIfInBounds_toArray, List.set_cons_zero, List.set_cons_succ])
          refine wpAnyH_take (i := 27) (oi := { dst := some 223, op := Op.binOp BinOp.eql 3 (Operand.tmp 222) (Operand.const (Value.int IntKind.i64 0)) 3, type := 4, pos := "law.go:104", after := #[{ on := 26, ground := Ground.data }, { on := 23, ground := Ground.guard }], guard := some (23, true) }) (v := ?_) rfl (by kernel_rfl) (by kernel_rfl) (by kernel_rfl) (fun _ _ _ h => h) (Or.inl ⟨by rfl, ?_⟩) (by assumption) ?_
          rotate_left
          · intro w hSw
            (try dsimp only at hSw)
            go_simp
            (try with_reducible rfl)
          (try simp only [Act.put, List.setIfInBounds_toArray, List.set_cons_zero, List.set_cons_succ])
          refine wpAnyH_take (i := 28) (oi := { dst := some 224, op := Op.pick (Operand.tmp 219) (Operand.tmp 223) (Operand.const (Value.bool false)), type := 4, pos := "law.go:104", after := #[{ on := 23, ground := Ground.data }, { on := 27, ground := Ground.data }], guard := none }) (v := ?_) rfl (by kernel_rfl) (by kernel_rfl) (by kernel_rfl) (fun _ _ _ h => h) (Or.inl ⟨by rfl, ?_⟩) (by assumption) ?_
          rotate_left
          · intro w hSw
            (try dsimp only at hSw)
            go_simp
            (try with_reducible rfl)
          (try simp only [Act.put, List.setIfInBounds_toArray, List.set_cons_zero, List.set_cons_succ])
          refine wpAnyH_take (i := 29) (oi := { dst := some 225, op := Op.move (Operand.tmp 224), type := 4, pos := "law.go:104", after := #[{ on := 28, ground := Ground.data }, { on := 23, ground := Ground.chain }], guard := none }) (v := ?_) rfl (by kernel_rfl) (by kernel_rfl) (by kernel_rfl) (fun _ _ _ h => h) (Or.inl ⟨by rfl, ?_⟩) (by assumption) ?_
          rotate_left
          · intro w hSw
            (try dsimp only at hSw)
            go_simp
            (try with_reducible rfl)
          (try simp only [Act.put, List.setIfInBounds_toArray, List.set_cons_zero, List.set_cons_succ])
          refine wpAnyH_take (i := 30) (oi := { dst := some 226, op := Op.load 79 (Operand.tmp 5), type := 79, pos := "law.go:104", after := #[{ on := 29, ground := Ground.guard }], guard := some (29, true) }) (v := ?_) rfl (by kernel_rfl) (by kernel_rfl) (by kernel_rfl) (fun _ _ _ h => h) (Or.inl ⟨by rfl, ?_⟩) (by assumption) ?_
          rotate_left
          · intro w hSw
            (try dsimp only at hSw)
            go_simp
            (try with_reducible rfl)
          (try simp only [Act.put, List.setIfInBounds_toArray, List.set_cons_zero, List.set_cons_succ])
          refine wpAnyH_take (i := 33) (oi := { dst := some 229, op := Op.load 73 (Operand.tmp 2), type := 73, pos := "law.go:104", after := #[{ on := 29, ground := Ground.guard }], guard := some (29, true) }) (v := ?_) rfl (by kernel_rfl) (by kernel_rfl) (by kernel_rfl) (fun _ _ _ h => h) (Or.inl ⟨by rfl, ?_⟩) (by assumption) ?_
          rotate_left
          · intro w hSw
            (try dsimp only at hSw)
            go_simp
            (try with_reducible rfl)
          (try simp only [Act.put, List.setIfInBounds_toArray, List.set_cons_zero, List.set_cons_succ])
          refine wpAnyH_ready (rs := [31]) (by kernel_rfl) (by simp) ?_
          refine AllReadyH.cons (o := { dst := some 227, op := Op.call { callee := Callee.value (Operand.func 55), args := #[Operand.tmp 226], argTypes := #[79] }, type := 26, pos := "law.go:104", after := #[{ on := 30, ground := Ground.data }, { on := 29, ground := Ground.chain }, { on := 29, ground := Ground.guard }], guard := some (29, true) }) rfl (fun K hK => ?_) AllReadyH.nil
          go_simp
          (refine (check_bad ox n cx last max V _ HN.out HLs.out Kz19.out.2.2 HS.out).mono ?_; rintro e wz31 ⟨rfl, hbz31⟩; have Kz31 := Lib.hid (And.intro (Kz19.out.1.step hbz31) (And.intro (Kz19.out.2.1.later hbz31) (Kz19.out.2.2.later hbz31))); clear hbz31 Kz19; clear kz19_0 kz19_1 kz19_2 kz19_3 kz19_4 kz19_5 kz19_6 kz19_7 kz19_8 kz19_9 kz19_10 kz19_11 kz19_12; have kz31_0 : wz31.cell? ⟨w13.heap.size, 0, none⟩ = some (.slice none 0 0) := Kz31.out.2.1.cell 0 0 rfl rfl; have kz31_1 : wz31.cell? ⟨w13.heap.size, 1, none⟩ = some (.int .u32 0) := Kz31.out.2.1.cell 0 1 rfl rfl; have kz31_2 : wz31.cell? ⟨w13.heap.size, 2, none⟩ = some (.int .i64 0) := Kz31.out.2.1.cell 0 2 rfl rfl; have kz31_3 : wz31.cell? ⟨w.heap.size + 1, 0, none⟩ = some (.slice xa la ca) := Kz31.out.2.1.cell 12 0 rfl rfl; have kz31_4 : wz31.cell? ⟨w.heap.size + 1, 1, none⟩ = some (.int .i64 ja) := Kz31.out.2.1.cell 12 1 rfl rfl; have kz31_5 : wz31.cell? ⟨w.heap.size + 1, 2, none⟩ = some (.int .u32 (na : Int)) := Kz31.out.2.1.cell 12 2 rfl rfl; have kz31_6 : wz31.cell? ⟨w.heap.size + 1, 3, none⟩ = some (.int .u64 (ta : Int)) := Kz31.out.2.1.cell 12 3 rfl rfl; have kz31_7 : wz31.cell? ⟨w2.heap.size, 0, none⟩ = some (.slice ox n cx) := Kz31.out.2.1.cell 11 0 rfl rfl; have kz31_8 : wz31.cell? ⟨w2.heap.size, 1, none⟩ = some (.int .u32 (last : Int)) := Kz31.out.2.1.cell 11 1 rfl rfl; have kz31_9 : wz31.cell? ⟨w2.heap.size, 2, none⟩ = some (.int .i64 max) := Kz31.out.2.1.cell 11 2 rfl rfl; have kz31_10 : wz31.cell? ⟨w.heap.size, 0, none⟩ = some (.slice oa n cp) := Kz31.out.2.1.cell 13 0 rfl rfl; have kz31_11 : wz31.cell? ⟨w.heap.size, 1, none⟩ = some (.int .u32 (last : Int)) := Kz31.out.2.1.cell 13 1 rfl rfl; have kz31_12 : wz31.cell? ⟨w.heap.size, 2, none⟩ = some (.int .i64 max) := Kz31.out.2.1.cell 13 2 rfl rfl; skip)
          (try go_wp2_with fail)
          refine hK.out _ _ ?_ (fun hHeld => ?_)
          · (try dsimp only)
            go_keep
          clear hK K
          (try simp only [Act.put, List.setIfInBounds_toArray, List.set_cons_zero, List.set_cons_succ])
          refine wpAnyH_take (i := 32) (oi := { dst := some 228, op := Op.binOp BinOp.eql 26 (Operand.tmp 227) (Operand.const Value.nilIface) 26, type := 4, pos := "law.go:104", after := #[{ on := 31, ground := Ground.data }, { on := 29, ground := Ground.guard }], guard := some (29, true) }) (v := ?_) rfl (by kernel_rfl) (by kernel_rfl) (by kernel_rfl) (fun _ _ _ h => h) (Or.inl ⟨by rfl, ?_⟩) (by assumption) ?_
          rotate_left
          · intro w hSw
            (try dsimp only at hSw)
            go_simp
            (try with_reducible rfl)
          (try simp only [Act.put, List.setIfInBounds_toArray, List.set_cons_zero, List.set_cons_succ])
          refine wpAnyH_ready (rs := [34]) (by kernel_rfl) (by simp) ?_
          refine AllReadyH.cons (o := { dst := some 230, op := Op.call { callee := Callee.value (Operand.func 56), args := #[Operand.tmp 229], argTypes := #[73] }, type := 4, pos := "law.go:104", after := #[{ on := 33, ground := Ground.data }, { on := 31, ground := Ground.chain }, { on := 29, ground := Ground.guard }], guard := some (29, true) }) rfl (fun K hK => ?_) AllReadyH.nil
          go_simp
          (refine (rmay_no' oa n cp last max V _ HN.out HLs.out (HV.out.later Kz31.out.1.bel) HM.out HS.out).mono ?_; rintro e wz34 ⟨rfl, hbz34⟩; have Kz34 := Lib.hid (And.intro (Kz31.out.1.step hbz34) (And.intro (Kz31.out.2.1.later hbz34) (Kz31.out.2.2.later hbz34))); clear hbz34 Kz31; clear kz31_0 kz31_1 kz31_2 kz31_3 kz31_4 kz31_5 kz31_6 kz31_7 kz31_8 kz31_9 kz31_10 kz31_11 kz31_12; have kz34_0 : wz34.cell? ⟨w13.heap.size, 0, none⟩ = some (.slice none 0 0) := Kz34.out.2.1.cell 0 0 rfl rfl; have kz34_1 : wz34.cell? ⟨w13.heap.size, 1, none⟩ = some (.int .u32 0) := Kz34.out.2.1.cell 0 1 rfl rfl; have kz34_2 : wz34.cell? ⟨w13.heap.size, 2, none⟩ = some (.int .i64 0) := Kz34.out.2.1.cell 0 2 rfl rfl; have kz34_3 : wz34.cell? ⟨w.heap.size + 1, 0, none⟩ = some (.slice xa la ca) := Kz34.out.2.1.cell 12 0 rfl rfl; have kz34_4 : wz34.cell? ⟨w.heap.size + 1, 1, none⟩ = some (.int .i64 ja) := Kz34.out.2.1.cell 12 1 rfl rfl; have kz34_5 : wz34.cell? ⟨w.heap.size + 1, 2, none⟩ = some (.int .u32 (na : Int)) := Kz34.out.2.1.cell 12 2 rfl rfl; have kz34_6 : wz34.cell? ⟨w.heap.size + 1, 3, none⟩ = some (.int .u64 (ta : Int)) := Kz34.out.2.1.cell 12 3 rfl rfl; have kz34_7 : wz34.cell? ⟨w2.heap.size, 0, none⟩ = some (.slice ox n cx) := Kz34.out.2.1.cell 11 0 rfl rfl; have kz34_8 : wz34.cell? ⟨w2.heap.size, 1, none⟩ = some (.int .u32 (last : Int)) := Kz34.out.2.1.cell 11 1 rfl rfl; have kz34_9 : wz34.cell? ⟨w2.heap.size, 2, none⟩ = some (.int .i64 max) := Kz34.out.2.1.cell 11 2 rfl rfl; have kz34_10 : wz34.cell? ⟨w.heap.size, 0, none⟩ = some (.slice oa n cp) := Kz34.out.2.1.cell 13 0 rfl rfl; have kz34_11 : wz34.cell? ⟨w.heap.size, 1, none⟩ = some (.int .u32 (last : Int)) := Kz34.out.2.1.cell 13 1 rfl rfl; have kz34_12 : wz34.cell? ⟨w.heap.size, 2, none⟩ = some (.int .i64 max) := Kz34.out.2.1.cell 13 2 rfl rfl; skip)
          (try go_wp2_with fail)
          refine hK.out _ _ ?_ (fun hHeld => ?_)
          · (try dsimp only)
            go_keep
          clear hK K
          (try simp only [Act.put, List.setIfInBounds_toArray, List.set_cons_zero, List.set_cons_succ])
          refine wpAnyH_take (i := 35) (oi := { dst := some 231, op := Op.binOp BinOp.eql 4 (Operand.tmp 228) (Operand.tmp 230) 4, type := 4, pos := "law.go:104", after := #[{ on := 32, ground := Ground.data }, { on := 34, ground := Ground.data }, { on := 29, ground := Ground.guard }], guard := some (29, true) }) (v := ?_) rfl (by kernel_rfl) (by kernel_rfl) (by kernel_rfl) (fun _ _ _ h => h) (Or.inl ⟨by rfl, ?_⟩) (by assumption) ?_
          rotate_left
          · intro w hSw
            (try dsimp only at hSw)
            go_simp
            (try with_reducible rfl)
          (try simp only [Act.put, List.setIfInBounds_toArray, List.set_cons_zero, List.set_cons_succ])
          refine wpAnyH_take (i := 36) (oi := { dst := some 232, op := Op.pick (Operand.tmp 225) (Operand.tmp 231) (Operand.const (Value.bool false)), type := 4, pos := "law.go:104", after := #[{ on := 29, ground := Ground.data }, { on := 35, ground := Ground.data }], guard := none }) (v := ?_) rfl (by kernel_rfl) (by kernel_rfl) (by kernel_rfl) (fun _ _ _ h => h) (Or.inl ⟨by rfl, ?_⟩) (by assumption) ?_
          rotate_left
          · intro w hSw
            (try dsimp only at hSw)
            go_simp
            (try with_reducible rfl)
          (try simp only [Act.put, List.setIfInBounds_toArray, List.set_cons_zero, List.set_cons_succ])
          refine wpAnyH_take (i := 37) (oi := { dst := some 233, op := Op.move (Operand.tmp 232), type := 4, pos := "law.go:104", after := #[{ on := 36, ground := Ground.data }, { on := 34, ground := Ground.chain }], guard := none }) (v := ?_) rfl (by kernel_rfl) (by kernel_rfl) (by kernel_rfl) (fun _ _ _ h => h) (Or.inl ⟨by rfl, ?_⟩) (by assumption) ?_
          rotate_left
          · intro w hSw
            (try dsimp only at hSw)
            go_simp
            (try with_reducible rfl)
          (try simp only [Act.put, List.setIfInBounds_toArray, List.set_cons_zero, List.set_cons_succ])
          refine wpAnyH_ready (rs := [38]) (by kernel_rfl) (by simp) ?_
          refine AllReadyH.cons (o := { dst := some 234, op := Op.call { callee := Callee.value (Operand.func 41), args := #[], argTypes := #[] }, type := 4, pos := "law.go:104", after := #[{ on := 37, ground := Ground.chain }, { on := 37, ground := Ground.guard }], guard := some (37, true) }) rfl (fun K hK => ?_) AllReadyH.nil
          go_simp
          (refine (sure30_any _ Kz34.out.1.handle).mono ?_; rintro e wz38 ⟨rfl, hbz38⟩; have Kz38 := Lib.hid (And.intro (Kz34.out.1.step hbz38) (And.intro (Kz34.out.2.1.later hbz38) (Kz34.out.2.2.later hbz38))); clear hbz38 Kz34; clear kz34_0 kz34_1 kz34_2 kz34_3 kz34_4 kz34_5 kz34_6 kz34_7 kz34_8 kz34_9 kz34_10 kz34_11 kz34_12; have kz38_0 : wz38.cell? ⟨w13.heap.size, 0, none⟩ = some (.slice none 0 0) := Kz38.out.2.1.cell 0 0 rfl rfl; have kz38_1 : wz38.cell? ⟨w13.heap.size, 1, none⟩ = some (.int .u32 0) := Kz38.out.2.1.cell 0 1 rfl rfl; have kz38_2 : wz38.cell? ⟨w13.heap.size, 2, none⟩ = some (.int .i64 0) := Kz38.out.2.1.cell 0 2 rfl rfl; have kz38_3 : wz38.cell? ⟨w.heap.size + 1, 0, none⟩ = some (.slice xa la ca) := Kz38.out.2.1.cell 12 0 rfl rfl; have kz38_4 : wz38.cell? ⟨w.heap.size + 1, 1, none⟩ = some (.int .i64 ja) := Kz38.out.2.1.cell 12 1 rfl rfl; have kz38_5 : wz38.cell? ⟨w.heap.size + 1, 2, none⟩ = some (.int .u32 (na : Int)) := Kz38.out.2.1.cell 12 2 rfl rfl; have kz38_6 : wz38.cell? ⟨w.heap.size + 1, 3, none⟩ = some (.int .u64 (ta : Int)) := Kz38.out.2.1.cell 12 3 rfl rfl; have kz38_7 : wz38.cell? ⟨w2.heap.size, 0, none⟩ = some (.slice ox n cx) := Kz38.out.2.1.cell 11 0 rfl rfl; have kz38_8 : wz38.cell? ⟨w2.heap.size, 1, none⟩ = some (.int .u32 (last : Int)) := Kz38.out.2.1.cell 11 1 rfl rfl; have kz38_9 : wz38.cell? ⟨w2.heap.size, 2, none⟩ = some (.int .i64 max) := Kz38.out.2.1.cell 11 2 rfl rfl; have kz38_10 : wz38.cell? ⟨w.heap.size, 0, none⟩ = some (.slice oa n cp) := Kz38.out.2.1.cell 13 0 rfl rfl; have kz38_11 : wz38.cell? ⟨w.heap.size, 1, none⟩ = some (.int .u32 (last : Int)) := Kz38.out.2.1.cell 13 1 rfl rfl; have kz38_12 : wz38.cell? ⟨w.heap.size, 2, none⟩ = some (.int .i64 max) := Kz38.out.2.1.cell 13 2 rfl rfl; skip)
          (try go_wp2_with fail)
          refine hK.out _ _ ?_ (fun hHeld => ?_)
          · (try dsimp only)
            go_keep
          clear hK K
          (try simp only [Act.put, List.setIfInBounds_toArray, List.set_cons_zero, List.set_cons_succ])
          refine wpAnyH_take (i := 39) (oi := { dst := some 235, op := Op.pick (Operand.tmp 233) (Operand.tmp 234) (Operand.const (Value.bool false)), type := 4, pos := "law.go:104", after := #[{ on := 37, ground := Ground.data }, { on := 38, ground := Ground.data }], guard := none }) (v := ?_) rfl (by kernel_rfl) (by kernel_rfl) (by kernel_rfl) (fun _ _ _ h => h) (Or.inl ⟨by rfl, ?_⟩) (by assumption) ?_
          rotate_left
          · intro w hSw
            (try dsimp only at hSw)
            go_simp
            (try with_reducible rfl)
          (try simp only [Act.put, List.setIfInBounds_toArray, List.set_cons_zero, List.set_cons_succ])
          refine wpAnyH_take (i := 40) (oi := { dst := some 4, op := Op.assign (Operand.tmp 235), type := 4, pos := "law.go:104", after := _, guard := none }) (v := ?_) rfl (by kernel_rfl) (by kernel_rfl) (by kernel_rfl) (fun _ _ _ h => h) (Or.inl ⟨by rfl, ?_⟩) (by assumption) ?_
          rotate_left
          · intro w hSw
            (try dsimp only at hSw)
            go_simp
            (try with_reducible rfl)
          (try simp only [Act.put, List.setIfInBounds_toArray, List.set_cons_zero, List.set_cons_succ])
          refine wpAnyH_done (by kernel_rfl) ?_ _
          go_wp2_with fail
          go_ret
          exact ⟨rfl, Kz38.out.1.bel⟩
      · have g1 : decide (ja ≤ 8) = false := by simp; omega
        have g2 : 1 ≤ ja := by omega
        rcases HSS.out with hS | hS
        · have HS := Lib.hid hS
          clear hS
          have k0 : w24.cell? ⟨w13.heap.size, 0, none⟩ = some (.slice none 0 0) := HF24.out.cell 0 0 rfl rfl
          have k1 : w24.cell? ⟨w13.heap.size, 1, none⟩ = some (.int .u32 0) := HF24.out.cell 0 1 rfl rfl
          have k2 : w24.cell? ⟨w13.heap.size, 2, none⟩ = some (.int .i64 0) := HF24.out.cell 0 2 rfl rfl
          have k3 : w24.cell? ⟨w.heap.size + 1, 0, none⟩ = some (.slice xa la ca) := HF24.out.cell 12 0 rfl rfl
          have k4 : w24.cell? ⟨w.heap.size + 1, 1, none⟩ = some (.int .i64 ja) := HF24.out.cell 12 1 rfl rfl
          have k5 : w24.cell? ⟨w.heap.size + 1, 2, none⟩ = some (.int .u32 (na : Int)) := HF24.out.cell 12 2 rfl rfl
          have k6 : w24.cell? ⟨w.heap.size + 1, 3, none⟩ = some (.int .u64 (ta : Int)) := HF24.out.cell 12 3 rfl rfl
          have k7 : w24.cell? ⟨w2.heap.size, 0, none⟩ = some (.slice ox n cx) := HF24.out.cell 11 0 rfl rfl
          have k8 : w24.cell? ⟨w2.heap.size, 1, none⟩ = some (.int .u32 (last : Int)) := HF24.out.cell 11 1 rfl rfl
          have k9 : w24.cell? ⟨w2.heap.size, 2, none⟩ = some (.int .i64 max) := HF24.out.cell 11 2 rfl rfl
          have k10 : w24.cell? ⟨w.heap.size, 0, none⟩ = some (.slice oa n cp) := HF24.out.cell 13 0 rfl rfl
          have k11 : w24.cell? ⟨w.heap.size, 1, none⟩ = some (.int .u32 (last : Int)) := HF24.out.cell 13 1 rfl rfl
          have k12 : w24.cell? ⟨w.heap.size, 2, none⟩ = some (.int .i64 max) := HF24.out.cell 13 2 rfl rfl
          have HFd := HF24
          have HRd := HR24
          have HXd := HVx24
          have Kd : Hid (Wn w w24.drew ∧ Fr w24.drew [(w13.heap.size, #[.slice none 0 0, .int .u32 0, .int .i64 0], 79), (w12.heap.size, #[.slice o12 n5 c12, .int .u32 (l5 : Int), .int .i64 m5], 73), (w11.heap.size, #[.slice o11 n5 c11, .int .u32 (l5 : Int), .int .i64 m5], 79), (w10.heap.size, #[.slice o10 n4 c10, .int .u32 (l4 : Int), .int .i64 m4], 73), (w9.heap.size, #[.slice o9 n4 c9, .int .u32 (l4 : Int), .int .i64 m4], 79), (w8.heap.size, #[.slice o8 n3 c8, .int .u32 (l3 : Int), .int .i64 m3], 73), (w7.heap.size, #[.slice o7 n3 c7, .int .u32 (l3 : Int), .int .i64 m3], 79), (w6.heap.size, #[.int .u32 (vm : Int), .slice o6 vl c6, .int .u64 (vt : Int), .int .i64 vs], 89), (w5.heap.size, #[.int .u32 (vm : Int), .slice o5 vl c5, .int .u64 (vt : Int), .int .i64 vs], 86), (w4.heap.size, #[.slice o4 n1 c4, .int .u32 (l1 : Int), .int .i64 m1], 73), (w3.heap.size, #[.slice o3 n1 c3, .int .u32 (l1 : Int), .int .i64 m1], 79), (w2.heap.size, #[.slice ox n cx, .int .u32 (last : Int), .int .i64 max], 79), (w.heap.size + 1, #[.slice xa la ca, .int .i64 ja, .int .u32 (na : Int), .int .u64 (ta : Int)], 75), (w.heap.size, #[.slice oa n cp, .int .u32 (last : Int), .int .i64 max], 73)] ∧ Vers w24.drew ox n V) := Lib.hid ⟨HR24.out.drew, HF24.out, HVx24.out⟩
          clear HFd HRd HXd
          go_wp2_with fail
          refine wp_region_held_drew (S := (fun w' => w'.cell? ⟨w13.heap.size, 0, none⟩ = some (.slice none 0 0) ∧ w'.cell? ⟨w13.heap.size, 1, none⟩ = some (.int .u32 0) ∧ w'.cell? ⟨w13.heap.size, 2, none⟩ = some (.int .i64 0) ∧ w'.cell? ⟨w.heap.size + 1, 0, none⟩ = some (.slice xa la ca) ∧ w'.cell? ⟨w.heap.size + 1, 1, none⟩ = some (.int .i64 ja) ∧ w'.cell? ⟨w.heap.size + 1, 2, none⟩ = some (.int .u32 (na : Int)) ∧ w'.cell? ⟨w.heap.size + 1, 3, none⟩ = some (.int .u64 (ta : Int)) ∧ w'.cell? ⟨w2.heap.size, 0, none⟩ = some (.slice ox n cx) ∧ w'.cell? ⟨w2.heap.size, 1, none⟩ = some (.int .u32 (last : Int)) ∧ w'.cell? ⟨w2.heap.size, 2, none⟩ = some (.int .i64 max) ∧ w'.cell? ⟨w.heap.size, 0, none⟩ = some (.slice oa n cp) ∧ w'.cell? ⟨w.heap.size, 1, none⟩ = some (.int .u32 (last : Int)) ∧ w'.cell? ⟨w.heap.size, 2, none⟩ = some (.int .i64 max))) (by kernel_rfl) ?_ (fun hHeld => ?_)
          · (try dsimp only)
            go_keep
          refine wpAnyH_take (i := 0) (oi := { dst := some 196, op := Op.move (Operand.tmp 27), type := 26, pos := "law.go:104", after := #[], guard := none }) (v := ?_) rfl (by kernel_rfl) (by kernel_rfl) (by kernel_rfl) (fun _ _ _ h => h) (Or.inl ⟨by rfl, ?_⟩) (by assumption) ?_
          rotate_left
          · intro w hSw
            (try dsimp only at hSw)
            go_simp
            (try with_reducible rfl)
          (try simp only [Act.put, List.setIfInBounds_toArray, List.set_cons_zero, List.set_cons_succ])
          refine wpAnyH_take (i := 1) (oi := { dst := some 197, op := Op.binOp BinOp.eql 26 (Operand.tmp 196) (Operand.const Value.nilIface) 26, type := 4, pos := "law.go:104", after := #[{ on := 0, ground := Ground.data }], guard := none }) (v := ?_) rfl (by kernel_rfl) (by kernel_rfl) (by kernel_rfl) (fun _ _ _ h => h) (Or.inl ⟨by rfl, ?_⟩) (by assumption) ?_
          rotate_left
          · intro w hSw
            (try dsimp only at hSw)
            go_simp
            (try with_reducible rfl)
          (try simp only [Act.put, List.setIfInBounds_toArray, List.set_cons_zero, List.set_cons_succ])
          refine wpAnyH_take (i := 2) (oi := { dst := some 198, op := Op.move (Operand.tmp 28), type := 4, pos := "law.go:104", after := #[], guard := none }) (v := ?_) rfl (by kernel_rfl) (by kernel_rfl) (by kernel_rfl) (fun _ _ _ h => h) (Or.inl ⟨by rfl, ?_⟩) (by assumption) ?_
          rotate_left
          · intro w hSw
            (try dsimp only at hSw)
            go_simp
            (try with_reducible rfl)
          (try simp only [Act.put, List.setIfInBounds_toArray, List.set_cons_zero, List.set_cons_succ])
          refine wpAnyH_take (i := 3) (oi := { dst := some 199, op := Op.binOp BinOp.eql 4 (Operand.tmp 197) (Operand.tmp 198) 4, type := 4, pos := "law.go:104", after := #[{ on := 1, ground := Ground.data }, { on := 2, ground := Ground.data }], guard := none }) (v := ?_) rfl (by kernel_rfl) (by kernel_rfl) (by kernel_rfl) (fun _ _ _ h => h) (Or.inl ⟨by rfl, ?_⟩) (by assumption) ?_
          rotate_left
          · intro w hSw
            (try dsimp only at hSw)
            go_simp
            (try with_reducible rfl)
          (try simp only [Act.put, List.setIfInBounds_toArray, List.set_cons_zero, List.set_cons_succ])
          refine wpAnyH_take (i := 4) (oi := { dst := some 200, op := Op.move (Operand.tmp 199), type := 4, pos := "law.go:104", after := #[{ on := 3, ground := Ground.data }], guard := none }) (v := ?_) rfl (by kernel_rfl) (by kernel_rfl) (by kernel_rfl) (fun _ _ _ h => h) (Or.inl ⟨by rfl, ?_⟩) (by assumption) ?_
          rotate_left
          · intro w hSw
            (try dsimp only at hSw)
            go_simp
            (try with_reducible rfl)
          (try simp only [Act.put, List.setIfInBounds_toArray, List.set_cons_zero, List.set_cons_succ])
          refine wpAnyH_take (i := 5) (oi := { dst := some 201, op := Op.move (Operand.tmp 28), type := 4, pos := "law.go:104", after := #[{ on := 4, ground := Ground.guard }], guard := some (4, true) }) (v := ?_) rfl (by kernel_rfl) (by kernel_rfl) (by kernel_rfl) (fun _ _ _ h => h) (Or.inl ⟨by rfl, ?_⟩) (by assumption) ?_
          rotate_left
          · intro w hSw
            (try dsimp only at hSw)
            go_simp
            (try with_reducible rfl)
          (try simp only [Act.put, List.setIfInBounds_toArray, List.set_cons_zero, List.set_cons_succ])
          refine wpAnyH_take (i := 6) (oi := { dst := some 202, op := Op.unOp UnOp.not 4 (Operand.tmp 201), type := 4, pos := "law.go:104", after := #[{ on := 5, ground := Ground.data }, { on := 4, ground := Ground.guard }], guard := some (4, true) }) (v := ?_) rfl (by kernel_rfl) (by kernel_rfl) (by kernel_rfl) (fun _ _ _ h => h) (Or.inl ⟨by rfl, ?_⟩) (by assumption) ?_
          rotate_left
          · intro w hSw
            (try dsimp only at hSw)
            go_simp
            (try with_reducible rfl)
          (try simp only [Act.put, List.setIfInBounds_toArray, List.set_cons_zero, List.set_cons_succ])
          refine wpAnyH_take (i := 7) (oi := { dst := some 203, op := Op.move (Operand.tmp 202), type := 4, pos := "law.go:104", after := #[{ on := 6, ground := Ground.data }, { on := 4, ground := Ground.chain }, { on := 4, ground := Ground.guard }], guard := some (4, true) }) (v := ?_) rfl (by kernel_rfl) (by kernel_rfl) (by kernel_rfl) (fun _ _ _ h => h) (Or.inl ⟨by rfl, ?_⟩) (by assumption) ?_
          rotate_left
          · intro w hSw
            (try dsimp only at hSw)
            go_simp
            (try with_reducible rfl)
          (try simp only [Act.put, List.setIfInBounds_toArray, List.set_cons_zero, List.set_cons_succ])
          refine wpAnyH_take (i := 8) (oi := { dst := some 204, op := Op.fieldAddr 79 (Operand.tmp 26) 2, type := 0, pos := "law.go:104", after := #[{ on := 7, ground := Ground.guard }], guard := some (7, false) }) (v := undef) rfl (by kernel_rfl) (by kernel_rfl) (by kernel_rfl) (fun _ _ _ h => h) (Or.inr ⟨by rfl, rfl⟩) (by assumption) ?_
          (try simp only [Act.put, List.setIfInBounds_toArray, List.set_cons_zero, List.set_cons_succ])
          refine wpAnyH_take (i := 9) (oi := { dst := some 205, op := Op.load 3 (Operand.tmp 204), type := 3, pos := "law.go:104", after := #[{ on := 8, ground := Ground.data }, { on := 7, ground := Ground.guard }], guard := some (7, false) }) (v := undef) rfl (by kernel_rfl) (by kernel_rfl) (by kernel_rfl) (fun _ _ _ h => h) (Or.inr ⟨by rfl, rfl⟩) (by assumption) ?_
          (try simp only [Act.put, List.setIfInBounds_toArray, List.set_cons_zero, List.set_cons_succ])
          refine wpAnyH_take (i := 10) (oi := { dst := some 206, op := Op.fieldAddr 75 (Operand.tmp 3) 1, type := 0, pos := "law.go:104", after := #[{ on := 7, ground := Ground.guard }], guard := some (7, false) }) (v := undef) rfl (by kernel_rfl) (by kernel_rfl) (by kernel_rfl) (fun _ _ _ h => h) (Or.inr ⟨by rfl, rfl⟩) (by assumption) ?_
          (try simp only [Act.put, List.setIfInBounds_toArray, List.set_cons_zero, List.set_cons_succ])
          refine wpAnyH_take (i := 11) (oi := { dst := some 207, op := Op.load 3 (Operand.tmp 206), type := 3, pos := "law.go:104", after := #[{ on := 10, ground := Ground.data }, { on := 7, ground := Ground.guard }], guard := some (7, false) }) (v := undef) rfl (by kernel_rfl) (by kernel_rfl) (by kernel_rfl) (fun _ _ _ h => h) (Or.inr ⟨by rfl, rfl⟩) (by assumption) ?_
          (try simp only [Act.put, List.setIfInBounds_toArray, List.set_cons_zero, List.set_cons_succ])
          refine wpAnyH_take (i := 12) (oi := { dst := some 208, op := Op.binOp BinOp.eql 3 (Operand.tmp 205) (Operand.tmp 207) 3, type := 4, pos := "law.go:104", after := #[{ on := 9, ground := Ground.data }, { on := 11, ground := Ground.data }, { on := 7, ground := Ground.guard }], guard := some (7, false) }) (v := undef) rfl (by kernel_rfl) (by kernel_rfl) (by kernel_rfl) (fun _ _ _ h => h) (Or.inr ⟨by rfl, rfl⟩) (by assumption) ?_
          (try simp only [Act.put, List.setIfInBounds_toArray, List.set_cons_zero, List.set_cons_succ])
          refine wpAnyH_take (i := 13) (oi := { dst := some 209, op := Op.pick (Operand.tmp 203) (Operand.const (Value.bool true)) (Operand.tmp 208), type := 4, pos := "law.go:104", after := #[{ on := 7, ground := Ground.data }, { on := 12, ground := Ground.data }, { on := 4, ground := Ground.guard }], guard := some (4, true) }) (v := ?_) rfl (by kernel_rfl) (by kernel_rfl) (by kernel_rfl) (fun _ _ _ h => h) (Or.inl ⟨by rfl, ?_⟩) (by assumption) ?_
          rotate_left
          · intro w hSw
            (try dsimp only at hSw)
            go_simp
            (try with_reducible rfl)
          (try simp only [Act.put, List.setIfInBounds_toArray, List.set_cons_zero, List.set_cons_succ])
          refine wpAnyH_take (i := 14) (oi := { dst := some 210, op := Op.pick (Operand.tmp 200) (Operand.tmp 209) (Operand.const (Value.bool false)), type := 4, pos := "law.go:104", after := #[{ on := 4, ground := Ground.data }, { on := 13, ground := Ground.data }], guard := none }) (v := ?_) rfl (by kernel_rfl) (by kernel_rfl) (by kernel_rfl) (fun _ _ _ h => h) (Or.inl ⟨by rfl, ?_⟩) (by assumption) ?_
          rotate_left
          · intro w hSw
            (try dsimp only at hSw)
            go_simp
            (try with_reducible rfl)
          (try simp only [Act.put, List.setIfInBounds_toArray, List.set_cons_zero, List.set_cons_succ])
          refine wpAnyH_take (i := 15) (oi := { dst := some 211, op := Op.move (Operand.tmp 210), type := 4, pos := "law.go:104", after := #[{ on := 14, ground := Ground.data }, { on := 7, ground := Ground.chain }], guard := none }) (v := ?_) rfl (by kernel_rfl) (by kernel_rfl) (by kernel_rfl) (fun _ _ _ h => h) (Or.inl ⟨by rfl, ?_⟩) (by assumption) ?_
          rotate_left
          · intro w hSw
            (try dsimp only at hSw)
            go_simp
            (try with_reducible rfl)
          (try simp only [Act.put, List.setIfInBounds_toArray, List.set_cons_zero, List.set_cons_succ])
          refine wpAnyH_take (i := 16) (oi := { dst := some 212, op := Op.move (Operand.tmp 28), type := 4, pos := "law.go:104", after := #[{ on := 15, ground := Ground.guard }], guard := some (15, true) }) (v := ?_) rfl (by kernel_rfl) (by kernel_rfl) (by kernel_rfl) (fun _ _ _ h => h) (Or.inl ⟨by rfl, ?_⟩) (by assumption) ?_
          rotate_left
          · intro w hSw
            (try dsimp only at hSw)
            go_simp
            (try with_reducible rfl)
          (try simp only [Act.put, List.setIfInBounds_toArray, List.set_cons_zero, List.set_cons_succ])
          refine wpAnyH_take (i := 17) (oi := { dst := some 213, op := Op.move (Operand.tmp 212), type := 4, pos := "law.go:104", after := #[{ on := 16, ground := Ground.data }, { on := 15, ground := Ground.chain }, { on := 15, ground := Ground.guard }], guard := some (15, true) }) (v := ?_) rfl (by kernel_rfl) (by kernel_rfl) (by kernel_rfl) (fun _ _ _ h => h) (Or.inl ⟨by rfl, ?_⟩) (by assumption) ?_
          rotate_left
          · intro w hSw
            (try dsimp only at hSw)
            go_simp
            (try with_reducible rfl)
          (try simp only [Act.put, List.setIfInBounds_toArray, List.set_cons_zero, List.set_cons_succ])
          refine wpAnyH_take (i := 18) (oi := { dst := some 214, op := Op.move (Operand.tmp 27), type := 26, pos := "law.go:104", after := #[{ on := 17, ground := Ground.guard }], guard := some (17, false) }) (v := ?_) rfl (by kernel_rfl) (by kernel_rfl) (by kernel_rfl) (fun _ _ _ h => h) (Or.inl ⟨by rfl, ?_⟩) (by assumption) ?_
          rotate_left
          · intro w hSw
            (try dsimp only at hSw)
            go_simp
            (try with_reducible rfl)
          (try simp only [Act.put, List.setIfInBounds_toArray, List.set_cons_zero, List.set_cons_succ])
          refine wpAnyH_ready (rs := [19]) (by kernel_rfl) (by simp) ?_
          refine AllReadyH.cons (o := { dst := some 215, op := Op.call { callee := Callee.value (Operand.func 53), args := #[Operand.tmp 214], argTypes := #[26] }, type := 3, pos := "law.go:104", after := #[{ on := 18, ground := Ground.data }, { on := 17, ground := Ground.chain }, { on := 17, ground := Ground.guard }], guard := some (17, false) }) rfl (fun K hK => ?_) AllReadyH.nil
          go_simp
          (refine (num_errv (k := 1) (ErrV.of (by decide)) _ Kd.out.1.handle).mono ?_; rintro e wz19 ⟨rfl, hbz19⟩; have Kz19 := Lib.hid (And.intro (Kd.out.1.step hbz19) (And.intro (Kd.out.2.1.later hbz19) (Kd.out.2.2.later hbz19))); clear hbz19 Kd; clear k0 k1 k2 k3 k4 k5 k6 k7 k8 k9 k10 k11 k12; have kz19_0 : wz19.cell? ⟨w13.heap.size, 0, none⟩ = some (.slice none 0 0) := Kz19.out.2.1.cell 0 0 rfl rfl; have kz19_1 : wz19.cell? ⟨w13.heap.size, 1, none⟩ = some (.int .u32 0) := Kz19.out.2.1.cell 0 1 rfl rfl; have kz19_2 : wz19.cell? ⟨w13.heap.size, 2, none⟩ = some (.int .i64 0) := Kz19.out.2.1.cell 0 2 rfl rfl; have kz19_3 : wz19.cell? ⟨w.heap.size + 1, 0, none⟩ = some (.slice xa la ca) := Kz19.out.2.1.cell 12 0 rfl rfl; have kz19_4 : wz19.cell? ⟨w.heap.size + 1, 1, none⟩ = some (.int .i64 ja) := Kz19.out.2.1.cell 12 1 rfl rfl; have kz19_5 : wz19.cell? ⟨w.heap.size + 1, 2, none⟩ = some (.int .u32 (na : Int)) := Kz19.out.2.1.cell 12 2 rfl rfl; have kz19_6 : wz19.cell? ⟨w.heap.size + 1, 3, none⟩ = some (.int .u64 (ta : Int)) := Kz19.out.2.1.cell 12 3 rfl rfl; have kz19_7 : wz19.cell? ⟨w2.heap.size, 0, none⟩ = some (.slice ox n cx) := Kz19.out.2.1.cell 11 0 rfl rfl; have kz19_8 : wz19.cell? ⟨w2.heap.size, 1, none⟩ = some (.int .u32 (last : Int)) := Kz19.out.2.1.cell 11 1 rfl rfl; have kz19_9 : wz19.cell? ⟨w2.heap.size, 2, none⟩ = some (.int .i64 max) := Kz19.out.2.1.cell 11 2 rfl rfl; have kz19_10 : wz19.cell? ⟨w.heap.size, 0, none⟩ = some (.slice oa n cp) := Kz19.out.2.1.cell 13 0 rfl rfl; have kz19_11 : wz19.cell? ⟨w.heap.size, 1, none⟩ = some (.int .u32 (last : Int)) := Kz19.out.2.1.cell 13 1 rfl rfl; have kz19_12 : wz19.cell? ⟨w.heap.size, 2, none⟩ = some (.int .i64 max) := Kz19.out.2.1.cell 13 2 rfl rfl; skip)
          (try go_wp2_with fail)
          refine hK.out _ _ ?_ (fun hHeld => ?_)
          · (try dsimp only)
            go_keep
          clear hK K
          (try simp only [Act.put, List.setIfInBounds_toArray, List.set_cons_zero, List.set_cons_succ])
          refine wpAnyH_take (i := 20) (oi := { dst := some 216, op := Op.binOp BinOp.eql 3 (Operand.tmp 215) (Operand.const (Value.int IntKind.i64 1)) 3, type := 4, pos := "law.go:104", after := #[{ on := 19, ground := Ground.data }, { on := 17, ground := Ground.guard }], guard := some (17, false) }) (v := ?_) rfl (by kernel_rfl) (by kernel_rfl) (by kernel_rfl) (fun _ _ _ h => h) (Or.inl ⟨by rfl, ?_⟩) (by assumption) ?_
          rotate_left
          · intro w hSw
            (try dsimp only at hSw)
            go_simp
            (try with_reducible rfl)
          (try simp only [Act.put, List.setIfInBounds_toArray, List.set_cons_zero, List.set_cons_succ])
          refine wpAnyH_take (i := 21) (oi := { dst := some 217, op := Op.pick (Operand.tmp 213) (Operand.const (Value.bool true)) (Operand.tmp 216), type := 4, pos := "law.go:104", after := #[{ on := 17, ground := Ground.data }, { on := 20, ground := Ground.data }, { on := 15, ground := Ground.guard }], guard := some (15, true) }) (v := ?_) rfl (by kernel_rfl) (by kernel_rfl) (by kernel_rfl) (fun _ _ _ h => h) (Or.inl ⟨by rfl, ?_⟩) (by assumption) ?_
          rotate_left
          · intro w hSw
            (try dsimp only at hSw)
            go_simp
            (try with_reducible rfl)
          (try simp only [Act.put, List.setIfInBounds_toArray, List.set_cons_zero, List.set_cons_succ])
          refine wpAnyH_take (i := 22) (oi := { dst := some 218, op := Op.pick (Operand.tmp 211) (Operand.tmp 217) (Operand.const (Value.bool false)), type := 4, pos := "law.go:104", after := #[{ on := 15, ground := Ground.data }, { on := 21, ground := Ground.data }], guard := none }) (v := ?_) rfl (by kernel_rfl) (by kernel_rfl) (by kernel_rfl) (fun _ _ _ h => h) (Or.inl ⟨by rfl, ?_⟩) (by assumption) ?_
          rotate_left
          · intro w hSw
            (try dsimp only at hSw)
            go_simp
            (try with_reducible rfl)
          (try simp only [Act.put, List.setIfInBounds_toArray, List.set_cons_zero, List.set_cons_succ])
          refine wpAnyH_take (i := 23) (oi := { dst := some 219, op := Op.move (Operand.tmp 218), type := 4, pos := "law.go:104", after := #[{ on := 22, ground := Ground.data }, { on := 19, ground := Ground.chain }], guard := none }) (v := ?_) rfl (by kernel_rfl) (by kernel_rfl) (by kernel_rfl) (fun _ _ _ h => h) (Or.inl ⟨by rfl, ?_⟩) (by assumption) ?_
          rotate_left
          · intro w hSw
            (try dsimp only at hSw)
            go_simp
            (try with_reducible rfl)
          (try simp only [Act.put, List.setIfInBounds_toArray, List.set_cons_zero, List.set_cons_succ])
          refine wpAnyH_take (i := 24) (oi := { dst := some 220, op := Op.fieldAddr 79 (Operand.tmp 26) 0, type := 0, pos := "law.go:104", after := #[{ on := 23, ground := Ground.guard }], guard := some (23, true) }) (v := ?_) rfl (by kernel_rfl) (by kernel_rfl) (by kernel_rfl) (fun _ _ _ h => h) (Or.inl ⟨by rfl, ?_⟩) (by assumption) ?_
          rotate_left
          · intro w hSw
            (try dsimp only at hSw)
            go_simp
            (try with_reducible rfl)
          (try simp only [Act.put, List.setIfInBounds_toArray, List.set_cons_zero, List.set_cons_succ])
          refine wpAnyH_take (i := 25) (oi := { dst := some 221, op := Op.load 77 (Operand.tmp 220), type := 77, pos := "law.go:104", after := #[{ on := 24, ground := Ground.data }, { on := 23, ground := Ground.guard }], guard := some (23, true) }) (v := ?_) rfl (by kernel_rfl) (by kernel_rfl) (by kernel_rfl) (fun _ _ _ h => h) (Or.inl ⟨by rfl, ?_⟩) (by assumption) ?_
          rotate_left
          · intro w hSw
            (try dsimp only at hSw)
            go_simp
            (try with_reducible rfl)
          (try simp only [Act.put, List.setIfInBounds_toArray, List.set_cons_zero, List.set_cons_succ])
          refine wpAnyH_take (i := 26) (oi := { dst := some 222, op := Op.call { callee := Callee.builtin Builtin.len, args := #[Operand.tmp 221], argTypes := #[77] }, type := 3, pos := "law.go:104", after := #[{ on := 25, ground := Ground.data }, { on := 23, ground := Ground.guard }], guard := some (23, true) }) (v := ?_) rfl (by kernel_rfl) (by kernel_rfl) (by kernel_rfl) (fun _ _ _ h => h) (Or.inl ⟨by rfl, ?_⟩) (by assumption) ?_
          rotate_left
          · intro w hSw
            (try dsimp only at hSw)
            go_simp
            (try with_reducible rfl)
          (try simp only [Act.put, List.setIfInBounds_toArray, List.set_cons_zero, List.set_cons_succ])
          refine wpAnyH_take (i := 27) (oi := { dst := some 223, op := Op.binOp BinOp.eql 3 (Operand.tmp 222) (Operand.const (Value.int IntKind.i64 0)) 3, type := 4, pos := "law.go:104", after := #[{ on := 26, ground := Ground.data }, { on := 23, ground := Ground.guard }], guard := some (23, true) }) (v := ?_) rfl (by kernel_rfl) (by kernel_rfl) (by kernel_rfl) (fun _ _ _ h => h) (Or.inl ⟨by rfl, ?_⟩) (by assumption) ?_
          rotate_left
          · intro w hSw
            (try dsimp only at hSw)
            go_simp
            (try with_reducible rfl)
          (try simp only [Act.put, List.setIfInBounds_toArray, List.set_cons_zero, List.set_cons_succ])
          refine wpAnyH_take (i := 28) (oi := { dst := some 224, op := Op.pick (Operand.tmp 219) (Operand.tmp 223) (Operand.const (Value.bool false)), type := 4, pos := "law.go:104", after := #[{ on := 23, ground := Ground.data }, { on := 27, ground := Ground.data }], guard := none }) (v := ?_) rfl (by kernel_rfl) (by kernel_rfl) (by kernel_rfl) (fun _ _ _ h => h) (Or.inl ⟨by rfl, ?_⟩) (by assumption) ?_
          rotate_left
          · intro w hSw
            (try dsimp only at hSw)
            go_simp
            (try with_reducible rfl)
          (try simp only [Act.put, List.setIfInBounds_toArray, List.set_cons_zero, List.set_cons_succ])
          refine wpAnyH_take (i := 29) (oi := { dst := some 225, op := Op.move (Operand.tmp 224), type := 4, pos := "law.go:104", after := #[{ on := 28, ground := Ground.data }, { on := 23, ground := Ground.chain }], guard := none }) (v := ?_) rfl (by kernel_rfl) (by kernel_rfl) (by kernel_rfl) (fun _ _ _ h => h) (Or.inl ⟨by rfl, ?_⟩) (by assumption) ?_
          rotate_left
          · intro w hSw
            (try dsimp only at hSw)
            go_simp
            (try with_reducible rfl)
          (try simp only [Act.put, List.setIfInBounds_toArray, List.set_cons_zero, List.set_cons_succ])
          refine wpAnyH_take (i := 30) (oi := { dst := some 226, op := Op.load 79 (Operand.tmp 5), type := 79, pos := "law.go:104", after := #[{ on := 29, ground := Ground.guard }], guard := some (29, true) }) (v := ?_) rfl (by kernel_rfl) (by kernel_rfl) (by kernel_rfl) (fun _ _ _ h => h) (Or.inl ⟨by rfl, ?_⟩) (by assumption) ?_
          rotate_left
          · intro w hSw
            (try dsimp only at hSw)
            go_simp
            (try with_reducible rfl)
          (try simp only [Act.put, List.setIfInBounds_toArray, List.set_cons_zero, List.set_cons_succ])
          refine wpAnyH_take (i := 33) (oi := { dst := some 229, op := Op.load 73 (Operand.tmp 2), type := 73, pos := "law.go:104", after := #[{ on := 29, ground := Ground.guard }], guard := some (29, true) }) (v := ?_) rfl (by kernel_rfl) (by kernel_rfl) (by kernel_rfl) (fun _ _ _ h => h) (Or.inl ⟨by rfl, ?_⟩) (by assumption) ?_
          rotate_left
          · intro w hSw
            (try dsimp only at hSw)
            go_simp
            (try with_reducible rfl)
          (try simp only [Act.put, List.setIfInBounds_toArray, List.set_cons_zero, List.set_cons_succ])
          refine wpAnyH_ready (rs := [31]) (by kernel_rfl) (by simp) ?_
          refine AllReadyH.cons (o := { dst := some 227, op := Op.call { callee := Callee.value (Operand.func 55), args := #[Operand.tmp 226], argTypes := #[79] }, type := 26, pos := "law.go:104", after := #[{ on := 30, ground := Ground.data }, { on := 29, ground := Ground.chain }, { on := 29, ground := Ground.guard }], guard := some (29, true) }) rfl (fun K hK => ?_) AllReadyH.nil
          go_simp
          (refine (check_yes ox n cx last max V _ HN.out HLs.out Kz19.out.2.2 HS.out).mono ?_; rintro e wz31 ⟨rfl, hbz31⟩; have Kz31 := Lib.hid (And.intro (Kz19.out.1.step hbz31) (And.intro (Kz19.out.2.1.later hbz31) (Kz19.out.2.2.later hbz31))); clear hbz31 Kz19; clear kz19_0 kz19_1 kz19_2 kz19_3 kz19_4 kz19_5 kz19_6 kz19_7 kz19_8 kz19_9 kz19_10 kz19_11 kz19_12; have kz31_0 : wz31.cell? ⟨w13.heap.size, 0, none⟩ = some (.slice none 0 0) := Kz31.out.2.1.cell 0 0 rfl rfl; have kz31_1 : wz31.cell? ⟨w13.heap.size, 1, none⟩ = some (.int .u32 0) := Kz31.out.2.1.cell 0 1 rfl rfl; have kz31_2 : wz31.cell? ⟨w13.heap.size, 2, none⟩ = some (.int .i64 0) := Kz31.out.2.1.cell 0 2 rfl rfl; have kz31_3 : wz31.cell? ⟨w.heap.size + 1, 0, none⟩ = some (.slice xa la ca) := Kz31.out.2.1.cell 12 0 rfl rfl; have kz31_4 : wz31.cell? ⟨w.heap.size + 1, 1, none⟩ = some (.int .i64 ja) := Kz31.out.2.1.cell 12 1 rfl rfl; have kz31_5 : wz31.cell? ⟨w.heap.size + 1, 2, none⟩ = some (.int .u32 (na : Int)) := Kz31.out.2.1.cell 12 2 rfl rfl; have kz31_6 : wz31.cell? ⟨w.heap.size + 1, 3, none⟩ = some (.int .u64 (ta : Int)) := Kz31.out.2.1.cell 12 3 rfl rfl; have kz31_7 : wz31.cell? ⟨w2.heap.size, 0, none⟩ = some (.slice ox n cx) := Kz31.out.2.1.cell 11 0 rfl rfl; have kz31_8 : wz31.cell? ⟨w2.heap.size, 1, none⟩ = some (.int .u32 (last : Int)) := Kz31.out.2.1.cell 11 1 rfl rfl; have kz31_9 : wz31.cell? ⟨w2.heap.size, 2, none⟩ = some (.int .i64 max) := Kz31.out.2.1.cell 11 2 rfl rfl; have kz31_10 : wz31.cell? ⟨w.heap.size, 0, none⟩ = some (.slice oa n cp) := Kz31.out.2.1.cell 13 0 rfl rfl; have kz31_11 : wz31.cell? ⟨w.heap.size, 1, none⟩ = some (.int .u32 (last : Int)) := Kz31.out.2.1.cell 13 1 rfl rfl; have kz31_12 : wz31.cell? ⟨w.heap.size, 2, none⟩ = some (.int .i64 max) := Kz31.out.2.1.cell 13 2 rfl rfl; skip)
          (try go_wp2_with fail)
          refine hK.out _ _ ?_ (fun hHeld => ?_)
          · (try dsimp only)
            go_keep
          clear hK K
          (try simp only [Act.put, List.setIfInBounds_toArray, List.set_cons_zero, List.set_cons_succ])
          refine wpAnyH_take (i := 32) (oi := { dst := some 228, op := Op.binOp BinOp.eql 26 (Operand.tmp 227) (Operand.const Value.nilIface) 26, type := 4, pos := "law.go:104", after := #[{ on := 31, ground := Ground.data }, { on := 29, ground := Ground.guard }], guard := some (29, true) }) (v := ?_) rfl (by kernel_rfl) (by kernel_rfl) (by kernel_rfl) (fun _ _ _ h => h) (Or.inl ⟨by rfl, ?_⟩) (by assumption) ?_
          rotate_left
          · intro w hSw
            (try dsimp only at hSw)
            go_simp
            (try with_reducible rfl)
          (try simp only [Act.put, List.setIfInBounds_toArray, List.set_cons_zero, List.set_cons_succ])
          refine wpAnyH_ready (rs := [34]) (by kernel_rfl) (by simp) ?_
          refine AllReadyH.cons (o := { dst := some 230, op := Op.call { callee := Callee.value (Operand.func 56), args := #[Operand.tmp 229], argTypes := #[73] }, type := 4, pos := "law.go:104", after := #[{ on := 33, ground := Ground.data }, { on := 31, ground := Ground.chain }, { on := 29, ground := Ground.guard }], guard := some (29, true) }) rfl (fun K hK => ?_) AllReadyH.nil
          go_simp
          (refine (rmay_yes oa n cp last max V _ HN.out HLs.out (HV.out.later Kz31.out.1.bel) HM.out HS.out).mono ?_; rintro e wz34 ⟨rfl, hbz34⟩; have Kz34 := Lib.hid (And.intro (Kz31.out.1.step hbz34) (And.intro (Kz31.out.2.1.later hbz34) (Kz31.out.2.2.later hbz34))); clear hbz34 Kz31; clear kz31_0 kz31_1 kz31_2 kz31_3 kz31_4 kz31_5 kz31_6 kz31_7 kz31_8 kz31_9 kz31_10 kz31_11 kz31_12; have kz34_0 : wz34.cell? ⟨w13.heap.size, 0, none⟩ = some (.slice none 0 0) := Kz34.out.2.1.cell 0 0 rfl rfl; have kz34_1 : wz34.cell? ⟨w13.heap.size, 1, none⟩ = some (.int .u32 0) := Kz34.out.2.1.cell 0 1 rfl rfl; have kz34_2 : wz34.cell? ⟨w13.heap.size, 2, none⟩ = some (.int .i64 0) := Kz34.out.2.1.cell 0 2 rfl rfl; have kz34_3 : wz34.cell? ⟨w.heap.size + 1, 0, none⟩ = some (.slice xa la ca) := Kz34.out.2.1.cell 12 0 rfl rfl; have kz34_4 : wz34.cell? ⟨w.heap.size + 1, 1, none⟩ = some (.int .i64 ja) := Kz34.out.2.1.cell 12 1 rfl rfl; have kz34_5 : wz34.cell? ⟨w.heap.size + 1, 2, none⟩ = some (.int .u32 (na : Int)) := Kz34.out.2.1.cell 12 2 rfl rfl; have kz34_6 : wz34.cell? ⟨w.heap.size + 1, 3, none⟩ = some (.int .u64 (ta : Int)) := Kz34.out.2.1.cell 12 3 rfl rfl; have kz34_7 : wz34.cell? ⟨w2.heap.size, 0, none⟩ = some (.slice ox n cx) := Kz34.out.2.1.cell 11 0 rfl rfl; have kz34_8 : wz34.cell? ⟨w2.heap.size, 1, none⟩ = some (.int .u32 (last : Int)) := Kz34.out.2.1.cell 11 1 rfl rfl; have kz34_9 : wz34.cell? ⟨w2.heap.size, 2, none⟩ = some (.int .i64 max) := Kz34.out.2.1.cell 11 2 rfl rfl; have kz34_10 : wz34.cell? ⟨w.heap.size, 0, none⟩ = some (.slice oa n cp) := Kz34.out.2.1.cell 13 0 rfl rfl; have kz34_11 : wz34.cell? ⟨w.heap.size, 1, none⟩ = some (.int .u32 (last : Int)) := Kz34.out.2.1.cell 13 1 rfl rfl; have kz34_12 : wz34.cell? ⟨w.heap.size, 2, none⟩ = some (.int .i64 max) := Kz34.out.2.1.cell 13 2 rfl rfl; skip)
          (try go_wp2_with fail)
          refine hK.out _ _ ?_ (fun hHeld => ?_)
          · (try dsimp only)
            go_keep
          clear hK K
          (try simp only [Act.put, List.setIfInBounds_toArray, List.set_cons_zero, List.set_cons_succ])
          refine wpAnyH_take (i := 35) (oi := { dst := some 231, op := Op.binOp BinOp.eql 4 (Operand.tmp 228) (Operand.tmp 230) 4, type := 4, pos := "law.go:104", after := #[{ on := 32, ground := Ground.data }, { on := 34, ground := Ground.data }, { on := 29, ground := Ground.guard }], guard := some (29, true) }) (v := ?_) rfl (by kernel_rfl) (by kernel_rfl) (by kernel_rfl) (fun _ _ _ h => h) (Or.inl ⟨by rfl, ?_⟩) (by assumption) ?_
          rotate_left
          · intro w hSw
            (try dsimp only at hSw)
            go_simp
            (try with_reducible rfl)
          (try simp only [Act.put, List.setIfInBounds_toArray, List.set_cons_zero, List.set_cons_succ])
          refine wpAnyH_take (i := 36) (oi := { dst := some 232, op := Op.pick (Operand.tmp 225) (Operand.tmp 231) (Operand.const (Value.bool false)), type := 4, pos := "law.go:104", after := #[{ on := 29, ground := Ground.data }, { on := 35, ground := Ground.data }], guard := none }) (v := ?_) rfl (by kernel_rfl) (by kernel_rfl) (by kernel_rfl) (fun _ _ _ h => h) (Or.inl ⟨by rfl, ?_⟩) (by assumption) ?_
          rotate_left
          · intro w hSw
            (try dsimp only at hSw)
            go_simp
            (try with_reducible rfl)
          (try simp only [Act.put, List.setIfInBounds_toArray, List.set_cons_zero, List.set_cons_succ])
          refine wpAnyH_take (i := 37) (oi := { dst := some 233, op := Op.move (Operand.tmp 232), type := 4, pos := "law.go:104", after := #[{ on := 36, ground := Ground.data }, { on := 34, ground := Ground.chain }], guard := none }) (v := ?_) rfl (by kernel_rfl) (by kernel_rfl) (by kernel_rfl) (fun _ _ _ h => h) (Or.inl ⟨by rfl, ?_⟩) (by assumption) ?_
          rotate_left
          · intro w hSw
            (try dsimp only at hSw)
            go_simp
            (try with_reducible rfl)
          (try simp only [Act.put, List.setIfInBounds_toArray, List.set_cons_zero, List.set_cons_succ])
          refine wpAnyH_ready (rs := [38]) (by kernel_rfl) (by simp) ?_
          refine AllReadyH.cons (o := { dst := some 234, op := Op.call { callee := Callee.value (Operand.func 41), args := #[], argTypes := #[] }, type := 4, pos := "law.go:104", after := #[{ on := 37, ground := Ground.chain }, { on := 37, ground := Ground.guard }], guard := some (37, true) }) rfl (fun K hK => ?_) AllReadyH.nil
          go_simp
          (refine (sure30_any _ Kz34.out.1.handle).mono ?_; rintro e wz38 ⟨rfl, hbz38⟩; have Kz38 := Lib.hid (And.intro (Kz34.out.1.step hbz38) (And.intro (Kz34.out.2.1.later hbz38) (Kz34.out.2.2.later hbz38))); clear hbz38 Kz34; clear kz34_0 kz34_1 kz34_2 kz34_3 kz34_4 kz34_5 kz34_6 kz34_7 kz34_8 kz34_9 kz34_10 kz34_11 kz34_12; have kz38_0 : wz38.cell? ⟨w13.heap.size, 0, none⟩ = some (.slice none 0 0) := Kz38.out.2.1.cell 0 0 rfl rfl; have kz38_1 : wz38.cell? ⟨w13.heap.size, 1, none⟩ = some (.int .u32 0) := Kz38.out.2.1.cell 0 1 rfl rfl; have kz38_2 : wz38.cell? ⟨w13.heap.size, 2, none⟩ = some (.int .i64 0) := Kz38.out.2.1.cell 0 2 rfl rfl; have kz38_3 : wz38.cell? ⟨w.heap.size + 1, 0, none⟩ = some (.slice xa la ca) := Kz38.out.2.1.cell 12 0 rfl rfl; have kz38_4 : wz38.cell? ⟨w.heap.size + 1, 1, none⟩ = some (.int .i64 ja) := Kz38.out.2.1.cell 12 1 rfl rfl; have kz38_5 : wz38.cell? ⟨w.heap.size + 1, 2, none⟩ = some (.int .u32 (na : Int)) := Kz38.out.2.1.cell 12 2 rfl rfl; have kz38_6 : wz38.cell? ⟨w.heap.size + 1, 3, none⟩ = some (.int .u64 (ta : Int)) := Kz38.out.2.1.cell 12 3 rfl rfl; have kz38_7 : wz38.cell? ⟨w2.heap.size, 0, none⟩ = some (.slice ox n cx) := Kz38.out.2.1.cell 11 0 rfl rfl; have kz38_8 : wz38.cell? ⟨w2.heap.size, 1, none⟩ = some (.int .u32 (last : Int)) := Kz38.out.2.1.cell 11 1 rfl rfl; have kz38_9 : wz38.cell? ⟨w2.heap.size, 2, none⟩ = some (.int .i64 max) := Kz38.out.2.1.cell 11 2 rfl rfl; have kz38_10 : wz38.cell? ⟨w.heap.size, 0, none⟩ = some (.slice oa n cp) := Kz38.out.2.1.cell 13 0 rfl rfl; have kz38_11 : wz38.cell? ⟨w.heap.size, 1, none⟩ = some (.int .u32 (last : Int)) := Kz38.out.2.1.cell 13 1 rfl rfl; have kz38_12 : wz38.cell? ⟨w.heap.size, 2, none⟩ = some (.int .i64 max) := Kz38.out.2.1.cell 13 2 rfl rfl; skip)
          (try go_wp2_with fail)
          refine hK.out _ _ ?_ (fun hHeld => ?_)
          · (try dsimp only)
            go_keep
          clear hK K
          (try simp only [Act.put, List.setIfInBounds_toArray, List.set_cons_zero, List.set_cons_succ])
          refine wpAnyH_take (i := 39) (oi := { dst := some 235, op := Op.pick (Operand.tmp 233) (Operand.tmp 234) (Operand.const (Value.bool false)), type := 4, pos := "law.go:104", after := #[{ on := 37, ground := Ground.data }, { on := 38, ground := Ground.data }], guard := none }) (v := ?_) rfl (by kernel_rfl) (by kernel_rfl) (by kernel_rfl) (fun _ _ _ h => h) (Or.inl ⟨by rfl, ?_⟩) (by assumption) ?_
          rotate_left
          · intro w hSw
            (try dsimp only at hSw)
            go_simp
            (try with_reducible rfl)
          (try simp only [Act.put, List.setIfInBounds_toArray, List.set_cons_zero, List.set_cons_succ])
          refine wpAnyH_take (i := 40) (oi := { dst := some 4, op := Op.assign (Operand.tmp 235), type := 4, pos := "law.go:104", after := _, guard := none }) (v := ?_) rfl (by kernel_rfl) (by kernel_rfl) (by kernel_rfl) (fun _ _ _ h => h) (Or.inl ⟨by rfl, ?_⟩) (by assumption) ?_
          rotate_left
          · intro w hSw
            (try dsimp only at hSw)
            go_simp
            (try with_reducible rfl)
          (try simp only [Act.put, List.setIfInBounds_toArray, List.set_cons_zero, List.set_cons_succ])
          refine wpAnyH_done (by kernel_rfl) ?_ _
          go_wp2_with fail
          go_ret
          exact ⟨rfl, Kz38.out.1.bel⟩
        · have HS := Lib.hid hS
          clear hS
          have k0 : w24.cell? ⟨w13.heap.size, 0, none⟩ = some (.slice none 0 0) := HF24.out.cell 0 0 rfl rfl
          have k1 : w24.cell? ⟨w13.heap.size, 1, none⟩ = some (.int .u32 0) := HF24.out.cell 0 1 rfl rfl
          have k2 : w24.cell? ⟨w13.heap.size, 2, none⟩ = some (.int .i64 0) := HF24.out.cell 0 2 rfl rfl
          have k3 : w24.cell? ⟨w.heap.size + 1, 0, none⟩ = some (.slice xa la ca) := HF24.out.cell 12 0 rfl rfl
          have k4 : w24.cell? ⟨w.heap.size + 1, 1, none⟩ = some (.int .i64 ja) := HF24.out.cell 12 1 rfl rfl
          have k5 : w24.cell? ⟨w.heap.size + 1, 2, none⟩ = some (.int .u32 (na : Int)) := HF24.out.cell 12 2 rfl rfl
          have k6 : w24.cell? ⟨w.heap.size + 1, 3, none⟩ = some (.int .u64 (ta : Int)) := HF24.out.cell 12 3 rfl rfl
          have k7 : w24.cell? ⟨w2.heap.size, 0, none⟩ = some (.slice ox n cx) := HF24.out.cell 11 0 rfl rfl
          have k8 : w24.cell? ⟨w2.heap.size, 1, none⟩ = some (.int .u32 (last : Int)) := HF24.out.cell 11 1 rfl rfl
          have k9 : w24.cell? ⟨w2.heap.size, 2, none⟩ = some (.int .i64 max) := HF24.out.cell 11 2 rfl rfl
          have k10 : w24.cell? ⟨w.heap.size, 0, none⟩ = some (.slice oa n cp) := HF24.out.cell 13 0 rfl rfl
          have k11 : w24.cell? ⟨w.heap.size, 1, none⟩ = some (.int .u32 (last : Int)) := HF24.out.cell 13 1 rfl rfl
          have k12 : w24.cell? ⟨w.heap.size, 2, none⟩ = some (.int .i64 max) := HF24.out.cell 13 2 rfl rfl
          have HFd := HF24
          have HRd := HR24
          have HXd := HVx24
          have Kd : Hid (Wn w w24.drew ∧ Fr w24.drew [(w13.heap.size, #[.slice none 0 0, .int .u32 0, .int .i64 0], 79), (w12.heap.size, #[.slice o12 n5 c12, .int .u32 (l5 : Int), .int .i64 m5], 73), (w11.heap.size, #[.slice o11 n5 c11, .int .u32 (l5 : Int), .int .i64 m5], 79), (w10.heap.size, #[.slice o10 n4 c10, .int .u32 (l4 : Int), .int .i64 m4], 73), (w9.heap.size, #[.slice o9 n4 c9, .int .u32 (l4 : Int), .int .i64 m4], 79), (w8.heap.size, #[.slice o8 n3 c8, .int .u32 (l3 : Int), .int .i64 m3], 73), (w7.heap.size, #[.slice o7 n3 c7, .int .u32 (l3 : Int), .int .i64 m3], 79), (w6.heap.size, #[.int .u32 (vm : Int), .slice o6 vl c6, .int .u64 (vt : Int), .int .i64 vs], 89), (w5.heap.size, #[.int .u32 (vm : Int), .slice o5 vl c5, .int .u64 (vt : Int), .int .i64 vs], 86), (w4.heap.size, #[.slice o4 n1 c4, .int .u32 (l1 : Int), .int .i64 m1], 73), (w3.heap.size, #[.slice o3 n1 c3, .int .u32 (l1 : Int), .int .i64 m1], 79), (w2.heap.size, #[.slice ox n cx, .int .u32 (last : Int), .int .i64 max], 79), (w.heap.size + 1, #[.slice xa la ca, .int .i64 ja, .int .u32 (na : Int), .int .u64 (ta : Int)], 75), (w.heap.size, #[.slice oa n cp, .int .u32 (last : Int), .int .i64 max], 73)] ∧ Vers w24.drew ox n V) := Lib.hid ⟨HR24.out.drew, HF24.out, HVx24.out⟩
          clear HFd HRd HXd
          go_wp2_with fail
          refine wp_region_held_drew (S := (fun w' => w'.cell? ⟨w13.heap.size, 0, none⟩ = some (.slice none 0 0) ∧ w'.cell? ⟨w13.heap.size, 1, none⟩ = some (.int .u32 0) ∧ w'.cell? ⟨w13.heap.size, 2, none⟩ = some (.int .i64 0) ∧ w'.cell? ⟨w.heap.size + 1, 0, none⟩ = some (.slice xa la ca) ∧ w'.cell? ⟨w.heap.size + 1, 1, none⟩ = some (.int .i64 ja) ∧ w'.cell? ⟨w.heap.size + 1, 2, none⟩ = some (.int .u32 (na : Int)) ∧ w'.cell? ⟨w.heap.size + 1, 3, none⟩ = some (.int .u64 (ta : Int)) ∧ w'.cell? ⟨w2.heap.size, 0, none⟩ = some (.slice ox n cx) ∧ w'.cell? ⟨w2.heap.size, 1, none⟩ = some (.int .u32 (last : Int)) ∧ w'.cell? ⟨w2.heap.size, 2, none⟩ = some (.int .i64 max) ∧ w'.cell? ⟨w.heap.size, 0, none⟩ = some (.slice oa n cp) ∧ w'.cell? ⟨w.heap.size, 1, none⟩ = some (.int .u32 (last : Int)) ∧ w'.cell? ⟨w.heap.size, 2, none⟩ = some (.int .i64 max))) (by kernel_rfl) ?_ (fun hHeld => ?_)
          · (try dsimp only)
            go_keep
          refine wpAnyH_take (i := 0) (oi := { dst := some 196, op := Op.move (Operand.tmp 27), type := 26, pos := "law.go:104", after := #[], guard := none }) (v := ?_) rfl (by kernel_rfl) (by kernel_rfl) (by kernel_rfl) (fun _ _ _ h => h) (Or.inl ⟨by rfl, ?_⟩) (by assumption) ?_
          rotate_left
          · intro w hSw
            (try dsimp only at hSw)
            go_simp
            (try with_reducible rfl)
          (try simp only [Act.put, List.setIfInBounds_toArray, List.set_cons_zero, List.set_cons_succ])
          refine wpAnyH_take (i := 1) (oi := { dst := some 197, op := Op.binOp BinOp.eql 26 (Operand.tmp 196) (Operand.const Value.nilIface) 26, type := 4, pos := "law.go:104", after := #[{ on := 0, ground := Ground.data }], guard := none }) (v := ?_) rfl (by kernel_rfl) (by kernel_rfl) (by kernel_rfl) (fun _ _ _ h => h) (Or.inl ⟨by rfl, ?_⟩) (by assumption) ?_
          rotate_left
          · intro w hSw
            (try dsimp only at hSw)
            go_simp
            (try with_reducible rfl)
          (try simp only [Act.put, List.setIfInBounds_toArray, List.set_cons_zero, List.set_cons_succ])
          refine wpAnyH_take (i := 2) (oi := { dst := some 198, op := Op.move (Operand.tmp 28), type := 4, pos := "law.go:104", after := #[], guard := none }) (v := ?_) rfl (by kernel_rfl) (by kernel_rfl) (by kernel_rfl) (fun _ _ _ h => h) (Or.inl ⟨by rfl, ?_⟩) (by assumption) ?_
          rotate_left
          · intro w hSw
            (try dsimp only at hSw)
            go_simp
            (try with_reducible rfl)
          (try simp only [Act.put, List.setIfInBounds_toArray, List.set_cons_zero, List.set_cons_succ])
          refine wpAnyH_take (i := 3) (oi := { dst := some 199, op := Op.binOp BinOp.eql 4 (Operand.tmp 197) (Operand.tmp 198) 4, type := 4, pos := "law.go:104", after := #[{ on := 1, ground := Ground.data }, { on := 2, ground := Ground.data }], guard := none }) (v := ?_) rfl (by kernel_rfl) (by kernel_rfl) (by kernel_rfl) (fun _ _ _ h => h) (Or.inl ⟨by rfl, ?_⟩) (by assumption) ?_
          rotate_left
          · intro w hSw
            (try dsimp only at hSw)
            go_simp
            (try with_reducible rfl)
          (try simp only [Act.put, List.setIfInBounds_toArray, List.set_cons_zero, List.set_cons_succ])
          refine wpAnyH_take (i := 4) (oi := { dst := some 200, op := Op.move (Operand.tmp 199), type := 4, pos := "law.go:104", after := #[{ on := 3, ground := Ground.data }], guard := none }) (v := ?_) rfl (by kernel_rfl) (by kernel_rfl) (by kernel_rfl) (fun _ _ _ h => h) (Or.inl ⟨by rfl, ?_⟩) (by assumption) ?_
          rotate_left
          · intro w hSw
            (try dsimp only at hSw)
            go_simp
            (try with_reducible rfl)
          (try simp only [Act.put, List.setIfInBounds_toArray, List.set_cons_zero, List.set_cons_succ])
          refine wpAnyH_take (i := 5) (oi := { dst := some 201, op := Op.move (Operand.tmp 28), type := 4, pos := "law.go:104", after := #[{ on := 4, ground := Ground.guard }], guard := some (4, true) }) (v := ?_) rfl (by kernel_rfl) (by kernel_rfl) (by kernel_rfl) (fun _ _ _ h => h) (Or.inl ⟨by rfl, ?_⟩) (by assumption) ?_
          rotate_left
          · intro w hSw
            (try dsimp only at hSw)
            go_simp
            (try with_reducible rfl)
          (try simp only [Act.put, List.setIfInBounds_toArray, List.set_cons_zero, List.set_cons_succ])
          refine wpAnyH_take (i := 6) (oi := { dst := some 202, op := Op.unOp UnOp.not 4 (Operand.tmp 201), type := 4, pos := "law.go:104", after := #[{ on := 5, ground := Ground.data }, { on := 4, ground := Ground.guard }], guard := some (4, true) }) (v := ?_) rfl (by kernel_rfl) (by kernel_rfl) (by kernel_rfl) (fun _ _ _ h => h) (Or.inl ⟨by rfl, ?_⟩) (by assumption) ?_
          rotate_left
          · intro w hSw
            (try dsimp only at hSw)
            go_simp
            (try with_reducible rfl)
          (try simp only [Act.put, List.setIfInBounds_toArray, List.set_cons_zero, List.set_cons_succ])
          refine wpAnyH_take (i := 7) (oi := { dst := some 203, op := Op.move (Operand.tmp 202), type := 4, pos := "law.go:104", after := #[{ on := 6, ground := Ground.data }, { on := 4, ground := Ground.chain }, { on := 4, ground := Ground.guard }], guard := some (4, true) }) (v := ?_) rfl (by kernel_rfl) (by kernel_rfl) (by kernel_rfl) (fun _ _ _ h => h) (Or.inl ⟨by rfl, ?_⟩) (by assumption) ?_
          rotate_left
          · intro w hSw
            (try dsimp only at hSw)
            go_simp
            (try with_reducible rfl)
          (try simp only [Act.put, List.setIfInBounds_toArray, List.set_cons_zero, List.set_cons_succ])
          refine wpAnyH_take (i := 8) (oi := { dst := some 204, op := Op.fieldAddr 79 (Operand.tmp 26) 2, type := 0, pos := "law.go:104", after := #[{ on := 7, ground := Ground.guard }], guard := some (7, false) }) (v := undef) rfl (by kernel_rfl) (by kernel_rfl) (by kernel_rfl) (fun _ _ _ h => h) (Or.inr ⟨by rfl, rfl⟩) (by assumption) ?_
          (try simp only [Act.put, List.setIfInBounds_toArray, List.set_cons_zero, List.set_cons_succ])
          refine wpAnyH_take (i := 9) (oi := { dst := some 205, op := Op.load 3 (Operand.tmp 204), type := 3, pos := "law.go:104", after := #[{ on := 8, ground := Ground.data }, { on := 7, ground := Ground.guard }], guard := some (7, false) }) (v := undef) rfl (by kernel_rfl) (by kernel_rfl) (by kernel_rfl) (fun _ _ _ h => h) (Or.inr ⟨by rfl, rfl⟩) (by assumption) ?_
          (try simp only [Act.put, List.setIfInBounds_toArray, List.set_cons_zero, List.set_cons_succ])
          refine wpAnyH_take (i := 10) (oi := { dst := some 206, op := Op.fieldAddr 75 (Operand.tmp 3) 1, type := 0, pos := "law.go:104", after := #[{ on := 7, ground := Ground.guard }], guard := some (7, false) }) (v := undef) rfl (by kernel_rfl) (by kernel_rfl) (by kernel_rfl) (fun _ _ _ h => h) (Or.inr ⟨by rfl, rfl⟩) (by assumption) ?_
          (try simp only [Act.put, List.setIfInBounds_toArray, List.set_cons_zero, List.set_cons_succ])
          refine wpAnyH_take (i := 11) (oi := { dst := some 207, op := Op.load 3 (Operand.tmp 206), type := 3, pos := "law.go:104", after := #[{ on := 10, ground := Ground.data }, { on := 7, ground := Ground.guard }], guard := some (7, false) }) (v := undef) rfl (by kernel_rfl) (by kernel_rfl) (by kernel_rfl) (fun _ _ _ h => h) (Or.inr ⟨by rfl, rfl⟩) (by assumption) ?_
          (try simp only [Act.put, List.setIfInBounds_toArray, List.set_cons_zero, List.set_cons_succ])
          refine wpAnyH_take (i := 12) (oi := { dst := some 208, op := Op.binOp BinOp.eql 3 (Operand.tmp 205) (Operand.tmp 207) 3, type := 4, pos := "law.go:104", after := #[{ on := 9, ground := Ground.data }, { on := 11, ground := Ground.data }, { on := 7, ground := Ground.guard }], guard := some (7, false) }) (v := undef) rfl (by kernel_rfl) (by kernel_rfl) (by kernel_rfl) (fun _ _ _ h => h) (Or.inr ⟨by rfl, rfl⟩) (by assumption) ?_
          (try simp only [Act.put, List.setIfInBounds_toArray, List.set_cons_zero, List.set_cons_succ])
          refine wpAnyH_take (i := 13) (oi := { dst := some 209, op := Op.pick (Operand.tmp 203) (Operand.const (Value.bool true)) (Operand.tmp 208), type := 4, pos := "law.go:104", after := #[{ on := 7, ground := Ground.data }, { on := 12, ground := Ground.data }, { on := 4, ground := Ground.guard }], guard := some (4, true) }) (v := ?_) rfl (by kernel_rfl) (by kernel_rfl) (by kernel_rfl) (fun _ _ _ h => h) (Or.inl ⟨by rfl, ?_⟩) (by assumption) ?_
          rotate_left
          · intro w hSw
            (try dsimp only at hSw)
            go_simp
            (try with_reducible rfl)
          (try simp only [Act.put, List.setIfInBounds_toArray, List.set_cons_zero, List.set_cons_succ])
          refine wpAnyH_take (i := 14) (oi := { dst := some 210, op := Op.pick (Operand.tmp 200) (Operand.tmp 209) (Operand.const (Value.bool false)), type := 4, pos := "law.go:104", after := #[{ on := 4, ground := Ground.data }, { on := 13, ground := Ground.data }], guard := none }) (v := ?_) rfl (by kernel_rfl) (by kernel_rfl) (by kernel_rfl) (fun _ _ _ h => h) (Or.inl ⟨by rfl, ?_⟩) (by assumption) ?_
          rotate_left
          · intro w hSw
            (try dsimp only at hSw)
            go_simp
            (try with_reducible rfl)
          (try simp only [Act.put, List.setIfInBounds_toArray, List.set_cons_zero, List.set_cons_succ])
          refine wpAnyH_take (i := 15) (oi := { dst := some 211, op := Op.move (Operand.tmp 210), type := 4, pos := "law.go:104", after := #[{ on := 14, ground := Ground.data }, { on := 7, ground := Ground.chain }], guard := none }) (v := ?_) rfl (by kernel_rfl) (by kernel_rfl) (by kernel_rfl) (fun _ _ _ h => h) (Or.inl ⟨by rfl, ?_⟩) (by assumption) ?_
          rotate_left
          · intro w hSw
            (try dsimp only at hSw)
            go_simp
            (try with_reducible rfl)
          (try simp only [Act.put, List.setIfInBounds_toArray, List.set_cons_zero, List.set_cons_succ])
          refine wpAnyH_take (i := 16) (oi := { dst := some 212, op := Op.move (Operand.tmp 28), type := 4, pos := "law.go:104", after := #[{ on := 15, ground := Ground.guard }], guard := some (15, true) }) (v := ?_) rfl (by kernel_rfl) (by kernel_rfl) (by kernel_rfl) (fun _ _ _ h => h) (Or.inl ⟨by rfl, ?_⟩) (by assumption) ?_
          rotate_left
          · intro w hSw
            (try dsimp only at hSw)
            go_simp
            (try with_reducible rfl)
          (try simp only [Act.put, List.setIfInBounds_toArray, List.set_cons_zero, List.set_cons_succ])
          refine wpAnyH_take (i := 17) (oi := { dst := some 213, op := Op.move (Operand.tmp 212), type := 4, pos := "law.go:104", after := #[{ on := 16, ground := Ground.data }, { on := 15, ground := Ground.chain }, { on := 15, ground := Ground.guard }], guard := some (15, true) }) (v := ?_) rfl (by kernel_rfl) (by kernel_rfl) (by kernel_rfl) (fun _ _ _ h => h) (Or.inl ⟨by rfl, ?_⟩) (by assumption) ?_
          rotate_left
          · intro w hSw
            (try dsimp only at hSw)
            go_simp
            (try with_reducible rfl)
          (try simp only [Act.put, List.setIfInBounds_toArray, List.set_cons_zero, List.set_cons_succ])
          refine wpAnyH_take (i := 18) (oi := { dst := some 214, op := Op.move (Operand.tmp 27), type := 26, pos := "law.go:104", after := #[{ on := 17, ground := Ground.guard }], guard := some (17, false) }) (v := ?_) rfl (by kernel_rfl) (by kernel_rfl) (by kernel_rfl) (fun _ _ _ h => h) (Or.inl ⟨by rfl, ?_⟩) (by assumption) ?_
          rotate_left
          · intro w hSw
            (try dsimp only at hSw)
            go_simp
            (try with_reducible rfl)
          (try simp only [Act.put, List.setIfInBounds_toArray, List.set_cons_zero, List.set_cons_succ])
          refine wpAnyH_ready (rs := [19]) (by kernel_rfl) (by simp) ?_
          refine AllReadyH.cons (o := { dst := some 215, op := Op.call { callee := Callee.value (Operand.func 53), args := #[Operand.tmp 214], argTypes := #[26] }, type := 3, pos := "law.go:104", after := #[{ on := 18, ground := Ground.data }, { on := 17, ground := Ground.chain }, { on := 17, ground := Ground.guard }], guard := some (17, false) }) rfl (fun K hK => ?_) AllReadyH.nil
          go_simp
          (refine (num_errv (k := 1) (ErrV.of (by decide)) _ Kd.out.1.handle).mono ?_; rintro e wz19 ⟨rfl, hbz19⟩; have Kz19 := Lib.hid (And.intro (Kd.out.1.step hbz19) (And.intro (Kd.out.2.1.later hbz19) (Kd.out.2.2.later hbz19))); clear hbz19 Kd; clear k0 k1 k2 k3 k4 k5 k6 k7 k8 k9 k10 k11 k12; have kz19_0 : wz19.cell? ⟨w13.heap.size, 0, none⟩ = some (.slice none 0 0) := Kz19.out.2.1.cell 0 0 rfl rfl; have kz19_1 : wz19.cell? ⟨w13.heap.size, 1, none⟩ = some (.int .u32 0) := Kz19.out.2.1.cell 0 1 rfl rfl; have kz19_2 : wz19.cell? ⟨w13.heap.size, 2, none⟩ = some (.int .i64 0) := Kz19.out.2.1.cell 0 2 rfl rfl; have kz19_3 : wz19.cell? ⟨w.heap.size + 1, 0, none⟩ = some (.slice xa la ca) := Kz19.out.2.1.cell 12 0 rfl rfl; have kz19_4 : wz19.cell? ⟨w.heap.size + 1, 1, none⟩ = some (.int .i64 ja) := Kz19.out.2.1.cell 12 1 rfl rfl; have kz19_5 : wz19.cell? ⟨w.heap.size + 1, 2, none⟩ = some (.int .u32 (na : Int)) := Kz19.out.2.1.cell 12 2 rfl rfl; have kz19_6 : wz19.cell? ⟨w.heap.size + 1, 3, none⟩ = some (.int .u64 (ta : Int)) := Kz19.out.2.1.cell 12 3 rfl rfl; have kz19_7 : wz19.cell? ⟨w2.heap.size, 0, none⟩ = some (.slice ox n cx) := Kz19.out.2.1.cell 11 0 rfl rfl; have kz19_8 : wz19.cell? ⟨w2.heap.size, 1, none⟩ = some (.int .u32 (last : Int)) := Kz19.out.2.1.cell 11 1 rfl rfl; have kz19_9 : wz19.cell? ⟨w2.heap.size, 2, none⟩ = some (.int .i64 max) := Kz19.out.2.1.cell 11 2 rfl rfl; have kz19_10 : wz19.cell? ⟨w.heap.size, 0, none⟩ = some (.slice oa n cp) := Kz19.out.2.1.cell 13 0 rfl rfl; have kz19_11 : wz19.cell? ⟨w.heap.size, 1, none⟩ = some (.int .u32 (last : Int)) := Kz19.out.2.1.cell 13 1 rfl rfl; have kz19_12 : wz19.cell? ⟨w.heap.size, 2, none⟩ = some (.int .i64 max) := Kz19.out.2.1.cell 13 2 rfl rfl; skip)
          (try go_wp2_with fail)
          refine hK.out _ _ ?_ (fun hHeld => ?_)
          · (try dsimp only)
            go_keep
          clear hK K
          (try simp only [Act.put, List.setIfInBounds_toArray, List.set_cons_zero, List.set_cons_succ])
          refine wpAnyH_take (i := 20) (oi := { dst := some 216, op := Op.binOp BinOp.eql 3 (Operand.tmp 215) (Operand.const (Value.int IntKind.i64 1)) 3, type := 4, pos := "law.go:104", after := #[{ on := 19, ground := Ground.data }, { on := 17, ground := Ground.guard }], guard := some (17, false) }) (v := ?_) rfl (by kernel_rfl) (by kernel_rfl) (by kernel_rfl) (fun _ _ _ h => h) (Or.inl ⟨by rfl, ?_⟩) (by assumption) ?_
          rotate_left
          · intro w hSw
            (try dsimp only at hSw)
            go_simp
            (try with_reducible rfl)
          (try simp only [Act.put, List.setIfInBounds_toArray, List.set_cons_zero, List.set_cons_succ])
          refine wpAnyH_take (i := 21) (oi := { dst := some 217, op := Op.pick (Operand.tmp 213) (Operand.const (Value.bool true)) (Operand.tmp 216), type := 4, pos := "law.go:104", after := #[{ on := 17, ground := Ground.data }, { on := 20, ground := Ground.data }, { on := 15, ground := Ground.guard }], guard := some (15, true) }) (v := ?_) rfl (by kernel_rfl) (by kernel_rfl) (by kernel_rfl) (fun _ _ _ h => h) (Or.inl ⟨by rfl, ?_⟩) (by assumption) ?_
          rotate_left
          · intro w hSw
            (try dsimp only at hSw)
            go_simp
            (try with_reducible rfl)
          (try simp only [Act.put, List.setIfInBounds_toArray, List.set_cons_zero, List.set_cons_succ])
          refine wpAnyH_take (i := 22) (oi := { dst := some 218, op := Op.pick (Operand.tmp 211) (Operand.tmp 217) (Operand.const (Value.bool false)), type := 4, pos := "law.go:104", after := #[{ on := 15, ground := Ground.data }, { on := 21, ground := Ground.data }], guard := none }) (v := ?_) rfl (by kernel_rfl) (by kernel_rfl) (by kernel_rfl) (fun _ _ _ h => h) (Or.inl ⟨by rfl, ?_⟩) (by assumption) ?_
          rotate_left
          · intro w hSw
            (try dsimp only at hSw)
            go_simp
            (try with_reducible rfl)
          (try simp only [Act.put, List.setIfInBounds_toArray, List.set_cons_zero, List.set_cons_succ])
          refine wpAnyH_take (i := 23) (oi := { dst := some 219, op := Op.move (Operand.tmp 218), type := 4, pos := "law.go:104", after := #[{ on := 22, ground := Ground.data }, { on := 19, ground := Ground.chain }], guard := none }) (v := ?_) rfl (by kernel_rfl) (by kernel_rfl) (by kernel_rfl) (fun _ _ _ h => h) (Or.inl ⟨by rfl, ?_⟩) (by assumption) ?_
          rotate_left
          · intro w hSw
            (try dsimp only at hSw)
            go_simp
            (try with_reducible rfl)
          (try simp only [Act.put, List.setIfInBounds_toArray, List.set_cons_zero, List.set_cons_succ])
          refine wpAnyH_take (i := 24) (oi := { dst := some 220, op := Op.fieldAddr 79 (Operand.tmp 26) 0, type := 0, pos := "law.go:104", after := #[{ on := 23, ground := Ground.guard }], guard := some (23, true) }) (v := ?_) rfl (by kernel_rfl) (by kernel_rfl) (by kernel_rfl) (fun _ _ _ h => h) (Or.inl ⟨by rfl, ?_⟩) (by assumption) ?_
          rotate_left
          · intro w hSw
            (try dsimp only at hSw)
            go_simp
            (try with_reducible rfl)
          (try simp only [Act.put, List.setIfInBounds_toArray, List.set_cons_zero, List.set_cons_succ])
          refine wpAnyH_take (i := 25) (oi := { dst := some 221, op := Op.load 77 (Operand.tmp 220), type := 77, pos := "law.go:104", after := #[{ on := 24, ground := Ground.data }, { on := 23, ground := Ground.guard }], guard := some (23, true) }) (v := ?_) rfl (by kernel_rfl) (by kernel_rfl) (by kernel_rfl) (fun _ _ _ h => h) (Or.inl ⟨by rfl, ?_⟩) (by assumption) ?_
          rotate_left
          · intro w hSw
            (try dsimp only at hSw)
            go_simp
            (try with_reducible rfl)
          (try simp only [Act.put, List.setIfInBounds_toArray, List.set_cons_zero, List.set_cons_succ])
          refine wpAnyH_take (i := 26) (oi := { dst := some 222, op := Op.call { callee := Callee.builtin Builtin.len, args := #[Operand.tmp 221], argTypes := #[77] }, type := 3, pos := "law.go:104", after := #[{ on := 25, ground := Ground.data }, { on := 23, ground := Ground.guard }], guard := some (23, true) }) (v := ?_) rfl (by kernel_rfl) (by kernel_rfl) (by kernel_rfl) (fun _ _ _ h => h) (Or.inl ⟨by rfl, ?_⟩) (by assumption) ?_
          rotate_left
          · intro w hSw
            (try dsimp only at hSw)
            go_simp
            (try with_reducible rfl)
          (try simp only [Act.put, List.setIfInBounds_toArray, List.set_cons_zero, List.set_cons_succ])
          refine wpAnyH_take (i := 27) (oi := { dst := some 223, op := Op.binOp BinOp.eql 3 (Operand.tmp 222) (Operand.const (Value.int IntKind.i64 0)) 3, type := 4, pos := "law.go:104", after := #[{ on := 26, ground := Ground.data }, { on := 23, ground := Ground.guard }], guard := some (23, true) }) (v := ?_) rfl (by kernel_rfl) (by kernel_rfl) (by kernel_rfl) (fun _ _ _ h => h) (Or.inl ⟨by rfl, ?_⟩) (by assumption) ?_
          rotate_left
          · intro w hSw
            (try dsimp only at hSw)
            go_simp
            (try with_reducible rfl)
          (try simp only [Act.put, List.setIfInBounds_toArray, List.set_cons_zero, List.set_cons_succ])
          refine wpAnyH_take (i := 28) (oi := { dst := some 224, op := Op.pick (Operand.tmp 219) (Operand.tmp 223) (Operand.const (Value.bool false)), type := 4, pos := "law.go:104", after := #[{ on := 23, ground := Ground.data }, { on := 27, ground := Ground.data }], guard := none }) (v := ?_) rfl (by kernel_rfl) (by kernel_rfl) (by kernel_rfl) (fun _ _ _ h => h) (Or.inl ⟨by rfl, ?_⟩) (by assumption) ?_
          rotate_left
          · intro w hSw
            (try dsimp only at hSw)
            go_simp
            (try with_reducible rfl)
          (try simp only [Act.put, List.setIfInBounds_toArray, List.set_cons_zero, List.set_cons_succ])
          refine wpAnyH_take (i := 29) (oi := { dst := some 225, op := Op.move (Operand.tmp 224), type := 4, pos := "law.go:104", after := #[{ on := 28, ground := Ground.data }, { on := 23, ground := Ground.chain }], guard := none }) (v := ?_) rfl (by kernel_rfl) (by kernel_rfl) (by kernel_rfl) (fun _ _ _ h => h) (Or.inl ⟨by rfl, ?_⟩) (by assumption) ?_
          rotate_left
          · intro w hSw
            (try dsimp only at hSw)
            go_simp
            (try with_reducible rfl)
          (try simp only [Act.put, List.setIfInBounds_toArray, List.set_cons_zero, List.set_cons_succ])
          refine wpAnyH_take (i := 30) (oi := { dst := some 226, op := Op.load 79 (Operand.tmp 5), type := 79, pos := "law.go:104", after := #[{ on := 29, ground := Ground.guard }], guard := some (29, true) }) (v := ?_) rfl (by kernel_rfl) (by kernel_rfl) (by kernel_rfl) (fun _ _ _ h => h) (Or.inl ⟨by rfl, ?_⟩) (by assumption) ?_
          rotate_left
          · intro w hSw
            (try dsimp only at hSw)
            go_simp
            (try with_reducible rfl)
          (try simp only [Act.put, List.setIfInBounds_toArray, List.set_cons_zero, List.set_cons_succ])
          refine wpAnyH_take (i := 33) (oi := { dst := some 229, op := Op.load 73 (Operand.tmp 2), type := 73, pos := "law.go:104", after := #[{ on := 29, ground := Ground.guard }], guard := some (29, true) }) (v := ?_) rfl (by kernel_rfl) (by kernel_rfl) (by kernel_rfl) (fun _ _ _ h => h) (Or.inl ⟨by rfl, ?_⟩) (by assumption) ?_
          rotate_left
          · intro w hSw
            (try dsimp only at hSw)
            go_simp
            (try with_reducible rfl)
          (try simp only [Act.put, List.setIfInBounds_toArray, List.set_cons_zero, List.set_cons_succ])
          refine wpAnyH_ready (rs := [31]) (by kernel_rfl) (by simp) ?_
          refine AllReadyH.cons (o := { dst := some 227, op := Op.call { callee := Callee.value (Operand.func 55), args := #[Operand.tmp 226], argTypes := #[79] }, type := 26, pos := "law.go:104", after := #[{ on := 30, ground := Ground.data }, { on := 29, ground := Ground.chain }, { on := 29, ground := Ground.guard }], guard := some (29, true) }) rfl (fun K hK => ?_) AllReadyH.nil
          go_simp
          (refine (check_bad ox n cx last max V _ HN.out HLs.out Kz19.out.2.2 HS.out).mono ?_; rintro e wz31 ⟨rfl, hbz31⟩; have Kz31 := Lib.hid (And.intro (Kz19.out.1.step hbz31) (And.intro (Kz19.out.2.1.later hbz31) (Kz19.out.2.2.later hbz31))); clear hbz31 Kz19; clear kz19_0 kz19_1 kz19_2 kz19_3 kz19_4 kz19_5 kz19_6 kz19_7 kz19_8 kz19_9 kz19_10 kz19_11 kz19_12; have kz31_0 : wz31.cell? ⟨w13.heap.size, 0, none⟩ = some (.slice none 0 0) := Kz31.out.2.1.cell 0 0 rfl rfl; have kz31_1 : wz31.cell? ⟨w13.heap.size, 1, none⟩ = some (.int .u32 0) := Kz31.out.2.1.cell 0 1 rfl rfl; have kz31_2 : wz31.cell? ⟨w13.heap.size, 2, none⟩ = some (.int .i64 0) := Kz31.out.2.1.cell 0 2 rfl rfl; have kz31_3 : wz31.cell? ⟨w.heap.size + 1, 0, none⟩ = some (.slice xa la ca) := Kz31.out.2.1.cell 12 0 rfl rfl; have kz31_4 : wz31.cell? ⟨w.heap.size + 1, 1, none⟩ = some (.int .i64 ja) := Kz31.out.2.1.cell 12 1 rfl rfl; have kz31_5 : wz31.cell? ⟨w.heap.size + 1, 2, none⟩ = some (.int .u32 (na : Int)) := Kz31.out.2.1.cell 12 2 rfl rfl; have kz31_6 : wz31.cell? ⟨w.heap.size + 1, 3, none⟩ = some (.int .u64 (ta : Int)) := Kz31.out.2.1.cell 12 3 rfl rfl; have kz31_7 : wz31.cell? ⟨w2.heap.size, 0, none⟩ = some (.slice ox n cx) := Kz31.out.2.1.cell 11 0 rfl rfl; have kz31_8 : wz31.cell? ⟨w2.heap.size, 1, none⟩ = some (.int .u32 (last : Int)) := Kz31.out.2.1.cell 11 1 rfl rfl; have kz31_9 : wz31.cell? ⟨w2.heap.size, 2, none⟩ = some (.int .i64 max) := Kz31.out.2.1.cell 11 2 rfl rfl; have kz31_10 : wz31.cell? ⟨w.heap.size, 0, none⟩ = some (.slice oa n cp) := Kz31.out.2.1.cell 13 0 rfl rfl; have kz31_11 : wz31.cell? ⟨w.heap.size, 1, none⟩ = some (.int .u32 (last : Int)) := Kz31.out.2.1.cell 13 1 rfl rfl; have kz31_12 : wz31.cell? ⟨w.heap.size, 2, none⟩ = some (.int .i64 max) := Kz31.out.2.1.cell 13 2 rfl rfl; skip)
          (try go_wp2_with fail)
          refine hK.out _ _ ?_ (fun hHeld => ?_)
          · (try dsimp only)
            go_keep
          clear hK K
          (try simp only [Act.put, List.setIfInBounds_toArray, List.set_cons_zero, List.set_cons_succ])
          refine wpAnyH_take (i := 32) (oi := { dst := some 228, op := Op.binOp BinOp.eql 26 (Operand.tmp 227) (Operand.const Value.nilIface) 26, type := 4, pos := "law.go:104", after := #[{ on := 31, ground := Ground.data }, { on := 29, ground := Ground.guard }], guard := some (29, true) }) (v := ?_) rfl (by kernel_rfl) (by kernel_rfl) (by kernel_rfl) (fun _ _ _ h => h) (Or.inl ⟨by rfl, ?_⟩) (by assumption) ?_
          rotate_left
          · intro w hSw
            (try dsimp only at hSw)
            go_simp
            (try with_reducible rfl)
          (try simp only [Act.put, List.setIfInBounds_toArray, List.set_cons_zero, List.set_cons_succ])
          refine wpAnyH_ready (rs := [34]) (by kernel_rfl) (by simp) ?_
          refine AllReadyH.cons (o := { dst := some 230, op := Op.call { callee := Callee.value (Operand.func 56), args := #[Operand.tmp 229], argTypes := #[73] }, type := 4, pos := "law.go:104", after := #[{ on := 33, ground := Ground.data }, { on := 31, ground := Ground.chain }, { on := 29, ground := Ground.guard }], guard := some (29, true) }) rfl (fun K hK => ?_) AllReadyH.nil
          go_simp
          (refine (rmay_no' oa n cp last max V _ HN.out HLs.out (HV.out.later Kz31.out.1.bel) HM.out HS.out).mono ?_; rintro e wz34 ⟨rfl, hbz34⟩; have Kz34 := Lib.hid (And.intro (Kz31.out.1.step hbz34) (And.intro (Kz31.out.2.1.later hbz34) (Kz31.out.2.2.later hbz34))); clear hbz34 Kz31; clear kz31_0 kz31_1 kz31_2 kz31_3 kz31_4 kz31_5 kz31_6 kz31_7 kz31_8 kz31_9 kz31_10 kz31_11 kz31_12; have kz34_0 : wz34.cell? ⟨w13.heap.size, 0, none⟩ = some (.slice none 0 0) := Kz34.out.2.1.cell 0 0 rfl rfl; have kz34_1 : wz34.cell? ⟨w13.heap.size, 1, none⟩ = some (.int .u32 0) := Kz34.out.2.1.cell 0 1 rfl rfl; have kz34_2 : wz34.cell? ⟨w13.heap.size, 2, none⟩ = some (.int .i64 0) := Kz34.out.2.1.cell 0 2 rfl rfl; have kz34_3 : wz34.cell? ⟨w.heap.size + 1, 0, none⟩ = some (.slice xa la ca) := Kz34.out.2.1.cell 12 0 rfl rfl; have kz34_4 : wz34.cell? ⟨w.heap.size + 1, 1, none⟩ = some (.int .i64 ja) := Kz34.out.2.1.cell 12 1 rfl rfl; have kz34_5 : wz34.cell? ⟨w.heap.size + 1, 2, none⟩ = some (.int .u32 (na : Int)) := Kz34.out.2.1.cell 12 2 rfl rfl; have kz34_6 : wz34.cell? ⟨w.heap.size + 1, 3, none⟩ = some (.int .u64 (ta : Int)) := Kz34.out.2.1.cell 12 3 rfl rfl; have kz34_7 : wz34.cell? ⟨w2.heap.size, 0, none⟩ = some (.slice ox n cx) := Kz34.out.2.1.cell 11 0 rfl rfl; have kz34_8 : wz34.cell? ⟨w2.heap.size, 1, none⟩ = some (.int .u32 (last : Int)) := Kz34.out.2.1.cell 11 1 rfl rfl; have kz34_9 : wz34.cell? ⟨w2.heap.size, 2, none⟩ = some (.int .i64 max) := Kz34.out.2.1.cell 11 2 rfl rfl; have kz34_10 : wz34.cell? ⟨w.heap.size, 0, none⟩ = some (.slice oa n cp) := Kz34.out.2.1.cell 13 0 rfl rfl; have kz34_11 : wz34.cell? ⟨w.heap.size, 1, none⟩ = some (.int .u32 (last : Int)) := Kz34.out.2.1.cell 13 1 rfl rfl; have kz34_12 : wz34.cell? ⟨w.heap.size, 2, none⟩ = some (.int .i64 max) := Kz34.out.2.1.cell 13 2 rfl rfl; skip)
          (try go_wp2_with fail)
          refine hK.out _ _ ?_ (fun hHeld => ?_)
          · (try dsimp only)
            go_keep
          clear hK K
          (try simp only [Act.put, List.setIfInBounds_toArray, List.set_cons_zero, List.set_cons_succ])
          refine wpAnyH_take (i := 35) (oi := { dst := some 231, op := Op.binOp BinOp.eql 4 (Operand.tmp 228) (Operand.tmp 230) 4, type := 4, pos := "law.go:104", after := #[{ on := 32, ground := Ground.data }, { on := 34, ground := Ground.data }, { on := 29, ground := Ground.guard }], guard := some (29, true) }) (v := ?_) rfl (by kernel_rfl) (by kernel_rfl) (by kernel_rfl) (fun _ _ _ h => h) (Or.inl ⟨by rfl, ?_⟩) (by assumption) ?_
          rotate_left
          · intro w hSw
            (try dsimp only at hSw)
            go_simp
            (try with_reducible rfl)
          (try simp only [Act.put, List.setIfInBounds_toArray, List.set_cons_zero, List.set_cons_succ])
          refine wpAnyH_take (i := 36) (oi := { dst := some 232, op := Op.pick (Operand.tmp 225) (Operand.tmp 231) (Operand.const (Value.bool false)), type := 4, pos := "law.go:104", after := #[{ on := 29, ground := Ground.data }, { on := 35, ground := Ground.data }], guard := none }) (v := ?_) rfl (by kernel_rfl) (by kernel_rfl) (by kernel_rfl) (fun _ _ _ h => h) (Or.inl ⟨by rfl, ?_⟩) (by assumption) ?_
          rotate_left
          · intro w hSw
            (try dsimp only at hSw)
            go_simp
            (try with_reducible rfl)
          (try simp only [Act.put, List.setIfInBounds_toArray, List.set_cons_zero, List.set_cons_succ])
          refine wpAnyH_take (i := 37) (oi := { dst := some 233, op := Op.move (Operand.tmp 232), type := 4, pos := "law.go:104", after := #[{ on := 36, ground := Ground.data }, { on := 34, ground := Ground.chain }], guard := none }) (v := ?_) rfl (by kernel_rfl) (by kernel_rfl) (by kernel_rfl) (fun _ _ _ h => h) (Or.inl ⟨by rfl, ?_⟩) (by assumption) ?_
          rotate_left
          · intro w hSw
            (try dsimp only at hSw)
            go_simp
            (try with_reducible rfl)
          (try simp only [Act.put, List.setIfInBounds_toArray, List.set_cons_zero, List.set_cons_succ])
          refine wpAnyH_ready (rs := [38]) (by kernel_rfl) (by simp) ?_
          refine AllReadyH.cons (o := { dst := some 234, op := Op.call { callee := Callee.value (Operand.func 41), args := #[], argTypes := #[] }, type := 4, pos := "law.go:104", after := #[{ on := 37, ground := Ground.chain }, { on := 37, ground := Ground.guard }], guard := some (37, true) }) rfl (fun K hK => ?_) AllReadyH.nil
          go_simp
          (refine (sure30_any _ Kz34.out.1.handle).mono ?_; rintro e wz38 ⟨rfl, hbz38⟩; have Kz38 := Lib.hid (And.intro (Kz34.out.1.step hbz38) (And.intro (Kz34.out.2.1.later hbz38) (Kz34.out.2.2.later hbz38))); clear hbz38 Kz34; clear kz34_0 kz34_1 kz34_2 kz34_3 kz34_4 kz34_5 kz34_6 kz34_7 kz34_8 kz34_9 kz34_10 kz34_11 kz34_12; have kz38_0 : wz38.cell? ⟨w13.heap.size, 0, none⟩ = some (.slice none 0 0) := Kz38.out.2.1.cell 0 0 rfl rfl; have kz38_1 : wz38.cell? ⟨w13.heap.size, 1, none⟩ = some (.int .u32 0) := Kz38.out.2.1.cell 0 1 rfl rfl; have kz38_2 : wz38.cell? ⟨w13.heap.size, 2, none⟩ = some (.int .i64 0) := Kz38.out.2.1.cell 0 2 rfl rfl; have kz38_3 : wz38.cell? ⟨w.heap.size + 1, 0, none⟩ = some (.slice xa la ca) := Kz38.out.2.1.cell 12 0 rfl rfl; have kz38_4 : wz38.cell? ⟨w.heap.size + 1, 1, none⟩ = some (.int .i64 ja) := Kz38.out.2.1.cell 12 1 rfl rfl; have kz38_5 : wz38.cell? ⟨w.heap.size + 1, 2, none⟩ = some (.int .u32 (na : Int)) := Kz38.out.2.1.cell 12 2 rfl rfl; have kz38_6 : wz38.cell? ⟨w.heap.size + 1, 3, none⟩ = some (.int .u64 (ta : Int)) := Kz38.out.2.1.cell 12 3 rfl rfl; have kz38_7 : wz38.cell? ⟨w2.heap.size, 0, none⟩ = some (.slice ox n cx) := Kz38.out.2.1.cell 11 0 rfl rfl; have kz38_8 : wz38.cell? ⟨w2.heap.size, 1, none⟩ = some (.int .u32 (last : Int)) := Kz38.out.2.1.cell 11 1 rfl rfl; have kz38_9 : wz38.cell? ⟨w2.heap.size, 2, none⟩ = some (.int .i64 max) := Kz38.out.2.1.cell 11 2 rfl rfl; have kz38_10 : wz38.cell? ⟨w.heap.size, 0, none⟩ = some (.slice oa n cp) := Kz38.out.2.1.cell 13 0 rfl rfl; have kz38_11 : wz38.cell? ⟨w.heap.size, 1, none⟩ = some (.int .u32 (last : Int)) := Kz38.out.2.1.cell 13 1 rfl rfl; have kz38_12 : wz38.cell? ⟨w.heap.size, 2, none⟩ = some (.int .i64 max) := Kz38.out.2.1.cell 13 2 rfl rfl; skip)
          (try go_wp2_with fail)
          refine hK.out _ _ ?_ (fun hHeld => ?_)
          · (try dsimp only)
            go_keep
          clear hK K
          (try simp only [Act.put, List.setIfInBounds_toArray, List.set_cons_zero, List.set_cons_succ])
          refine wpAnyH_take (i := 39) (oi := { dst := some 235, op := Op.pick (Operand.tmp 233) (Operand.tmp 234) (Operand.const (Value.bool false)), type := 4, pos := "law.go:104", after := #[{ on := 37, ground := Ground.data }, { on := 38, ground := Ground.data }], guard := none }) (v := ?_) rfl (by kernel_rfl) (by kernel_rfl) (by kernel_rfl) (fun _ _ _ h => h) (Or.inl ⟨by rfl, ?_⟩) (by assumption) ?_
          rotate_left
          · intro w hSw
            (try dsimp only at hSw)
            go_simp
            (try with_reducible rfl)
          (try simp only [Act.put, List.setIfInBounds_toArray, List.set_cons_zero, List.set_cons_succ])
          refine wpAnyH_take (i := 40) (oi := { dst := some 4, op := Op.assign (Operand.tmp 235), type := 4, pos := "law.go:104", after := _, guard := none }) (v := ?_) rfl (by kernel_rfl) (by kernel_rfl) (by kernel_rfl) (fun _ _ _ h => h) (Or.inl ⟨by rfl, ?_⟩) (by assumption) ?_
          rotate_left
          · intro w hSw
            (try dsimp only at hSw)
            go_simp
            (try with_reducible rfl)
          (try simp only [Act.put, List.setIfInBounds_toArray, List.set_cons_zero, List.set_cons_succ])
          refine wpAnyH_done (by kernel_rfl) ?_ _
          go_wp2_with fail
          go_ret
          exact ⟨rfl, Kz38.out.1.bel⟩
  · go_wp2_with fail
    refine (sure30_any _ HR1.out.handle).mono ?_
    rintro e w2 ⟨rfl, hb2⟩
    go_wp2_with fail
    go_ret
    exact ⟨rfl, (HR1.out.step hb2).bel⟩
end Go.Proofs.YtkaddilgegimjaaDoor
