/- What layer 30's laws ask of whatever input. -/
import Derived.Test.YtkaddilgegimjaaDoorEn8
import Derived.Test.YtkaddilgegimjaaDoorEn9
import Derived.Test.YtkaddilgegimjaaDoorNum30
namespace Go.Proofs.YtkaddilgegimjaaDoor
set_option linter.unusedVariables false
set_option linter.unusedSimpArgs false
open Go.RowKit

theorem set_sec {n last : Nat} {max : Int} {V : Nat → Ver} {i : Nat} {st : Int} (h : SecOk n last max V) (h0 : 0 ≤ st) (h2 : st < 2) : SecOk n last max (setV V i st) := by
  refine ⟨h.1, fun q hq => ?_⟩
  have h3 := h.2 q hq
  unfold setV
  by_cases e : q = i
  · subst e
    rw [if_pos rfl]
    exact ⟨h3.1, h3.2.1, h0, by show st ≤ 2; omega, fun e => by have : st = 2 := e; omega⟩
  · rw [if_neg e]; exact h3
theorem one_bytes {w : World} {x g : Nat} (hx : x < 256) (hg : g = w.heap.size) : Bytes (w.alloc (.cells #[.int .u8 (x : Int)] 5 (1, 2))) (some ⟨g, 0, none⟩) 1 (fun _ => x) := fun k hk => ⟨hx, g, 0, rfl, by
  subst hg
  obtain rfl : k = 0 := by omega
  exact World.cell?_alloc_mark w #[.int .u8 (x : Int)] 5 (1, 2) 0⟩
theorem kc {w : World} {x g : Nat} (hg : g = w.heap.size) : (convert 31 31 (.slice (some ⟨g, 0, none⟩) 1 1)).run Tryd.prog (w.alloc (.cells #[.int .u8 (x : Int)] 5)) = .ok (.slice (some ⟨g, 0, none⟩) 1 1) (w.alloc (.cells #[.int .u8 (x : Int)] 5 (1, 2))) :=
  Joins.run_convert_bytes_const_at w 31 5 #[.int .u8 (x : Int)] 1 1 g hg Tryd.underlying31 Tryd.underlying5
theorem seek_zero (l : Nat) : seek l 0 = l := if_pos rfl
theorem seek_pos {l q : Nat} (h : q ≠ 0) : seek l q = q := if_neg h
theorem putV_lt {V : Nat → Ver} {s m i : Nat} {x : Ver} (h : i ≠ m) : putV V s m x i = V (i + s) := if_neg h
set_option maxRecDepth 100000 in
set_option maxHeartbeats 8000000 in
theorem sure30_any (w : World) (h : Handle w) :
    Calls Tryd.prog 41 #[] w fun e w' => e = .returned (.bool true) ∧ Below w.heap.size w w' := by
  obtain ⟨V0, hV0⟩ : ∃ V : Nat → Ver, V = fun _ => ⟨0, 0, fun _ => 0, 0, 0⟩ := ⟨_, rfl⟩
  have S0 : SecOk 0 0 2 V0 := ⟨⟨by decide, by decide, by decide, ⟨fun _ => rfl, fun _ => rfl⟩, Nat.le_refl _⟩, fun i hi => absurd hi (Nat.not_lt_zero _)⟩
  have P1 := put_sec (dl := 1) (df := fun _ => 97) (now := 1) S0 (by decide)
  rw [show putN 0 2 = 1 from rfl, show fromN 0 2 = 0 from rfl] at P1
  obtain ⟨V1, hV1⟩ : ∃ V, putV V0 0 (1 - 1) ⟨0 + 1, 1, fun _ => 97, 1, 0⟩ = V := ⟨_, rfl⟩
  rw [hV1] at P1
  have P2 := put_sec (dl := 1) (df := fun _ => 98) (now := 2) P1 (by decide)
  rw [show putN 1 2 = 2 from rfl, show fromN 1 2 = 0 from rfl] at P2
  obtain ⟨V2, hV2⟩ : ∃ V, putV V1 0 (2 - 1) ⟨0 + 1 + 1, 1, fun _ => 98, 2, 0⟩ = V := ⟨_, rfl⟩
  rw [hV2] at P2
  have P3 := put_sec (dl := 1) (df := fun _ => 99) (now := 3) P2 (by decide)
  rw [show putN 2 2 = 2 from rfl, show fromN 2 2 = 1 from rfl] at P3
  obtain ⟨V3, hV3⟩ : ∃ V, putV V2 1 (2 - 1) ⟨0 + 1 + 1 + 1, 1, fun _ => 99, 3, 0⟩ = V := ⟨_, rfl⟩
  rw [hV3] at P3
  have e30 : V3 0 = ⟨2, 1, fun _ => 98, 2, 0⟩ := by rw [← hV3, putV_lt (by decide), ← hV2]; rfl
  have e31 : V3 1 = ⟨3, 1, fun _ => 99, 3, 0⟩ := by rw [← hV3]; rfl
  have P4 := set_sec (i := 1) (st := 1) P3 (by decide) (by decide)
  have e41 : setV V3 1 1 1 = ⟨3, 1, fun _ => 99, 3, 1⟩ := by unfold setV; rw [if_pos rfl, e31]
  have HS0 := Lib.hid S0
  have HP1 := Lib.hid P1
  have HP2 := Lib.hid P2
  have HP3 := Lib.hid P3
  have HP4 := Lib.hid P4
  have HE0 := Lib.hid e30
  have HE1 := Lib.hid e31
  have HE4 := Lib.hid e41
  have HV1 := Lib.hid hV1
  have HV2 := Lib.hid hV2
  have HV3 := Lib.hid hV3
  have H7 := Lib.hid (show 97 < 256 ∧ 98 < 256 ∧ 99 < 256 from ⟨by decide, by decide, by decide⟩)
  have HM := Lib.hid (show ∀ n, n ≤ 10 → n ≤ maxLen from fun n hn => by unfold maxLen; omega)
  clear S0 P1 P2 P3 P4 e30 e31 e41 hV0 hV1 hV2 hV3
  go_enter Tryd.func41, Tryd.ntmps41
  go_wp2_with fail
  refine (new2_ok _).mono ?_
  rintro e w1 ⟨rfl, hb1⟩
  have HT0 := Lib.hid hb1.size
  have N1 := (Wn.step (Wn.new h) hb1).alloc (.cells #[.slice none 0 0, .int .u32 0, .int .i64 2] 79)
  have F1 := (Fr.nil w1).new #[.slice none 0 0, .int .u32 0, .int .i64 2] 79
  have B1 : Bytes ((w1.alloc (.cells #[.slice none 0 0, .int .u32 0, .int .i64 2] 79)).alloc (.cells #[.int .u8 97] 5 (1, 2))) (some ⟨w1.heap.size + 1, 0, none⟩) 1 (fun _ => 97) := one_bytes (x := 97) (by decide) (by simp)
  have k1 : (convert 31 31 (.slice (some ⟨w1.heap.size + 1, 0, none⟩) 1 1)).run Tryd.prog ((w1.alloc (.cells #[.slice none 0 0, .int .u32 0, .int .i64 2] 79)).alloc (.cells #[.int .u8 97] 5)) = .ok (.slice (some ⟨w1.heap.size + 1, 0, none⟩) 1 1) ((w1.alloc (.cells #[.slice none 0 0, .int .u32 0, .int .i64 2] 79)).alloc (.cells #[.int .u8 97] 5 (1, 2))) := kc (x := 97) (by simp)
  have F1b := F1.alloc (.cells #[.int .u8 97] 5 (1, 2))
  have N1b := N1.alloc (.cells #[.int .u8 97] 5 (1, 2))
  have HB1 := Lib.hid B1
  clear hb1 F1 N1 B1
  go_wp2_with fail
  refine (put_ok none 0 0 0 2 V0 _ (HM.out _ (by decide)) (by decide) (fun i hi => absurd hi (Nat.not_lt_zero _)) (Nat.le_refl _) _ 1 1 (fun _ => 97) 0 1 HS0.out (by decide) (.inr rfl) HB1.out (fun e => by cases e)).mono ?_
  rintro e w2 ⟨v2, rfl, hG2, hb2⟩
  rw [show ((0 + 1 : Nat) : Int) = 1 from rfl]
  have hG2' : GV w2 _ v2 1 V1 := HV1.out ▸ hG2
  obtain ⟨o2, c2, rfl, hc2, hm2⟩ := hG2'.slice
  have N2 := N1b.step hb2
  have T0 := Lib.hid (show w.heap.size ≤ w1.heap.size from HT0.out)
  have X2 := (F1b.later hb2).blk 0 rfl
  have s20 : w2.cell? ⟨w1.heap.size, 0, none⟩ = some (.slice none 0 0) := Blk.cell X2 0
  have z20 : w2.frozen? ⟨w1.heap.size, 0, none⟩ = false := Blk.free X2 0
  have s21 : w2.cell? ⟨w1.heap.size, 1, none⟩ = some (.int .u32 0) := Blk.cell X2 1
  have z21 : w2.frozen? ⟨w1.heap.size, 1, none⟩ = false := Blk.free X2 1
  have s22 : w2.cell? ⟨w1.heap.size, 2, none⟩ = some (.int .i64 2) := Blk.cell X2 2
  have z22 : w2.frozen? ⟨w1.heap.size, 2, none⟩ = false := Blk.free X2 2
  have Y2 : Blk (((w2.setCell ⟨w1.heap.size, 0, none⟩ (.slice o2 1 c2)).setCell ⟨w1.heap.size, 1, none⟩ (.int .u32 1)).setCell ⟨w1.heap.size, 2, none⟩ (.int .i64 2)) w1.heap.size #[.slice o2 1 c2, .int .u32 1, .int .i64 2] 79 := (Blk.set (Blk.set (Blk.set X2 0 (.slice o2 1 c2)) 1 (.int .u32 1)) 2 (.int .i64 2))
  have G2a := hG2'.set_apart (k := 0) (x := .slice o2 1 c2) X2 no_u8_3 (by simp; omega)
  have G2b := G2a.set_apart (k := 1) (x := .int .u32 1) (Blk.set X2 0 _) no_u8_3 (by simp; omega)
  have G2c := G2b.set_apart (k := 2) (x := .int .i64 2) (Blk.set (Blk.set X2 0 _) 1 _) no_u8_3 (by simp; omega)
  have M2 : Wn w (((w2.setCell ⟨w1.heap.size, 0, none⟩ (.slice o2 1 c2)).setCell ⟨w1.heap.size, 1, none⟩ (.int .u32 1)).setCell ⟨w1.heap.size, 2, none⟩ (.int .i64 2)) := ((N2.set T0.out 0 _).set T0.out 1 _).set T0.out 2 _
  have HB2 : Hid (Bytes ((((w2.setCell ⟨w1.heap.size, 0, none⟩ (.slice o2 1 c2)).setCell ⟨w1.heap.size, 1, none⟩ (.int .u32 1)).setCell ⟨w1.heap.size, 2, none⟩ (.int .i64 2)).alloc (.cells #[.int .u8 98] 5 (1, 2))) (some ⟨w2.heap.size, 0, none⟩) 1 (fun _ => 98)) := Lib.hid (one_bytes (x := 98) (by decide) (by simp [World.setCell]))
  have k2 : (convert 31 31 (.slice (some ⟨w2.heap.size, 0, none⟩) 1 1)).run Tryd.prog ((((w2.setCell ⟨w1.heap.size, 0, none⟩ (.slice o2 1 c2)).setCell ⟨w1.heap.size, 1, none⟩ (.int .u32 1)).setCell ⟨w1.heap.size, 2, none⟩ (.int .i64 2)).alloc (.cells #[.int .u8 98] 5)) = .ok (.slice (some ⟨w2.heap.size, 0, none⟩) 1 1) ((((w2.setCell ⟨w1.heap.size, 0, none⟩ (.slice o2 1 c2)).setCell ⟨w1.heap.size, 1, none⟩ (.int .u32 1)).setCell ⟨w1.heap.size, 2, none⟩ (.int .i64 2)).alloc (.cells #[.int .u8 98] 5 (1, 2))) := kc (x := 98) (by simp [World.setCell])
  have Y2a := Blk.alloc Y2 (.cells #[.int .u8 98] 5 (1, 2))
  have HM2 := Lib.hid (M2.alloc (.cells #[.int .u8 98] 5 (1, 2)))
  have HG2 := Lib.hid (G2c.later ((Below.refl _ _).alloc (Nat.le_refl _) (.cells #[.int .u8 98] 5 (1, 2))))
  have HY2 := Lib.hid Y2a
  obtain ⟨o2', c2', ev2, _, _, hVv2⟩ := HG2.out.vers
  cases ev2
  have HVv2 := Lib.hid hVv2
  have q20 : (((w2.setCell ⟨w1.heap.size, 0, none⟩ (.slice o2 1 c2)).setCell ⟨w1.heap.size, 1, none⟩ (.int .u32 1)).setCell ⟨w1.heap.size, 2, none⟩ (.int .i64 2)).cell? ⟨w1.heap.size, 0, none⟩ = some (.slice o2 1 c2) := Blk.cell Y2 0
  have q21 : (((w2.setCell ⟨w1.heap.size, 0, none⟩ (.slice o2 1 c2)).setCell ⟨w1.heap.size, 1, none⟩ (.int .u32 1)).setCell ⟨w1.heap.size, 2, none⟩ (.int .i64 2)).cell? ⟨w1.heap.size, 1, none⟩ = some (.int .u32 1) := Blk.cell Y2 1
  have q22 : (((w2.setCell ⟨w1.heap.size, 0, none⟩ (.slice o2 1 c2)).setCell ⟨w1.heap.size, 1, none⟩ (.int .u32 1)).setCell ⟨w1.heap.size, 2, none⟩ (.int .i64 2)).cell? ⟨w1.heap.size, 2, none⟩ = some (.int .i64 2) := Blk.cell Y2 2
  clear hG2 hG2' N2 X2 Y2 G2a G2b G2c M2 Y2a hVv2 hb2 F1b N1b hm2 T0
  go_wp2_with fail
  refine (put_ok o2 1 c2 1 2 V1 _ (HM.out _ (by decide)) (by decide) HVv2.out hc2 _ 1 1 (fun _ => 98) (-1) 2 HP1.out (by decide) (.inl (by decide)) HB2.out (fun e => by cases e)).mono ?_
  rintro e w3 ⟨v3, rfl, hG3, hb3⟩
  rw [show ((1 + 1 : Nat) : Int) = 2 from rfl]
  have hG3' : GV w3 _ v3 2 V2 := HV2.out ▸ hG3
  obtain ⟨o3, c3, rfl, hc3, hm3⟩ := hG3'.slice
  have M3 := HM2.out.step hb3
  have L3 := Blk.lt HY2.out
  have X3 := Blk.below HY2.out hb3 L3
  have s30 : w3.cell? ⟨w1.heap.size, 0, none⟩ = some (.slice o2 1 c2) := Blk.cell X3 0
  have z30 : w3.frozen? ⟨w1.heap.size, 0, none⟩ = false := Blk.free X3 0
  have s31 : w3.cell? ⟨w1.heap.size, 1, none⟩ = some (.int .u32 1) := Blk.cell X3 1
  have z31 : w3.frozen? ⟨w1.heap.size, 1, none⟩ = false := Blk.free X3 1
  have s32 : w3.cell? ⟨w1.heap.size, 2, none⟩ = some (.int .i64 2) := Blk.cell X3 2
  have z32 : w3.frozen? ⟨w1.heap.size, 2, none⟩ = false := Blk.free X3 2
  have Y3 : Blk (((w3.setCell ⟨w1.heap.size, 0, none⟩ (.slice o3 2 c3)).setCell ⟨w1.heap.size, 1, none⟩ (.int .u32 2)).setCell ⟨w1.heap.size, 2, none⟩ (.int .i64 2)) w1.heap.size #[.slice o3 2 c3, .int .u32 2, .int .i64 2] 79 := (Blk.set (Blk.set (Blk.set X3 0 (.slice o3 2 c3)) 1 (.int .u32 2)) 2 (.int .i64 2))
  have G3a := hG3'.set_apart (k := 0) (x := .slice o3 2 c3) X3 no_u8_3 L3
  have G3b := G3a.set_apart (k := 1) (x := .int .u32 2) (Blk.set X3 0 _) no_u8_3 L3
  have G3c := G3b.set_apart (k := 2) (x := .int .i64 2) (Blk.set (Blk.set X3 0 _) 1 _) no_u8_3 L3
  have R3 : Wn w (((w3.setCell ⟨w1.heap.size, 0, none⟩ (.slice o3 2 c3)).setCell ⟨w1.heap.size, 1, none⟩ (.int .u32 2)).setCell ⟨w1.heap.size, 2, none⟩ (.int .i64 2)) := ((M3.set HT0.out 0 _).set HT0.out 1 _).set HT0.out 2 _
  have HB3 : Hid (Bytes ((((w3.setCell ⟨w1.heap.size, 0, none⟩ (.slice o3 2 c3)).setCell ⟨w1.heap.size, 1, none⟩ (.int .u32 2)).setCell ⟨w1.heap.size, 2, none⟩ (.int .i64 2)).alloc (.cells #[.int .u8 99] 5 (1, 2))) (some ⟨w3.heap.size, 0, none⟩) 1 (fun _ => 99)) := Lib.hid (one_bytes (x := 99) (by decide) (by simp [World.setCell]))
  have k3 : (convert 31 31 (.slice (some ⟨w3.heap.size, 0, none⟩) 1 1)).run Tryd.prog ((((w3.setCell ⟨w1.heap.size, 0, none⟩ (.slice o3 2 c3)).setCell ⟨w1.heap.size, 1, none⟩ (.int .u32 2)).setCell ⟨w1.heap.size, 2, none⟩ (.int .i64 2)).alloc (.cells #[.int .u8 99] 5)) = .ok (.slice (some ⟨w3.heap.size, 0, none⟩) 1 1) ((((w3.setCell ⟨w1.heap.size, 0, none⟩ (.slice o3 2 c3)).setCell ⟨w1.heap.size, 1, none⟩ (.int .u32 2)).setCell ⟨w1.heap.size, 2, none⟩ (.int .i64 2)).alloc (.cells #[.int .u8 99] 5 (1, 2))) := kc (x := 99) (by simp [World.setCell])
  have HR3 := Lib.hid (R3.alloc (.cells #[.int .u8 99] 5 (1, 2)))
  have HG3 := Lib.hid (G3c.later ((Below.refl _ _).alloc (Nat.le_refl _) (.cells #[.int .u8 99] 5 (1, 2))))
  have HF3 := Lib.hid ((Fr.nil _).add (Blk.alloc Y3 (.cells #[.int .u8 99] 5 (1, 2))))
  obtain ⟨o3', c3', ev3, _, _, hVv3⟩ := HG3.out.vers
  cases ev3
  have HVs3 := Lib.hid hVv3
  have q30 : (((w3.setCell ⟨w1.heap.size, 0, none⟩ (.slice o3 2 c3)).setCell ⟨w1.heap.size, 1, none⟩ (.int .u32 2)).setCell ⟨w1.heap.size, 2, none⟩ (.int .i64 2)).cell? ⟨w1.heap.size, 0, none⟩ = some (.slice o3 2 c3) := Blk.cell Y3 0
  have q31 : (((w3.setCell ⟨w1.heap.size, 0, none⟩ (.slice o3 2 c3)).setCell ⟨w1.heap.size, 1, none⟩ (.int .u32 2)).setCell ⟨w1.heap.size, 2, none⟩ (.int .i64 2)).cell? ⟨w1.heap.size, 1, none⟩ = some (.int .u32 2) := Blk.cell Y3 1
  have q32 : (((w3.setCell ⟨w1.heap.size, 0, none⟩ (.slice o3 2 c3)).setCell ⟨w1.heap.size, 1, none⟩ (.int .u32 2)).setCell ⟨w1.heap.size, 2, none⟩ (.int .i64 2)).cell? ⟨w1.heap.size, 2, none⟩ = some (.int .i64 2) := Blk.cell Y3 2
  clear hG3 hG3' M3 L3 X3 Y3 G3a G3b G3c R3 hVv3 hb3 hm3 HM2 HG2 HY2 HVv2 q20 q21 q22
  go_wp2_with fail
  refine (put_ok o3 2 c3 2 2 V2 _ (HM.out _ (by decide)) (by decide) HVs3.out hc3 _ 1 1 (fun _ => 99) 2 3 HP2.out (by decide) (.inr rfl) HB3.out (fun e => by cases e)).mono ?_
  rintro e w4 ⟨v4, rfl, hG4, hb4⟩
  rw [show ((2 + 1 : Nat) : Int) = 3 from rfl]
  have hG4' : GV w4 _ v4 2 V3 := HV3.out ▸ hG4
  obtain ⟨o4, c4, rfl, hc4, hm4, hV4⟩ := hG4'.vers
  have R4 := (HR3.out.step hb4).alloc (.cells #[.slice o4 2 c4, .int .u32 3, .int .i64 2] 79)
  have HR4 := Lib.hid R4
  have F4 := (HF3.out.later hb4).new #[.slice o4 2 c4, .int .u32 3, .int .i64 2] 79
  have HF4 := Lib.hid F4
  have HVs4 := Lib.hid ((HVs3.out.later hb4).later ((Below.refl _ _).alloc (Nat.le_refl _) (.cells #[.slice o4 2 c4, .int .u32 3, .int .i64 2] 79)))
  have HVt4 := Lib.hid ((hV4).later ((Below.refl _ _).alloc (Nat.le_refl _) (.cells #[.slice o4 2 c4, .int .u32 3, .int .i64 2] 79)))
  clear R4 F4 hb4 HR3 HF3 HVs3
  clear hG4 hG4' hV4 hm4 HG3 HB3 q30 q31 q32
  have C5 : Hid (Calls Tryd.prog 45 #[.agg #[.slice o4 2 c4, .int .u32 3, .int .i64 2], .int .u32 2] (w4.alloc (.cells #[.slice o4 2 c4, .int .u32 3, .int .i64 2] 79)) fun e w' => ∃ od cap, e = .returned (.tuple #[.agg #[.int .u32 2, .slice od 1 cap, .int .u64 2, .int .i64 0], .nilIface]) ∧ Bytes w' od 1 (fun _ => 98) ∧ Below (w4.alloc (.cells #[.slice o4 2 c4, .int .u32 3, .int .i64 2] 79)).heap.size (w4.alloc (.cells #[.slice o4 2 c4, .int .u32 3, .int .i64 2] 79)) w') := Lib.hid (by
    have hh := get_ok o4 2 c4 3 2 V3 (w4.alloc (.cells #[.slice o4 2 c4, .int .u32 3, .int .i64 2] 79)) (HM.out _ (by decide)) (by decide) HVt4.out 2 0 HP3.out (by decide) (by rw [HE0.out]; rfl) (by rw [HE0.out])
    rw [HE0.out] at hh
    exact hh.mono fun e w' ⟨od, cap, h1, h2, _, h3⟩ => ⟨od, cap, h1, h2, h3⟩)
  go_wp2_with fail
  refine C5.out.mono ?_
  rintro e w5 ⟨od5, cap5, rfl, hBd5, hb5⟩
  have R5 := (HR4.out.step hb5).alloc (.cells #[.int .u32 2, .slice od5 1 cap5, .int .u64 2, .int .i64 0] 86)
  have HR5 := Lib.hid R5
  have F5 := (HF4.out.later hb5).new #[.int .u32 2, .slice od5 1 cap5, .int .u64 2, .int .i64 0] 86
  have HF5 := Lib.hid F5
  have HVs5 := Lib.hid ((HVs4.out.later hb5).later ((Below.refl _ _).alloc (Nat.le_refl _) (.cells #[.int .u32 2, .slice od5 1 cap5, .int .u64 2, .int .i64 0] 86)))
  have HVt5 := Lib.hid ((HVt4.out.later hb5).later ((Below.refl _ _).alloc (Nat.le_refl _) (.cells #[.int .u32 2, .slice od5 1 cap5, .int .u64 2, .int .i64 0] 86)))
  have HBd5 := Lib.hid ((hBd5).later ((Below.refl _ _).alloc (Nat.le_refl _) (.cells #[.int .u32 2, .slice od5 1 cap5, .int .u64 2, .int .i64 0] 86)))
  clear R5 F5 hb5 HR4 HF4 HVs4 HVt4
  have r50 : (w5.alloc (.cells #[.int .u32 2, .slice od5 1 cap5, .int .u64 2, .int .i64 0] 86)).cell? ⟨w4.heap.size, 0, none⟩ = some (.slice o4 2 c4) := HF5.out.cell 1 0 rfl rfl
  have r51 : (w5.alloc (.cells #[.int .u32 2, .slice od5 1 cap5, .int .u64 2, .int .i64 0] 86)).cell? ⟨w4.heap.size, 1, none⟩ = some (.int .u32 3) := HF5.out.cell 1 1 rfl rfl
  have r52 : (w5.alloc (.cells #[.int .u32 2, .slice od5 1 cap5, .int .u64 2, .int .i64 0] 86)).cell? ⟨w4.heap.size, 2, none⟩ = some (.int .i64 2) := HF5.out.cell 1 2 rfl rfl
  clear C5 hBd5
  go_wp2_with fail
  refine (get_none o4 2 c4 3 2 V3 _ (HM.out _ (by decide)) (by decide) HVt5.out 1 HP3.out (fun i hi => by
    rw [seek_pos (by decide)]
    match i, hi with
    | 0, _ => rw [HE0.out]; decide
    | 1, _ => rw [HE1.out]; decide)).mono ?_
  rintro e w6 ⟨rfl, hb6⟩
  have R6 := (HR5.out.step hb6).alloc (.cells #[.int .u32 0, .slice none 0 0, .int .u64 0, .int .i64 0] 86)
  have HR6 := Lib.hid R6
  have F6 := (HF5.out.later hb6).new #[.int .u32 0, .slice none 0 0, .int .u64 0, .int .i64 0] 86
  have HF6 := Lib.hid F6
  have HVs6 := Lib.hid ((HVs5.out.later hb6).later ((Below.refl _ _).alloc (Nat.le_refl _) (.cells #[.int .u32 0, .slice none 0 0, .int .u64 0, .int .i64 0] 86)))
  have HVt6 := Lib.hid ((HVt5.out.later hb6).later ((Below.refl _ _).alloc (Nat.le_refl _) (.cells #[.int .u32 0, .slice none 0 0, .int .u64 0, .int .i64 0] 86)))
  have HBd6 := Lib.hid ((HBd5.out.later hb6).later ((Below.refl _ _).alloc (Nat.le_refl _) (.cells #[.int .u32 0, .slice none 0 0, .int .u64 0, .int .i64 0] 86)))
  clear R6 F6 hb6 HR5 HF5 HVs5 HVt5 HBd5
  clear r50 r51 r52
  have r60 : (w6.alloc (.cells #[.int .u32 0, .slice none 0 0, .int .u64 0, .int .i64 0] 86)).cell? ⟨w4.heap.size, 0, none⟩ = some (.slice o4 2 c4) := HF6.out.cell 2 0 rfl rfl
  have r61 : (w6.alloc (.cells #[.int .u32 0, .slice none 0 0, .int .u64 0, .int .i64 0] 86)).cell? ⟨w4.heap.size, 1, none⟩ = some (.int .u32 3) := HF6.out.cell 2 1 rfl rfl
  have r62 : (w6.alloc (.cells #[.int .u32 0, .slice none 0 0, .int .u64 0, .int .i64 0] 86)).cell? ⟨w4.heap.size, 2, none⟩ = some (.int .i64 2) := HF6.out.cell 2 2 rfl rfl
  go_wp2_with fail
  refine (delete_ok o4 2 c4 3 2 V3 _ (HM.out _ (by decide)) (by decide) HVt6.out 0 1 HP3.out (by decide) (by rw [HE1.out]; rfl) (by rw [HE1.out]; decide)).mono ?_
  rintro e w7 ⟨v7, rfl, hG7, hb7⟩
  obtain ⟨o7, c7, rfl, hc7, hm7, hV7⟩ := hG7.vers
  have R7 := (HR6.out.step hb7).alloc (.cells #[.slice o7 2 c7, .int .u32 3, .int .i64 2] 79)
  have HR7 := Lib.hid R7
  have F7 := (HF6.out.later hb7).new #[.slice o7 2 c7, .int .u32 3, .int .i64 2] 79
  have HF7 := Lib.hid F7
  have HVs7 := Lib.hid ((HVs6.out.later hb7).later ((Below.refl _ _).alloc (Nat.le_refl _) (.cells #[.slice o7 2 c7, .int .u32 3, .int .i64 2] 79)))
  have HVt7 := Lib.hid ((HVt6.out.later hb7).later ((Below.refl _ _).alloc (Nat.le_refl _) (.cells #[.slice o7 2 c7, .int .u32 3, .int .i64 2] 79)))
  have HBd7 := Lib.hid ((HBd6.out.later hb7).later ((Below.refl _ _).alloc (Nat.le_refl _) (.cells #[.slice o7 2 c7, .int .u32 3, .int .i64 2] 79)))
  have HVd7 := Lib.hid ((hV7).later ((Below.refl _ _).alloc (Nat.le_refl _) (.cells #[.slice o7 2 c7, .int .u32 3, .int .i64 2] 79)))
  clear R7 F7 hb7 HR6 HF6 HVs6 HVt6 HBd6
  clear hG7 hV7 hm7 r60 r61 r62
  go_wp2_with fail
  refine (get_gone o7 2 c7 3 2 (setV V3 1 1) _ (HM.out _ (by decide)) (by decide) HVd7.out 3 1 HP4.out (by decide) (by rw [HE4.out]; rfl) (by rw [HE4.out]; decide)).mono ?_
  rintro e w8 ⟨rfl, hb8⟩
  have R8 := (HR7.out.step hb8).alloc (.cells #[.int .u32 0, .slice none 0 0, .int .u64 0, .int .i64 0] 86)
  have HR8 := Lib.hid R8
  have F8 := (HF7.out.later hb8).new #[.int .u32 0, .slice none 0 0, .int .u64 0, .int .i64 0] 86
  have HF8 := Lib.hid F8
  have HVs8 := Lib.hid ((HVs7.out.later hb8).later ((Below.refl _ _).alloc (Nat.le_refl _) (.cells #[.int .u32 0, .slice none 0 0, .int .u64 0, .int .i64 0] 86)))
  have HVt8 := Lib.hid ((HVt7.out.later hb8).later ((Below.refl _ _).alloc (Nat.le_refl _) (.cells #[.int .u32 0, .slice none 0 0, .int .u64 0, .int .i64 0] 86)))
  have HBd8 := Lib.hid ((HBd7.out.later hb8).later ((Below.refl _ _).alloc (Nat.le_refl _) (.cells #[.int .u32 0, .slice none 0 0, .int .u64 0, .int .i64 0] 86)))
  have HVd8 := Lib.hid ((HVd7.out.later hb8).later ((Below.refl _ _).alloc (Nat.le_refl _) (.cells #[.int .u32 0, .slice none 0 0, .int .u64 0, .int .i64 0] 86)))
  clear R8 F8 hb8 HR7 HF7 HVs7 HVt7 HBd7 HVd7
  have r80 : (w8.alloc (.cells #[.int .u32 0, .slice none 0 0, .int .u64 0, .int .i64 0] 86)).cell? ⟨w1.heap.size, 0, none⟩ = some (.slice o3 2 c3) := HF8.out.cell 5 0 rfl rfl
  have r81 : (w8.alloc (.cells #[.int .u32 0, .slice none 0 0, .int .u64 0, .int .i64 0] 86)).cell? ⟨w1.heap.size, 1, none⟩ = some (.int .u32 2) := HF8.out.cell 5 1 rfl rfl
  have r82 : (w8.alloc (.cells #[.int .u32 0, .slice none 0 0, .int .u64 0, .int .i64 0] 86)).cell? ⟨w1.heap.size, 2, none⟩ = some (.int .i64 2) := HF8.out.cell 5 2 rfl rfl
  go_wp2_with fail
  refine (put_ver o3 2 c3 2 2 V2 _ (HM.out _ (by decide)) (by decide) HVs8.out none 0 0 (fun _ => 0) 1 3 HP2.out (by decide) (by decide) (by decide) (by decide)).mono ?_
  rintro e w9 ⟨rfl, hb9⟩
  have R9 := (HR8.out.step hb9).alloc (.cells #[.slice none 0 0, .int .u32 0, .int .i64 0] 79)
  have HR9 := Lib.hid R9
  have F9 := (HF8.out.later hb9).new #[.slice none 0 0, .int .u32 0, .int .i64 0] 79
  have HF9 := Lib.hid F9
  have HVs9 := Lib.hid ((HVs8.out.later hb9).later ((Below.refl _ _).alloc (Nat.le_refl _) (.cells #[.slice none 0 0, .int .u32 0, .int .i64 0] 79)))
  have HVt9 := Lib.hid ((HVt8.out.later hb9).later ((Below.refl _ _).alloc (Nat.le_refl _) (.cells #[.slice none 0 0, .int .u32 0, .int .i64 0] 79)))
  have HBd9 := Lib.hid ((HBd8.out.later hb9).later ((Below.refl _ _).alloc (Nat.le_refl _) (.cells #[.slice none 0 0, .int .u32 0, .int .i64 0] 79)))
  have HVd9 := Lib.hid ((HVd8.out.later hb9).later ((Below.refl _ _).alloc (Nat.le_refl _) (.cells #[.slice none 0 0, .int .u32 0, .int .i64 0] 79)))
  clear R9 F9 hb9 HR8 HF8 HVs8 HVt8 HBd8 HVd8
  have r90 : (w9.alloc (.cells #[.slice none 0 0, .int .u32 0, .int .i64 0] 79)).cell? ⟨w5.heap.size, 0, none⟩ = some (.int .u32 2) := HF9.out.cell 4 0 rfl rfl
  have r91 : (w9.alloc (.cells #[.slice none 0 0, .int .u32 0, .int .i64 0] 79)).cell? ⟨w5.heap.size, 1, none⟩ = some (.slice od5 1 cap5) := HF9.out.cell 4 1 rfl rfl
  have r92 : (w9.alloc (.cells #[.slice none 0 0, .int .u32 0, .int .i64 0] 79)).cell? ⟨w5.heap.size, 2, none⟩ = some (.int .u64 2) := HF9.out.cell 4 2 rfl rfl
  have r93 : (w9.alloc (.cells #[.slice none 0 0, .int .u32 0, .int .i64 0] 79)).cell? ⟨w5.heap.size, 3, none⟩ = some (.int .i64 0) := HF9.out.cell 4 3 rfl rfl
  clear r80 r81 r82
  have hcv := conv_any (cp := cap5) HBd9.out
  rw [show strF 1 (fun _ => 98) = ⟨#[98]⟩ from by kernel_rfl] at hcv
  have hR9 := HR9.out
  go_wp2_with fail
  refine (num_err30 5 _ hR9.handle).mono ?_
  rintro e wa ⟨rfl, hba⟩
  have Na := HR9.out.step hba
  go_wp2_with fail
  refine (num_err30 21 _ Na.handle).mono ?_
  rintro e wb ⟨rfl, hbb⟩
  have Nb := Na.step hbb
  go_wp2_with fail
  refine (num_err30 20 _ Nb.handle).mono ?_
  rintro e wc ⟨rfl, hbc⟩
  have Nc := Nb.step hbc
  go_wp2_with fail
  go_ret
  exact ⟨rfl, Nc.bel⟩
end Go.Proofs.YtkaddilgegimjaaDoor
