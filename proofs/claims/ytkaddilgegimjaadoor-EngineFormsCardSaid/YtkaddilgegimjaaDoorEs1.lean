/- The law's isVersion, isSecret. -/
import Derived.Test.YtkaddilgegimjaaDoorEn9
import Derived.Deep.RegionHeld3
namespace Go.Proofs.YtkaddilgegimjaaDoor
set_option linter.unusedVariables false
set_option linter.unusedSimpArgs false
open Go.RowKit

set_option maxRecDepth 100000 in
set_option maxHeartbeats 1000000 in
theorem isver_yes (m t st : Int) (oa ob : Option Addr) (l ca cb : Nat) (f : Nat → Nat) (w : World) (hA : Bytes w oa l f) (hB : Bytes w ob l f) :
    Calls Tryd.prog 54 #[.agg #[.int .u32 m, .slice oa l ca, .int .u64 t, .int .i64 st], .agg #[.int .u32 m, .slice ob l cb, .int .u64 t, .int .i64 st]] w fun e w' => e = .returned (.bool true) ∧ Below w.heap.size w w' := by
  have c1 := conv_any (cp := ca) ((hA.alloc (.cells #[.int .u32 m, .slice oa l ca, .int .u64 t, .int .i64 st] 86)).alloc (.cells #[.int .u32 m, .slice ob l cb, .int .u64 t, .int .i64 st] 89))
  have c2 := conv_any (cp := cb) ((hB.alloc (.cells #[.int .u32 m, .slice oa l ca, .int .u64 t, .int .i64 st] 86)).alloc (.cells #[.int .u32 m, .slice ob l cb, .int .u64 t, .int .i64 st] 89))
  generalize strF l f = s at *
  clear hA hB
  go_enter Tryd.func54, Tryd.ntmps54
  go_wp2_with fail
  go_ret
  exact ⟨rfl, ((Below.refl _ _).alloc (Nat.le_refl _) _).alloc (by simp) _⟩

set_option maxRecDepth 100000 in
set_option maxHeartbeats 4000000 in
theorem issec_yes (ox oa : Option Addr) (n cx cp : Nat) (last max : Int) (V : Nat → Ver) (w : World) (hX : Vers w ox n V) (hV : Vers w oa n V) (hn : n ≤ maxLen) :
    Calls Tryd.prog 52 #[.agg #[.slice ox n cx, .int .u32 last, .int .i64 max], .agg #[.slice oa n cp, .int .u32 last, .int .i64 max]] w fun e w' => e = .returned (.bool true) ∧ Below w.heap.size w w' := by
  have HX := Lib.hid hX
  have HV := Lib.hid hV
  unfold maxLen at hn
  have hn0 : (n : Int) ≤ 9223372036854775807 := by omega
  clear hX hV hn
  go_enter Tryd.func52, Tryd.ntmps52
  go_wp2_with fail
  go_loopw [5] (fun i wr => ∃ k : Nat, k ≤ n ∧ i = .int .i64 k ∧ Blk wr w.heap.size #[.slice ox n cx, .int .u32 last, .int .i64 max] 79 ∧ Blk wr (w.heap.size + 1) #[.slice oa n cp, .int .u32 last, .int .i64 max] 73 ∧ Below w.heap.size w wr) (fun i _ => n - (intOf i).toNat)
  case atStart => exact ⟨0, Nat.zero_le _, rfl, blk2 _ _ _ _ _, blk2' _ _ _ _ _, ((Below.refl _ _).alloc (Nat.le_refl _) _).alloc (by simp) _⟩
  case round =>
    obtain ⟨k, hk, rfl, hP, hQ, hO⟩ := hrel
    have p0 : wr.cell? ⟨w.heap.size, 0, none⟩ = some (.slice ox n cx) := Blk.cell hP 0
    have q0 : wr.cell? ⟨w.heap.size + 1, 0, none⟩ = some (.slice oa n cp) := Blk.cell hQ 0
    have HP := Lib.hid hP
    have HQ := Lib.hid hQ
    have HO := Lib.hid hO
    by_cases hlt : k < n
    · obtain ⟨b, off, od, cap, rfl, hB, _, _, _, c0, c1, c2, c3⟩ := (Vers.later HX.out hO).get k hlt
      obtain ⟨b2, off2, od2, cap2, rfl, hB2, _, _, _, d0, d1, d2, d3⟩ := (Vers.later HV.out hO).get k hlt
      have k0 : (0 : Int) ≤ (k : Int) := by omega
      have k1 : (k : Int) < (n : Int) := by omega
      have HB := Lib.hid hB
      have HB2 := Lib.hid hB2
      clear hP hQ hO hB hB2
      generalize (V k).n = m at *
      generalize (V k).t = t at *
      generalize (V k).st = st at *
      generalize (V k).len = len at *
      generalize (V k).f = f at *
      go_wp2_with fail
      go_region_held3 (fun w' => w'.cell? ⟨w.heap.size, 0, none⟩ = some (.slice (some ⟨b, off, none⟩) n cx) ∧ w'.cell? ⟨w.heap.size + 1, 0, none⟩ = some (.slice (some ⟨b2, off2, none⟩) n cp) ∧ w'.cell? ⟨b, off + k * 4, none⟩ = some (.int .u32 (m : Int)) ∧ w'.cell? ⟨b, off + k * 4 + 1, none⟩ = some (.slice od len cap) ∧ w'.cell? ⟨b, off + k * 4 + 2, none⟩ = some (.int .u64 (t : Int)) ∧ w'.cell? ⟨b, off + k * 4 + 3, none⟩ = some (.int .i64 st) ∧ w'.cell? ⟨b2, off2 + k * 4, none⟩ = some (.int .u32 (m : Int)) ∧ w'.cell? ⟨b2, off2 + k * 4 + 1, none⟩ = some (.slice od2 len cap2) ∧ w'.cell? ⟨b2, off2 + k * 4 + 2, none⟩ = some (.int .u64 (t : Int)) ∧ w'.cell? ⟨b2, off2 + k * 4 + 3, none⟩ = some (.int .i64 st)) (go_keep)
        (first
          | (go_at_call 54; refine (isver_yes (m : Int) (t : Int) st od od2 len cap cap2 f _ ?_ ?_).mono ?_; exact HB.out; exact HB2.out; rintro e w2 ⟨rfl, hb2⟩; have z0 := cell_below hb2 p0; have z1 := cell_below hb2 q0; have z2 := cell_below hb2 c0; have z3 := cell_below hb2 c1; have z4 := cell_below hb2 c2; have z5 := cell_below hb2 c3; have z6 := cell_below hb2 d0; have z7 := cell_below hb2 d1; have z8 := cell_below hb2 d2; have z9 := cell_below hb2 d3; skip))
      have hb2' : Below wr.heap.size wr w2 := ⟨hb2.os, hb2.tape, hb2.output, hb2.size, hb2.block⟩
      have HP2 := Lib.hid (Blk.below HP.out hb2' (Blk.lt HP.out))
      have HQ2 := Lib.hid (Blk.below HQ.out hb2' (Blk.lt HQ.out))
      have HO2 := Lib.hid (HO.out.trans (hb2'.mono HO.out.size))
      clear z0 z1 z2 z3 z4 z5 z6 z7 z8 z9 hb2 hb2' p0 q0 c0 c1 c2 c3 d0 d1 d2 d3
      go_wp2_with fail
      go_roundw
      case rel => exact ⟨k + 1, by omega, by go_num, HP2.out, HQ2.out, HO2.out⟩
      case measure => simp [intOf]; omega
    · obtain rfl : k = n := by omega
      clear hP hQ hO
      go_wp2_with fail
      go_ret
      exact ⟨rfl, HO.out⟩
end Go.Proofs.YtkaddilgegimjaaDoor
