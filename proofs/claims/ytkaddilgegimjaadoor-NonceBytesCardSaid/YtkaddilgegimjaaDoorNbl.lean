/- The walk of NonceBytes. -/
import Derived.Test.YtkaddilgegimjaaDoorNq
import Derived.Test.YtkaddilgegimjaaDoorSure18
import Derived.Deep.RegionHeld3
import Derived.Deep.RegionWith
import Derived.Lib.Hide
namespace Go.Proofs.YtkaddilgegimjaaDoor
set_option linter.unusedVariables false
set_option linter.unusedSimpArgs false
open Go.RowKit

theorem str_ne {a b : ByteArray} (h : a ≠ b) : ¬ a.toList = b.toList := fun e => h (Go.WideShapes.bytes_inj (by rw [← ByteArray.toList_eq, ← ByteArray.toList_eq]; exact e))
set_option maxHeartbeats 400000 in
theorem nbytes_big (oa : Option Addr) (n cp : Nat) (t1 t2 n1 n2 : Int) (w : World) (hg : Handle w) (h : 100 < n) :
    Calls Tryd.prog 4 #[.slice oa n cp, .agg #[.int .u32 t1, .int .u32 t2], .agg #[.int .u64 n1, .int .u64 n2]] w fun e w' => e = .returned (.bool true) ∧ Below w.heap.size w w' := by
  have g1 : (100 : Int) < (n : Int) := by omega
  go_enter Tryd.func4, Tryd.ntmps4
  go_wp2_with fail
  refine (sure_any _ ((hg.alloc _).alloc _)).mono ?_
  rintro e w1 ⟨rfl, hb⟩
  go_wp2_with fail
  go_ret
  exact ⟨rfl, (((Below.refl _ _).alloc (Nat.le_refl _) _).alloc (by simp) _).trans (hb.mono (by simp; omega))⟩

set_option maxRecDepth 100000 in
set_option maxHeartbeats 4000000 in
theorem nbytes_bad_eq (oa : Option Addr) (n cp : Nat) (t1 n1 : Nat) (w : World) (hg : Handle w) (h100 : n ≤ 100) (h12 : n ≠ 12) (ht1 : t1 < 4294967296) (hn1 : n1 < 18446744073709551616)  :
    Calls Tryd.prog 4 #[.slice oa n cp, .agg #[.int .u32 t1, .int .u32 t1], .agg #[.int .u64 n1, .int .u64 n1]] w fun e w' => e = .returned (.bool true) ∧ Below w.heap.size w w' := by
  obtain ⟨s1, hs1⟩ : ∃ s, strF 12 (nbF t1 n1) = s := ⟨_, rfl⟩
  have HS1 : Hid _ := hs1
  clear hs1
  have g1 : ((n : Int) != 12) = true := by rw [bne_iff_ne]; omega
  have g2 : (n : Int) ≤ 100 := by omega
  have H12 : Hid _ := h12
  clear h12 h100
  go_enter Tryd.func4, Tryd.ntmps4
  go_wp2_with fail
  refine (parse_bad oa n cp _ H12.out).mono ?_
  rintro e w0 ⟨rfl, rfl⟩
  go_wp2_with fail
  refine (num_err 4 _ ((hg.alloc _).alloc _)).mono ?_
  rintro e w2 ⟨rfl, hb2⟩
  have q0 : w2.cell? ⟨w.heap.size, 0, none⟩ = some (.int .u32 (t1 : Nat)) := cell_below hb2 (by rw [cell_old (by simp), cell_new rfl]; rfl)
  have q1 : w2.cell? ⟨w.heap.size, 1, none⟩ = some (.int .u32 (t1 : Nat)) := cell_below hb2 (by rw [cell_old (by simp), cell_new rfl]; rfl)
  have q2 : w2.cell? ⟨w.heap.size + 1, 0, none⟩ = some (.int .u64 (n1 : Nat)) := cell_below hb2 (by rw [cell_new (by simp)]; rfl)
  have q3 : w2.cell? ⟨w.heap.size + 1, 1, none⟩ = some (.int .u64 (n1 : Nat)) := cell_below hb2 (by rw [cell_new (by simp)]; rfl)
  have hB2 : Below w.heap.size w w2 := (((Below.refl _ _).alloc (Nat.le_refl _) _).alloc (by simp) _).trans (hb2.mono (by simp; omega))
  have HB2 : Hid _ := hB2
  clear hb2 hB2
  go_wp2_with fail
  go_region_held3 (fun w' => w'.cell? ⟨w.heap.size, 0, none⟩ = some (.int .u32 (t1 : Nat)) ∧ w'.cell? ⟨w.heap.size, 1, none⟩ = some (.int .u32 (t1 : Nat)) ∧ w'.cell? ⟨w.heap.size + 1, 0, none⟩ = some (.int .u64 (n1 : Nat)) ∧ w'.cell? ⟨w.heap.size + 1, 1, none⟩ = some (.int .u64 (n1 : Nat))) (go_keep)
    (first
      | (have q := hG3; clear q; go_at_call 20; refine (nb_k2 (u := v3) (T := t1) (N := n1) (b := w.heap.size) _ hG3 (by assumption) (by assumption) (by assumption) (by assumption) (by assumption) (by assumption)).mono ?_; rintro e w4 ⟨cv, cu, gv, gu, rfl, hu, hcv, hcu, hb4, r0, r1, r2, r3⟩)
      | (have q := hG3; clear q; go_at_call 20; refine (nb_k2 (u := v3) (T := t1) (N := n1) (b := w.heap.size) _ hG3 (by assumption) (by assumption) (by assumption) (by assumption) (by assumption) (by assumption)).mono ?_; rintro e w4 ⟨cv, cu, gv, gu, rfl, hu, hcv, hcu, hb4, r0, r1, r2, r3⟩)
      | (go_at_call 20; refine (nb_k (b := w.heap.size) _ (by assumption) (by assumption) (by assumption) (by assumption) (by assumption) (by assumption)).mono ?_; rintro e w3 ⟨v3, rfl, hG3, hb3, p0, p1, p2, p3⟩))
  all_goals
    subst hu
    clear hG3
    rw [HS1.out] at hcv hcu
    have HB3 : Hid (Below w2.heap.size w2 w4) := (((⟨hb3.os, hb3.tape, hb3.output, hb3.size, hb3.block⟩ : Below w2.heap.size w2 w3)).trans (hb4.mono hb3.size) : Below w2.heap.size w2 w4)
    clear hb3 hb4 q0 q1 q2 q3
    go_wp2_with fail
    refine (sure_any _ (hg.later (HB2.out.trans (HB3.out.mono HB2.out.size)))).mono ?_
    rintro e w5 ⟨rfl, hb5⟩
    go_wp2_with fail
    go_ret
    exact ⟨rfl, HB2.out.trans ((HB3.out.mono HB2.out.size).trans (hb5.mono (Nat.le_trans HB2.out.size HB3.out.size)))⟩

set_option maxRecDepth 100000 in
set_option maxHeartbeats 4000000 in
theorem nbytes_bad_net (oa : Option Addr) (n cp : Nat) (t1 t2 n1 n2 : Nat) (w : World) (hg : Handle w) (h100 : n ≤ 100) (h12 : n ≠ 12) (ht1 : t1 < 4294967296) (ht2 : t2 < 4294967296) (hn1 : n1 < 18446744073709551616) (hn2 : n2 < 18446744073709551616) (hne : t1 ≠ t2) :
    Calls Tryd.prog 4 #[.slice oa n cp, .agg #[.int .u32 t1, .int .u32 t2], .agg #[.int .u64 n1, .int .u64 n2]] w fun e w' => e = .returned (.bool true) ∧ Below w.heap.size w w' := by
  obtain ⟨s1, hs1⟩ : ∃ s, strF 12 (nbF t1 n1) = s := ⟨_, rfl⟩
  obtain ⟨s2, hs2⟩ : ∃ s, strF 12 (nbF t2 n2) = s := ⟨_, rfl⟩
  have hss : s1 ≠ s2 := fun e => by
    rw [← hs1, ← hs2] at e
    have := nbF_inj ht1 hn1 ht2 hn2 e
    omega

  have hss2 := str_ne hss
  have hss4 : (s1.toList == s2.toList) = false := by rw [beq_eq_false_iff_ne]; exact hss2
  have HS1 : Hid _ := hs1
  have HS2 : Hid _ := hs2
  have c1 : ((t1 : Int) == (t2 : Int)) = false := by rw [beq_eq_false_iff_ne]; omega
  clear hs1 hs2 hne hss
  have g1 : ((n : Int) != 12) = true := by rw [bne_iff_ne]; omega
  have g2 : (n : Int) ≤ 100 := by omega
  have H12 : Hid _ := h12
  clear h12 h100
  go_enter Tryd.func4, Tryd.ntmps4
  go_wp2_with fail
  refine (parse_bad oa n cp _ H12.out).mono ?_
  rintro e w0 ⟨rfl, rfl⟩
  go_wp2_with fail
  refine (num_err 4 _ ((hg.alloc _).alloc _)).mono ?_
  rintro e w2 ⟨rfl, hb2⟩
  have q0 : w2.cell? ⟨w.heap.size, 0, none⟩ = some (.int .u32 (t1 : Nat)) := cell_below hb2 (by rw [cell_old (by simp), cell_new rfl]; rfl)
  have q1 : w2.cell? ⟨w.heap.size, 1, none⟩ = some (.int .u32 (t2 : Nat)) := cell_below hb2 (by rw [cell_old (by simp), cell_new rfl]; rfl)
  have q2 : w2.cell? ⟨w.heap.size + 1, 0, none⟩ = some (.int .u64 (n1 : Nat)) := cell_below hb2 (by rw [cell_new (by simp)]; rfl)
  have q3 : w2.cell? ⟨w.heap.size + 1, 1, none⟩ = some (.int .u64 (n2 : Nat)) := cell_below hb2 (by rw [cell_new (by simp)]; rfl)
  have hB2 : Below w.heap.size w w2 := (((Below.refl _ _).alloc (Nat.le_refl _) _).alloc (by simp) _).trans (hb2.mono (by simp; omega))
  have HB2 : Hid _ := hB2
  clear hb2 hB2
  go_wp2_with fail
  go_region_held3 (fun w' => w'.cell? ⟨w.heap.size, 0, none⟩ = some (.int .u32 (t1 : Nat)) ∧ w'.cell? ⟨w.heap.size, 1, none⟩ = some (.int .u32 (t2 : Nat)) ∧ w'.cell? ⟨w.heap.size + 1, 0, none⟩ = some (.int .u64 (n1 : Nat)) ∧ w'.cell? ⟨w.heap.size + 1, 1, none⟩ = some (.int .u64 (n2 : Nat))) (go_keep)
    (first
      | (have q := hG3; clear q; go_at_call 20; refine (nb_k2 (u := v3) (T := t1) (N := n1) (b := w.heap.size) _ hG3 (by assumption) (by assumption) (by assumption) (by assumption) (by assumption) (by assumption)).mono ?_; rintro e w4 ⟨cv, cu, gv, gu, rfl, hu, hcv, hcu, hb4, r0, r1, r2, r3⟩)
      | (have q := hG3; clear q; go_at_call 20; refine (nb_k2 (u := v3) (T := t2) (N := n2) (b := w.heap.size) _ hG3 (by assumption) (by assumption) (by assumption) (by assumption) (by assumption) (by assumption)).mono ?_; rintro e w4 ⟨cv, cu, gv, gu, rfl, hu, hcv, hcu, hb4, r0, r1, r2, r3⟩)
      | (go_at_call 20; refine (nb_k (b := w.heap.size) _ (by assumption) (by assumption) (by assumption) (by assumption) (by assumption) (by assumption)).mono ?_; rintro e w3 ⟨v3, rfl, hG3, hb3, p0, p1, p2, p3⟩))
  all_goals
    subst hu
    clear hG3
    first
      | rw [HS2.out] at hcv
        rw [HS1.out] at hcu
      | rw [HS1.out] at hcv
        rw [HS2.out] at hcu
    have HB3 : Hid (Below w2.heap.size w2 w4) := (((⟨hb3.os, hb3.tape, hb3.output, hb3.size, hb3.block⟩ : Below w2.heap.size w2 w3)).trans (hb4.mono hb3.size) : Below w2.heap.size w2 w4)
    clear hb3 hb4 q0 q1 q2 q3
    go_wp2_with fail
    refine (sure_any _ (hg.later (HB2.out.trans (HB3.out.mono HB2.out.size)))).mono ?_
    rintro e w5 ⟨rfl, hb5⟩
    go_wp2_with fail
    go_ret
    exact ⟨rfl, HB2.out.trans ((HB3.out.mono HB2.out.size).trans (hb5.mono (Nat.le_trans HB2.out.size HB3.out.size)))⟩

set_option maxRecDepth 100000 in
set_option maxHeartbeats 4000000 in
theorem nbytes_bad_nen (oa : Option Addr) (n cp : Nat) (t1 n1 n2 : Nat) (w : World) (hg : Handle w) (h100 : n ≤ 100) (h12 : n ≠ 12) (ht1 : t1 < 4294967296) (hn1 : n1 < 18446744073709551616) (hn2 : n2 < 18446744073709551616) (hne : n1 ≠ n2) :
    Calls Tryd.prog 4 #[.slice oa n cp, .agg #[.int .u32 t1, .int .u32 t1], .agg #[.int .u64 n1, .int .u64 n2]] w fun e w' => e = .returned (.bool true) ∧ Below w.heap.size w w' := by
  obtain ⟨s1, hs1⟩ : ∃ s, strF 12 (nbF t1 n1) = s := ⟨_, rfl⟩
  obtain ⟨s2, hs2⟩ : ∃ s, strF 12 (nbF t1 n2) = s := ⟨_, rfl⟩
  have hss : s1 ≠ s2 := fun e => by
    rw [← hs1, ← hs2] at e
    have := nbF_inj ht1 hn1 ht1 hn2 e
    omega

  have hss2 := str_ne hss
  have hss4 : (s1.toList == s2.toList) = false := by rw [beq_eq_false_iff_ne]; exact hss2
  have HS1 : Hid _ := hs1
  have HS2 : Hid _ := hs2
  have c1 : ((n1 : Int) == (n2 : Int)) = false := by rw [beq_eq_false_iff_ne]; omega
  clear hs1 hs2 hne hss
  have g1 : ((n : Int) != 12) = true := by rw [bne_iff_ne]; omega
  have g2 : (n : Int) ≤ 100 := by omega
  have H12 : Hid _ := h12
  clear h12 h100
  go_enter Tryd.func4, Tryd.ntmps4
  go_wp2_with fail
  refine (parse_bad oa n cp _ H12.out).mono ?_
  rintro e w0 ⟨rfl, rfl⟩
  go_wp2_with fail
  refine (num_err 4 _ ((hg.alloc _).alloc _)).mono ?_
  rintro e w2 ⟨rfl, hb2⟩
  have q0 : w2.cell? ⟨w.heap.size, 0, none⟩ = some (.int .u32 (t1 : Nat)) := cell_below hb2 (by rw [cell_old (by simp), cell_new rfl]; rfl)
  have q1 : w2.cell? ⟨w.heap.size, 1, none⟩ = some (.int .u32 (t1 : Nat)) := cell_below hb2 (by rw [cell_old (by simp), cell_new rfl]; rfl)
  have q2 : w2.cell? ⟨w.heap.size + 1, 0, none⟩ = some (.int .u64 (n1 : Nat)) := cell_below hb2 (by rw [cell_new (by simp)]; rfl)
  have q3 : w2.cell? ⟨w.heap.size + 1, 1, none⟩ = some (.int .u64 (n2 : Nat)) := cell_below hb2 (by rw [cell_new (by simp)]; rfl)
  have hB2 : Below w.heap.size w w2 := (((Below.refl _ _).alloc (Nat.le_refl _) _).alloc (by simp) _).trans (hb2.mono (by simp; omega))
  have HB2 : Hid _ := hB2
  clear hb2 hB2
  go_wp2_with fail
  go_region_held3 (fun w' => w'.cell? ⟨w.heap.size, 0, none⟩ = some (.int .u32 (t1 : Nat)) ∧ w'.cell? ⟨w.heap.size, 1, none⟩ = some (.int .u32 (t1 : Nat)) ∧ w'.cell? ⟨w.heap.size + 1, 0, none⟩ = some (.int .u64 (n1 : Nat)) ∧ w'.cell? ⟨w.heap.size + 1, 1, none⟩ = some (.int .u64 (n2 : Nat))) (go_keep)
    (first
      | (have q := hG3; clear q; go_at_call 20; refine (nb_k2 (u := v3) (T := t1) (N := n1) (b := w.heap.size) _ hG3 (by assumption) (by assumption) (by assumption) (by assumption) (by assumption) (by assumption)).mono ?_; rintro e w4 ⟨cv, cu, gv, gu, rfl, hu, hcv, hcu, hb4, r0, r1, r2, r3⟩)
      | (have q := hG3; clear q; go_at_call 20; refine (nb_k2 (u := v3) (T := t1) (N := n2) (b := w.heap.size) _ hG3 (by assumption) (by assumption) (by assumption) (by assumption) (by assumption) (by assumption)).mono ?_; rintro e w4 ⟨cv, cu, gv, gu, rfl, hu, hcv, hcu, hb4, r0, r1, r2, r3⟩)
      | (go_at_call 20; refine (nb_k (b := w.heap.size) _ (by assumption) (by assumption) (by assumption) (by assumption) (by assumption) (by assumption)).mono ?_; rintro e w3 ⟨v3, rfl, hG3, hb3, p0, p1, p2, p3⟩))
  all_goals
    subst hu
    clear hG3
    first
      | rw [HS2.out] at hcv
        rw [HS1.out] at hcu
      | rw [HS1.out] at hcv
        rw [HS2.out] at hcu
    have HB3 : Hid (Below w2.heap.size w2 w4) := (((⟨hb3.os, hb3.tape, hb3.output, hb3.size, hb3.block⟩ : Below w2.heap.size w2 w3)).trans (hb4.mono hb3.size) : Below w2.heap.size w2 w4)
    clear hb3 hb4 q0 q1 q2 q3
    go_wp2_with fail
    refine (sure_any _ (hg.later (HB2.out.trans (HB3.out.mono HB2.out.size)))).mono ?_
    rintro e w5 ⟨rfl, hb5⟩
    go_wp2_with fail
    go_ret
    exact ⟨rfl, HB2.out.trans ((HB3.out.mono HB2.out.size).trans (hb5.mono (Nat.le_trans HB2.out.size HB3.out.size)))⟩

set_option maxRecDepth 100000 in
set_option maxHeartbeats 4000000 in
theorem nbytes_ok_eq (cb co cp : Nat) (t1 n1 : Nat) (w : World) (hg : Handle w) (f : Nat → Nat) (hb : Bytes w (some ⟨cb, co, none⟩) 12 f) (hc : 12 ≤ cp) (ht1 : t1 < 4294967296) (hn1 : n1 < 18446744073709551616)  :
    Calls Tryd.prog 4 #[.slice (some ⟨cb, co, none⟩) 12 cp, .agg #[.int .u32 t1, .int .u32 t1], .agg #[.int .u64 n1, .int .u64 n1]] w fun e w' => e = .returned (.bool true) ∧ Below w.heap.size w w' := by
  obtain ⟨s1, hs1⟩ : ∃ s, strF 12 (nbF t1 n1) = s := ⟨_, rfl⟩
  have HS1 : Hid _ := hs1
  clear hs1
  obtain ⟨sb, hsb⟩ : ∃ s, strF 12 f = s := ⟨_, rfl⟩
  obtain ⟨T, hT⟩ : ∃ T, beN f 0 4 = T := ⟨_, rfl⟩
  obtain ⟨N, hN⟩ : ∃ N, beN f 4 8 = N := ⟨_, rfl⟩
  have hTl : T < 4294967296 := hT ▸ beN_lt 4 fun i hi => by rw [Nat.zero_add]; exact (hb i (by omega)).1
  have hNl : N < 18446744073709551616 := hN ▸ beN_lt 8 fun i hi => (hb (4 + i) (by omega)).1
  have hTN : strF 12 (nbF T N) = sb := by rw [← hsb, ← hT, ← hN]; exact strF_congr (nbF_be fun i hi => (hb i hi).1)
  have HPA := Lib.hid (fun w (hb : Bytes w (some ⟨cb, co, none⟩) 12 f) => hT ▸ hN ▸ parse_any cb co cp f w hb hc)
  have HB := Lib.hid hb
  have HSB : Hid _ := hsb
  have HTN : Hid _ := hTN
  clear hb hsb hT hN hTN hc
  go_enter Tryd.func4, Tryd.ntmps4
  go_wp2_with fail
  refine (HPA.out _ ?b1).mono ?_
  case b1 => exact (HB.out.alloc _).alloc _
  rintro e w0 ⟨rfl, rfl⟩
  have hcb0 : (convert 31 9 (.slice (some ⟨cb, co, none⟩) 12 cp)).run Tryd.prog ((w.alloc (.cells #[.int .u32 t1, .int .u32 t1] 47)).alloc (.cells #[.int .u64 n1, .int .u64 n1] 48)).drew = .ok (.string sb) ((w.alloc (.cells #[.int .u32 t1, .int .u32 t1] 47)).alloc (.cells #[.int .u64 n1, .int .u64 n1] 48)).drew := HSB.out ▸ Bytes.conv (w := ((w.alloc (.cells #[.int .u32 t1, .int .u32 t1] 47)).alloc (.cells #[.int .u64 n1, .int .u64 n1] 48)).drew) ((HB.out.alloc _).alloc _)
  go_wp2_with fail
  go_region_with (go_at_call 20; refine (nb_grow _ hTl hNl).mono ?_; rintro e w2 ⟨v, rfl, hG, hb2⟩; have hcv := hG.conv; rw [HTN.out] at hcv; have hcb2 : (convert 31 9 (.slice (some ⟨cb, co, none⟩) 12 cp)).run Tryd.prog w2 = .ok (.string sb) w2 := HSB.out ▸ Bytes.conv (Bytes.later (w := ((w.alloc (.cells #[.int .u32 t1, .int .u32 t1] 47)).alloc (.cells #[.int .u64 n1, .int .u64 n1] 48)).drew) ((HB.out.alloc _).alloc _) hb2); clear hG)
  all_goals
    clear hcv hcb2
    replace hb2 : Below ((w.alloc (.cells #[.int .u32 t1, .int .u32 t1] 47)).alloc (.cells #[.int .u64 n1, .int .u64 n1] 48)).heap.size ((w.alloc (.cells #[.int .u32 t1, .int .u32 t1] 47)).alloc (.cells #[.int .u64 n1, .int .u64 n1] 48)) w2 := ⟨hb2.os, hb2.tape, hb2.output, hb2.size, hb2.block⟩
    have q0 : w2.cell? ⟨w.heap.size, 0, none⟩ = some (.int .u32 (t1 : Nat)) := cell_below hb2 (by rw [cell_old (by simp), cell_new rfl]; rfl)
    have q1 : w2.cell? ⟨w.heap.size, 1, none⟩ = some (.int .u32 (t1 : Nat)) := cell_below hb2 (by rw [cell_old (by simp), cell_new rfl]; rfl)
    have q2 : w2.cell? ⟨w.heap.size + 1, 0, none⟩ = some (.int .u64 (n1 : Nat)) := cell_below hb2 (by rw [cell_new (by simp)]; rfl)
    have q3 : w2.cell? ⟨w.heap.size + 1, 1, none⟩ = some (.int .u64 (n1 : Nat)) := cell_below hb2 (by rw [cell_new (by simp)]; rfl)
    have hB2 : Below w.heap.size w w2 := (((Below.refl _ _).alloc (Nat.le_refl _) _).alloc (by simp) _).trans (hb2.mono (by simp; omega))
    have HB2 : Hid _ := hB2
    clear hb2 hB2 hcb0
    go_wp2_with fail
    go_region_held3 (fun w' => w'.cell? ⟨w.heap.size, 0, none⟩ = some (.int .u32 (t1 : Nat)) ∧ w'.cell? ⟨w.heap.size, 1, none⟩ = some (.int .u32 (t1 : Nat)) ∧ w'.cell? ⟨w.heap.size + 1, 0, none⟩ = some (.int .u64 (n1 : Nat)) ∧ w'.cell? ⟨w.heap.size + 1, 1, none⟩ = some (.int .u64 (n1 : Nat))) (go_keep)
      (first
        | (have q := hG3; clear q; go_at_call 20; refine (nb_k2 (u := v3) (T := t1) (N := n1) (b := w.heap.size) _ hG3 (by assumption) (by assumption) (by assumption) (by assumption) (by assumption) (by assumption)).mono ?_; rintro e w4 ⟨cv, cu, gv, gu, rfl, hu, hcv, hcu, hb4, r0, r1, r2, r3⟩)
        | (have q := hG3; clear q; go_at_call 20; refine (nb_k2 (u := v3) (T := t1) (N := n1) (b := w.heap.size) _ hG3 (by assumption) (by assumption) (by assumption) (by assumption) (by assumption) (by assumption)).mono ?_; rintro e w4 ⟨cv, cu, gv, gu, rfl, hu, hcv, hcu, hb4, r0, r1, r2, r3⟩)
        | (go_at_call 20; refine (nb_k (b := w.heap.size) _ (by assumption) (by assumption) (by assumption) (by assumption) (by assumption) (by assumption)).mono ?_; rintro e w3 ⟨v3, rfl, hG3, hb3, p0, p1, p2, p3⟩))
    all_goals
      subst hu
      clear hG3
      rw [HS1.out] at hcv hcu
      have HB3 : Hid (Below w2.heap.size w2 w4) := (((⟨hb3.os, hb3.tape, hb3.output, hb3.size, hb3.block⟩ : Below w2.heap.size w2 w3)).trans (hb4.mono hb3.size) : Below w2.heap.size w2 w4)
      clear hb3 hb4 q0 q1 q2 q3
      go_wp2_with fail
      refine (sure_any _ (hg.later (HB2.out.trans (HB3.out.mono HB2.out.size)))).mono ?_
      rintro e w5 ⟨rfl, hb5⟩
      go_wp2_with fail
      go_ret
      exact ⟨rfl, HB2.out.trans ((HB3.out.mono HB2.out.size).trans (hb5.mono (Nat.le_trans HB2.out.size HB3.out.size)))⟩

set_option maxRecDepth 100000 in
set_option maxHeartbeats 4000000 in
theorem nbytes_ok_net (cb co cp : Nat) (t1 t2 n1 n2 : Nat) (w : World) (hg : Handle w) (f : Nat → Nat) (hb : Bytes w (some ⟨cb, co, none⟩) 12 f) (hc : 12 ≤ cp) (ht1 : t1 < 4294967296) (ht2 : t2 < 4294967296) (hn1 : n1 < 18446744073709551616) (hn2 : n2 < 18446744073709551616) (hne : t1 ≠ t2) :
    Calls Tryd.prog 4 #[.slice (some ⟨cb, co, none⟩) 12 cp, .agg #[.int .u32 t1, .int .u32 t2], .agg #[.int .u64 n1, .int .u64 n2]] w fun e w' => e = .returned (.bool true) ∧ Below w.heap.size w w' := by
  obtain ⟨s1, hs1⟩ : ∃ s, strF 12 (nbF t1 n1) = s := ⟨_, rfl⟩
  obtain ⟨s2, hs2⟩ : ∃ s, strF 12 (nbF t2 n2) = s := ⟨_, rfl⟩
  have hss : s1 ≠ s2 := fun e => by
    rw [← hs1, ← hs2] at e
    have := nbF_inj ht1 hn1 ht2 hn2 e
    omega

  have hss2 := str_ne hss
  have hss4 : (s1.toList == s2.toList) = false := by rw [beq_eq_false_iff_ne]; exact hss2
  have HS1 : Hid _ := hs1
  have HS2 : Hid _ := hs2
  have c1 : ((t1 : Int) == (t2 : Int)) = false := by rw [beq_eq_false_iff_ne]; omega
  clear hs1 hs2 hne hss
  obtain ⟨sb, hsb⟩ : ∃ s, strF 12 f = s := ⟨_, rfl⟩
  obtain ⟨T, hT⟩ : ∃ T, beN f 0 4 = T := ⟨_, rfl⟩
  obtain ⟨N, hN⟩ : ∃ N, beN f 4 8 = N := ⟨_, rfl⟩
  have hTl : T < 4294967296 := hT ▸ beN_lt 4 fun i hi => by rw [Nat.zero_add]; exact (hb i (by omega)).1
  have hNl : N < 18446744073709551616 := hN ▸ beN_lt 8 fun i hi => (hb (4 + i) (by omega)).1
  have hTN : strF 12 (nbF T N) = sb := by rw [← hsb, ← hT, ← hN]; exact strF_congr (nbF_be fun i hi => (hb i hi).1)
  have HPA := Lib.hid (fun w (hb : Bytes w (some ⟨cb, co, none⟩) 12 f) => hT ▸ hN ▸ parse_any cb co cp f w hb hc)
  have HB := Lib.hid hb
  have HSB : Hid _ := hsb
  have HTN : Hid _ := hTN
  clear hb hsb hT hN hTN hc
  go_enter Tryd.func4, Tryd.ntmps4
  go_wp2_with fail
  refine (HPA.out _ ?b1).mono ?_
  case b1 => exact (HB.out.alloc _).alloc _
  rintro e w0 ⟨rfl, rfl⟩
  have hcb0 : (convert 31 9 (.slice (some ⟨cb, co, none⟩) 12 cp)).run Tryd.prog ((w.alloc (.cells #[.int .u32 t1, .int .u32 t2] 47)).alloc (.cells #[.int .u64 n1, .int .u64 n2] 48)).drew = .ok (.string sb) ((w.alloc (.cells #[.int .u32 t1, .int .u32 t2] 47)).alloc (.cells #[.int .u64 n1, .int .u64 n2] 48)).drew := HSB.out ▸ Bytes.conv (w := ((w.alloc (.cells #[.int .u32 t1, .int .u32 t2] 47)).alloc (.cells #[.int .u64 n1, .int .u64 n2] 48)).drew) ((HB.out.alloc _).alloc _)
  go_wp2_with fail
  go_region_with (go_at_call 20; refine (nb_grow _ hTl hNl).mono ?_; rintro e w2 ⟨v, rfl, hG, hb2⟩; have hcv := hG.conv; rw [HTN.out] at hcv; have hcb2 : (convert 31 9 (.slice (some ⟨cb, co, none⟩) 12 cp)).run Tryd.prog w2 = .ok (.string sb) w2 := HSB.out ▸ Bytes.conv (Bytes.later (w := ((w.alloc (.cells #[.int .u32 t1, .int .u32 t2] 47)).alloc (.cells #[.int .u64 n1, .int .u64 n2] 48)).drew) ((HB.out.alloc _).alloc _) hb2); clear hG)
  all_goals
    clear hcv hcb2
    replace hb2 : Below ((w.alloc (.cells #[.int .u32 t1, .int .u32 t2] 47)).alloc (.cells #[.int .u64 n1, .int .u64 n2] 48)).heap.size ((w.alloc (.cells #[.int .u32 t1, .int .u32 t2] 47)).alloc (.cells #[.int .u64 n1, .int .u64 n2] 48)) w2 := ⟨hb2.os, hb2.tape, hb2.output, hb2.size, hb2.block⟩
    have q0 : w2.cell? ⟨w.heap.size, 0, none⟩ = some (.int .u32 (t1 : Nat)) := cell_below hb2 (by rw [cell_old (by simp), cell_new rfl]; rfl)
    have q1 : w2.cell? ⟨w.heap.size, 1, none⟩ = some (.int .u32 (t2 : Nat)) := cell_below hb2 (by rw [cell_old (by simp), cell_new rfl]; rfl)
    have q2 : w2.cell? ⟨w.heap.size + 1, 0, none⟩ = some (.int .u64 (n1 : Nat)) := cell_below hb2 (by rw [cell_new (by simp)]; rfl)
    have q3 : w2.cell? ⟨w.heap.size + 1, 1, none⟩ = some (.int .u64 (n2 : Nat)) := cell_below hb2 (by rw [cell_new (by simp)]; rfl)
    have hB2 : Below w.heap.size w w2 := (((Below.refl _ _).alloc (Nat.le_refl _) _).alloc (by simp) _).trans (hb2.mono (by simp; omega))
    have HB2 : Hid _ := hB2
    clear hb2 hB2 hcb0
    go_wp2_with fail
    go_region_held3 (fun w' => w'.cell? ⟨w.heap.size, 0, none⟩ = some (.int .u32 (t1 : Nat)) ∧ w'.cell? ⟨w.heap.size, 1, none⟩ = some (.int .u32 (t2 : Nat)) ∧ w'.cell? ⟨w.heap.size + 1, 0, none⟩ = some (.int .u64 (n1 : Nat)) ∧ w'.cell? ⟨w.heap.size + 1, 1, none⟩ = some (.int .u64 (n2 : Nat))) (go_keep)
      (first
        | (have q := hG3; clear q; go_at_call 20; refine (nb_k2 (u := v3) (T := t1) (N := n1) (b := w.heap.size) _ hG3 (by assumption) (by assumption) (by assumption) (by assumption) (by assumption) (by assumption)).mono ?_; rintro e w4 ⟨cv, cu, gv, gu, rfl, hu, hcv, hcu, hb4, r0, r1, r2, r3⟩)
        | (have q := hG3; clear q; go_at_call 20; refine (nb_k2 (u := v3) (T := t2) (N := n2) (b := w.heap.size) _ hG3 (by assumption) (by assumption) (by assumption) (by assumption) (by assumption) (by assumption)).mono ?_; rintro e w4 ⟨cv, cu, gv, gu, rfl, hu, hcv, hcu, hb4, r0, r1, r2, r3⟩)
        | (go_at_call 20; refine (nb_k (b := w.heap.size) _ (by assumption) (by assumption) (by assumption) (by assumption) (by assumption) (by assumption)).mono ?_; rintro e w3 ⟨v3, rfl, hG3, hb3, p0, p1, p2, p3⟩))
    all_goals
      subst hu
      clear hG3
      first
        | rw [HS2.out] at hcv
          rw [HS1.out] at hcu
        | rw [HS1.out] at hcv
          rw [HS2.out] at hcu
      have HB3 : Hid (Below w2.heap.size w2 w4) := (((⟨hb3.os, hb3.tape, hb3.output, hb3.size, hb3.block⟩ : Below w2.heap.size w2 w3)).trans (hb4.mono hb3.size) : Below w2.heap.size w2 w4)
      clear hb3 hb4 q0 q1 q2 q3
      go_wp2_with fail
      refine (sure_any _ (hg.later (HB2.out.trans (HB3.out.mono HB2.out.size)))).mono ?_
      rintro e w5 ⟨rfl, hb5⟩
      go_wp2_with fail
      go_ret
      exact ⟨rfl, HB2.out.trans ((HB3.out.mono HB2.out.size).trans (hb5.mono (Nat.le_trans HB2.out.size HB3.out.size)))⟩

set_option maxRecDepth 100000 in
set_option maxHeartbeats 4000000 in
theorem nbytes_ok_nen (cb co cp : Nat) (t1 n1 n2 : Nat) (w : World) (hg : Handle w) (f : Nat → Nat) (hb : Bytes w (some ⟨cb, co, none⟩) 12 f) (hc : 12 ≤ cp) (ht1 : t1 < 4294967296) (hn1 : n1 < 18446744073709551616) (hn2 : n2 < 18446744073709551616) (hne : n1 ≠ n2) :
    Calls Tryd.prog 4 #[.slice (some ⟨cb, co, none⟩) 12 cp, .agg #[.int .u32 t1, .int .u32 t1], .agg #[.int .u64 n1, .int .u64 n2]] w fun e w' => e = .returned (.bool true) ∧ Below w.heap.size w w' := by
  obtain ⟨s1, hs1⟩ : ∃ s, strF 12 (nbF t1 n1) = s := ⟨_, rfl⟩
  obtain ⟨s2, hs2⟩ : ∃ s, strF 12 (nbF t1 n2) = s := ⟨_, rfl⟩
  have hss : s1 ≠ s2 := fun e => by
    rw [← hs1, ← hs2] at e
    have := nbF_inj ht1 hn1 ht1 hn2 e
    omega

  have hss2 := str_ne hss
  have hss4 : (s1.toList == s2.toList) = false := by rw [beq_eq_false_iff_ne]; exact hss2
  have HS1 : Hid _ := hs1
  have HS2 : Hid _ := hs2
  have c1 : ((n1 : Int) == (n2 : Int)) = false := by rw [beq_eq_false_iff_ne]; omega
  clear hs1 hs2 hne hss
  obtain ⟨sb, hsb⟩ : ∃ s, strF 12 f = s := ⟨_, rfl⟩
  obtain ⟨T, hT⟩ : ∃ T, beN f 0 4 = T := ⟨_, rfl⟩
  obtain ⟨N, hN⟩ : ∃ N, beN f 4 8 = N := ⟨_, rfl⟩
  have hTl : T < 4294967296 := hT ▸ beN_lt 4 fun i hi => by rw [Nat.zero_add]; exact (hb i (by omega)).1
  have hNl : N < 18446744073709551616 := hN ▸ beN_lt 8 fun i hi => (hb (4 + i) (by omega)).1
  have hTN : strF 12 (nbF T N) = sb := by rw [← hsb, ← hT, ← hN]; exact strF_congr (nbF_be fun i hi => (hb i hi).1)
  have HPA := Lib.hid (fun w (hb : Bytes w (some ⟨cb, co, none⟩) 12 f) => hT ▸ hN ▸ parse_any cb co cp f w hb hc)
  have HB := Lib.hid hb
  have HSB : Hid _ := hsb
  have HTN : Hid _ := hTN
  clear hb hsb hT hN hTN hc
  go_enter Tryd.func4, Tryd.ntmps4
  go_wp2_with fail
  refine (HPA.out _ ?b1).mono ?_
  case b1 => exact (HB.out.alloc _).alloc _
  rintro e w0 ⟨rfl, rfl⟩
  have hcb0 : (convert 31 9 (.slice (some ⟨cb, co, none⟩) 12 cp)).run Tryd.prog ((w.alloc (.cells #[.int .u32 t1, .int .u32 t1] 47)).alloc (.cells #[.int .u64 n1, .int .u64 n2] 48)).drew = .ok (.string sb) ((w.alloc (.cells #[.int .u32 t1, .int .u32 t1] 47)).alloc (.cells #[.int .u64 n1, .int .u64 n2] 48)).drew := HSB.out ▸ Bytes.conv (w := ((w.alloc (.cells #[.int .u32 t1, .int .u32 t1] 47)).alloc (.cells #[.int .u64 n1, .int .u64 n2] 48)).drew) ((HB.out.alloc _).alloc _)
  go_wp2_with fail
  go_region_with (go_at_call 20; refine (nb_grow _ hTl hNl).mono ?_; rintro e w2 ⟨v, rfl, hG, hb2⟩; have hcv := hG.conv; rw [HTN.out] at hcv; have hcb2 : (convert 31 9 (.slice (some ⟨cb, co, none⟩) 12 cp)).run Tryd.prog w2 = .ok (.string sb) w2 := HSB.out ▸ Bytes.conv (Bytes.later (w := ((w.alloc (.cells #[.int .u32 t1, .int .u32 t1] 47)).alloc (.cells #[.int .u64 n1, .int .u64 n2] 48)).drew) ((HB.out.alloc _).alloc _) hb2); clear hG)
  all_goals
    clear hcv hcb2
    replace hb2 : Below ((w.alloc (.cells #[.int .u32 t1, .int .u32 t1] 47)).alloc (.cells #[.int .u64 n1, .int .u64 n2] 48)).heap.size ((w.alloc (.cells #[.int .u32 t1, .int .u32 t1] 47)).alloc (.cells #[.int .u64 n1, .int .u64 n2] 48)) w2 := ⟨hb2.os, hb2.tape, hb2.output, hb2.size, hb2.block⟩
    have q0 : w2.cell? ⟨w.heap.size, 0, none⟩ = some (.int .u32 (t1 : Nat)) := cell_below hb2 (by rw [cell_old (by simp), cell_new rfl]; rfl)
    have q1 : w2.cell? ⟨w.heap.size, 1, none⟩ = some (.int .u32 (t1 : Nat)) := cell_below hb2 (by rw [cell_old (by simp), cell_new rfl]; rfl)
    have q2 : w2.cell? ⟨w.heap.size + 1, 0, none⟩ = some (.int .u64 (n1 : Nat)) := cell_below hb2 (by rw [cell_new (by simp)]; rfl)
    have q3 : w2.cell? ⟨w.heap.size + 1, 1, none⟩ = some (.int .u64 (n2 : Nat)) := cell_below hb2 (by rw [cell_new (by simp)]; rfl)
    have hB2 : Below w.heap.size w w2 := (((Below.refl _ _).alloc (Nat.le_refl _) _).alloc (by simp) _).trans (hb2.mono (by simp; omega))
    have HB2 : Hid _ := hB2
    clear hb2 hB2 hcb0
    go_wp2_with fail
    go_region_held3 (fun w' => w'.cell? ⟨w.heap.size, 0, none⟩ = some (.int .u32 (t1 : Nat)) ∧ w'.cell? ⟨w.heap.size, 1, none⟩ = some (.int .u32 (t1 : Nat)) ∧ w'.cell? ⟨w.heap.size + 1, 0, none⟩ = some (.int .u64 (n1 : Nat)) ∧ w'.cell? ⟨w.heap.size + 1, 1, none⟩ = some (.int .u64 (n2 : Nat))) (go_keep)
      (first
        | (have q := hG3; clear q; go_at_call 20; refine (nb_k2 (u := v3) (T := t1) (N := n1) (b := w.heap.size) _ hG3 (by assumption) (by assumption) (by assumption) (by assumption) (by assumption) (by assumption)).mono ?_; rintro e w4 ⟨cv, cu, gv, gu, rfl, hu, hcv, hcu, hb4, r0, r1, r2, r3⟩)
        | (have q := hG3; clear q; go_at_call 20; refine (nb_k2 (u := v3) (T := t1) (N := n2) (b := w.heap.size) _ hG3 (by assumption) (by assumption) (by assumption) (by assumption) (by assumption) (by assumption)).mono ?_; rintro e w4 ⟨cv, cu, gv, gu, rfl, hu, hcv, hcu, hb4, r0, r1, r2, r3⟩)
        | (go_at_call 20; refine (nb_k (b := w.heap.size) _ (by assumption) (by assumption) (by assumption) (by assumption) (by assumption) (by assumption)).mono ?_; rintro e w3 ⟨v3, rfl, hG3, hb3, p0, p1, p2, p3⟩))
    all_goals
      subst hu
      clear hG3
      first
        | rw [HS2.out] at hcv
          rw [HS1.out] at hcu
        | rw [HS1.out] at hcv
          rw [HS2.out] at hcu
      have HB3 : Hid (Below w2.heap.size w2 w4) := (((⟨hb3.os, hb3.tape, hb3.output, hb3.size, hb3.block⟩ : Below w2.heap.size w2 w3)).trans (hb4.mono hb3.size) : Below w2.heap.size w2 w4)
      clear hb3 hb4 q0 q1 q2 q3
      go_wp2_with fail
      refine (sure_any _ (hg.later (HB2.out.trans (HB3.out.mono HB2.out.size)))).mono ?_
      rintro e w5 ⟨rfl, hb5⟩
      go_wp2_with fail
      go_ret
      exact ⟨rfl, HB2.out.trans ((HB3.out.mono HB2.out.size).trans (hb5.mono (Nat.le_trans HB2.out.size HB3.out.size)))⟩
end Go.Proofs.YtkaddilgegimjaaDoor
