/- The walk of NonceRuns, where a counter may be. -/
import Derived.Test.YtkaddilgegimjaaDoorNt
import Derived.Test.YtkaddilgegimjaaDoorCame
import Derived.Deep.DeepCutAuto
namespace Go.Proofs.YtkaddilgegimjaaDoor
set_option linter.unusedVariables false
set_option linter.unusedSimpArgs false
open Go.RowKit

theorem extI_bd {b l : Int} (h0 : 0 ≤ b) (h : b ≤ l) : b ≤ extI b l ∧ extI b l ≤ l := by unfold extI; split <;> omega
theorem u64_in {x : Int} (h0 : 0 ≤ x) (h1 : x ≤ 18446744073709551615) : IntKind.u64.wrap x = x := by simp [IntKind.wrap, IntKind.bits, IntKind.signed]; omega

set_option maxRecDepth 100000 in
set_option maxHeartbeats 8000000 in
theorem nruns_yes (oa : Option Addr) (n cp : Nat) (f : Nat → Bool) (m l : Nat) (w : World) (hg : Handle w) (hb : Bools w oa n f) (hn : n ≤ maxLen) (hm : m < 18446744073709551616) (hl : l < 18446744073709551616) (h1 : m ≤ l) (h2 : l ≤ 281474976710656) :
    Calls Tryd.prog 3 #[.int .u64 m, .int .u64 l, .slice oa n cp] w fun e w' => e = .returned (.bool true) ∧ Below w.heap.size w w' := by
  have hnm : (n : Int) ≤ 9223372036854775807 := by unfold maxLen at hn; omega
  have hN0 := Nw.new hg
  have hN0d := hN0.drew
  obtain ⟨s, hs⟩ : ∃ s, strF 12 (nbF (m % 4294967296) l) = s := ⟨_, rfl⟩
  have HS := Lib.hid hs
  have HB := Lib.hid hb
  have HM := Lib.hid (show (m : Int) % 4294967296 = ((m % 4294967296 : Nat) : Int) by omega)
  have HL := Lib.hid (show (l : Int) % 4294967296 = ((l % 4294967296 : Nat) : Int) by omega)
  have hm2 : m % 4294967296 < 4294967296 := by omega
  have hl2 : l % 4294967296 < 4294967296 := by omega
  have i1 : (m : Int) ≤ (l : Int) := by omega
  have i2 : (l : Int) ≤ 281474976710656 := by omega
  have hnot : ∀ (x : Bool) (w : World), (Op.unary .not (.bool x)).run Tryd.prog w = .ok (.bool (!x)) w := fun _ _ => rfl
  clear hs hb hn
  go_enter Tryd.func3, Tryd.ntmps3
  go_wp2_with fail
  refine (take_nil _).mono ?_
  rintro e w' ⟨rfl, rfl⟩
  go_wp2_with fail
  refine (ext_nil _).mono ?_
  rintro e w' ⟨rfl, rfl⟩
  go_upto_region 4 with fail
  go_cut [68] (fun s68 wx => s68 = .bool false ∧ Nw w wx)
  case first =>
    go_region_with
      (first
        | (have q := hN3; clear q; go_at_call 20; refine (nb_t2 (w0 := w) (u := v3) (t := m % 4294967296) (n := l) (s := s) _ ?_ ?_ HM.out rfl hm2 hl HS.out).mono ?_; exact hN3; exact hT3; rintro e w4 ⟨v4, rfl, hN4, hv4, hu4⟩)
        | (have q := hN3; clear q; go_at_call 21; refine (rb_t2 (w0 := w) (u := v3) (t := m % 4294967296) (n := l) (s := s) _ ?_ ?_ HM.out rfl hm2 hl HS.out).mono ?_; exact hN3; exact hT3; rintro e w4 ⟨v4, rfl, hN4, hv4, hu4⟩)
        | (have q := hN2; clear q; go_at_call 20; refine (nb_t (w0 := w) (t := m % 4294967296) (n := l) (s := s) _ ?_ HM.out rfl hm2 hl HS.out).mono ?_; exact hN2; rintro e w3 ⟨v3, rfl, hT3, hN3, hv3⟩)
        | (have q := hN2; clear q; go_at_call 21; refine (rb_t (w0 := w) (t := m % 4294967296) (n := l) (s := s) _ ?_ HM.out rfl hm2 hl HS.out).mono ?_; exact hN2; rintro e w3 ⟨v3, rfl, hT3, hN3, hv3⟩)
        | (go_at_call 18; refine (mark_nil _).mono ?_; rintro e w' ⟨rfl, rfl⟩)
        | (go_at_call 19; refine (left_nil _).mono ?_; rintro e w' ⟨rfl, rfl⟩)
        | (have q := hN1; clear q; go_at_call 17; refine (num_err 1 _ ?_).mono ?_; exact hN1.handle; rintro e w2 ⟨rfl, hb2⟩; have hN2 := hN1.step hb2; clear hb2)
        | (go_at_call 17; refine (num_err 1 _ ?_).mono ?_; exact hN0d.handle; rintro e w1 ⟨rfl, hb1⟩; have hN1 := hN0d.step hb1; clear hb1))
    all_goals (go_wp2_with fail; go_meet; exact ⟨rfl, hN4⟩)
  case rest =>
    obtain ⟨rfl, hN4⟩ := hcut
    clear hN0 hN0d
    go_wp2_with fail
    refine (rb_p (w0 := w) (t := l % 4294967296) (n := m) _ hN4 HL.out rfl hl2 hm).mono ?_
    rintro e w5 ⟨g, rfl, hB5, hN5⟩
    go_wp2_with fail
    refine (parse_is (t := l % 4294967296) (n := m) _ hB5 HL.out rfl hl2 hm).mono ?_
    rintro e w' ⟨rfl, rfl⟩
    clear hB5 hN4
    go_wp2_with fail
    refine (new_any m l _ i1 i2).mono ?_
    rintro e w6 ⟨rfl, hC6, hb6⟩
    have hN6 := hN5.step hb6
    have hcge : w.heap.size ≤ w5.heap.size := hN5.1.size
    obtain ⟨cb, hcb⟩ : ∃ cb, w5.heap.size = cb := ⟨_, rfl⟩
    rw [hcb] at hC6 hcge ⊢
    clear hb6 hcb hN5
    go_wp2_with fail
    refine (rmay_yes m l _ i1 i2).mono ?_
    rintro e w' ⟨rfl, rfl⟩
    have hX6 : Blk (w6.alloc (.cells #[.int .u64 (m : Int), .int .u64 (m : Int), .int .u64 (l : Int)] 41)) w6.heap.size #[.int .u64 (m : Int), .int .u64 (m : Int), .int .u64 (l : Int)] 41 := Blk.new _ _ _
    have hC7 : Ctr (w6.alloc (.cells #[.int .u64 (m : Int), .int .u64 (m : Int), .int .u64 (l : Int)] 41)) cb m m l := Blk.alloc hC6 _
    have hN7 : Nw w (w6.alloc (.cells #[.int .u64 (m : Int), .int .u64 (m : Int), .int .u64 (l : Int)] 41)) := hN6.step ((Below.refl _ _).alloc (Nat.le_refl _) _)
    have hxge : w.heap.size ≤ w6.heap.size := hN6.1.size
    have hne : w6.heap.size ≠ cb := by have := Blk.lt hC6; omega
    obtain ⟨xb, hxb⟩ : ∃ xb, w6.heap.size = xb := ⟨_, rfl⟩
    have HXB := Lib.hid hxb
    rw [hxb] at hX6 hxge hne
    have H7 := Lib.hid hN7
    have HC7 := Lib.hid hC7
    have HX6 := Lib.hid hX6
    clear hN6 hC6 hX6 hC7 hN7 hxb
    go_wp2_with fail
    go_loopw [18] (fun i wr => ∃ (k : Nat) (a b : Int), k ≤ n ∧ k ≤ 200 ∧ i = .int .i64 k ∧ 0 ≤ a ∧ a ≤ b ∧ b ≤ (l : Int) ∧ Ctr wr cb a b l ∧ Blk wr xb #[.int .u64 a, .int .u64 b, .int .u64 (l : Int)] 41 ∧ Nw w wr) (fun i _ => 200 - (intOf i).toNat)
    case atStart => exact ⟨0, m, m, Nat.zero_le _, Nat.zero_le _, rfl, by omega, by omega, i1, HC7.out, HX6.out, H7.out⟩
    case round =>
      rw [HXB.out]
      obtain ⟨k, a, b, hk, hk2, rfl, ha, hab, hbl, hC, hX, hN⟩ := hrel
      clear H7 HC7 HX6 HXB
      by_cases hgo : k < n ∧ k < 200
      · obtain ⟨g1, g2⟩ := hgo
        obtain ⟨bb, bo, rfl, hcell⟩ := (Bools.later HB.out hN.1) k g1
        have j0 : (0 : Int) ≤ (k : Int) := by omega
        have j1 : (k : Int) < (n : Int) := by omega
        have j2 : (k : Int) < 200 := by omega
        rcases hfk : f k with _ | _
        · rw [hfk] at hcell
          clear hfk
          by_cases he : a = b
          · subst he
            go_wp2_with fail
            refine (take_short cb a l _ hC).mono ?_
            rintro e w' ⟨rfl, rfl⟩
            obtain ⟨w3, hw3⟩ : ∃ w3, w3 = wr := ⟨_, rfl⟩
            subst hw3
            have hC3 := hC
            have hX3 := hX
            have hN3 := hN
            have x0 : w3.cell? ⟨xb, 0, none⟩ = some (.int .u64 a) := Blk.cell hX3 0
            have x1 : w3.cell? ⟨xb, 1, none⟩ = some (.int .u64 a) := Blk.cell hX3 1
            have x2 : w3.cell? ⟨xb, 2, none⟩ = some (.int .u64 (l : Int)) := Blk.cell hX3 2
            clear hC hX hN
            go_wp2_with fail
            refine (rtake_short a l _).mono ?_
            rintro e w4 ⟨rfl, hb4⟩
            have hX4 := Blk.below hX3 hb4 (Blk.lt hX3)
            have hC4 : Ctr w4 cb (a) (a) l := Blk.below hC3 hb4 (Blk.lt hC3)
            have hN4 := hN3.step hb4
            have fz0 : (w4.alloc (.cells #[.int .u64 (a), .int .u64 (a), .int .u64 (l : Int)] 41)).frozen? ⟨xb, 0, none⟩ = false := Blk.free (Blk.alloc hX4 _) 0
            have fz1 : (w4.alloc (.cells #[.int .u64 (a), .int .u64 (a), .int .u64 (l : Int)] 41)).frozen? ⟨xb, 1, none⟩ = false := Blk.free (Blk.alloc hX4 _) 1
            have fz2 : (w4.alloc (.cells #[.int .u64 (a), .int .u64 (a), .int .u64 (l : Int)] 41)).frozen? ⟨xb, 2, none⟩ = false := Blk.free (Blk.alloc hX4 _) 2
            have cx0 : (w4.alloc (.cells #[.int .u64 (a), .int .u64 (a), .int .u64 (l : Int)] 41)).cell? ⟨xb, 0, none⟩ = some (.int .u64 a) := Blk.cell (Blk.alloc hX4 _) 0
            have cx1 : (w4.alloc (.cells #[.int .u64 (a), .int .u64 (a), .int .u64 (l : Int)] 41)).cell? ⟨xb, 1, none⟩ = some (.int .u64 a) := Blk.cell (Blk.alloc hX4 _) 1
            have cx2 : (w4.alloc (.cells #[.int .u64 (a), .int .u64 (a), .int .u64 (l : Int)] 41)).cell? ⟨xb, 2, none⟩ = some (.int .u64 (l : Int)) := Blk.cell (Blk.alloc hX4 _) 2
            have hX6 : Blk ((((w4.alloc (.cells #[.int .u64 (a), .int .u64 (a), .int .u64 (l : Int)] 41)).setCell ⟨xb, 0, none⟩ (.int .u64 (a))).setCell ⟨xb, 1, none⟩ (.int .u64 (a))).setCell ⟨xb, 2, none⟩ (.int .u64 (l : Int))) xb #[.int .u64 (a), .int .u64 (a), .int .u64 (l : Int)] 41 := Blk.set (Blk.set (Blk.set (Blk.alloc hX4 _) 0 _) 1 _) 2 _
            have hC6 : Ctr ((((w4.alloc (.cells #[.int .u64 (a), .int .u64 (a), .int .u64 (l : Int)] 41)).setCell ⟨xb, 0, none⟩ (.int .u64 (a))).setCell ⟨xb, 1, none⟩ (.int .u64 (a))).setCell ⟨xb, 2, none⟩ (.int .u64 (l : Int))) cb (a) (a) l := Blk.set_other (Blk.set_other (Blk.set_other (Blk.alloc hC4 _) (Ne.symm hne) _) (Ne.symm hne) _) (Ne.symm hne) _
            have hN6 : Nw w ((((w4.alloc (.cells #[.int .u64 (a), .int .u64 (a), .int .u64 (l : Int)] 41)).setCell ⟨xb, 0, none⟩ (.int .u64 (a))).setCell ⟨xb, 1, none⟩ (.int .u64 (a))).setCell ⟨xb, 2, none⟩ (.int .u64 (l : Int))) := hN4.at (((((Below.refl _ w4).alloc hN4.1.size _).setCell hxge _).setCell hxge _).setCell hxge _)
            have HX6 := Lib.hid hX6
            have HC6 := Lib.hid hC6
            have HN6 := Lib.hid hN6
            clear hX4 hC4 hN4 hX3 hC3 hN3 hb4 hX6 hC6 hN6 x0 x1 x2
            go_wp2_with fail
            refine (num_err 2 _ HN6.out.handle).mono ?_
            rintro e w7 ⟨rfl, hb7⟩
            have hX7 := Blk.below HX6.out hb7 (Blk.lt HX6.out)
            have hC7 : Ctr w7 cb (a) (a) l := Blk.below HC6.out hb7 (Blk.lt HC6.out)
            have hN7 := HN6.out.step hb7
            have y0 : w7.cell? ⟨xb, 0, none⟩ = some (.int .u64 (a)) := Blk.cell hX7 0
            have y1 : w7.cell? ⟨xb, 1, none⟩ = some (.int .u64 (a)) := Blk.cell hX7 1
            have hwr : IntKind.u64.wrap (a - a) = a - a := u64_in (by omega) (by omega)
            have HX7 := Lib.hid hX7
            have HC7 := Lib.hid hC7
            have HN7 := Lib.hid hN7
            clear HX6 HC6 HN6 hb7 hX7 hC7 hN7 fz0 fz1 fz2 cx0 cx1 cx2
            go_wp2_with fail
            go_quiet (first
              | (go_at_call 18; exact Calls.quiet_w (mark_any cb _ _ _ _ HC7.out))
              | (go_at_call 19; exact Calls.quiet_w (left_any cb _ _ _ _ HC7.out ⟨by omega, by omega, by omega⟩)))
            go_wp2_with fail
            go_roundw
            case rel => exact ⟨k + 1, a, a, by omega, by omega, by go_num, by omega, by omega, by omega, HC7.out, HX7.out, HN7.out.at ⟨rfl, rfl, rfl, Nat.le_refl _, fun _ _ => rfl⟩⟩
            case measure => simp [intOf]; omega
          · have hneq : (a == b) = false := by rw [beq_eq_false_iff_ne]; exact he
            go_wp2_with fail
            refine (take_next cb a b l _ hC hneq ⟨by omega, by omega⟩).mono ?_
            rintro e w3 ⟨rfl, hC3, hO3⟩
            have hX3 := hO3.blk hX hne
            have hN3 := hN.own hO3 hcge
            have x0 : w3.cell? ⟨xb, 0, none⟩ = some (.int .u64 a) := Blk.cell hX3 0
            have x1 : w3.cell? ⟨xb, 1, none⟩ = some (.int .u64 b) := Blk.cell hX3 1
            have x2 : w3.cell? ⟨xb, 2, none⟩ = some (.int .u64 (l : Int)) := Blk.cell hX3 2
            clear hC hX hN
            go_wp2_with fail
            refine (rtake_next a b l _ hneq ⟨by omega, by omega⟩).mono ?_
            rintro e w4 ⟨rfl, hb4⟩
            clear hneq
            have hX4 := Blk.below hX3 hb4 (Blk.lt hX3)
            have hC4 : Ctr w4 cb (a + 1) (b) l := Blk.below hC3 hb4 (Blk.lt hC3)
            have hN4 := hN3.step hb4
            have fz0 : (w4.alloc (.cells #[.int .u64 (a + 1), .int .u64 (b), .int .u64 (l : Int)] 41)).frozen? ⟨xb, 0, none⟩ = false := Blk.free (Blk.alloc hX4 _) 0
            have fz1 : (w4.alloc (.cells #[.int .u64 (a + 1), .int .u64 (b), .int .u64 (l : Int)] 41)).frozen? ⟨xb, 1, none⟩ = false := Blk.free (Blk.alloc hX4 _) 1
            have fz2 : (w4.alloc (.cells #[.int .u64 (a + 1), .int .u64 (b), .int .u64 (l : Int)] 41)).frozen? ⟨xb, 2, none⟩ = false := Blk.free (Blk.alloc hX4 _) 2
            have cx0 : (w4.alloc (.cells #[.int .u64 (a + 1), .int .u64 (b), .int .u64 (l : Int)] 41)).cell? ⟨xb, 0, none⟩ = some (.int .u64 a) := Blk.cell (Blk.alloc hX4 _) 0
            have cx1 : (w4.alloc (.cells #[.int .u64 (a + 1), .int .u64 (b), .int .u64 (l : Int)] 41)).cell? ⟨xb, 1, none⟩ = some (.int .u64 b) := Blk.cell (Blk.alloc hX4 _) 1
            have cx2 : (w4.alloc (.cells #[.int .u64 (a + 1), .int .u64 (b), .int .u64 (l : Int)] 41)).cell? ⟨xb, 2, none⟩ = some (.int .u64 (l : Int)) := Blk.cell (Blk.alloc hX4 _) 2
            have hX6 : Blk ((((w4.alloc (.cells #[.int .u64 (a + 1), .int .u64 (b), .int .u64 (l : Int)] 41)).setCell ⟨xb, 0, none⟩ (.int .u64 (a + 1))).setCell ⟨xb, 1, none⟩ (.int .u64 (b))).setCell ⟨xb, 2, none⟩ (.int .u64 (l : Int))) xb #[.int .u64 (a + 1), .int .u64 (b), .int .u64 (l : Int)] 41 := Blk.set (Blk.set (Blk.set (Blk.alloc hX4 _) 0 _) 1 _) 2 _
            have hC6 : Ctr ((((w4.alloc (.cells #[.int .u64 (a + 1), .int .u64 (b), .int .u64 (l : Int)] 41)).setCell ⟨xb, 0, none⟩ (.int .u64 (a + 1))).setCell ⟨xb, 1, none⟩ (.int .u64 (b))).setCell ⟨xb, 2, none⟩ (.int .u64 (l : Int))) cb (a + 1) (b) l := Blk.set_other (Blk.set_other (Blk.set_other (Blk.alloc hC4 _) (Ne.symm hne) _) (Ne.symm hne) _) (Ne.symm hne) _
            have hN6 : Nw w ((((w4.alloc (.cells #[.int .u64 (a + 1), .int .u64 (b), .int .u64 (l : Int)] 41)).setCell ⟨xb, 0, none⟩ (.int .u64 (a + 1))).setCell ⟨xb, 1, none⟩ (.int .u64 (b))).setCell ⟨xb, 2, none⟩ (.int .u64 (l : Int))) := hN4.at (((((Below.refl _ w4).alloc hN4.1.size _).setCell hxge _).setCell hxge _).setCell hxge _)
            have HX6 := Lib.hid hX6
            have HC6 := Lib.hid hC6
            have HN6 := Lib.hid hN6
            clear hX4 hC4 hN4 hX3 hC3 hN3 hb4 hX6 hC6 hN6 x0 x1 x2
            go_wp2_with fail
            refine (num_nil _).mono ?_
            rintro e w7 ⟨rfl, hb7⟩
            have hX7 := Blk.below HX6.out hb7 (Blk.lt HX6.out)
            have hC7 : Ctr w7 cb (a + 1) (b) l := Blk.below HC6.out hb7 (Blk.lt HC6.out)
            have hN7 := HN6.out.step hb7
            have y0 : w7.cell? ⟨xb, 0, none⟩ = some (.int .u64 (a + 1)) := Blk.cell hX7 0
            have y1 : w7.cell? ⟨xb, 1, none⟩ = some (.int .u64 (b)) := Blk.cell hX7 1
            have hwr : IntKind.u64.wrap (b - (a + 1)) = b - (a + 1) := u64_in (by omega) (by omega)
            have HX7 := Lib.hid hX7
            have HC7 := Lib.hid hC7
            have HN7 := Lib.hid hN7
            clear HX6 HC6 HN6 hb7 hX7 hC7 hN7 fz0 fz1 fz2 cx0 cx1 cx2
            go_wp2_with fail
            go_quiet (first
              | (go_at_call 18; exact Calls.quiet_w (mark_any cb _ _ _ _ HC7.out))
              | (go_at_call 19; exact Calls.quiet_w (left_any cb _ _ _ _ HC7.out ⟨by omega, by omega, by omega⟩)))
            go_wp2_with fail
            go_roundw
            case rel => exact ⟨k + 1, a + 1, b, by omega, by omega, by go_num, by omega, by omega, by omega, HC7.out, HX7.out, HN7.out.at ⟨rfl, rfl, rfl, Nat.le_refl _, fun _ _ => rfl⟩⟩
            case measure => simp [intOf]; omega
        · rw [hfk] at hcell
          clear hfk
          by_cases he : b = (l : Int)
          · subst he
            go_wp2_with fail
            refine (ext_full cb a l _ hC).mono ?_
            rintro e w' ⟨rfl, rfl⟩
            obtain ⟨w3, hw3⟩ : ∃ w3, w3 = wr := ⟨_, rfl⟩
            subst hw3
            have hC3 := hC
            have hX3 := hX
            have hN3 := hN
            have x0 : w3.cell? ⟨xb, 0, none⟩ = some (.int .u64 a) := Blk.cell hX3 0
            have x1 : w3.cell? ⟨xb, 1, none⟩ = some (.int .u64 (l : Int)) := Blk.cell hX3 1
            have x2 : w3.cell? ⟨xb, 2, none⟩ = some (.int .u64 (l : Int)) := Blk.cell hX3 2
            clear hC hX hN
            go_wp2_with fail
            refine (rext_full a l _).mono ?_
            rintro e w4 ⟨rfl, hb4⟩
            have hX4 := Blk.below hX3 hb4 (Blk.lt hX3)
            have hC4 : Ctr w4 cb (a) ((l : Int)) l := Blk.below hC3 hb4 (Blk.lt hC3)
            have hN4 := hN3.step hb4
            have fz0 : (w4.alloc (.cells #[.int .u64 (a), .int .u64 ((l : Int)), .int .u64 (l : Int)] 41)).frozen? ⟨xb, 0, none⟩ = false := Blk.free (Blk.alloc hX4 _) 0
            have fz1 : (w4.alloc (.cells #[.int .u64 (a), .int .u64 ((l : Int)), .int .u64 (l : Int)] 41)).frozen? ⟨xb, 1, none⟩ = false := Blk.free (Blk.alloc hX4 _) 1
            have fz2 : (w4.alloc (.cells #[.int .u64 (a), .int .u64 ((l : Int)), .int .u64 (l : Int)] 41)).frozen? ⟨xb, 2, none⟩ = false := Blk.free (Blk.alloc hX4 _) 2
            have cx0 : (w4.alloc (.cells #[.int .u64 (a), .int .u64 ((l : Int)), .int .u64 (l : Int)] 41)).cell? ⟨xb, 0, none⟩ = some (.int .u64 a) := Blk.cell (Blk.alloc hX4 _) 0
            have cx1 : (w4.alloc (.cells #[.int .u64 (a), .int .u64 ((l : Int)), .int .u64 (l : Int)] 41)).cell? ⟨xb, 1, none⟩ = some (.int .u64 (l : Int)) := Blk.cell (Blk.alloc hX4 _) 1
            have cx2 : (w4.alloc (.cells #[.int .u64 (a), .int .u64 ((l : Int)), .int .u64 (l : Int)] 41)).cell? ⟨xb, 2, none⟩ = some (.int .u64 (l : Int)) := Blk.cell (Blk.alloc hX4 _) 2
            have hX6 : Blk ((((w4.alloc (.cells #[.int .u64 (a), .int .u64 ((l : Int)), .int .u64 (l : Int)] 41)).setCell ⟨xb, 0, none⟩ (.int .u64 (a))).setCell ⟨xb, 1, none⟩ (.int .u64 ((l : Int)))).setCell ⟨xb, 2, none⟩ (.int .u64 (l : Int))) xb #[.int .u64 (a), .int .u64 ((l : Int)), .int .u64 (l : Int)] 41 := Blk.set (Blk.set (Blk.set (Blk.alloc hX4 _) 0 _) 1 _) 2 _
            have hC6 : Ctr ((((w4.alloc (.cells #[.int .u64 (a), .int .u64 ((l : Int)), .int .u64 (l : Int)] 41)).setCell ⟨xb, 0, none⟩ (.int .u64 (a))).setCell ⟨xb, 1, none⟩ (.int .u64 ((l : Int)))).setCell ⟨xb, 2, none⟩ (.int .u64 (l : Int))) cb (a) ((l : Int)) l := Blk.set_other (Blk.set_other (Blk.set_other (Blk.alloc hC4 _) (Ne.symm hne) _) (Ne.symm hne) _) (Ne.symm hne) _
            have hN6 : Nw w ((((w4.alloc (.cells #[.int .u64 (a), .int .u64 ((l : Int)), .int .u64 (l : Int)] 41)).setCell ⟨xb, 0, none⟩ (.int .u64 (a))).setCell ⟨xb, 1, none⟩ (.int .u64 ((l : Int)))).setCell ⟨xb, 2, none⟩ (.int .u64 (l : Int))) := hN4.at (((((Below.refl _ w4).alloc hN4.1.size _).setCell hxge _).setCell hxge _).setCell hxge _)
            have HX6 := Lib.hid hX6
            have HC6 := Lib.hid hC6
            have HN6 := Lib.hid hN6
            clear hX4 hC4 hN4 hX3 hC3 hN3 hb4 hX6 hC6 hN6 x0 x1 x2
            go_wp2_with fail
            refine (num_err 8 _ HN6.out.handle).mono ?_
            rintro e w7 ⟨rfl, hb7⟩
            have hX7 := Blk.below HX6.out hb7 (Blk.lt HX6.out)
            have hC7 : Ctr w7 cb (a) ((l : Int)) l := Blk.below HC6.out hb7 (Blk.lt HC6.out)
            have hN7 := HN6.out.step hb7
            have y0 : w7.cell? ⟨xb, 0, none⟩ = some (.int .u64 (a)) := Blk.cell hX7 0
            have y1 : w7.cell? ⟨xb, 1, none⟩ = some (.int .u64 ((l : Int))) := Blk.cell hX7 1
            have hwr : IntKind.u64.wrap ((l : Int) - a) = (l : Int) - a := u64_in (by omega) (by omega)
            have HX7 := Lib.hid hX7
            have HC7 := Lib.hid hC7
            have HN7 := Lib.hid hN7
            clear HX6 HC6 HN6 hb7 hX7 hC7 hN7 fz0 fz1 fz2 cx0 cx1 cx2
            go_wp2_with fail
            go_quiet (first
              | (go_at_call 18; exact Calls.quiet_w (mark_any cb _ _ _ _ HC7.out))
              | (go_at_call 19; exact Calls.quiet_w (left_any cb _ _ _ _ HC7.out ⟨by omega, by omega, by omega⟩)))
            go_wp2_with fail
            go_roundw
            case rel => exact ⟨k + 1, a, (l : Int), by omega, by omega, by go_num, by omega, by omega, by omega, HC7.out, HX7.out, HN7.out.at ⟨rfl, rfl, rfl, Nat.le_refl _, fun _ _ => rfl⟩⟩
            case measure => simp [intOf]; omega
          · have hneq : (b == (l : Int)) = false := by rw [beq_eq_false_iff_ne]; exact he
            obtain ⟨b2, hb2⟩ : ∃ b2, extI b l = b2 := ⟨_, rfl⟩
            have hbd := extI_bd (b := b) (l := l) (by omega) hbl
            have HE := Lib.hid (show ∀ (w : World), Ctr w cb a b l → Calls Tryd.prog 16 #[.pointer (some ⟨cb, 0, none⟩)] w fun e w' => e = .returned (.tuple #[.int .u64 b2, .nilIface]) ∧ Ctr w' cb a b2 l ∧ Own cb w w' from fun w h => hb2 ▸ ext_more cb a b l w h hneq ⟨by omega, by omega⟩)
            have HR := Lib.hid (show ∀ (w : World), Calls Tryd.prog 26 #[.agg #[.int .u64 a, .int .u64 b, .int .u64 (l : Int)]] w fun e w' => e = .returned (.tuple #[.agg #[.int .u64 a, .int .u64 b2, .int .u64 (l : Int)], .int .i64 0]) ∧ Below w.heap.size w w' from fun w => hb2 ▸ rext_more a b l w hneq ⟨by omega, by omega⟩ (by omega))
            rw [hb2] at hbd
            obtain ⟨hbd1, hbd2⟩ := hbd
            clear hb2
            go_wp2_with fail
            refine (HE.out _ hC).mono ?_
            rintro e w3 ⟨rfl, hC3, hO3⟩
            have hX3 := hO3.blk hX hne
            have hN3 := hN.own hO3 hcge
            have x0 : w3.cell? ⟨xb, 0, none⟩ = some (.int .u64 a) := Blk.cell hX3 0
            have x1 : w3.cell? ⟨xb, 1, none⟩ = some (.int .u64 b) := Blk.cell hX3 1
            have x2 : w3.cell? ⟨xb, 2, none⟩ = some (.int .u64 (l : Int)) := Blk.cell hX3 2
            clear hC hX hN
            go_wp2_with fail
            refine (HR.out _).mono ?_
            rintro e w4 ⟨rfl, hb4⟩
            clear hneq HE HR
            have hX4 := Blk.below hX3 hb4 (Blk.lt hX3)
            have hC4 : Ctr w4 cb (a) (b2) l := Blk.below hC3 hb4 (Blk.lt hC3)
            have hN4 := hN3.step hb4
            have fz0 : (w4.alloc (.cells #[.int .u64 (a), .int .u64 (b2), .int .u64 (l : Int)] 41)).frozen? ⟨xb, 0, none⟩ = false := Blk.free (Blk.alloc hX4 _) 0
            have fz1 : (w4.alloc (.cells #[.int .u64 (a), .int .u64 (b2), .int .u64 (l : Int)] 41)).frozen? ⟨xb, 1, none⟩ = false := Blk.free (Blk.alloc hX4 _) 1
            have fz2 : (w4.alloc (.cells #[.int .u64 (a), .int .u64 (b2), .int .u64 (l : Int)] 41)).frozen? ⟨xb, 2, none⟩ = false := Blk.free (Blk.alloc hX4 _) 2
            have cx0 : (w4.alloc (.cells #[.int .u64 (a), .int .u64 (b2), .int .u64 (l : Int)] 41)).cell? ⟨xb, 0, none⟩ = some (.int .u64 a) := Blk.cell (Blk.alloc hX4 _) 0
            have cx1 : (w4.alloc (.cells #[.int .u64 (a), .int .u64 (b2), .int .u64 (l : Int)] 41)).cell? ⟨xb, 1, none⟩ = some (.int .u64 b) := Blk.cell (Blk.alloc hX4 _) 1
            have cx2 : (w4.alloc (.cells #[.int .u64 (a), .int .u64 (b2), .int .u64 (l : Int)] 41)).cell? ⟨xb, 2, none⟩ = some (.int .u64 (l : Int)) := Blk.cell (Blk.alloc hX4 _) 2
            have hX6 : Blk ((((w4.alloc (.cells #[.int .u64 (a), .int .u64 (b2), .int .u64 (l : Int)] 41)).setCell ⟨xb, 0, none⟩ (.int .u64 (a))).setCell ⟨xb, 1, none⟩ (.int .u64 (b2))).setCell ⟨xb, 2, none⟩ (.int .u64 (l : Int))) xb #[.int .u64 (a), .int .u64 (b2), .int .u64 (l : Int)] 41 := Blk.set (Blk.set (Blk.set (Blk.alloc hX4 _) 0 _) 1 _) 2 _
            have hC6 : Ctr ((((w4.alloc (.cells #[.int .u64 (a), .int .u64 (b2), .int .u64 (l : Int)] 41)).setCell ⟨xb, 0, none⟩ (.int .u64 (a))).setCell ⟨xb, 1, none⟩ (.int .u64 (b2))).setCell ⟨xb, 2, none⟩ (.int .u64 (l : Int))) cb (a) (b2) l := Blk.set_other (Blk.set_other (Blk.set_other (Blk.alloc hC4 _) (Ne.symm hne) _) (Ne.symm hne) _) (Ne.symm hne) _
            have hN6 : Nw w ((((w4.alloc (.cells #[.int .u64 (a), .int .u64 (b2), .int .u64 (l : Int)] 41)).setCell ⟨xb, 0, none⟩ (.int .u64 (a))).setCell ⟨xb, 1, none⟩ (.int .u64 (b2))).setCell ⟨xb, 2, none⟩ (.int .u64 (l : Int))) := hN4.at (((((Below.refl _ w4).alloc hN4.1.size _).setCell hxge _).setCell hxge _).setCell hxge _)
            have HX6 := Lib.hid hX6
            have HC6 := Lib.hid hC6
            have HN6 := Lib.hid hN6
            clear hX4 hC4 hN4 hX3 hC3 hN3 hb4 hX6 hC6 hN6 x0 x1 x2
            go_wp2_with fail
            refine (num_nil _).mono ?_
            rintro e w7 ⟨rfl, hb7⟩
            have hX7 := Blk.below HX6.out hb7 (Blk.lt HX6.out)
            have hC7 : Ctr w7 cb (a) (b2) l := Blk.below HC6.out hb7 (Blk.lt HC6.out)
            have hN7 := HN6.out.step hb7
            have y0 : w7.cell? ⟨xb, 0, none⟩ = some (.int .u64 (a)) := Blk.cell hX7 0
            have y1 : w7.cell? ⟨xb, 1, none⟩ = some (.int .u64 (b2)) := Blk.cell hX7 1
            have hwr : IntKind.u64.wrap (b2 - a) = b2 - a := u64_in (by omega) (by omega)
            have HX7 := Lib.hid hX7
            have HC7 := Lib.hid hC7
            have HN7 := Lib.hid hN7
            clear HX6 HC6 HN6 hb7 hX7 hC7 hN7 fz0 fz1 fz2 cx0 cx1 cx2
            go_wp2_with fail
            go_quiet (first
              | (go_at_call 18; exact Calls.quiet_w (mark_any cb _ _ _ _ HC7.out))
              | (go_at_call 19; exact Calls.quiet_w (left_any cb _ _ _ _ HC7.out ⟨by omega, by omega, by omega⟩)))
            go_wp2_with fail
            go_roundw
            case rel => exact ⟨k + 1, a, b2, by omega, by omega, by go_num, by omega, by omega, by omega, HC7.out, HX7.out, HN7.out.at ⟨rfl, rfl, rfl, Nat.le_refl _, fun _ _ => rfl⟩⟩
            case measure => simp [intOf]; omega
      · have hN' := Lib.hid hN
        clear hC hX hN
        by_cases g1 : k < n
        · have j1 : (k : Int) < (n : Int) := by omega
          have j2 : decide ((k : Int) < 200) = false := decide_eq_false (by omega)
          clear hgo
          go_wp2_with fail
          refine (sure_any _ hN'.out.handle).mono ?_
          rintro e w9 ⟨rfl, hb9⟩
          go_wp2_with fail
          go_ret
          exact ⟨rfl, (hN'.out.step hb9).1⟩
        · have j1 : decide ((k : Int) < (n : Int)) = false := decide_eq_false (by omega)
          have j2 : decide (k < n) = false := decide_eq_false g1
          clear hgo
          go_wp2_with fail
          refine (sure_any _ hN'.out.handle).mono ?_
          rintro e w9 ⟨rfl, hb9⟩
          go_wp2_with fail
          go_ret
          exact ⟨rfl, (hN'.out.step hb9).1⟩
end Go.Proofs.YtkaddilgegimjaaDoor
