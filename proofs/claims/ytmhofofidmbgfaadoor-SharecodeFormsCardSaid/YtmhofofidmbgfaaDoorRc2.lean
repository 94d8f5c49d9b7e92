/- The document's Decode. -/
import Derived.Test.YtmhofofidmbgfaaDoorRc1
namespace Go.Proofs.YtmhofofidmbgfaaDoor
set_option linter.unusedVariables false
set_option linter.unusedSimpArgs false
open Go.RowKit

theorem info_rs3 : (Tryd.prog.info? 46).map (·.size) = some 3 := by kernel_rfl
theorem zrs3_run (w : World) : (zeroValue 46).run Tryd.prog w = .ok (.agg #[.int .u8 0, .int .u32 0, .slice none 0 0]) w := by kernel_rfl
theorem bzr3 (w : World) : (Instr.build 46 #[]).run Tryd.prog w = .ok (.agg #[.int .u8 0, .int .u32 0, .slice none 0 0]) w := run_build w 46 _ _ (by kernel_rfl)
theorem bsr3 (x g : Int) (oa : Option Addr) (n c : Nat) (w : World) : (Instr.build 46 #[(0, .int .u8 x), (1, .int .u32 g), (2, .slice oa n c)]).run Tryd.prog w = .ok (.agg #[.int .u8 x, .int .u32 g, .slice oa n c]) w := run_build w 46 _ _ (by kernel_rfl)

set_option maxRecDepth 100000 in
set_option maxHeartbeats 4000000 in
theorem rdec_bad (n cap : Nat) (oa : Option Addr) (f : Nat → Nat) (w : World) (hn : n < 9000000000000000000) (hB : Bytes w oa n f) (hm : ¬ IsEnc n f) :
    Calls Tryd.prog 32 #[.slice oa n cap] w fun e w' => e = .returned (.tuple #[zSh, .int .i64 4]) ∧ Below w.heap.size w w' := by
  obtain ⟨w0, hw0⟩ : ∃ y, w.alloc (.cells #[.int .u8 0, .int .u32 0, .slice none 0 0] 46) = y := ⟨_, rfl⟩
  obtain ⟨b2, hb2⟩ : ∃ y, w.heap.size = y := ⟨_, rfl⟩
  have hB2 : Blk w0 b2 #[.int .u8 0, .int .u32 0, .slice none 0 0] 46 := by rw [← hw0, ← hb2]; exact Blk.new _ _ _
  have hbl : Below w.heap.size w w0 := by rw [← hw0]; exact (Below.refl _ _).alloc (Nat.le_refl _) _
  have HX : Hid (Blk (w0.setCells b2 0 [.int .u8 0, .int .u32 0, .slice none 0 0]) b2 #[.int .u8 0, .int .u32 0, .slice none 0 0] 46 ∧ Below w.heap.size w (w0.setCells b2 0 [.int .u8 0, .int .u32 0, .slice none 0 0])) :=
    Lib.hid ⟨hB2.wh3 rfl _ _ _, hbl.trans ((Own.setCells (b := b2) _ 0 w0).below (by omega) hbl.size)⟩
  have HTH : Hid (w0.there b2 0 3) := Lib.hid (hB2.there (by decide))
  have hz := zrs3_run
  have HBY := Lib.hid (hB.later hbl)
  clear hB2 hbl hB
  unfold zSh
  by_cases h1 : n < 9
  · have q1 : (n : Int) < 9 := by omega
    clear hm HBY h1
    go_enter Tryd.func32, Tryd.ntmps32
    rw [hb2]
    go_wp2_with (first | (refine wpList_value rfl (exec_bM (parts := #[]) (ps := #[]) (C := #[.int .u8 0, .int .u32 0, .slice none 0 0]) rfl rfl bzr3) ?_) | (refine wpList_store_mid rfl 46 (.tmp 2) (.tmp 44) rfl b2 0 #[.int .u8 0, .int .u32 0, .slice none 0 0] rfl rfl HTH.out info_rs3 (one_sh3 _ _ _ _ _ _ _) ?_))
    refine bodyPost_ret (v := .tuple #[.agg #[.int .u8 0, .int .u32 0, .slice none 0 0], .int .i64 4]) ?_ rfl ⟨rfl, hb2 ▸ HX.out.2⟩
    exact res_cell_tmp Tryd.results32 _ _ b2 46 #[.int .u8 0, .int .u32 0, .slice none 0 0] (0, 0) _ rfl HX.out.1 Tryd.underlying46 rfl info_rs3
  have q1 : decide ((n : Int) < 9) = false := decide_eq_false (by omega)
  obtain ⟨_, b, off, rfl, x0⟩ := HBY.out 0 (by omega)
  rw [Nat.add_zero] at x0
  have x1 := bsh_part HBY.out (k := 1) (by omega)
  have x6 := bsh_part HBY.out (k := 6) (by omega)
  have x7 := bsh_part HBY.out (k := 7) (by omega)
  have hlt := (HBY.out 7 (by omega)).1
  have i0 : (0 : Int) < (n : Int) := by omega
  have i1 : (1 : Int) < (n : Int) := by omega
  have i6 : (6 : Int) < (n : Int) := by omega
  have i7 : (7 : Int) < (n : Int) := by omega
  have n0 : 0 < n := by omega
  have n1 : 1 < n := by omega
  have n6 : 6 < n := by omega
  have n7 : 7 < n := by omega
  obtain ⟨a0, e0⟩ : ∃ y, f 0 = y := ⟨_, rfl⟩
  obtain ⟨a1, e1⟩ : ∃ y, f 1 = y := ⟨_, rfl⟩
  obtain ⟨a6, e6⟩ : ∃ y, f 6 = y := ⟨_, rfl⟩
  obtain ⟨a7, e7⟩ : ∃ y, f 7 = y := ⟨_, rfl⟩
  have hm' : ¬ (a0 = 115 ∧ a1 = 104 ∧ a6 ≠ 0 ∧ a7 ≤ 64 ∧ n = 8 + a7) := fun h => hm ⟨by omega, by omega, e0.trans h.1, e1.trans h.2.1, by rw [e6]; exact h.2.2.1, e7.trans (by omega)⟩
  rw [e0] at x0
  rw [e1] at x1
  rw [e6] at x6
  rw [e7] at x7 hlt
  clear hm HBY e0 e1 e6 e7
  by_cases h3 : a0 = 115
  rotate_left
  · have q3 : ((a0 : Int) == 115) = false := by rw [beq_eq_false_iff_ne]; omega
    have q3' : (a0 : Int) ≠ 115 := by omega
    clear hm' h1 h3 x1 x6 x7
    go_enter Tryd.func32, Tryd.ntmps32
    rw [hb2]
    go_wp2_with (first | (refine wpList_value rfl (exec_bM (parts := #[]) (ps := #[]) (C := #[.int .u8 0, .int .u32 0, .slice none 0 0]) rfl rfl bzr3) ?_) | (refine wpList_store_mid rfl 46 (.tmp 2) (.tmp 44) rfl b2 0 #[.int .u8 0, .int .u32 0, .slice none 0 0] rfl rfl HTH.out info_rs3 (one_sh3 _ _ _ _ _ _ _) ?_))
    refine bodyPost_ret (v := .tuple #[.agg #[.int .u8 0, .int .u32 0, .slice none 0 0], .int .i64 4]) ?_ rfl ⟨rfl, hb2 ▸ HX.out.2⟩
    exact res_cell_tmp Tryd.results32 _ _ b2 46 #[.int .u8 0, .int .u32 0, .slice none 0 0] (0, 0) _ rfl HX.out.1 Tryd.underlying46 rfl info_rs3
  have q3 : ((a0 : Int) == 115) = true := by rw [beq_iff_eq]; omega
  have q3' : (a0 : Int) = 115 := by omega
  by_cases h4 : a1 = 104
  rotate_left
  · have q4 : ((a1 : Int) == 104) = false := by rw [beq_eq_false_iff_ne]; omega
    have q4' : (a1 : Int) ≠ 104 := by omega
    clear hm' h1 h3 h4 x6 x7
    go_enter Tryd.func32, Tryd.ntmps32
    rw [hb2]
    go_wp2_with (first | (refine wpList_value rfl (exec_bM (parts := #[]) (ps := #[]) (C := #[.int .u8 0, .int .u32 0, .slice none 0 0]) rfl rfl bzr3) ?_) | (refine wpList_store_mid rfl 46 (.tmp 2) (.tmp 44) rfl b2 0 #[.int .u8 0, .int .u32 0, .slice none 0 0] rfl rfl HTH.out info_rs3 (one_sh3 _ _ _ _ _ _ _) ?_))
    refine bodyPost_ret (v := .tuple #[.agg #[.int .u8 0, .int .u32 0, .slice none 0 0], .int .i64 4]) ?_ rfl ⟨rfl, hb2 ▸ HX.out.2⟩
    exact res_cell_tmp Tryd.results32 _ _ b2 46 #[.int .u8 0, .int .u32 0, .slice none 0 0] (0, 0) _ rfl HX.out.1 Tryd.underlying46 rfl info_rs3
  have q4 : ((a1 : Int) == 104) = true := by rw [beq_iff_eq]; omega
  have q4' : (a1 : Int) = 104 := by omega
  by_cases h5 : a6 = 0
  · have q5 : ((a6 : Int) == 0) = true := by rw [beq_iff_eq]; omega
    have q5' : (a6 : Int) = 0 := by omega
    clear hm' h1 h3 h4 h5 x7
    go_enter Tryd.func32, Tryd.ntmps32
    rw [hb2]
    go_wp2_with (first | (refine wpList_value rfl (exec_bM (parts := #[]) (ps := #[]) (C := #[.int .u8 0, .int .u32 0, .slice none 0 0]) rfl rfl bzr3) ?_) | (refine wpList_store_mid rfl 46 (.tmp 2) (.tmp 44) rfl b2 0 #[.int .u8 0, .int .u32 0, .slice none 0 0] rfl rfl HTH.out info_rs3 (one_sh3 _ _ _ _ _ _ _) ?_))
    refine bodyPost_ret (v := .tuple #[.agg #[.int .u8 0, .int .u32 0, .slice none 0 0], .int .i64 4]) ?_ rfl ⟨rfl, hb2 ▸ HX.out.2⟩
    exact res_cell_tmp Tryd.results32 _ _ b2 46 #[.int .u8 0, .int .u32 0, .slice none 0 0] (0, 0) _ rfl HX.out.1 Tryd.underlying46 rfl info_rs3
  have q5 : ((a6 : Int) == 0) = false := by rw [beq_eq_false_iff_ne]; omega
  have q5' : (a6 : Int) ≠ 0 := by omega
  have w7 : IntKind.i64.wrap (a7 : Int) = (a7 : Int) := by rw [IntWalk.i64_in _ (by omega)]
  by_cases h6 : 64 < a7
  · have q6 : (64 : Int) < (a7 : Int) := by omega
    clear hm' h1 h3 h4 h5 h6
    go_enter Tryd.func32, Tryd.ntmps32
    rw [hb2]
    go_wp2_with (first | (refine wpList_value rfl (exec_bM (parts := #[]) (ps := #[]) (C := #[.int .u8 0, .int .u32 0, .slice none 0 0]) rfl rfl bzr3) ?_) | (refine wpList_store_mid rfl 46 (.tmp 2) (.tmp 44) rfl b2 0 #[.int .u8 0, .int .u32 0, .slice none 0 0] rfl rfl HTH.out info_rs3 (one_sh3 _ _ _ _ _ _ _) ?_))
    refine bodyPost_ret (v := .tuple #[.agg #[.int .u8 0, .int .u32 0, .slice none 0 0], .int .i64 4]) ?_ rfl ⟨rfl, hb2 ▸ HX.out.2⟩
    exact res_cell_tmp Tryd.results32 _ _ b2 46 #[.int .u8 0, .int .u32 0, .slice none 0 0] (0, 0) _ rfl HX.out.1 Tryd.underlying46 rfl info_rs3
  have q6 : decide ((64 : Int) < (a7 : Int)) = false := decide_eq_false (by omega)
  have w8 : IntKind.i64.wrap (8 + (a7 : Int)) = ((8 + a7 : Nat) : Int) := by rw [IntWalk.i64_in _ (by omega)]; omega
  have q7' : (n : Int) ≠ ((8 + a7 : Nat) : Int) := by omega
  obtain ⟨m, hm8⟩ : ∃ y, 8 + a7 = y := ⟨_, rfl⟩
  rw [hm8] at w8 q7'
  have q7 : ((n : Int) == (m : Int)) = false := by rw [beq_eq_false_iff_ne]; exact q7'
  clear hm' h1 h3 h4 h5 h6 hm8
  go_enter Tryd.func32, Tryd.ntmps32
  rw [hb2]
  go_wp2_with (first | (refine wpList_value rfl (exec_bM (parts := #[]) (ps := #[]) (C := #[.int .u8 0, .int .u32 0, .slice none 0 0]) rfl rfl bzr3) ?_) | (refine wpList_store_mid rfl 46 (.tmp 2) (.tmp 44) rfl b2 0 #[.int .u8 0, .int .u32 0, .slice none 0 0] rfl rfl HTH.out info_rs3 (one_sh3 _ _ _ _ _ _ _) ?_))
  refine bodyPost_ret (v := .tuple #[.agg #[.int .u8 0, .int .u32 0, .slice none 0 0], .int .i64 4]) ?_ rfl ⟨rfl, hb2 ▸ HX.out.2⟩
  exact res_cell_tmp Tryd.results32 _ _ b2 46 #[.int .u8 0, .int .u32 0, .slice none 0 0] (0, 0) _ rfl HX.out.1 Tryd.underlying46 rfl info_rs3

set_option maxRecDepth 100000 in
set_option maxHeartbeats 8000000 in
theorem rdec_any (n cap : Nat) (oa : Option Addr) (f : Nat → Nat) (w : World) (hB : Bytes w oa n f) (hc : n ≤ cap) (hE : IsEnc n f) :
    Calls Tryd.prog 32 #[.slice oa n cap] w fun e w' => ∃ o c, e = .returned (.tuple #[.agg #[.int .u8 (f 6 : Nat), .int .u32 (genOf f : Nat), .slice o (n - 8) c], .int .i64 0]) ∧ n - 8 ≤ c ∧ Bytes w' o (n - 8) (fun k => f (8 + k)) ∧ (o = none → n - 8 = 0) ∧ (∀ a, o = some a → ∃ a', oa = some a' ∧ a'.block = a.block) ∧ Below w.heap.size w w' := by
  obtain ⟨w0, hw0⟩ : ∃ y, w.alloc (.cells #[.int .u8 0, .int .u32 0, .slice none 0 0] 46) = y := ⟨_, rfl⟩
  obtain ⟨b2, hb2⟩ : ∃ y, w.heap.size = y := ⟨_, rfl⟩
  have hB2 : Blk w0 b2 #[.int .u8 0, .int .u32 0, .slice none 0 0] 46 := by rw [← hw0, ← hb2]; exact Blk.new _ _ _
  have hbl : Below w.heap.size w w0 := by rw [← hw0]; exact (Below.refl _ _).alloc (Nat.le_refl _) _
  have hsz : w0.heap.size = b2 + 1 := by rw [← hw0, ← hb2]; simp
  have lo := hE.lo
  have hi := hE.hi
  obtain ⟨_, b, off, rfl, x0⟩ := (hB.later hbl) 0 (by omega)
  have hbb : b < w.heap.size := hB.lt _ rfl (by omega)
  rw [Nat.add_zero, hE.s] at x0
  have hBw := hB.later hbl
  have x1 := bsh_part hBw (k := 1) (by omega)
  have x6 := bsh_part hBw (k := 6) (by omega)
  have x7 := bsh_part hBw (k := 7) (by omega)
  rw [hE.h] at x1
  rw [hE.len] at x7
  have h6 := hE.ix
  have HBY := Lib.hid hBw
  have HT8 := Lib.hid (hBw.tail8 (by omega))
  have HN := Lib.hid (show 9 ≤ n ∧ n ≤ 72 ∧ n ≤ cap from ⟨lo, hi, hc⟩)
  have HBX := Lib.hid hB2
  have HBL := Lib.hid hbl
  have HSZ := Lib.hid (show w0.heap.size = b2 + 1 ∧ w.heap.size = b2 ∧ b < b2 from ⟨hsz, hb2, hb2 ▸ hbb⟩)
  obtain ⟨G, hG⟩ : ∃ y, genOf f = y := ⟨_, rfl⟩
  obtain ⟨a6, e6⟩ : ∃ y, f 6 = y := ⟨_, rfl⟩
  obtain ⟨F, hF⟩ : ∃ y, (fun k => f (8 + k)) = y := ⟨_, rfl⟩
  have HE := Lib.hid (show genOf f = G ∧ f 6 = a6 from ⟨hG, e6⟩)
  rw [hG, e6, hF]
  rw [e6] at x6 h6
  rw [hF] at HT8
  have q1 : decide ((n : Int) < 9) = false := decide_eq_false (by omega)
  have i0 : (0 : Int) < (n : Int) := by omega
  have i1 : (1 : Int) < (n : Int) := by omega
  have i6 : (6 : Int) < (n : Int) := by omega
  have i7 : (7 : Int) < (n : Int) := by omega
  have n0 : 0 < n := by omega
  have n1 : 1 < n := by omega
  have n6 : 6 < n := by omega
  have n7 : 7 < n := by omega
  have q5 : ((a6 : Int) == 0) = false := by rw [beq_eq_false_iff_ne]; omega
  have q5' : (a6 : Int) ≠ 0 := by omega
  obtain ⟨m, hm8⟩ : ∃ y, n - 8 = y := ⟨_, rfl⟩
  have HM8 := Lib.hid (show n - 8 = m ∧ n = 8 + m ∧ 1 ≤ m ∧ m ≤ 64 from ⟨hm8, by omega, by omega, by omega⟩)
  rw [hm8] at x7 HT8 ⊢
  have w7 : IntKind.i64.wrap (m : Int) = (m : Int) := by rw [IntWalk.i64_in _ (by omega)]
  have q6 : decide ((64 : Int) < (m : Int)) = false := decide_eq_false (by omega)
  have w8 : IntKind.i64.wrap (8 + (m : Int)) = (n : Int) := by rw [IntWalk.i64_in _ (by omega)]; omega
  have hz := zrs3_run
  clear hB2 hbl hsz hB hBw hE lo hi h6 hc hF hG e6 hbb
  go_enter Tryd.func32, Tryd.ntmps32
  rw [hb2]
  go_wp2_with fail
  clear x0 x1 x7 i0 i1 i7 n0 n1 n7 w7 w8 q1 q5 q5' q6 hw0
  go_loopw [4, 5] (fun y z wr => ∃ i g : Nat, 2 ≤ i ∧ i ≤ 6 ∧ y = .int .u32 (g : Int) ∧ z = .int .i64 (i : Int) ∧ g < 256 ^ (i - 2) ∧ (i = 6 → g = G) ∧ (g = if i = 2 then 0 else if i = 3 then f 2 else if i = 4 then f 2 * 256 + f 3 else if i = 5 then f 2 * 65536 + f 3 * 256 + f 4 else G) ∧ wr = w0) (fun _ z _ => 6 - (intOf z).toNat)
  case atStart => exact ⟨2, 0, by decide, by decide, rfl, rfl, by decide, fun h => absurd h (by decide), rfl, by first | rfl | trivial⟩
  case round =>
    obtain ⟨i, g, h2, hi, rfl, rfl, hgl, hg6, hge, rfl⟩ := hrel
    by_cases hlt : i < 6
    · have hb := (HBY.out i (by have := HN.out.1; omega)).1
      have x := bsh_part HBY.out (k := i) (by have := HN.out.1; omega)
      obtain ⟨v, ev⟩ : ∃ y, f i = y := ⟨_, rfl⟩
      have hgl2 : g < 16777216 := Nat.lt_of_lt_of_le hgl (by
        have : 256 ^ (i - 2) ≤ 256 ^ 3 := Nat.pow_le_pow_right (by decide) (by omega)
        exact this)
      have hnx : (i + 1 = 6 → 256 * g + v = G) ∧ (256 * g + v = if i + 1 = 2 then 0 else if i + 1 = 3 then f 2 else if i + 1 = 4 then f 2 * 256 + f 3 else if i + 1 = 5 then f 2 * 65536 + f 3 * 256 + f 4 else G) := by
        have hGG := HE.out.1
        unfold genOf at hGG
        have h4 : i = 2 ∨ i = 3 ∨ i = 4 ∨ i = 5 := by omega
        rcases h4 with rfl | rfl | rfl | rfl
        · simp at hge ⊢; omega
        · simp at hge ⊢; omega
        · simp at hge ⊢; omega
        · simp at hge ⊢; omega
      rw [ev] at hb x
      have hp : 256 * g + v < 256 ^ (i + 1 - 2) := by
        rw [show i + 1 - 2 = (i - 2) + 1 by omega, Nat.pow_succ]; omega
      have r1 : IntKind.u32.wrap (256 * (g : Int)) = ((256 * g : Nat) : Int) := by rw [IntKind.wrap_u32]; omega
      have r2 : IntKind.u32.wrap (v : Int) = (v : Int) := by rw [IntKind.wrap_u32]; omega
      have r3 : IntKind.u32.wrap (((256 * g : Nat) : Int) + (v : Int)) = ((256 * g + v : Nat) : Int) := by rw [IntKind.wrap_u32]; omega
      have j0 : (0 : Int) ≤ (i : Int) ∧ (i : Int) < (n : Int) := by have := HN.out.1; omega
      have j1 : i < n := by have := HN.out.1; omega
      have HNX := Lib.hid hnx
      have HP := Lib.hid hp
      obtain ⟨g2, eg2⟩ : ∃ y, 256 * g + v = y := ⟨_, rfl⟩
      obtain ⟨g1, eg1⟩ : ∃ y, 256 * g = y := ⟨_, rfl⟩
      rw [eg2] at r3
      rw [eg1] at r1 r3
      have HG2 := Lib.hid eg2
      clear hnx hp hge hg6 hgl eg1 eg2 ev
      go_wp2_with fail
      go_roundw
      case rel => exact ⟨i + 1, g2, by omega, by omega, rfl, by go_num, HG2.out ▸ HP.out, HG2.out ▸ HNX.out.1, HG2.out ▸ HNX.out.2, by first | rfl | trivial⟩
      case measure => simp [intOf]; omega
    · obtain rfl : i = 6 := by omega
      obtain rfl : g = G := hg6 rfl
      generalize wr = w0 at *
      have s1 : ¬ (n : Int) < 8 := by have := HN.out.1; omega
      have s2 : (8 : Int) ≤ (n : Int) := by have := HN.out.1; omega
      have s3 : 8 ≤ n := by have := HN.out.1; omega
      have s4 : ¬ cap = 8 := by have := HN.out; omega
      have hm9 := HM8.out.1
      clear hge hg6 hgl hlt
      have hP_0 : Below w0.heap.size w0 w0.drew := ⟨rfl, rfl, rfl, Nat.le_refl _, fun _ _ => rfl⟩
      go_wp2_with fail
      refine wp_region_held_drew (S := (Own b2 w0)) (by kernel_rfl) ?_ (fun hHeld => ?_)
      · (try dsimp only)
        first | assumption | exact Own.of_below (by assumption)
      generalize w0.drew = W1 at *
      refine wpAnyH_take (i := 0) (oi := { dst := some 57, op := Go.Op.move (Go.Operand.tmp 0), type := 22, pos := "ref.go:39", after := #[], guard := none }) (v := ?_) rfl (by kernel_rfl) (by kernel_rfl) (by kernel_rfl) (fun _ _ _ h => h) (Or.inl ⟨by rfl, ?_⟩) (by assumption) ?_
      rotate_left
      · intro wS hSw
        (try dsimp only at hSw)
        go_simp
        (try with_reducible rfl)
      (try simp only [Act.put, List.setIfInBounds_toArray, List.set_cons_zero, List.set_cons_succ])
      refine wpAnyH_take (i := 1) (oi := { dst := some 58, op := Go.Op.indexAddr 22 (Go.Operand.tmp 57) (Go.Operand.const (Go.Value.int Go.IntKind.i64 6)), type := 0, pos := "ref.go:39", after := #[{ on := 0, ground := Go.Ground.data }], guard := none }) (v := ?_) rfl (by kernel_rfl) (by kernel_rfl) (by kernel_rfl) (fun _ _ _ h => h) (Or.inl ⟨by rfl, ?_⟩) (by assumption) ?_
      rotate_left
      · intro wS hSw
        (try dsimp only at hSw)
        go_simp
        (try with_reducible rfl)
      (try simp only [Act.put, List.setIfInBounds_toArray, List.set_cons_zero, List.set_cons_succ])
      refine wpAnyH_take (i := 2) (oi := { dst := some 59, op := Go.Op.load 5 (Go.Operand.tmp 58), type := 5, pos := "ref.go:39", after := #[{ on := 1, ground := Go.Ground.data }], guard := none }) (v := ?_) rfl (by kernel_rfl) (by kernel_rfl) (by kernel_rfl) (fun _ _ _ h => h) (Or.inl ⟨by rfl, ?_⟩) (by assumption) ?_
      rotate_left
      · intro wS hSw
        (have q := hSw.cell x6 (show b ≠ b2 from (by have := HSZ.out; omega))); go_simp; (try with_reducible rfl)
      (try simp only [Act.put, List.setIfInBounds_toArray, List.set_cons_zero, List.set_cons_succ])
      refine wpAnyH_take (i := 3) (oi := { dst := some 60, op := Go.Op.move (Go.Operand.tmp 4), type := 23, pos := "ref.go:39", after := #[], guard := none }) (v := ?_) rfl (by kernel_rfl) (by kernel_rfl) (by kernel_rfl) (fun _ _ _ h => h) (Or.inl ⟨by rfl, ?_⟩) (by assumption) ?_
      rotate_left
      · intro wS hSw
        (try dsimp only at hSw)
        go_simp
        (try with_reducible rfl)
      (try simp only [Act.put, List.setIfInBounds_toArray, List.set_cons_zero, List.set_cons_succ])
      refine wpAnyH_take (i := 4) (oi := { dst := some 61, op := Go.Op.move (Go.Operand.tmp 0), type := 22, pos := "ref.go:39", after := #[], guard := none }) (v := ?_) rfl (by kernel_rfl) (by kernel_rfl) (by kernel_rfl) (fun _ _ _ h => h) (Or.inl ⟨by rfl, ?_⟩) (by assumption) ?_
      rotate_left
      · intro wS hSw
        (try dsimp only at hSw)
        go_simp
        (try with_reducible rfl)
      (try simp only [Act.put, List.setIfInBounds_toArray, List.set_cons_zero, List.set_cons_succ])
      refine wpAnyH_take (i := 5) (oi := { dst := some 62, op := Go.Op.slice 22 (Go.Operand.tmp 61) (some (Go.Operand.const (Go.Value.int Go.IntKind.i64 8))) none none, type := 22, pos := "ref.go:39", after := #[{ on := 4, ground := Go.Ground.data }], guard := none }) (v := ?_) rfl (by kernel_rfl) (by kernel_rfl) (by kernel_rfl) (fun _ _ _ h => h) (Or.inl ⟨by rfl, ?_⟩) (by assumption) ?_
      rotate_left
      · intro wS hSw
        (try dsimp only at hSw)
        go_simp
        (try with_reducible rfl)
      (try simp only [Act.put, List.setIfInBounds_toArray, List.set_cons_zero, List.set_cons_succ])
      refine wpAnyH_take (i := 6) (oi := { dst := some 63, op := Go.Op.build 46 #[(0, Go.Operand.tmp 59), (1, Go.Operand.tmp 60), (2, Go.Operand.tmp 62)], type := 46, pos := "ref.go:39", after := #[{ on := 2, ground := Go.Ground.data }, { on := 3, ground := Go.Ground.data }, { on := 5, ground := Go.Ground.data }], guard := none }) (v := ?_) rfl (by kernel_rfl) (by kernel_rfl) (by kernel_rfl) (fun _ _ _ h => h) (Or.inl ⟨by rfl, ?_⟩) (by assumption) ?_
      rotate_left
      · intro wS hSw
        refine exec_bM (parts := #[(0, .tmp 59), (1, .tmp 60), (2, .tmp 62)]) (ps := #[(0, .int .u8 (a6 : Nat)), (1, .int .u32 (g : Nat)), (2, .slice (some ⟨b, off + 8, none⟩) m (cap - 8))]) (C := #[.int .u8 (a6 : Nat), .int .u32 (g : Nat), .slice (some ⟨b, off + 8, none⟩) m (cap - 8)]) ?_ ?_ (bsr3 _ _ _ _ _) <;> first | rfl | (simp; exact ⟨rfl, rfl, rfl⟩) | (simp; done)
      (try simp only [Act.put, List.setIfInBounds_toArray, List.set_cons_zero, List.set_cons_succ])
      refine wpAnyH_ready (rs := [7]) (by kernel_rfl) (by simp) ?_
      refine AllReadyH.cons (o := { dst := none, op := Go.Op.store 46 (Go.Operand.tmp 2) (Go.Operand.tmp 63), type := 0, pos := "ref.go:39", after := #[{ on := 6, ground := Go.Ground.data }, { on := 0, ground := Go.Ground.phase }, { on := 1, ground := Go.Ground.phase }, { on := 2, ground := Go.Ground.phase }, { on := 3, ground := Go.Ground.phase }, { on := 4, ground := Go.Ground.phase }, { on := 5, ground := Go.Ground.phase }, { on := 6, ground := Go.Ground.phase }], guard := none }) rfl (fun K hK => ?_) AllReadyH.nil
      (have hBb : Blk W1 b2 #[.int .u8 0, .int .u32 0, .slice none 0 0] 46 := Blk.below HBX.out hP_0 (Blk.lt HBX.out); refine step_sM rfl 46 (.tmp 2) (.tmp 63) rfl b2 0 #[.int .u8 (a6 : Nat), .int .u32 (g : Nat), .slice (some ⟨b, off + 8, none⟩) m (cap - 8)] rfl rfl (hBb.there (Nat.le_refl 3)) info_rs3 (one_sh3 _ _ _ _ _ _ _) ?_; obtain ⟨V8, hV8⟩ : ∃ z, W1.setCells b2 0 [.int .u8 (a6 : Nat), .int .u32 (g : Nat), .slice (some ⟨b, off + 8, none⟩) m (cap - 8)] = z := ⟨_, rfl⟩; have hO8 : Own b2 W1 V8 := (by rw [← hV8]; exact Own.setCells (b := b2) _ 0 W1); have HB8 : Hid (Blk V8 b2 #[.int .u8 (a6 : Nat), .int .u32 (g : Nat), .slice (some ⟨b, off + 8, none⟩) m (cap - 8)] 46) := Lib.hid (by rw [← hV8]; exact hBb.wh3 rfl _ _ _); have hP_8 : Own b2 w0 V8 := (Own.of_below hP_0).trans hO8; have HR8 : Hid (Bytes V8 (some ⟨b, off + 8, none⟩) m F) := Lib.hid ((HT8.out.later hP_0).own hO8 (fun a ha _ e => by cases ha; have := HSZ.out; simp at e; omega)); rw [hV8]; clear hBb hO8 hV8 hP_0; skip)
      refine hK.out _ _ ?_ (fun hHeld => ?_)
      · (try dsimp only)
        first | assumption | exact Own.of_below (by assumption)
      clear hK K
      (try simp only [Act.put, List.setIfInBounds_toArray, List.set_cons_zero, List.set_cons_succ])
      refine wpAnyH_take (i := 8) (oi := { dst := some 3, op := Go.Op.assign (Go.Operand.const (Go.Value.int Go.IntKind.i64 0)), type := 3, pos := "ref.go:39", after := #[{ on := 7, ground := Go.Ground.chain }, { on := 0, ground := Go.Ground.phase }, { on := 1, ground := Go.Ground.phase }, { on := 2, ground := Go.Ground.phase }, { on := 3, ground := Go.Ground.phase }, { on := 4, ground := Go.Ground.phase }, { on := 5, ground := Go.Ground.phase }, { on := 6, ground := Go.Ground.phase }, { on := 7, ground := Go.Ground.phase }], guard := none }) (v := ?_) rfl (by kernel_rfl) (by kernel_rfl) (by kernel_rfl) (fun _ _ _ h => h) (Or.inl ⟨by rfl, ?_⟩) (by assumption) ?_
      rotate_left
      · intro wS hSw
        (try dsimp only at hSw)
        go_simp
        (try with_reducible rfl)
      (try simp only [Act.put, List.setIfInBounds_toArray, List.set_cons_zero, List.set_cons_succ])
      refine wpAnyH_done (by kernel_rfl) ?_ _
      have hfin : Below w.heap.size w V8 := HBL.out.trans (hP_8.below (by have := HSZ.out; omega) HBL.out.size)
      go_wp2_with fail
      refine bodyPost_ret (v := .tuple #[.agg #[.int .u8 (a6 : Nat), .int .u32 (g : Nat), .slice (some ⟨b, off + 8, none⟩) m (cap - 8)], .int .i64 0]) ?_ rfl ⟨_, _, rfl, by have := HN.out; have := HM8.out; omega, HR8.out, (fun e => by cases e), (fun a ha => ⟨⟨b, off, none⟩, rfl, by cases ha; rfl⟩), hb2 ▸ hfin⟩
      exact res_cell_tmp Tryd.results32 _ _ b2 46 _ (0, 0) _ rfl HB8.out Tryd.underlying46 rfl info_rs3
end Go.Proofs.YtmhofofidmbgfaaDoor
