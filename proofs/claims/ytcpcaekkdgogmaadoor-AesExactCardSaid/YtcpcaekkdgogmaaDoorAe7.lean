/- AES: a key's words told; what must come whatever the input is. -/
import Derived.Test.YtcpcaekkdgogmaaDoorAe6
import Derived.Test.YtcpcaekkdgogmaaDoorApo
namespace Go.Proofs.YtcpcaekkdgogmaaDoor
set_option linter.unusedVariables false
set_option linter.unusedSimpArgs false
open Go.RowKit

set_option maxRecDepth 100000 in
set_option maxHeartbeats 1000000 in
theorem kword_in (kb bx : Nat) (W : Nat → Nat) (i : Nat) (w : World) (hK : KeyB w kb W bx) (hi : i < 60) :
    Calls Tryd.prog 5 #[.pointer (some ⟨kb, 0, none⟩), .int .i64 (i : Int)] w fun e w' => e = .returned (.int .u32 (W i : Nat)) ∧ Below w.heap.size w w' := by
  have i0 : ¬ (i : Int) < 0 := by omega
  have i1 : ¬ (60 : Int) ≤ (i : Int) := by omega
  have i2 : (0 : Int) ≤ (i : Int) := by omega
  have i3 : (i : Int) < 60 := by omega
  have c := hK.word hi
  generalize W i = V at *
  clear hK
  go_enter Tryd.func5, Tryd.ntmps5
  go_wp2_with fail
  go_ret
  exact ⟨rfl, Below.refl _ _⟩
set_option maxRecDepth 100000 in
set_option maxHeartbeats 1000000 in
theorem kword_60 (kb : Nat) (w : World) :
    Calls Tryd.prog 5 #[.pointer (some ⟨kb, 0, none⟩), .int .i64 60] w fun e w' => e = .returned (.int .u32 0) ∧ Below w.heap.size w w' := by
  go_enter Tryd.func5, Tryd.ntmps5
  go_wp2_with fail
  go_ret
  exact ⟨rfl, Below.refl _ _⟩
/-- While key and block are laid. -/
def SU (w0 : World) (i : Nat) (wr : World) : Prop := Row wr w0.heap.size 32 (fun j => if j < i then kF j else 0) ∧ B16 wr (w0.heap.size + 1) (fun j => if j < i then gF j else 0) ∧ Below w0.heap.size w0 wr
set_option maxRecDepth 100000 in
set_option maxHeartbeats 4000000 in
theorem aes_sure (w : World) : Calls Tryd.prog 8 #[] w fun e w' => e = .returned (.bool true) ∧ Below w.heap.size w w' := by
  have hz := zero16_run
  obtain ⟨Z, hZ⟩ : ∃ q, (rowC 32 (fun _ => 0)).toArray = q := ⟨_, rfl⟩
  have hmk : ∀ w, (Instr.makeSlice 22 (.int .i64 32) (.int .i64 32)).run Tryd.prog w = .ok (.slice (some ⟨w.heap.size, 0, none⟩) 32 32) (w.alloc (.cells Z 5)) := fun w => by
    have := make_zeros 32 (by decide) w; rw [hZ] at this; exact this
  have HT : Hid (SU w 0 ((w.alloc (.cells Z 5)).alloc (.cells zero16 25))) := Lib.hid (by
    rw [← hZ]
    refine ⟨?_, ?_, ((Below.refl _ _).alloc (Nat.le_refl _) _).alloc (by simp) _⟩
    · have h1 : Row (w.alloc (.cells (rowC 32 (fun _ => 0)).toArray 5)) w.heap.size 32 (fun _ => 0) := row_new _ _ _
      have h2 := h1.later ((Below.refl _ _).alloc (Nat.le_refl _) (.cells zero16 25))
      unfold Row at h2 ⊢
      rw [rowC_congr (g := fun _ => 0) fun i _ => if_neg (Nat.not_lt_zero i)]; exact h2
    · have := Blk.new (w.alloc (.cells (rowC 32 (fun _ => 0)).toArray 5)) zero16 25
      refine B16.congr (f := fun _ => 0) ?_ fun i _ => (if_neg (Nat.not_lt_zero _)).symm
      show Blk _ _ zero16 _; simpa using this)
  clear hZ
  go_enter Tryd.func8, Tryd.ntmps8
  go_wp2_with fail
  go_loopw [3] (fun v wr => ∃ i : Nat, i ≤ 32 ∧ v = .int .i64 (i : Int) ∧ SU w i wr) (fun v _ => 32 - (intOf v).toNat)
  case atStart => exact ⟨0, Nat.zero_le _, rfl, HT.out⟩
  case round =>
    clear HT hmk
    obtain ⟨i, hi, rfl, hR, hB, hO⟩ := hrel
    by_cases hlt : i < 32
    · have i0 : (0 : Int) ≤ (i : Int) := by omega
      have i1 : (i : Int) < 32 := by omega
      have cr : wr.cell? ⟨w.heap.size, i, none⟩ = some (.int .u8 0) := by
        have := hR.cell hlt; rw [if_neg (Nat.lt_irrefl _)] at this; exact this
      have fr : wr.frozen? ⟨w.heap.size, i, none⟩ = false := Blk.free hR i
      have hRN : Row (wr.setCell ⟨w.heap.size, i, none⟩ (.int .u8 (i : Int))) w.heap.size 32 (fun j => if j < i + 1 then kF j else 0) := by
        have := hR.set i i
        unfold Row at this ⊢
        rw [rowC_congr (g := upd (fun j => if j < i then kF j else 0) i i) fun j _ => ?_]
        · exact this
        · unfold upd kF
          by_cases e : j = i
          · rw [if_pos e, if_pos (by omega)]; exact e
          · rw [if_neg e]
            show (if j < i + 1 then j else 0) = if j < i then j else 0
            by_cases h5 : j < i
            · rw [if_pos h5, if_pos (by omega)]
            · rw [if_neg h5, if_neg (by omega)]
      by_cases h16 : i < 16
      · have i2 : (i : Int) < 16 := by omega
        have cb : wr.cell? ⟨w.heap.size + 1, i, none⟩ = some (.int .u8 0) := by
          have := hB.cell h16; rw [if_neg (Nat.lt_irrefl _)] at this; exact this
        have fb : wr.frozen? ⟨w.heap.size + 1, i, none⟩ = false := Blk.free hB i
        have HN : Hid (SU w (i + 1) ((wr.setCell ⟨w.heap.size, i, none⟩ (.int .u8 (i : Int))).setCell ⟨w.heap.size + 1, i, none⟩ (.int .u8 (17 * (i : Int))))) := Lib.hid (by
          refine ⟨Blk.set_other hRN (by simp) _, ?_, (hO.setCell (by simp) _).setCell (by simp) _⟩
          have h1 := B16.set (Blk.set_other hB (a := ⟨w.heap.size, i, none⟩) (by simp) (.int .u8 (i : Int)) : B16 _ _ _) i (gF i)
          rw [show ((gF i : Nat) : Int) = 17 * (i : Int) by unfold gF; omega] at h1
          refine h1.congr fun j hj => ?_
          unfold upd
          by_cases e : j = i
          · rw [if_pos e, if_pos (by omega), e]
          · rw [if_neg e]
            show (if j < i then gF j else 0) = if j < i + 1 then gF j else 0
            by_cases h5 : j < i
            · rw [if_pos h5, if_pos (by omega)]
            · rw [if_neg h5, if_neg (by omega)])
        clear hR hB hO hRN
        go_wp2_with fail
        go_roundw
        case rel => exact ⟨i + 1, by omega, by go_num, HN.out⟩
        case measure => simp [intOf]; omega
      · have i2 : ¬ (i : Int) < 16 := by omega
        have HN : Hid (SU w (i + 1) (wr.setCell ⟨w.heap.size, i, none⟩ (.int .u8 (i : Int)))) := Lib.hid (by
          refine ⟨hRN, ?_, hO.setCell (by simp) _⟩
          refine (show B16 _ _ _ from Blk.set_other hB (by simp) _).congr fun j hj => ?_
          rw [if_pos (by omega), if_pos (by omega)])
        clear hR hB hO hRN
        go_wp2_with fail
        go_roundw
        case rel => exact ⟨i + 1, by omega, by go_num, HN.out⟩
        case measure => simp [intOf]; omega
    · obtain rfl : i = 32 := by omega
      have hBy : Bytes wr (some ⟨w.heap.size, 0, none⟩) 32 kF := by
        have h1 : Row wr w.heap.size 32 kF := by
          unfold Row at hR ⊢
          rw [rowC_congr (g := fun j => if j < 32 then kF j else 0) fun j hj => (if_pos hj).symm]; exact hR
        exact h1.bytes fun j hj => by unfold kF; omega
      obtain ⟨G, hG⟩ : ∃ q, (rowC 16 gF).toArray = q := ⟨_, rfl⟩
      obtain ⟨E, hE⟩ : ∃ q, (rowC 16 (encK subN (exK kF 60) gF 14)).toArray = q := ⟨_, rfl⟩
      have hGB : Blk wr (w.heap.size + 1) G 25 := hG ▸ (hB.congr fun j hj => if_pos (by omega))
      have HGB := Lib.hid hGB
      have HO := Lib.hid hO
      have HCG : Hid (∃ f, G = (rowC 16 f).toArray) := Lib.hid ⟨_, hG.symm⟩
      have HCE : Hid (∃ f, E = (rowC 16 f).toArray) := Lib.hid ⟨_, hE.symm⟩
      have HC0 : Hid (∃ f, zero16 = (rowC 16 f).toArray) := Lib.hid ⟨_, rfl⟩
      have HNEW := Lib.hid (new_any kF _ 32 wr hBy)
      have HENC : Hid (∀ kb bx w', KeyB w' kb (exK kF 60) bx → BoxIn w' bx → kb ≠ bx → Calls Tryd.prog 4 #[.pointer (some ⟨kb, 0, none⟩), .agg G] w' fun e w'' => e = .returned (.agg E) ∧ BoxIn w'' bx ∧ Own bx w' w'') := Lib.hid fun kb bx w' h1 h2 h3 => by
        rw [← hG, ← hE]; exact enc_any kb bx _ gF w' h1 h2 h3 (fun j hj => by unfold gF; omega)
      have HE := Lib.hid hE
      clear hR hB hO hBy hGB hG hE hlt hi
      rw [show ((32 : Nat) : Int) = 32 from rfl]
      go_wp2_with fail
      refine HNEW.out.mono ?_
      rintro e w3 ⟨kb, bx, rfl, hNS⟩
      have HNS := Lib.hid hNS
      have HGB3 : Hid (Blk w3 (w.heap.size + 1) G 25) := Lib.hid (Blk.below HGB.out hNS.2.2.1 (Blk.lt HGB.out))
      clear hNS HNEW
      go_wp2_with (first | (refine wpList_load16 rfl (.tmp 2) rfl (w.heap.size + 1) rfl G HGB3.out HCG.out ?_))
      refine (HENC.out kb bx _ HNS.out.1 HNS.out.2.1 (by have := HNS.out.2.2.2.2; omega)).mono ?_
      rintro e w4 ⟨rfl, hI4, hO4⟩
      obtain ⟨w5, hw5⟩ : ∃ q, w4.alloc (.cells zero16 25) = q := ⟨_, rfl⟩
      obtain ⟨g6, hg6⟩ : ∃ q, w4.heap.size = q := ⟨_, rfl⟩
      have hA5 : Blk w5 g6 zero16 25 := by rw [← hw5, ← hg6]; exact Blk.new _ _ _
      obtain ⟨w6, hw6⟩ : ∃ q, w5.setCells g6 0 E.toList = q := ⟨_, rfl⟩
      have hA6 : Blk w6 g6 E 25 := by rw [← hw6]; exact Blk.store16 hA5 HCE.out HC0.out
      have hns := HNS.out
      have hkbl := Blk.lt hns.1
      have hK6 : KeyB w6 kb (exK kF 60) bx := by
        have h1 : KeyB w4 kb (exK kF 60) bx := hO4.blk hns.1 (by have := hns.2.2.2.2; omega)
        rw [← hw6]
        refine (Own.setCells _ _ _).blk ?_ (by have := hO4.size; omega)
        rw [← hw5]; exact h1.alloc _
      have hb6 : Below w.heap.size w w6 := by
        have h3 : Below w.heap.size w w3 := HO.out.trans (hns.2.2.1.mono HO.out.size)
        have h4 : Below w.heap.size w w4 := h3.trans (hO4.below (Nat.le_trans HO.out.size hns.2.2.2.1) h3.size)
        have h5 : Below w.heap.size w w5 := by rw [← hw5]; exact h4.alloc h4.size _
        rw [← hw6]; exact Below.set16 (g := g6) h5 (by rw [← hg6]; exact h4.size) h5.size _
      have HA5 := Lib.hid hA5
      have HK6 := Lib.hid hK6
      have HB6 := Lib.hid hb6
      have HW0 : Hid (Calls Tryd.prog 5 #[.pointer (some ⟨kb, 0, none⟩), .int .i64 0] w6 fun e w' => e = .returned (.int .u32 66051) ∧ Below w6.heap.size w6 w') := Lib.hid (by
        have := kword_in kb bx (exK kF 60) 0 w6 hK6 (by decide)
        rw [known_w0] at this; exact this)
      rw [← HE.out] at hA6
      have hA6' : B16 w6 g6 (encK subN (exK kF 60) gF 14) := hA6
      have c0 : w6.cell? ⟨g6, 0, none⟩ = some (.int .u8 142) := by have := hA6'.cell (show 0 < 16 by decide); rw [known_0] at this; exact this
      have c1 : w6.cell? ⟨g6, 1, none⟩ = some (.int .u8 162) := by have := hA6'.cell (show 1 < 16 by decide); rw [known_1] at this; exact this
      have c15 : w6.cell? ⟨g6, 15, none⟩ = some (.int .u8 137) := by have := hA6'.cell (show 15 < 16 by decide); rw [known_15] at this; exact this
      clear hA5 hA6 hA6' hK6 hb6 hns hkbl hI4 hO4 HENC HGB HGB3 HO
      go_wp2_with (first | (refine wpList_store16 rfl (.tmp 6) (.tmp 31) rfl g6 rfl E zero16 rfl HA5.out HCE.out HC0.out ?_))
      refine HW0.out.mono ?_
      rintro e w7 ⟨rfl, hb7⟩
      have HB7 := Lib.hid (HB6.out.trans (hb7.mono HB6.out.size))
      clear hb7 c0 c1 c15
      go_wp2_with fail
      refine (kword_60 kb _).mono ?_
      rintro e w8 ⟨rfl, hb8⟩
      have HB8 := Lib.hid (HB7.out.trans (hb8.mono HB7.out.size))
      clear hb8
      go_wp2_with fail
      go_ret
      exact ⟨rfl, HB8.out⟩
end Go.Proofs.YtcpcaekkdgogmaaDoor
