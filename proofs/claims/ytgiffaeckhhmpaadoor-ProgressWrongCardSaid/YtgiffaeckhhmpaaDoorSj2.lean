/- The law's parts given to the program; the document's Combine. -/
import Derived.Test.YtgiffaeckhhmpaaDoorSj1
namespace Go.Proofs.YtgiffaeckhhmpaaDoor
set_option linter.unusedVariables false
set_option linter.unusedSimpArgs false
open Go.RowKit

theorem range3 {w : World} {b off : Nat} {x y z : Value} (h0 : w.cell? ⟨b, off, none⟩ = some x) (h1 : w.cell? ⟨b, off + 1, none⟩ = some y) (h2 : w.cell? ⟨b, off + 2, none⟩ = some z) : w.rangeAt b off [x, y, z] := fun j v hv => by
  match j with
  | 0 => simp at hv; subst hv; exact h0
  | 1 => simp at hv; subst hv; exact h1
  | 2 => simp at hv; subst hv; exact h2
  | j + 3 => simp at hv
set_option maxRecDepth 100000 in
set_option maxHeartbeats 2000000 in
theorem give_any (tb n cs : Nat) (oa : Option Addr) (S : Nat → Sh) (w : World) (htb : tb < w.heap.size) (hS : Shs tb w oa n S) (hn : n ≤ 1000) :
    Calls Tryd.prog 29 #[.slice oa n cs] w fun e w' => ∃ ob cb, e = .returned (.slice ob n cb) ∧ n ≤ cb ∧ cb ≤ maxLen ∧ Shs tb w' ob n S ∧ Below w.heap.size w w' := by
  have HS := Lib.hid hS
  have HTB := Lib.hid htb
  obtain ⟨base, hba⟩ : ∃ x, w.heap.size = x := ⟨_, rfl⟩
  have HBS := Lib.hid hba
  have hu : Tryd.prog.underlying 29 = some (.slice 42) := by kernel_rfl
  clear hS htb hba
  go_enter Tryd.func29, Tryd.ntmps29
  go_wp2_with fail
  go_loopw [3, 4] (fun v x wr => ∃ i : Nat, i ≤ n ∧ x = .int .i64 (i : Int) ∧ GS 42 tb wr base v i S ∧ Below w.heap.size w wr) (fun _ x _ => n - (intOf x).toNat)
  case atStart => exact ⟨0, Nat.zero_le _, rfl, GS.nil _ _ _ _ _, Below.refl _ _⟩
  case round =>
    obtain ⟨i, hi, rfl, hGS, hb⟩ := hrel
    have HGS := Lib.hid hGS
    have HB := Lib.hid hb
    clear hGS hb
    by_cases hlt : i < n
    · have hi0 : (0 : Int) ≤ (i : Int) ∧ (i : Int) < (n : Int) := by omega
      obtain ⟨b, off, od, cap, rfl, -, hf, hno, hlc, hcm, hda, x0, x1, x2⟩ := (HS.out.later HB.out).get i hlt
      have HIS : Hid (IsSh tb wr [.int .u8 ((S i).ix : Int), .int .u32 ((S i).gen : Int), .slice od (S i).len cap] (S i)) := Lib.hid ⟨od, cap, rfl, hf, hno, hlc, hcm, hda⟩
      have HRG := Lib.hid (range3 x0 x1 x2)
      have HAW : Hid (Away u3 [.int .u8 ((S i).ix : Int), .int .u32 ((S i).gen : Int), .slice od (S i).len cap]) := Lib.hid fun a2 l cp hm hl e => by
        simp at hm
        obtain ⟨rfl, rfl, -⟩ := hm
        obtain ⟨b', off', od', cap', e2, -, hf', -, -, -, -, -, -, y2⟩ := HS.out.get i hlt
        cases e2
        have y3 := cell_below HB.out y2
        rw [x2] at y3
        cases y3
        obtain ⟨-, b3, o3, e3, hc3⟩ := hf' 0 hl
        cases e3
        have h1 : b3 < w.heap.size := World.block_lt_of_cell? w _ hc3
        have h2 := (HGS.out.block _ e).1
        have h3 := HBS.out
        simp only at h2
        omega
      obtain ⟨H, hH⟩ : ∃ x, wr.heap.size = x := ⟨_, rfl⟩
      have HHH := Lib.hid hH
      have HBH : Hid (base ≤ wr.heap.size) := Lib.hid (by rw [← HBS.out]; exact HB.out.size)
      have hi9 : i < 1000000 := by omega
      clear hf hno hlc hcm hda x0 x1 x2
      generalize (S i).ix = ix at *
      generalize (S i).gen = gn at *
      generalize (S i).len = ln at *
      go_wp2_with (first
        | (refine wpList_value rfl (exec_loadM (x := .tmp 14) (cs := [.int .u8 (ix : Int), .int .u32 (gn : Int), .slice od ln cap]) rfl rfl HRG.out Tryd.underlying55 rfl info_rshare3) ?_)
        | (refine wpList_appGS hu info_share rfl rfl (.tmp 11) (.tmp 16) rfl tb base u3 i S [.int .u8 (ix : Int), .int .u32 (gn : Int), .slice od ln cap] _ rfl HGS.out HIS.out HAW.out H HHH.out rfl hi9 HBH.out ?_; intro v6 w6 hG6 hg6 hb6 hs6; have HG6 := Lib.hid hG6; have HB6 := Lib.hid (HB.out.trans (by have h := hb6; rw [← HBS.out] at h; exact h)); clear hG6 hg6 hb6 hs6))
      go_roundw
      case rel => exact ⟨i + 1, by omega, by go_num, HG6.out, HB6.out⟩
      case measure => simp [intOf]; omega
    · obtain rfl : n = i := by omega
      obtain ⟨ob, cb, rfl, h1, h2, h3⟩ := HGS.out.shs (.inl (by have := HBS.out; have := HTB.out; omega))
      have HQ := Lib.hid (⟨h1, h2, h3, HB.out⟩ : n ≤ cb ∧ cb ≤ maxLen ∧ Shs tb wr ob n S ∧ Below w.heap.size w wr)
      clear h1 h2 h3
      go_wp2_with fail
      go_ret
      exact ⟨ob, cb, rfl, HQ.out⟩
end Go.Proofs.YtgiffaeckhhmpaaDoor
