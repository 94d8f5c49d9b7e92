/- The document's disk: with a sector's bytes. -/
import Derived.Test.YtcohllhmfghlfaaDoorDkJ
import Derived.Test.YtcohllhmfghlfaaDoorRrz
namespace Go.Proofs.YtcohllhmfghlfaaDoor
set_option linter.unusedVariables false
set_option linter.unusedSimpArgs false
open Go.RowKit

def setL (L : Nat → Nat) (i l : Nat) : Nat → Nat := fun j => if j = i then l else L j
set_option maxRecDepth 100000 in
set_option maxHeartbeats 4000000 in
theorem with_any (oa : Option Addr) (n ca i l cb : Nat) (ob : Option Addr) (L : Nat → Nat) (G : Nat → Nat → Nat) (F : Nat → Nat) (w : World) (hL : LBs w oa n L G) (hno : oa = none → n = 0) (hn : n < 100000) (hi : i < n) (hl : l ≤ cb) (hm : cb ≤ maxLen) (hB : Bytes w ob l F) (hbo : ob = none → l = 0) :
    Calls Tryd.prog 41 #[.slice oa n ca, .int .i64 (i : Int), .slice ob l cb] w fun e w' => ∃ g c, e = .returned (.slice (some ⟨g, 0, none⟩) n c) ∧ RL w' w.heap.size (.slice (some ⟨g, 0, none⟩) n c) n (fun j => if j = i then l else L j) (fun j => if j = i then F else G j) ∧ Below w.heap.size w w' := by
  have HL := Lib.hid hL.x
  have HN := Lib.hid hno
  have n0 : (n : Int) ≤ 9223372036854775807 := by omega
  have i1 : (i : Int) < (n : Int) := by omega
  have i0 : (0 : Int) ≤ (i : Int) := by omega
  have HI := Lib.hid (show i < n ∧ n < 100000 from ⟨hi, hn⟩)
  have HF := Lib.hid (show l ≤ cb ∧ cb ≤ maxLen ∧ Bytes w ob l F ∧ (ob = none → l = 0) from ⟨hl, hm, hB, hbo⟩)
  clear hL hno hn hi hl hm hB hbo
  go_enter Tryd.func41, Tryd.ntmps41
  go_wp2_with (first
    | (at_builtin; refine wpList_appRs rfl (.tmp 8) (.tmp 9) rfl w.heap.size (.slice none 0 0) 0 n ca (fun _ => 0) L (fun _ _ => 0) G oa w rfl (RL.nil _ _ _ _) rfl HL.out HN.out (by have := HI.out; omega) (Nat.le_refl _) ?_
       intro v' w' hR hb
       have HR := Lib.hid hR
       have HB := Lib.hid hb
       clear hR hb
       refine Hid.out ?_))
  refine Lib.hid ?_
  rw [Nat.zero_add] at HR
  have hR2 := HR.out.congr (L' := L) (G' := G) (fun j _ => by unfold catL; rw [if_neg (Nat.not_lt_zero _), Nat.sub_zero]) (fun j _ => by unfold catG; rw [if_neg (Nat.not_lt_zero _), Nat.sub_zero])
  obtain ⟨g, c, rfl, hg, _⟩ := hR2.some (Nat.lt_of_le_of_lt (Nat.zero_le _) HI.out.1)
  obtain ⟨⟨u, hu⟩, hf⟩ := hR2.cell HI.out.1
  have HR2 := Lib.hid hR2
  have HGG := Lib.hid hg
  clear hR2 hg HR
  go_wp2_with fail
  go_ret
  refine ⟨g, c, rfl, HR2.out.set HI.out.1 HF.out.1 HF.out.2.1 (HF.out.2.2.1.later HB.out) HF.out.2.2.2 (fun a ha h0 e => ?_), HB.out.trans (((Own.refl _ _).set _ _).below HGG.out HB.out.size)⟩
  have := HF.out.2.2.1.lt a ha h0
  have := HGG.out
  omega
end Go.Proofs.YtcohllhmfghlfaaDoor
