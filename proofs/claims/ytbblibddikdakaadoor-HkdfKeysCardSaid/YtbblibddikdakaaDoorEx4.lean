/- What must come of keys out of keys whatever the input is. -/
import Derived.Test.YtbblibddikdakaaDoorEx3
import Derived.Test.YtbblibddikdakaaDoorNum07
import Derived.Test.YtbblibddikdakaaDoorShB
namespace Go.Proofs.YtbblibddikdakaaDoor
set_option linter.unusedVariables false
set_option linter.unusedSimpArgs false
open Go.RowKit

theorem exec_convB {o : Oper} {a : Act} {w : World} {x : Operand} {b off n cap : Nat} {f : Nat → Nat} (ho : o.op = .convert 25 9 x) (hx : a.eval x = .slice (some ⟨b, off, none⟩) n cap) (h : Bytes w (some ⟨b, off, none⟩) n f) : (execOp a.eval o).run Tryd.prog w = .ok (.value (.string (strF n f))) w := by
  unfold execOp
  simp only [ho, hx, h.conv, Sem.run_bind, Result.andThen_ok]
  rfl
theorem str_ne {S1 S2 : ByteArray} (h : S1 ≠ S2) : ¬ S1.toList = S2.toList := fun e => h (by
  rw [ByteArray.toList_eq, ByteArray.toList_eq] at e
  cases S1; cases S2
  exact congrArg ByteArray.mk (Array.toList_inj.1 e))
theorem key_use (x : Nat) (hx : x < 4294967296) (g : Nat) (w : World) (hR : RB 5 32 g (fun _ => 0) w) (hg : GV w) :
    Calls Tryd.prog 30 #[.slice (some ⟨g, 0, none⟩) 32 32, .string ⟨#[117, 115, 101]⟩, .int .u32 (x : Int)] w fun e w' => ∃ b off, e = .returned (.tuple #[.slice (some ⟨b, off, none⟩) 32 32, .nilIface]) ∧ Bytes w' (some ⟨b, off, none⟩) 32 (exF 32 (fun _ => 0) 8 (kiF useS x)) ∧ Below w.heap.size w w' := by
  refine (key_any (some ⟨g, 0, none⟩) 32 (fun _ => 0) useS x w (RB.bytes hR fun i _ => by decide) (Nat.le_refl _) (by decide) (by decide) hx hg).mono ?_
  rintro e w' ⟨o, h1, h2, h3⟩
  obtain ⟨_, b, off, rfl, _⟩ := h2 0 (by decide)
  exact ⟨b, off, h1, h2, h3⟩
/-- The package's variables, both kinds. -/
def GH (w : World) : Prop := GV w ∧ Handle w
theorem GH.later {w w' : World} (h : GH w) (hb : Below w.heap.size w w') : GH w' := ⟨h.1.later hb, h.2.later hb⟩
set_option maxRecDepth 100000 in
set_option maxHeartbeats 4000000 in
theorem hkdf_sure (w : World) (hg : GH w) : Calls Tryd.prog 26 #[] w fun e w' => e = .returned (.bool true) ∧ Below w.heap.size w w' := by
  have HG := Lib.hid hg
  obtain ⟨wa, hwa⟩ : ∃ q, w.alloc (.cells (rowC 32 (fun _ => 0)).toArray 5) = q := ⟨_, rfl⟩
  have hba : Below w.heap.size w wa := by rw [← hwa]; exact (Below.refl _ _).alloc (Nat.le_refl _) _
  have HBA := Lib.hid hba
  have HK1 : Hid (Calls Tryd.prog 30 #[.slice (some ⟨w.heap.size, 0, none⟩) 32 32, .string ⟨#[117, 115, 101]⟩, .int .u32 1] wa fun e w' => ∃ b off, e = .returned (.tuple #[.slice (some ⟨b, off, none⟩) 32 32, .nilIface]) ∧ Bytes w' (some ⟨b, off, none⟩) 32 (exF 32 (fun _ => 0) 8 (kiF useS 1)) ∧ Below wa.heap.size wa w') := Lib.hid (key_use 1 (by decide) w.heap.size wa (by rw [← hwa]; exact Blk.new w _ _) (hg.1.later hba))
  have HK2 : Hid (∀ w1, GV w1 → Calls Tryd.prog 30 #[.slice (some ⟨w1.heap.size, 0, none⟩) 32 32, .string ⟨#[117, 115, 101]⟩, .int .u32 2] (w1.alloc (.cells (rowC 32 (fun _ => 0)).toArray 5)) fun e w' => ∃ b off, e = .returned (.tuple #[.slice (some ⟨b, off, none⟩) 32 32, .nilIface]) ∧ Bytes w' (some ⟨b, off, none⟩) 32 (exF 32 (fun _ => 0) 8 (kiF useS 2)) ∧ Below w1.heap.size w1 w') := Lib.hid fun w1 h1 => by
    have hb : Below w1.heap.size w1 (w1.alloc (.cells (rowC 32 (fun _ => 0)).toArray 5)) := (Below.refl _ _).alloc (Nat.le_refl _) _
    refine (key_use 2 (by decide) w1.heap.size _ (Blk.new w1 _ _) (h1.later hb)).mono ?_
    rintro e w' ⟨b, off, h1, h2, h3⟩
    exact ⟨b, off, h1, h2, hb.trans (h3.mono hb.size)⟩
  obtain ⟨F1, hF1⟩ : ∃ F, exF 32 (fun _ => 0) 8 (kiF useS 1) = F := ⟨_, rfl⟩
  obtain ⟨F2, hF2⟩ : ∃ F, exF 32 (fun _ => 0) 8 (kiF useS 2) = F := ⟨_, rfl⟩
  have hne := use_ne
  rw [hF1] at HK1 hne
  rw [hF2] at HK2 hne
  obtain ⟨S1, hS1⟩ : ∃ S, strF 32 F1 = S := ⟨_, rfl⟩
  obtain ⟨S2, hS2⟩ : ∃ S, strF 32 F2 = S := ⟨_, rfl⟩
  rw [hS1, hS2] at hne
  have HS : Hid (strF 32 F1 = S1 ∧ strF 32 F2 = S2) := Lib.hid ⟨hS1, hS2⟩
  have hne2 := str_ne hne
  have hne3 : (S1.toList == S2.toList) = false := by rw [beq_eq_false_iff_ne]; exact hne2
  clear hg hF1 hF2 hS1 hS2 hba hne
  go_enter Tryd.func26, Tryd.ntmps26
  go_wp2_with (first | (refine wpList_mk rfl _ _ rfl 32 rfl rfl (by decide) ?_; rw [hwa]))
  clear hwa
  refine HK1.out.mono ?_
  rintro e w1 ⟨b1, o1, rfl, hB1, hb1⟩
  have H1 : Hid (Bytes w1 (some ⟨b1, o1, none⟩) 32 F1 ∧ Below w.heap.size w w1 ∧ GH w1) := Lib.hid (by
    have h := HBA.out.trans (hb1.mono HBA.out.size)
    exact ⟨hB1, h, HG.out.later h⟩)
  clear hB1 hb1 HK1 HBA
  go_wp2_with (first | (refine wpList_mk rfl _ _ rfl 32 rfl rfl (by decide) ?_))
  refine (HK2.out w1 H1.out.2.2.1).mono ?_
  rintro e w2 ⟨b2, o2, rfl, hB2, hb2⟩
  have H2 : Hid (Bytes w2 (some ⟨b1, o1, none⟩) 32 F1 ∧ Bytes w2 (some ⟨b2, o2, none⟩) 32 F2 ∧ Below w.heap.size w w2 ∧ GH w2) := Lib.hid (by
    have h := H1.out.2.1.trans (hb2.mono H1.out.2.1.size)
    exact ⟨H1.out.1.later hb2, hB2, h, HG.out.later h⟩)
  clear hB2 hb2 HK2 H1
  go_wp2_with fail
  refine (expand_bad _ _ 8161 w2 (by decide) (by decide) (.inr (by decide))).mono ?_
  rintro e w3 ⟨rfl, he3⟩
  have he3 := he3.symm
  subst he3
  go_wp2_with (first
    | (refine wpList_valueG (by rfl) (exec_convB (x := .tmp 33) rfl rfl H2.out.1) ?_; rw [HS.out.1])
    | (refine wpList_valueG (by rfl) (exec_convB (x := .tmp 35) rfl rfl H2.out.2.1) ?_; rw [HS.out.2]))
  refine (num_err 1 w2 H2.out.2.2.2.2).mono ?_
  rintro e w4 ⟨rfl, hb4⟩
  have H4 : Hid (Below w.heap.size w w4 ∧ GH w4) := Lib.hid (by
    have h := H2.out.2.2.1.trans (hb4.mono H2.out.2.2.1.size)
    exact ⟨h, HG.out.later h⟩)
  clear hb4 H2
  go_wp2_with fail
  refine (extract_any none none 0 0 0 0 (fun _ => 0) (fun _ => 0) w4 (fun k hk => absurd hk (Nat.not_lt_zero _)) (Nat.le_refl _) (fun _ => rfl) (by decide) (fun k hk => absurd hk (Nat.not_lt_zero _)) (Nat.le_refl _) (by decide) H4.out.2.1).mono ?_
  rintro e w5 ⟨g5, rfl, _, hb5⟩
  have HO := Lib.hid (H4.out.1.trans (hb5.mono H4.out.1.size))
  clear hb5 H4
  go_wp2_with fail
  go_ret
  exact ⟨rfl, HO.out⟩
end Go.Proofs.YtbblibddikdakaaDoor
