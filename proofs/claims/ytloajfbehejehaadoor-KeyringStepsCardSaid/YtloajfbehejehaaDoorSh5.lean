/- A hash: made, cloned. -/
import Derived.Test.YtloajfbehejehaaDoorSh4
import Derived.Test.YtloajfbehejehaaDoorApr
namespace Go.Proofs.YtloajfbehejehaaDoor
set_option linter.unusedVariables false
set_option linter.unusedSimpArgs false
open Go.RowKit

theorem Own.setRow {g : Nat} (w : World) (cs : Array Value) : Own g w (w.setRow g cs) := ⟨rfl, rfl, rfl, by simp, fun k _ hn => setRow_other w g k cs hn⟩
theorem Blk.setRow {w : World} {g : Nat} {C : Array Value} {t : TypeId} (h : Blk w g C t) (D : Array Value) : Blk (w.setRow g D) g D t := setRow_heap w g C D t (0, 0) h
/-- n bytes were written into a hash, as F tells them. -/
def HS (w : World) (g n : Nat) (F : Nat → Nat) : Prop := (g ≠ 1 ∧ g ≠ 2) ∧ ∃ R, HB w g (chK F (n / 64)) R (n % 64) n ∧ (∀ i, i < n % 64 → R i = F (64 * (n / 64) + i)) ∧ ∀ i, i < 64 → R i < 256
theorem HS.congr {w : World} {g n : Nat} {F G : Nat → Nat} (h : HS w g n F) (he : ∀ i, i < n → F i = G i) : HS w g n G := by
  obtain ⟨h0, R, h1, h2, h3⟩ := h
  refine ⟨h0, R, ?_, fun i hi => ?_, h3⟩
  · rw [← chK_congr (n / 64) (fun i hi => he i (by omega))]; exact h1
  · rw [h2 i hi, he _ (by omega)]
theorem HS.lt {w : World} {g n : Nat} {F : Nat → Nat} (h : HS w g n F) : g < w.heap.size := by
  obtain ⟨_, R, h1, _⟩ := h; exact Blk.lt h1
theorem HS.later {w w' : World} {g n : Nat} {F : Nat → Nat} (h : HS w g n F) (hb : Below w.heap.size w w') : HS w' g n F := by
  obtain ⟨h0, R, h1, h2, h3⟩ := h; exact ⟨h0, R, Blk.below h1 hb (Blk.lt h1), h2, h3⟩
theorem HS.own {w w' : World} {g b n : Nat} {F : Nat → Nat} (h : HS w g n F) (hO : Own b w w') (hn : g ≠ b) : HS w' g n F := by
  obtain ⟨h0, R, h1, h2, h3⟩ := h; exact ⟨h0, R, hO.blk h1 hn, h2, h3⟩
theorem build60 (H : Nat → Nat) (w : World) : (Instr.build 118 #[(0, .agg (rowW 8 H).toArray)]).run Tryd.prog w = .ok (.agg (hshC H (fun _ => 0) 0 0).toArray) w :=
  run_build w 118 _ _ (by kernel_rfl)
theorem exec_buildH {o : Oper} {a : Act} {w : World} {C : Array Value} {parts : Array (Nat × Operand)} {ps : Array (Nat × Value)} (ho : o.op = .build 118 parts) (hp : (parts.map fun (i, x) => (i, a.eval x)) = ps) (h : ∀ w, (Instr.build 118 ps).run Tryd.prog w = .ok (.agg C) w) : (execOp a.eval o).run Tryd.prog w = .ok (.value (.agg C)) w := by
  unfold execOp
  simp only [ho, hp, Sem.run_bind, h, Result.andThen_ok]
  rfl
theorem info60 (H R : Nat → Nat) (k n : Nat) : (Tryd.prog.info? 118).map (·.size) = some (hshC H R k n).toArray.size := by rw [hshC_size]; kernel_rfl
theorem one60 (H R : Nat → Nat) (k n : Nat) : (hshC H R k n).toArray.all (·.oneCell') = true := all_oneCell_toArray (hshC_one _ _ _ _)
def zero74 : Array Value := (hshC (fun _ => 0) (fun _ => 0) 0 0).toArray
theorem zero74_run (w : World) : (zeroValue 118).run Tryd.prog w = .ok (.agg zero74) w := by kernel_rfl
theorem GV.range {w : World} (h : GV w) : w.rangeAt 1 0 (rowW 8 hN) := fun j v hv => by
  have hj : j < 8 := by have := (List.getElem?_eq_some_iff.1 hv).1; rw [rowW_len] at this; exact this
  rw [rowW_get hN hj] at hv
  rw [Nat.zero_add, h.1 j hj]; exact hv
theorem info56l (v : Nat → Nat) : (Tryd.prog.info? 115).map (·.size) = some (rowW 8 v).length := by rw [rowW_len]; kernel_rfl
theorem info57l (v : Nat → Nat) : (Tryd.prog.info? 108).map (·.size) = some (rowC 64 v).length := by rw [rowC_len]; kernel_rfl
set_option maxRecDepth 100000 in
set_option maxHeartbeats 1000000 in
theorem hnew_any (w : World) (hg : GV w) :
    Calls Tryd.prog 48 #[] w fun e w' => ∃ g, e = .returned (.pointer (some ⟨g, 0, none⟩)) ∧ (∀ F, HS w' g 0 F) ∧ Below w.heap.size w w' ∧ w.heap.size ≤ g := by
  have hl := hg.lt
  obtain ⟨L, hL⟩ : ∃ L, rowW 8 hN = L := ⟨_, rfl⟩
  obtain ⟨C, hC⟩ : ∃ C, (hshC hN (fun _ => 0) 0 0).toArray = C := ⟨_, rfl⟩
  have HR : Hid (w.rangeAt 1 0 L) := Lib.hid (by rw [← hL]; exact hg.range)
  have HI : Hid ((Tryd.prog.info? 115).map (·.size) = some L.length) := Lib.hid (by rw [← hL]; exact info56l _)
  have HB : Hid (∀ w', (Instr.build 118 #[(0, .agg L.toArray)]).run Tryd.prog w' = .ok (.agg C) w') := Lib.hid fun w' => by rw [← hL, build60, hC]
  have HN : Hid (∀ F, HS (w.alloc (.cells C 118)) w.heap.size 0 F) := Lib.hid fun F => by
    refine ⟨⟨by omega, by omega⟩, fun _ => 0, ?_, fun i hi => ?_, fun i _ => by show 0 < _; decide⟩
    · rw [← hC]; exact Blk.new w _ _
    · rw [Nat.zero_mod] at hi; exact absurd hi (Nat.not_lt_zero _)
  clear hl hL hC hg
  go_enter Tryd.func48, Tryd.ntmps48
  go_wp2_with (first
    | (refine wpList_load_mid rfl 115 (.global 1) rfl 1 0 rfl L _ HR.out Tryd.underlying115 rfl HI.out ?_)
    | (refine wpList_value rfl (exec_buildH (parts := #[(0, .tmp 1)]) (ps := #[(0, .agg L.toArray)]) rfl (by simp; rfl) HB.out) ?_))
  go_ret
  exact ⟨_, rfl, HN.out, (Below.refl _ _).alloc (Nat.le_refl _) _, Nat.le_refl _⟩
set_option maxRecDepth 100000 in
set_option maxHeartbeats 1000000 in
theorem clone_nil (w : World) :
    Calls Tryd.prog 46 #[.pointer none] w fun e w' => e = .returned (.pointer none) ∧ w' = w := by
  go_enter Tryd.func46, Tryd.ntmps46
  go_wp2_with fail
  go_ret
  exact ⟨rfl, rfl⟩
set_option maxRecDepth 100000 in
set_option maxHeartbeats 1000000 in
theorem hclone_any (g n : Nat) (F : Nat → Nat) (w : World) (h : HS w g n F) (hg : GV w) :
    Calls Tryd.prog 46 #[.pointer (some ⟨g, 0, none⟩)] w fun e w' => ∃ g', e = .returned (.pointer (some ⟨g', 0, none⟩)) ∧ HS w' g' n F ∧ Below w.heap.size w w' ∧ w.heap.size ≤ g' := by
  have hl := hg.lt
  obtain ⟨_, R, hB, hR1, hR2⟩ := h
  have hz := zero74_run
  obtain ⟨wa, hwa⟩ : ∃ q, w.alloc (.cells zero74 118) = q := ⟨_, rfl⟩
  have hba : Below w.heap.size w wa := by rw [← hwa]; exact (Below.refl _ _).alloc (Nat.le_refl _) _
  have hA : HB wa w.heap.size (fun _ => 0) (fun _ => 0) 0 0 := by rw [← hwa]; exact Blk.new w _ _
  have hI := info60 (chK F (n / 64)) R (n % 64) n
  have hI1 := one60 (chK F (n / 64)) R (n % 64) n
  have hTH : wa.there w.heap.size 0 (hshC (chK F (n / 64)) R (n % 64) n).toArray.size := Blk.there hA (by rw [hshC_size, hshC_size]; exact Nat.le_refl _)
  have hN : HB (wa.setCells w.heap.size 0 (hshC (chK F (n / 64)) R (n % 64) n).toArray.toList) w.heap.size (chK F (n / 64)) R (n % 64) n := Blk.setCells hA (hshC _ _ _ _) (by rw [hshC_size, hshC_len])
  have hO : Below w.heap.size w (wa.setCells w.heap.size 0 (hshC (chK F (n / 64)) R (n % 64) n).toArray.toList) := hba.trans ((Own.setCells _ 0 wa).below (Nat.le_refl _) hba.size)
  obtain ⟨C, hC⟩ : ∃ C, (hshC (chK F (n / 64)) R (n % 64) n).toArray = C := ⟨_, rfl⟩
  have hNN : HS (wa.setCells w.heap.size 0 C.toList) w.heap.size n F := ⟨⟨by omega, by omega⟩, R, by rw [← hC]; exact hN, hR1, hR2⟩
  unfold HB at hB
  rw [hC] at hB hI hI1 hTH hO
  have HB1 := Lib.hid hB
  have HI := Lib.hid hI
  have HI1 := Lib.hid hI1
  have HTH := Lib.hid hTH
  have HO := Lib.hid hO
  have HN := Lib.hid hNN
  clear hl hB hI hI1 hTH hO hN hNN hA hba hC hR1 hR2 hg
  go_enter Tryd.func46, Tryd.ntmps46
  go_wp2_with (first
    | (refine wpList_load_row rfl 118 (.tmp 7) rfl g rfl 118 C (0, 0) _ HB1.out Tryd.underlying118 rfl HI.out ?_)
    | (refine wpList_store_mid rfl 118 (.tmp 3) (.tmp 8) rfl w.heap.size 0 C rfl rfl HTH.out HI.out HI1.out ?_))
  go_ret
  exact ⟨_, rfl, HN.out, HO.out, Nat.le_refl _⟩
end Go.Proofs.YtloajfbehejehaaDoor
