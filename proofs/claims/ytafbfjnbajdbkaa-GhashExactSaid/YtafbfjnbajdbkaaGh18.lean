/- Bytes, block by block, through the document's product. -/
import Derived.Test.YtafbfjnbajdbkaaGh17
import Derived.Test.YtafbfjnbajdbkaaGh10
namespace Go.Proofs.Ytafbfjnbajdbkaa
set_option linter.unusedVariables false
set_option linter.unusedSimpArgs false
open Go.RowKit

/-- Behind k blocks. -/
def TJ (w0 : World) (h f s : Nat → Nat) (n k : Nat) (wr : World) : Prop := A16 wr w0.heap.size (thrF h f n s k) ∧ A16 wr (w0.heap.size + 1) h ∧ A16 wr (w0.heap.size + 1 + 1) (fun _ => 0) ∧ Below w0.heap.size w0 wr
/-- While a block is filled: behind i bytes. -/
def TF (w0 : World) (h f s : Nat → Nat) (n k g i : Nat) (wr : World) : Prop := A16 wr g (fun j => if j < i then chF f n k j else 0) ∧ TJ w0 h f s n k wr
set_option maxRecDepth 100000 in
set_option maxHeartbeats 8000000 in
theorem take_any (s y f : Nat → Nat) (oa : Option Addr) (n cap : Nat) (w : World) (hs : ∀ i, i < 16 → s i < 256) (hh : ∀ i, i < 16 → y i < 256) (hb : Bytes w oa n f) (hn : n < 1000000) :
    Calls Try.prog 18 #[.agg (rowC 16 s).toArray, .agg (rowC 16 y).toArray, .slice oa n cap] w fun e w' => e = .returned (.agg (rowC 16 (thrF y f n s ((n + 15) / 16))).toArray) ∧ Below w.heap.size w w' := by
  have hz := zero16a_run
  obtain ⟨C, hC⟩ : ∃ C, (rowC 16 s).toArray = C := ⟨_, rfl⟩
  obtain ⟨D, hD⟩ : ∃ C, (rowC 16 y).toArray = C := ⟨_, rfl⟩
  have hf : ∀ i, i < n → f i < 256 := fun i hi => (hb i hi).1
  have HT := Lib.hid (show TJ w y f s n 0 (((w.alloc (.cells C 22)).alloc (.cells D 22)).alloc (.cells zero16 22)) by
    rw [← hC, ← hD]
    refine ⟨((Blk.new w _ 22).alloc _).alloc _, ?_, ?_, (((Below.refl _ _).alloc (Nat.le_refl _) _).alloc (by simp) _).alloc (by simp; omega) _⟩
    · have := (Blk.new (w.alloc (.cells (rowC 16 s).toArray 22)) (rowC 16 y).toArray 22).alloc (.cells zero16 22)
      unfold A16; simpa using this
    · have := Blk.new ((w.alloc (.cells (rowC 16 s).toArray 22)).alloc (.cells (rowC 16 y).toArray 22)) zero16 22
      show Blk _ _ zero16 _; simpa using this)
  have HD3 := Lib.hid hD
  have HS := Lib.hid hs
  have HH := Lib.hid hh
  have HF := Lib.hid hf
  have HBy := Lib.hid hb
  rw [hC, hD]
  clear hs hh hb hf hC hD
  go_enter Try.func18, Try.ntmps18
  go_wp2_with fail
  go_loopw [7] (fun v wr => ∃ k a : Nat, k ≤ (n + 15) / 16 ∧ a = 16 * k ∧ v = .int .i64 (a : Int) ∧ TJ w y f s n k wr) (fun v _ => n + 16 - (intOf v).toNat)
  case atStart => exact ⟨0, 0, Nat.zero_le _, rfl, rfl, HT.out⟩
  case round =>
    clear HT
    obtain ⟨k, a, hk, ha, rfl, hJ⟩ := hrel
    have HA := Lib.hid ha
    have HK := Lib.hid hk
    clear ha hk
    by_cases hlt : a < n
    · have hl : (a : Int) < (n : Int) := by omega
      have a0 : (0 : Int) ≤ (a : Int) := by omega
      have n9 : (n : Int) < 1000000 := by omega
      obtain ⟨_, b, off, rfl, _⟩ := HBy.out a hlt
      obtain ⟨g, hg⟩ : ∃ q, wr.heap.size = q := ⟨_, rfl⟩
      obtain ⟨wa, hwa⟩ : ∃ q, wr.alloc (.cells zero16 22) = q := ⟨_, rfl⟩
      have hba : Below wr.heap.size wr wa := by rw [← hwa]; exact (Below.refl _ _).alloc (Nat.le_refl _) _
      have HT : Hid (TF w y f s n k g 0 wa) := Lib.hid (by
        obtain ⟨h1, h2, h3, h4⟩ := hJ
        refine ⟨?_, Blk.below h1 hba (Blk.lt h1), Blk.below h2 hba (Blk.lt h2), Blk.below h3 hba (Blk.lt h3), h4.trans (hba.mono h4.size)⟩
        have : A16 wa g (fun _ => 0) := by rw [← hwa, ← hg]; exact Blk.new wr zero16 22
        exact this.congr fun i _ => (if_neg (Nat.not_lt_zero i)).symm)
      have HG : Hid (w.heap.size + 1 + 1 < g) := Lib.hid (by rw [← hg]; exact Blk.lt hJ.2.2.1)
      clear hJ hba
      go_wp2_with fail
      clear hz hwa hg
      go_loopw [9] (fun v wi => ∃ i : Nat, i ≤ 16 ∧ a + i ≤ n ∧ v = .int .i64 (i : Int) ∧ TF w y f s n k g i wi) (fun v _ => 16 - (intOf v).toNat)
      case atStart => exact ⟨0, Nat.zero_le _, by omega, rfl, HT.out⟩
      case round =>
        clear HT
        obtain ⟨i, hi, hai, rfl, hE, hJ⟩ := hrel
        by_cases hc : i < 16 ∧ a + i < n
        · obtain ⟨hi2, hai2⟩ := hc
          have i0 : (0 : Int) ≤ (i : Int) := by omega
          have i1 : (i : Int) < 16 := by omega
          have i2 : (a : Int) + (i : Int) < (n : Int) := by omega
          obtain ⟨hfa, b', off', eb, hcell⟩ := HBy.out (a + i) hai2
          cases eb
          have hO := hJ.2.2.2
          have cb : wr.cell? ⟨b, off + (a + i), none⟩ = some (.int .u8 (f (a + i) : Nat)) := cell_below hO hcell
          have cx : wr.cell? ⟨g, i, none⟩ = some (.int .u8 0) := by
            have := hE.cell hi2; rw [if_neg (Nat.lt_irrefl _)] at this; exact this
          have fx : wr.frozen? ⟨g, i, none⟩ = false := Blk.free hE i
          have hgg := HG.out
          have HN := Lib.hid (show TF w y f s n k g (i + 1) (wr.setCell ⟨g, i, none⟩ (.int .u8 (f (a + i) : Nat))) by
            obtain ⟨h1, h2, h3, h4⟩ := hJ
            refine ⟨(hE.set i (f (a + i))).congr fun j hj => ?_, Blk.set_other h1 (by simp; omega) _, Blk.set_other h2 (by simp; omega) _, Blk.set_other h3 (by simp; omega) _, h4.setCell (by simp; omega) _⟩
            unfold upd
            by_cases e : j = i
            · subst e; rw [if_pos rfl, if_pos (by omega)]; show f (a + j) = if 16 * k + j < n then f (16 * k + j) else 0
              rw [← HA.out, if_pos hai2]
            · rw [if_neg e]
              show (if j < i then chF f n k j else 0) = if j < i + 1 then chF f n k j else 0
              by_cases h5 : j < i
              · rw [if_pos h5, if_pos (by omega)]
              · rw [if_neg h5, if_neg (by omega)])
          clear hE hJ hO hcell hgg
          generalize f (a + i) = r at *
          go_wp2_with fail
          go_roundw
          case rel => exact ⟨i + 1, by omega, by omega, by go_num, HN.out⟩
          case measure => simp [intOf]; omega
        · have hE2 : A16 wr g (chF f n k) := hE.congr fun j hj => by
            by_cases h5 : j < i
            · rw [if_pos h5]
            · rw [if_neg h5]; show 0 = if 16 * k + j < n then f (16 * k + j) else 0
              rw [if_neg (by rw [← HA.out]; omega)]
          obtain ⟨h1, h2, h3, h4⟩ := hJ
          obtain ⟨F3, hF3⟩ : ∃ x, (rowC 16 (thrF y f n s k)).toArray = x := ⟨_, rfl⟩
          obtain ⟨E, hE3⟩ : ∃ x, (rowC 16 (chF f n k)).toArray = x := ⟨_, rfl⟩
          obtain ⟨A3, hA3⟩ : ∃ x, (rowC 16 (addF (thrF y f n s k) (chF f n k))).toArray = x := ⟨_, rfl⟩
          obtain ⟨M, hM3⟩ : ∃ x, (rowC 16 (thrF y f n s (k + 1))).toArray = x := ⟨_, rfl⟩
          have htl : ∀ i, i < 16 → thrF y f n s k i < 256 := fun i hi => thrF_lt HS.out k i hi
          have hcl2 : ∀ i, i < 16 → chF f n k i < 256 := fun i _ => chF_lt HF.out i
          have HADD : Hid (∀ w, Calls Try.prog 8 #[.agg F3, .agg E] w fun e w' => e = .returned (.agg A3) ∧ Below w.heap.size w w') := Lib.hid fun w => by
            rw [← hF3, ← hE3, ← hA3]; exact radd_any _ _ w htl hcl2
          have HMUL : Hid (∀ w, Calls Try.prog 10 #[.agg A3, .agg D] w fun e w' => e = .returned (.agg M) ∧ Below w.heap.size w w') := Lib.hid fun w => by
            rw [← HD3.out, ← hA3, ← hM3]; exact rmul_any _ _ w (addF_lt htl hcl2) HH.out
          have HIF : Hid ((Try.prog.info? 22).map (·.size) = some F3.size) := Lib.hid (hF3 ▸ info16a _)
          have HIE : Hid ((Try.prog.info? 22).map (·.size) = some E.size) := Lib.hid (hE3 ▸ info16a _)
          have HID : Hid ((Try.prog.info? 22).map (·.size) = some D.size) := Lib.hid (HD3.out ▸ info16a _)
          have HM5 : Hid (∃ f, M = (rowC 16 f).toArray) := Lib.hid ⟨_, hM3.symm⟩
          have HF5 : Hid (∃ f, F3 = (rowC 16 f).toArray) := Lib.hid ⟨_, hF3.symm⟩
          have hgg := HG.out
          have HNE : Hid (∀ p ∈ [(g, E), (w.heap.size + 1, D)], p.1 ≠ w.heap.size) := Lib.hid (by
            intro p hp
            rcases List.mem_cons.1 hp with rfl | hp
            · show g ≠ _; omega
            · rcases List.mem_cons.1 hp with rfl | hp
              · exact Nat.succ_ne_self _
              · cases hp)
          have HNZ : Hid (w.heap.size + 1 + 1 ≠ w.heap.size) := Lib.hid (by omega)
          have HM6 : Hid (M = (rowC 16 (thrF y f n s (k + 1))).toArray) := Lib.hid hM3.symm
          have HD6 : Hid (D = (rowC 16 y).toArray) := Lib.hid HD3.out.symm
          have HK1 : Hid (k + 1 ≤ (n + 15) / 16) := Lib.hid (by have := HA.out; omega)
          have HA1 : Hid (a + 16 = 16 * (k + 1)) := Lib.hid (by have := HA.out; omega)
          have g1 : Blk wr w.heap.size F3 22 := hF3 ▸ h1
          have g2 : Blk wr (w.heap.size + 1) D 22 := HD3.out ▸ h2
          have g3 : Blk wr g E 22 := hE3 ▸ hE2
          have HS9 := Lib.hid (SA.cons g3 (SA.cons g2 (SA.nil _)))
          have HX9 := Lib.hid g1
          have HZ9 := Lib.hid h3
          have HO9 := Lib.hid h4
          have hci : ¬ i < 16 ∨ (i < 16 ∧ ¬ a + i < n) := by omega
          clear hE hE2 h1 h2 h3 h4 hF3 hE3 hA3 hM3 htl hcl2 g1 g2 g3 hc hgg
          rcases hci with hc | ⟨hc1, hc⟩
          · have hc' : ¬ (i : Int) < 16 := by omega
            go_wp2_with fail
            have hS_0 := HS9.out.drew
            have hX_0 := Blk.drew HX9.out
            have hZ_0 := Blk.drew HZ9.out
            have hO_0 := HO9.out.drew
            clear HS9 HX9 HZ9 HO9
            refine wp_region_held_drew (S := (SA [(g, E), (w.heap.size + 1, D)])) (by kernel_rfl) ?_ (fun hHeld => ?_)
            · (try dsimp only)
              first | assumption | (apply SA.drew; assumption)
            generalize wr.drew = w5 at *
            refine wpAnyH_take (i := 1) (oi := { dst := some 37, op := Go.Op.load 22 (Go.Operand.tmp 8), type := 22, pos := "ref.go:42", after := #[], guard := none }) (v := ?_) rfl (by kernel_rfl) (by kernel_rfl) (by kernel_rfl) (fun _ _ _ h => h) (Or.inl ⟨by rfl, ?_⟩) (by assumption) ?_
            rotate_left
            · intro w hSw
              refine exec_load16a (x := .tmp 8) ?_ ?_ (ld16a hSw.h0 HIE.out) <;> rfl
            (try simp only [Act.put, List.setIfInBounds_toArray, List.set_cons_zero, List.set_cons_succ])
            refine wpAnyH_take (i := 3) (oi := { dst := some 39, op := Go.Op.load 22 (Go.Operand.tmp 4), type := 22, pos := "ref.go:42", after := #[], guard := none }) (v := ?_) rfl (by kernel_rfl) (by kernel_rfl) (by kernel_rfl) (fun _ _ _ h => h) (Or.inl ⟨by rfl, ?_⟩) (by assumption) ?_
            rotate_left
            · intro w hSw
              refine exec_load16a (x := .tmp 4) ?_ ?_ (ld16a hSw.tl.h0 HID.out) <;> rfl
            (try simp only [Act.put, List.setIfInBounds_toArray, List.set_cons_zero, List.set_cons_succ])
            refine wpAnyH_ready (rs := [0]) (by kernel_rfl) (by simp) ?_
            refine AllReadyH.cons (o := { dst := some 36, op := Go.Op.load 22 (Go.Operand.tmp 3), type := 22, pos := "ref.go:42", after := #[], guard := none }) rfl (fun K hK => ?_) AllReadyH.nil
            refine step_load16a rfl (.tmp 3) rfl w.heap.size rfl F3 hX_0 HIF.out ?_
            refine hK.out _ _ ?_ (fun hHeld => ?_)
            · (try dsimp only)
              first | assumption | (apply SA.drew; assumption)
            clear hK K
            (try simp only [Act.put, List.setIfInBounds_toArray, List.set_cons_zero, List.set_cons_succ])
            refine wpAnyH_ready (rs := [2]) (by kernel_rfl) (by simp) ?_
            refine AllReadyH.cons (o := { dst := some 38, op := Go.Op.call { callee := Go.Callee.value (Go.Operand.func 8), args := #[Go.Operand.tmp 36, Go.Operand.tmp 37], argTypes := #[22, 22] }, type := 22, pos := "ref.go:42", after := #[{ on := 0, ground := Go.Ground.data }, { on := 1, ground := Go.Ground.data }], guard := none }) rfl (fun K hK => ?_) AllReadyH.nil
            go_simp
            (refine (HADD.out _).mono ?_; rintro e v_1 ⟨rfl, hb_1⟩; have hS_1 := SA.later hS_0 hb_1; have hX_1 := Blk.below hX_0 hb_1 (Blk.lt hX_0); have hZ_1 := Blk.below hZ_0 hb_1 (Blk.lt hZ_0); have hO_1 := Below.trans hO_0 (hb_1.mono hO_0.size); clear hS_0 hX_0 hZ_0 hO_0; clear hb_1; skip)
            (try go_wp2_with fail)
            refine hK.out _ _ ?_ (fun hHeld => ?_)
            · (try dsimp only)
              first | assumption | (apply SA.drew; assumption)
            clear hK K
            (try simp only [Act.put, List.setIfInBounds_toArray, List.set_cons_zero, List.set_cons_succ])
            refine wpAnyH_ready (rs := [4]) (by kernel_rfl) (by simp) ?_
            refine AllReadyH.cons (o := { dst := some 40, op := Go.Op.call { callee := Go.Callee.value (Go.Operand.func 10), args := #[Go.Operand.tmp 38, Go.Operand.tmp 39], argTypes := #[22, 22] }, type := 22, pos := "ref.go:42", after := #[{ on := 2, ground := Go.Ground.data }, { on := 3, ground := Go.Ground.data }, { on := 2, ground := Go.Ground.chain }], guard := none }) rfl (fun K hK => ?_) AllReadyH.nil
            go_simp
            (refine (HMUL.out _).mono ?_; rintro e v_2 ⟨rfl, hb_2⟩; have hS_2 := SA.later hS_1 hb_2; have hX_2 := Blk.below hX_1 hb_2 (Blk.lt hX_1); have hZ_2 := Blk.below hZ_1 hb_2 (Blk.lt hZ_1); have hO_2 := Below.trans hO_1 (hb_2.mono hO_1.size); clear hS_1 hX_1 hZ_1 hO_1; clear hb_2; skip)
            (try go_wp2_with fail)
            refine hK.out _ _ ?_ (fun hHeld => ?_)
            · (try dsimp only)
              first | assumption | (apply SA.drew; assumption)
            clear hK K
            (try simp only [Act.put, List.setIfInBounds_toArray, List.set_cons_zero, List.set_cons_succ])
            refine wpAnyH_ready (rs := [5]) (by kernel_rfl) (by simp) ?_
            refine AllReadyH.cons (o := { dst := none, op := Go.Op.store 22 (Go.Operand.tmp 3) (Go.Operand.tmp 40), type := 0, pos := "ref.go:42", after := #[{ on := 4, ground := Go.Ground.data }, { on := 4, ground := Go.Ground.chain }, { on := 0, ground := Go.Ground.phase }, { on := 1, ground := Go.Ground.phase }, { on := 2, ground := Go.Ground.phase }, { on := 3, ground := Go.Ground.phase }, { on := 4, ground := Go.Ground.phase }], guard := none }) rfl (fun K hK => ?_) AllReadyH.nil
            (refine step_store16a rfl (.tmp 3) (.tmp 40) rfl w.heap.size rfl M F3 rfl hX_2 HM5.out HF5.out ?_; have hX_3 := Blk.store16a hX_2 HM5.out HF5.out; have hS_3 := SA.set hS_2 HNE.out M.toList; have hZ_3 := (Own.setCells M.toList 0 v_2).blk hZ_2 HNZ.out; have hO_3 := Below.set16 (g := w.heap.size) hO_2 (Nat.le_refl _) hO_2.size M.toList; obtain ⟨v_3, hw_3⟩ : ∃ q, (v_2.setCells w.heap.size 0 M.toList) = q := ⟨_, rfl⟩; rw [hw_3] at hX_3 hS_3 hZ_3 hO_3 ⊢; clear hX_2 hS_2 hZ_2 hO_2 hw_3; skip)
            refine hK.out _ _ ?_ (fun hHeld => ?_)
            · (try dsimp only)
              first | assumption | (apply SA.drew; assumption)
            clear hK K
            (try simp only [Act.put, List.setIfInBounds_toArray, List.set_cons_zero, List.set_cons_succ])
            refine wpAnyH_done (by kernel_rfl) ?_ _
            have HX9 := Lib.hid hX_3
            have HZ9 := Lib.hid hZ_3
            have HS9 := Lib.hid hS_3
            have HO9 := Lib.hid hO_3
            clear hX_3 hZ_3 hS_3 hO_3
            go_wp2_with fail
            go_roundw
            case rel => exact ⟨k + 1, a + 16, HK1.out, HA1.out, by go_num, (by have q9 := HX9.out; rw [HM6.out] at q9; exact q9), (by have q9 := HS9.out.tl.h0; rw [HD6.out] at q9; exact q9), HZ9.out, HO9.out⟩
            case measure => simp [intOf]; omega
          · have hc0 : (i : Int) < 16 := by omega
            have hc' : ¬ (a : Int) + (i : Int) < (n : Int) := by omega
            go_wp2_with fail
            have hS_0 := HS9.out.drew
            have hX_0 := Blk.drew HX9.out
            have hZ_0 := Blk.drew HZ9.out
            have hO_0 := HO9.out.drew
            clear HS9 HX9 HZ9 HO9
            refine wp_region_held_drew (S := (SA [(g, E), (w.heap.size + 1, D)])) (by kernel_rfl) ?_ (fun hHeld => ?_)
            · (try dsimp only)
              first | assumption | (apply SA.drew; assumption)
            generalize wr.drew = w5 at *
            refine wpAnyH_take (i := 1) (oi := { dst := some 37, op := Go.Op.load 22 (Go.Operand.tmp 8), type := 22, pos := "ref.go:42", after := #[], guard := none }) (v := ?_) rfl (by kernel_rfl) (by kernel_rfl) (by kernel_rfl) (fun _ _ _ h => h) (Or.inl ⟨by rfl, ?_⟩) (by assumption) ?_
            rotate_left
            · intro w hSw
              refine exec_load16a (x := .tmp 8) ?_ ?_ (ld16a hSw.h0 HIE.out) <;> rfl
            (try simp only [Act.put, List.setIfInBounds_toArray, List.set_cons_zero, List.set_cons_succ])
            refine wpAnyH_take (i := 3) (oi := { dst := some 39, op := Go.Op.load 22 (Go.Operand.tmp 4), type := 22, pos := "ref.go:42", after := #[], guard := none }) (v := ?_) rfl (by kernel_rfl) (by kernel_rfl) (by kernel_rfl) (fun _ _ _ h => h) (Or.inl ⟨by rfl, ?_⟩) (by assumption) ?_
            rotate_left
            · intro w hSw
              refine exec_load16a (x := .tmp 4) ?_ ?_ (ld16a hSw.tl.h0 HID.out) <;> rfl
            (try simp only [Act.put, List.setIfInBounds_toArray, List.set_cons_zero, List.set_cons_succ])
            refine wpAnyH_ready (rs := [0]) (by kernel_rfl) (by simp) ?_
            refine AllReadyH.cons (o := { dst := some 36, op := Go.Op.load 22 (Go.Operand.tmp 3), type := 22, pos := "ref.go:42", after := #[], guard := none }) rfl (fun K hK => ?_) AllReadyH.nil
            refine step_load16a rfl (.tmp 3) rfl w.heap.size rfl F3 hX_0 HIF.out ?_
            refine hK.out _ _ ?_ (fun hHeld => ?_)
            · (try dsimp only)
              first | assumption | (apply SA.drew; assumption)
            clear hK K
            (try simp only [Act.put, List.setIfInBounds_toArray, List.set_cons_zero, List.set_cons_succ])
            refine wpAnyH_ready (rs := [2]) (by kernel_rfl) (by simp) ?_
            refine AllReadyH.cons (o := { dst := some 38, op := Go.Op.call { callee := Go.Callee.value (Go.Operand.func 8), args := #[Go.Operand.tmp 36, Go.Operand.tmp 37], argTypes := #[22, 22] }, type := 22, pos := "ref.go:42", after := #[{ on := 0, ground := Go.Ground.data }, { on := 1, ground := Go.Ground.data }], guard := none }) rfl (fun K hK => ?_) AllReadyH.nil
            go_simp
            (refine (HADD.out _).mono ?_; rintro e v_4 ⟨rfl, hb_4⟩; have hS_4 := SA.later hS_0 hb_4; have hX_4 := Blk.below hX_0 hb_4 (Blk.lt hX_0); have hZ_4 := Blk.below hZ_0 hb_4 (Blk.lt hZ_0); have hO_4 := Below.trans hO_0 (hb_4.mono hO_0.size); clear hS_0 hX_0 hZ_0 hO_0; clear hb_4; skip)
            (try go_wp2_with fail)
            refine hK.out _ _ ?_ (fun hHeld => ?_)
            · (try dsimp only)
              first | assumption | (apply SA.drew; assumption)
            clear hK K
            (try simp only [Act.put, List.setIfInBounds_toArray, List.set_cons_zero, List.set_cons_succ])
            refine wpAnyH_ready (rs := [4]) (by kernel_rfl) (by simp) ?_
            refine AllReadyH.cons (o := { dst := some 40, op := Go.Op.call { callee := Go.Callee.value (Go.Operand.func 10), args := #[Go.Operand.tmp 38, Go.Operand.tmp 39], argTypes := #[22, 22] }, type := 22, pos := "ref.go:42", after := #[{ on := 2, ground := Go.Ground.data }, { on := 3, ground := Go.Ground.data }, { on := 2, ground := Go.Ground.chain }], guard := none }) rfl (fun K hK => ?_) AllReadyH.nil
            go_simp
            (refine (HMUL.out _).mono ?_; rintro e v_5 ⟨rfl, hb_5⟩; have hS_5 := SA.later hS_4 hb_5; have hX_5 := Blk.below hX_4 hb_5 (Blk.lt hX_4); have hZ_5 := Blk.below hZ_4 hb_5 (Blk.lt hZ_4); have hO_5 := Below.trans hO_4 (hb_5.mono hO_4.size); clear hS_4 hX_4 hZ_4 hO_4; clear hb_5; skip)
            (try go_wp2_with fail)
            refine hK.out _ _ ?_ (fun hHeld => ?_)
            · (try dsimp only)
              first | assumption | (apply SA.drew; assumption)
            clear hK K
            (try simp only [Act.put, List.setIfInBounds_toArray, List.set_cons_zero, List.set_cons_succ])
            refine wpAnyH_ready (rs := [5]) (by kernel_rfl) (by simp) ?_
            refine AllReadyH.cons (o := { dst := none, op := Go.Op.store 22 (Go.Operand.tmp 3) (Go.Operand.tmp 40), type := 0, pos := "ref.go:42", after := #[{ on := 4, ground := Go.Ground.data }, { on := 4, ground := Go.Ground.chain }, { on := 0, ground := Go.Ground.phase }, { on := 1, ground := Go.Ground.phase }, { on := 2, ground := Go.Ground.phase }, { on := 3, ground := Go.Ground.phase }, { on := 4, ground := Go.Ground.phase }], guard := none }) rfl (fun K hK => ?_) AllReadyH.nil
            (refine step_store16a rfl (.tmp 3) (.tmp 40) rfl w.heap.size rfl M F3 rfl hX_5 HM5.out HF5.out ?_; have hX_6 := Blk.store16a hX_5 HM5.out HF5.out; have hS_6 := SA.set hS_5 HNE.out M.toList; have hZ_6 := (Own.setCells M.toList 0 v_5).blk hZ_5 HNZ.out; have hO_6 := Below.set16 (g := w.heap.size) hO_5 (Nat.le_refl _) hO_5.size M.toList; obtain ⟨v_6, hw_6⟩ : ∃ q, (v_5.setCells w.heap.size 0 M.toList) = q := ⟨_, rfl⟩; rw [hw_6] at hX_6 hS_6 hZ_6 hO_6 ⊢; clear hX_5 hS_5 hZ_5 hO_5 hw_6; skip)
            refine hK.out _ _ ?_ (fun hHeld => ?_)
            · (try dsimp only)
              first | assumption | (apply SA.drew; assumption)
            clear hK K
            (try simp only [Act.put, List.setIfInBounds_toArray, List.set_cons_zero, List.set_cons_succ])
            refine wpAnyH_done (by kernel_rfl) ?_ _
            have HX9 := Lib.hid hX_6
            have HZ9 := Lib.hid hZ_6
            have HS9 := Lib.hid hS_6
            have HO9 := Lib.hid hO_6
            clear hX_6 hZ_6 hS_6 hO_6
            go_wp2_with fail
            go_roundw
            case rel => exact ⟨k + 1, a + 16, HK1.out, HA1.out, by go_num, (by have q9 := HX9.out; rw [HM6.out] at q9; exact q9), (by have q9 := HS9.out.tl.h0; rw [HD6.out] at q9; exact q9), HZ9.out, HO9.out⟩
            case measure => simp [intOf]; omega
    · have hk := HK.out
      have ha := HA.out
      obtain rfl : k = (n + 15) / 16 := by omega
      obtain ⟨h1, h2, h3, h4⟩ := hJ
      obtain ⟨M, hM⟩ : ∃ C, (rowC 16 (thrF y f n s ((n + 15) / 16))).toArray = C := ⟨_, rfl⟩
      have HCM : Hid (∃ f, M = (rowC 16 f).toArray) := Lib.hid ⟨_, hM.symm⟩
      have HCZ : Hid (∃ f, zero16 = (rowC 16 f).toArray) := Lib.hid ⟨_, rfl⟩
      have HX5 : Hid (Blk wr w.heap.size M 22) := Lib.hid (hM ▸ h1)
      have HR5 : Hid (Blk wr (w.heap.size + 1 + 1) zero16 22) := Lib.hid h3
      have HN : Hid (Blk (wr.setCells (w.heap.size + 1 + 1) 0 M.toList) (w.heap.size + 1 + 1) M 22) := Lib.hid (Blk.store16a HR5.out HCM.out HCZ.out)
      have HO5 : Hid (Below w.heap.size w (wr.setCells (w.heap.size + 1 + 1) 0 M.toList)) := Lib.hid (Below.set16 (g := w.heap.size + 1 + 1) h4 (by omega) h4.size _)
      have hl : ¬ (a : Int) < (n : Int) := by omega
      have HM := Lib.hid hM
      clear h1 h2 h3 h4 hM hlt hk ha HA HK
      go_wp2_with (first
        | (refine wpList_load16a rfl (.tmp 3) rfl w.heap.size rfl M HX5.out HCM.out ?_)
        | (refine wpList_store16a rfl (.tmp 6) (.tmp 41) rfl (w.heap.size + 1 + 1) rfl M zero16 rfl HR5.out HCM.out HCZ.out ?_))
      refine bodyPost_ret (v := .agg M) ?_ rfl ⟨by rw [HM.out], HO5.out⟩
      exact res16a Try.results18 _ _ (w.heap.size + 1 + 1) M rfl HN.out HCM.out
end Go.Proofs.Ytafbfjnbajdbkaa
