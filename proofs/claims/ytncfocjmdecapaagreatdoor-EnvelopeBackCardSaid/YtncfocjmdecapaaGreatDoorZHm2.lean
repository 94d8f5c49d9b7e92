/- A sum with a key is begun. -/
import Derived.Laws.CopyOwn
import Derived.Test.YtncfocjmdecapaaGreatDoorZB0
import Derived.Test.YtncfocjmdecapaaGreatDoorZS1
import Derived.Test.YtncfocjmdecapaaGreatDoorZS2
import Derived.Test.YtncfocjmdecapaaGreatDoorZSh4
import Derived.Test.YtncfocjmdecapaaGreatDoorZA0
import Derived.Test.YtncfocjmdecapaaGreatDoorZS5
import Derived.Test.YtncfocjmdecapaaGreatDoorZSh7
import Derived.Test.YtncfocjmdecapaaGreatDoorZS8
import Derived.Test.YtncfocjmdecapaaGreatDoorZHm1
namespace Go.Proofs.YtncfocjmdecapaaGreatDoor
set_option linter.unusedVariables false
set_option linter.unusedSimpArgs false
open Go.RowKit
theorem whole_small {n : Nat} {K : Nat → Nat} (h : n ≤ 64) : splice (rowC 64 (fun _ => 0)) 0 (rowC n K) = rowC 64 (whK n K) := by
  refine List.ext_getElem? fun i => ?_
  rw [splice_get (by rw [rowC_len, rowC_len]; omega), if_neg (Nat.not_lt_zero _), rowC_len, Nat.zero_add, Nat.sub_zero]
  by_cases h1 : i < n
  · rw [if_pos h1, rowC_get _ h1, rowC_get _ (by omega)]
    unfold whK; rw [if_neg (by omega), if_pos h1]
  · rw [if_neg h1]
    by_cases h2 : i < 64
    · rw [rowC_get _ h2, rowC_get _ h2]; unfold whK; rw [if_neg (by omega), if_neg h1]
    · rw [List.getElem?_eq_none (by rw [rowC_len]; omega), List.getElem?_eq_none (by rw [rowC_len]; omega)]
theorem whole_large {n : Nat} {K : Nat → Nat} (h : 64 < n) : splice (rowC 64 (fun _ => 0)) 0 (rowC 32 (shaN n K)) = rowC 64 (whK n K) := by
  refine List.ext_getElem? fun i => ?_
  rw [splice_get (by rw [rowC_len, rowC_len]; omega), if_neg (Nat.not_lt_zero _), rowC_len, Nat.zero_add, Nat.sub_zero]
  by_cases h1 : i < 32
  · rw [if_pos h1, rowC_get _ h1, rowC_get _ (by omega)]
    unfold whK; rw [if_pos h, if_pos h1]
  · rw [if_neg h1]
    by_cases h2 : i < 64
    · rw [rowC_get _ h2, rowC_get _ h2]; unfold whK; rw [if_pos h, if_neg h1]
    · rw [List.getElem?_eq_none (by rw [rowC_len]; omega), List.getElem?_eq_none (by rw [rowC_len]; omega)]
theorem exec_load64 {o : Oper} {a : Act} {w : World} {g : Nat} {C : Array Value} {x : Operand} (ho : o.op = .load 124 x) (hx : a.eval x = .pointer (some ⟨g, 0, none⟩)) (hB : Blk w g C 124) (hs : (Tryz.prog.info? 124).map (·.size) = some C.size) : (execOp a.eval o).run Tryz.prog w = .ok (.value (.agg C)) w := by
  unfold execOp
  simp only [ho, hx, Instr.loadAt, Instr.sureAddr, Sem.run_bind, Sem.run_pure, Result.andThen_ok, run_loadVar_row w g 124 124 C (0, 0) _ hB Tryz.underlying124 rfl hs]
theorem exec_buildK {o : Oper} {a : Act} {w : World} {C : Array Value} {x y : Operand} {u v : Value} (ho : o.op = .build 128 #[(0, x), (1, y)]) (hx : a.eval x = u) (hy : a.eval y = v) (h : ∀ w, (Instr.build 128 #[(0, u), (1, v)]).run Tryz.prog w = .ok (.agg C) w) : (execOp a.eval o).run Tryz.prog w = .ok (.value (.agg C)) w := by
  unfold execOp
  simp only [ho, List.map_toArray, List.map_cons, List.map_nil, hx, hy, Sem.run_bind, h, Result.andThen_ok]
  rfl
def kC (gi go : Nat) : Array Value := #[.pointer (some ⟨gi, 0, none⟩), .pointer (some ⟨go, 0, none⟩)]
theorem buildK (gi go : Nat) (w : World) : (Instr.build 128 #[(0, .pointer (some ⟨gi, 0, none⟩)), (1, .pointer (some ⟨go, 0, none⟩))]).run Tryz.prog w = .ok (.agg (kC gi go)) w :=
  run_build w 128 _ _ (by kernel_rfl)
/-- A sum with a key, into which m bytes were written. -/
structure KH (w : World) (k gi go : Nat) (W : Nat → Nat) (m : Nat) (G : Nat → Nat) : Prop where
  kb : Blk w k (kC gi go) 128
  hi : HS w gi (64 + m) (catF 64 (xoK W 54) G)
  ho : HS w go 64 (xoK W 92)
  ne : k ≠ gi ∧ k ≠ go ∧ gi ≠ go
theorem KH.later {w w' : World} {k gi go m : Nat} {W G : Nat → Nat} (h : KH w k gi go W m G) (hb : Below w.heap.size w w') : KH w' k gi go W m G :=
  ⟨Blk.below h.kb hb (Blk.lt h.kb), h.hi.later hb, h.ho.later hb, h.ne⟩
theorem KH.own {w w' : World} {k gi go m b : Nat} {W G : Nat → Nat} (h : KH w k gi go W m G) (hO : Own b w w') (h1 : k ≠ b) (h2 : gi ≠ b) (h3 : go ≠ b) : KH w' k gi go W m G :=
  ⟨hO.blk h.kb h1, h.hi.own hO h2, h.ho.own hO h3, h.ne⟩
theorem catF_lo {n : Nat} {f g : Nat → Nat} {i : Nat} (h : i < n) : catF n f g i = f i := if_pos h
theorem catF_hi {n : Nat} {f g : Nat → Nat} {i : Nat} (h : ¬ i < n) : catF n f g i = g (i - n) := if_neg h
theorem KH.congr {w : World} {k gi go m : Nat} {W G G' : Nat → Nat} (h : KH w k gi go W m G) (he : ∀ i, i < m → G i = G' i) : KH w k gi go W m G' :=
  ⟨h.kb, h.hi.congr fun i hi => by
    by_cases e : i < 64
    · rw [catF_lo e, catF_lo e]
    · rw [catF_hi e, catF_hi e, he _ (by omega)], h.ho, h.ne⟩
def WBk (b : Nat) (W : Nat → Nat) (w : World) : Prop := RB 124 64 b W w
theorem WBk.below {b : Nat} {W : Nat → Nat} {w w' : World} (h : WBk b W w) (hb : Below w.heap.size w w') : WBk b W w' := Blk.below h hb (Blk.lt h)
set_option maxRecDepth 100000 in
set_option maxHeartbeats 4000000 in
theorem hmnew_any (oa : Option Addr) (n cap : Nat) (K : Nat → Nat) (w : World) (hb : Bytes w oa n K) (hnc : n ≤ cap) (hn : n < 800000000000) (hno : oa = none → n = 0) (hg : GV w) :
    Calls Tryz.prog 41 #[.slice oa n cap] w fun e w' => ∃ k gi go, e = .returned (.pointer (some ⟨k, 0, none⟩)) ∧ (∀ G, KH w' k gi go (whK n K) 0 G) ∧ Below w.heap.size w w' ∧ w.heap.size < k ∧ w.heap.size < gi ∧ w.heap.size < go := by
  have hz : ∀ w', (zeroValue 124).run Tryz.prog w' = .ok (.agg (rowC 64 (fun _ => 0)).toArray) w' := fun w' => by kernel_rfl
  have hz2 := zero32_run
  obtain ⟨Z, hZ⟩ : ∃ Z, (rowC 64 (fun _ => 0)).toArray = Z := ⟨_, rfl⟩
  rw [hZ] at hz
  obtain ⟨wa, hwa⟩ : ∃ q, w.alloc (.cells Z 124) = q := ⟨_, rfl⟩
  have H1 : Hid (RB 124 64 w.heap.size (fun _ => 0) wa ∧ Below w.heap.size w wa ∧ GV wa ∧ Bytes wa oa n K ∧ w.heap.size < wa.heap.size) := Lib.hid (by
    have hba : Below w.heap.size w wa := by rw [← hwa]; exact (Below.refl _ _).alloc (Nat.le_refl _) _
    exact ⟨by rw [← hwa, ← hZ]; exact Blk.new w _ _, hba, hg.later hba, hb.later hba, by rw [← hwa]; simp⟩)
  have HN := Lib.hid hn
  have HNC := Lib.hid hnc
  have HG := Lib.hid hg
  have HNO := Lib.hid hno
  have HK : Hid (∀ i, i < n → K i < 256) := Lib.hid fun i hi => (hb i hi).1
  obtain ⟨W, hW⟩ : ∃ W, whK n K = W := ⟨_, rfl⟩
  have HWl : Hid (∀ i, W i < 256) := Lib.hid (hW ▸ whK_lt HK.out)
  have HWW := Lib.hid hW
  have hn0 : (n : Int) ≤ 9223372036854775807 := by omega
  obtain ⟨CW, hCW⟩ : ∃ C, (rowC 64 W).toArray = C := ⟨_, rfl⟩
  have HCW := Lib.hid hCW
  have HIW : Hid ((Tryz.prog.info? 124).map (·.size) = some CW.size) := Lib.hid (by rw [← hCW, rowC_size]; kernel_rfl)
  have HB1 : Hid (∀ w', GV w' → Calls Tryz.prog 62 #[.agg CW, .int .u8 54] w' fun e w'' => ∃ g, e = .returned (.pointer (some ⟨g, 0, none⟩)) ∧ HS w'' g 64 (xoK W 54) ∧ Below w'.heap.size w' w'' ∧ w'.heap.size ≤ g) := Lib.hid fun w' h => by
    rw [← hCW]; exact begun_any W 54 w' (fun i _ => HWl.out i) (by decide) h
  have HB2 : Hid (∀ w', GV w' → Calls Tryz.prog 62 #[.agg CW, .int .u8 92] w' fun e w'' => ∃ g, e = .returned (.pointer (some ⟨g, 0, none⟩)) ∧ HS w'' g 64 (xoK W 92) ∧ Below w'.heap.size w' w'' ∧ w'.heap.size ≤ g) := Lib.hid fun w' h => by
    rw [← hCW]; exact begun_any W 92 w' (fun i _ => HWl.out i) (by decide) h
  rw [hW]
  clear hCW hb hnc hn hg hW hZ hno
  go_enter Tryz.func41, Tryz.ntmps41
  by_cases h64 : 64 < n
  · have h1 : (64 : Int) < (n : Int) := by omega
    have HL := Lib.hid h64
    clear h64
    go_wp2_with fail
    clear hz
    refine (hash_any oa n cap K _ H1.out.2.2.2.1 HNC.out HN.out H1.out.2.2.1).mono ?_
    rintro e w1 ⟨rfl, hb1⟩
    obtain ⟨D, hD⟩ : ∃ D, shaN n K = D := ⟨_, rfl⟩
    obtain ⟨CD, hCD⟩ : ∃ C, (rowC 32 D).toArray = C := ⟨_, rfl⟩
    have HD := Lib.hid hD
    have HCD := Lib.hid hCD
    have HI : Hid ((Tryz.prog.info? 22).map (·.size) = some CD.size) := Lib.hid (hCD ▸ info27 _)
    have HI1 : Hid (CD.all (·.oneCell') = true) := Lib.hid (hCD ▸ one32 _)
    rw [hD, hCD]
    obtain ⟨g1, hg1⟩ : ∃ g, w1.heap.size = g := ⟨_, rfl⟩
    obtain ⟨wb, hwb⟩ : ∃ q, w1.alloc (.cells zero32 22) = q := ⟨_, rfl⟩
    obtain ⟨w2, hw2⟩ : ∃ q, wb.setCells g1 0 CD.toList = q := ⟨_, rfl⟩
    have hl := lay32 w1 D hCD
    rw [hg1, hwb, hw2] at hl
    have HTH := Lib.hid hl.2.2
    have H2 : Hid (RB 124 64 w.heap.size (fun _ => 0) w2 ∧ Below w.heap.size w w2 ∧ GV w2 ∧ RB 22 32 g1 D w2 ∧ w.heap.size < g1) := Lib.hid (by
      obtain ⟨a1, a2, a3, a4, a5⟩ := H1.out
      have h3 : Below wa.heap.size wa w2 := hb1.trans (hl.2.1.mono (by rw [← hg1]; exact hb1.size))
      have := hb1.size
      exact ⟨Blk.below a1 h3 a5, a2.trans (h3.mono a2.size), a3.later h3, hl.1, by omega⟩)
    clear hl hb1 hD hCD H1
    go_wp2_with (first | (refine wpList_store_mid rfl 22 (.tmp 4) (.tmp 9) rfl g1 0 CD rfl rfl HTH.out HI.out HI1.out ?_; rw [hw2]))
    clear hw2 hwb hg1 HTH hz2
    refine still_tail 2 (by kernel_rfl) (by kernel_rfl) ?_
    simp only [List.take_succ_cons, List.take_zero, List.drop_succ_cons, List.drop_zero]
    have H3 : Hid (RB 124 64 w.heap.size (fun _ => 0) w2.drew ∧ Below w.heap.size w w2.drew ∧ GV w2.drew ∧ RB 22 32 g1 D w2.drew) := Lib.hid ⟨H2.out.1, H2.out.2.1.drew, H2.out.2.2.1.drew, H2.out.2.2.2.1⟩
    clear H2
    generalize w2.drew = W0 at *
    repeat still_step
    refine wpStill_nil ?_
    obtain ⟨CS, hCS⟩ : ∃ C, rowC 32 D = C := ⟨_, rfl⟩
    have HCS : Hid (CS.length = 32 ∧ (∀ v ∈ CS, v.oneCell' = true) ∧ ∀ j v, CS[j]? = some v → W0.cell? ((⟨g1, 0, none⟩ : Addr).add j) = some v) := Lib.hid (by
      rw [← hCS]
      refine ⟨rowC_len _ _, rowC_one _ _, fun j v hv => ?_⟩
      have hj : j < 32 := by have := (List.getElem?_eq_some_iff.1 hv).1; rw [rowC_len] at this; exact this
      rw [rowC_get _ hj] at hv
      rw [Addr.add_mid, Nat.zero_add]
      exact (H3.out.2.2.2.cell hj).trans hv)
    have HSP : Hid (splice (rowC 64 (fun _ => 0)) 0 CS = rowC 64 W) := Lib.hid (by rw [← hCS, ← HD.out, ← HWW.out]; exact whole_large HL.out)
    clear hCS
    refine wpList_copy_splice rfl (.tmp 10) (.tmp 11) 24 24 rfl 5 Tryz.underlying24 info_u8s (some ⟨w.heap.size, 0, none⟩) (some ⟨g1, 0, none⟩) 64 64 32 32 rfl rfl w.heap.size 0 (rowC 64 (fun _ => 0)) 124 H3.out.1 CS (by rw [HCS.out.1]; rfl) (fun _ => ⟨rfl, _, rfl, HCS.out.2.2⟩) (by rw [HCS.out.1, rowC_len]; decide) HCS.out.2.1 w.heap.size w H3.out.2.1 (Nat.le_refl _) ?_
    intro w4 h4 hb4
    rw [HSP.out] at h4
    have H4 : Hid (WBk w.heap.size W w4 ∧ Below w.heap.size w w4 ∧ GV w4) := Lib.hid ⟨h4.out, hb4, HG.out.later hb4⟩
    rw [HCS.out.1]
    clear h4 hb4 H3 HCS HSP HI HI1 HD HCD
    go_wp2_with fail
    have hS_0 : WBk w.heap.size W w4.drew := H4.out.1
    have hP_0 : Below w.heap.size w w4.drew := H4.out.2.1.drew
    have hG_0 : GV w4.drew := H4.out.2.2.drew
    clear H4
    refine wp_region_held_drew (S := (WBk w.heap.size W)) (by kernel_rfl) ?_ (fun hHeld => ?_)
    · (try dsimp only)
      first | assumption
    generalize w4.drew = W0 at *
    refine wpAnyH_take (i := 0) (oi := { dst := some 16, op := Go.Op.load 124 (Go.Operand.tmp 3), type := 124, pos := "hmac.go:46", after := #[], guard := none }) (v := ?_) rfl (by kernel_rfl) (by kernel_rfl) (by kernel_rfl) (fun _ _ _ h => h) (Or.inl ⟨by rfl, ?_⟩) (by assumption) ?_
    rotate_left
    · intro wS hSw
      (refine exec_load64 (x := .tmp 3) (C := CW) ?_ ?_ (by rw [← HCW.out]; exact hSw) HIW.out <;> rfl)
    (try simp only [Act.put, List.setIfInBounds_toArray, List.set_cons_zero, List.set_cons_succ])
    refine wpAnyH_take (i := 2) (oi := { dst := some 18, op := Go.Op.load 124 (Go.Operand.tmp 3), type := 124, pos := "hmac.go:46", after := #[], guard := none }) (v := ?_) rfl (by kernel_rfl) (by kernel_rfl) (by kernel_rfl) (fun _ _ _ h => h) (Or.inl ⟨by rfl, ?_⟩) (by assumption) ?_
    rotate_left
    · intro wS hSw
      (refine exec_load64 (x := .tmp 3) (C := CW) ?_ ?_ (by rw [← HCW.out]; exact hSw) HIW.out <;> rfl)
    (try simp only [Act.put, List.setIfInBounds_toArray, List.set_cons_zero, List.set_cons_succ])
    refine wpAnyH_ready (rs := [1]) (by kernel_rfl) (by simp) ?_
    refine AllReadyH.cons (o := { dst := some 17, op := Go.Op.call { callee := Go.Callee.value (Go.Operand.func 62), args := #[Go.Operand.tmp 16, Go.Operand.const (Go.Value.int Go.IntKind.u8 54)], argTypes := #[124, 5] }, type := 125, pos := "hmac.go:46", after := #[{ on := 0, ground := Go.Ground.data }], guard := none }) rfl (fun K hK => ?_) AllReadyH.nil
    go_simp
    (refine (HB1.out _ hG_0).mono ?_; rintro e v_1 ⟨gi, rfl, hI_1, hb_1, hge⟩; have HGI : Hid (w.heap.size < gi) := Lib.hid (by have := Blk.lt hS_0; omega); have hS_1 := hS_0.below hb_1; have hP_1 := hP_0.trans (hb_1.mono hP_0.size); have hG_1 := hG_0.later hb_1; clear hb_1 hge hS_0 hP_0 hG_0; skip)
    (try go_wp2_with fail)
    refine hK.out _ _ ?_ (fun hHeld => ?_)
    · (try dsimp only)
      first | assumption
    clear hK K
    (try simp only [Act.put, List.setIfInBounds_toArray, List.set_cons_zero, List.set_cons_succ])
    refine wpAnyH_ready (rs := [3]) (by kernel_rfl) (by simp) ?_
    refine AllReadyH.cons (o := { dst := some 19, op := Go.Op.call { callee := Go.Callee.value (Go.Operand.func 62), args := #[Go.Operand.tmp 18, Go.Operand.const (Go.Value.int Go.IntKind.u8 92)], argTypes := #[124, 5] }, type := 125, pos := "hmac.go:46", after := #[{ on := 2, ground := Go.Ground.data }, { on := 1, ground := Go.Ground.chain }], guard := none }) rfl (fun K hK => ?_) AllReadyH.nil
    go_simp
    (refine (HB2.out _ hG_1).mono ?_; rintro e v_2 ⟨go, rfl, hO_2, hb_2, hge⟩; have HGO : Hid (w.heap.size < go ∧ gi < go) := Lib.hid (by have := Blk.lt hS_1; have := hI_1.lt; omega); have hI_2 := hI_1.later hb_2; have hS_2 := hS_1.below hb_2; have hP_2 := hP_1.trans (hb_2.mono hP_1.size); have hG_2 := hG_1.later hb_2; clear hb_2 hge hS_1 hP_1 hG_1 hI_1; skip)
    (try go_wp2_with fail)
    refine hK.out _ _ ?_ (fun hHeld => ?_)
    · (try dsimp only)
      first | assumption
    clear hK K
    (try simp only [Act.put, List.setIfInBounds_toArray, List.set_cons_zero, List.set_cons_succ])
    refine wpAnyH_take (i := 4) (oi := { dst := some 20, op := Go.Op.build 128 #[(0, Go.Operand.tmp 17), (1, Go.Operand.tmp 19)], type := 128, pos := "hmac.go:46", after := #[{ on := 1, ground := Go.Ground.data }, { on := 3, ground := Go.Ground.data }], guard := none }) (v := ?_) rfl (by kernel_rfl) (by kernel_rfl) (by kernel_rfl) (fun _ _ _ h => h) (Or.inl ⟨by rfl, ?_⟩) (by assumption) ?_
    rotate_left
    · intro wS hSw
      (refine exec_buildK (x := .tmp 17) (y := .tmp 19) ?_ ?_ ?_ (buildK gi go) <;> rfl)
    (try simp only [Act.put, List.setIfInBounds_toArray, List.set_cons_zero, List.set_cons_succ])
    refine wpAnyH_ready (rs := [5]) (by kernel_rfl) (by simp) ?_
    refine AllReadyH.cons (o := { dst := some 21, op := Go.Op.box 128 (Go.Operand.tmp 20), type := 89, pos := "hmac.go:46", after := #[{ on := 4, ground := Go.Ground.data }], guard := none }) rfl (fun K hK => ?_) AllReadyH.nil
    go_simp
    (have hb_3 : Below v_2.heap.size v_2 (v_2.alloc (.cells (kC gi go) 128)) := (Below.refl _ _).alloc (Nat.le_refl _) _; have hI_3 := hI_2.later hb_3; have hO_3 := hO_2.later hb_3; have hS_3 := hS_2.below hb_3; have hP_3 := hP_2.trans (hb_3.mono hP_2.size); have hG_3 := hG_2.later hb_3; have HE_3 : Hid ((∀ G, KH (v_2.alloc (.cells (kC gi go) 128)) v_2.heap.size gi go W 0 G) ∧ w.heap.size < v_2.heap.size) := Lib.hid ⟨fun G => ⟨Blk.new _ _ _, hI_3.congr (fun i hi => (catF_lo hi).symm), hO_3, by have := hI_2.lt; omega, by have := hO_2.lt; omega, by have := HGO.out; omega⟩, Blk.lt hS_2⟩; clear hb_3 hS_2 hP_2 hG_2 hI_3 hO_3 hI_2 hO_2; skip)
    (try go_wp2_with fail)
    refine hK.out _ _ ?_ (fun hHeld => ?_)
    · (try dsimp only)
      first | assumption
    clear hK K
    (try simp only [Act.put, List.setIfInBounds_toArray, List.set_cons_zero, List.set_cons_succ])
    refine wpAnyH_take (i := 6) (oi := { dst := some 2, op := Go.Op.assign (Go.Operand.tmp 21), type := 89, pos := "hmac.go:46", after := #[{ on := 5, ground := Go.Ground.data }, { on := 3, ground := Go.Ground.chain }, { on := 0, ground := Go.Ground.phase }, { on := 1, ground := Go.Ground.phase }, { on := 2, ground := Go.Ground.phase }, { on := 3, ground := Go.Ground.phase }, { on := 4, ground := Go.Ground.phase }, { on := 5, ground := Go.Ground.phase }], guard := none }) (v := ?_) rfl (by kernel_rfl) (by kernel_rfl) (by kernel_rfl) (fun _ _ _ h => h) (Or.inl ⟨by rfl, ?_⟩) (by assumption) ?_
    rotate_left
    · intro wS hSw
      (try dsimp only at hSw)
      go_simp
      (try with_reducible rfl)
    (try simp only [Act.put, List.setIfInBounds_toArray, List.set_cons_zero, List.set_cons_succ])
    refine wpAnyH_done (by kernel_rfl) ?_ _
    have HO := Lib.hid hP_3
    clear hS_3 hP_3 hG_3
    go_wp2_with fail
    go_ret
    exact ⟨_, gi, go, rfl, HE_3.out.1, HO.out, HE_3.out.2, HGI.out, HGO.out.1⟩
  · have h1 : ¬ (64 : Int) < (n : Int) := by omega
    have HL := Lib.hid h64
    clear h64
    obtain ⟨CS, hCS⟩ : ∃ C, rowC n K = C := ⟨_, rfl⟩
    have HCS : Hid (CS.length = n ∧ (∀ v ∈ CS, v.oneCell' = true) ∧ (0 < CS.length → ∃ ad, oa = some ad ∧ ∀ j v, CS[j]? = some v → wa.cell? (ad.add j) = some v)) := Lib.hid (by
      rw [← hCS]
      refine ⟨rowC_len _ _, rowC_one _ _, fun hp => ?_⟩
      rw [rowC_len] at hp
      obtain ⟨_, b, off, hoa, _⟩ := H1.out.2.2.2.1 0 hp
      refine ⟨_, hoa, fun j v hv => ?_⟩
      have hj : j < n := by have := (List.getElem?_eq_some_iff.1 hv).1; rw [rowC_len] at this; exact this
      rw [rowC_get _ hj] at hv
      obtain ⟨_, b', off', hoa', hcell⟩ := H1.out.2.2.2.1 j hj
      rw [hoa] at hoa'; cases hoa'
      rw [Addr.add_mid]
      exact hcell.trans hv)
    have HSP : Hid (splice (rowC 64 (fun _ => 0)) 0 CS = rowC 64 W) := Lib.hid (by rw [← hCS, ← HWW.out]; exact whole_small (by have := HL.out; omega))
    clear hCS
    go_wp2_with (first | (refine wpList_copy_splice rfl (.tmp 13) (.tmp 14) 24 24 rfl 5 Tryz.underlying24 info_u8s (some ⟨w.heap.size, 0, none⟩) oa 64 64 n cap rfl rfl w.heap.size 0 (rowC 64 (fun _ => 0)) 124 H1.out.1 CS (by rw [HCS.out.1]; have := HL.out; show n = min n 64; omega) (fun hp => ⟨rfl, HCS.out.2.2 hp⟩) (by rw [HCS.out.1, rowC_len]; have := HL.out; omega) HCS.out.2.1 w.heap.size w H1.out.2.1 (Nat.le_refl _) ?_; intro w4 h4 hb4; rw [HSP.out] at h4; have H4 : Hid (WBk w.heap.size W w4 ∧ Below w.heap.size w w4 ∧ GV w4) := Lib.hid ⟨h4.out, hb4, HG.out.later hb4⟩; rw [HCS.out.1]; clear h4 hb4))
    clear H1 HCS HSP hz hz2
    have hS_0 : WBk w.heap.size W w4.drew := H4.out.1
    have hP_0 : Below w.heap.size w w4.drew := H4.out.2.1.drew
    have hG_0 : GV w4.drew := H4.out.2.2.drew
    clear H4
    refine wp_region_held_drew (S := (WBk w.heap.size W)) (by kernel_rfl) ?_ (fun hHeld => ?_)
    · (try dsimp only)
      first | assumption
    generalize w4.drew = W0 at *
    refine wpAnyH_take (i := 0) (oi := { dst := some 16, op := Go.Op.load 124 (Go.Operand.tmp 3), type := 124, pos := "hmac.go:46", after := #[], guard := none }) (v := ?_) rfl (by kernel_rfl) (by kernel_rfl) (by kernel_rfl) (fun _ _ _ h => h) (Or.inl ⟨by rfl, ?_⟩) (by assumption) ?_
    rotate_left
    · intro wS hSw
      (refine exec_load64 (x := .tmp 3) (C := CW) ?_ ?_ (by rw [← HCW.out]; exact hSw) HIW.out <;> rfl)
    (try simp only [Act.put, List.setIfInBounds_toArray, List.set_cons_zero, List.set_cons_succ])
    refine wpAnyH_take (i := 2) (oi := { dst := some 18, op := Go.Op.load 124 (Go.Operand.tmp 3), type := 124, pos := "hmac.go:46", after := #[], guard := none }) (v := ?_) rfl (by kernel_rfl) (by kernel_rfl) (by kernel_rfl) (fun _ _ _ h => h) (Or.inl ⟨by rfl, ?_⟩) (by assumption) ?_
    rotate_left
    · intro wS hSw
      (refine exec_load64 (x := .tmp 3) (C := CW) ?_ ?_ (by rw [← HCW.out]; exact hSw) HIW.out <;> rfl)
    (try simp only [Act.put, List.setIfInBounds_toArray, List.set_cons_zero, List.set_cons_succ])
    refine wpAnyH_ready (rs := [1]) (by kernel_rfl) (by simp) ?_
    refine AllReadyH.cons (o := { dst := some 17, op := Go.Op.call { callee := Go.Callee.value (Go.Operand.func 62), args := #[Go.Operand.tmp 16, Go.Operand.const (Go.Value.int Go.IntKind.u8 54)], argTypes := #[124, 5] }, type := 125, pos := "hmac.go:46", after := #[{ on := 0, ground := Go.Ground.data }], guard := none }) rfl (fun K hK => ?_) AllReadyH.nil
    go_simp
    (refine (HB1.out _ hG_0).mono ?_; rintro e v_4 ⟨gi, rfl, hI_4, hb_4, hge⟩; have HGI : Hid (w.heap.size < gi) := Lib.hid (by have := Blk.lt hS_0; omega); have hS_4 := hS_0.below hb_4; have hP_4 := hP_0.trans (hb_4.mono hP_0.size); have hG_4 := hG_0.later hb_4; clear hb_4 hge hS_0 hP_0 hG_0; skip)
    (try go_wp2_with fail)
    refine hK.out _ _ ?_ (fun hHeld => ?_)
    · (try dsimp only)
      first | assumption
    clear hK K
    (try simp only [Act.put, List.setIfInBounds_toArray, List.set_cons_zero, List.set_cons_succ])
    refine wpAnyH_ready (rs := [3]) (by kernel_rfl) (by simp) ?_
    refine AllReadyH.cons (o := { dst := some 19, op := Go.Op.call { callee := Go.Callee.value (Go.Operand.func 62), args := #[Go.Operand.tmp 18, Go.Operand.const (Go.Value.int Go.IntKind.u8 92)], argTypes := #[124, 5] }, type := 125, pos := "hmac.go:46", after := #[{ on := 2, ground := Go.Ground.data }, { on := 1, ground := Go.Ground.chain }], guard := none }) rfl (fun K hK => ?_) AllReadyH.nil
    go_simp
    (refine (HB2.out _ hG_4).mono ?_; rintro e v_5 ⟨go, rfl, hO_5, hb_5, hge⟩; have HGO : Hid (w.heap.size < go ∧ gi < go) := Lib.hid (by have := Blk.lt hS_4; have := hI_4.lt; omega); have hI_5 := hI_4.later hb_5; have hS_5 := hS_4.below hb_5; have hP_5 := hP_4.trans (hb_5.mono hP_4.size); have hG_5 := hG_4.later hb_5; clear hb_5 hge hS_4 hP_4 hG_4 hI_4; skip)
    (try go_wp2_with fail)
    refine hK.out _ _ ?_ (fun hHeld => ?_)
    · (try dsimp only)
      first | assumption
    clear hK K
    (try simp only [Act.put, List.setIfInBounds_toArray, List.set_cons_zero, List.set_cons_succ])
    refine wpAnyH_take (i := 4) (oi := { dst := some 20, op := Go.Op.build 128 #[(0, Go.Operand.tmp 17), (1, Go.Operand.tmp 19)], type := 128, pos := "hmac.go:46", after := #[{ on := 1, ground := Go.Ground.data }, { on := 3, ground := Go.Ground.data }], guard := none }) (v := ?_) rfl (by kernel_rfl) (by kernel_rfl) (by kernel_rfl) (fun _ _ _ h => h) (Or.inl ⟨by rfl, ?_⟩) (by assumption) ?_
    rotate_left
    · intro wS hSw
      (refine exec_buildK (x := .tmp 17) (y := .tmp 19) ?_ ?_ ?_ (buildK gi go) <;> rfl)
    (try simp only [Act.put, List.setIfInBounds_toArray, List.set_cons_zero, List.set_cons_succ])
    refine wpAnyH_ready (rs := [5]) (by kernel_rfl) (by simp) ?_
    refine AllReadyH.cons (o := { dst := some 21, op := Go.Op.box 128 (Go.Operand.tmp 20), type := 89, pos := "hmac.go:46", after := #[{ on := 4, ground := Go.Ground.data }], guard := none }) rfl (fun K hK => ?_) AllReadyH.nil
    go_simp
    (have hb_6 : Below v_5.heap.size v_5 (v_5.alloc (.cells (kC gi go) 128)) := (Below.refl _ _).alloc (Nat.le_refl _) _; have hI_6 := hI_5.later hb_6; have hO_6 := hO_5.later hb_6; have hS_6 := hS_5.below hb_6; have hP_6 := hP_5.trans (hb_6.mono hP_5.size); have hG_6 := hG_5.later hb_6; have HE_6 : Hid ((∀ G, KH (v_5.alloc (.cells (kC gi go) 128)) v_5.heap.size gi go W 0 G) ∧ w.heap.size < v_5.heap.size) := Lib.hid ⟨fun G => ⟨Blk.new _ _ _, hI_6.congr (fun i hi => (catF_lo hi).symm), hO_6, by have := hI_5.lt; omega, by have := hO_5.lt; omega, by have := HGO.out; omega⟩, Blk.lt hS_5⟩; clear hb_6 hS_5 hP_5 hG_5 hI_6 hO_6 hI_5 hO_5; skip)
    (try go_wp2_with fail)
    refine hK.out _ _ ?_ (fun hHeld => ?_)
    · (try dsimp only)
      first | assumption
    clear hK K
    (try simp only [Act.put, List.setIfInBounds_toArray, List.set_cons_zero, List.set_cons_succ])
    refine wpAnyH_take (i := 6) (oi := { dst := some 2, op := Go.Op.assign (Go.Operand.tmp 21), type := 89, pos := "hmac.go:46", after := #[{ on := 5, ground := Go.Ground.data }, { on := 3, ground := Go.Ground.chain }, { on := 0, ground := Go.Ground.phase }, { on := 1, ground := Go.Ground.phase }, { on := 2, ground := Go.Ground.phase }, { on := 3, ground := Go.Ground.phase }, { on := 4, ground := Go.Ground.phase }, { on := 5, ground := Go.Ground.phase }], guard := none }) (v := ?_) rfl (by kernel_rfl) (by kernel_rfl) (by kernel_rfl) (fun _ _ _ h => h) (Or.inl ⟨by rfl, ?_⟩) (by assumption) ?_
    rotate_left
    · intro wS hSw
      (try dsimp only at hSw)
      go_simp
      (try with_reducible rfl)
    (try simp only [Act.put, List.setIfInBounds_toArray, List.set_cons_zero, List.set_cons_succ])
    refine wpAnyH_done (by kernel_rfl) ?_ _
    have HO := Lib.hid hP_6
    clear hS_6 hP_6 hG_6
    go_wp2_with fail
    go_ret
    exact ⟨_, gi, go, rfl, HE_6.out.1, HO.out, HE_6.out.2, HGI.out, HGO.out.1⟩
end Go.Proofs.YtncfocjmdecapaaGreatDoor
