/- What must come whatever the input is: the law's own sure. -/
import Derived.Test.YtmhofofidmbgfaaDoorSp5
import Derived.Test.YtmhofofidmbgfaaDoorNum03
import Derived.Test.YtmhofofidmbgfaaDoorStB
namespace Go.Proofs.YtmhofofidmbgfaaDoor
set_option linter.unusedVariables false
set_option linter.unusedSimpArgs false
open Go.RowKit

theorem SR.isSh {tb : Nat} {wA w : World} {N L gen : Nat} {F : Nat → Nat → Nat} (h : SR tb wA N L gen F w) (hF : ∀ x j, x < N → j < L → F x j < 256) (hL : L ≤ maxLen) {i : Nat} (hi : i < N) : IsSh tb w (shC gen wA.heap.size L i) ⟨i + 1, gen, L, F i⟩ :=
  ⟨some ⟨wA.heap.size + 1 + i, 0, none⟩, L, rfl, (h.rows i hi).bytes fun j hj => hF i j hi hj, (fun e => by cases e), Nat.le_refl _, hL, Apart.of_ne (by have := h.low; omega)⟩
theorem SR.rangeO {tb : Nat} {wA w w' : World} {N L gen : Nat} {F : Nat → Nat → Nat} (h : SR tb wA N L gen F w) (hO : Own tb w w') {i : Nat} (hi : i < N) : w'.rangeAt wA.heap.size (i * 3) (shC gen wA.heap.size L i) := fun j v hv => by
  have hj : j < 3 := (List.getElem?_eq_some_iff.1 hv).1
  rw [Blk.cell (hO.blk h.blk (by have := h.low; omega)), List.getElem?_toArray, rws_get (k := 3) (fun _ _ => rfl) hi hj]; exact hv
/-- Two parts in a block of their own. -/
def two2 (a b : Sh) : Nat → Sh := fun i => if i = 0 then a else b
theorem Shs.lit2 {tb g : Nat} {w : World} {C0 C1 : List Value} {s0 s1 : Sh} {t : TypeId} (hB : Blk w g (C0 ++ C1).toArray t) (hg : g ≠ tb) (h0 : IsSh tb w C0 s0) (h1 : IsSh tb w C1 s1) : Shs tb w (some ⟨g, 0, none⟩) 2 (two2 s0 s1) := fun i hi => by
  have l0 : C0.length = 3 := by obtain ⟨_, _, rfl, _⟩ := h0; rfl
  match i, hi with
  | 0, _ =>
    refine ⟨g, 0, C0, rfl, hg, h0, fun j hj => ?_⟩
    rw [Blk.cell hB, List.getElem?_toArray, List.getElem?_append_left (by omega)]; congr 1; omega
  | 1, _ =>
    refine ⟨g, 0, C1, rfl, hg, h1, fun j hj => ?_⟩
    rw [Blk.cell hB, List.getElem?_toArray, List.getElem?_append_right (by omega), l0]; congr 1; omega
theorem strF_one {f : Nat → Nat} {x : Nat} (h : f 0 = x) : strF 1 f = ⟨#[UInt8.ofNat x]⟩ := by
  subst h
  rfl
theorem info_plan3 : (Tryd.prog.info? 28).map (·.size) = some 3 := by kernel_rfl
theorem Blk.range0 {w : World} {b : Nat} {C : List Value} {t : TypeId} (h : Blk w b C.toArray t) : w.rangeAt b 0 C := fun j v hv => by
  rw [Nat.zero_add, Blk.cell h j]; simpa using hv
def Comb2 (tb : Nat) (w : World) (e : Ending) (w' : World) : Prop := ∃ g', e = .returned (.tuple #[.slice (some ⟨g', 0, none⟩) 1 1, .nilIface]) ∧ w.heap.size ≤ g' ∧ Row w' g' 1 (fun _ => 5) ∧ Left tb w w'
theorem comb_two {tb g : Nat} {w : World} {f2 f0 : Nat → Nat} (hT : TabIn w tb) (hS : Shs tb w (some ⟨g, 0, none⟩) 2 (two2 ⟨3, 7, 1, f2⟩ ⟨1, 7, 1, f0⟩)) (h2 : f2 0 = 0) (h0 : f0 0 = 6) :
    Calls Tryd.prog 20 #[.pointer (some ⟨tb, 0, none⟩), .slice (some ⟨g, 0, none⟩) 2 2, .agg #[.int .i64 2, .int .i64 3, .int .u32 7]] w (Comb2 tb w) := by
  refine (combine_any tb 2 2 2 3 7 (some ⟨g, 0, none⟩) _ w hT hS (fun i hi => ?_) (by decide) (by unfold maxLen; decide) (by decide) (by decide) (by decide)).mono ?_
  · unfold two2; split
    · exact (by decide : 3 < 256)
    · exact (by decide : 1 < 256)
  · have hE : needE (two2 ⟨3, 7, 1, f2⟩ ⟨1, 7, 1, f0⟩) 2 2 7 = 0 := rfl
    have ei : (fun q => (two2 ⟨3, 7, 1, f2⟩ ⟨1, 7, 1, f0⟩ q).ix) = fun q => if q = 0 then 3 else 1 := by funext q; unfold two2; split <;> rfl
    have hj : jnF (two2 ⟨3, 7, 1, f2⟩ ⟨1, 7, 1, f0⟩) 0 2 0 = 5 := by
      unfold jnF
      rw [ei]
      show 0 ^^^ mulN (wF (fun q => if q = 0 then 3 else 1) 0 0 2) (f2 0) ^^^ mulN (wF (fun q => if q = 0 then 3 else 1) 1 0 2) (f0 0) = 5
      rw [h2, h0]
      decide +kernel
    rintro e w' (⟨-, g', he, hg, hR, hL⟩ | ⟨h9, -⟩)
    · exact ⟨g', he, hg, hR.congr (fun i hi => by obtain rfl : i = 0 := by (have : i < 1 := hi; omega)
                                                  exact hj), hL⟩
    · exact absurd hE h9
theorem comb_one {tb : Nat} {w : World} {oa : Option Addr} {cs : Nat} {S : Nat → Sh} (hT : TabIn w tb) (hS : Shs tb w oa 1 S) (hx : (S 0).ix < 256) (hc : 1 ≤ cs) (hm : cs ≤ maxLen) :
    Calls Tryd.prog 20 #[.pointer (some ⟨tb, 0, none⟩), .slice oa 1 cs, .agg #[.int .i64 2, .int .i64 3, .int .u32 7]] w fun e w' => e = .returned (.tuple #[.slice none 0 0, .iface 81 (.int .i64 2)]) ∧ Left tb w w' := by
  refine (combine_any tb 1 cs 2 3 7 oa S w hT hS (fun i hi => by obtain rfl : i = 0 := by omega
                                                                 exact hx) hc hm (by decide) (by decide) (by decide)).mono ?_
  have hE : needE S 1 2 7 = 2 := needE_short (by decide)
  rw [hE]
  rintro e w' (⟨h9, -⟩ | ⟨-, he, hL⟩)
  · cases h9
  · exact ⟨he, hL⟩
def sF (x : Nat) : Nat → Nat := shF (fun _ => 5) (fun _ => 3) 1 (x + 1)
theorem sF_lt (x j : Nat) : sF x j < 256 := shF_lt _ _ _ _ _
theorem sure_cells {tb d0 d1 d2 : Nat} {wA w : World} (h : SR tb wA 3 1 7 sF w) (h0 : wA.heap.size + 1 + 0 = d0) (h1 : wA.heap.size + 1 + 1 = d1) (h2 : wA.heap.size + 1 + 2 = d2) :
    w.cell? ⟨wA.heap.size, 2, none⟩ = some (.slice (some ⟨d0, 0, none⟩) 1 1) ∧ w.cell? ⟨wA.heap.size, 4, none⟩ = some (.int .u32 7) ∧ w.cell? ⟨wA.heap.size, 5, none⟩ = some (.slice (some ⟨d1, 0, none⟩) 1 1) ∧ w.cell? ⟨wA.heap.size, 8, none⟩ = some (.slice (some ⟨d2, 0, none⟩) 1 1) ∧ w.cell? ⟨d0, 0, none⟩ = some (.int .u8 6) ∧ w.cell? ⟨d1, 0, none⟩ = some (.int .u8 3) ∧ w.cell? ⟨d2, 0, none⟩ = some (.int .u8 0) := by
  have e0 := h.cells (i := 0) (by decide)
  have e1 := h.cells (i := 1) (by decide)
  have e2 := h.cells (i := 2) (by decide)
  rw [h0] at e0
  rw [h1] at e1
  rw [h2] at e2
  have q0 := (h.rows 0 (by decide)).cell (i := 0) (by decide)
  have q1 := (h.rows 1 (by decide)).cell (i := 0) (by decide)
  have q2 := (h.rows 2 (by decide)).cell (i := 0) (by decide)
  rw [h0, show sF 0 0 = 6 by decide +kernel] at q0
  rw [h1, show sF 1 0 = 3 by decide +kernel] at q1
  rw [h2, show sF 2 0 = 0 by decide +kernel] at q2
  exact ⟨e0.2.2, e1.2.1, e1.2.2, e2.2.2, q0, q1, q2⟩

set_option maxRecDepth 100000 in
set_option maxHeartbeats 4000000 in
theorem sure03 (w : World) (hg : Handle w) :
    Calls Tryd.prog 11 #[] w fun e w' => e = .returned (.bool true) ∧ Below w.heap.size w w' := by
  go_enter Tryd.func11, Tryd.ntmps11
  go_wp2_with fail
  refine (gfnew_any _).mono ?_
  rintro e w0 ⟨rfl, hT0, hB0⟩
  have hS0 := St.new hg hT0 hB0
  have hsz : w.heap.size < w0.heap.size := hT0.lt
  clear hT0 hB0
  go_wp2_with fail
  obtain ⟨bp, hbp⟩ : ∃ x, w0.heap.size = x := ⟨_, rfl⟩
  obtain ⟨wS, hwS⟩ : ∃ x, (((w0.alloc (.cells #[.int .i64 2, .int .i64 3, .int .u32 7] 28)).alloc (.cells #[.int .u8 5] 5)).alloc (.cells #[.int .u8 3] 5)) = x := ⟨_, rfl⟩
  have hSS : St w wS := by rw [← hwS]; exact ((hS0.alloc _).alloc _).alloc _
  have hPL : Blk wS bp [.int .i64 2, .int .i64 3, .int .u32 7].toArray 28 := by rw [← hwS, ← hbp]; exact ((Blk.new _ _ _).alloc _).alloc _
  have hbs : Bytes wS (some ⟨w0.heap.size + 1, 0, none⟩) 1 (fun _ => 5) := fun k hk => ⟨(by decide : 5 < 256), _, 0, rfl, by
    obtain rfl : k = 0 := by omega
    rw [← hwS, cell_old (by simp), cell_new (by simp)]; rfl⟩
  have hbd : Bytes wS (some ⟨w0.heap.size + 1 + 1, 0, none⟩) 1 (fun _ => 3) := fun k hk => ⟨(by decide : 3 < 256), _, 0, rfl, by
    obtain rfl : k = 0 := by omega
    rw [← hwS, cell_new (by simp)]; rfl⟩
  have HSP := Lib.hid (split_any w.heap.size 2 3 1 7 1 1 1 1 (w0.heap.size + 1) 0 (w0.heap.size + 1 + 1) 0 (fun _ => 5) (fun _ => 3) wS hSS.tab hbs (by omega) hbd (by omega) rfl (by decide) (by decide) (by decide) (by decide) (by decide) rfl (by decide))
  rw [hwS]
  clear hbs hbd hwS hS0
  refine HSP.out.mono ?_
  rintro e w1 ⟨wA, rfl, hle, hOA, hR⟩
  clear HSP
  have HS1 := Lib.hid (hSS.left ⟨hR.tab, hOA.trans hR.own⟩)
  have HPL := Lib.hid ((hOA.trans hR.own).blk hPL (by omega))
  have HNP : Hid (bp ≠ w.heap.size) := Lib.hid (by omega)
  have HSR : Hid (SR w.heap.size wA 3 1 7 sF w1) := Lib.hid hR
  obtain ⟨d0, hd0⟩ : ∃ x, wA.heap.size + 1 + 0 = x := ⟨_, rfl⟩
  obtain ⟨d1, hd1⟩ : ∃ x, wA.heap.size + 1 + 1 = x := ⟨_, rfl⟩
  obtain ⟨d2, hd2⟩ : ∃ x, wA.heap.size + 1 + 2 = x := ⟨_, rfl⟩
  have HD := Lib.hid (⟨hd0, hd1, hd2⟩ : wA.heap.size + 1 + 0 = d0 ∧ wA.heap.size + 1 + 1 = d1 ∧ wA.heap.size + 1 + 2 = d2)
  have HG := Lib.hid (sure_cells HSR.out hd0 hd1 hd2)
  have HR2 : Hid (∀ w', Own w.heap.size w1 w' → w'.rangeAt wA.heap.size 6 [.int .u8 3, .int .u32 7, .slice (some ⟨d2, 0, none⟩) 1 1]) := Lib.hid fun w' hb => by have := HSR.out.rangeO hb (i := 2) (by decide); unfold shC at this; rw [hd2] at this; exact this
  have HR0 : Hid (∀ w', Own w.heap.size w1 w' → w'.rangeAt wA.heap.size 0 [.int .u8 1, .int .u32 7, .slice (some ⟨d0, 0, none⟩) 1 1]) := Lib.hid fun w' hb => by have := HSR.out.rangeO hb (i := 0) (by decide); unfold shC at this; rw [hd0] at this; exact this
  have hP_0 : Own w.heap.size w1 w1.drew := (Own.refl _ _).drew
  have HSR5 := Lib.hid HSR.out.drew
  have HS5 := Lib.hid HS1.out.drew
  have g8 := HG.out.2.2.2.1
  rw [hbp]
  clear hR hd0 hd1 hd2 hSS hPL hOA hle hbp hsz HG
  go_wp2_with fail
  clear g8
  refine wp_region_held_drew (S := (Own w.heap.size w1)) (by kernel_rfl) ?_ (fun hHeld => ?_)
  · (try dsimp only)
    first | assumption | (apply Own.drew; assumption)
  generalize w1.drew = W5 at *
  refine wpAnyH_take (i := 0) (oi := { dst := some 35, op := Go.Op.move (Go.Operand.tmp 1), type := 34, pos := "law.go:55", after := #[], guard := none }) (v := ?_) rfl (by kernel_rfl) (by kernel_rfl) (by kernel_rfl) (fun _ _ _ h => h) (Or.inl ⟨by rfl, ?_⟩) (by assumption) ?_
  rotate_left
  · intro wS hSw
    (try dsimp only at hSw)
    go_simp
    (try with_reducible rfl)
  (try simp only [Act.put, List.setIfInBounds_toArray, List.set_cons_zero, List.set_cons_succ])
  refine wpAnyH_take (i := 1) (oi := { dst := some 36, op := Go.Op.move (Go.Operand.tmp 3), type := 29, pos := "law.go:55", after := #[], guard := none }) (v := ?_) rfl (by kernel_rfl) (by kernel_rfl) (by kernel_rfl) (fun _ _ _ h => h) (Or.inl ⟨by rfl, ?_⟩) (by assumption) ?_
  rotate_left
  · intro wS hSw
    (try dsimp only at hSw)
    go_simp
    (try with_reducible rfl)
  (try simp only [Act.put, List.setIfInBounds_toArray, List.set_cons_zero, List.set_cons_succ])
  refine wpAnyH_take (i := 2) (oi := { dst := some 37, op := Go.Op.indexAddr 29 (Go.Operand.tmp 36) (Go.Operand.const (Go.Value.int Go.IntKind.i64 2)), type := 0, pos := "law.go:55", after := #[{ on := 1, ground := Go.Ground.data }], guard := none }) (v := ?_) rfl (by kernel_rfl) (by kernel_rfl) (by kernel_rfl) (fun _ _ _ h => h) (Or.inl ⟨by rfl, ?_⟩) (by assumption) ?_
  rotate_left
  · intro wS hSw
    (try dsimp only at hSw)
    go_simp
    (try with_reducible rfl)
  (try simp only [Act.put, List.setIfInBounds_toArray, List.set_cons_zero, List.set_cons_succ])
  refine wpAnyH_take (i := 3) (oi := { dst := some 38, op := Go.Op.load 52 (Go.Operand.tmp 37), type := 52, pos := "law.go:55", after := #[{ on := 2, ground := Go.Ground.data }], guard := none }) (v := ?_) rfl (by kernel_rfl) (by kernel_rfl) (by kernel_rfl) (fun _ _ _ h => h) (Or.inl ⟨by rfl, ?_⟩) (by assumption) ?_
  rotate_left
  · intro wS hSw
    refine exec_loadM (x := .tmp 37) (cs := [.int .u8 3, .int .u32 7, .slice (some ⟨d2, 0, none⟩) 1 1]) ?_ ?_ (HR2.out _ hSw) Tryd.underlying52 rfl info_share3 <;> rfl
  (try simp only [Act.put, List.setIfInBounds_toArray, List.set_cons_zero, List.set_cons_succ])
  refine wpAnyH_take (i := 4) (oi := { dst := some 39, op := Go.Op.move (Go.Operand.tmp 3), type := 29, pos := "law.go:55", after := #[], guard := none }) (v := ?_) rfl (by kernel_rfl) (by kernel_rfl) (by kernel_rfl) (fun _ _ _ h => h) (Or.inl ⟨by rfl, ?_⟩) (by assumption) ?_
  rotate_left
  · intro wS hSw
    (try dsimp only at hSw)
    go_simp
    (try with_reducible rfl)
  (try simp only [Act.put, List.setIfInBounds_toArray, List.set_cons_zero, List.set_cons_succ])
  refine wpAnyH_take (i := 5) (oi := { dst := some 40, op := Go.Op.indexAddr 29 (Go.Operand.tmp 39) (Go.Operand.const (Go.Value.int Go.IntKind.i64 0)), type := 0, pos := "law.go:55", after := #[{ on := 4, ground := Go.Ground.data }], guard := none }) (v := ?_) rfl (by kernel_rfl) (by kernel_rfl) (by kernel_rfl) (fun _ _ _ h => h) (Or.inl ⟨by rfl, ?_⟩) (by assumption) ?_
  rotate_left
  · intro wS hSw
    (try dsimp only at hSw)
    go_simp
    (try with_reducible rfl)
  (try simp only [Act.put, List.setIfInBounds_toArray, List.set_cons_zero, List.set_cons_succ])
  refine wpAnyH_take (i := 6) (oi := { dst := some 41, op := Go.Op.load 52 (Go.Operand.tmp 40), type := 52, pos := "law.go:55", after := #[{ on := 5, ground := Go.Ground.data }], guard := none }) (v := ?_) rfl (by kernel_rfl) (by kernel_rfl) (by kernel_rfl) (fun _ _ _ h => h) (Or.inl ⟨by rfl, ?_⟩) (by assumption) ?_
  rotate_left
  · intro wS hSw
    refine exec_loadM (x := .tmp 40) (cs := [.int .u8 1, .int .u32 7, .slice (some ⟨d0, 0, none⟩) 1 1]) ?_ ?_ (HR0.out _ hSw) Tryd.underlying52 rfl info_share3 <;> rfl
  (try simp only [Act.put, List.setIfInBounds_toArray, List.set_cons_zero, List.set_cons_succ])
  refine wpAnyH_take (i := 8) (oi := { dst := some 43, op := Go.Op.load 28 (Go.Operand.tmp 2), type := 28, pos := "law.go:55", after := #[], guard := none }) (v := ?_) rfl (by kernel_rfl) (by kernel_rfl) (by kernel_rfl) (fun _ _ _ h => h) (Or.inl ⟨by rfl, ?_⟩) (by assumption) ?_
  rotate_left
  · intro wS hSw
    refine exec_loadM (x := .tmp 2) (cs := [.int .i64 2, .int .i64 3, .int .u32 7]) ?_ ?_ ((hSw.blk HPL.out HNP.out).range0) Tryd.underlying28 rfl info_plan3 <;> rfl
  (try simp only [Act.put, List.setIfInBounds_toArray, List.set_cons_zero, List.set_cons_succ])
  refine wpAnyH_ready (rs := [7]) (by kernel_rfl) (by simp) ?_
  refine AllReadyH.cons (o := { dst := some 42, op := Go.Op.buildSlice 29 2 #[(0, Go.Operand.tmp 38), (1, Go.Operand.tmp 41)], type := 29, pos := "law.go:55", after := #[{ on := 3, ground := Go.Ground.data }, { on := 6, ground := Go.Ground.data }], guard := none }) rfl (fun K hK => ?_) AllReadyH.nil
  go_simp
  (obtain ⟨W6, hw6⟩ : ∃ q, W5.alloc (.cells #[.int .u8 3, .int .u32 7, .slice (some ⟨d2, 0, none⟩) 1 1, .int .u8 1, .int .u32 7, .slice (some ⟨d0, 0, none⟩) 1 1] 52) = q := ⟨_, rfl⟩; rw [hw6]; have hb6 : Below W5.heap.size W5 W6 := (by rw [← hw6]; exact (Below.refl _ _).alloc (Nat.le_refl _) _); have hP_1 : Own w.heap.size w1 W6 := hP_0.trans (Own.of_below hb6); have hSR6 := HSR5.out.later hb6; have HS6 := Lib.hid (HS5.out.later hb6); have HCM := Lib.hid (comb_two (g := W5.heap.size) HS6.out.tab (Shs.lit2 (C0 := [.int .u8 3, .int .u32 7, .slice (some ⟨d2, 0, none⟩) 1 1]) (C1 := [.int .u8 1, .int .u32 7, .slice (some ⟨d0, 0, none⟩) 1 1]) (by rw [← hw6]; exact Blk.new _ _ _) (by have := HS5.out.tab.lt; omega) (by have h9 := hSR6.isSh (fun x j _ _ => sF_lt x j) (by unfold maxLen; decide) (i := 2) (by decide); unfold shC at h9; rw [HD.out.2.2] at h9; exact h9) (by have h9 := hSR6.isSh (fun x j _ _ => sF_lt x j) (by unfold maxLen; decide) (i := 0) (by decide); unfold shC at h9; rw [HD.out.1] at h9; exact h9)) (by decide +kernel) (by decide +kernel)); have HSR6 := Lib.hid hSR6; clear hSR6 hw6 hb6 hP_0; skip)
  (try go_wp2_with fail)
  refine hK.out _ _ ?_ (fun hHeld => ?_)
  · (try dsimp only)
    first | assumption | (apply Own.drew; assumption)
  clear hK K
  (try simp only [Act.put, List.setIfInBounds_toArray, List.set_cons_zero, List.set_cons_succ])
  refine wpAnyH_ready (rs := [9]) (by kernel_rfl) (by simp) ?_
  refine AllReadyH.cons (o := { dst := some 44, op := Go.Op.call { callee := Go.Callee.value (Go.Operand.func 20), args := #[Go.Operand.tmp 35, Go.Operand.tmp 42, Go.Operand.tmp 43], argTypes := #[34, 29, 28] }, type := 47, pos := "law.go:55", after := #[{ on := 0, ground := Go.Ground.data }, { on := 7, ground := Go.Ground.data }, { on := 8, ground := Go.Ground.data }], guard := none }) rfl (fun K hK => ?_) AllReadyH.nil
  go_simp
  (refine HCM.out.mono ?_; rintro e w7 ⟨g', rfl, hg', hRw, hL7⟩; have hP_2 := hP_1.trans hL7.2; have HSR7 := Lib.hid (HSR6.out.left hL7); have HS7 := Lib.hid (HS6.out.left hL7); have HRW := Lib.hid hRw; have HGT : Hid (g' ≠ w.heap.size) := Lib.hid (by have := HS6.out.tab.lt; omega); clear hP_1 hRw hg' hL7 HCM HSR6 HS6; skip)
  (try go_wp2_with fail)
  refine hK.out _ _ ?_ (fun hHeld => ?_)
  · (try dsimp only)
    first | assumption | (apply Own.drew; assumption)
  clear hK K
  (try simp only [Act.put, List.setIfInBounds_toArray, List.set_cons_zero, List.set_cons_succ])
  refine wpAnyH_take (i := 10) (oi := { dst := some 34, op := Go.Op.move (Go.Operand.tmp 44), type := 47, pos := "law.go:55", after := #[{ on := 9, ground := Go.Ground.data }], guard := none }) (v := ?_) rfl (by kernel_rfl) (by kernel_rfl) (by kernel_rfl) (fun _ _ _ h => h) (Or.inl ⟨by rfl, ?_⟩) (by assumption) ?_
  rotate_left
  · intro wS hSw
    (try dsimp only at hSw)
    go_simp
    (try with_reducible rfl)
  (try simp only [Act.put, List.setIfInBounds_toArray, List.set_cons_zero, List.set_cons_succ])
  refine wpAnyH_take (i := 11) (oi := { dst := some 45, op := Go.Op.extract (Go.Operand.tmp 34) 0, type := 22, pos := "law.go:55", after := #[{ on := 10, ground := Go.Ground.data }], guard := none }) (v := ?_) rfl (by kernel_rfl) (by kernel_rfl) (by kernel_rfl) (fun _ _ _ h => h) (Or.inl ⟨by rfl, ?_⟩) (by assumption) ?_
  rotate_left
  · intro wS hSw
    (try dsimp only at hSw)
    go_simp
    (try with_reducible rfl)
  (try simp only [Act.put, List.setIfInBounds_toArray, List.set_cons_zero, List.set_cons_succ])
  refine wpAnyH_take (i := 12) (oi := { dst := some 46, op := Go.Op.extract (Go.Operand.tmp 34) 1, type := 31, pos := "law.go:55", after := #[{ on := 10, ground := Go.Ground.data }, { on := 13, ground := Go.Ground.gcOnly Go.Departure.lateStores }], guard := none }) (v := ?_) rfl (by kernel_rfl) (by kernel_rfl) (by kernel_rfl) (fun _ _ _ h => h) (Or.inl ⟨by rfl, ?_⟩) (by assumption) ?_
  rotate_left
  · intro wS hSw
    (try dsimp only at hSw)
    go_simp
    (try with_reducible rfl)
  (try simp only [Act.put, List.setIfInBounds_toArray, List.set_cons_zero, List.set_cons_succ])
  refine wpAnyH_take (i := 13) (oi := { dst := some 5, op := Go.Op.assign (Go.Operand.tmp 45), type := 22, pos := "law.go:55", after := #[{ on := 11, ground := Go.Ground.data }, { on := 9, ground := Go.Ground.chain }, { on := 0, ground := Go.Ground.phase }, { on := 1, ground := Go.Ground.phase }, { on := 2, ground := Go.Ground.phase }, { on := 3, ground := Go.Ground.phase }, { on := 4, ground := Go.Ground.phase }, { on := 5, ground := Go.Ground.phase }, { on := 6, ground := Go.Ground.phase }, { on := 7, ground := Go.Ground.phase }, { on := 8, ground := Go.Ground.phase }, { on := 9, ground := Go.Ground.phase }, { on := 10, ground := Go.Ground.phase }, { on := 11, ground := Go.Ground.phase }, { on := 12, ground := Go.Ground.textOnly Go.Departure.lateStores }], guard := none }) (v := ?_) rfl (by kernel_rfl) (by kernel_rfl) (by kernel_rfl) (fun _ _ _ h => h) (Or.inl ⟨by rfl, ?_⟩) (by assumption) ?_
  rotate_left
  · intro wS hSw
    (try dsimp only at hSw)
    go_simp
    (try with_reducible rfl)
  (try simp only [Act.put, List.setIfInBounds_toArray, List.set_cons_zero, List.set_cons_succ])
  refine wpAnyH_take (i := 14) (oi := { dst := some 6, op := Go.Op.assign (Go.Operand.tmp 46), type := 31, pos := "law.go:55", after := #[{ on := 12, ground := Go.Ground.data }, { on := 13, ground := Go.Ground.chain }, { on := 0, ground := Go.Ground.phase }, { on := 1, ground := Go.Ground.phase }, { on := 2, ground := Go.Ground.phase }, { on := 3, ground := Go.Ground.phase }, { on := 4, ground := Go.Ground.phase }, { on := 5, ground := Go.Ground.phase }, { on := 6, ground := Go.Ground.phase }, { on := 7, ground := Go.Ground.phase }, { on := 8, ground := Go.Ground.phase }, { on := 9, ground := Go.Ground.phase }, { on := 10, ground := Go.Ground.phase }, { on := 11, ground := Go.Ground.phase }, { on := 12, ground := Go.Ground.phase }, { on := 13, ground := Go.Ground.phase }], guard := none }) (v := ?_) rfl (by kernel_rfl) (by kernel_rfl) (by kernel_rfl) (fun _ _ _ h => h) (Or.inl ⟨by rfl, ?_⟩) (by assumption) ?_
  rotate_left
  · intro wS hSw
    (try dsimp only at hSw)
    go_simp
    (try with_reducible rfl)
  (try simp only [Act.put, List.setIfInBounds_toArray, List.set_cons_zero, List.set_cons_succ])
  refine wpAnyH_done (by kernel_rfl) ?_ _
  have HPL7 := Lib.hid (hP_2.blk HPL.out HNP.out)
  clear hP_2 HR2 HR0 HSR5 HS5 HSR HS1 HPL
  have hP_0 : Own w.heap.size w7 w7.drew := (Own.refl _ _).drew
  have HC1 := Lib.hid (comb_one (tb := w.heap.size) (oa := some ⟨wA.heap.size, 0, none⟩) (cs := 3) (S := fun x => ⟨x + 1, 7, 1, sF x⟩) (w := w7.drew) HS7.out.drew.tab (((HSR7.out.drew).shs (fun x j _ _ => sF_lt x j) (by unfold maxLen; decide)).mono (by decide)) (by decide) (by decide) (by unfold maxLen; decide))
  have HSR8 := Lib.hid HSR7.out.drew
  have HS8 := Lib.hid HS7.out.drew
  have HRW8 : Hid (Row w7.drew g' 1 (fun _ => 5)) := Lib.hid HRW.out.drew
  clear HSR7 HS7 HRW
  go_wp2_with fail
  refine wp_region_held_drew (S := (Own w.heap.size w7)) (by kernel_rfl) ?_ (fun hHeld => ?_)
  · (try dsimp only)
    first | assumption | (apply Own.drew; assumption)
  generalize w7.drew = W7 at *
  refine wpAnyH_take (i := 0) (oi := { dst := some 48, op := Go.Op.move (Go.Operand.tmp 1), type := 34, pos := "law.go:56", after := #[], guard := none }) (v := ?_) rfl (by kernel_rfl) (by kernel_rfl) (by kernel_rfl) (fun _ _ _ h => h) (Or.inl ⟨by rfl, ?_⟩) (by assumption) ?_
  rotate_left
  · intro wS hSw
    (try dsimp only at hSw)
    go_simp
    (try with_reducible rfl)
  (try simp only [Act.put, List.setIfInBounds_toArray, List.set_cons_zero, List.set_cons_succ])
  refine wpAnyH_take (i := 1) (oi := { dst := some 49, op := Go.Op.move (Go.Operand.tmp 3), type := 29, pos := "law.go:56", after := #[], guard := none }) (v := ?_) rfl (by kernel_rfl) (by kernel_rfl) (by kernel_rfl) (fun _ _ _ h => h) (Or.inl ⟨by rfl, ?_⟩) (by assumption) ?_
  rotate_left
  · intro wS hSw
    (try dsimp only at hSw)
    go_simp
    (try with_reducible rfl)
  (try simp only [Act.put, List.setIfInBounds_toArray, List.set_cons_zero, List.set_cons_succ])
  refine wpAnyH_take (i := 2) (oi := { dst := some 50, op := Go.Op.slice 29 (Go.Operand.tmp 49) none (some (Go.Operand.const (Go.Value.int Go.IntKind.i64 1))) none, type := 29, pos := "law.go:56", after := #[{ on := 1, ground := Go.Ground.data }], guard := none }) (v := ?_) rfl (by kernel_rfl) (by kernel_rfl) (by kernel_rfl) (fun _ _ _ h => h) (Or.inl ⟨by rfl, ?_⟩) (by assumption) ?_
  rotate_left
  · intro wS hSw
    (try dsimp only at hSw)
    go_simp
    (try with_reducible rfl)
  (try simp only [Act.put, List.setIfInBounds_toArray, List.set_cons_zero, List.set_cons_succ])
  refine wpAnyH_take (i := 3) (oi := { dst := some 51, op := Go.Op.load 28 (Go.Operand.tmp 2), type := 28, pos := "law.go:56", after := #[], guard := none }) (v := ?_) rfl (by kernel_rfl) (by kernel_rfl) (by kernel_rfl) (fun _ _ _ h => h) (Or.inl ⟨by rfl, ?_⟩) (by assumption) ?_
  rotate_left
  · intro wS hSw
    refine exec_loadM (x := .tmp 2) (cs := [.int .i64 2, .int .i64 3, .int .u32 7]) ?_ ?_ ((hSw.blk HPL7.out HNP.out).range0) Tryd.underlying28 rfl info_plan3 <;> rfl
  (try simp only [Act.put, List.setIfInBounds_toArray, List.set_cons_zero, List.set_cons_succ])
  refine wpAnyH_ready (rs := [4]) (by kernel_rfl) (by simp) ?_
  refine AllReadyH.cons (o := { dst := some 52, op := Go.Op.call { callee := Go.Callee.value (Go.Operand.func 20), args := #[Go.Operand.tmp 48, Go.Operand.tmp 50, Go.Operand.tmp 51], argTypes := #[34, 29, 28] }, type := 47, pos := "law.go:56", after := #[{ on := 0, ground := Go.Ground.data }, { on := 2, ground := Go.Ground.data }, { on := 3, ground := Go.Ground.data }], guard := none }) rfl (fun K hK => ?_) AllReadyH.nil
  go_simp
  (refine HC1.out.mono ?_; rintro e w9 ⟨rfl, hL9⟩; have hP_1 := hP_0.trans hL9.2; have HSR9 := Lib.hid (HSR8.out.left hL9); have HS9 := Lib.hid (HS8.out.left hL9); have HRW9 := Lib.hid (HRW8.out.own hL9.2 HGT.out); clear hP_0 hL9 HC1 HSR8 HS8 HRW8; skip)
  (try go_wp2_with fail)
  refine hK.out _ _ ?_ (fun hHeld => ?_)
  · (try dsimp only)
    first | assumption | (apply Own.drew; assumption)
  clear hK K
  (try simp only [Act.put, List.setIfInBounds_toArray, List.set_cons_zero, List.set_cons_succ])
  refine wpAnyH_take (i := 5) (oi := { dst := some 47, op := Go.Op.move (Go.Operand.tmp 52), type := 47, pos := "law.go:56", after := #[{ on := 4, ground := Go.Ground.data }], guard := none }) (v := ?_) rfl (by kernel_rfl) (by kernel_rfl) (by kernel_rfl) (fun _ _ _ h => h) (Or.inl ⟨by rfl, ?_⟩) (by assumption) ?_
  rotate_left
  · intro wS hSw
    (try dsimp only at hSw)
    go_simp
    (try with_reducible rfl)
  (try simp only [Act.put, List.setIfInBounds_toArray, List.set_cons_zero, List.set_cons_succ])
  refine wpAnyH_take (i := 6) (oi := { dst := some 53, op := Go.Op.extract (Go.Operand.tmp 47) 0, type := 22, pos := "law.go:56", after := #[{ on := 5, ground := Go.Ground.data }], guard := none }) (v := ?_) rfl (by kernel_rfl) (by kernel_rfl) (by kernel_rfl) (fun _ _ _ h => h) (Or.inl ⟨by rfl, ?_⟩) (by assumption) ?_
  rotate_left
  · intro wS hSw
    (try dsimp only at hSw)
    go_simp
    (try with_reducible rfl)
  (try simp only [Act.put, List.setIfInBounds_toArray, List.set_cons_zero, List.set_cons_succ])
  refine wpAnyH_take (i := 7) (oi := { dst := some 54, op := Go.Op.extract (Go.Operand.tmp 47) 1, type := 31, pos := "law.go:56", after := #[{ on := 5, ground := Go.Ground.data }, { on := 8, ground := Go.Ground.gcOnly Go.Departure.lateStores }], guard := none }) (v := ?_) rfl (by kernel_rfl) (by kernel_rfl) (by kernel_rfl) (fun _ _ _ h => h) (Or.inl ⟨by rfl, ?_⟩) (by assumption) ?_
  rotate_left
  · intro wS hSw
    (try dsimp only at hSw)
    go_simp
    (try with_reducible rfl)
  (try simp only [Act.put, List.setIfInBounds_toArray, List.set_cons_zero, List.set_cons_succ])
  refine wpAnyH_take (i := 8) (oi := { dst := some 7, op := Go.Op.assign (Go.Operand.tmp 53), type := 22, pos := "law.go:56", after := #[{ on := 6, ground := Go.Ground.data }, { on := 4, ground := Go.Ground.chain }, { on := 0, ground := Go.Ground.phase }, { on := 1, ground := Go.Ground.phase }, { on := 2, ground := Go.Ground.phase }, { on := 3, ground := Go.Ground.phase }, { on := 4, ground := Go.Ground.phase }, { on := 5, ground := Go.Ground.phase }, { on := 6, ground := Go.Ground.phase }, { on := 7, ground := Go.Ground.textOnly Go.Departure.lateStores }], guard := none }) (v := ?_) rfl (by kernel_rfl) (by kernel_rfl) (by kernel_rfl) (fun _ _ _ h => h) (Or.inl ⟨by rfl, ?_⟩) (by assumption) ?_
  rotate_left
  · intro wS hSw
    (try dsimp only at hSw)
    go_simp
    (try with_reducible rfl)
  (try simp only [Act.put, List.setIfInBounds_toArray, List.set_cons_zero, List.set_cons_succ])
  refine wpAnyH_take (i := 9) (oi := { dst := some 8, op := Go.Op.assign (Go.Operand.tmp 54), type := 31, pos := "law.go:56", after := #[{ on := 7, ground := Go.Ground.data }, { on := 8, ground := Go.Ground.chain }, { on := 0, ground := Go.Ground.phase }, { on := 1, ground := Go.Ground.phase }, { on := 2, ground := Go.Ground.phase }, { on := 3, ground := Go.Ground.phase }, { on := 4, ground := Go.Ground.phase }, { on := 5, ground := Go.Ground.phase }, { on := 6, ground := Go.Ground.phase }, { on := 7, ground := Go.Ground.phase }, { on := 8, ground := Go.Ground.phase }], guard := none }) (v := ?_) rfl (by kernel_rfl) (by kernel_rfl) (by kernel_rfl) (fun _ _ _ h => h) (Or.inl ⟨by rfl, ?_⟩) (by assumption) ?_
  rotate_left
  · intro wS hSw
    (try dsimp only at hSw)
    go_simp
    (try with_reducible rfl)
  (try simp only [Act.put, List.setIfInBounds_toArray, List.set_cons_zero, List.set_cons_succ])
  refine wpAnyH_done (by kernel_rfl) ?_ _
  clear hP_1
  obtain ⟨g2, g4, g5, g8, q0, q1, q2⟩ := sure_cells HSR9.out HD.out.1 HD.out.2.1 HD.out.2.2
  have hcv : (convert 22 9 (.slice (some ⟨g', 0, none⟩) 1 1)).run Tryd.prog w9 = .ok (.string ⟨#[5]⟩) w9 := Bytes.conv (HRW9.out.bytes (fun _ _ => (by decide : 5 < 256)))
  have HNU := Lib.hid (num_err03 2 w9 HS9.out.handle)
  have HBL := Lib.hid HS9.out.bel
  go_wp2_with fail
  refine HNU.out.mono ?_
  rintro e w10 ⟨rfl, hb⟩
  have HB10 := Lib.hid (HBL.out.trans (hb.mono HBL.out.size))
  clear hb g2 g4 g5 g8 q0 q1 q2 hcv
  go_wp2_with fail
  go_ret
  exact ⟨rfl, HB10.out⟩
end Go.Proofs.YtmhofofidmbgfaaDoor
