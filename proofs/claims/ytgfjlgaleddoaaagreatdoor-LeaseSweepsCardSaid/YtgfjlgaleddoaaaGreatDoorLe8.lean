/- The order in which leases are swept; a copy of leases. -/
import Derived.Test.YtgfjlgaleddoaaaGreatDoorLe7
import Derived.Sort.Grow
import Derived.Shelf.SlSortCmp.SmallK
namespace Go.Proofs.YtgfjlgaleddoaaaGreatDoor
set_option linter.unusedVariables false
set_option linter.unusedSimpArgs false
open Go.RowKit
theorem step_bsP {ops : Array Oper} {o : Oper} {a : Act} {w : World} {K : Act → World → Prop} {Q : Exit → Act → World → Prop} {E : Prop} {n : Nat} (TS T : TypeId) (hw : Region.wanted o (yielded ops a.tmps) = true) (parts : Array (Nat × Operand)) (ps : Array (Nat × Value)) (C : Array Value) (ho : o.op = .buildSlice TS n parts) (hp : (parts.map fun (i, x) => (i, a.eval x)) = ps)
    (h : ∀ w, (Instr.buildSlice TS n ps).run Tryz.prog w = .ok (.slice (some ⟨w.heap.size, 0, none⟩) n n) (w.alloc (.cells C T)))
    (hk : K (a.put o.dst (.slice (some ⟨w.heap.size, 0, none⟩) n n)) (w.alloc (.cells C T))) : if Region.wanted o (yielded ops a.tmps) = true then Oper.wp Tryz.prog o a w K Q else E := by
  rw [if_pos hw]
  unfold Oper.wp execOp
  simp only [ho, hp, h, Sem.run_bind, Result.andThen_ok]
  exact hk
theorem bs_i2 (a b : Int) (w : World) : (Instr.buildSlice 136 2 #[(0, .int .i64 a), (1, .int .i64 b)]).run Tryz.prog w = .ok (.slice (some ⟨w.heap.size, 0, none⟩) 2 2) (w.alloc (.cells #[.int .i64 a, .int .i64 b] 3)) := by kernel_rfl
def cfL (x y : LE) : Int := orI (cmpU x.u y.u) (cmpS x.id y.id)
theorem le_cell3 {w : World} {g : Nat} {C : Array Value} (h : Blk w g C 33) {x : LE} (hc : (leL x).toArray = C) : w.cell? ⟨g, 3, none⟩ = some (.int .u64 (x.u : Int)) := by rw [Blk.cell h, ← hc]; rfl
theorem le_cell0 {w : World} {g : Nat} {C : Array Value} (h : Blk w g C 33) {x : LE} (hc : (leL x).toArray = C) : w.cell? ⟨g, 0, none⟩ = some (.string x.id) := by rw [Blk.cell h, ← hc]; rfl
set_option maxRecDepth 100000 in
set_option maxHeartbeats 1000000 in
theorem s1_any (x y : LE) (w : World) : Calls Tryz.prog 59 #[.agg (leL x).toArray, .agg (leL y).toArray] w fun e w' => e = .returned (.int .i64 (cfL x y)) ∧ ∃ q os, w' = Sort.grow (w.drewN q) os := by
  obtain ⟨b2, hb2⟩ : ∃ q, w.heap.size = q := ⟨_, rfl⟩
  obtain ⟨b3, hb3⟩ : ∃ q, b2 + 1 = q := ⟨_, rfl⟩
  obtain ⟨W0, hW0⟩ : ∃ y0, (((w.alloc (.cells (leL x).toArray 33)).alloc (.cells (leL y).toArray 33)).drew) = y0 := ⟨_, rfl⟩
  have h2 : Blk W0 b2 (leL x).toArray 33 := by rw [← hW0, ← hb2]; exact ((Blk.new _ _ _).alloc _)
  have h3 : Blk W0 b3 (leL y).toArray 33 := by rw [← hW0, ← hb3, ← hb2]; exact (show Blk ((w.alloc (.cells (leL x).toArray 33)).alloc (.cells (leL y).toArray 33)) (w.heap.size + 1) (leL y).toArray 33 from by have h9 := Blk.new (w.alloc (.cells (leL x).toArray 33)) (leL y).toArray 33; simpa using h9)
  obtain ⟨ux, hux⟩ : ∃ q, x.u = q := ⟨_, rfl⟩
  obtain ⟨uy, huy⟩ : ∃ q, y.u = q := ⟨_, rfl⟩
  obtain ⟨ix, hix⟩ : ∃ q, x.id = q := ⟨_, rfl⟩
  obtain ⟨iy, hiy⟩ : ∃ q, y.id = q := ⟨_, rfl⟩
  obtain ⟨cu, hcu⟩ : ∃ q, cmpU ux uy = q := ⟨_, rfl⟩
  obtain ⟨cs, hcs⟩ : ∃ q, cmpS ix iy = q := ⟨_, rfl⟩
  have HU := Lib.hid (fun w => cmpu_any ux uy w)
  have HS := Lib.hid (fun w => cmps_any ix iy w)
  rw [hcu] at HU
  rw [hcs] at HS
  obtain ⟨W1, hW1⟩ : ∃ y0, W0.alloc (.cells #[.int .i64 cu, .int .i64 cs] 3) = y0 := ⟨_, rfl⟩
  obtain ⟨g, hW1g⟩ : ∃ q, W0.heap.size = q := ⟨_, rfl⟩
  have hB1 : Blk W1 g #[.int .i64 cu, .int .i64 cs] 3 := by rw [← hW1, ← hW1g]; exact Blk.new _ _ _
  have HO := Lib.hid (or_any g cu cs W1 (by rw [Blk.cell hB1]; rfl) (by rw [Blk.cell hB1]; rfl))
  have HE : Hid (cfL x y = orI cu cs) := Lib.hid (by unfold cfL; rw [hux, huy, hix, hiy, hcu, hcs])
  have hSW0 : W0.cell? ⟨b2, 3, none⟩ = some (.int .u64 (ux : Int)) ∧ W0.cell? ⟨b3, 3, none⟩ = some (.int .u64 (uy : Int)) ∧ W0.cell? ⟨b2, 0, none⟩ = some (.string ix) ∧ W0.cell? ⟨b3, 0, none⟩ = some (.string iy) :=
    ⟨by rw [← hux]; exact le_cell3 h2 rfl, by rw [← huy]; exact le_cell3 h3 rfl, by rw [← hix]; exact le_cell0 h2 rfl, by rw [← hiy]; exact le_cell0 h3 rfl⟩
  have hlt : b2 < W0.heap.size ∧ b3 < W0.heap.size := ⟨Blk.lt h2, Blk.lt h3⟩
  have hSW1 : W1.cell? ⟨b2, 3, none⟩ = some (.int .u64 (ux : Int)) ∧ W1.cell? ⟨b3, 3, none⟩ = some (.int .u64 (uy : Int)) ∧ W1.cell? ⟨b2, 0, none⟩ = some (.string ix) ∧ W1.cell? ⟨b3, 0, none⟩ = some (.string iy) := by
    have hb : Below W0.heap.size W0 W1 := by rw [← hW1]; exact (Below.refl _ _).alloc (Nat.le_refl _) _
    exact ⟨cell_below hb hSW0.1, cell_below hb hSW0.2.1, cell_below hb hSW0.2.2.1, cell_below hb hSW0.2.2.2⟩
  have HFIN : Hid (∃ q os, W1 = Sort.grow (w.drewN q) os) := Lib.hid ⟨1, #[.cells (leL x).toArray 33, .cells (leL y).toArray 33, .cells #[.int .i64 cu, .int .i64 cs] 3], by rw [← hW1, ← hW0]; rw [Sort.alloc_eq_grow, Sort.alloc_eq_grow, Sort.alloc_eq_grow, Sort.grow_grow]; show Sort.grow (Sort.grow w _).drew _ = _; rfl⟩
  clear h2 h3 hux huy hix hiy hcu hcs hB1 hlt
  unfold leL at *
  go_enter Tryz.func59, Tryz.ntmps59
  go_upto_region 1 with fail
  refine wp_region_held_drew (S := (fun X => X.cell? ⟨b2, 3, none⟩ = some (.int .u64 (ux : Int)) ∧ X.cell? ⟨b3, 3, none⟩ = some (.int .u64 (uy : Int)) ∧ X.cell? ⟨b2, 0, none⟩ = some (.string ix) ∧ X.cell? ⟨b3, 0, none⟩ = some (.string iy))) (by kernel_rfl) ?_ (fun hHeld => ?_)
  · (try dsimp only)
    (rw [hW0]; exact hSW0)
  rw [hW0]
  refine wT 0 ?_ rfl ?_ ?_
  rotate_left
  · intro wS hSw
    (try dsimp only at hSw)
    go_simp
    (try with_reducible rfl)
  (try simp only [Act.put, zS])
  refine wT 1 ?_ rfl ?_ ?_
  rotate_left
  · intro wS hSw
    (have c := hSw.1; go_simp; (try with_reducible rfl))
  (try simp only [Act.put, zS])
  refine wT 2 ?_ rfl ?_ ?_
  rotate_left
  · intro wS hSw
    (try dsimp only at hSw)
    go_simp
    (try with_reducible rfl)
  (try simp only [Act.put, zS])
  refine wT 3 ?_ rfl ?_ ?_
  rotate_left
  · intro wS hSw
    (have c := hSw.2.1; go_simp; (try with_reducible rfl))
  (try simp only [Act.put, zS])
  refine wT 5 ?_ rfl ?_ ?_
  rotate_left
  · intro wS hSw
    (try dsimp only at hSw)
    go_simp
    (try with_reducible rfl)
  (try simp only [Act.put, zS])
  refine wT 6 ?_ rfl ?_ ?_
  rotate_left
  · intro wS hSw
    (have c := hSw.2.2.1; go_simp; (try with_reducible rfl))
  (try simp only [Act.put, zS])
  refine wT 7 ?_ rfl ?_ ?_
  rotate_left
  · intro wS hSw
    (try dsimp only at hSw)
    go_simp
    (try with_reducible rfl)
  (try simp only [Act.put, zS])
  refine wT 8 ?_ rfl ?_ ?_
  rotate_left
  · intro wS hSw
    (have c := hSw.2.2.2; go_simp; (try with_reducible rfl))
  (try simp only [Act.put, zS])
  refine wR [4] ?_
  refine aN rfl fun K hK => ?_
  go_simp
  (refine (HU.out _).mono ?_; rintro e w6 ⟨rfl, hw6⟩; rw [hw6]; clear hw6; skip)
  (try go_wp2_with fail)
  refine hK.out _ _ ?_ (fun hHeld => ?_)
  · (try dsimp only)
    (first | assumption | (dsimp only; assumption))
  clear hK K
  (try simp only [Act.put, zS])
  refine wR [9] ?_
  refine aN rfl fun K hK => ?_
  go_simp
  (refine (HS.out _).mono ?_; rintro e w7 ⟨rfl, hw7⟩; rw [hw7]; clear hw7; skip)
  (try go_wp2_with fail)
  refine hK.out _ _ ?_ (fun hHeld => ?_)
  · (try dsimp only)
    (first | assumption | (dsimp only; assumption))
  clear hK K
  (try simp only [Act.put, zS])
  refine wR [10] ?_
  refine aN rfl fun K hK => ?_
  (refine step_bsP 136 3 rfl #[(0, .tmp 9), (1, .tmp 14)] #[(0, .int .i64 cu), (1, .int .i64 cs)] #[.int .i64 cu, .int .i64 cs] rfl (by first | (simp [Act.eval]; done) | (simp; exact ⟨rfl, rfl⟩)) (bs_i2 cu cs) ?_; rw [hW1]; skip)
  refine hK.out _ _ ?_ (fun hHeld => ?_)
  · (try dsimp only)
    (first | assumption | (dsimp only; assumption))
  clear hK K
  (try simp only [Act.put, zS])
  refine wR [11] ?_
  refine aN rfl fun K hK => ?_
  go_simp
  (refine HO.out.mono ?_; rintro e w8 ⟨rfl, hw8⟩; rw [hw8]; clear hw8; skip)
  (try go_wp2_with fail)
  refine hK.out _ _ ?_ (fun hHeld => ?_)
  · (try dsimp only)
    (first | assumption | (dsimp only; assumption))
  clear hK K
  (try simp only [Act.put, zS])
  refine wT 12 ?_ rfl ?_ ?_
  rotate_left
  · intro wS hSw
    (try dsimp only at hSw)
    go_simp
    (try with_reducible rfl)
  (try simp only [Act.put, zS])
  refine wpAnyH_done (by kernel_rfl) ?_ _
  go_wp2_with fail
  go_ret
  exact ⟨by rw [HE.out]; rfl, HFIN.out⟩
end Go.Proofs.YtgfjlgaleddoaaaGreatDoor
