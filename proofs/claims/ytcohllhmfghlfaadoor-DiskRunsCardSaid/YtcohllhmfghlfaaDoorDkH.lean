/- A disk: Tamper. -/
import Derived.Test.YtcohllhmfghlfaaDoorDkG
namespace Go.Proofs.YtcohllhmfghlfaaDoor
set_option linter.unusedVariables false
set_option linter.unusedSimpArgs false
open Go.RowKit

/-- A sector's bytes are others; what waited for it is gone. -/
def tamS (s : DS) (i : Nat) (F : Nat → Nat) : DS := { s with S := updF s.S i F, nw := (flI s.A i s.nw).1, A := fun t => s.A ((flI s.A i s.nw).2 t), D := fun t => s.D ((flI s.A i s.nw).2 t) }
def delS (s : DS) (i : Nat) : DS := { s with nw := (flI s.A i s.nw).1, A := fun t => s.A ((flI s.A i s.nw).2 t), D := fun t => s.D ((flI s.A i s.nw).2 t) }
theorem tam_done {w w2 : World} {B d sb i cap : Nat} {oa : Option Addr} {s : DS} (h : DK w B d sb (.slice oa s.nw cap) s) (hA : w2.ownsRow B 70 65 (.slice oa (flI s.A i s.nw).1 cap) (flI s.A i s.nw).1 (rws (flI s.A i s.nw).1 (flC s.A s.D i s.nw))) (hg : w.grownBy w2 (Value.slice oa s.nw cap).ownBlock) :
    w2.cell? ⟨d, 1, none⟩ = some (.slice oa s.nw cap) ∧ w2.frozen? ⟨d, 1, none⟩ = false ∧ Dn w (w2.setCell ⟨d, 1, none⟩ (.slice oa (flI s.A i s.nw).1 cap)) B d sb (.slice oa s.nw cap) (.slice oa (flI s.A i s.nw).1 cap) (delS s i) := by
  have hl := h.lt
  have hO := own_of_grown hg
  have hvn : ∀ c, c < w.heap.size → (Value.slice oa s.nw cap).ownBlock ≠ some c → c ≠ (Value.slice oa s.nw cap).ownBlock.getD w.heap.size := fun c hc hn => ne_own hc hn
  have hm2 : Blk w2 d (dkC sb s.n s.c (.slice oa s.nw cap) s.ar s.dn) 64 := hO.blk h.me (hvn d hl.1 (fun e => (h.nv d e).1 rfl))
  have hs2 : Blk w2 sb ((rws s.n fun i => rowC 64 (s.S i)) ++ s.X).toArray 68 := hO.blk h.sf (hvn sb hl.2.1 (fun e => (h.nv sb e).2 rfl))
  have hown : ∀ m, (Value.slice oa m cap).ownBlock = (Value.slice oa s.nw cap).ownBlock := fun m => by cases oa <;> rfl
  have hv2 : ∀ k, (Value.slice oa (flI s.A i s.nw).1 cap).ownBlock = some k → k ≠ d ∧ k ≠ sb := fun k hk => by rw [hown] at hk; exact h.nv k hk
  have hO3 : Own d w2 (w2.setCell ⟨d, 1, none⟩ (.slice oa (flI s.A i s.nw).1 cap)) := (Own.refl _ _).set _ _
  refine ⟨by rw [Blk.cell hm2]; rfl, Blk.free hm2 _, ⟨Blk.set hm2 1 _, hO3.blk hs2 (Ne.symm h.ne), ?_, h.bd, h.bs, h.ne, hv2, h.n0, h.S8, ?_, h.ab, ?_⟩, ⟨?_, ?_, ?_, ?_, ?_⟩, ?_⟩
  · exact ownsRow_setCell_other hA (fun e => (hv2 d e).1 rfl) _
  · intro j hj
    exact h.D8 _ (flI_lt s.nw j (Nat.le_refl _) (Nat.lt_of_lt_of_le hj (flI_le s.nw)))
  · exact Nat.lt_of_le_of_lt (flI_le s.nw) h.nb
  · exact hO3.os.trans hO.os
  · exact hO3.tape.trans hO.tape
  · exact hO3.output.trans hO.output
  · exact Nat.le_trans hO.size hO3.size
  · intro k hk h1 h2 h3
    exact (hO3.block k (Nat.lt_of_lt_of_le hk hO.size) h1).trans (hO.block k hk (hvn k hk h3))
  · intro k hk
    exact .inl (by rw [← hown (flI s.A i s.nw).1]; exact hk)
set_option maxRecDepth 100000 in
set_option maxHeartbeats 8000000 in
theorem tamper_any {w : World} {B d sb : Nat} {v : Value} {s : DS} (h : DK w B d sb v s) (i pb po cb : Nat) (F : Nat → Nat) (hi : i < s.n) (hF : Bytes w (some ⟨pb, po, none⟩) 64 F) (hp : pb ≠ sb) :
    Calls Tryd.prog 17 #[.pointer (some ⟨d, 0, none⟩), .int .i64 (i : Int), .slice (some ⟨pb, po, none⟩) 64 cb] w fun e w' =>
      e = .returned .nilIface ∧ ∃ v', Dn w w' B d sb v v' (tamS s i F) := by
  obtain ⟨oa, cap, rfl, hnc, _⟩ := rws_cells h.wt (fun i _ => wtC_len _ _)
  have hn2 := h.n0.2
  have hF8 : ∀ k, k < 64 → F k < 256 := fun k hk => (hF k hk).1
  obtain ⟨bi, hbi⟩ : ∃ y, w.heap.size = y := ⟨_, rfl⟩
  obtain ⟨w1, hw1⟩ : ∃ y, w.alloc (.cells #[.int .i64 (i : Int)] 3) = y := ⟨_, rfl⟩
  have hb1 : Below bi w w1 := by rw [← hw1, ← hbi]; exact (Below.refl _ _).alloc (Nat.le_refl _) _
  have hx1 : Blk w1 bi #[.int .i64 (i : Int)] 3 := by rw [← hw1, ← hbi]; exact Blk.new _ _ _
  have h1 : DK w1 B d sb (.slice oa s.nw cap) s := h.later (by rw [hbi]; exact hb1)
  have hh := has_any h1 (i : Int) (by omega)
  rw [decide_eq_true (show (0 : Int) ≤ (i : Int) ∧ (i : Int) < (s.n : Int) by omega)] at hh
  have HH := Lib.hid hh
  have hl := h.lt
  have HBN : Hid (d < bi ∧ sb < bi ∧ (Value.slice oa s.nw cap).ownBlock ≠ some bi) := Lib.hid (by rw [hbi] at hl; exact ⟨hl.1, hl.2.1, fun e => by have := (hl.2.2 _ e).2; omega⟩)
  have ci : w1.cell? ⟨bi, 0, none⟩ = some (.int .i64 (i : Int)) := by rw [Blk.cell hx1]; rfl
  have H0 := Lib.hid (show DK w B d sb (.slice oa s.nw cap) s ∧ DK w1 B d sb (.slice oa s.nw cap) s ∧ Below bi w w1 ∧ Blk w1 bi #[.int .i64 (i : Int)] 3 ∧ i < s.n ∧ (∀ k, k < 64 → F k < 256) from ⟨h, h1, hb1, hx1, hi, hF8⟩)
  have HZ := Lib.hid hbi
  have HFB : Hid (Bytes w1 (some ⟨pb, po, none⟩) 64 F) := Lib.hid (hF.later (by rw [hbi]; exact hb1))
  have hD : DK w1.drew B d sb (.slice oa s.nw cap) s := h1.later (Below.refl _ w1).drew
  have HDD := Lib.hid hD
  have HC0 : Hid (∀ A', Own sb w1.drew A' → A'.cell? ⟨d, 0, none⟩ = some (.slice (some ⟨sb, 0, none⟩) s.n s.c)) := Lib.hid fun A' hA => by rw [Blk.cell (hA.blk HDD.out.me HDD.out.ne)]; rfl
  have HCI : Hid (∀ A', Own sb w1.drew A' → A'.cell? ⟨bi, 0, none⟩ = some (.int .i64 (i : Int))) := Lib.hid fun A' hA => by
    have h9 : Blk w1.drew bi #[.int .i64 (i : Int)] 3 := hx1
    rw [Blk.cell (hA.blk h9 (Ne.symm (Nat.ne_of_lt HBN.out.2.1)))]; rfl
  have HR0 : Hid (∀ A', Own sb w1.drew A' → A'.rangeAt pb po (rowC 64 F)) := Lib.hid fun A' hA j u hu => by
    have hj : j < 64 := by have := (List.getElem?_eq_some_iff.1 hu).1; rw [rowC_len] at this; exact this
    rw [rowC_get _ hj] at hu
    obtain ⟨_, b2, o2, e2, h2⟩ := HFB.out j hj
    cases e2
    have hlb := World.block_lt_of_cell? _ _ h2
    rw [World.cell?_of_block (hA.block pb hlb hp)]
    exact Eq.trans h2 hu
  have i1 : (i : Int) < (s.n : Int) := by omega
  have i0 : (0 : Int) ≤ (i : Int) := by omega
  have HXR : Hid (Blk w1.drew bi #[.int .i64 (i : Int)] 3) := Lib.hid hx1
  have HWR : Hid (Below bi w w1.drew) := Lib.hid hb1.drew
  clear h h1 hh hb1 hx1 hl hn2 hF hi hF8 hnc hD
  go_enter Tryd.func17, Tryd.ntmps17
  go_wp2_with fail
  refine HH.out.mono ?_
  rintro e w' ⟨rfl, rfl⟩
  clear HH
  go_upto_region 3 with fail
  refine wp_region_held_drew (S := (Own sb w1.drew)) (by kernel_rfl) ?_ (fun hHeld => ?_)
  · (try dsimp only)
    (first | exact Own.refl _ _ | assumption)
  generalize w1.drew = WR at *
  refine wpAnyH_take (i := 0) (oi := { dst := some 17, op := Go.Op.move (Go.Operand.tmp 0), type := 23, pos := "disk.go:142", after := #[], guard := none }) (v := ?_) rfl (by kernel_rfl) (by kernel_rfl) (by kernel_rfl) (fun _ _ _ h => h) (Or.inl ⟨by rfl, ?_⟩) (by assumption) ?_
  rotate_left
  · intro wS hSw
    (try dsimp only at hSw)
    go_simp
    (try with_reducible rfl)
  (try simp only [Act.put, List.setIfInBounds_toArray, List.set_cons_zero, List.set_cons_succ])
  refine wpAnyH_take (i := 1) (oi := { dst := some 18, op := Go.Op.nilCheck (Go.Operand.tmp 17), type := 0, pos := "disk.go:142", after := #[{ on := 0, ground := Go.Ground.data }], guard := none }) (v := ?_) rfl (by kernel_rfl) (by kernel_rfl) (by kernel_rfl) (fun _ _ _ h => h) (Or.inl ⟨by rfl, ?_⟩) (by assumption) ?_
  rotate_left
  · intro wS hSw
    (try dsimp only at hSw)
    go_simp
    (try with_reducible rfl)
  (try simp only [Act.put, List.setIfInBounds_toArray, List.set_cons_zero, List.set_cons_succ])
  refine wpAnyH_take (i := 2) (oi := { dst := some 19, op := Go.Op.fieldAddr 64 (Go.Operand.tmp 18) 0, type := 0, pos := "disk.go:142", after := #[{ on := 1, ground := Go.Ground.data }], guard := none }) (v := ?_) rfl (by kernel_rfl) (by kernel_rfl) (by kernel_rfl) (fun _ _ _ h => h) (Or.inl ⟨by rfl, ?_⟩) (by assumption) ?_
  rotate_left
  · intro wS hSw
    (try dsimp only at hSw)
    go_simp
    (try with_reducible rfl)
  (try simp only [Act.put, List.setIfInBounds_toArray, List.set_cons_zero, List.set_cons_succ])
  refine wpAnyH_take (i := 3) (oi := { dst := some 20, op := Go.Op.load 61 (Go.Operand.tmp 19), type := 61, pos := "disk.go:142", after := #[{ on := 2, ground := Go.Ground.data }], guard := none }) (v := ?_) rfl (by kernel_rfl) (by kernel_rfl) (by kernel_rfl) (fun _ _ _ h => h) (Or.inl ⟨by rfl, ?_⟩) (by assumption) ?_
  rotate_left
  · intro wS hSw
    have c0 := HC0.out wS hSw
    go_simp
    (try with_reducible rfl)
  (try simp only [Act.put, List.setIfInBounds_toArray, List.set_cons_zero, List.set_cons_succ])
  refine wpAnyH_take (i := 4) (oi := { dst := some 21, op := Go.Op.load 3 (Go.Operand.tmp 4), type := 3, pos := "disk.go:142", after := #[], guard := none }) (v := ?_) rfl (by kernel_rfl) (by kernel_rfl) (by kernel_rfl) (fun _ _ _ h => h) (Or.inl ⟨by rfl, ?_⟩) (by assumption) ?_
  rotate_left
  · intro wS hSw
    have c0 := HCI.out wS hSw
    go_simp
    (try with_reducible rfl)
  (try simp only [Act.put, List.setIfInBounds_toArray, List.set_cons_zero, List.set_cons_succ])
  refine wpAnyH_take (i := 5) (oi := { dst := some 22, op := Go.Op.move (Go.Operand.tmp 2), type := 22, pos := "disk.go:142", after := #[], guard := none }) (v := ?_) rfl (by kernel_rfl) (by kernel_rfl) (by kernel_rfl) (fun _ _ _ h => h) (Or.inl ⟨by rfl, ?_⟩) (by assumption) ?_
  rotate_left
  · intro wS hSw
    (try dsimp only at hSw)
    go_simp
    (try with_reducible rfl)
  (try simp only [Act.put, List.setIfInBounds_toArray, List.set_cons_zero, List.set_cons_succ])
  refine wpAnyH_take (i := 6) (oi := { dst := some 23, op := Go.Op.sliceToArrayPointer 68 (Go.Operand.tmp 22), type := 0, pos := "disk.go:142", after := #[{ on := 5, ground := Go.Ground.data }], guard := none }) (v := ?_) rfl (by kernel_rfl) (by kernel_rfl) (by kernel_rfl) (fun _ _ _ h => h) (Or.inl ⟨by rfl, ?_⟩) (by assumption) ?_
  rotate_left
  · intro wS hSw
    refine exec_s2aS (x := .tmp 22) (oa := some ⟨pb, po, none⟩) (len := 64) (cap := cb) ?_ ?_ (Nat.le_refl 64) <;> rfl
  (try simp only [Act.put, List.setIfInBounds_toArray, List.set_cons_zero, List.set_cons_succ])
  refine wpAnyH_take (i := 7) (oi := { dst := some 24, op := Go.Op.load 68 (Go.Operand.tmp 23), type := 68, pos := "disk.go:142", after := #[{ on := 6, ground := Go.Ground.data }], guard := none }) (v := ?_) rfl (by kernel_rfl) (by kernel_rfl) (by kernel_rfl) (fun _ _ _ h => h) (Or.inl ⟨by rfl, ?_⟩) (by assumption) ?_
  rotate_left
  · intro wS hSw
    refine exec_loadM (x := .tmp 23) (b := pb) (f := po) (cs := rowC 64 F) (d := _) ?_ ?_ (HR0.out wS hSw) Tryd.underlying68 rfl info_sector <;> rfl
  (try simp only [Act.put, List.setIfInBounds_toArray, List.set_cons_zero, List.set_cons_succ])
  refine wpAnyH_take (i := 8) (oi := { dst := some 25, op := Go.Op.indexAddr 61 (Go.Operand.tmp 20) (Go.Operand.tmp 21), type := 0, pos := "disk.go:142", after := #[{ on := 3, ground := Go.Ground.data }, { on := 4, ground := Go.Ground.data }, { on := 0, ground := Go.Ground.phase }, { on := 1, ground := Go.Ground.phase }, { on := 2, ground := Go.Ground.phase }, { on := 3, ground := Go.Ground.phase }, { on := 4, ground := Go.Ground.phase }, { on := 5, ground := Go.Ground.phase }, { on := 6, ground := Go.Ground.phase }, { on := 7, ground := Go.Ground.phase }], guard := none }) (v := ?_) rfl (by kernel_rfl) (by kernel_rfl) (by kernel_rfl) (fun _ _ _ h => h) (Or.inl ⟨by rfl, ?_⟩) (by assumption) ?_
  rotate_left
  · intro wS hSw
    (try dsimp only at hSw)
    go_simp
    (try with_reducible rfl)
  (try simp only [Act.put, List.setIfInBounds_toArray, List.set_cons_zero, List.set_cons_succ])
  refine wpAnyH_ready (rs := [9]) (by kernel_rfl) (by simp) ?_
  refine AllReadyH.cons (o := { dst := none, op := Go.Op.store 68 (Go.Operand.tmp 25) (Go.Operand.tmp 24), type := 0, pos := "disk.go:142", after := #[{ on := 8, ground := Go.Ground.data }, { on := 7, ground := Go.Ground.data }, { on := 0, ground := Go.Ground.phase }, { on := 1, ground := Go.Ground.phase }, { on := 2, ground := Go.Ground.phase }, { on := 3, ground := Go.Ground.phase }, { on := 4, ground := Go.Ground.phase }, { on := 5, ground := Go.Ground.phase }, { on := 6, ground := Go.Ground.phase }, { on := 7, ground := Go.Ground.phase }], guard := none }) rfl (fun K hK => ?_) AllReadyH.nil
  (obtain ⟨hs1, hs2, hs3⟩ := HDD.out.sec H0.out.2.2.2.2.1 H0.out.2.2.2.2.2; refine step_storeM (by rfl) 68 (.tmp 25) (.tmp 24) rfl sb (i * 64) (rowC 64 F).toArray rfl rfl hs3 (by rw [List.size_toArray]; exact info_sector) (all_oneCell_toArray (rowC_one _ _)) ?_; obtain ⟨W2, hW2⟩ : ∃ q, WR.setCells sb (i * 64) (rowC 64 F).toArray.toList = q := ⟨_, rfl⟩; rw [hW2] at hs1 hs2 ⊢; have HS1 := Lib.hid hs1; have HS2 := Lib.hid hs2; clear hs1 hs3 hW2; skip)
  refine hK.out _ _ ?_ (fun hHeld => ?_)
  · (try dsimp only)
    (first | exact Own.refl _ _ | assumption)
  clear hK K
  (try simp only [Act.put, List.setIfInBounds_toArray, List.set_cons_zero, List.set_cons_succ])
  refine wpAnyH_done (by kernel_rfl) ?_ _
  clear hs2 HC0 HCI HR0
  have hcv : W2.cell? ⟨d, 1, none⟩ = some (.slice oa s.nw cap) := HS1.out.c0.2.1
  have hcb : W2.cell? ⟨bi, 0, none⟩ = some (.int .i64 (i : Int)) := by
    have h9 : Blk WR bi #[.int .i64 (i : Int)] 3 := HXR.out
    rw [Blk.cell (HS2.out.blk h9 (Ne.symm (Nat.ne_of_lt HBN.out.2.1)))]; rfl
  have HDF := Lib.hid (dfunc_any B s.nw cap bi i oa s.A s.D W2 HS1.out.wt (fun j hj => wt_range HS1.out hj) HS1.out.nb hcb HBN.out.2.2)
  clear hcb
  go_wp2_with fail
  refine HDF.out.mono ?_
  rintro e W3 ⟨rfl, hA3, hg3⟩
  obtain ⟨hc3, hf3, hn3⟩ := tam_done (s := { s with S := updF s.S i F }) (i := i) HS1.out hA3 hg3
  have HN3 := Lib.hid hn3
  clear hA3 hg3 hn3 HDF hcv
  go_wp2_with fail
  go_ret
  refine ⟨rfl, _, HN3.out.dk, ?_, HN3.out.nx.trans_of (Nxt.refl _ _) ?_⟩
  · have hb := HWR.out
    exact ((Oth.of_below (by rw [HZ.out]; exact hb)).trans (Nxt.refl _ _) (Oth.of_own HS2.out (.inr (.inl rfl)))).trans (Nxt.refl _ _) HN3.out.ot
  · have := HWR.out.size; have := HS2.out.size; have := HZ.out; omega
end Go.Proofs.YtcohllhmfghlfaaDoor
