/- A disk: Clone. -/
import Derived.Test.YtcohllhmfghlfaaDoorDkC
namespace Go.Proofs.YtcohllhmfghlfaaDoor
set_option linter.unusedVariables false
set_option linter.unusedSimpArgs false
open Go.RowKit

theorem owns_low {w : World} {b b' k n : Nat} {e : TypeId} {v : Value} {xs : List Value} (h : w.ownsRow b e k v n xs) (hb : b' ≤ b) : w.ownsRow b' e k v n xs := by
  refine ⟨h.1, ?_⟩
  rcases h.2 with e | ⟨g, cap, cur, e, hg, r⟩
  · exact .inl e
  · exact .inr ⟨g, cap, cur, e, Nat.le_trans hb hg, r⟩
theorem rws_one {C : Nat → List Value} : ∀ {n : Nat}, (∀ i, i < n → ∀ u ∈ C i, u.oneCell' = true) → ∀ u ∈ rws n C, u.oneCell' = true
  | 0, _, u, hu => by rw [rws_zero] at hu; cases hu
  | n + 1, h, u, hu => by
    rw [rws_succ] at hu
    rcases List.mem_append.1 hu with h1 | h1
    · exact rws_one (fun i hi => h i (by omega)) u h1
    · exact h n (Nat.lt_succ_self _) u h1
/-- The row as one block, what lies behind it told apart. -/
theorem owns_blk {w : World} {b k n : Nat} {e : TypeId} {v : Value} {xs : List Value} (h : w.ownsRow b e k v n xs) (hv : v ≠ .slice none 0 0) : ∃ g cap X, v = .slice (some ⟨g, 0, none⟩) n cap ∧ b ≤ g ∧ Blk w g (xs ++ X).toArray e := by
  rcases h.2 with ⟨e, _⟩ | ⟨g, cap, cur, e, hg, hh, _, _, _, ht⟩
  · exact absurd e hv
  · refine ⟨g, cap, cur.toList.drop (n * k), e, hg, ?_⟩
    unfold Blk
    rw [hh, ← ht, List.take_append_drop]
theorem wt_news {w : World} {B d sb nw cap : Nat} {oa : Option Addr} {s : DS} (h : DK w B d sb (.slice oa nw cap) s) (ad : Addr) (ha : oa = some ad) : ∀ j u, (rws s.nw fun j => wtC (s.A j) (s.D j))[j]? = some u → w.cell? (ad.add j) = some u := fun j u hu => by
  rcases h.wt.2 with ⟨e, _⟩ | ⟨g, cap', cur, e, hg, hh, _, _, hsz, ht⟩
  · cases e; cases ha
  · cases e; cases ha
    have hb : Blk w g cur 70 := hh
    rw [Addr.add_mid, Blk.cell hb, Nat.zero_add, ← Array.getElem?_toList]
    have hj : j < s.nw * 65 := by have := (List.getElem?_eq_some_iff.1 hu).1; rw [h.wt.1] at this; exact this
    rw [← ht, List.getElem?_take, if_pos hj] at hu
    exact hu
theorem bd_run (g n c nw cap ar : Nat) (oa : Option Addr) (dn : Bool) (w : World) : (Instr.build 64 #[(0, .slice (some ⟨g, 0, none⟩) n c), (1, .slice oa nw cap), (2, .int .i64 (ar : Int)), (3, .bool dn)]).run Tryd.prog w = .ok (.agg #[.slice (some ⟨g, 0, none⟩) n c, .slice oa nw cap, .int .i64 (ar : Int), .bool dn]) w := by kernel_rfl
set_option maxRecDepth 100000 in
set_option maxHeartbeats 8000000 in
theorem dclone_any {w : World} {B d sb : Nat} {v : Value} {s : DS} (h : DK w B d sb v s) :
    Calls Tryd.prog 20 #[.pointer (some ⟨d, 0, none⟩)] w fun e w' => ∃ d2 sb2 v2 c2 X2, e = .returned (.pointer (some ⟨d2, 0, none⟩)) ∧ DK w' w.heap.size d2 sb2 v2 { s with c := c2, X := X2 } ∧ Below w.heap.size w w' := by
  obtain ⟨oa, cap, rfl, _, _, _, _⟩ := rws_cells h.wt (fun i _ => wtC_len _ _)
  have HD := Lib.hid h
  obtain ⟨ar, har⟩ : ∃ x, s.ar = x := ⟨_, rfl⟩
  obtain ⟨dn, hdn⟩ : ∃ x, s.dn = x := ⟨_, rfl⟩
  have HAD := Lib.hid (show s.ar = ar ∧ s.dn = dn from ⟨har, hdn⟩)
  have hno : oa = none → s.nw = 0 ∧ cap = 0 := fun e => by
    subst e
    rcases h.wt.2 with ⟨e, h0⟩ | ⟨g, cap', cur, e, _⟩
    · injection e with _ e1 e2; exact ⟨h0, e2⟩
    · cases e
  have HNO := Lib.hid hno
  clear h har hdn hno
  have HW := Lib.hid (show Below w.heap.size w w.drew from (Below.refl _ w).drew)
  have HC : Hid (∀ A', Below w.drew.heap.size w.drew A' → A'.cell? ⟨d, 0, none⟩ = some (.slice (some ⟨sb, 0, none⟩) s.n s.c) ∧ A'.cell? ⟨d, 1, none⟩ = some (.slice oa s.nw cap) ∧ A'.cell? ⟨d, 2, none⟩ = some (.int .i64 (ar : Int)) ∧ A'.cell? ⟨d, 3, none⟩ = some (.bool dn)) := Lib.hid fun A' hA => by
    obtain ⟨q0, q1, q2, q3, _⟩ := (HD.out.later ((Below.refl _ w).drew.trans hA)).c0
    rw [HAD.out.1] at q2
    rw [HAD.out.2] at q3
    exact ⟨q0, q1, q2, q3⟩
  go_enter Tryd.func20, Tryd.ntmps20
  go_upto_region 3 with fail
  refine wp_region_held_drew (S := (Below w.drew.heap.size w.drew)) (by kernel_rfl) ?_ (fun hHeld => ?_)
  · (try dsimp only)
    (first | exact Below.refl _ _ | assumption)
  generalize w.drew = WR at *
  refine wpAnyH_take (i := 0) (oi := { dst := some 5, op := Go.Op.move (Go.Operand.tmp 0), type := 23, pos := "disk.go:164", after := #[], guard := none }) (v := ?_) rfl (by kernel_rfl) (by kernel_rfl) (by kernel_rfl) (fun _ _ _ h => h) (Or.inl ⟨by rfl, ?_⟩) (by assumption) ?_
  rotate_left
  · intro wS hSw
    (try dsimp only at hSw)
    go_simp
    (try with_reducible rfl)
  (try simp only [Act.put, List.setIfInBounds_toArray, List.set_cons_zero, List.set_cons_succ])
  refine wpAnyH_take (i := 1) (oi := { dst := some 6, op := Go.Op.nilCheck (Go.Operand.tmp 5), type := 0, pos := "disk.go:164", after := #[{ on := 0, ground := Go.Ground.data }], guard := none }) (v := ?_) rfl (by kernel_rfl) (by kernel_rfl) (by kernel_rfl) (fun _ _ _ h => h) (Or.inl ⟨by rfl, ?_⟩) (by assumption) ?_
  rotate_left
  · intro wS hSw
    (try dsimp only at hSw)
    go_simp
    (try with_reducible rfl)
  (try simp only [Act.put, List.setIfInBounds_toArray, List.set_cons_zero, List.set_cons_succ])
  refine wpAnyH_take (i := 2) (oi := { dst := some 7, op := Go.Op.fieldAddr 64 (Go.Operand.tmp 6) 0, type := 0, pos := "disk.go:164", after := #[{ on := 1, ground := Go.Ground.data }], guard := none }) (v := ?_) rfl (by kernel_rfl) (by kernel_rfl) (by kernel_rfl) (fun _ _ _ h => h) (Or.inl ⟨by rfl, ?_⟩) (by assumption) ?_
  rotate_left
  · intro wS hSw
    (try dsimp only at hSw)
    go_simp
    (try with_reducible rfl)
  (try simp only [Act.put, List.setIfInBounds_toArray, List.set_cons_zero, List.set_cons_succ])
  refine wpAnyH_take (i := 3) (oi := { dst := some 8, op := Go.Op.load 61 (Go.Operand.tmp 7), type := 61, pos := "disk.go:164", after := #[{ on := 2, ground := Go.Ground.data }], guard := none }) (v := ?_) rfl (by kernel_rfl) (by kernel_rfl) (by kernel_rfl) (fun _ _ _ h => h) (Or.inl ⟨by rfl, ?_⟩) (by assumption) ?_
  rotate_left
  · intro wS hSw
    have c0 := (HC.out wS hSw).1
    go_simp
    (try with_reducible rfl)
  (try simp only [Act.put, List.setIfInBounds_toArray, List.set_cons_zero, List.set_cons_succ])
  refine wpAnyH_take (i := 5) (oi := { dst := some 10, op := Go.Op.move (Go.Operand.tmp 0), type := 23, pos := "disk.go:164", after := #[], guard := none }) (v := ?_) rfl (by kernel_rfl) (by kernel_rfl) (by kernel_rfl) (fun _ _ _ h => h) (Or.inl ⟨by rfl, ?_⟩) (by assumption) ?_
  rotate_left
  · intro wS hSw
    (try dsimp only at hSw)
    go_simp
    (try with_reducible rfl)
  (try simp only [Act.put, List.setIfInBounds_toArray, List.set_cons_zero, List.set_cons_succ])
  refine wpAnyH_take (i := 6) (oi := { dst := some 11, op := Go.Op.nilCheck (Go.Operand.tmp 10), type := 0, pos := "disk.go:164", after := #[{ on := 5, ground := Go.Ground.data }], guard := none }) (v := ?_) rfl (by kernel_rfl) (by kernel_rfl) (by kernel_rfl) (fun _ _ _ h => h) (Or.inl ⟨by rfl, ?_⟩) (by assumption) ?_
  rotate_left
  · intro wS hSw
    (try dsimp only at hSw)
    go_simp
    (try with_reducible rfl)
  (try simp only [Act.put, List.setIfInBounds_toArray, List.set_cons_zero, List.set_cons_succ])
  refine wpAnyH_take (i := 7) (oi := { dst := some 12, op := Go.Op.fieldAddr 64 (Go.Operand.tmp 11) 1, type := 0, pos := "disk.go:164", after := #[{ on := 6, ground := Go.Ground.data }], guard := none }) (v := ?_) rfl (by kernel_rfl) (by kernel_rfl) (by kernel_rfl) (fun _ _ _ h => h) (Or.inl ⟨by rfl, ?_⟩) (by assumption) ?_
  rotate_left
  · intro wS hSw
    (try dsimp only at hSw)
    go_simp
    (try with_reducible rfl)
  (try simp only [Act.put, List.setIfInBounds_toArray, List.set_cons_zero, List.set_cons_succ])
  refine wpAnyH_take (i := 8) (oi := { dst := some 13, op := Go.Op.load 62 (Go.Operand.tmp 12), type := 62, pos := "disk.go:164", after := #[{ on := 7, ground := Go.Ground.data }], guard := none }) (v := ?_) rfl (by kernel_rfl) (by kernel_rfl) (by kernel_rfl) (fun _ _ _ h => h) (Or.inl ⟨by rfl, ?_⟩) (by assumption) ?_
  rotate_left
  · intro wS hSw
    have c0 := (HC.out wS hSw).2.1
    go_simp
    (try with_reducible rfl)
  (try simp only [Act.put, List.setIfInBounds_toArray, List.set_cons_zero, List.set_cons_succ])
  refine wpAnyH_take (i := 10) (oi := { dst := some 15, op := Go.Op.move (Go.Operand.tmp 0), type := 23, pos := "disk.go:164", after := #[], guard := none }) (v := ?_) rfl (by kernel_rfl) (by kernel_rfl) (by kernel_rfl) (fun _ _ _ h => h) (Or.inl ⟨by rfl, ?_⟩) (by assumption) ?_
  rotate_left
  · intro wS hSw
    (try dsimp only at hSw)
    go_simp
    (try with_reducible rfl)
  (try simp only [Act.put, List.setIfInBounds_toArray, List.set_cons_zero, List.set_cons_succ])
  refine wpAnyH_take (i := 11) (oi := { dst := some 16, op := Go.Op.nilCheck (Go.Operand.tmp 15), type := 0, pos := "disk.go:164", after := #[{ on := 10, ground := Go.Ground.data }], guard := none }) (v := ?_) rfl (by kernel_rfl) (by kernel_rfl) (by kernel_rfl) (fun _ _ _ h => h) (Or.inl ⟨by rfl, ?_⟩) (by assumption) ?_
  rotate_left
  · intro wS hSw
    (try dsimp only at hSw)
    go_simp
    (try with_reducible rfl)
  (try simp only [Act.put, List.setIfInBounds_toArray, List.set_cons_zero, List.set_cons_succ])
  refine wpAnyH_take (i := 12) (oi := { dst := some 17, op := Go.Op.fieldAddr 64 (Go.Operand.tmp 16) 2, type := 0, pos := "disk.go:164", after := #[{ on := 11, ground := Go.Ground.data }], guard := none }) (v := ?_) rfl (by kernel_rfl) (by kernel_rfl) (by kernel_rfl) (fun _ _ _ h => h) (Or.inl ⟨by rfl, ?_⟩) (by assumption) ?_
  rotate_left
  · intro wS hSw
    (try dsimp only at hSw)
    go_simp
    (try with_reducible rfl)
  (try simp only [Act.put, List.setIfInBounds_toArray, List.set_cons_zero, List.set_cons_succ])
  refine wpAnyH_take (i := 13) (oi := { dst := some 18, op := Go.Op.load 3 (Go.Operand.tmp 17), type := 3, pos := "disk.go:164", after := #[{ on := 12, ground := Go.Ground.data }], guard := none }) (v := ?_) rfl (by kernel_rfl) (by kernel_rfl) (by kernel_rfl) (fun _ _ _ h => h) (Or.inl ⟨by rfl, ?_⟩) (by assumption) ?_
  rotate_left
  · intro wS hSw
    have c0 := (HC.out wS hSw).2.2.1
    go_simp
    (try with_reducible rfl)
  (try simp only [Act.put, List.setIfInBounds_toArray, List.set_cons_zero, List.set_cons_succ])
  refine wpAnyH_take (i := 14) (oi := { dst := some 19, op := Go.Op.move (Go.Operand.tmp 0), type := 23, pos := "disk.go:164", after := #[], guard := none }) (v := ?_) rfl (by kernel_rfl) (by kernel_rfl) (by kernel_rfl) (fun _ _ _ h => h) (Or.inl ⟨by rfl, ?_⟩) (by assumption) ?_
  rotate_left
  · intro wS hSw
    (try dsimp only at hSw)
    go_simp
    (try with_reducible rfl)
  (try simp only [Act.put, List.setIfInBounds_toArray, List.set_cons_zero, List.set_cons_succ])
  refine wpAnyH_take (i := 15) (oi := { dst := some 20, op := Go.Op.nilCheck (Go.Operand.tmp 19), type := 0, pos := "disk.go:164", after := #[{ on := 14, ground := Go.Ground.data }], guard := none }) (v := ?_) rfl (by kernel_rfl) (by kernel_rfl) (by kernel_rfl) (fun _ _ _ h => h) (Or.inl ⟨by rfl, ?_⟩) (by assumption) ?_
  rotate_left
  · intro wS hSw
    (try dsimp only at hSw)
    go_simp
    (try with_reducible rfl)
  (try simp only [Act.put, List.setIfInBounds_toArray, List.set_cons_zero, List.set_cons_succ])
  refine wpAnyH_take (i := 16) (oi := { dst := some 21, op := Go.Op.fieldAddr 64 (Go.Operand.tmp 20) 3, type := 0, pos := "disk.go:164", after := #[{ on := 15, ground := Go.Ground.data }], guard := none }) (v := ?_) rfl (by kernel_rfl) (by kernel_rfl) (by kernel_rfl) (fun _ _ _ h => h) (Or.inl ⟨by rfl, ?_⟩) (by assumption) ?_
  rotate_left
  · intro wS hSw
    (try dsimp only at hSw)
    go_simp
    (try with_reducible rfl)
  (try simp only [Act.put, List.setIfInBounds_toArray, List.set_cons_zero, List.set_cons_succ])
  refine wpAnyH_take (i := 17) (oi := { dst := some 22, op := Go.Op.load 4 (Go.Operand.tmp 21), type := 4, pos := "disk.go:164", after := #[{ on := 16, ground := Go.Ground.data }], guard := none }) (v := ?_) rfl (by kernel_rfl) (by kernel_rfl) (by kernel_rfl) (fun _ _ _ h => h) (Or.inl ⟨by rfl, ?_⟩) (by assumption) ?_
  rotate_left
  · intro wS hSw
    have c0 := (HC.out wS hSw).2.2.2
    go_simp
    (try with_reducible rfl)
  (try simp only [Act.put, List.setIfInBounds_toArray, List.set_cons_zero, List.set_cons_succ])
  refine wpAnyH_ready (rs := [4]) (by kernel_rfl) (by simp) ?_
  refine AllReadyH.cons (o := { dst := some 9, op := Go.Op.call { callee := Go.Callee.value (Go.Operand.func 38), args := #[Go.Operand.tmp 8], argTypes := #[61] }, type := 61, pos := "disk.go:164", after := #[{ on := 3, ground := Go.Ground.data }], guard := none }) rfl (fun K hK => ?_) AllReadyH.nil
  go_simp
  (refine (sclone_any (some ⟨sb, 0, none⟩) s.n s.c (rws s.n fun i => rowC 64 (s.S i)) WR (rws_len (k := 64) fun i _ => rowC_len _ _) (rws_one fun i _ => rowC_one _ _) (fun ad e j u hu => by cases e; rw [Addr.add_mid, Blk.cell (HD.out.later HW.out).sf, Nat.zero_add, List.getElem?_toArray, List.getElem?_append_left (List.getElem?_eq_some_iff.1 hu).1]; exact hu) (fun e => by cases e) (by have := HD.out.n0; omega)).mono ?_; rintro e V1 ⟨v1, rfl, ho1, hb1, hn1⟩; obtain ⟨g, c2, X2, rfl, hg1, hk1⟩ := owns_blk ho1 (fun e => by cases hn1 e); have K1 := Lib.hid (show Blk V1 g ((rws s.n fun i => rowC 64 (s.S i)) ++ X2).toArray 68 ∧ WR.heap.size ≤ g from ⟨hk1, hg1⟩); clear ho1 hn1 hg1 hk1; skip)
  (try go_wp2_with fail)
  refine hK.out _ _ ?_ (fun hHeld => ?_)
  · (try dsimp only)
    (first | exact Below.refl _ _ | assumption)
  clear hK K
  (try simp only [Act.put, List.setIfInBounds_toArray, List.set_cons_zero, List.set_cons_succ])
  refine wpAnyH_ready (rs := [9]) (by kernel_rfl) (by simp) ?_
  refine AllReadyH.cons (o := { dst := some 14, op := Go.Op.call { callee := Go.Callee.value (Go.Operand.func 39), args := #[Go.Operand.tmp 13], argTypes := #[62] }, type := 62, pos := "disk.go:164", after := #[{ on := 8, ground := Go.Ground.data }, { on := 4, ground := Go.Ground.chain }], guard := none }) rfl (fun K hK => ?_) AllReadyH.nil
  go_simp
  (refine (wclone_any oa s.nw cap (rws s.nw fun j => wtC (s.A j) (s.D j)) V1 (rws_len (k := 65) fun i _ => wtC_len _ _) (rws_one fun i _ => wtC_one _ _) (fun ad e => wt_news (HD.out.later (HW.out.trans (hb1.mono HW.out.size))) ad e) HNO.out HD.out.nb).mono ?_; rintro e V2 ⟨v2, rfl, ho2, hb2, _⟩; obtain ⟨ob, cb, rfl, _, _, _, _⟩ := rws_cells ho2 (fun i _ => wtC_len _ _); have K2 := Lib.hid ho2; have hb3 := hb1.trans (hb2.mono hb1.size); have HB2 := Lib.hid (show Below WR.heap.size WR V1 ∧ Below V1.heap.size V1 V2 ∧ Below WR.heap.size WR V2 from ⟨hb1, hb2, hb3⟩); clear ho2; skip)
  (try go_wp2_with fail)
  refine hK.out _ _ ?_ (fun hHeld => ?_)
  · (try dsimp only)
    (first | exact Below.refl _ _ | assumption)
  clear hK K
  (try simp only [Act.put, List.setIfInBounds_toArray, List.set_cons_zero, List.set_cons_succ])
  refine wpAnyH_take (i := 18) (oi := { dst := some 23, op := Go.Op.build 64 #[(0, Go.Operand.tmp 9), (1, Go.Operand.tmp 14), (2, Go.Operand.tmp 18), (3, Go.Operand.tmp 22)], type := 64, pos := "disk.go:164", after := #[{ on := 4, ground := Go.Ground.data }, { on := 9, ground := Go.Ground.data }, { on := 13, ground := Go.Ground.data }, { on := 17, ground := Go.Ground.data }], guard := none }) (v := ?_) rfl (by kernel_rfl) (by kernel_rfl) (by kernel_rfl) (fun _ _ _ h => h) (Or.inl ⟨by rfl, ?_⟩) (by assumption) ?_
  rotate_left
  · intro wS hSw
    (try dsimp only at hSw)
    go_simp
    (try with_reducible rfl)
  (try simp only [Act.put, List.setIfInBounds_toArray, List.set_cons_zero, List.set_cons_succ])
  refine wpAnyH_ready (rs := [19]) (by kernel_rfl) (by simp) ?_
  refine AllReadyH.cons (o := { dst := some 24, op := Go.Op.box 64 (Go.Operand.tmp 23), type := 23, pos := "disk.go:164", after := #[{ on := 18, ground := Go.Ground.data }], guard := none }) rfl (fun K hK => ?_) AllReadyH.nil
  go_simp
  (obtain ⟨V3, hV3⟩ : ∃ q, V2.alloc (.cells #[.slice (some ⟨g, 0, none⟩) s.n c2, .slice ob s.nw cb, .int .i64 (ar : Int), .bool dn] 64) = q := ⟨_, rfl⟩; rw [hV3]; have hb4 : Below V2.heap.size V2 V3 := (by rw [← hV3]; exact (Below.refl _ _).alloc (Nat.le_refl _) _); have K3 : Hid (Blk V3 V2.heap.size #[.slice (some ⟨g, 0, none⟩) s.n c2, .slice ob s.nw cb, .int .i64 (ar : Int), .bool dn] 64) := Lib.hid (by rw [← hV3]; exact Blk.new _ _ _); have hb5 := hb3.trans (hb4.mono hb3.size); have HB4 := Lib.hid hb4; clear hV3; skip)
  (try go_wp2_with fail)
  refine hK.out _ _ ?_ (fun hHeld => ?_)
  · (try dsimp only)
    (first | exact Below.refl _ _ | assumption)
  clear hK K
  (try simp only [Act.put, List.setIfInBounds_toArray, List.set_cons_zero, List.set_cons_succ])
  refine wpAnyH_take (i := 20) (oi := { dst := some 2, op := Go.Op.assign (Go.Operand.tmp 24), type := 23, pos := "disk.go:164", after := #[{ on := 19, ground := Go.Ground.data }, { on := 9, ground := Go.Ground.chain }, { on := 0, ground := Go.Ground.phase }, { on := 1, ground := Go.Ground.phase }, { on := 2, ground := Go.Ground.phase }, { on := 3, ground := Go.Ground.phase }, { on := 4, ground := Go.Ground.phase }, { on := 5, ground := Go.Ground.phase }, { on := 6, ground := Go.Ground.phase }, { on := 7, ground := Go.Ground.phase }, { on := 8, ground := Go.Ground.phase }, { on := 9, ground := Go.Ground.phase }, { on := 10, ground := Go.Ground.phase }, { on := 11, ground := Go.Ground.phase }, { on := 12, ground := Go.Ground.phase }, { on := 13, ground := Go.Ground.phase }, { on := 14, ground := Go.Ground.phase }, { on := 15, ground := Go.Ground.phase }, { on := 16, ground := Go.Ground.phase }, { on := 17, ground := Go.Ground.phase }, { on := 18, ground := Go.Ground.phase }, { on := 19, ground := Go.Ground.phase }], guard := none }) (v := ?_) rfl (by kernel_rfl) (by kernel_rfl) (by kernel_rfl) (fun _ _ _ h => h) (Or.inl ⟨by rfl, ?_⟩) (by assumption) ?_
  rotate_left
  · intro wS hSw
    (try dsimp only at hSw)
    go_simp
    (try with_reducible rfl)
  (try simp only [Act.put, List.setIfInBounds_toArray, List.set_cons_zero, List.set_cons_succ])
  refine wpAnyH_done (by kernel_rfl) ?_ _
  clear hb1 hb2 hb3 hb4 hb5
  go_wp2_with fail
  go_ret
  have hb4 := HB4.out
  obtain ⟨h1, h2, h3⟩ := HB2.out
  have h5 := h3.trans (hb4.mono h3.size)
  have hlw := HW.out.size
  have hlt1 := Blk.lt K1.out.1
  have hl2 := World.ownsRow.lt K2.out
  have hd := HD.out
  refine ⟨V2.heap.size, g, _, c2, X2, rfl, ⟨?_, Blk.below K1.out.1 (h2.trans (hb4.mono h2.size)) hlt1, owns_low (owns_later K2.out hb4) (by have := h1.size; omega), by have := h3.size; omega, by have := K1.out.2; omega, by have := h2.size; omega, fun k hk => ?_, hd.n0, hd.S8, hd.D8, hd.ab, hd.nb⟩, HW.out.trans (h5.mono hlw)⟩
  · show Blk V3 V2.heap.size #[.slice (some ⟨g, 0, none⟩) s.n c2, .slice ob s.nw cb, .int .i64 (s.ar : Int), .bool s.dn] _
    rw [HAD.out.1, HAD.out.2]; exact K3.out
  · have := hl2 k hk; omega
end Go.Proofs.YtcohllhmfghlfaaDoor
