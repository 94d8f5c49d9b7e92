/- The walk of ConfigSteps. -/
import Derived.Test.YtkaddilgegimjaaDoorCfK
namespace Go.Proofs.YtkaddilgegimjaaDoor
set_option linter.unusedVariables false
set_option linter.unusedSimpArgs false
open Go.RowKit

set_option maxRecDepth 100000 in
set_option maxHeartbeats 8000000 in
theorem steps_oo (k n g a b : Int) (oa : Option Addr) (nb cp : Nat) (f : Nat → Nat) (w : World) (hg : Handle w) (hgg : 0 ≤ g ∧ g ≤ 4294967295) (hB : Bytes w oa nb f) (h100 : nb ≤ 100)
    (hp : (OkP k n ∧ g ≠ 0)) (ho : OkP a b) :
    Calls Tryd.prog 6 #[.agg #[.int .i64 k, .int .i64 n, .int .u32 g], .agg #[.int .i64 a, .int .i64 b], .slice oa nb cp] w fun e w' => e = .returned (.bool true) ∧ Below w.heap.size w w' := by
  obtain ⟨s, m1, hE1, hE2⟩ := enc_both k n g hgg
  obtain ⟨x1, x2, x3, m2, hN1, hN2⟩ := next_both k n g a b hgg
  obtain ⟨y1, y2, y3, m3, hD1, hD2⟩ := dec_both oa nb cp f
  have HE1 := Lib.hid hE1
  have HE2 := Lib.hid hE2
  have HN1 := Lib.hid hN1
  have HN2 := Lib.hid hN2
  have HD1 := Lib.hid hD1
  have HD2 := Lib.hid hD2
  have HBy := Lib.hid hB
  have HGP := Lib.hid (show 0 < g by have := hp.2; have := hgg.1; omega)
  have HP := Lib.hid hp
  have HO := Lib.hid ho
  have h1 : (nb : Int) ≤ 100 := by omega
  have F0 : Fr (((w.alloc (.cells #[.int .i64 k, .int .i64 n, .int .u32 g] 52)).alloc (.cells #[.int .i64 a, .int .i64 b] 53)).alloc (.cells #[.int .i64 k, .int .i64 n, .int .u32 g] 56)) [(w.heap.size + 1 + 1, #[.int .i64 k, .int .i64 n, .int .u32 g], 56), (w.heap.size + 1, #[.int .i64 a, .int .i64 b], 53), (w.heap.size, #[.int .i64 k, .int .i64 n, .int .u32 g], 52)] := by simpa using (((Fr.nil w).new #[.int .i64 k, .int .i64 n, .int .u32 g] 52).new #[.int .i64 a, .int .i64 b] 53).new #[.int .i64 k, .int .i64 n, .int .u32 g] 56
  have N0 : Wn w (((w.alloc (.cells #[.int .i64 k, .int .i64 n, .int .u32 g] 52)).alloc (.cells #[.int .i64 a, .int .i64 b] 53)).alloc (.cells #[.int .i64 k, .int .i64 n, .int .u32 g] 56)) := (((Wn.new hg).alloc _).alloc _).alloc _
  clear hE1 hE2 hN1 hN2 hD1 hD2 hB hp ho hg hgg h100
  go_enter Tryd.func6, Tryd.ntmps6
  go_wp2_with fail
  refine (HE1.out _).mono ?_
  rintro e w1 ⟨x, ev1, rfl, hx1, he1, hb1⟩
  have F1 := F0.later hb1
  have N1 := N0.step hb1
  clear F0 N0 hb1
  have p20 : w1.cell? ⟨w.heap.size, 0, none⟩ = some (.int .i64 k) := F1.cell 2 0 rfl rfl
  have p21 : w1.cell? ⟨w.heap.size, 1, none⟩ = some (.int .i64 n) := F1.cell 2 1 rfl rfl
  have p22 : w1.cell? ⟨w.heap.size, 2, none⟩ = some (.int .u32 g) := F1.cell 2 2 rfl rfl
  go_wp2_with fail
  refine (HE2.out _).mono ?_
  rintro e w2 ⟨y, rfl, hy2, hb2⟩
  have F2 := F1.later hb2
  have N2 := N1.step hb2
  have hx2 := hx1.later hb2
  clear F1 N1 hx1 hb2 p20 p21 p22
  have q00 : w2.cell? ⟨w.heap.size + 1 + 1, 0, none⟩ = some (.int .i64 k) := F2.cell 0 0 rfl rfl
  have q01 : w2.cell? ⟨w.heap.size + 1 + 1, 1, none⟩ = some (.int .i64 n) := F2.cell 0 1 rfl rfl
  have q02 : w2.cell? ⟨w.heap.size + 1 + 1, 2, none⟩ = some (.int .u32 g) := F2.cell 0 2 rfl rfl
  have q10 : w2.cell? ⟨w.heap.size + 1, 0, none⟩ = some (.int .i64 a) := F2.cell 1 0 rfl rfl
  have q11 : w2.cell? ⟨w.heap.size + 1, 1, none⟩ = some (.int .i64 b) := F2.cell 1 1 rfl rfl
  go_wp2_with fail
  refine (HN1.out _).mono ?_
  rintro e w3 ⟨ev2, rfl, he2, hb3⟩
  have F3 := (F2.later hb3).new #[.int .i64 x1, .int .i64 x2, .int .u32 x3] 56
  have N3 := (N2.step hb3).alloc (.cells #[.int .i64 x1, .int .i64 x2, .int .u32 x3] 56)
  have hx3 := (hx2.later hb3).later ((Below.refl _ _).alloc (Nat.le_refl _) (.cells #[.int .i64 x1, .int .i64 x2, .int .u32 x3] 56))
  have hy3 := (hy2.later hb3).later ((Below.refl _ _).alloc (Nat.le_refl _) (.cells #[.int .i64 x1, .int .i64 x2, .int .u32 x3] 56))
  clear F2 N2 hx2 hy2 hb3 q00 q01 q02 q10 q11
  have r20 : (w3.alloc (.cells #[.int .i64 x1, .int .i64 x2, .int .u32 x3] 56)).cell? ⟨w.heap.size + 1, 0, none⟩ = some (.int .i64 a) := F3.cell 2 0 rfl rfl
  have r21 : (w3.alloc (.cells #[.int .i64 x1, .int .i64 x2, .int .u32 x3] 56)).cell? ⟨w.heap.size + 1, 1, none⟩ = some (.int .i64 b) := F3.cell 2 1 rfl rfl
  have r30 : (w3.alloc (.cells #[.int .i64 x1, .int .i64 x2, .int .u32 x3] 56)).cell? ⟨w.heap.size, 0, none⟩ = some (.int .i64 k) := F3.cell 3 0 rfl rfl
  have r31 : (w3.alloc (.cells #[.int .i64 x1, .int .i64 x2, .int .u32 x3] 56)).cell? ⟨w.heap.size, 1, none⟩ = some (.int .i64 n) := F3.cell 3 1 rfl rfl
  have r32 : (w3.alloc (.cells #[.int .i64 x1, .int .i64 x2, .int .u32 x3] 56)).cell? ⟨w.heap.size, 2, none⟩ = some (.int .u32 g) := F3.cell 3 2 rfl rfl
  go_wp2_with fail
  refine (HN2.out _).mono ?_
  rintro e w4 ⟨rfl, hb4⟩
  have F4 := (F3.later hb4).new #[.int .i64 x1, .int .i64 x2, .int .u32 x3] 52
  have N4 := (N3.step hb4).alloc (.cells #[.int .i64 x1, .int .i64 x2, .int .u32 x3] 52)
  have hx4 := (hx3.later hb4).later ((Below.refl _ _).alloc (Nat.le_refl _) (.cells #[.int .i64 x1, .int .i64 x2, .int .u32 x3] 52))
  have hy4 := (hy3.later hb4).later ((Below.refl _ _).alloc (Nat.le_refl _) (.cells #[.int .i64 x1, .int .i64 x2, .int .u32 x3] 52))
  clear F3 N3 hx3 hy3 hb4 r20 r21 r30 r31 r32
  have B4 := Bytes.later HBy.out N4.bel
  go_wp2_with fail
  refine (HD1.out _ B4).mono ?_
  rintro e w5 ⟨ev3, rfl, he3, hb5⟩
  have F5 := (F4.later hb5).new #[.int .i64 y1, .int .i64 y2, .int .u32 y3] 56
  have N5 := (N4.step hb5).alloc (.cells #[.int .i64 y1, .int .i64 y2, .int .u32 y3] 56)
  have hx5 := (hx4.later hb5).later ((Below.refl _ _).alloc (Nat.le_refl _) (.cells #[.int .i64 y1, .int .i64 y2, .int .u32 y3] 56))
  have hy5 := (hy4.later hb5).later ((Below.refl _ _).alloc (Nat.le_refl _) (.cells #[.int .i64 y1, .int .i64 y2, .int .u32 y3] 56))
  clear F4 N4 hx4 hy4 hb5 B4
  have B5 := Bytes.later HBy.out N5.bel
  go_wp2_with fail
  refine (HD2.out _ B5).mono ?_
  rintro e w6 ⟨rfl, hb6⟩
  have F6 := (F5.later hb6).new #[.int .i64 y1, .int .i64 y2, .int .u32 y3] 52
  have N6 := (N5.step hb6).alloc (.cells #[.int .i64 y1, .int .i64 y2, .int .u32 y3] 52)
  have hx6 := (hx5.later hb6).later ((Below.refl _ _).alloc (Nat.le_refl _) (.cells #[.int .i64 y1, .int .i64 y2, .int .u32 y3] 52))
  have hy6 := (hy5.later hb6).later ((Below.refl _ _).alloc (Nat.le_refl _) (.cells #[.int .i64 y1, .int .i64 y2, .int .u32 y3] 52))
  clear F5 N5 hx5 hy5 hb6 B5
  have t50 : (w6.alloc (.cells #[.int .i64 y1, .int .i64 y2, .int .u32 y3] 52)).cell? ⟨w.heap.size + 1, 0, none⟩ = some (.int .i64 a) := F6.cell 5 0 rfl rfl
  have t51 : (w6.alloc (.cells #[.int .i64 y1, .int .i64 y2, .int .u32 y3] 52)).cell? ⟨w.heap.size + 1, 1, none⟩ = some (.int .i64 b) := F6.cell 5 1 rfl rfl
  go_wp2_with fail
  refine (new_ok a b _ HO.out).mono ?_
  rintro e w7 ⟨rfl, hb7⟩
  have F7 := (F6.later hb7).new #[.int .i64 a, .int .i64 b, .int .u32 1] 56
  have N7 := (N6.step hb7).alloc (.cells #[.int .i64 a, .int .i64 b, .int .u32 1] 56)
  have hx7 := (hx6.later hb7).later ((Below.refl _ _).alloc (Nat.le_refl _) (.cells #[.int .i64 a, .int .i64 b, .int .u32 1] 56))
  have hy7 := (hy6.later hb7).later ((Below.refl _ _).alloc (Nat.le_refl _) (.cells #[.int .i64 a, .int .i64 b, .int .u32 1] 56))
  clear F6 N6 hx6 hy6 hb7 t50 t51
  have K7 : KK w _ x y s (w7.alloc (.cells #[.int .i64 a, .int .i64 b, .int .u32 1] 56)) := ⟨N7, F7, hx7, hy7⟩
  have u60 : (w7.alloc (.cells #[.int .i64 a, .int .i64 b, .int .u32 1] 56)).cell? ⟨w.heap.size + 1, 0, none⟩ = some (.int .i64 a) := F7.cell 6 0 rfl rfl
  have u61 : (w7.alloc (.cells #[.int .i64 a, .int .i64 b, .int .u32 1] 56)).cell? ⟨w.heap.size + 1, 1, none⟩ = some (.int .i64 b) := F7.cell 6 1 rfl rfl
  have u00 : (w7.alloc (.cells #[.int .i64 a, .int .i64 b, .int .u32 1] 56)).cell? ⟨w7.heap.size, 0, none⟩ = some (.int .i64 a) := F7.cell 0 0 rfl rfl
  have u01 : (w7.alloc (.cells #[.int .i64 a, .int .i64 b, .int .u32 1] 56)).cell? ⟨w7.heap.size, 1, none⟩ = some (.int .i64 b) := F7.cell 0 1 rfl rfl
  have u02 : (w7.alloc (.cells #[.int .i64 a, .int .i64 b, .int .u32 1] 56)).cell? ⟨w7.heap.size, 2, none⟩ = some (.int .u32 1) := F7.cell 0 2 rfl rfl
  clear N7 F7 hx7 hy7
  go_wp2_with fail
  refine wp_region_held_drew (S := (fun w' => w'.cell? ⟨w.heap.size + 1, 0, none⟩ = some (.int .i64 a) ∧ w'.cell? ⟨w.heap.size + 1, 1, none⟩ = some (.int .i64 b) ∧ w'.cell? ⟨w7.heap.size, 0, none⟩ = some (.int .i64 a) ∧ w'.cell? ⟨w7.heap.size, 1, none⟩ = some (.int .i64 b) ∧ w'.cell? ⟨w7.heap.size, 2, none⟩ = some (.int .u32 1))) (by kernel_rfl) ?_ (fun hHeld => ?_)
  · (try dsimp only)
    go_keep
  refine wpAnyH_take (i := 0) (oi := { dst := some 74, op := Op.move (Operand.tmp 21), type := 26, pos := "law.go:48", after := #[], guard := none }) (v := ?_) rfl (by kernel_rfl) (by kernel_rfl) (by kernel_rfl) (fun _ _ _ h => h) (Or.inl ⟨by rfl, ?_⟩) (by assumption) ?_
  rotate_left
  · intro w hSw
    (try dsimp only at hSw)
    go_simp
    (try with_reducible rfl)
  (try simp only [Act.put, List.setIfInBounds_toArray, List.set_cons_zero, List.set_cons_succ])
  refine wpAnyH_take (i := 1) (oi := { dst := some 75, op := Op.binOp BinOp.eql 26 (Operand.tmp 74) (Operand.const Value.nilIface) 26, type := 4, pos := "law.go:48", after := #[{ on := 0, ground := Ground.data }], guard := none }) (v := ?_) rfl (by kernel_rfl) (by kernel_rfl) (by kernel_rfl) (fun _ _ _ h => h) (Or.inl ⟨by rfl, ?_⟩) (by assumption) ?_
  rotate_left
  · intro w hSw
    (try dsimp only at hSw)
    go_simp
    (try with_reducible rfl)
  (try simp only [Act.put, List.setIfInBounds_toArray, List.set_cons_zero, List.set_cons_succ])
  refine wpAnyH_take (i := 2) (oi := { dst := some 76, op := Op.indexAddr 53 (Operand.tmp 4) (Operand.const (Value.int IntKind.i64 0)), type := 0, pos := "law.go:48", after := #[], guard := none }) (v := ?_) rfl (by kernel_rfl) (by kernel_rfl) (by kernel_rfl) (fun _ _ _ h => h) (Or.inl ⟨by rfl, ?_⟩) (by assumption) ?_
  rotate_left
  · intro w hSw
    (try dsimp only at hSw)
    go_simp
    (try with_reducible rfl)
  (try simp only [Act.put, List.setIfInBounds_toArray, List.set_cons_zero, List.set_cons_succ])
  refine wpAnyH_take (i := 3) (oi := { dst := some 77, op := Op.load 3 (Operand.tmp 76), type := 3, pos := "law.go:48", after := #[{ on := 2, ground := Ground.data }], guard := none }) (v := ?_) rfl (by kernel_rfl) (by kernel_rfl) (by kernel_rfl) (fun _ _ _ h => h) (Or.inl ⟨by rfl, ?_⟩) (by assumption) ?_
  rotate_left
  · intro w hSw
    (try dsimp only at hSw)
    go_simp
    (try with_reducible rfl)
  (try simp only [Act.put, List.setIfInBounds_toArray, List.set_cons_zero, List.set_cons_succ])
  refine wpAnyH_take (i := 4) (oi := { dst := some 78, op := Op.indexAddr 53 (Operand.tmp 4) (Operand.const (Value.int IntKind.i64 1)), type := 0, pos := "law.go:48", after := #[], guard := none }) (v := ?_) rfl (by kernel_rfl) (by kernel_rfl) (by kernel_rfl) (fun _ _ _ h => h) (Or.inl ⟨by rfl, ?_⟩) (by assumption) ?_
  rotate_left
  · intro w hSw
    (try dsimp only at hSw)
    go_simp
    (try with_reducible rfl)
  (try simp only [Act.put, List.setIfInBounds_toArray, List.set_cons_zero, List.set_cons_succ])
  refine wpAnyH_take (i := 5) (oi := { dst := some 79, op := Op.load 3 (Operand.tmp 78), type := 3, pos := "law.go:48", after := #[{ on := 4, ground := Ground.data }], guard := none }) (v := ?_) rfl (by kernel_rfl) (by kernel_rfl) (by kernel_rfl) (fun _ _ _ h => h) (Or.inl ⟨by rfl, ?_⟩) (by assumption) ?_
  rotate_left
  · intro w hSw
    (try dsimp only at hSw)
    go_simp
    (try with_reducible rfl)
  (try simp only [Act.put, List.setIfInBounds_toArray, List.set_cons_zero, List.set_cons_succ])
  refine wpAnyH_take (i := 6) (oi := { dst := some 80, op := Op.build 52 #[(0, Operand.tmp 77), (1, Operand.tmp 79)], type := 52, pos := "law.go:48", after := #[{ on := 3, ground := Ground.data }, { on := 5, ground := Ground.data }], guard := none }) (v := ?_) rfl (by kernel_rfl) (by kernel_rfl) (by kernel_rfl) (fun _ _ _ h => h) (Or.inl ⟨by rfl, ?_⟩) (by assumption) ?_
  rotate_left
  · intro w hSw
    (try dsimp only at hSw)
    go_simp
    (try with_reducible rfl)
  (try simp only [Act.put, List.setIfInBounds_toArray, List.set_cons_zero, List.set_cons_succ])
  refine wpAnyH_ready (rs := [7]) (by kernel_rfl) (by simp) ?_
  refine AllReadyH.cons (o := { dst := some 81, op := Op.call { callee := Callee.value (Operand.func 36), args := #[Operand.tmp 80], argTypes := #[52] }, type := 4, pos := "law.go:48", after := #[{ on := 6, ground := Ground.data }], guard := none }) rfl (fun K hK => ?_) AllReadyH.nil
  go_simp
  (refine (may_ok a b 0 _ HO.out).mono ?_; rintro e w8 ⟨rfl, hb8⟩; have K8 := KK.step (KK.drew K7) hb8; clear hb8; have v0 : w8.cell? ⟨w.heap.size + 1, 0, none⟩ = some (.int .i64 a) := K8.2.1.cell 6 0 rfl rfl; have v1 : w8.cell? ⟨w.heap.size + 1, 1, none⟩ = some (.int .i64 b) := K8.2.1.cell 6 1 rfl rfl; have v2 : w8.cell? ⟨w7.heap.size, 0, none⟩ = some (.int .i64 a) := K8.2.1.cell 0 0 rfl rfl; have v3 : w8.cell? ⟨w7.heap.size, 1, none⟩ = some (.int .i64 b) := K8.2.1.cell 0 1 rfl rfl; have v4 : w8.cell? ⟨w7.heap.size, 2, none⟩ = some (.int .u32 1) := K8.2.1.cell 0 2 rfl rfl; skip)
  (try go_wp2_with fail)
  refine hK.out _ _ ?_ (fun hHeld => ?_)
  · (try dsimp only)
    go_keep
  clear hK K
  (try simp only [Act.put, List.setIfInBounds_toArray, List.set_cons_zero, List.set_cons_succ])
  refine wpAnyH_take (i := 8) (oi := { dst := some 82, op := Op.binOp BinOp.neq 4 (Operand.tmp 75) (Operand.tmp 81) 4, type := 4, pos := "law.go:48", after := #[{ on := 1, ground := Ground.data }, { on := 7, ground := Ground.data }], guard := none }) (v := ?_) rfl (by kernel_rfl) (by kernel_rfl) (by kernel_rfl) (fun _ _ _ h => h) (Or.inl ⟨by rfl, ?_⟩) (by assumption) ?_
  rotate_left
  · intro w hSw
    (try dsimp only at hSw)
    go_simp
    (try with_reducible rfl)
  (try simp only [Act.put, List.setIfInBounds_toArray, List.set_cons_zero, List.set_cons_succ])
  refine wpAnyH_take (i := 9) (oi := { dst := some 83, op := Op.move (Operand.tmp 82), type := 4, pos := "law.go:48", after := #[{ on := 8, ground := Ground.data }, { on := 7, ground := Ground.chain }], guard := none }) (v := ?_) rfl (by kernel_rfl) (by kernel_rfl) (by kernel_rfl) (fun _ _ _ h => h) (Or.inl ⟨by rfl, ?_⟩) (by assumption) ?_
  rotate_left
  · intro w hSw
    (try dsimp only at hSw)
    go_simp
    (try with_reducible rfl)
  (try simp only [Act.put, List.setIfInBounds_toArray, List.set_cons_zero, List.set_cons_succ])
  refine wpAnyH_take (i := 10) (oi := { dst := some 84, op := Op.move (Operand.tmp 21), type := 26, pos := "law.go:48", after := #[{ on := 9, ground := Ground.guard }], guard := some (9, false) }) (v := ?_) rfl (by kernel_rfl) (by kernel_rfl) (by kernel_rfl) (fun _ _ _ h => h) (Or.inl ⟨by rfl, ?_⟩) (by assumption) ?_
  rotate_left
  · intro w hSw
    (try dsimp only at hSw)
    go_simp
    (try with_reducible rfl)
  (try simp only [Act.put, List.setIfInBounds_toArray, List.set_cons_zero, List.set_cons_succ])
  refine wpAnyH_take (i := 11) (oi := { dst := some 85, op := Op.binOp BinOp.eql 26 (Operand.tmp 84) (Operand.const Value.nilIface) 26, type := 4, pos := "law.go:48", after := #[{ on := 10, ground := Ground.data }, { on := 9, ground := Ground.guard }], guard := some (9, false) }) (v := ?_) rfl (by kernel_rfl) (by kernel_rfl) (by kernel_rfl) (fun _ _ _ h => h) (Or.inl ⟨by rfl, ?_⟩) (by assumption) ?_
  rotate_left
  · intro w hSw
    (try dsimp only at hSw)
    go_simp
    (try with_reducible rfl)
  (try simp only [Act.put, List.setIfInBounds_toArray, List.set_cons_zero, List.set_cons_succ])
  refine wpAnyH_take (i := 12) (oi := { dst := some 86, op := Op.move (Operand.tmp 85), type := 4, pos := "law.go:48", after := #[{ on := 11, ground := Ground.data }, { on := 9, ground := Ground.chain }, { on := 9, ground := Ground.guard }], guard := some (9, false) }) (v := ?_) rfl (by kernel_rfl) (by kernel_rfl) (by kernel_rfl) (fun _ _ _ h => h) (Or.inl ⟨by rfl, ?_⟩) (by assumption) ?_
  rotate_left
  · intro w hSw
    (try dsimp only at hSw)
    go_simp
    (try with_reducible rfl)
  (try simp only [Act.put, List.setIfInBounds_toArray, List.set_cons_zero, List.set_cons_succ])
  refine wpAnyH_take (i := 13) (oi := { dst := some 87, op := Op.fieldAddr 56 (Operand.tmp 20) 0, type := 0, pos := "law.go:48", after := #[{ on := 12, ground := Ground.guard }], guard := some (12, true) }) (v := ?_) rfl (by kernel_rfl) (by kernel_rfl) (by kernel_rfl) (fun _ _ _ h => h) (Or.inl ⟨by rfl, ?_⟩) (by assumption) ?_
  rotate_left
  · intro w hSw
    (try dsimp only at hSw)
    go_simp
    (try with_reducible rfl)
  (try simp only [Act.put, List.setIfInBounds_toArray, List.set_cons_zero, List.set_cons_succ])
  refine wpAnyH_take (i := 14) (oi := { dst := some 88, op := Op.load 54 (Operand.tmp 87), type := 54, pos := "law.go:48", after := #[{ on := 13, ground := Ground.data }, { on := 12, ground := Ground.guard }], guard := some (12, true) }) (v := ?_) rfl (by kernel_rfl) (by kernel_rfl) (by kernel_rfl) (fun _ _ _ h => h) (Or.inl ⟨by rfl, ?_⟩) (by assumption) ?_
  rotate_left
  · intro w hSw
    (try dsimp only at hSw)
    go_simp
    (try with_reducible rfl)
  (try simp only [Act.put, List.setIfInBounds_toArray, List.set_cons_zero, List.set_cons_succ])
  refine wpAnyH_take (i := 15) (oi := { dst := some 89, op := Op.indexAddr 53 (Operand.tmp 4) (Operand.const (Value.int IntKind.i64 0)), type := 0, pos := "law.go:48", after := #[{ on := 12, ground := Ground.guard }], guard := some (12, true) }) (v := ?_) rfl (by kernel_rfl) (by kernel_rfl) (by kernel_rfl) (fun _ _ _ h => h) (Or.inl ⟨by rfl, ?_⟩) (by assumption) ?_
  rotate_left
  · intro w hSw
    (try dsimp only at hSw)
    go_simp
    (try with_reducible rfl)
  (try simp only [Act.put, List.setIfInBounds_toArray, List.set_cons_zero, List.set_cons_succ])
  refine wpAnyH_take (i := 16) (oi := { dst := some 90, op := Op.load 3 (Operand.tmp 89), type := 3, pos := "law.go:48", after := #[{ on := 15, ground := Ground.data }, { on := 12, ground := Ground.guard }], guard := some (12, true) }) (v := ?_) rfl (by kernel_rfl) (by kernel_rfl) (by kernel_rfl) (fun _ _ _ h => h) (Or.inl ⟨by rfl, ?_⟩) (by assumption) ?_
  rotate_left
  · intro w hSw
    (try dsimp only at hSw)
    go_simp
    (try with_reducible rfl)
  (try simp only [Act.put, List.setIfInBounds_toArray, List.set_cons_zero, List.set_cons_succ])
  refine wpAnyH_take (i := 17) (oi := { dst := some 91, op := Op.indexAddr 53 (Operand.tmp 4) (Operand.const (Value.int IntKind.i64 1)), type := 0, pos := "law.go:48", after := #[{ on := 12, ground := Ground.guard }], guard := some (12, true) }) (v := ?_) rfl (by kernel_rfl) (by kernel_rfl) (by kernel_rfl) (fun _ _ _ h => h) (Or.inl ⟨by rfl, ?_⟩) (by assumption) ?_
  rotate_left
  · intro w hSw
    (try dsimp only at hSw)
    go_simp
    (try with_reducible rfl)
  (try simp only [Act.put, List.setIfInBounds_toArray, List.set_cons_zero, List.set_cons_succ])
  refine wpAnyH_take (i := 18) (oi := { dst := some 92, op := Op.load 3 (Operand.tmp 91), type := 3, pos := "law.go:48", after := #[{ on := 17, ground := Ground.data }, { on := 12, ground := Ground.guard }], guard := some (12, true) }) (v := ?_) rfl (by kernel_rfl) (by kernel_rfl) (by kernel_rfl) (fun _ _ _ h => h) (Or.inl ⟨by rfl, ?_⟩) (by assumption) ?_
  rotate_left
  · intro w hSw
    (try dsimp only at hSw)
    go_simp
    (try with_reducible rfl)
  (try simp only [Act.put, List.setIfInBounds_toArray, List.set_cons_zero, List.set_cons_succ])
  refine wpAnyH_take (i := 19) (oi := { dst := some 93, op := Op.build 54 #[(0, Operand.tmp 90), (1, Operand.tmp 92), (2, Operand.const (Value.int IntKind.u32 1))], type := 54, pos := "law.go:48", after := #[{ on := 16, ground := Ground.data }, { on := 18, ground := Ground.data }, { on := 12, ground := Ground.guard }], guard := some (12, true) }) (v := ?_) rfl (by kernel_rfl) (by kernel_rfl) (by kernel_rfl) (fun _ _ _ h => h) (Or.inl ⟨by rfl, ?_⟩) (by assumption) ?_
  rotate_left
  · intro w hSw
    (try dsimp only at hSw)
    go_simp
    (try with_reducible rfl)
  (try simp only [Act.put, List.setIfInBounds_toArray, List.set_cons_zero, List.set_cons_succ])
  refine wpAnyH_take (i := 20) (oi := { dst := some 94, op := Op.binOp BinOp.neq 54 (Operand.tmp 88) (Operand.tmp 93) 54, type := 4, pos := "law.go:48", after := #[{ on := 14, ground := Ground.data }, { on := 19, ground := Ground.data }, { on := 12, ground := Ground.guard }], guard := some (12, true) }) (v := ?_) rfl (by kernel_rfl) (by kernel_rfl) (by kernel_rfl) (fun _ _ _ h => h) (Or.inl ⟨by rfl, ?_⟩) (by assumption) ?_
  rotate_left
  · intro w hSw
    (try dsimp only at hSw)
    go_simp
    (try with_reducible rfl)
  (try simp only [Act.put, List.setIfInBounds_toArray, List.set_cons_zero, List.set_cons_succ])
  refine wpAnyH_take (i := 21) (oi := { dst := some 95, op := Op.pick (Operand.tmp 86) (Operand.tmp 94) (Operand.const (Value.bool false)), type := 4, pos := "law.go:48", after := #[{ on := 12, ground := Ground.data }, { on := 20, ground := Ground.data }, { on := 9, ground := Ground.guard }], guard := some (9, false) }) (v := ?_) rfl (by kernel_rfl) (by kernel_rfl) (by kernel_rfl) (fun _ _ _ h => h) (Or.inl ⟨by rfl, ?_⟩) (by assumption) ?_
  rotate_left
  · intro w hSw
    (try dsimp only at hSw)
    go_simp
    (try with_reducible rfl)
  (try simp only [Act.put, List.setIfInBounds_toArray, List.set_cons_zero, List.set_cons_succ])
  refine wpAnyH_take (i := 22) (oi := { dst := some 96, op := Op.pick (Operand.tmp 83) (Operand.const (Value.bool true)) (Operand.tmp 95), type := 4, pos := "law.go:48", after := #[{ on := 9, ground := Ground.data }, { on := 21, ground := Ground.data }], guard := none }) (v := ?_) rfl (by kernel_rfl) (by kernel_rfl) (by kernel_rfl) (fun _ _ _ h => h) (Or.inl ⟨by rfl, ?_⟩) (by assumption) ?_
  rotate_left
  · intro w hSw
    (try dsimp only at hSw)
    go_simp
    (try with_reducible rfl)
  (try simp only [Act.put, List.setIfInBounds_toArray, List.set_cons_zero, List.set_cons_succ])
  refine wpAnyH_take (i := 23) (oi := { dst := some 97, op := Op.move (Operand.tmp 96), type := 4, pos := "law.go:48", after := #[{ on := 22, ground := Ground.data }, { on := 12, ground := Ground.chain }], guard := none }) (v := ?_) rfl (by kernel_rfl) (by kernel_rfl) (by kernel_rfl) (fun _ _ _ h => h) (Or.inl ⟨by rfl, ?_⟩) (by assumption) ?_
  rotate_left
  · intro w hSw
    (try dsimp only at hSw)
    go_simp
    (try with_reducible rfl)
  (try simp only [Act.put, List.setIfInBounds_toArray, List.set_cons_zero, List.set_cons_succ])
  refine wpAnyH_take (i := 24) (oi := { dst := some 98, op := Op.move (Operand.tmp 21), type := 26, pos := "law.go:48", after := #[{ on := 23, ground := Ground.guard }], guard := some (23, false) }) (v := ?_) rfl (by kernel_rfl) (by kernel_rfl) (by kernel_rfl) (fun _ _ _ h => h) (Or.inl ⟨by rfl, ?_⟩) (by assumption) ?_
  rotate_left
  · intro w hSw
    (try dsimp only at hSw)
    go_simp
    (try with_reducible rfl)
  (try simp only [Act.put, List.setIfInBounds_toArray, List.set_cons_zero, List.set_cons_succ])
  refine wpAnyH_take (i := 25) (oi := { dst := some 99, op := Op.binOp BinOp.neq 26 (Operand.tmp 98) (Operand.const Value.nilIface) 26, type := 4, pos := "law.go:48", after := #[{ on := 24, ground := Ground.data }, { on := 23, ground := Ground.guard }], guard := some (23, false) }) (v := ?_) rfl (by kernel_rfl) (by kernel_rfl) (by kernel_rfl) (fun _ _ _ h => h) (Or.inl ⟨by rfl, ?_⟩) (by assumption) ?_
  rotate_left
  · intro w hSw
    (try dsimp only at hSw)
    go_simp
    (try with_reducible rfl)
  (try simp only [Act.put, List.setIfInBounds_toArray, List.set_cons_zero, List.set_cons_succ])
  refine wpAnyH_take (i := 26) (oi := { dst := some 100, op := Op.move (Operand.tmp 99), type := 4, pos := "law.go:48", after := #[{ on := 25, ground := Ground.data }, { on := 23, ground := Ground.chain }, { on := 23, ground := Ground.guard }], guard := some (23, false) }) (v := ?_) rfl (by kernel_rfl) (by kernel_rfl) (by kernel_rfl) (fun _ _ _ h => h) (Or.inl ⟨by rfl, ?_⟩) (by assumption) ?_
  rotate_left
  · intro w hSw
    (try dsimp only at hSw)
    go_simp
    (try with_reducible rfl)
  (try simp only [Act.put, List.setIfInBounds_toArray, List.set_cons_zero, List.set_cons_succ])
  refine wpAnyH_take (i := 27) (oi := { dst := some 101, op := Op.move (Operand.tmp 21), type := 26, pos := "law.go:48", after := #[{ on := 26, ground := Ground.guard }], guard := some (26, true) }) (v := undef) rfl (by kernel_rfl) (by kernel_rfl) (by kernel_rfl) (fun _ _ _ h => h) (Or.inr ⟨by rfl, rfl⟩) (by assumption) ?_
  (try simp only [Act.put, List.setIfInBounds_toArray, List.set_cons_zero, List.set_cons_succ])
  refine wpAnyH_take (i := 28) (oi := { dst := some 102, op := Op.call { callee := Callee.value (Operand.func 37), args := #[Operand.tmp 101], argTypes := #[26] }, type := 3, pos := "law.go:48", after := #[{ on := 27, ground := Ground.data }, { on := 26, ground := Ground.chain }, { on := 26, ground := Ground.guard }], guard := some (26, true) }) (v := undef) rfl (by kernel_rfl) (by kernel_rfl) (by kernel_rfl) (fun _ _ _ h => h) (Or.inr ⟨by rfl, rfl⟩) (by assumption) ?_
  (try simp only [Act.put, List.setIfInBounds_toArray, List.set_cons_zero, List.set_cons_succ])
  refine wpAnyH_take (i := 29) (oi := { dst := some 103, op := Op.binOp BinOp.neq 3 (Operand.tmp 102) (Operand.const (Value.int IntKind.i64 1)) 3, type := 4, pos := "law.go:48", after := #[{ on := 28, ground := Ground.data }, { on := 26, ground := Ground.guard }], guard := some (26, true) }) (v := undef) rfl (by kernel_rfl) (by kernel_rfl) (by kernel_rfl) (fun _ _ _ h => h) (Or.inr ⟨by rfl, rfl⟩) (by assumption) ?_
  (try simp only [Act.put, List.setIfInBounds_toArray, List.set_cons_zero, List.set_cons_succ])
  refine wpAnyH_take (i := 30) (oi := { dst := some 104, op := Op.move (Operand.tmp 103), type := 4, pos := "law.go:48", after := #[{ on := 29, ground := Ground.data }, { on := 28, ground := Ground.chain }, { on := 26, ground := Ground.guard }], guard := some (26, true) }) (v := undef) rfl (by kernel_rfl) (by kernel_rfl) (by kernel_rfl) (fun _ _ _ h => h) (Or.inr ⟨by rfl, rfl⟩) (by assumption) ?_
  (try simp only [Act.put, List.setIfInBounds_toArray, List.set_cons_zero, List.set_cons_succ])
  refine wpAnyH_take (i := 31) (oi := { dst := some 105, op := Op.load 56 (Operand.tmp 20), type := 56, pos := "law.go:48", after := #[{ on := 30, ground := Ground.guard }], guard := some (30, false) }) (v := undef) rfl (by kernel_rfl) (by kernel_rfl) (by kernel_rfl) (fun _ _ _ h => h) (Or.inr ⟨by rfl, rfl⟩) (by assumption) ?_
  (try simp only [Act.put, List.setIfInBounds_toArray, List.set_cons_zero, List.set_cons_succ])
  refine wpAnyH_take (i := 32) (oi := { dst := some 106, op := Op.build 56 #[], type := 56, pos := "law.go:48", after := #[{ on := 30, ground := Ground.guard }], guard := some (30, false) }) (v := undef) rfl (by kernel_rfl) (by kernel_rfl) (by kernel_rfl) (fun _ _ _ h => h) (Or.inr ⟨by rfl, rfl⟩) (by assumption) ?_
  (try simp only [Act.put, List.setIfInBounds_toArray, List.set_cons_zero, List.set_cons_succ])
  refine wpAnyH_take (i := 33) (oi := { dst := some 107, op := Op.binOp BinOp.neq 56 (Operand.tmp 105) (Operand.tmp 106) 56, type := 4, pos := "law.go:48", after := #[{ on := 31, ground := Ground.data }, { on := 32, ground := Ground.data }, { on := 30, ground := Ground.guard }], guard := some (30, false) }) (v := undef) rfl (by kernel_rfl) (by kernel_rfl) (by kernel_rfl) (fun _ _ _ h => h) (Or.inr ⟨by rfl, rfl⟩) (by assumption) ?_
  (try simp only [Act.put, List.setIfInBounds_toArray, List.set_cons_zero, List.set_cons_succ])
  refine wpAnyH_take (i := 34) (oi := { dst := some 108, op := Op.pick (Operand.tmp 104) (Operand.const (Value.bool true)) (Operand.tmp 107), type := 4, pos := "law.go:48", after := #[{ on := 30, ground := Ground.data }, { on := 33, ground := Ground.data }, { on := 26, ground := Ground.guard }], guard := some (26, true) }) (v := undef) rfl (by kernel_rfl) (by kernel_rfl) (by kernel_rfl) (fun _ _ _ h => h) (Or.inr ⟨by rfl, rfl⟩) (by assumption) ?_
  (try simp only [Act.put, List.setIfInBounds_toArray, List.set_cons_zero, List.set_cons_succ])
  refine wpAnyH_take (i := 35) (oi := { dst := some 109, op := Op.pick (Operand.tmp 100) (Operand.tmp 108) (Operand.const (Value.bool false)), type := 4, pos := "law.go:48", after := #[{ on := 26, ground := Ground.data }, { on := 34, ground := Ground.data }, { on := 23, ground := Ground.guard }], guard := some (23, false) }) (v := ?_) rfl (by kernel_rfl) (by kernel_rfl) (by kernel_rfl) (fun _ _ _ h => h) (Or.inl ⟨by rfl, ?_⟩) (by assumption) ?_
  rotate_left
  · intro w hSw
    (try dsimp only at hSw)
    go_simp
    (try with_reducible rfl)
  (try simp only [Act.put, List.setIfInBounds_toArray, List.set_cons_zero, List.set_cons_succ])
  refine wpAnyH_take (i := 36) (oi := { dst := some 110, op := Op.pick (Operand.tmp 97) (Operand.const (Value.bool true)) (Operand.tmp 109), type := 4, pos := "law.go:48", after := #[{ on := 23, ground := Ground.data }, { on := 35, ground := Ground.data }], guard := none }) (v := ?_) rfl (by kernel_rfl) (by kernel_rfl) (by kernel_rfl) (fun _ _ _ h => h) (Or.inl ⟨by rfl, ?_⟩) (by assumption) ?_
  rotate_left
  · intro w hSw
    (try dsimp only at hSw)
    go_simp
    (try with_reducible rfl)
  (try simp only [Act.put, List.setIfInBounds_toArray, List.set_cons_zero, List.set_cons_succ])
  refine wpAnyH_done (by kernel_rfl) ?_ _
  clear u60 u61 u00 u01 u02 K7
  clear v0 v1 v2 v3 v4
  have Kd := KK.drew K8
  have gx := Kd.2.2.1.conv
  have gy := Kd.2.2.2.conv
  have gc0 : w8.cell? ⟨w3.heap.size, 0, none⟩ = some (.int .i64 x1) := K8.2.1.cell 4 0 rfl rfl
  have gc1 : w8.cell? ⟨w3.heap.size, 1, none⟩ = some (.int .i64 x2) := K8.2.1.cell 4 1 rfl rfl
  have gc2 : w8.cell? ⟨w3.heap.size, 2, none⟩ = some (.int .u32 x3) := K8.2.1.cell 4 2 rfl rfl
  have gc3 : w8.cell? ⟨w4.heap.size, 0, none⟩ = some (.int .i64 x1) := K8.2.1.cell 3 0 rfl rfl
  have gc4 : w8.cell? ⟨w4.heap.size, 1, none⟩ = some (.int .i64 x2) := K8.2.1.cell 3 1 rfl rfl
  have gc5 : w8.cell? ⟨w4.heap.size, 2, none⟩ = some (.int .u32 x3) := K8.2.1.cell 3 2 rfl rfl
  have gc6 : w8.cell? ⟨w5.heap.size, 0, none⟩ = some (.int .i64 y1) := K8.2.1.cell 2 0 rfl rfl
  have gc7 : w8.cell? ⟨w5.heap.size, 1, none⟩ = some (.int .i64 y2) := K8.2.1.cell 2 1 rfl rfl
  have gc8 : w8.cell? ⟨w5.heap.size, 2, none⟩ = some (.int .u32 y3) := K8.2.1.cell 2 2 rfl rfl
  have gc9 : w8.cell? ⟨w6.heap.size, 0, none⟩ = some (.int .i64 y1) := K8.2.1.cell 1 0 rfl rfl
  have gc10 : w8.cell? ⟨w6.heap.size, 1, none⟩ = some (.int .i64 y2) := K8.2.1.cell 1 1 rfl rfl
  have gc11 : w8.cell? ⟨w6.heap.size, 2, none⟩ = some (.int .u32 y3) := K8.2.1.cell 1 2 rfl rfl
  have gc12 : w8.cell? ⟨w.heap.size + 1 + 1, 0, none⟩ = some (.int .i64 k) := K8.2.1.cell 5 0 rfl rfl
  have gc13 : w8.cell? ⟨w.heap.size + 1 + 1, 1, none⟩ = some (.int .i64 n) := K8.2.1.cell 5 1 rfl rfl
  have gc14 : w8.cell? ⟨w.heap.size + 1 + 1, 2, none⟩ = some (.int .u32 g) := K8.2.1.cell 5 2 rfl rfl
  have gc15 : w8.cell? ⟨w.heap.size, 0, none⟩ = some (.int .i64 k) := K8.2.1.cell 7 0 rfl rfl
  have gc16 : w8.cell? ⟨w.heap.size, 1, none⟩ = some (.int .i64 n) := K8.2.1.cell 7 1 rfl rfl
  have gc17 : w8.cell? ⟨w.heap.size, 2, none⟩ = some (.int .u32 g) := K8.2.1.cell 7 2 rfl rfl
  clear K8
  go_wp2_with fail
  refine wp_region_held_drew (S := (fun w' => KK w [(w7.heap.size, #[.int .i64 a, .int .i64 b, .int .u32 1], 56), (w6.heap.size, #[.int .i64 y1, .int .i64 y2, .int .u32 y3], 52), (w5.heap.size, #[.int .i64 y1, .int .i64 y2, .int .u32 y3], 56), (w4.heap.size, #[.int .i64 x1, .int .i64 x2, .int .u32 x3], 52), (w3.heap.size, #[.int .i64 x1, .int .i64 x2, .int .u32 x3], 56), (w.heap.size + 1 + 1, #[.int .i64 k, .int .i64 n, .int .u32 g], 56), (w.heap.size + 1, #[.int .i64 a, .int .i64 b], 53), (w.heap.size, #[.int .i64 k, .int .i64 n, .int .u32 g], 52)] x y s w' ∧ (convert 31 9 x).run Tryd.prog w' = .ok (.string s) w' ∧ (convert 31 9 y).run Tryd.prog w' = .ok (.string s) w' ∧ w'.cell? ⟨w3.heap.size, 0, none⟩ = some (.int .i64 x1) ∧ w'.cell? ⟨w3.heap.size, 1, none⟩ = some (.int .i64 x2) ∧ w'.cell? ⟨w3.heap.size, 2, none⟩ = some (.int .u32 x3) ∧ w'.cell? ⟨w4.heap.size, 0, none⟩ = some (.int .i64 x1) ∧ w'.cell? ⟨w4.heap.size, 1, none⟩ = some (.int .i64 x2) ∧ w'.cell? ⟨w4.heap.size, 2, none⟩ = some (.int .u32 x3) ∧ w'.cell? ⟨w5.heap.size, 0, none⟩ = some (.int .i64 y1) ∧ w'.cell? ⟨w5.heap.size, 1, none⟩ = some (.int .i64 y2) ∧ w'.cell? ⟨w5.heap.size, 2, none⟩ = some (.int .u32 y3) ∧ w'.cell? ⟨w6.heap.size, 0, none⟩ = some (.int .i64 y1) ∧ w'.cell? ⟨w6.heap.size, 1, none⟩ = some (.int .i64 y2) ∧ w'.cell? ⟨w6.heap.size, 2, none⟩ = some (.int .u32 y3) ∧ w'.cell? ⟨w.heap.size + 1 + 1, 0, none⟩ = some (.int .i64 k) ∧ w'.cell? ⟨w.heap.size + 1 + 1, 1, none⟩ = some (.int .i64 n) ∧ w'.cell? ⟨w.heap.size + 1 + 1, 2, none⟩ = some (.int .u32 g) ∧ w'.cell? ⟨w.heap.size, 0, none⟩ = some (.int .i64 k) ∧ w'.cell? ⟨w.heap.size, 1, none⟩ = some (.int .i64 n) ∧ w'.cell? ⟨w.heap.size, 2, none⟩ = some (.int .u32 g))) (by kernel_rfl) ?_ (fun hHeld => ?_)
  · (try dsimp only)
    go_keep
  refine wpAnyH_take (i := 0) (oi := { dst := some 111, op := Op.move (Operand.tmp 8), type := 31, pos := "law.go:51", after := #[], guard := none }) (v := ?_) rfl (by kernel_rfl) (by kernel_rfl) (by kernel_rfl) (fun _ _ _ h => h) (Or.inl ⟨by rfl, ?_⟩) (by assumption) ?_
  rotate_left
  · intro w hSw
    (try dsimp only at hSw)
    go_simp
    (try with_reducible rfl)
  (try simp only [Act.put, List.setIfInBounds_toArray, List.set_cons_zero, List.set_cons_succ])
  refine wpAnyH_take (i := 1) (oi := { dst := some 112, op := Op.convert 31 9 (Operand.tmp 111), type := 9, pos := "law.go:51", after := #[{ on := 0, ground := Ground.data }], guard := none }) (v := ?_) rfl (by kernel_rfl) (by kernel_rfl) (by kernel_rfl) (fun _ _ _ h => h) (Or.inl ⟨by rfl, ?_⟩) (by assumption) ?_
  rotate_left
  · intro w hSw
    (try dsimp only at hSw)
    go_simp
    (try with_reducible rfl)
  (try simp only [Act.put, List.setIfInBounds_toArray, List.set_cons_zero, List.set_cons_succ])
  refine wpAnyH_take (i := 2) (oi := { dst := some 113, op := Op.move (Operand.tmp 10), type := 31, pos := "law.go:51", after := #[], guard := none }) (v := ?_) rfl (by kernel_rfl) (by kernel_rfl) (by kernel_rfl) (fun _ _ _ h => h) (Or.inl ⟨by rfl, ?_⟩) (by assumption) ?_
  rotate_left
  · intro w hSw
    (try dsimp only at hSw)
    go_simp
    (try with_reducible rfl)
  (try simp only [Act.put, List.setIfInBounds_toArray, List.set_cons_zero, List.set_cons_succ])
  refine wpAnyH_take (i := 3) (oi := { dst := some 114, op := Op.convert 31 9 (Operand.tmp 113), type := 9, pos := "law.go:51", after := #[{ on := 2, ground := Ground.data }], guard := none }) (v := ?_) rfl (by kernel_rfl) (by kernel_rfl) (by kernel_rfl) (fun _ _ _ h => h) (Or.inl ⟨by rfl, ?_⟩) (by assumption) ?_
  rotate_left
  · intro w hSw
    (try dsimp only at hSw)
    go_simp
    (try with_reducible rfl)
  (try simp only [Act.put, List.setIfInBounds_toArray, List.set_cons_zero, List.set_cons_succ])
  refine wpAnyH_take (i := 4) (oi := { dst := some 115, op := Op.binOp BinOp.eql 9 (Operand.tmp 112) (Operand.tmp 114) 9, type := 4, pos := "law.go:51", after := #[{ on := 1, ground := Ground.data }, { on := 3, ground := Ground.data }], guard := none }) (v := ?_) rfl (by kernel_rfl) (by kernel_rfl) (by kernel_rfl) (fun _ _ _ h => h) (Or.inl ⟨by rfl, ?_⟩) (by assumption) ?_
  rotate_left
  · intro w hSw
    (try dsimp only at hSw)
    go_simp
    (try with_reducible rfl)
  (try simp only [Act.put, List.setIfInBounds_toArray, List.set_cons_zero, List.set_cons_succ])
  refine wpAnyH_take (i := 5) (oi := { dst := some 116, op := Op.move (Operand.tmp 115), type := 4, pos := "law.go:51", after := #[{ on := 4, ground := Ground.data }], guard := none }) (v := ?_) rfl (by kernel_rfl) (by kernel_rfl) (by kernel_rfl) (fun _ _ _ h => h) (Or.inl ⟨by rfl, ?_⟩) (by assumption) ?_
  rotate_left
  · intro w hSw
    (try dsimp only at hSw)
    go_simp
    (try with_reducible rfl)
  (try simp only [Act.put, List.setIfInBounds_toArray, List.set_cons_zero, List.set_cons_succ])
  refine wpAnyH_take (i := 6) (oi := { dst := some 117, op := Op.move (Operand.tmp 9), type := 26, pos := "law.go:51", after := #[{ on := 5, ground := Ground.guard }], guard := some (5, true) }) (v := ?_) rfl (by kernel_rfl) (by kernel_rfl) (by kernel_rfl) (fun _ _ _ h => h) (Or.inl ⟨by rfl, ?_⟩) (by assumption) ?_
  rotate_left
  · intro w hSw
    (try dsimp only at hSw)
    go_simp
    (try with_reducible rfl)
  (try simp only [Act.put, List.setIfInBounds_toArray, List.set_cons_zero, List.set_cons_succ])
  refine wpAnyH_take (i := 8) (oi := { dst := some 119, op := Op.move (Operand.tmp 11), type := 3, pos := "law.go:51", after := #[{ on := 5, ground := Ground.guard }], guard := some (5, true) }) (v := ?_) rfl (by kernel_rfl) (by kernel_rfl) (by kernel_rfl) (fun _ _ _ h => h) (Or.inl ⟨by rfl, ?_⟩) (by assumption) ?_
  rotate_left
  · intro w hSw
    (try dsimp only at hSw)
    go_simp
    (try with_reducible rfl)
  (try simp only [Act.put, List.setIfInBounds_toArray, List.set_cons_zero, List.set_cons_succ])
  refine wpAnyH_ready (rs := [7]) (by kernel_rfl) (by simp) ?_
  refine AllReadyH.cons (o := { dst := some 118, op := Op.call { callee := Callee.value (Operand.func 37), args := #[Operand.tmp 117], argTypes := #[26] }, type := 3, pos := "law.go:51", after := #[{ on := 6, ground := Ground.data }, { on := 5, ground := Ground.chain }, { on := 5, ground := Ground.guard }], guard := some (5, true) }) rfl (fun K hK => ?_) AllReadyH.nil
  go_simp
  (refine (KK.num Kd (by assumption)).mono ?_; rintro e wz7 ⟨rfl, Kz7⟩; clear Kd; clear gx gy gc0 gc1 gc2 gc3 gc4 gc5 gc6 gc7 gc8 gc9 gc10 gc11 gc12 gc13 gc14 gc15 gc16 gc17; have z7_x := Kz7.2.2.1.conv; have z7_y := Kz7.2.2.2.conv; have z7_c0 : wz7.cell? ⟨w3.heap.size, 0, none⟩ = some (.int .i64 x1) := Kz7.2.1.cell 4 0 rfl rfl; have z7_c1 : wz7.cell? ⟨w3.heap.size, 1, none⟩ = some (.int .i64 x2) := Kz7.2.1.cell 4 1 rfl rfl; have z7_c2 : wz7.cell? ⟨w3.heap.size, 2, none⟩ = some (.int .u32 x3) := Kz7.2.1.cell 4 2 rfl rfl; have z7_c3 : wz7.cell? ⟨w4.heap.size, 0, none⟩ = some (.int .i64 x1) := Kz7.2.1.cell 3 0 rfl rfl; have z7_c4 : wz7.cell? ⟨w4.heap.size, 1, none⟩ = some (.int .i64 x2) := Kz7.2.1.cell 3 1 rfl rfl; have z7_c5 : wz7.cell? ⟨w4.heap.size, 2, none⟩ = some (.int .u32 x3) := Kz7.2.1.cell 3 2 rfl rfl; have z7_c6 : wz7.cell? ⟨w5.heap.size, 0, none⟩ = some (.int .i64 y1) := Kz7.2.1.cell 2 0 rfl rfl; have z7_c7 : wz7.cell? ⟨w5.heap.size, 1, none⟩ = some (.int .i64 y2) := Kz7.2.1.cell 2 1 rfl rfl; have z7_c8 : wz7.cell? ⟨w5.heap.size, 2, none⟩ = some (.int .u32 y3) := Kz7.2.1.cell 2 2 rfl rfl; have z7_c9 : wz7.cell? ⟨w6.heap.size, 0, none⟩ = some (.int .i64 y1) := Kz7.2.1.cell 1 0 rfl rfl; have z7_c10 : wz7.cell? ⟨w6.heap.size, 1, none⟩ = some (.int .i64 y2) := Kz7.2.1.cell 1 1 rfl rfl; have z7_c11 : wz7.cell? ⟨w6.heap.size, 2, none⟩ = some (.int .u32 y3) := Kz7.2.1.cell 1 2 rfl rfl; have z7_c12 : wz7.cell? ⟨w.heap.size + 1 + 1, 0, none⟩ = some (.int .i64 k) := Kz7.2.1.cell 5 0 rfl rfl; have z7_c13 : wz7.cell? ⟨w.heap.size + 1 + 1, 1, none⟩ = some (.int .i64 n) := Kz7.2.1.cell 5 1 rfl rfl; have z7_c14 : wz7.cell? ⟨w.heap.size + 1 + 1, 2, none⟩ = some (.int .u32 g) := Kz7.2.1.cell 5 2 rfl rfl; have z7_c15 : wz7.cell? ⟨w.heap.size, 0, none⟩ = some (.int .i64 k) := Kz7.2.1.cell 7 0 rfl rfl; have z7_c16 : wz7.cell? ⟨w.heap.size, 1, none⟩ = some (.int .i64 n) := Kz7.2.1.cell 7 1 rfl rfl; have z7_c17 : wz7.cell? ⟨w.heap.size, 2, none⟩ = some (.int .u32 g) := Kz7.2.1.cell 7 2 rfl rfl; skip)
  (try go_wp2_with fail)
  refine hK.out _ _ ?_ (fun hHeld => ?_)
  · (try dsimp only)
    go_keep
  clear hK K
  (try simp only [Act.put, List.setIfInBounds_toArray, List.set_cons_zero, List.set_cons_succ])
  refine wpAnyH_take (i := 9) (oi := { dst := some 120, op := Op.binOp BinOp.eql 3 (Operand.tmp 118) (Operand.tmp 119) 3, type := 4, pos := "law.go:51", after := #[{ on := 7, ground := Ground.data }, { on := 8, ground := Ground.data }, { on := 5, ground := Ground.guard }], guard := some (5, true) }) (v := ?_) rfl (by kernel_rfl) (by kernel_rfl) (by kernel_rfl) (fun _ _ _ h => h) (Or.inl ⟨by rfl, ?_⟩) (by assumption) ?_
  rotate_left
  · intro w hSw
    (try dsimp only at hSw)
    go_simp
    (try with_reducible rfl)
  (try simp only [Act.put, List.setIfInBounds_toArray, List.set_cons_zero, List.set_cons_succ])
  refine wpAnyH_take (i := 10) (oi := { dst := some 121, op := Op.pick (Operand.tmp 116) (Operand.tmp 120) (Operand.const (Value.bool false)), type := 4, pos := "law.go:51", after := #[{ on := 5, ground := Ground.data }, { on := 9, ground := Ground.data }], guard := none }) (v := ?_) rfl (by kernel_rfl) (by kernel_rfl) (by kernel_rfl) (fun _ _ _ h => h) (Or.inl ⟨by rfl, ?_⟩) (by assumption) ?_
  rotate_left
  · intro w hSw
    (try dsimp only at hSw)
    go_simp
    (try with_reducible rfl)
  (try simp only [Act.put, List.setIfInBounds_toArray, List.set_cons_zero, List.set_cons_succ])
  refine wpAnyH_take (i := 11) (oi := { dst := some 122, op := Op.move (Operand.tmp 121), type := 4, pos := "law.go:51", after := #[{ on := 10, ground := Ground.data }, { on := 7, ground := Ground.chain }], guard := none }) (v := ?_) rfl (by kernel_rfl) (by kernel_rfl) (by kernel_rfl) (fun _ _ _ h => h) (Or.inl ⟨by rfl, ?_⟩) (by assumption) ?_
  rotate_left
  · intro w hSw
    (try dsimp only at hSw)
    go_simp
    (try with_reducible rfl)
  (try simp only [Act.put, List.setIfInBounds_toArray, List.set_cons_zero, List.set_cons_succ])
  refine wpAnyH_take (i := 12) (oi := { dst := some 123, op := Op.fieldAddr 56 (Operand.tmp 12) 0, type := 0, pos := "law.go:51", after := #[{ on := 11, ground := Ground.guard }], guard := some (11, true) }) (v := ?_) rfl (by kernel_rfl) (by kernel_rfl) (by kernel_rfl) (fun _ _ _ h => h) (Or.inl ⟨by rfl, ?_⟩) (by assumption) ?_
  rotate_left
  · intro w hSw
    (try dsimp only at hSw)
    go_simp
    (try with_reducible rfl)
  (try simp only [Act.put, List.setIfInBounds_toArray, List.set_cons_zero, List.set_cons_succ])
  refine wpAnyH_take (i := 13) (oi := { dst := some 124, op := Op.load 54 (Operand.tmp 123), type := 54, pos := "law.go:51", after := #[{ on := 12, ground := Ground.data }, { on := 11, ground := Ground.guard }], guard := some (11, true) }) (v := ?_) rfl (by kernel_rfl) (by kernel_rfl) (by kernel_rfl) (fun _ _ _ h => h) (Or.inl ⟨by rfl, ?_⟩) (by assumption) ?_
  rotate_left
  · intro w hSw
    (try dsimp only at hSw)
    go_simp
    (try with_reducible rfl)
  (try simp only [Act.put, List.setIfInBounds_toArray, List.set_cons_zero, List.set_cons_succ])
  refine wpAnyH_take (i := 14) (oi := { dst := some 125, op := Op.load 52 (Operand.tmp 14), type := 52, pos := "law.go:51", after := #[{ on := 11, ground := Ground.guard }], guard := some (11, true) }) (v := ?_) rfl (by kernel_rfl) (by kernel_rfl) (by kernel_rfl) (fun _ _ _ h => h) (Or.inl ⟨by rfl, ?_⟩) (by assumption) ?_
  rotate_left
  · intro w hSw
    (try dsimp only at hSw)
    go_simp
    (try with_reducible rfl)
  (try simp only [Act.put, List.setIfInBounds_toArray, List.set_cons_zero, List.set_cons_succ])
  refine wpAnyH_take (i := 15) (oi := { dst := some 126, op := Op.binOp BinOp.eql 54 (Operand.tmp 124) (Operand.tmp 125) 54, type := 4, pos := "law.go:51", after := #[{ on := 13, ground := Ground.data }, { on := 14, ground := Ground.data }, { on := 11, ground := Ground.guard }], guard := some (11, true) }) (v := ?_) rfl (by kernel_rfl) (by kernel_rfl) (by kernel_rfl) (fun _ _ _ h => h) (Or.inl ⟨by rfl, ?_⟩) (by assumption) ?_
  rotate_left
  · intro w hSw
    (try dsimp only at hSw)
    go_simp
    (try with_reducible rfl)
  (try simp only [Act.put, List.setIfInBounds_toArray, List.set_cons_zero, List.set_cons_succ])
  refine wpAnyH_take (i := 16) (oi := { dst := some 127, op := Op.pick (Operand.tmp 122) (Operand.tmp 126) (Operand.const (Value.bool false)), type := 4, pos := "law.go:51", after := #[{ on := 11, ground := Ground.data }, { on := 15, ground := Ground.data }], guard := none }) (v := ?_) rfl (by kernel_rfl) (by kernel_rfl) (by kernel_rfl) (fun _ _ _ h => h) (Or.inl ⟨by rfl, ?_⟩) (by assumption) ?_
  rotate_left
  · intro w hSw
    (try dsimp only at hSw)
    go_simp
    (try with_reducible rfl)
  (try simp only [Act.put, List.setIfInBounds_toArray, List.set_cons_zero, List.set_cons_succ])
  refine wpAnyH_take (i := 17) (oi := { dst := some 128, op := Op.move (Operand.tmp 127), type := 4, pos := "law.go:51", after := #[{ on := 16, ground := Ground.data }, { on := 11, ground := Ground.chain }], guard := none }) (v := ?_) rfl (by kernel_rfl) (by kernel_rfl) (by kernel_rfl) (fun _ _ _ h => h) (Or.inl ⟨by rfl, ?_⟩) (by assumption) ?_
  rotate_left
  · intro w hSw
    (try dsimp only at hSw)
    go_simp
    (try with_reducible rfl)
  (try simp only [Act.put, List.setIfInBounds_toArray, List.set_cons_zero, List.set_cons_succ])
  refine wpAnyH_take (i := 18) (oi := { dst := some 129, op := Op.move (Operand.tmp 13), type := 26, pos := "law.go:51", after := #[{ on := 17, ground := Ground.guard }], guard := some (17, true) }) (v := ?_) rfl (by kernel_rfl) (by kernel_rfl) (by kernel_rfl) (fun _ _ _ h => h) (Or.inl ⟨by rfl, ?_⟩) (by assumption) ?_
  rotate_left
  · intro w hSw
    (try dsimp only at hSw)
    go_simp
    (try with_reducible rfl)
  (try simp only [Act.put, List.setIfInBounds_toArray, List.set_cons_zero, List.set_cons_succ])
  refine wpAnyH_take (i := 20) (oi := { dst := some 131, op := Op.move (Operand.tmp 15), type := 3, pos := "law.go:51", after := #[{ on := 17, ground := Ground.guard }], guard := some (17, true) }) (v := ?_) rfl (by kernel_rfl) (by kernel_rfl) (by kernel_rfl) (fun _ _ _ h => h) (Or.inl ⟨by rfl, ?_⟩) (by assumption) ?_
  rotate_left
  · intro w hSw
    (try dsimp only at hSw)
    go_simp
    (try with_reducible rfl)
  (try simp only [Act.put, List.setIfInBounds_toArray, List.set_cons_zero, List.set_cons_succ])
  refine wpAnyH_ready (rs := [19]) (by kernel_rfl) (by simp) ?_
  refine AllReadyH.cons (o := { dst := some 130, op := Op.call { callee := Callee.value (Operand.func 37), args := #[Operand.tmp 129], argTypes := #[26] }, type := 3, pos := "law.go:51", after := #[{ on := 18, ground := Ground.data }, { on := 17, ground := Ground.chain }, { on := 17, ground := Ground.guard }], guard := some (17, true) }) rfl (fun K hK => ?_) AllReadyH.nil
  go_simp
  (refine (KK.num Kz7 (by assumption)).mono ?_; rintro e wz19 ⟨rfl, Kz19⟩; clear Kz7; clear z7_x z7_y z7_c0 z7_c1 z7_c2 z7_c3 z7_c4 z7_c5 z7_c6 z7_c7 z7_c8 z7_c9 z7_c10 z7_c11 z7_c12 z7_c13 z7_c14 z7_c15 z7_c16 z7_c17; have z19_x := Kz19.2.2.1.conv; have z19_y := Kz19.2.2.2.conv; have z19_c0 : wz19.cell? ⟨w3.heap.size, 0, none⟩ = some (.int .i64 x1) := Kz19.2.1.cell 4 0 rfl rfl; have z19_c1 : wz19.cell? ⟨w3.heap.size, 1, none⟩ = some (.int .i64 x2) := Kz19.2.1.cell 4 1 rfl rfl; have z19_c2 : wz19.cell? ⟨w3.heap.size, 2, none⟩ = some (.int .u32 x3) := Kz19.2.1.cell 4 2 rfl rfl; have z19_c3 : wz19.cell? ⟨w4.heap.size, 0, none⟩ = some (.int .i64 x1) := Kz19.2.1.cell 3 0 rfl rfl; have z19_c4 : wz19.cell? ⟨w4.heap.size, 1, none⟩ = some (.int .i64 x2) := Kz19.2.1.cell 3 1 rfl rfl; have z19_c5 : wz19.cell? ⟨w4.heap.size, 2, none⟩ = some (.int .u32 x3) := Kz19.2.1.cell 3 2 rfl rfl; have z19_c6 : wz19.cell? ⟨w5.heap.size, 0, none⟩ = some (.int .i64 y1) := Kz19.2.1.cell 2 0 rfl rfl; have z19_c7 : wz19.cell? ⟨w5.heap.size, 1, none⟩ = some (.int .i64 y2) := Kz19.2.1.cell 2 1 rfl rfl; have z19_c8 : wz19.cell? ⟨w5.heap.size, 2, none⟩ = some (.int .u32 y3) := Kz19.2.1.cell 2 2 rfl rfl; have z19_c9 : wz19.cell? ⟨w6.heap.size, 0, none⟩ = some (.int .i64 y1) := Kz19.2.1.cell 1 0 rfl rfl; have z19_c10 : wz19.cell? ⟨w6.heap.size, 1, none⟩ = some (.int .i64 y2) := Kz19.2.1.cell 1 1 rfl rfl; have z19_c11 : wz19.cell? ⟨w6.heap.size, 2, none⟩ = some (.int .u32 y3) := Kz19.2.1.cell 1 2 rfl rfl; have z19_c12 : wz19.cell? ⟨w.heap.size + 1 + 1, 0, none⟩ = some (.int .i64 k) := Kz19.2.1.cell 5 0 rfl rfl; have z19_c13 : wz19.cell? ⟨w.heap.size + 1 + 1, 1, none⟩ = some (.int .i64 n) := Kz19.2.1.cell 5 1 rfl rfl; have z19_c14 : wz19.cell? ⟨w.heap.size + 1 + 1, 2, none⟩ = some (.int .u32 g) := Kz19.2.1.cell 5 2 rfl rfl; have z19_c15 : wz19.cell? ⟨w.heap.size, 0, none⟩ = some (.int .i64 k) := Kz19.2.1.cell 7 0 rfl rfl; have z19_c16 : wz19.cell? ⟨w.heap.size, 1, none⟩ = some (.int .i64 n) := Kz19.2.1.cell 7 1 rfl rfl; have z19_c17 : wz19.cell? ⟨w.heap.size, 2, none⟩ = some (.int .u32 g) := Kz19.2.1.cell 7 2 rfl rfl; skip)
  (try go_wp2_with fail)
  refine hK.out _ _ ?_ (fun hHeld => ?_)
  · (try dsimp only)
    go_keep
  clear hK K
  (try simp only [Act.put, List.setIfInBounds_toArray, List.set_cons_zero, List.set_cons_succ])
  refine wpAnyH_take (i := 21) (oi := { dst := some 132, op := Op.binOp BinOp.eql 3 (Operand.tmp 130) (Operand.tmp 131) 3, type := 4, pos := "law.go:51", after := #[{ on := 19, ground := Ground.data }, { on := 20, ground := Ground.data }, { on := 17, ground := Ground.guard }], guard := some (17, true) }) (v := ?_) rfl (by kernel_rfl) (by kernel_rfl) (by kernel_rfl) (fun _ _ _ h => h) (Or.inl ⟨by rfl, ?_⟩) (by assumption) ?_
  rotate_left
  · intro w hSw
    (try dsimp only at hSw)
    go_simp
    (try with_reducible rfl)
  (try simp only [Act.put, List.setIfInBounds_toArray, List.set_cons_zero, List.set_cons_succ])
  refine wpAnyH_take (i := 22) (oi := { dst := some 133, op := Op.pick (Operand.tmp 128) (Operand.tmp 132) (Operand.const (Value.bool false)), type := 4, pos := "law.go:51", after := #[{ on := 17, ground := Ground.data }, { on := 21, ground := Ground.data }], guard := none }) (v := ?_) rfl (by kernel_rfl) (by kernel_rfl) (by kernel_rfl) (fun _ _ _ h => h) (Or.inl ⟨by rfl, ?_⟩) (by assumption) ?_
  rotate_left
  · intro w hSw
    (try dsimp only at hSw)
    go_simp
    (try with_reducible rfl)
  (try simp only [Act.put, List.setIfInBounds_toArray, List.set_cons_zero, List.set_cons_succ])
  refine wpAnyH_take (i := 23) (oi := { dst := some 134, op := Op.move (Operand.tmp 133), type := 4, pos := "law.go:51", after := #[{ on := 22, ground := Ground.data }, { on := 19, ground := Ground.chain }], guard := none }) (v := ?_) rfl (by kernel_rfl) (by kernel_rfl) (by kernel_rfl) (fun _ _ _ h => h) (Or.inl ⟨by rfl, ?_⟩) (by assumption) ?_
  rotate_left
  · intro w hSw
    (try dsimp only at hSw)
    go_simp
    (try with_reducible rfl)
  (try simp only [Act.put, List.setIfInBounds_toArray, List.set_cons_zero, List.set_cons_succ])
  refine wpAnyH_take (i := 24) (oi := { dst := some 135, op := Op.fieldAddr 56 (Operand.tmp 16) 0, type := 0, pos := "law.go:51", after := #[{ on := 23, ground := Ground.guard }], guard := some (23, true) }) (v := ?_) rfl (by kernel_rfl) (by kernel_rfl) (by kernel_rfl) (fun _ _ _ h => h) (Or.inl ⟨by rfl, ?_⟩) (by assumption) ?_
  rotate_left
  · intro w hSw
    (try dsimp only at hSw)
    go_simp
    (try with_reducible rfl)
  (try simp only [Act.put, List.setIfInBounds_toArray, List.set_cons_zero, List.set_cons_succ])
  refine wpAnyH_take (i := 25) (oi := { dst := some 136, op := Op.load 54 (Operand.tmp 135), type := 54, pos := "law.go:51", after := #[{ on := 24, ground := Ground.data }, { on := 23, ground := Ground.guard }], guard := some (23, true) }) (v := ?_) rfl (by kernel_rfl) (by kernel_rfl) (by kernel_rfl) (fun _ _ _ h => h) (Or.inl ⟨by rfl, ?_⟩) (by assumption) ?_
  rotate_left
  · intro w hSw
    (try dsimp only at hSw)
    go_simp
    (try with_reducible rfl)
  (try simp only [Act.put, List.setIfInBounds_toArray, List.set_cons_zero, List.set_cons_succ])
  refine wpAnyH_take (i := 26) (oi := { dst := some 137, op := Op.load 52 (Operand.tmp 18), type := 52, pos := "law.go:51", after := #[{ on := 23, ground := Ground.guard }], guard := some (23, true) }) (v := ?_) rfl (by kernel_rfl) (by kernel_rfl) (by kernel_rfl) (fun _ _ _ h => h) (Or.inl ⟨by rfl, ?_⟩) (by assumption) ?_
  rotate_left
  · intro w hSw
    (try dsimp only at hSw)
    go_simp
    (try with_reducible rfl)
  (try simp only [Act.put, List.setIfInBounds_toArray, List.set_cons_zero, List.set_cons_succ])
  refine wpAnyH_take (i := 27) (oi := { dst := some 138, op := Op.binOp BinOp.eql 54 (Operand.tmp 136) (Operand.tmp 137) 54, type := 4, pos := "law.go:51", after := #[{ on := 25, ground := Ground.data }, { on := 26, ground := Ground.data }, { on := 23, ground := Ground.guard }], guard := some (23, true) }) (v := ?_) rfl (by kernel_rfl) (by kernel_rfl) (by kernel_rfl) (fun _ _ _ h => h) (Or.inl ⟨by rfl, ?_⟩) (by assumption) ?_
  rotate_left
  · intro w hSw
    (try dsimp only at hSw)
    go_simp
    (try with_reducible rfl)
  (try simp only [Act.put, List.setIfInBounds_toArray, List.set_cons_zero, List.set_cons_succ])
  refine wpAnyH_take (i := 28) (oi := { dst := some 139, op := Op.pick (Operand.tmp 134) (Operand.tmp 138) (Operand.const (Value.bool false)), type := 4, pos := "law.go:51", after := #[{ on := 23, ground := Ground.data }, { on := 27, ground := Ground.data }], guard := none }) (v := ?_) rfl (by kernel_rfl) (by kernel_rfl) (by kernel_rfl) (fun _ _ _ h => h) (Or.inl ⟨by rfl, ?_⟩) (by assumption) ?_
  rotate_left
  · intro w hSw
    (try dsimp only at hSw)
    go_simp
    (try with_reducible rfl)
  (try simp only [Act.put, List.setIfInBounds_toArray, List.set_cons_zero, List.set_cons_succ])
  refine wpAnyH_take (i := 29) (oi := { dst := some 140, op := Op.move (Operand.tmp 139), type := 4, pos := "law.go:51", after := #[{ on := 28, ground := Ground.data }, { on := 23, ground := Ground.chain }], guard := none }) (v := ?_) rfl (by kernel_rfl) (by kernel_rfl) (by kernel_rfl) (fun _ _ _ h => h) (Or.inl ⟨by rfl, ?_⟩) (by assumption) ?_
  rotate_left
  · intro w hSw
    (try dsimp only at hSw)
    go_simp
    (try with_reducible rfl)
  (try simp only [Act.put, List.setIfInBounds_toArray, List.set_cons_zero, List.set_cons_succ])
  refine wpAnyH_take (i := 30) (oi := { dst := some 141, op := Op.move (Operand.tmp 17), type := 26, pos := "law.go:51", after := #[{ on := 29, ground := Ground.guard }], guard := some (29, true) }) (v := ?_) rfl (by kernel_rfl) (by kernel_rfl) (by kernel_rfl) (fun _ _ _ h => h) (Or.inl ⟨by rfl, ?_⟩) (by assumption) ?_
  rotate_left
  · intro w hSw
    (try dsimp only at hSw)
    go_simp
    (try with_reducible rfl)
  (try simp only [Act.put, List.setIfInBounds_toArray, List.set_cons_zero, List.set_cons_succ])
  refine wpAnyH_take (i := 32) (oi := { dst := some 143, op := Op.move (Operand.tmp 19), type := 3, pos := "law.go:51", after := #[{ on := 29, ground := Ground.guard }], guard := some (29, true) }) (v := ?_) rfl (by kernel_rfl) (by kernel_rfl) (by kernel_rfl) (fun _ _ _ h => h) (Or.inl ⟨by rfl, ?_⟩) (by assumption) ?_
  rotate_left
  · intro w hSw
    (try dsimp only at hSw)
    go_simp
    (try with_reducible rfl)
  (try simp only [Act.put, List.setIfInBounds_toArray, List.set_cons_zero, List.set_cons_succ])
  refine wpAnyH_ready (rs := [31]) (by kernel_rfl) (by simp) ?_
  refine AllReadyH.cons (o := { dst := some 142, op := Op.call { callee := Callee.value (Operand.func 37), args := #[Operand.tmp 141], argTypes := #[26] }, type := 3, pos := "law.go:51", after := #[{ on := 30, ground := Ground.data }, { on := 29, ground := Ground.chain }, { on := 29, ground := Ground.guard }], guard := some (29, true) }) rfl (fun K hK => ?_) AllReadyH.nil
  go_simp
  (refine (KK.num Kz19 (by assumption)).mono ?_; rintro e wz31 ⟨rfl, Kz31⟩; clear Kz19; clear z19_x z19_y z19_c0 z19_c1 z19_c2 z19_c3 z19_c4 z19_c5 z19_c6 z19_c7 z19_c8 z19_c9 z19_c10 z19_c11 z19_c12 z19_c13 z19_c14 z19_c15 z19_c16 z19_c17; have z31_x := Kz31.2.2.1.conv; have z31_y := Kz31.2.2.2.conv; have z31_c0 : wz31.cell? ⟨w3.heap.size, 0, none⟩ = some (.int .i64 x1) := Kz31.2.1.cell 4 0 rfl rfl; have z31_c1 : wz31.cell? ⟨w3.heap.size, 1, none⟩ = some (.int .i64 x2) := Kz31.2.1.cell 4 1 rfl rfl; have z31_c2 : wz31.cell? ⟨w3.heap.size, 2, none⟩ = some (.int .u32 x3) := Kz31.2.1.cell 4 2 rfl rfl; have z31_c3 : wz31.cell? ⟨w4.heap.size, 0, none⟩ = some (.int .i64 x1) := Kz31.2.1.cell 3 0 rfl rfl; have z31_c4 : wz31.cell? ⟨w4.heap.size, 1, none⟩ = some (.int .i64 x2) := Kz31.2.1.cell 3 1 rfl rfl; have z31_c5 : wz31.cell? ⟨w4.heap.size, 2, none⟩ = some (.int .u32 x3) := Kz31.2.1.cell 3 2 rfl rfl; have z31_c6 : wz31.cell? ⟨w5.heap.size, 0, none⟩ = some (.int .i64 y1) := Kz31.2.1.cell 2 0 rfl rfl; have z31_c7 : wz31.cell? ⟨w5.heap.size, 1, none⟩ = some (.int .i64 y2) := Kz31.2.1.cell 2 1 rfl rfl; have z31_c8 : wz31.cell? ⟨w5.heap.size, 2, none⟩ = some (.int .u32 y3) := Kz31.2.1.cell 2 2 rfl rfl; have z31_c9 : wz31.cell? ⟨w6.heap.size, 0, none⟩ = some (.int .i64 y1) := Kz31.2.1.cell 1 0 rfl rfl; have z31_c10 : wz31.cell? ⟨w6.heap.size, 1, none⟩ = some (.int .i64 y2) := Kz31.2.1.cell 1 1 rfl rfl; have z31_c11 : wz31.cell? ⟨w6.heap.size, 2, none⟩ = some (.int .u32 y3) := Kz31.2.1.cell 1 2 rfl rfl; have z31_c12 : wz31.cell? ⟨w.heap.size + 1 + 1, 0, none⟩ = some (.int .i64 k) := Kz31.2.1.cell 5 0 rfl rfl; have z31_c13 : wz31.cell? ⟨w.heap.size + 1 + 1, 1, none⟩ = some (.int .i64 n) := Kz31.2.1.cell 5 1 rfl rfl; have z31_c14 : wz31.cell? ⟨w.heap.size + 1 + 1, 2, none⟩ = some (.int .u32 g) := Kz31.2.1.cell 5 2 rfl rfl; have z31_c15 : wz31.cell? ⟨w.heap.size, 0, none⟩ = some (.int .i64 k) := Kz31.2.1.cell 7 0 rfl rfl; have z31_c16 : wz31.cell? ⟨w.heap.size, 1, none⟩ = some (.int .i64 n) := Kz31.2.1.cell 7 1 rfl rfl; have z31_c17 : wz31.cell? ⟨w.heap.size, 2, none⟩ = some (.int .u32 g) := Kz31.2.1.cell 7 2 rfl rfl; skip)
  (try go_wp2_with fail)
  refine hK.out _ _ ?_ (fun hHeld => ?_)
  · (try dsimp only)
    go_keep
  clear hK K
  (try simp only [Act.put, List.setIfInBounds_toArray, List.set_cons_zero, List.set_cons_succ])
  refine wpAnyH_take (i := 33) (oi := { dst := some 144, op := Op.binOp BinOp.eql 3 (Operand.tmp 142) (Operand.tmp 143) 3, type := 4, pos := "law.go:51", after := #[{ on := 31, ground := Ground.data }, { on := 32, ground := Ground.data }, { on := 29, ground := Ground.guard }], guard := some (29, true) }) (v := ?_) rfl (by kernel_rfl) (by kernel_rfl) (by kernel_rfl) (fun _ _ _ h => h) (Or.inl ⟨by rfl, ?_⟩) (by assumption) ?_
  rotate_left
  · intro w hSw
    (try dsimp only at hSw)
    go_simp
    (try with_reducible rfl)
  (try simp only [Act.put, List.setIfInBounds_toArray, List.set_cons_zero, List.set_cons_succ])
  refine wpAnyH_take (i := 34) (oi := { dst := some 145, op := Op.pick (Operand.tmp 140) (Operand.tmp 144) (Operand.const (Value.bool false)), type := 4, pos := "law.go:51", after := #[{ on := 29, ground := Ground.data }, { on := 33, ground := Ground.data }], guard := none }) (v := ?_) rfl (by kernel_rfl) (by kernel_rfl) (by kernel_rfl) (fun _ _ _ h => h) (Or.inl ⟨by rfl, ?_⟩) (by assumption) ?_
  rotate_left
  · intro w hSw
    (try dsimp only at hSw)
    go_simp
    (try with_reducible rfl)
  (try simp only [Act.put, List.setIfInBounds_toArray, List.set_cons_zero, List.set_cons_succ])
  refine wpAnyH_take (i := 35) (oi := { dst := some 146, op := Op.move (Operand.tmp 145), type := 4, pos := "law.go:51", after := #[{ on := 34, ground := Ground.data }, { on := 31, ground := Ground.chain }], guard := none }) (v := ?_) rfl (by kernel_rfl) (by kernel_rfl) (by kernel_rfl) (fun _ _ _ h => h) (Or.inl ⟨by rfl, ?_⟩) (by assumption) ?_
  rotate_left
  · intro w hSw
    (try dsimp only at hSw)
    go_simp
    (try with_reducible rfl)
  (try simp only [Act.put, List.setIfInBounds_toArray, List.set_cons_zero, List.set_cons_succ])
  refine wpAnyH_take (i := 36) (oi := { dst := some 147, op := Op.load 56 (Operand.tmp 7), type := 56, pos := "law.go:51", after := #[{ on := 35, ground := Ground.guard }], guard := some (35, true) }) (v := ?_) rfl (by kernel_rfl) (by kernel_rfl) (by kernel_rfl) (fun _ _ _ h => h) (Or.inl ⟨by rfl, ?_⟩) (by assumption) ?_
  rotate_left
  · intro w hSw
    (try dsimp only at hSw)
    go_simp
    (try with_reducible rfl)
  (try simp only [Act.put, List.setIfInBounds_toArray, List.set_cons_zero, List.set_cons_succ])
  refine wpAnyH_take (i := 39) (oi := { dst := some 150, op := Op.load 52 (Operand.tmp 3), type := 52, pos := "law.go:51", after := #[{ on := 35, ground := Ground.guard }], guard := some (35, true) }) (v := ?_) rfl (by kernel_rfl) (by kernel_rfl) (by kernel_rfl) (fun _ _ _ h => h) (Or.inl ⟨by rfl, ?_⟩) (by assumption) ?_
  rotate_left
  · intro w hSw
    (try dsimp only at hSw)
    go_simp
    (try with_reducible rfl)
  (try simp only [Act.put, List.setIfInBounds_toArray, List.set_cons_zero, List.set_cons_succ])
  refine wpAnyH_ready (rs := [37]) (by kernel_rfl) (by simp) ?_
  refine AllReadyH.cons (o := { dst := some 148, op := Op.call { callee := Callee.value (Operand.func 38), args := #[Operand.tmp 147], argTypes := #[56] }, type := 26, pos := "law.go:51", after := #[{ on := 36, ground := Ground.data }, { on := 35, ground := Ground.chain }, { on := 35, ground := Ground.guard }], guard := some (35, true) }) rfl (fun K hK => ?_) AllReadyH.nil
  go_simp
  (refine (KK.of Kz31 (ccheck_ok k n g _ HP.out.1 HP.out.2)).mono ?_; rintro e wz37 ⟨rfl, Kz37⟩; clear Kz31; clear z31_x z31_y z31_c0 z31_c1 z31_c2 z31_c3 z31_c4 z31_c5 z31_c6 z31_c7 z31_c8 z31_c9 z31_c10 z31_c11 z31_c12 z31_c13 z31_c14 z31_c15 z31_c16 z31_c17; have z37_x := Kz37.2.2.1.conv; have z37_y := Kz37.2.2.2.conv; have z37_c0 : wz37.cell? ⟨w3.heap.size, 0, none⟩ = some (.int .i64 x1) := Kz37.2.1.cell 4 0 rfl rfl; have z37_c1 : wz37.cell? ⟨w3.heap.size, 1, none⟩ = some (.int .i64 x2) := Kz37.2.1.cell 4 1 rfl rfl; have z37_c2 : wz37.cell? ⟨w3.heap.size, 2, none⟩ = some (.int .u32 x3) := Kz37.2.1.cell 4 2 rfl rfl; have z37_c3 : wz37.cell? ⟨w4.heap.size, 0, none⟩ = some (.int .i64 x1) := Kz37.2.1.cell 3 0 rfl rfl; have z37_c4 : wz37.cell? ⟨w4.heap.size, 1, none⟩ = some (.int .i64 x2) := Kz37.2.1.cell 3 1 rfl rfl; have z37_c5 : wz37.cell? ⟨w4.heap.size, 2, none⟩ = some (.int .u32 x3) := Kz37.2.1.cell 3 2 rfl rfl; have z37_c6 : wz37.cell? ⟨w5.heap.size, 0, none⟩ = some (.int .i64 y1) := Kz37.2.1.cell 2 0 rfl rfl; have z37_c7 : wz37.cell? ⟨w5.heap.size, 1, none⟩ = some (.int .i64 y2) := Kz37.2.1.cell 2 1 rfl rfl; have z37_c8 : wz37.cell? ⟨w5.heap.size, 2, none⟩ = some (.int .u32 y3) := Kz37.2.1.cell 2 2 rfl rfl; have z37_c9 : wz37.cell? ⟨w6.heap.size, 0, none⟩ = some (.int .i64 y1) := Kz37.2.1.cell 1 0 rfl rfl; have z37_c10 : wz37.cell? ⟨w6.heap.size, 1, none⟩ = some (.int .i64 y2) := Kz37.2.1.cell 1 1 rfl rfl; have z37_c11 : wz37.cell? ⟨w6.heap.size, 2, none⟩ = some (.int .u32 y3) := Kz37.2.1.cell 1 2 rfl rfl; have z37_c12 : wz37.cell? ⟨w.heap.size + 1 + 1, 0, none⟩ = some (.int .i64 k) := Kz37.2.1.cell 5 0 rfl rfl; have z37_c13 : wz37.cell? ⟨w.heap.size + 1 + 1, 1, none⟩ = some (.int .i64 n) := Kz37.2.1.cell 5 1 rfl rfl; have z37_c14 : wz37.cell? ⟨w.heap.size + 1 + 1, 2, none⟩ = some (.int .u32 g) := Kz37.2.1.cell 5 2 rfl rfl; have z37_c15 : wz37.cell? ⟨w.heap.size, 0, none⟩ = some (.int .i64 k) := Kz37.2.1.cell 7 0 rfl rfl; have z37_c16 : wz37.cell? ⟨w.heap.size, 1, none⟩ = some (.int .i64 n) := Kz37.2.1.cell 7 1 rfl rfl; have z37_c17 : wz37.cell? ⟨w.heap.size, 2, none⟩ = some (.int .u32 g) := Kz37.2.1.cell 7 2 rfl rfl; skip)
  (try go_wp2_with fail)
  refine hK.out _ _ ?_ (fun hHeld => ?_)
  · (try dsimp only)
    go_keep
  clear hK K
  (try simp only [Act.put, List.setIfInBounds_toArray, List.set_cons_zero, List.set_cons_succ])
  refine wpAnyH_take (i := 38) (oi := { dst := some 149, op := Op.binOp BinOp.eql 26 (Operand.tmp 148) (Operand.const Value.nilIface) 26, type := 4, pos := "law.go:51", after := #[{ on := 37, ground := Ground.data }, { on := 35, ground := Ground.guard }], guard := some (35, true) }) (v := ?_) rfl (by kernel_rfl) (by kernel_rfl) (by kernel_rfl) (fun _ _ _ h => h) (Or.inl ⟨by rfl, ?_⟩) (by assumption) ?_
  rotate_left
  · intro w hSw
    (try dsimp only at hSw)
    go_simp
    (try with_reducible rfl)
  (try simp only [Act.put, List.setIfInBounds_toArray, List.set_cons_zero, List.set_cons_succ])
  refine wpAnyH_ready (rs := [40]) (by kernel_rfl) (by simp) ?_
  refine AllReadyH.cons (o := { dst := some 151, op := Op.call { callee := Callee.value (Operand.func 39), args := #[Operand.tmp 150], argTypes := #[52] }, type := 4, pos := "law.go:51", after := #[{ on := 39, ground := Ground.data }, { on := 37, ground := Ground.chain }, { on := 35, ground := Ground.guard }], guard := some (35, true) }) rfl (fun K hK => ?_) AllReadyH.nil
  go_simp
  (refine (KK.of Kz37 (rmay_ok k n g _ HP.out.1 HGP.out)).mono ?_; rintro e wz40 ⟨rfl, Kz40⟩; clear Kz37; clear z37_x z37_y z37_c0 z37_c1 z37_c2 z37_c3 z37_c4 z37_c5 z37_c6 z37_c7 z37_c8 z37_c9 z37_c10 z37_c11 z37_c12 z37_c13 z37_c14 z37_c15 z37_c16 z37_c17; have z40_x := Kz40.2.2.1.conv; have z40_y := Kz40.2.2.2.conv; have z40_c0 : wz40.cell? ⟨w3.heap.size, 0, none⟩ = some (.int .i64 x1) := Kz40.2.1.cell 4 0 rfl rfl; have z40_c1 : wz40.cell? ⟨w3.heap.size, 1, none⟩ = some (.int .i64 x2) := Kz40.2.1.cell 4 1 rfl rfl; have z40_c2 : wz40.cell? ⟨w3.heap.size, 2, none⟩ = some (.int .u32 x3) := Kz40.2.1.cell 4 2 rfl rfl; have z40_c3 : wz40.cell? ⟨w4.heap.size, 0, none⟩ = some (.int .i64 x1) := Kz40.2.1.cell 3 0 rfl rfl; have z40_c4 : wz40.cell? ⟨w4.heap.size, 1, none⟩ = some (.int .i64 x2) := Kz40.2.1.cell 3 1 rfl rfl; have z40_c5 : wz40.cell? ⟨w4.heap.size, 2, none⟩ = some (.int .u32 x3) := Kz40.2.1.cell 3 2 rfl rfl; have z40_c6 : wz40.cell? ⟨w5.heap.size, 0, none⟩ = some (.int .i64 y1) := Kz40.2.1.cell 2 0 rfl rfl; have z40_c7 : wz40.cell? ⟨w5.heap.size, 1, none⟩ = some (.int .i64 y2) := Kz40.2.1.cell 2 1 rfl rfl; have z40_c8 : wz40.cell? ⟨w5.heap.size, 2, none⟩ = some (.int .u32 y3) := Kz40.2.1.cell 2 2 rfl rfl; have z40_c9 : wz40.cell? ⟨w6.heap.size, 0, none⟩ = some (.int .i64 y1) := Kz40.2.1.cell 1 0 rfl rfl; have z40_c10 : wz40.cell? ⟨w6.heap.size, 1, none⟩ = some (.int .i64 y2) := Kz40.2.1.cell 1 1 rfl rfl; have z40_c11 : wz40.cell? ⟨w6.heap.size, 2, none⟩ = some (.int .u32 y3) := Kz40.2.1.cell 1 2 rfl rfl; have z40_c12 : wz40.cell? ⟨w.heap.size + 1 + 1, 0, none⟩ = some (.int .i64 k) := Kz40.2.1.cell 5 0 rfl rfl; have z40_c13 : wz40.cell? ⟨w.heap.size + 1 + 1, 1, none⟩ = some (.int .i64 n) := Kz40.2.1.cell 5 1 rfl rfl; have z40_c14 : wz40.cell? ⟨w.heap.size + 1 + 1, 2, none⟩ = some (.int .u32 g) := Kz40.2.1.cell 5 2 rfl rfl; have z40_c15 : wz40.cell? ⟨w.heap.size, 0, none⟩ = some (.int .i64 k) := Kz40.2.1.cell 7 0 rfl rfl; have z40_c16 : wz40.cell? ⟨w.heap.size, 1, none⟩ = some (.int .i64 n) := Kz40.2.1.cell 7 1 rfl rfl; have z40_c17 : wz40.cell? ⟨w.heap.size, 2, none⟩ = some (.int .u32 g) := Kz40.2.1.cell 7 2 rfl rfl; skip)
  (try go_wp2_with fail)
  refine hK.out _ _ ?_ (fun hHeld => ?_)
  · (try dsimp only)
    go_keep
  clear hK K
  (try simp only [Act.put, List.setIfInBounds_toArray, List.set_cons_zero, List.set_cons_succ])
  refine wpAnyH_take (i := 41) (oi := { dst := some 152, op := Op.binOp BinOp.eql 4 (Operand.tmp 149) (Operand.tmp 151) 4, type := 4, pos := "law.go:51", after := #[{ on := 38, ground := Ground.data }, { on := 40, ground := Ground.data }, { on := 35, ground := Ground.guard }], guard := some (35, true) }) (v := ?_) rfl (by kernel_rfl) (by kernel_rfl) (by kernel_rfl) (fun _ _ _ h => h) (Or.inl ⟨by rfl, ?_⟩) (by assumption) ?_
  rotate_left
  · intro w hSw
    (try dsimp only at hSw)
    go_simp
    (try with_reducible rfl)
  (try simp only [Act.put, List.setIfInBounds_toArray, List.set_cons_zero, List.set_cons_succ])
  refine wpAnyH_take (i := 42) (oi := { dst := some 153, op := Op.pick (Operand.tmp 146) (Operand.tmp 152) (Operand.const (Value.bool false)), type := 4, pos := "law.go:51", after := #[{ on := 35, ground := Ground.data }, { on := 41, ground := Ground.data }], guard := none }) (v := ?_) rfl (by kernel_rfl) (by kernel_rfl) (by kernel_rfl) (fun _ _ _ h => h) (Or.inl ⟨by rfl, ?_⟩) (by assumption) ?_
  rotate_left
  · intro w hSw
    (try dsimp only at hSw)
    go_simp
    (try with_reducible rfl)
  (try simp only [Act.put, List.setIfInBounds_toArray, List.set_cons_zero, List.set_cons_succ])
  refine wpAnyH_take (i := 43) (oi := { dst := some 154, op := Op.move (Operand.tmp 153), type := 4, pos := "law.go:51", after := #[{ on := 42, ground := Ground.data }, { on := 40, ground := Ground.chain }], guard := none }) (v := ?_) rfl (by kernel_rfl) (by kernel_rfl) (by kernel_rfl) (fun _ _ _ h => h) (Or.inl ⟨by rfl, ?_⟩) (by assumption) ?_
  rotate_left
  · intro w hSw
    (try dsimp only at hSw)
    go_simp
    (try with_reducible rfl)
  (try simp only [Act.put, List.setIfInBounds_toArray, List.set_cons_zero, List.set_cons_succ])
  refine wpAnyH_ready (rs := [44]) (by kernel_rfl) (by simp) ?_
  refine AllReadyH.cons (o := { dst := some 155, op := Op.call { callee := Callee.value (Operand.func 28), args := #[], argTypes := #[] }, type := 4, pos := "law.go:51", after := #[{ on := 43, ground := Ground.chain }, { on := 43, ground := Ground.guard }], guard := some (43, true) }) rfl (fun K hK => ?_) AllReadyH.nil
  go_simp
  (refine (KK.sure Kz40).mono ?_; rintro e wz44 ⟨rfl, Kz44⟩; clear Kz40; clear z40_x z40_y z40_c0 z40_c1 z40_c2 z40_c3 z40_c4 z40_c5 z40_c6 z40_c7 z40_c8 z40_c9 z40_c10 z40_c11 z40_c12 z40_c13 z40_c14 z40_c15 z40_c16 z40_c17; have z44_x := Kz44.2.2.1.conv; have z44_y := Kz44.2.2.2.conv; have z44_c0 : wz44.cell? ⟨w3.heap.size, 0, none⟩ = some (.int .i64 x1) := Kz44.2.1.cell 4 0 rfl rfl; have z44_c1 : wz44.cell? ⟨w3.heap.size, 1, none⟩ = some (.int .i64 x2) := Kz44.2.1.cell 4 1 rfl rfl; have z44_c2 : wz44.cell? ⟨w3.heap.size, 2, none⟩ = some (.int .u32 x3) := Kz44.2.1.cell 4 2 rfl rfl; have z44_c3 : wz44.cell? ⟨w4.heap.size, 0, none⟩ = some (.int .i64 x1) := Kz44.2.1.cell 3 0 rfl rfl; have z44_c4 : wz44.cell? ⟨w4.heap.size, 1, none⟩ = some (.int .i64 x2) := Kz44.2.1.cell 3 1 rfl rfl; have z44_c5 : wz44.cell? ⟨w4.heap.size, 2, none⟩ = some (.int .u32 x3) := Kz44.2.1.cell 3 2 rfl rfl; have z44_c6 : wz44.cell? ⟨w5.heap.size, 0, none⟩ = some (.int .i64 y1) := Kz44.2.1.cell 2 0 rfl rfl; have z44_c7 : wz44.cell? ⟨w5.heap.size, 1, none⟩ = some (.int .i64 y2) := Kz44.2.1.cell 2 1 rfl rfl; have z44_c8 : wz44.cell? ⟨w5.heap.size, 2, none⟩ = some (.int .u32 y3) := Kz44.2.1.cell 2 2 rfl rfl; have z44_c9 : wz44.cell? ⟨w6.heap.size, 0, none⟩ = some (.int .i64 y1) := Kz44.2.1.cell 1 0 rfl rfl; have z44_c10 : wz44.cell? ⟨w6.heap.size, 1, none⟩ = some (.int .i64 y2) := Kz44.2.1.cell 1 1 rfl rfl; have z44_c11 : wz44.cell? ⟨w6.heap.size, 2, none⟩ = some (.int .u32 y3) := Kz44.2.1.cell 1 2 rfl rfl; have z44_c12 : wz44.cell? ⟨w.heap.size + 1 + 1, 0, none⟩ = some (.int .i64 k) := Kz44.2.1.cell 5 0 rfl rfl; have z44_c13 : wz44.cell? ⟨w.heap.size + 1 + 1, 1, none⟩ = some (.int .i64 n) := Kz44.2.1.cell 5 1 rfl rfl; have z44_c14 : wz44.cell? ⟨w.heap.size + 1 + 1, 2, none⟩ = some (.int .u32 g) := Kz44.2.1.cell 5 2 rfl rfl; have z44_c15 : wz44.cell? ⟨w.heap.size, 0, none⟩ = some (.int .i64 k) := Kz44.2.1.cell 7 0 rfl rfl; have z44_c16 : wz44.cell? ⟨w.heap.size, 1, none⟩ = some (.int .i64 n) := Kz44.2.1.cell 7 1 rfl rfl; have z44_c17 : wz44.cell? ⟨w.heap.size, 2, none⟩ = some (.int .u32 g) := Kz44.2.1.cell 7 2 rfl rfl; skip)
  (try go_wp2_with fail)
  refine hK.out _ _ ?_ (fun hHeld => ?_)
  · (try dsimp only)
    go_keep
  clear hK K
  (try simp only [Act.put, List.setIfInBounds_toArray, List.set_cons_zero, List.set_cons_succ])
  refine wpAnyH_take (i := 45) (oi := { dst := some 156, op := Op.pick (Operand.tmp 154) (Operand.tmp 155) (Operand.const (Value.bool false)), type := 4, pos := "law.go:51", after := #[{ on := 43, ground := Ground.data }, { on := 44, ground := Ground.data }], guard := none }) (v := ?_) rfl (by kernel_rfl) (by kernel_rfl) (by kernel_rfl) (fun _ _ _ h => h) (Or.inl ⟨by rfl, ?_⟩) (by assumption) ?_
  rotate_left
  · intro w hSw
    (try dsimp only at hSw)
    go_simp
    (try with_reducible rfl)
  (try simp only [Act.put, List.setIfInBounds_toArray, List.set_cons_zero, List.set_cons_succ])
  refine wpAnyH_take (i := 46) (oi := { dst := some 6, op := Op.assign (Operand.tmp 156), type := 4, pos := "law.go:51", after := _, guard := none }) (v := ?_) rfl (by kernel_rfl) (by kernel_rfl) (by kernel_rfl) (fun _ _ _ h => h) (Or.inl ⟨by rfl, ?_⟩) (by assumption) ?_
  rotate_left
  · intro w hSw
    (try dsimp only at hSw)
    go_simp
    (try with_reducible rfl)
  (try simp only [Act.put, List.setIfInBounds_toArray, List.set_cons_zero, List.set_cons_succ])
  refine wpAnyH_done (by kernel_rfl) ?_ _
  go_wp2_with fail
  go_ret
  exact ⟨rfl, Kz44.1.bel⟩
set_option maxRecDepth 100000 in
set_option maxHeartbeats 8000000 in
theorem steps_on (k n g a b : Int) (oa : Option Addr) (nb cp : Nat) (f : Nat → Nat) (w : World) (hg : Handle w) (hgg : 0 ≤ g ∧ g ≤ 4294967295) (hB : Bytes w oa nb f) (h100 : nb ≤ 100)
    (hp : (OkP k n ∧ g ≠ 0)) (ho : ¬ OkP a b) :
    Calls Tryd.prog 6 #[.agg #[.int .i64 k, .int .i64 n, .int .u32 g], .agg #[.int .i64 a, .int .i64 b], .slice oa nb cp] w fun e w' => e = .returned (.bool true) ∧ Below w.heap.size w w' := by
  obtain ⟨s, m1, hE1, hE2⟩ := enc_both k n g hgg
  obtain ⟨x1, x2, x3, m2, hN1, hN2⟩ := next_both k n g a b hgg
  obtain ⟨y1, y2, y3, m3, hD1, hD2⟩ := dec_both oa nb cp f
  have HE1 := Lib.hid hE1
  have HE2 := Lib.hid hE2
  have HN1 := Lib.hid hN1
  have HN2 := Lib.hid hN2
  have HD1 := Lib.hid hD1
  have HD2 := Lib.hid hD2
  have HBy := Lib.hid hB
  have HGP := Lib.hid (show 0 < g by have := hp.2; have := hgg.1; omega)
  have HP := Lib.hid hp
  have HO := Lib.hid ho
  have h1 : (nb : Int) ≤ 100 := by omega
  have F0 : Fr (((w.alloc (.cells #[.int .i64 k, .int .i64 n, .int .u32 g] 52)).alloc (.cells #[.int .i64 a, .int .i64 b] 53)).alloc (.cells #[.int .i64 k, .int .i64 n, .int .u32 g] 56)) [(w.heap.size + 1 + 1, #[.int .i64 k, .int .i64 n, .int .u32 g], 56), (w.heap.size + 1, #[.int .i64 a, .int .i64 b], 53), (w.heap.size, #[.int .i64 k, .int .i64 n, .int .u32 g], 52)] := by simpa using (((Fr.nil w).new #[.int .i64 k, .int .i64 n, .int .u32 g] 52).new #[.int .i64 a, .int .i64 b] 53).new #[.int .i64 k, .int .i64 n, .int .u32 g] 56
  have N0 : Wn w (((w.alloc (.cells #[.int .i64 k, .int .i64 n, .int .u32 g] 52)).alloc (.cells #[.int .i64 a, .int .i64 b] 53)).alloc (.cells #[.int .i64 k, .int .i64 n, .int .u32 g] 56)) := (((Wn.new hg).alloc _).alloc _).alloc _
  clear hE1 hE2 hN1 hN2 hD1 hD2 hB hp ho hg hgg h100
  go_enter Tryd.func6, Tryd.ntmps6
  go_wp2_with fail
  refine (HE1.out _).mono ?_
  rintro e w1 ⟨x, ev1, rfl, hx1, he1, hb1⟩
  have F1 := F0.later hb1
  have N1 := N0.step hb1
  clear F0 N0 hb1
  have p20 : w1.cell? ⟨w.heap.size, 0, none⟩ = some (.int .i64 k) := F1.cell 2 0 rfl rfl
  have p21 : w1.cell? ⟨w.heap.size, 1, none⟩ = some (.int .i64 n) := F1.cell 2 1 rfl rfl
  have p22 : w1.cell? ⟨w.heap.size, 2, none⟩ = some (.int .u32 g) := F1.cell 2 2 rfl rfl
  go_wp2_with fail
  refine (HE2.out _).mono ?_
  rintro e w2 ⟨y, rfl, hy2, hb2⟩
  have F2 := F1.later hb2
  have N2 := N1.step hb2
  have hx2 := hx1.later hb2
  clear F1 N1 hx1 hb2 p20 p21 p22
  have q00 : w2.cell? ⟨w.heap.size + 1 + 1, 0, none⟩ = some (.int .i64 k) := F2.cell 0 0 rfl rfl
  have q01 : w2.cell? ⟨w.heap.size + 1 + 1, 1, none⟩ = some (.int .i64 n) := F2.cell 0 1 rfl rfl
  have q02 : w2.cell? ⟨w.heap.size + 1 + 1, 2, none⟩ = some (.int .u32 g) := F2.cell 0 2 rfl rfl
  have q10 : w2.cell? ⟨w.heap.size + 1, 0, none⟩ = some (.int .i64 a) := F2.cell 1 0 rfl rfl
  have q11 : w2.cell? ⟨w.heap.size + 1, 1, none⟩ = some (.int .i64 b) := F2.cell 1 1 rfl rfl
  go_wp2_with fail
  refine (HN1.out _).mono ?_
  rintro e w3 ⟨ev2, rfl, he2, hb3⟩
  have F3 := (F2.later hb3).new #[.int .i64 x1, .int .i64 x2, .int .u32 x3] 56
  have N3 := (N2.step hb3).alloc (.cells #[.int .i64 x1, .int .i64 x2, .int .u32 x3] 56)
  have hx3 := (hx2.later hb3).later ((Below.refl _ _).alloc (Nat.le_refl _) (.cells #[.int .i64 x1, .int .i64 x2, .int .u32 x3] 56))
  have hy3 := (hy2.later hb3).later ((Below.refl _ _).alloc (Nat.le_refl _) (.cells #[.int .i64 x1, .int .i64 x2, .int .u32 x3] 56))
  clear F2 N2 hx2 hy2 hb3 q00 q01 q02 q10 q11
  have r20 : (w3.alloc (.cells #[.int .i64 x1, .int .i64 x2, .int .u32 x3] 56)).cell? ⟨w.heap.size + 1, 0, none⟩ = some (.int .i64 a) := F3.cell 2 0 rfl rfl
  have r21 : (w3.alloc (.cells #[.int .i64 x1, .int .i64 x2, .int .u32 x3] 56)).cell? ⟨w.heap.size + 1, 1, none⟩ = some (.int .i64 b) := F3.cell 2 1 rfl rfl
  have r30 : (w3.alloc (.cells #[.int .i64 x1, .int .i64 x2, .int .u32 x3] 56)).cell? ⟨w.heap.size, 0, none⟩ = some (.int .i64 k) := F3.cell 3 0 rfl rfl
  have r31 : (w3.alloc (.cells #[.int .i64 x1, .int .i64 x2, .int .u32 x3] 56)).cell? ⟨w.heap.size, 1, none⟩ = some (.int .i64 n) := F3.cell 3 1 rfl rfl
  have r32 : (w3.alloc (.cells #[.int .i64 x1, .int .i64 x2, .int .u32 x3] 56)).cell? ⟨w.heap.size, 2, none⟩ = some (.int .u32 g) := F3.cell 3 2 rfl rfl
  go_wp2_with fail
  refine (HN2.out _).mono ?_
  rintro e w4 ⟨rfl, hb4⟩
  have F4 := (F3.later hb4).new #[.int .i64 x1, .int .i64 x2, .int .u32 x3] 52
  have N4 := (N3.step hb4).alloc (.cells #[.int .i64 x1, .int .i64 x2, .int .u32 x3] 52)
  have hx4 := (hx3.later hb4).later ((Below.refl _ _).alloc (Nat.le_refl _) (.cells #[.int .i64 x1, .int .i64 x2, .int .u32 x3] 52))
  have hy4 := (hy3.later hb4).later ((Below.refl _ _).alloc (Nat.le_refl _) (.cells #[.int .i64 x1, .int .i64 x2, .int .u32 x3] 52))
  clear F3 N3 hx3 hy3 hb4 r20 r21 r30 r31 r32
  have B4 := Bytes.later HBy.out N4.bel
  go_wp2_with fail
  refine (HD1.out _ B4).mono ?_
  rintro e w5 ⟨ev3, rfl, he3, hb5⟩
  have F5 := (F4.later hb5).new #[.int .i64 y1, .int .i64 y2, .int .u32 y3] 56
  have N5 := (N4.step hb5).alloc (.cells #[.int .i64 y1, .int .i64 y2, .int .u32 y3] 56)
  have hx5 := (hx4.later hb5).later ((Below.refl _ _).alloc (Nat.le_refl _) (.cells #[.int .i64 y1, .int .i64 y2, .int .u32 y3] 56))
  have hy5 := (hy4.later hb5).later ((Below.refl _ _).alloc (Nat.le_refl _) (.cells #[.int .i64 y1, .int .i64 y2, .int .u32 y3] 56))
  clear F4 N4 hx4 hy4 hb5 B4
  have B5 := Bytes.later HBy.out N5.bel
  go_wp2_with fail
  refine (HD2.out _ B5).mono ?_
  rintro e w6 ⟨rfl, hb6⟩
  have F6 := (F5.later hb6).new #[.int .i64 y1, .int .i64 y2, .int .u32 y3] 52
  have N6 := (N5.step hb6).alloc (.cells #[.int .i64 y1, .int .i64 y2, .int .u32 y3] 52)
  have hx6 := (hx5.later hb6).later ((Below.refl _ _).alloc (Nat.le_refl _) (.cells #[.int .i64 y1, .int .i64 y2, .int .u32 y3] 52))
  have hy6 := (hy5.later hb6).later ((Below.refl _ _).alloc (Nat.le_refl _) (.cells #[.int .i64 y1, .int .i64 y2, .int .u32 y3] 52))
  clear F5 N5 hx5 hy5 hb6 B5
  have t50 : (w6.alloc (.cells #[.int .i64 y1, .int .i64 y2, .int .u32 y3] 52)).cell? ⟨w.heap.size + 1, 0, none⟩ = some (.int .i64 a) := F6.cell 5 0 rfl rfl
  have t51 : (w6.alloc (.cells #[.int .i64 y1, .int .i64 y2, .int .u32 y3] 52)).cell? ⟨w.heap.size + 1, 1, none⟩ = some (.int .i64 b) := F6.cell 5 1 rfl rfl
  go_wp2_with fail
  refine (new_no a b _ HO.out).mono ?_
  rintro e w7 ⟨rfl, hb7⟩
  have F7 := (F6.later hb7).new #[.int .i64 0, .int .i64 0, .int .u32 0] 56
  have N7 := (N6.step hb7).alloc (.cells #[.int .i64 0, .int .i64 0, .int .u32 0] 56)
  have hx7 := (hx6.later hb7).later ((Below.refl _ _).alloc (Nat.le_refl _) (.cells #[.int .i64 0, .int .i64 0, .int .u32 0] 56))
  have hy7 := (hy6.later hb7).later ((Below.refl _ _).alloc (Nat.le_refl _) (.cells #[.int .i64 0, .int .i64 0, .int .u32 0] 56))
  clear F6 N6 hx6 hy6 hb7 t50 t51
  have K7 : KK w _ x y s (w7.alloc (.cells #[.int .i64 0, .int .i64 0, .int .u32 0] 56)) := ⟨N7, F7, hx7, hy7⟩
  have u60 : (w7.alloc (.cells #[.int .i64 0, .int .i64 0, .int .u32 0] 56)).cell? ⟨w.heap.size + 1, 0, none⟩ = some (.int .i64 a) := F7.cell 6 0 rfl rfl
  have u61 : (w7.alloc (.cells #[.int .i64 0, .int .i64 0, .int .u32 0] 56)).cell? ⟨w.heap.size + 1, 1, none⟩ = some (.int .i64 b) := F7.cell 6 1 rfl rfl
  have u00 : (w7.alloc (.cells #[.int .i64 0, .int .i64 0, .int .u32 0] 56)).cell? ⟨w7.heap.size, 0, none⟩ = some (.int .i64 0) := F7.cell 0 0 rfl rfl
  have u01 : (w7.alloc (.cells #[.int .i64 0, .int .i64 0, .int .u32 0] 56)).cell? ⟨w7.heap.size, 1, none⟩ = some (.int .i64 0) := F7.cell 0 1 rfl rfl
  have u02 : (w7.alloc (.cells #[.int .i64 0, .int .i64 0, .int .u32 0] 56)).cell? ⟨w7.heap.size, 2, none⟩ = some (.int .u32 0) := F7.cell 0 2 rfl rfl
  clear N7 F7 hx7 hy7
  go_wp2_with fail
  refine wp_region_held_drew (S := (fun w' => w'.cell? ⟨w.heap.size + 1, 0, none⟩ = some (.int .i64 a) ∧ w'.cell? ⟨w.heap.size + 1, 1, none⟩ = some (.int .i64 b) ∧ w'.cell? ⟨w7.heap.size, 0, none⟩ = some (.int .i64 0) ∧ w'.cell? ⟨w7.heap.size, 1, none⟩ = some (.int .i64 0) ∧ w'.cell? ⟨w7.heap.size, 2, none⟩ = some (.int .u32 0))) (by kernel_rfl) ?_ (fun hHeld => ?_)
  · (try dsimp only)
    go_keep
  refine wpAnyH_take (i := 0) (oi := { dst := some 74, op := Op.move (Operand.tmp 21), type := 26, pos := "law.go:48", after := #[], guard := none }) (v := ?_) rfl (by kernel_rfl) (by kernel_rfl) (by kernel_rfl) (fun _ _ _ h => h) (Or.inl ⟨by rfl, ?_⟩) (by assumption) ?_
  rotate_left
  · intro w hSw
    (try dsimp only at hSw)
    go_simp
    (try with_reducible rfl)
  (try simp only [Act.put, List.setIfInBounds_toArray, List.set_cons_zero, List.set_cons_succ])
  refine wpAnyH_take (i := 1) (oi := { dst := some 75, op := Op.binOp BinOp.eql 26 (Operand.tmp 74) (Operand.const Value.nilIface) 26, type := 4, pos := "law.go:48", after := #[{ on := 0, ground := Ground.data }], guard := none }) (v := ?_) rfl (by kernel_rfl) (by kernel_rfl) (by kernel_rfl) (fun _ _ _ h => h) (Or.inl ⟨by rfl, ?_⟩) (by assumption) ?_
  rotate_left
  · intro w hSw
    (try dsimp only at hSw)
    go_simp
    (try with_reducible rfl)
  (try simp only [Act.put, List.setIfInBounds_toArray, List.set_cons_zero, List.set_cons_succ])
  refine wpAnyH_take (i := 2) (oi := { dst := some 76, op := Op.indexAddr 53 (Operand.tmp 4) (Operand.const (Value.int IntKind.i64 0)), type := 0, pos := "law.go:48", after := #[], guard := none }) (v := ?_) rfl (by kernel_rfl) (by kernel_rfl) (by kernel_rfl) (fun _ _ _ h => h) (Or.inl ⟨by rfl, ?_⟩) (by assumption) ?_
  rotate_left
  · intro w hSw
    (try dsimp only at hSw)
    go_simp
    (try with_reducible rfl)
  (try simp only [Act.put, List.setIfInBounds_toArray, List.set_cons_zero, List.set_cons_succ])
  refine wpAnyH_take (i := 3) (oi := { dst := some 77, op := Op.load 3 (Operand.tmp 76), type := 3, pos := "law.go:48", after := #[{ on := 2, ground := Ground.data }], guard := none }) (v := ?_) rfl (by kernel_rfl) (by kernel_rfl) (by kernel_rfl) (fun _ _ _ h => h) (Or.inl ⟨by rfl, ?_⟩) (by assumption) ?_
  rotate_left
  · intro w hSw
    (try dsimp only at hSw)
    go_simp
    (try with_reducible rfl)
  (try simp only [Act.put, List.setIfInBounds_toArray, List.set_cons_zero, List.set_cons_succ])
  refine wpAnyH_take (i := 4) (oi := { dst := some 78, op := Op.indexAddr 53 (Operand.tmp 4) (Operand.const (Value.int IntKind.i64 1)), type := 0, pos := "law.go:48", after := #[], guard := none }) (v := ?_) rfl (by kernel_rfl) (by kernel_rfl) (by kernel_rfl) (fun _ _ _ h => h) (Or.inl ⟨by rfl, ?_⟩) (by assumption) ?_
  rotate_left
  · intro w hSw
    (try dsimp only at hSw)
    go_simp
    (try with_reducible rfl)
  (try simp only [Act.put, List.setIfInBounds_toArray, List.set_cons_zero, List.set_cons_succ])
  refine wpAnyH_take (i := 5) (oi := { dst := some 79, op := Op.load 3 (Operand.tmp 78), type := 3, pos := "law.go:48", after := #[{ on := 4, ground := Ground.data }], guard := none }) (v := ?_) rfl (by kernel_rfl) (by kernel_rfl) (by kernel_rfl) (fun _ _ _ h => h) (Or.inl ⟨by rfl, ?_⟩) (by assumption) ?_
  rotate_left
  · intro w hSw
    (try dsimp only at hSw)
    go_simp
    (try with_reducible rfl)
  (try simp only [Act.put, List.setIfInBounds_toArray, List.set_cons_zero, List.set_cons_succ])
  refine wpAnyH_take (i := 6) (oi := { dst := some 80, op := Op.build 52 #[(0, Operand.tmp 77), (1, Operand.tmp 79)], type := 52, pos := "law.go:48", after := #[{ on := 3, ground := Ground.data }, { on := 5, ground := Ground.data }], guard := none }) (v := ?_) rfl (by kernel_rfl) (by kernel_rfl) (by kernel_rfl) (fun _ _ _ h => h) (Or.inl ⟨by rfl, ?_⟩) (by assumption) ?_
  rotate_left
  · intro w hSw
    (try dsimp only at hSw)
    go_simp
    (try with_reducible rfl)
  (try simp only [Act.put, List.setIfInBounds_toArray, List.set_cons_zero, List.set_cons_succ])
  refine wpAnyH_ready (rs := [7]) (by kernel_rfl) (by simp) ?_
  refine AllReadyH.cons (o := { dst := some 81, op := Op.call { callee := Callee.value (Operand.func 36), args := #[Operand.tmp 80], argTypes := #[52] }, type := 4, pos := "law.go:48", after := #[{ on := 6, ground := Ground.data }], guard := none }) rfl (fun K hK => ?_) AllReadyH.nil
  go_simp
  (refine (may_no a b 0 _ HO.out).mono ?_; rintro e w8 ⟨rfl, hb8⟩; have K8 := KK.step (KK.drew K7) hb8; clear hb8; have v0 : w8.cell? ⟨w.heap.size + 1, 0, none⟩ = some (.int .i64 a) := K8.2.1.cell 6 0 rfl rfl; have v1 : w8.cell? ⟨w.heap.size + 1, 1, none⟩ = some (.int .i64 b) := K8.2.1.cell 6 1 rfl rfl; have v2 : w8.cell? ⟨w7.heap.size, 0, none⟩ = some (.int .i64 0) := K8.2.1.cell 0 0 rfl rfl; have v3 : w8.cell? ⟨w7.heap.size, 1, none⟩ = some (.int .i64 0) := K8.2.1.cell 0 1 rfl rfl; have v4 : w8.cell? ⟨w7.heap.size, 2, none⟩ = some (.int .u32 0) := K8.2.1.cell 0 2 rfl rfl; skip)
  (try go_wp2_with fail)
  refine hK.out _ _ ?_ (fun hHeld => ?_)
  · (try dsimp only)
    go_keep
  clear hK K
  (try simp only [Act.put, List.setIfInBounds_toArray, List.set_cons_zero, List.set_cons_succ])
  refine wpAnyH_take (i := 8) (oi := { dst := some 82, op := Op.binOp BinOp.neq 4 (Operand.tmp 75) (Operand.tmp 81) 4, type := 4, pos := "law.go:48", after := #[{ on := 1, ground := Ground.data }, { on := 7, ground := Ground.data }], guard := none }) (v := ?_) rfl (by kernel_rfl) (by kernel_rfl) (by kernel_rfl) (fun _ _ _ h => h) (Or.inl ⟨by rfl, ?_⟩) (by assumption) ?_
  rotate_left
  · intro w hSw
    (try dsimp only at hSw)
    go_simp
    (try with_reducible rfl)
  (try simp only [Act.put, List.setIfInBounds_toArray, List.set_cons_zero, List.set_cons_succ])
  refine wpAnyH_take (i := 9) (oi := { dst := some 83, op := Op.move (Operand.tmp 82), type := 4, pos := "law.go:48", after := #[{ on := 8, ground := Ground.data }, { on := 7, ground := Ground.chain }], guard := none }) (v := ?_) rfl (by kernel_rfl) (by kernel_rfl) (by kernel_rfl) (fun _ _ _ h => h) (Or.inl ⟨by rfl, ?_⟩) (by assumption) ?_
  rotate_left
  · intro w hSw
    (try dsimp only at hSw)
    go_simp
    (try with_reducible rfl)
  (try simp only [Act.put, List.setIfInBounds_toArray, List.set_cons_zero, List.set_cons_succ])
  refine wpAnyH_take (i := 10) (oi := { dst := some 84, op := Op.move (Operand.tmp 21), type := 26, pos := "law.go:48", after := #[{ on := 9, ground := Ground.guard }], guard := some (9, false) }) (v := ?_) rfl (by kernel_rfl) (by kernel_rfl) (by kernel_rfl) (fun _ _ _ h => h) (Or.inl ⟨by rfl, ?_⟩) (by assumption) ?_
  rotate_left
  · intro w hSw
    (try dsimp only at hSw)
    go_simp
    (try with_reducible rfl)
  (try simp only [Act.put, List.setIfInBounds_toArray, List.set_cons_zero, List.set_cons_succ])
  refine wpAnyH_take (i := 11) (oi := { dst := some 85, op := Op.binOp BinOp.eql 26 (Operand.tmp 84) (Operand.const Value.nilIface) 26, type := 4, pos := "law.go:48", after := #[{ on := 10, ground := Ground.data }, { on := 9, ground := Ground.guard }], guard := some (9, false) }) (v := ?_) rfl (by kernel_rfl) (by kernel_rfl) (by kernel_rfl) (fun _ _ _ h => h) (Or.inl ⟨by rfl, ?_⟩) (by assumption) ?_
  rotate_left
  · intro w hSw
    (try dsimp only at hSw)
    go_simp
    (try with_reducible rfl)
  (try simp only [Act.put, List.setIfInBounds_toArray, List.set_cons_zero, List.set_cons_succ])
  refine wpAnyH_take (i := 12) (oi := { dst := some 86, op := Op.move (Operand.tmp 85), type := 4, pos := "law.go:48", after := #[{ on := 11, ground := Ground.data }, { on := 9, ground := Ground.chain }, { on := 9, ground := Ground.guard }], guard := some (9, false) }) (v := ?_) rfl (by kernel_rfl) (by kernel_rfl) (by kernel_rfl) (fun _ _ _ h => h) (Or.inl ⟨by rfl, ?_⟩) (by assumption) ?_
  rotate_left
  · intro w hSw
    (try dsimp only at hSw)
    go_simp
    (try with_reducible rfl)
  (try simp only [Act.put, List.setIfInBounds_toArray, List.set_cons_zero, List.set_cons_succ])
  refine wpAnyH_take (i := 13) (oi := { dst := some 87, op := Op.fieldAddr 56 (Operand.tmp 20) 0, type := 0, pos := "law.go:48", after := #[{ on := 12, ground := Ground.guard }], guard := some (12, true) }) (v := undef) rfl (by kernel_rfl) (by kernel_rfl) (by kernel_rfl) (fun _ _ _ h => h) (Or.inr ⟨by rfl, rfl⟩) (by assumption) ?_
  (try simp only [Act.put, List.setIfInBounds_toArray, List.set_cons_zero, List.set_cons_succ])
  refine wpAnyH_take (i := 14) (oi := { dst := some 88, op := Op.load 54 (Operand.tmp 87), type := 54, pos := "law.go:48", after := #[{ on := 13, ground := Ground.data }, { on := 12, ground := Ground.guard }], guard := some (12, true) }) (v := undef) rfl (by kernel_rfl) (by kernel_rfl) (by kernel_rfl) (fun _ _ _ h => h) (Or.inr ⟨by rfl, rfl⟩) (by assumption) ?_
  (try simp only [Act.put, List.setIfInBounds_toArray, List.set_cons_zero, List.set_cons_succ])
  refine wpAnyH_take (i := 15) (oi := { dst := some 89, op := Op.indexAddr 53 (Operand.tmp 4) (Operand.const (Value.int IntKind.i64 0)), type := 0, pos := "law.go:48", after := #[{ on := 12, ground := Ground.guard }], guard := some (12, true) }) (v := undef) rfl (by kernel_rfl) (by kernel_rfl) (by kernel_rfl) (fun _ _ _ h => h) (Or.inr ⟨by rfl, rfl⟩) (by assumption) ?_
  (try simp only [Act.put, List.setIfInBounds_toArray, List.set_cons_zero, List.set_cons_succ])
  refine wpAnyH_take (i := 16) (oi := { dst := some 90, op := Op.load 3 (Operand.tmp 89), type := 3, pos := "law.go:48", after := #[{ on := 15, ground := Ground.data }, { on := 12, ground := Ground.guard }], guard := some (12, true) }) (v := undef) rfl (by kernel_rfl) (by kernel_rfl) (by kernel_rfl) (fun _ _ _ h => h) (Or.inr ⟨by rfl, rfl⟩) (by assumption) ?_
  (try simp only [Act.put, List.setIfInBounds_toArray, List.set_cons_zero, List.set_cons_succ])
  refine wpAnyH_take (i := 17) (oi := { dst := some 91, op := Op.indexAddr 53 (Operand.tmp 4) (Operand.const (Value.int IntKind.i64 1)), type := 0, pos := "law.go:48", after := #[{ on := 12, ground := Ground.guard }], guard := some (12, true) }) (v := undef) rfl (by kernel_rfl) (by kernel_rfl) (by kernel_rfl) (fun _ _ _ h => h) (Or.inr ⟨by rfl, rfl⟩) (by assumption) ?_
  (try simp only [Act.put, List.setIfInBounds_toArray, List.set_cons_zero, List.set_cons_succ])
  refine wpAnyH_take (i := 18) (oi := { dst := some 92, op := Op.load 3 (Operand.tmp 91), type := 3, pos := "law.go:48", after := #[{ on := 17, ground := Ground.data }, { on := 12, ground := Ground.guard }], guard := some (12, true) }) (v := undef) rfl (by kernel_rfl) (by kernel_rfl) (by kernel_rfl) (fun _ _ _ h => h) (Or.inr ⟨by rfl, rfl⟩) (by assumption) ?_
  (try simp only [Act.put, List.setIfInBounds_toArray, List.set_cons_zero, List.set_cons_succ])
  refine wpAnyH_take (i := 19) (oi := { dst := some 93, op := Op.build 54 #[(0, Operand.tmp 90), (1, Operand.tmp 92), (2, Operand.const (Value.int IntKind.u32 1))], type := 54, pos := "law.go:48", after := #[{ on := 16, ground := Ground.data }, { on := 18, ground := Ground.data }, { on := 12, ground := Ground.guard }], guard := some (12, true) }) (v := undef) rfl (by kernel_rfl) (by kernel_rfl) (by kernel_rfl) (fun _ _ _ h => h) (Or.inr ⟨by rfl, rfl⟩) (by assumption) ?_
  (try simp only [Act.put, List.setIfInBounds_toArray, List.set_cons_zero, List.set_cons_succ])
  refine wpAnyH_take (i := 20) (oi := { dst := some 94, op := Op.binOp BinOp.neq 54 (Operand.tmp 88) (Operand.tmp 93) 54, type := 4, pos := "law.go:48", after := #[{ on := 14, ground := Ground.data }, { on := 19, ground := Ground.data }, { on := 12, ground := Ground.guard }], guard := some (12, true) }) (v := undef) rfl (by kernel_rfl) (by kernel_rfl) (by kernel_rfl) (fun _ _ _ h => h) (Or.inr ⟨by rfl, rfl⟩) (by assumption) ?_
  (try simp only [Act.put, List.setIfInBounds_toArray, List.set_cons_zero, List.set_cons_succ])
  refine wpAnyH_take (i := 21) (oi := { dst := some 95, op := Op.pick (Operand.tmp 86) (Operand.tmp 94) (Operand.const (Value.bool false)), type := 4, pos := "law.go:48", after := #[{ on := 12, ground := Ground.data }, { on := 20, ground := Ground.data }, { on := 9, ground := Ground.guard }], guard := some (9, false) }) (v := ?_) rfl (by kernel_rfl) (by kernel_rfl) (by kernel_rfl) (fun _ _ _ h => h) (Or.inl ⟨by rfl, ?_⟩) (by assumption) ?_
  rotate_left
  · intro w hSw
    (try dsimp only at hSw)
    go_simp
    (try with_reducible rfl)
  (try simp only [Act.put, List.setIfInBounds_toArray, List.set_cons_zero, List.set_cons_succ])
  refine wpAnyH_take (i := 22) (oi := { dst := some 96, op := Op.pick (Operand.tmp 83) (Operand.const (Value.bool true)) (Operand.tmp 95), type := 4, pos := "law.go:48", after := #[{ on := 9, ground := Ground.data }, { on := 21, ground := Ground.data }], guard := none }) (v := ?_) rfl (by kernel_rfl) (by kernel_rfl) (by kernel_rfl) (fun _ _ _ h => h) (Or.inl ⟨by rfl, ?_⟩) (by assumption) ?_
  rotate_left
  · intro w hSw
    (try dsimp only at hSw)
    go_simp
    (try with_reducible rfl)
  (try simp only [Act.put, List.setIfInBounds_toArray, List.set_cons_zero, List.set_cons_succ])
  refine wpAnyH_take (i := 23) (oi := { dst := some 97, op := Op.move (Operand.tmp 96), type := 4, pos := "law.go:48", after := #[{ on := 22, ground := Ground.data }, { on := 12, ground := Ground.chain }], guard := none }) (v := ?_) rfl (by kernel_rfl) (by kernel_rfl) (by kernel_rfl) (fun _ _ _ h => h) (Or.inl ⟨by rfl, ?_⟩) (by assumption) ?_
  rotate_left
  · intro w hSw
    (try dsimp only at hSw)
    go_simp
    (try with_reducible rfl)
  (try simp only [Act.put, List.setIfInBounds_toArray, List.set_cons_zero, List.set_cons_succ])
  refine wpAnyH_take (i := 24) (oi := { dst := some 98, op := Op.move (Operand.tmp 21), type := 26, pos := "law.go:48", after := #[{ on := 23, ground := Ground.guard }], guard := some (23, false) }) (v := ?_) rfl (by kernel_rfl) (by kernel_rfl) (by kernel_rfl) (fun _ _ _ h => h) (Or.inl ⟨by rfl, ?_⟩) (by assumption) ?_
  rotate_left
  · intro w hSw
    (try dsimp only at hSw)
    go_simp
    (try with_reducible rfl)
  (try simp only [Act.put, List.setIfInBounds_toArray, List.set_cons_zero, List.set_cons_succ])
  refine wpAnyH_take (i := 25) (oi := { dst := some 99, op := Op.binOp BinOp.neq 26 (Operand.tmp 98) (Operand.const Value.nilIface) 26, type := 4, pos := "law.go:48", after := #[{ on := 24, ground := Ground.data }, { on := 23, ground := Ground.guard }], guard := some (23, false) }) (v := ?_) rfl (by kernel_rfl) (by kernel_rfl) (by kernel_rfl) (fun _ _ _ h => h) (Or.inl ⟨by rfl, ?_⟩) (by assumption) ?_
  rotate_left
  · intro w hSw
    (try dsimp only at hSw)
    go_simp
    (try with_reducible rfl)
  (try simp only [Act.put, List.setIfInBounds_toArray, List.set_cons_zero, List.set_cons_succ])
  refine wpAnyH_take (i := 26) (oi := { dst := some 100, op := Op.move (Operand.tmp 99), type := 4, pos := "law.go:48", after := #[{ on := 25, ground := Ground.data }, { on := 23, ground := Ground.chain }, { on := 23, ground := Ground.guard }], guard := some (23, false) }) (v := ?_) rfl (by kernel_rfl) (by kernel_rfl) (by kernel_rfl) (fun _ _ _ h => h) (Or.inl ⟨by rfl, ?_⟩) (by assumption) ?_
  rotate_left
  · intro w hSw
    (try dsimp only at hSw)
    go_simp
    (try with_reducible rfl)
  (try simp only [Act.put, List.setIfInBounds_toArray, List.set_cons_zero, List.set_cons_succ])
  refine wpAnyH_take (i := 27) (oi := { dst := some 101, op := Op.move (Operand.tmp 21), type := 26, pos := "law.go:48", after := #[{ on := 26, ground := Ground.guard }], guard := some (26, true) }) (v := ?_) rfl (by kernel_rfl) (by kernel_rfl) (by kernel_rfl) (fun _ _ _ h => h) (Or.inl ⟨by rfl, ?_⟩) (by assumption) ?_
  rotate_left
  · intro w hSw
    (try dsimp only at hSw)
    go_simp
    (try with_reducible rfl)
  (try simp only [Act.put, List.setIfInBounds_toArray, List.set_cons_zero, List.set_cons_succ])
  refine wpAnyH_ready (rs := [28]) (by kernel_rfl) (by simp) ?_
  refine AllReadyH.cons (o := { dst := some 102, op := Op.call { callee := Callee.value (Operand.func 37), args := #[Operand.tmp 101], argTypes := #[26] }, type := 3, pos := "law.go:48", after := #[{ on := 27, ground := Ground.data }, { on := 26, ground := Ground.chain }, { on := 26, ground := Ground.guard }], guard := some (26, true) }) rfl (fun K hK => ?_) AllReadyH.nil
  go_simp
  (refine (K8.num (m := 1) ?_).mono ?_; exact .inr rfl; rintro e w9 ⟨rfl, K9⟩; have b0 : w9.cell? ⟨w.heap.size + 1, 0, none⟩ = some (.int .i64 a) := K9.2.1.cell 6 0 rfl rfl; have b1 : w9.cell? ⟨w.heap.size + 1, 1, none⟩ = some (.int .i64 b) := K9.2.1.cell 6 1 rfl rfl; have b2 : w9.cell? ⟨w7.heap.size, 0, none⟩ = some (.int .i64 0) := K9.2.1.cell 0 0 rfl rfl; have b3 : w9.cell? ⟨w7.heap.size, 1, none⟩ = some (.int .i64 0) := K9.2.1.cell 0 1 rfl rfl; have b4 : w9.cell? ⟨w7.heap.size, 2, none⟩ = some (.int .u32 0) := K9.2.1.cell 0 2 rfl rfl; skip)
  (try go_wp2_with fail)
  refine hK.out _ _ ?_ (fun hHeld => ?_)
  · (try dsimp only)
    go_keep
  clear hK K
  (try simp only [Act.put, List.setIfInBounds_toArray, List.set_cons_zero, List.set_cons_succ])
  refine wpAnyH_take (i := 29) (oi := { dst := some 103, op := Op.binOp BinOp.neq 3 (Operand.tmp 102) (Operand.const (Value.int IntKind.i64 1)) 3, type := 4, pos := "law.go:48", after := #[{ on := 28, ground := Ground.data }, { on := 26, ground := Ground.guard }], guard := some (26, true) }) (v := ?_) rfl (by kernel_rfl) (by kernel_rfl) (by kernel_rfl) (fun _ _ _ h => h) (Or.inl ⟨by rfl, ?_⟩) (by assumption) ?_
  rotate_left
  · intro w hSw
    (try dsimp only at hSw)
    go_simp
    (try with_reducible rfl)
  (try simp only [Act.put, List.setIfInBounds_toArray, List.set_cons_zero, List.set_cons_succ])
  refine wpAnyH_take (i := 30) (oi := { dst := some 104, op := Op.move (Operand.tmp 103), type := 4, pos := "law.go:48", after := #[{ on := 29, ground := Ground.data }, { on := 28, ground := Ground.chain }, { on := 26, ground := Ground.guard }], guard := some (26, true) }) (v := ?_) rfl (by kernel_rfl) (by kernel_rfl) (by kernel_rfl) (fun _ _ _ h => h) (Or.inl ⟨by rfl, ?_⟩) (by assumption) ?_
  rotate_left
  · intro w hSw
    (try dsimp only at hSw)
    go_simp
    (try with_reducible rfl)
  (try simp only [Act.put, List.setIfInBounds_toArray, List.set_cons_zero, List.set_cons_succ])
  refine wpAnyH_take (i := 31) (oi := { dst := some 105, op := Op.load 56 (Operand.tmp 20), type := 56, pos := "law.go:48", after := #[{ on := 30, ground := Ground.guard }], guard := some (30, false) }) (v := ?_) rfl (by kernel_rfl) (by kernel_rfl) (by kernel_rfl) (fun _ _ _ h => h) (Or.inl ⟨by rfl, ?_⟩) (by assumption) ?_
  rotate_left
  · intro w hSw
    (try dsimp only at hSw)
    go_simp
    (try with_reducible rfl)
  (try simp only [Act.put, List.setIfInBounds_toArray, List.set_cons_zero, List.set_cons_succ])
  refine wpAnyH_take (i := 32) (oi := { dst := some 106, op := Op.build 56 #[], type := 56, pos := "law.go:48", after := #[{ on := 30, ground := Ground.guard }], guard := some (30, false) }) (v := ?_) rfl (by kernel_rfl) (by kernel_rfl) (by kernel_rfl) (fun _ _ _ h => h) (Or.inl ⟨by rfl, ?_⟩) (by assumption) ?_
  rotate_left
  · intro w hSw
    (try dsimp only at hSw)
    go_simp
    (try with_reducible rfl)
  (try simp only [Act.put, List.setIfInBounds_toArray, List.set_cons_zero, List.set_cons_succ])
  refine wpAnyH_take (i := 33) (oi := { dst := some 107, op := Op.binOp BinOp.neq 56 (Operand.tmp 105) (Operand.tmp 106) 56, type := 4, pos := "law.go:48", after := #[{ on := 31, ground := Ground.data }, { on := 32, ground := Ground.data }, { on := 30, ground := Ground.guard }], guard := some (30, false) }) (v := ?_) rfl (by kernel_rfl) (by kernel_rfl) (by kernel_rfl) (fun _ _ _ h => h) (Or.inl ⟨by rfl, ?_⟩) (by assumption) ?_
  rotate_left
  · intro w hSw
    (try dsimp only at hSw)
    go_simp
    (try with_reducible rfl)
  (try simp only [Act.put, List.setIfInBounds_toArray, List.set_cons_zero, List.set_cons_succ])
  refine wpAnyH_take (i := 34) (oi := { dst := some 108, op := Op.pick (Operand.tmp 104) (Operand.const (Value.bool true)) (Operand.tmp 107), type := 4, pos := "law.go:48", after := #[{ on := 30, ground := Ground.data }, { on := 33, ground := Ground.data }, { on := 26, ground := Ground.guard }], guard := some (26, true) }) (v := ?_) rfl (by kernel_rfl) (by kernel_rfl) (by kernel_rfl) (fun _ _ _ h => h) (Or.inl ⟨by rfl, ?_⟩) (by assumption) ?_
  rotate_left
  · intro w hSw
    (try dsimp only at hSw)
    go_simp
    (try with_reducible rfl)
  (try simp only [Act.put, List.setIfInBounds_toArray, List.set_cons_zero, List.set_cons_succ])
  refine wpAnyH_take (i := 35) (oi := { dst := some 109, op := Op.pick (Operand.tmp 100) (Operand.tmp 108) (Operand.const (Value.bool false)), type := 4, pos := "law.go:48", after := #[{ on := 26, ground := Ground.data }, { on := 34, ground := Ground.data }, { on := 23, ground := Ground.guard }], guard := some (23, false) }) (v := ?_) rfl (by kernel_rfl) (by kernel_rfl) (by kernel_rfl) (fun _ _ _ h => h) (Or.inl ⟨by rfl, ?_⟩) (by assumption) ?_
  rotate_left
  · intro w hSw
    (try dsimp only at hSw)
    go_simp
    (try with_reducible rfl)
  (try simp only [Act.put, List.setIfInBounds_toArray, List.set_cons_zero, List.set_cons_succ])
  refine wpAnyH_take (i := 36) (oi := { dst := some 110, op := Op.pick (Operand.tmp 97) (Operand.const (Value.bool true)) (Operand.tmp 109), type := 4, pos := "law.go:48", after := #[{ on := 23, ground := Ground.data }, { on := 35, ground := Ground.data }], guard := none }) (v := ?_) rfl (by kernel_rfl) (by kernel_rfl) (by kernel_rfl) (fun _ _ _ h => h) (Or.inl ⟨by rfl, ?_⟩) (by assumption) ?_
  rotate_left
  · intro w hSw
    (try dsimp only at hSw)
    go_simp
    (try with_reducible rfl)
  (try simp only [Act.put, List.setIfInBounds_toArray, List.set_cons_zero, List.set_cons_succ])
  refine wpAnyH_done (by kernel_rfl) ?_ _
  clear u60 u61 u00 u01 u02 K7
  clear K8 v0 v1 v2 v3 v4
  clear b0 b1 b2 b3 b4
  have Kd := KK.drew K9
  have gx := Kd.2.2.1.conv
  have gy := Kd.2.2.2.conv
  have gc0 : w9.cell? ⟨w3.heap.size, 0, none⟩ = some (.int .i64 x1) := K9.2.1.cell 4 0 rfl rfl
  have gc1 : w9.cell? ⟨w3.heap.size, 1, none⟩ = some (.int .i64 x2) := K9.2.1.cell 4 1 rfl rfl
  have gc2 : w9.cell? ⟨w3.heap.size, 2, none⟩ = some (.int .u32 x3) := K9.2.1.cell 4 2 rfl rfl
  have gc3 : w9.cell? ⟨w4.heap.size, 0, none⟩ = some (.int .i64 x1) := K9.2.1.cell 3 0 rfl rfl
  have gc4 : w9.cell? ⟨w4.heap.size, 1, none⟩ = some (.int .i64 x2) := K9.2.1.cell 3 1 rfl rfl
  have gc5 : w9.cell? ⟨w4.heap.size, 2, none⟩ = some (.int .u32 x3) := K9.2.1.cell 3 2 rfl rfl
  have gc6 : w9.cell? ⟨w5.heap.size, 0, none⟩ = some (.int .i64 y1) := K9.2.1.cell 2 0 rfl rfl
  have gc7 : w9.cell? ⟨w5.heap.size, 1, none⟩ = some (.int .i64 y2) := K9.2.1.cell 2 1 rfl rfl
  have gc8 : w9.cell? ⟨w5.heap.size, 2, none⟩ = some (.int .u32 y3) := K9.2.1.cell 2 2 rfl rfl
  have gc9 : w9.cell? ⟨w6.heap.size, 0, none⟩ = some (.int .i64 y1) := K9.2.1.cell 1 0 rfl rfl
  have gc10 : w9.cell? ⟨w6.heap.size, 1, none⟩ = some (.int .i64 y2) := K9.2.1.cell 1 1 rfl rfl
  have gc11 : w9.cell? ⟨w6.heap.size, 2, none⟩ = some (.int .u32 y3) := K9.2.1.cell 1 2 rfl rfl
  have gc12 : w9.cell? ⟨w.heap.size + 1 + 1, 0, none⟩ = some (.int .i64 k) := K9.2.1.cell 5 0 rfl rfl
  have gc13 : w9.cell? ⟨w.heap.size + 1 + 1, 1, none⟩ = some (.int .i64 n) := K9.2.1.cell 5 1 rfl rfl
  have gc14 : w9.cell? ⟨w.heap.size + 1 + 1, 2, none⟩ = some (.int .u32 g) := K9.2.1.cell 5 2 rfl rfl
  have gc15 : w9.cell? ⟨w.heap.size, 0, none⟩ = some (.int .i64 k) := K9.2.1.cell 7 0 rfl rfl
  have gc16 : w9.cell? ⟨w.heap.size, 1, none⟩ = some (.int .i64 n) := K9.2.1.cell 7 1 rfl rfl
  have gc17 : w9.cell? ⟨w.heap.size, 2, none⟩ = some (.int .u32 g) := K9.2.1.cell 7 2 rfl rfl
  clear K9
  go_wp2_with fail
  refine wp_region_held_drew (S := (fun w' => KK w [(w7.heap.size, #[.int .i64 0, .int .i64 0, .int .u32 0], 56), (w6.heap.size, #[.int .i64 y1, .int .i64 y2, .int .u32 y3], 52), (w5.heap.size, #[.int .i64 y1, .int .i64 y2, .int .u32 y3], 56), (w4.heap.size, #[.int .i64 x1, .int .i64 x2, .int .u32 x3], 52), (w3.heap.size, #[.int .i64 x1, .int .i64 x2, .int .u32 x3], 56), (w.heap.size + 1 + 1, #[.int .i64 k, .int .i64 n, .int .u32 g], 56), (w.heap.size + 1, #[.int .i64 a, .int .i64 b], 53), (w.heap.size, #[.int .i64 k, .int .i64 n, .int .u32 g], 52)] x y s w' ∧ (convert 31 9 x).run Tryd.prog w' = .ok (.string s) w' ∧ (convert 31 9 y).run Tryd.prog w' = .ok (.string s) w' ∧ w'.cell? ⟨w3.heap.size, 0, none⟩ = some (.int .i64 x1) ∧ w'.cell? ⟨w3.heap.size, 1, none⟩ = some (.int .i64 x2) ∧ w'.cell? ⟨w3.heap.size, 2, none⟩ = some (.int .u32 x3) ∧ w'.cell? ⟨w4.heap.size, 0, none⟩ = some (.int .i64 x1) ∧ w'.cell? ⟨w4.heap.size, 1, none⟩ = some (.int .i64 x2) ∧ w'.cell? ⟨w4.heap.size, 2, none⟩ = some (.int .u32 x3) ∧ w'.cell? ⟨w5.heap.size, 0, none⟩ = some (.int .i64 y1) ∧ w'.cell? ⟨w5.heap.size, 1, none⟩ = some (.int .i64 y2) ∧ w'.cell? ⟨w5.heap.size, 2, none⟩ = some (.int .u32 y3) ∧ w'.cell? ⟨w6.heap.size, 0, none⟩ = some (.int .i64 y1) ∧ w'.cell? ⟨w6.heap.size, 1, none⟩ = some (.int .i64 y2) ∧ w'.cell? ⟨w6.heap.size, 2, none⟩ = some (.int .u32 y3) ∧ w'.cell? ⟨w.heap.size + 1 + 1, 0, none⟩ = some (.int .i64 k) ∧ w'.cell? ⟨w.heap.size + 1 + 1, 1, none⟩ = some (.int .i64 n) ∧ w'.cell? ⟨w.heap.size + 1 + 1, 2, none⟩ = some (.int .u32 g) ∧ w'.cell? ⟨w.heap.size, 0, none⟩ = some (.int .i64 k) ∧ w'.cell? ⟨w.heap.size, 1, none⟩ = some (.int .i64 n) ∧ w'.cell? ⟨w.heap.size, 2, none⟩ = some (.int .u32 g))) (by kernel_rfl) ?_ (fun hHeld => ?_)
  · (try dsimp only)
    go_keep
  refine wpAnyH_take (i := 0) (oi := { dst := some 111, op := Op.move (Operand.tmp 8), type := 31, pos := "law.go:51", after := #[], guard := none }) (v := ?_) rfl (by kernel_rfl) (by kernel_rfl) (by kernel_rfl) (fun _ _ _ h => h) (Or.inl ⟨by rfl, ?_⟩) (by assumption) ?_
  rotate_left
  · intro w hSw
    (try dsimp only at hSw)
    go_simp
    (try with_reducible rfl)
  (try simp only [Act.put, List.setIfInBounds_toArray, List.set_cons_zero, List.set_cons_succ])
  refine wpAnyH_take (i := 1) (oi := { dst := some 112, op := Op.convert 31 9 (Operand.tmp 111), type := 9, pos := "law.go:51", after := #[{ on := 0, ground := Ground.data }], guard := none }) (v := ?_) rfl (by kernel_rfl) (by kernel_rfl) (by kernel_rfl) (fun _ _ _ h => h) (Or.inl ⟨by rfl, ?_⟩) (by assumption) ?_
  rotate_left
  · intro w hSw
    (try dsimp only at hSw)
    go_simp
    (try with_reducible rfl)
  (try simp only [Act.put, List.setIfInBounds_toArray, List.set_cons_zero, List.set_cons_succ])
  refine wpAnyH_take (i := 2) (oi := { dst := some 113, op := Op.move (Operand.tmp 10), type := 31, pos := "law.go:51", after := #[], guard := none }) (v := ?_) rfl (by kernel_rfl) (by kernel_rfl) (by kernel_rfl) (fun _ _ _ h => h) (Or.inl ⟨by rfl, ?_⟩) (by assumption) ?_
  rotate_left
  · intro w hSw
    (try dsimp only at hSw)
    go_simp
    (try with_reducible rfl)
  (try simp only [Act.put, List.setIfInBounds_toArray, List.set_cons_zero, List.set_cons_succ])
  refine wpAnyH_take (i := 3) (oi := { dst := some 114, op := Op.convert 31 9 (Operand.tmp 113), type := 9, pos := "law.go:51", after := #[{ on := 2, ground := Ground.data }], guard := none }) (v := ?_) rfl (by kernel_rfl) (by kernel_rfl) (by kernel_rfl) (fun _ _ _ h => h) (Or.inl ⟨by rfl, ?_⟩) (by assumption) ?_
  rotate_left
  · intro w hSw
    (try dsimp only at hSw)
    go_simp
    (try with_reducible rfl)
  (try simp only [Act.put, List.setIfInBounds_toArray, List.set_cons_zero, List.set_cons_succ])
  refine wpAnyH_take (i := 4) (oi := { dst := some 115, op := Op.binOp BinOp.eql 9 (Operand.tmp 112) (Operand.tmp 114) 9, type := 4, pos := "law.go:51", after := #[{ on := 1, ground := Ground.data }, { on := 3, ground := Ground.data }], guard := none }) (v := ?_) rfl (by kernel_rfl) (by kernel_rfl) (by kernel_rfl) (fun _ _ _ h => h) (Or.inl ⟨by rfl, ?_⟩) (by assumption) ?_
  rotate_left
  · intro w hSw
    (try dsimp only at hSw)
    go_simp
    (try with_reducible rfl)
  (try simp only [Act.put, List.setIfInBounds_toArray, List.set_cons_zero, List.set_cons_succ])
  refine wpAnyH_take (i := 5) (oi := { dst := some 116, op := Op.move (Operand.tmp 115), type := 4, pos := "law.go:51", after := #[{ on := 4, ground := Ground.data }], guard := none }) (v := ?_) rfl (by kernel_rfl) (by kernel_rfl) (by kernel_rfl) (fun _ _ _ h => h) (Or.inl ⟨by rfl, ?_⟩) (by assumption) ?_
  rotate_left
  · intro w hSw
    (try dsimp only at hSw)
    go_simp
    (try with_reducible rfl)
  (try simp only [Act.put, List.setIfInBounds_toArray, List.set_cons_zero, List.set_cons_succ])
  refine wpAnyH_take (i := 6) (oi := { dst := some 117, op := Op.move (Operand.tmp 9), type := 26, pos := "law.go:51", after := #[{ on := 5, ground := Ground.guard }], guard := some (5, true) }) (v := ?_) rfl (by kernel_rfl) (by kernel_rfl) (by kernel_rfl) (fun _ _ _ h => h) (Or.inl ⟨by rfl, ?_⟩) (by assumption) ?_
  rotate_left
  · intro w hSw
    (try dsimp only at hSw)
    go_simp
    (try with_reducible rfl)
  (try simp only [Act.put, List.setIfInBounds_toArray, List.set_cons_zero, List.set_cons_succ])
  refine wpAnyH_take (i := 8) (oi := { dst := some 119, op := Op.move (Operand.tmp 11), type := 3, pos := "law.go:51", after := #[{ on := 5, ground := Ground.guard }], guard := some (5, true) }) (v := ?_) rfl (by kernel_rfl) (by kernel_rfl) (by kernel_rfl) (fun _ _ _ h => h) (Or.inl ⟨by rfl, ?_⟩) (by assumption) ?_
  rotate_left
  · intro w hSw
    (try dsimp only at hSw)
    go_simp
    (try with_reducible rfl)
  (try simp only [Act.put, List.setIfInBounds_toArray, List.set_cons_zero, List.set_cons_succ])
  refine wpAnyH_ready (rs := [7]) (by kernel_rfl) (by simp) ?_
  refine AllReadyH.cons (o := { dst := some 118, op := Op.call { callee := Callee.value (Operand.func 37), args := #[Operand.tmp 117], argTypes := #[26] }, type := 3, pos := "law.go:51", after := #[{ on := 6, ground := Ground.data }, { on := 5, ground := Ground.chain }, { on := 5, ground := Ground.guard }], guard := some (5, true) }) rfl (fun K hK => ?_) AllReadyH.nil
  go_simp
  (refine (KK.num Kd (by assumption)).mono ?_; rintro e wz7 ⟨rfl, Kz7⟩; clear Kd; clear gx gy gc0 gc1 gc2 gc3 gc4 gc5 gc6 gc7 gc8 gc9 gc10 gc11 gc12 gc13 gc14 gc15 gc16 gc17; have z7_x := Kz7.2.2.1.conv; have z7_y := Kz7.2.2.2.conv; have z7_c0 : wz7.cell? ⟨w3.heap.size, 0, none⟩ = some (.int .i64 x1) := Kz7.2.1.cell 4 0 rfl rfl; have z7_c1 : wz7.cell? ⟨w3.heap.size, 1, none⟩ = some (.int .i64 x2) := Kz7.2.1.cell 4 1 rfl rfl; have z7_c2 : wz7.cell? ⟨w3.heap.size, 2, none⟩ = some (.int .u32 x3) := Kz7.2.1.cell 4 2 rfl rfl; have z7_c3 : wz7.cell? ⟨w4.heap.size, 0, none⟩ = some (.int .i64 x1) := Kz7.2.1.cell 3 0 rfl rfl; have z7_c4 : wz7.cell? ⟨w4.heap.size, 1, none⟩ = some (.int .i64 x2) := Kz7.2.1.cell 3 1 rfl rfl; have z7_c5 : wz7.cell? ⟨w4.heap.size, 2, none⟩ = some (.int .u32 x3) := Kz7.2.1.cell 3 2 rfl rfl; have z7_c6 : wz7.cell? ⟨w5.heap.size, 0, none⟩ = some (.int .i64 y1) := Kz7.2.1.cell 2 0 rfl rfl; have z7_c7 : wz7.cell? ⟨w5.heap.size, 1, none⟩ = some (.int .i64 y2) := Kz7.2.1.cell 2 1 rfl rfl; have z7_c8 : wz7.cell? ⟨w5.heap.size, 2, none⟩ = some (.int .u32 y3) := Kz7.2.1.cell 2 2 rfl rfl; have z7_c9 : wz7.cell? ⟨w6.heap.size, 0, none⟩ = some (.int .i64 y1) := Kz7.2.1.cell 1 0 rfl rfl; have z7_c10 : wz7.cell? ⟨w6.heap.size, 1, none⟩ = some (.int .i64 y2) := Kz7.2.1.cell 1 1 rfl rfl; have z7_c11 : wz7.cell? ⟨w6.heap.size, 2, none⟩ = some (.int .u32 y3) := Kz7.2.1.cell 1 2 rfl rfl; have z7_c12 : wz7.cell? ⟨w.heap.size + 1 + 1, 0, none⟩ = some (.int .i64 k) := Kz7.2.1.cell 5 0 rfl rfl; have z7_c13 : wz7.cell? ⟨w.heap.size + 1 + 1, 1, none⟩ = some (.int .i64 n) := Kz7.2.1.cell 5 1 rfl rfl; have z7_c14 : wz7.cell? ⟨w.heap.size + 1 + 1, 2, none⟩ = some (.int .u32 g) := Kz7.2.1.cell 5 2 rfl rfl; have z7_c15 : wz7.cell? ⟨w.heap.size, 0, none⟩ = some (.int .i64 k) := Kz7.2.1.cell 7 0 rfl rfl; have z7_c16 : wz7.cell? ⟨w.heap.size, 1, none⟩ = some (.int .i64 n) := Kz7.2.1.cell 7 1 rfl rfl; have z7_c17 : wz7.cell? ⟨w.heap.size, 2, none⟩ = some (.int .u32 g) := Kz7.2.1.cell 7 2 rfl rfl; skip)
  (try go_wp2_with fail)
  refine hK.out _ _ ?_ (fun hHeld => ?_)
  · (try dsimp only)
    go_keep
  clear hK K
  (try simp only [Act.put, List.setIfInBounds_toArray, List.set_cons_zero, List.set_cons_succ])
  refine wpAnyH_take (i := 9) (oi := { dst := some 120, op := Op.binOp BinOp.eql 3 (Operand.tmp 118) (Operand.tmp 119) 3, type := 4, pos := "law.go:51", after := #[{ on := 7, ground := Ground.data }, { on := 8, ground := Ground.data }, { on := 5, ground := Ground.guard }], guard := some (5, true) }) (v := ?_) rfl (by kernel_rfl) (by kernel_rfl) (by kernel_rfl) (fun _ _ _ h => h) (Or.inl ⟨by rfl, ?_⟩) (by assumption) ?_
  rotate_left
  · intro w hSw
    (try dsimp only at hSw)
    go_simp
    (try with_reducible rfl)
  (try simp only [Act.put, List.setIfInBounds_toArray, List.set_cons_zero, List.set_cons_succ])
  refine wpAnyH_take (i := 10) (oi := { dst := some 121, op := Op.pick (Operand.tmp 116) (Operand.tmp 120) (Operand.const (Value.bool false)), type := 4, pos := "law.go:51", after := #[{ on := 5, ground := Ground.data }, { on := 9, ground := Ground.data }], guard := none }) (v := ?_) rfl (by kernel_rfl) (by kernel_rfl) (by kernel_rfl) (fun _ _ _ h => h) (Or.inl ⟨by rfl, ?_⟩) (by assumption) ?_
  rotate_left
  · intro w hSw
    (try dsimp only at hSw)
    go_simp
    (try with_reducible rfl)
  (try simp only [Act.put, List.setIfInBounds_toArray, List.set_cons_zero, List.set_cons_succ])
  refine wpAnyH_take (i := 11) (oi := { dst := some 122, op := Op.move (Operand.tmp 121), type := 4, pos := "law.go:51", after := #[{ on := 10, ground := Ground.data }, { on := 7, ground := Ground.chain }], guard := none }) (v := ?_) rfl (by kernel_rfl) (by kernel_rfl) (by kernel_rfl) (fun _ _ _ h => h) (Or.inl ⟨by rfl, ?_⟩) (by assumption) ?_
  rotate_left
  · intro w hSw
    (try dsimp only at hSw)
    go_simp
    (try with_reducible rfl)
  (try simp only [Act.put, List.setIfInBounds_toArray, List.set_cons_zero, List.set_cons_succ])
  refine wpAnyH_take (i := 12) (oi := { dst := some 123, op := Op.fieldAddr 56 (Operand.tmp 12) 0, type := 0, pos := "law.go:51", after := #[{ on := 11, ground := Ground.guard }], guard := some (11, true) }) (v := ?_) rfl (by kernel_rfl) (by kernel_rfl) (by kernel_rfl) (fun _ _ _ h => h) (Or.inl ⟨by rfl, ?_⟩) (by assumption) ?_
  rotate_left
  · intro w hSw
    (try dsimp only at hSw)
    go_simp
    (try with_reducible rfl)
  (try simp only [Act.put, List.setIfInBounds_toArray, List.set_cons_zero, List.set_cons_succ])
  refine wpAnyH_take (i := 13) (oi := { dst := some 124, op := Op.load 54 (Operand.tmp 123), type := 54, pos := "law.go:51", after := #[{ on := 12, ground := Ground.data }, { on := 11, ground := Ground.guard }], guard := some (11, true) }) (v := ?_) rfl (by kernel_rfl) (by kernel_rfl) (by kernel_rfl) (fun _ _ _ h => h) (Or.inl ⟨by rfl, ?_⟩) (by assumption) ?_
  rotate_left
  · intro w hSw
    (try dsimp only at hSw)
    go_simp
    (try with_reducible rfl)
  (try simp only [Act.put, List.setIfInBounds_toArray, List.set_cons_zero, List.set_cons_succ])
  refine wpAnyH_take (i := 14) (oi := { dst := some 125, op := Op.load 52 (Operand.tmp 14), type := 52, pos := "law.go:51", after := #[{ on := 11, ground := Ground.guard }], guard := some (11, true) }) (v := ?_) rfl (by kernel_rfl) (by kernel_rfl) (by kernel_rfl) (fun _ _ _ h => h) (Or.inl ⟨by rfl, ?_⟩) (by assumption) ?_
  rotate_left
  · intro w hSw
    (try dsimp only at hSw)
    go_simp
    (try with_reducible rfl)
  (try simp only [Act.put, List.setIfInBounds_toArray, List.set_cons_zero, List.set_cons_succ])
  refine wpAnyH_take (i := 15) (oi := { dst := some 126, op := Op.binOp BinOp.eql 54 (Operand.tmp 124) (Operand.tmp 125) 54, type := 4, pos := "law.go:51", after := #[{ on := 13, ground := Ground.data }, { on := 14, ground := Ground.data }, { on := 11, ground := Ground.guard }], guard := some (11, true) }) (v := ?_) rfl (by kernel_rfl) (by kernel_rfl) (by kernel_rfl) (fun _ _ _ h => h) (Or.inl ⟨by rfl, ?_⟩) (by assumption) ?_
  rotate_left
  · intro w hSw
    (try dsimp only at hSw)
    go_simp
    (try with_reducible rfl)
  (try simp only [Act.put, List.setIfInBounds_toArray, List.set_cons_zero, List.set_cons_succ])
  refine wpAnyH_take (i := 16) (oi := { dst := some 127, op := Op.pick (Operand.tmp 122) (Operand.tmp 126) (Operand.const (Value.bool false)), type := 4, pos := "law.go:51", after := #[{ on := 11, ground := Ground.data }, { on := 15, ground := Ground.data }], guard := none }) (v := ?_) rfl (by kernel_rfl) (by kernel_rfl) (by kernel_rfl) (fun _ _ _ h => h) (Or.inl ⟨by rfl, ?_⟩) (by assumption) ?_
  rotate_left
  · intro w hSw
    (try dsimp only at hSw)
    go_simp
    (try with_reducible rfl)
  (try simp only [Act.put, List.setIfInBounds_toArray, List.set_cons_zero, List.set_cons_succ])
  refine wpAnyH_take (i := 17) (oi := { dst := some 128, op := Op.move (Operand.tmp 127), type := 4, pos := "law.go:51", after := #[{ on := 16, ground := Ground.data }, { on := 11, ground := Ground.chain }], guard := none }) (v := ?_) rfl (by kernel_rfl) (by kernel_rfl) (by kernel_rfl) (fun _ _ _ h => h) (Or.inl ⟨by rfl, ?_⟩) (by assumption) ?_
  rotate_left
  · intro w hSw
    (try dsimp only at hSw)
    go_simp
    (try with_reducible rfl)
  (try simp only [Act.put, List.setIfInBounds_toArray, List.set_cons_zero, List.set_cons_succ])
  refine wpAnyH_take (i := 18) (oi := { dst := some 129, op := Op.move (Operand.tmp 13), type := 26, pos := "law.go:51", after := #[{ on := 17, ground := Ground.guard }], guard := some (17, true) }) (v := ?_) rfl (by kernel_rfl) (by kernel_rfl) (by kernel_rfl) (fun _ _ _ h => h) (Or.inl ⟨by rfl, ?_⟩) (by assumption) ?_
  rotate_left
  · intro w hSw
    (try dsimp only at hSw)
    go_simp
    (try with_reducible rfl)
  (try simp only [Act.put, List.setIfInBounds_toArray, List.set_cons_zero, List.set_cons_succ])
  refine wpAnyH_take (i := 20) (oi := { dst := some 131, op := Op.move (Operand.tmp 15), type := 3, pos := "law.go:51", after := #[{ on := 17, ground := Ground.guard }], guard := some (17, true) }) (v := ?_) rfl (by kernel_rfl) (by kernel_rfl) (by kernel_rfl) (fun _ _ _ h => h) (Or.inl ⟨by rfl, ?_⟩) (by assumption) ?_
  rotate_left
  · intro w hSw
    (try dsimp only at hSw)
    go_simp
    (try with_reducible rfl)
  (try simp only [Act.put, List.setIfInBounds_toArray, List.set_cons_zero, List.set_cons_succ])
  refine wpAnyH_ready (rs := [19]) (by kernel_rfl) (by simp) ?_
  refine AllReadyH.cons (o := { dst := some 130, op := Op.call { callee := Callee.value (Operand.func 37), args := #[Operand.tmp 129], argTypes := #[26] }, type := 3, pos := "law.go:51", after := #[{ on := 18, ground := Ground.data }, { on := 17, ground := Ground.chain }, { on := 17, ground := Ground.guard }], guard := some (17, true) }) rfl (fun K hK => ?_) AllReadyH.nil
  go_simp
  (refine (KK.num Kz7 (by assumption)).mono ?_; rintro e wz19 ⟨rfl, Kz19⟩; clear Kz7; clear z7_x z7_y z7_c0 z7_c1 z7_c2 z7_c3 z7_c4 z7_c5 z7_c6 z7_c7 z7_c8 z7_c9 z7_c10 z7_c11 z7_c12 z7_c13 z7_c14 z7_c15 z7_c16 z7_c17; have z19_x := Kz19.2.2.1.conv; have z19_y := Kz19.2.2.2.conv; have z19_c0 : wz19.cell? ⟨w3.heap.size, 0, none⟩ = some (.int .i64 x1) := Kz19.2.1.cell 4 0 rfl rfl; have z19_c1 : wz19.cell? ⟨w3.heap.size, 1, none⟩ = some (.int .i64 x2) := Kz19.2.1.cell 4 1 rfl rfl; have z19_c2 : wz19.cell? ⟨w3.heap.size, 2, none⟩ = some (.int .u32 x3) := Kz19.2.1.cell 4 2 rfl rfl; have z19_c3 : wz19.cell? ⟨w4.heap.size, 0, none⟩ = some (.int .i64 x1) := Kz19.2.1.cell 3 0 rfl rfl; have z19_c4 : wz19.cell? ⟨w4.heap.size, 1, none⟩ = some (.int .i64 x2) := Kz19.2.1.cell 3 1 rfl rfl; have z19_c5 : wz19.cell? ⟨w4.heap.size, 2, none⟩ = some (.int .u32 x3) := Kz19.2.1.cell 3 2 rfl rfl; have z19_c6 : wz19.cell? ⟨w5.heap.size, 0, none⟩ = some (.int .i64 y1) := Kz19.2.1.cell 2 0 rfl rfl; have z19_c7 : wz19.cell? ⟨w5.heap.size, 1, none⟩ = some (.int .i64 y2) := Kz19.2.1.cell 2 1 rfl rfl; have z19_c8 : wz19.cell? ⟨w5.heap.size, 2, none⟩ = some (.int .u32 y3) := Kz19.2.1.cell 2 2 rfl rfl; have z19_c9 : wz19.cell? ⟨w6.heap.size, 0, none⟩ = some (.int .i64 y1) := Kz19.2.1.cell 1 0 rfl rfl; have z19_c10 : wz19.cell? ⟨w6.heap.size, 1, none⟩ = some (.int .i64 y2) := Kz19.2.1.cell 1 1 rfl rfl; have z19_c11 : wz19.cell? ⟨w6.heap.size, 2, none⟩ = some (.int .u32 y3) := Kz19.2.1.cell 1 2 rfl rfl; have z19_c12 : wz19.cell? ⟨w.heap.size + 1 + 1, 0, none⟩ = some (.int .i64 k) := Kz19.2.1.cell 5 0 rfl rfl; have z19_c13 : wz19.cell? ⟨w.heap.size + 1 + 1, 1, none⟩ = some (.int .i64 n) := Kz19.2.1.cell 5 1 rfl rfl; have z19_c14 : wz19.cell? ⟨w.heap.size + 1 + 1, 2, none⟩ = some (.int .u32 g) := Kz19.2.1.cell 5 2 rfl rfl; have z19_c15 : wz19.cell? ⟨w.heap.size, 0, none⟩ = some (.int .i64 k) := Kz19.2.1.cell 7 0 rfl rfl; have z19_c16 : wz19.cell? ⟨w.heap.size, 1, none⟩ = some (.int .i64 n) := Kz19.2.1.cell 7 1 rfl rfl; have z19_c17 : wz19.cell? ⟨w.heap.size, 2, none⟩ = some (.int .u32 g) := Kz19.2.1.cell 7 2 rfl rfl; skip)
  (try go_wp2_with fail)
  refine hK.out _ _ ?_ (fun hHeld => ?_)
  · (try dsimp only)
    go_keep
  clear hK K
  (try simp only [Act.put, List.setIfInBounds_toArray, List.set_cons_zero, List.set_cons_succ])
  refine wpAnyH_take (i := 21) (oi := { dst := some 132, op := Op.binOp BinOp.eql 3 (Operand.tmp 130) (Operand.tmp 131) 3, type := 4, pos := "law.go:51", after := #[{ on := 19, ground := Ground.data }, { on := 20, ground := Ground.data }, { on := 17, ground := Ground.guard }], guard := some (17, true) }) (v := ?_) rfl (by kernel_rfl) (by kernel_rfl) (by kernel_rfl) (fun _ _ _ h => h) (Or.inl ⟨by rfl, ?_⟩) (by assumption) ?_
  rotate_left
  · intro w hSw
    (try dsimp only at hSw)
    go_simp
    (try with_reducible rfl)
  (try simp only [Act.put, List.setIfInBounds_toArray, List.set_cons_zero, List.set_cons_succ])
  refine wpAnyH_take (i := 22) (oi := { dst := some 133, op := Op.pick (Operand.tmp 128) (Operand.tmp 132) (Operand.const (Value.bool false)), type := 4, pos := "law.go:51", after := #[{ on := 17, ground := Ground.data }, { on := 21, ground := Ground.data }], guard := none }) (v := ?_) rfl (by kernel_rfl) (by kernel_rfl) (by kernel_rfl) (fun _ _ _ h => h) (Or.inl ⟨by rfl, ?_⟩) (by assumption) ?_
  rotate_left
  · intro w hSw
    (try dsimp only at hSw)
    go_simp
    (try with_reducible rfl)
  (try simp only [Act.put, List.setIfInBounds_toArray, List.set_cons_zero, List.set_cons_succ])
  refine wpAnyH_take (i := 23) (oi := { dst := some 134, op := Op.move (Operand.tmp 133), type := 4, pos := "law.go:51", after := #[{ on := 22, ground := Ground.data }, { on := 19, ground := Ground.chain }], guard := none }) (v := ?_) rfl (by kernel_rfl) (by kernel_rfl) (by kernel_rfl) (fun _ _ _ h => h) (Or.inl ⟨by rfl, ?_⟩) (by assumption) ?_
  rotate_left
  · intro w hSw
    (try dsimp only at hSw)
    go_simp
    (try with_reducible rfl)
  (try simp only [Act.put, List.setIfInBounds_toArray, List.set_cons_zero, List.set_cons_succ])
  refine wpAnyH_take (i := 24) (oi := { dst := some 135, op := Op.fieldAddr 56 (Operand.tmp 16) 0, type := 0, pos := "law.go:51", after := #[{ on := 23, ground := Ground.guard }], guard := some (23, true) }) (v := ?_) rfl (by kernel_rfl) (by kernel_rfl) (by kernel_rfl) (fun _ _ _ h => h) (Or.inl ⟨by rfl, ?_⟩) (by assumption) ?_
  rotate_left
  · intro w hSw
    (try dsimp only at hSw)
    go_simp
    (try with_reducible rfl)
  (try simp only [Act.put, List.setIfInBounds_toArray, List.set_cons_zero, List.set_cons_succ])
  refine wpAnyH_take (i := 25) (oi := { dst := some 136, op := Op.load 54 (Operand.tmp 135), type := 54, pos := "law.go:51", after := #[{ on := 24, ground := Ground.data }, { on := 23, ground := Ground.guard }], guard := some (23, true) }) (v := ?_) rfl (by kernel_rfl) (by kernel_rfl) (by kernel_rfl) (fun _ _ _ h => h) (Or.inl ⟨by rfl, ?_⟩) (by assumption) ?_
  rotate_left
  · intro w hSw
    (try dsimp only at hSw)
    go_simp
    (try with_reducible rfl)
  (try simp only [Act.put, List.setIfInBounds_toArray, List.set_cons_zero, List.set_cons_succ])
  refine wpAnyH_take (i := 26) (oi := { dst := some 137, op := Op.load 52 (Operand.tmp 18), type := 52, pos := "law.go:51", after := #[{ on := 23, ground := Ground.guard }], guard := some (23, true) }) (v := ?_) rfl (by kernel_rfl) (by kernel_rfl) (by kernel_rfl) (fun _ _ _ h => h) (Or.inl ⟨by rfl, ?_⟩) (by assumption) ?_
  rotate_left
  · intro w hSw
    (try dsimp only at hSw)
    go_simp
    (try with_reducible rfl)
  (try simp only [Act.put, List.setIfInBounds_toArray, List.set_cons_zero, List.set_cons_succ])
  refine wpAnyH_take (i := 27) (oi := { dst := some 138, op := Op.binOp BinOp.eql 54 (Operand.tmp 136) (Operand.tmp 137) 54, type := 4, pos := "law.go:51", after := #[{ on := 25, ground := Ground.data }, { on := 26, ground := Ground.data }, { on := 23, ground := Ground.guard }], guard := some (23, true) }) (v := ?_) rfl (by kernel_rfl) (by kernel_rfl) (by kernel_rfl) (fun _ _ _ h => h) (Or.inl ⟨by rfl, ?_⟩) (by assumption) ?_
  rotate_left
  · intro w hSw
    (try dsimp only at hSw)
    go_simp
    (try with_reducible rfl)
  (try simp only [Act.put, List.setIfInBounds_toArray, List.set_cons_zero, List.set_cons_succ])
  refine wpAnyH_take (i := 28) (oi := { dst := some 139, op := Op.pick (Operand.tmp 134) (Operand.tmp 138) (Operand.const (Value.bool false)), type := 4, pos := "law.go:51", after := #[{ on := 23, ground := Ground.data }, { on := 27, ground := Ground.data }], guard := none }) (v := ?_) rfl (by kernel_rfl) (by kernel_rfl) (by kernel_rfl) (fun _ _ _ h => h) (Or.inl ⟨by rfl, ?_⟩) (by assumption) ?_
  rotate_left
  · intro w hSw
    (try dsimp only at hSw)
    go_simp
    (try with_reducible rfl)
  (try simp only [Act.put, List.setIfInBounds_toArray, List.set_cons_zero, List.set_cons_succ])
  refine wpAnyH_take (i := 29) (oi := { dst := some 140, op := Op.move (Operand.tmp 139), type := 4, pos := "law.go:51", after := #[{ on := 28, ground := Ground.data }, { on := 23, ground := Ground.chain }], guard := none }) (v := ?_) rfl (by kernel_rfl) (by kernel_rfl) (by kernel_rfl) (fun _ _ _ h => h) (Or.inl ⟨by rfl, ?_⟩) (by assumption) ?_
  rotate_left
  · intro w hSw
    (try dsimp only at hSw)
    go_simp
    (try with_reducible rfl)
  (try simp only [Act.put, List.setIfInBounds_toArray, List.set_cons_zero, List.set_cons_succ])
  refine wpAnyH_take (i := 30) (oi := { dst := some 141, op := Op.move (Operand.tmp 17), type := 26, pos := "law.go:51", after := #[{ on := 29, ground := Ground.guard }], guard := some (29, true) }) (v := ?_) rfl (by kernel_rfl) (by kernel_rfl) (by kernel_rfl) (fun _ _ _ h => h) (Or.inl ⟨by rfl, ?_⟩) (by assumption) ?_
  rotate_left
  · intro w hSw
    (try dsimp only at hSw)
    go_simp
    (try with_reducible rfl)
  (try simp only [Act.put, List.setIfInBounds_toArray, List.set_cons_zero, List.set_cons_succ])
  refine wpAnyH_take (i := 32) (oi := { dst := some 143, op := Op.move (Operand.tmp 19), type := 3, pos := "law.go:51", after := #[{ on := 29, ground := Ground.guard }], guard := some (29, true) }) (v := ?_) rfl (by kernel_rfl) (by kernel_rfl) (by kernel_rfl) (fun _ _ _ h => h) (Or.inl ⟨by rfl, ?_⟩) (by assumption) ?_
  rotate_left
  · intro w hSw
    (try dsimp only at hSw)
    go_simp
    (try with_reducible rfl)
  (try simp only [Act.put, List.setIfInBounds_toArray, List.set_cons_zero, List.set_cons_succ])
  refine wpAnyH_ready (rs := [31]) (by kernel_rfl) (by simp) ?_
  refine AllReadyH.cons (o := { dst := some 142, op := Op.call { callee := Callee.value (Operand.func 37), args := #[Operand.tmp 141], argTypes := #[26] }, type := 3, pos := "law.go:51", after := #[{ on := 30, ground := Ground.data }, { on := 29, ground := Ground.chain }, { on := 29, ground := Ground.guard }], guard := some (29, true) }) rfl (fun K hK => ?_) AllReadyH.nil
  go_simp
  (refine (KK.num Kz19 (by assumption)).mono ?_; rintro e wz31 ⟨rfl, Kz31⟩; clear Kz19; clear z19_x z19_y z19_c0 z19_c1 z19_c2 z19_c3 z19_c4 z19_c5 z19_c6 z19_c7 z19_c8 z19_c9 z19_c10 z19_c11 z19_c12 z19_c13 z19_c14 z19_c15 z19_c16 z19_c17; have z31_x := Kz31.2.2.1.conv; have z31_y := Kz31.2.2.2.conv; have z31_c0 : wz31.cell? ⟨w3.heap.size, 0, none⟩ = some (.int .i64 x1) := Kz31.2.1.cell 4 0 rfl rfl; have z31_c1 : wz31.cell? ⟨w3.heap.size, 1, none⟩ = some (.int .i64 x2) := Kz31.2.1.cell 4 1 rfl rfl; have z31_c2 : wz31.cell? ⟨w3.heap.size, 2, none⟩ = some (.int .u32 x3) := Kz31.2.1.cell 4 2 rfl rfl; have z31_c3 : wz31.cell? ⟨w4.heap.size, 0, none⟩ = some (.int .i64 x1) := Kz31.2.1.cell 3 0 rfl rfl; have z31_c4 : wz31.cell? ⟨w4.heap.size, 1, none⟩ = some (.int .i64 x2) := Kz31.2.1.cell 3 1 rfl rfl; have z31_c5 : wz31.cell? ⟨w4.heap.size, 2, none⟩ = some (.int .u32 x3) := Kz31.2.1.cell 3 2 rfl rfl; have z31_c6 : wz31.cell? ⟨w5.heap.size, 0, none⟩ = some (.int .i64 y1) := Kz31.2.1.cell 2 0 rfl rfl; have z31_c7 : wz31.cell? ⟨w5.heap.size, 1, none⟩ = some (.int .i64 y2) := Kz31.2.1.cell 2 1 rfl rfl; have z31_c8 : wz31.cell? ⟨w5.heap.size, 2, none⟩ = some (.int .u32 y3) := Kz31.2.1.cell 2 2 rfl rfl; have z31_c9 : wz31.cell? ⟨w6.heap.size, 0, none⟩ = some (.int .i64 y1) := Kz31.2.1.cell 1 0 rfl rfl; have z31_c10 : wz31.cell? ⟨w6.heap.size, 1, none⟩ = some (.int .i64 y2) := Kz31.2.1.cell 1 1 rfl rfl; have z31_c11 : wz31.cell? ⟨w6.heap.size, 2, none⟩ = some (.int .u32 y3) := Kz31.2.1.cell 1 2 rfl rfl; have z31_c12 : wz31.cell? ⟨w.heap.size + 1 + 1, 0, none⟩ = some (.int .i64 k) := Kz31.2.1.cell 5 0 rfl rfl; have z31_c13 : wz31.cell? ⟨w.heap.size + 1 + 1, 1, none⟩ = some (.int .i64 n) := Kz31.2.1.cell 5 1 rfl rfl; have z31_c14 : wz31.cell? ⟨w.heap.size + 1 + 1, 2, none⟩ = some (.int .u32 g) := Kz31.2.1.cell 5 2 rfl rfl; have z31_c15 : wz31.cell? ⟨w.heap.size, 0, none⟩ = some (.int .i64 k) := Kz31.2.1.cell 7 0 rfl rfl; have z31_c16 : wz31.cell? ⟨w.heap.size, 1, none⟩ = some (.int .i64 n) := Kz31.2.1.cell 7 1 rfl rfl; have z31_c17 : wz31.cell? ⟨w.heap.size, 2, none⟩ = some (.int .u32 g) := Kz31.2.1.cell 7 2 rfl rfl; skip)
  (try go_wp2_with fail)
  refine hK.out _ _ ?_ (fun hHeld => ?_)
  · (try dsimp only)
    go_keep
  clear hK K
  (try simp only [Act.put, List.setIfInBounds_toArray, List.set_cons_zero, List.set_cons_succ])
  refine wpAnyH_take (i := 33) (oi := { dst := some 144, op := Op.binOp BinOp.eql 3 (Operand.tmp 142) (Operand.tmp 143) 3, type := 4, pos := "law.go:51", after := #[{ on := 31, ground := Ground.data }, { on := 32, ground := Ground.data }, { on := 29, ground := Ground.guard }], guard := some (29, true) }) (v := ?_) rfl (by kernel_rfl) (by kernel_rfl) (by kernel_rfl) (fun _ _ _ h => h) (Or.inl ⟨by rfl, ?_⟩) (by assumption) ?_
  rotate_left
  · intro w hSw
    (try dsimp only at hSw)
    go_simp
    (try with_reducible rfl)
  (try simp only [Act.put, List.setIfInBounds_toArray, List.set_cons_zero, List.set_cons_succ])
  refine wpAnyH_take (i := 34) (oi := { dst := some 145, op := Op.pick (Operand.tmp 140) (Operand.tmp 144) (Operand.const (Value.bool false)), type := 4, pos := "law.go:51", after := #[{ on := 29, ground := Ground.data }, { on := 33, ground := Ground.data }], guard := none }) (v := ?_) rfl (by kernel_rfl) (by kernel_rfl) (by kernel_rfl) (fun _ _ _ h => h) (Or.inl ⟨by rfl, ?_⟩) (by assumption) ?_
  rotate_left
  · intro w hSw
    (try dsimp only at hSw)
    go_simp
    (try with_reducible rfl)
  (try simp only [Act.put, List.setIfInBounds_toArray, List.set_cons_zero, List.set_cons_succ])
  refine wpAnyH_take (i := 35) (oi := { dst := some 146, op := Op.move (Operand.tmp 145), type := 4, pos := "law.go:51", after := #[{ on := 34, ground := Ground.data }, { on := 31, ground := Ground.chain }], guard := none }) (v := ?_) rfl (by kernel_rfl) (by kernel_rfl) (by kernel_rfl) (fun _ _ _ h => h) (Or.inl ⟨by rfl, ?_⟩) (by assumption) ?_
  rotate_left
  · intro w hSw
    (try dsimp only at hSw)
    go_simp
    (try with_reducible rfl)
  (try simp only [Act.put, List.setIfInBounds_toArray, List.set_cons_zero, List.set_cons_succ])
  refine wpAnyH_take (i := 36) (oi := { dst := some 147, op := Op.load 56 (Operand.tmp 7), type := 56, pos := "law.go:51", after := #[{ on := 35, ground := Ground.guard }], guard := some (35, true) }) (v := ?_) rfl (by kernel_rfl) (by kernel_rfl) (by kernel_rfl) (fun _ _ _ h => h) (Or.inl ⟨by rfl, ?_⟩) (by assumption) ?_
  rotate_left
  · intro w hSw
    (try dsimp only at hSw)
    go_simp
    (try with_reducible rfl)
  (try simp only [Act.put, List.setIfInBounds_toArray, List.set_cons_zero, List.set_cons_succ])
  refine wpAnyH_take (i := 39) (oi := { dst := some 150, op := Op.load 52 (Operand.tmp 3), type := 52, pos := "law.go:51", after := #[{ on := 35, ground := Ground.guard }], guard := some (35, true) }) (v := ?_) rfl (by kernel_rfl) (by kernel_rfl) (by kernel_rfl) (fun _ _ _ h => h) (Or.inl ⟨by rfl, ?_⟩) (by assumption) ?_
  rotate_left
  · intro w hSw
    (try dsimp only at hSw)
    go_simp
    (try with_reducible rfl)
  (try simp only [Act.put, List.setIfInBounds_toArray, List.set_cons_zero, List.set_cons_succ])
  refine wpAnyH_ready (rs := [37]) (by kernel_rfl) (by simp) ?_
  refine AllReadyH.cons (o := { dst := some 148, op := Op.call { callee := Callee.value (Operand.func 38), args := #[Operand.tmp 147], argTypes := #[56] }, type := 26, pos := "law.go:51", after := #[{ on := 36, ground := Ground.data }, { on := 35, ground := Ground.chain }, { on := 35, ground := Ground.guard }], guard := some (35, true) }) rfl (fun K hK => ?_) AllReadyH.nil
  go_simp
  (refine (KK.of Kz31 (ccheck_ok k n g _ HP.out.1 HP.out.2)).mono ?_; rintro e wz37 ⟨rfl, Kz37⟩; clear Kz31; clear z31_x z31_y z31_c0 z31_c1 z31_c2 z31_c3 z31_c4 z31_c5 z31_c6 z31_c7 z31_c8 z31_c9 z31_c10 z31_c11 z31_c12 z31_c13 z31_c14 z31_c15 z31_c16 z31_c17; have z37_x := Kz37.2.2.1.conv; have z37_y := Kz37.2.2.2.conv; have z37_c0 : wz37.cell? ⟨w3.heap.size, 0, none⟩ = some (.int .i64 x1) := Kz37.2.1.cell 4 0 rfl rfl; have z37_c1 : wz37.cell? ⟨w3.heap.size, 1, none⟩ = some (.int .i64 x2) := Kz37.2.1.cell 4 1 rfl rfl; have z37_c2 : wz37.cell? ⟨w3.heap.size, 2, none⟩ = some (.int .u32 x3) := Kz37.2.1.cell 4 2 rfl rfl; have z37_c3 : wz37.cell? ⟨w4.heap.size, 0, none⟩ = some (.int .i64 x1) := Kz37.2.1.cell 3 0 rfl rfl; have z37_c4 : wz37.cell? ⟨w4.heap.size, 1, none⟩ = some (.int .i64 x2) := Kz37.2.1.cell 3 1 rfl rfl; have z37_c5 : wz37.cell? ⟨w4.heap.size, 2, none⟩ = some (.int .u32 x3) := Kz37.2.1.cell 3 2 rfl rfl; have z37_c6 : wz37.cell? ⟨w5.heap.size, 0, none⟩ = some (.int .i64 y1) := Kz37.2.1.cell 2 0 rfl rfl; have z37_c7 : wz37.cell? ⟨w5.heap.size, 1, none⟩ = some (.int .i64 y2) := Kz37.2.1.cell 2 1 rfl rfl; have z37_c8 : wz37.cell? ⟨w5.heap.size, 2, none⟩ = some (.int .u32 y3) := Kz37.2.1.cell 2 2 rfl rfl; have z37_c9 : wz37.cell? ⟨w6.heap.size, 0, none⟩ = some (.int .i64 y1) := Kz37.2.1.cell 1 0 rfl rfl; have z37_c10 : wz37.cell? ⟨w6.heap.size, 1, none⟩ = some (.int .i64 y2) := Kz37.2.1.cell 1 1 rfl rfl; have z37_c11 : wz37.cell? ⟨w6.heap.size, 2, none⟩ = some (.int .u32 y3) := Kz37.2.1.cell 1 2 rfl rfl; have z37_c12 : wz37.cell? ⟨w.heap.size + 1 + 1, 0, none⟩ = some (.int .i64 k) := Kz37.2.1.cell 5 0 rfl rfl; have z37_c13 : wz37.cell? ⟨w.heap.size + 1 + 1, 1, none⟩ = some (.int .i64 n) := Kz37.2.1.cell 5 1 rfl rfl; have z37_c14 : wz37.cell? ⟨w.heap.size + 1 + 1, 2, none⟩ = some (.int .u32 g) := Kz37.2.1.cell 5 2 rfl rfl; have z37_c15 : wz37.cell? ⟨w.heap.size, 0, none⟩ = some (.int .i64 k) := Kz37.2.1.cell 7 0 rfl rfl; have z37_c16 : wz37.cell? ⟨w.heap.size, 1, none⟩ = some (.int .i64 n) := Kz37.2.1.cell 7 1 rfl rfl; have z37_c17 : wz37.cell? ⟨w.heap.size, 2, none⟩ = some (.int .u32 g) := Kz37.2.1.cell 7 2 rfl rfl; skip)
  (try go_wp2_with fail)
  refine hK.out _ _ ?_ (fun hHeld => ?_)
  · (try dsimp only)
    go_keep
  clear hK K
  (try simp only [Act.put, List.setIfInBounds_toArray, List.set_cons_zero, List.set_cons_succ])
  refine wpAnyH_take (i := 38) (oi := { dst := some 149, op := Op.binOp BinOp.eql 26 (Operand.tmp 148) (Operand.const Value.nilIface) 26, type := 4, pos := "law.go:51", after := #[{ on := 37, ground := Ground.data }, { on := 35, ground := Ground.guard }], guard := some (35, true) }) (v := ?_) rfl (by kernel_rfl) (by kernel_rfl) (by kernel_rfl) (fun _ _ _ h => h) (Or.inl ⟨by rfl, ?_⟩) (by assumption) ?_
  rotate_left
  · intro w hSw
    (try dsimp only at hSw)
    go_simp
    (try with_reducible rfl)
  (try simp only [Act.put, List.setIfInBounds_toArray, List.set_cons_zero, List.set_cons_succ])
  refine wpAnyH_ready (rs := [40]) (by kernel_rfl) (by simp) ?_
  refine AllReadyH.cons (o := { dst := some 151, op := Op.call { callee := Callee.value (Operand.func 39), args := #[Operand.tmp 150], argTypes := #[52] }, type := 4, pos := "law.go:51", after := #[{ on := 39, ground := Ground.data }, { on := 37, ground := Ground.chain }, { on := 35, ground := Ground.guard }], guard := some (35, true) }) rfl (fun K hK => ?_) AllReadyH.nil
  go_simp
  (refine (KK.of Kz37 (rmay_ok k n g _ HP.out.1 HGP.out)).mono ?_; rintro e wz40 ⟨rfl, Kz40⟩; clear Kz37; clear z37_x z37_y z37_c0 z37_c1 z37_c2 z37_c3 z37_c4 z37_c5 z37_c6 z37_c7 z37_c8 z37_c9 z37_c10 z37_c11 z37_c12 z37_c13 z37_c14 z37_c15 z37_c16 z37_c17; have z40_x := Kz40.2.2.1.conv; have z40_y := Kz40.2.2.2.conv; have z40_c0 : wz40.cell? ⟨w3.heap.size, 0, none⟩ = some (.int .i64 x1) := Kz40.2.1.cell 4 0 rfl rfl; have z40_c1 : wz40.cell? ⟨w3.heap.size, 1, none⟩ = some (.int .i64 x2) := Kz40.2.1.cell 4 1 rfl rfl; have z40_c2 : wz40.cell? ⟨w3.heap.size, 2, none⟩ = some (.int .u32 x3) := Kz40.2.1.cell 4 2 rfl rfl; have z40_c3 : wz40.cell? ⟨w4.heap.size, 0, none⟩ = some (.int .i64 x1) := Kz40.2.1.cell 3 0 rfl rfl; have z40_c4 : wz40.cell? ⟨w4.heap.size, 1, none⟩ = some (.int .i64 x2) := Kz40.2.1.cell 3 1 rfl rfl; have z40_c5 : wz40.cell? ⟨w4.heap.size, 2, none⟩ = some (.int .u32 x3) := Kz40.2.1.cell 3 2 rfl rfl; have z40_c6 : wz40.cell? ⟨w5.heap.size, 0, none⟩ = some (.int .i64 y1) := Kz40.2.1.cell 2 0 rfl rfl; have z40_c7 : wz40.cell? ⟨w5.heap.size, 1, none⟩ = some (.int .i64 y2) := Kz40.2.1.cell 2 1 rfl rfl; have z40_c8 : wz40.cell? ⟨w5.heap.size, 2, none⟩ = some (.int .u32 y3) := Kz40.2.1.cell 2 2 rfl rfl; have z40_c9 : wz40.cell? ⟨w6.heap.size, 0, none⟩ = some (.int .i64 y1) := Kz40.2.1.cell 1 0 rfl rfl; have z40_c10 : wz40.cell? ⟨w6.heap.size, 1, none⟩ = some (.int .i64 y2) := Kz40.2.1.cell 1 1 rfl rfl; have z40_c11 : wz40.cell? ⟨w6.heap.size, 2, none⟩ = some (.int .u32 y3) := Kz40.2.1.cell 1 2 rfl rfl; have z40_c12 : wz40.cell? ⟨w.heap.size + 1 + 1, 0, none⟩ = some (.int .i64 k) := Kz40.2.1.cell 5 0 rfl rfl; have z40_c13 : wz40.cell? ⟨w.heap.size + 1 + 1, 1, none⟩ = some (.int .i64 n) := Kz40.2.1.cell 5 1 rfl rfl; have z40_c14 : wz40.cell? ⟨w.heap.size + 1 + 1, 2, none⟩ = some (.int .u32 g) := Kz40.2.1.cell 5 2 rfl rfl; have z40_c15 : wz40.cell? ⟨w.heap.size, 0, none⟩ = some (.int .i64 k) := Kz40.2.1.cell 7 0 rfl rfl; have z40_c16 : wz40.cell? ⟨w.heap.size, 1, none⟩ = some (.int .i64 n) := Kz40.2.1.cell 7 1 rfl rfl; have z40_c17 : wz40.cell? ⟨w.heap.size, 2, none⟩ = some (.int .u32 g) := Kz40.2.1.cell 7 2 rfl rfl; skip)
  (try go_wp2_with fail)
  refine hK.out _ _ ?_ (fun hHeld => ?_)
  · (try dsimp only)
    go_keep
  clear hK K
  (try simp only [Act.put, List.setIfInBounds_toArray, List.set_cons_zero, List.set_cons_succ])
  refine wpAnyH_take (i := 41) (oi := { dst := some 152, op := Op.binOp BinOp.eql 4 (Operand.tmp 149) (Operand.tmp 151) 4, type := 4, pos := "law.go:51", after := #[{ on := 38, ground := Ground.data }, { on := 40, ground := Ground.data }, { on := 35, ground := Ground.guard }], guard := some (35, true) }) (v := ?_) rfl (by kernel_rfl) (by kernel_rfl) (by kernel_rfl) (fun _ _ _ h => h) (Or.inl ⟨by rfl, ?_⟩) (by assumption) ?_
  rotate_left
  · intro w hSw
    (try dsimp only at hSw)
    go_simp
    (try with_reducible rfl)
  (try simp only [Act.put, List.setIfInBounds_toArray, List.set_cons_zero, List.set_cons_succ])
  refine wpAnyH_take (i := 42) (oi := { dst := some 153, op := Op.pick (Operand.tmp 146) (Operand.tmp 152) (Operand.const (Value.bool false)), type := 4, pos := "law.go:51", after := #[{ on := 35, ground := Ground.data }, { on := 41, ground := Ground.data }], guard := none }) (v := ?_) rfl (by kernel_rfl) (by kernel_rfl) (by kernel_rfl) (fun _ _ _ h => h) (Or.inl ⟨by rfl, ?_⟩) (by assumption) ?_
  rotate_left
  · intro w hSw
    (try dsimp only at hSw)
    go_simp
    (try with_reducible rfl)
  (try simp only [Act.put, List.setIfInBounds_toArray, List.set_cons_zero, List.set_cons_succ])
  refine wpAnyH_take (i := 43) (oi := { dst := some 154, op := Op.move (Operand.tmp 153), type := 4, pos := "law.go:51", after := #[{ on := 42, ground := Ground.data }, { on := 40, ground := Ground.chain }], guard := none }) (v := ?_) rfl (by kernel_rfl) (by kernel_rfl) (by kernel_rfl) (fun _ _ _ h => h) (Or.inl ⟨by rfl, ?_⟩) (by assumption) ?_
  rotate_left
  · intro w hSw
    (try dsimp only at hSw)
    go_simp
    (try with_reducible rfl)
  (try simp only [Act.put, List.setIfInBounds_toArray, List.set_cons_zero, List.set_cons_succ])
  refine wpAnyH_ready (rs := [44]) (by kernel_rfl) (by simp) ?_
  refine AllReadyH.cons (o := { dst := some 155, op := Op.call { callee := Callee.value (Operand.func 28), args := #[], argTypes := #[] }, type := 4, pos := "law.go:51", after := #[{ on := 43, ground := Ground.chain }, { on := 43, ground := Ground.guard }], guard := some (43, true) }) rfl (fun K hK => ?_) AllReadyH.nil
  go_simp
  (refine (KK.sure Kz40).mono ?_; rintro e wz44 ⟨rfl, Kz44⟩; clear Kz40; clear z40_x z40_y z40_c0 z40_c1 z40_c2 z40_c3 z40_c4 z40_c5 z40_c6 z40_c7 z40_c8 z40_c9 z40_c10 z40_c11 z40_c12 z40_c13 z40_c14 z40_c15 z40_c16 z40_c17; have z44_x := Kz44.2.2.1.conv; have z44_y := Kz44.2.2.2.conv; have z44_c0 : wz44.cell? ⟨w3.heap.size, 0, none⟩ = some (.int .i64 x1) := Kz44.2.1.cell 4 0 rfl rfl; have z44_c1 : wz44.cell? ⟨w3.heap.size, 1, none⟩ = some (.int .i64 x2) := Kz44.2.1.cell 4 1 rfl rfl; have z44_c2 : wz44.cell? ⟨w3.heap.size, 2, none⟩ = some (.int .u32 x3) := Kz44.2.1.cell 4 2 rfl rfl; have z44_c3 : wz44.cell? ⟨w4.heap.size, 0, none⟩ = some (.int .i64 x1) := Kz44.2.1.cell 3 0 rfl rfl; have z44_c4 : wz44.cell? ⟨w4.heap.size, 1, none⟩ = some (.int .i64 x2) := Kz44.2.1.cell 3 1 rfl rfl; have z44_c5 : wz44.cell? ⟨w4.heap.size, 2, none⟩ = some (.int .u32 x3) := Kz44.2.1.cell 3 2 rfl rfl; have z44_c6 : wz44.cell? ⟨w5.heap.size, 0, none⟩ = some (.int .i64 y1) := Kz44.2.1.cell 2 0 rfl rfl; have z44_c7 : wz44.cell? ⟨w5.heap.size, 1, none⟩ = some (.int .i64 y2) := Kz44.2.1.cell 2 1 rfl rfl; have z44_c8 : wz44.cell? ⟨w5.heap.size, 2, none⟩ = some (.int .u32 y3) := Kz44.2.1.cell 2 2 rfl rfl; have z44_c9 : wz44.cell? ⟨w6.heap.size, 0, none⟩ = some (.int .i64 y1) := Kz44.2.1.cell 1 0 rfl rfl; have z44_c10 : wz44.cell? ⟨w6.heap.size, 1, none⟩ = some (.int .i64 y2) := Kz44.2.1.cell 1 1 rfl rfl; have z44_c11 : wz44.cell? ⟨w6.heap.size, 2, none⟩ = some (.int .u32 y3) := Kz44.2.1.cell 1 2 rfl rfl; have z44_c12 : wz44.cell? ⟨w.heap.size + 1 + 1, 0, none⟩ = some (.int .i64 k) := Kz44.2.1.cell 5 0 rfl rfl; have z44_c13 : wz44.cell? ⟨w.heap.size + 1 + 1, 1, none⟩ = some (.int .i64 n) := Kz44.2.1.cell 5 1 rfl rfl; have z44_c14 : wz44.cell? ⟨w.heap.size + 1 + 1, 2, none⟩ = some (.int .u32 g) := Kz44.2.1.cell 5 2 rfl rfl; have z44_c15 : wz44.cell? ⟨w.heap.size, 0, none⟩ = some (.int .i64 k) := Kz44.2.1.cell 7 0 rfl rfl; have z44_c16 : wz44.cell? ⟨w.heap.size, 1, none⟩ = some (.int .i64 n) := Kz44.2.1.cell 7 1 rfl rfl; have z44_c17 : wz44.cell? ⟨w.heap.size, 2, none⟩ = some (.int .u32 g) := Kz44.2.1.cell 7 2 rfl rfl; skip)
  (try go_wp2_with fail)
  refine hK.out _ _ ?_ (fun hHeld => ?_)
  · (try dsimp only)
    go_keep
  clear hK K
  (try simp only [Act.put, List.setIfInBounds_toArray, List.set_cons_zero, List.set_cons_succ])
  refine wpAnyH_take (i := 45) (oi := { dst := some 156, op := Op.pick (Operand.tmp 154) (Operand.tmp 155) (Operand.const (Value.bool false)), type := 4, pos := "law.go:51", after := #[{ on := 43, ground := Ground.data }, { on := 44, ground := Ground.data }], guard := none }) (v := ?_) rfl (by kernel_rfl) (by kernel_rfl) (by kernel_rfl) (fun _ _ _ h => h) (Or.inl ⟨by rfl, ?_⟩) (by assumption) ?_
  rotate_left
  · intro w hSw
    (try dsimp only at hSw)
    go_simp
    (try with_reducible rfl)
  (try simp only [Act.put, List.setIfInBounds_toArray, List.set_cons_zero, List.set_cons_succ])
  refine wpAnyH_take (i := 46) (oi := { dst := some 6, op := Op.assign (Operand.tmp 156), type := 4, pos := "law.go:51", after := _, guard := none }) (v := ?_) rfl (by kernel_rfl) (by kernel_rfl) (by kernel_rfl) (fun _ _ _ h => h) (Or.inl ⟨by rfl, ?_⟩) (by assumption) ?_
  rotate_left
  · intro w hSw
    (try dsimp only at hSw)
    go_simp
    (try with_reducible rfl)
  (try simp only [Act.put, List.setIfInBounds_toArray, List.set_cons_zero, List.set_cons_succ])
  refine wpAnyH_done (by kernel_rfl) ?_ _
  go_wp2_with fail
  go_ret
  exact ⟨rfl, Kz44.1.bel⟩
end Go.Proofs.YtkaddilgegimjaaDoor
