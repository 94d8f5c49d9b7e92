/- The walk of SboxExact. -/
import Derived.Test.YtkkghbndlhmboaaSe2
import Derived.Test.YtkkghbndlhmboaaSbl
import Derived.Deep.RegionHeld3
namespace Go.Proofs.Ytkkghbndlhmboaa
set_option linter.unusedVariables false
set_option linter.unusedSimpArgs false
open Go.RowKit

set_option maxRecDepth 100000 in
set_option maxHeartbeats 1000000 in
theorem word_nil (x : Int) (w : World) (hx : 0 ≤ x ∧ x < 4294967296) :
    Calls Try.prog 8 #[.pointer none, .int .u32 x] w fun e w' => e = .returned (.int .u32 0) ∧ w = w' := by
  obtain ⟨h0, h1⟩ := hx
  go_enter Try.func8, Try.ntmps8
  go_wp2_with (go_at_call 6; refine (sub_nil _ _).mono ?_; rintro e w' ⟨rfl, rfl⟩)
  go_ret
  exact ⟨rfl, rfl⟩
theorem wordI_of {m c0 c1 c2 c3 : Nat} (h0 : (m : Int) / 16777216 = (c0 : Int)) (h1 : (m : Int) / 65536 % 256 = (c1 : Int)) (h2 : (m : Int) / 256 % 256 = (c2 : Int)) (h3 : (m : Int) % 256 = (c3 : Int)) :
    wordI (m : Int) = (subN c0 : Int) * 16777216 + (subN c1 : Int) * 65536 + (subN c2 : Int) * 256 + (subN c3 : Int) := by
  unfold wordI subI
  rw [h0, h1, h2, h3]
  simp only [Int.toNat_natCast]
set_option maxRecDepth 100000 in
set_option maxHeartbeats 8000000 in
theorem exact_walk (x m : Nat) (w : World) (hx : x < 256) (hm : m < 4294967296) :
    Calls Try.prog 3 #[.int .u8 (x : Int), .int .u32 (m : Int)] w fun e w' => e = .returned (.bool true) ∧ Below w.heap.size w w' := by
  have hz := zero256_run
  have HX := Lib.hid hx
  have HBx := Lib.hid (B8_nat hx)
  obtain ⟨s, hs⟩ : ∃ s, subN x = s := ⟨_, rfl⟩
  have HS := Lib.hid hs
  have HSy : Hid (((subN (x : Int).toNat : Nat) : Int) = (s : Int)) := Lib.hid (by rw [Int.toNat_natCast, hs])
  obtain ⟨c0, h0⟩ : ∃ c : Nat, (m : Int) / 16777216 = (c : Int) := ⟨m / 16777216, by omega⟩
  obtain ⟨c1, h1⟩ : ∃ c : Nat, (m : Int) / 65536 % 256 = (c : Int) := ⟨m / 65536 % 256, by omega⟩
  obtain ⟨c2, h2⟩ : ∃ c : Nat, (m : Int) / 256 % 256 = (c : Int) := ⟨m / 256 % 256, by omega⟩
  obtain ⟨c3, h3⟩ : ∃ c : Nat, (m : Int) % 256 = (c : Int) := ⟨m % 256, by omega⟩
  have b0 : c0 < 256 := by omega
  have b1 : c1 < 256 := by omega
  have b2 : c2 < 256 := by omega
  have b3 : c3 < 256 := by omega
  have hw := wordI_of h0 h1 h2 h3
  have l0 := subN_lt c0
  have l1 := subN_lt c1
  have l2 := subN_lt c2
  have l3 := subN_lt c3
  obtain ⟨s0, hs0⟩ : ∃ s, subN c0 = s := ⟨_, rfl⟩
  obtain ⟨s1, hs1⟩ : ∃ s, subN c1 = s := ⟨_, rfl⟩
  obtain ⟨s2, hs2⟩ : ∃ s, subN c2 = s := ⟨_, rfl⟩
  obtain ⟨s3, hs3⟩ : ∃ s, subN c3 = s := ⟨_, rfl⟩
  rw [hs0] at l0 hw
  rw [hs1] at l1 hw
  rw [hs2] at l2 hw
  rw [hs3] at l3 hw
  have HW := Lib.hid hw
  have H0 := Lib.hid h0
  have H1 := Lib.hid h1
  have H2 := Lib.hid h2
  have H3 := Lib.hid h3
  have HS0 := Lib.hid hs0
  have HS1 := Lib.hid hs1
  have HS2 := Lib.hid hs2
  have HS3 := Lib.hid hs3
  have L0 : (s0 : Int) < 256 := by omega
  have L1 : (s1 : Int) < 256 := by omega
  have L2 : (s2 : Int) < 256 := by omega
  have L3 : (s3 : Int) < 256 := by omega
  have HB0 := Lib.hid b0
  have HB1 := Lib.hid b1
  have HB2 := Lib.hid b2
  have HB3 := Lib.hid b3
  have HMM : Hid ((0 : Int) ≤ (m : Int) ∧ (m : Int) < 4294967296) := Lib.hid (by omega)
  have m0 : (0 : Int) ≤ (m : Int) := by omega
  have m1 : (m : Int) < 4294967296 := by omega
  have x0 : (0 : Int) ≤ (x : Int) := by omega
  have x1 : (x : Int) < 256 := by omega
  clear hx hm hs h0 h1 h2 h3 b0 b1 b2 b3 hw l0 l1 l2 l3 hs0 hs1 hs2 hs3
  go_enter Try.func3, Try.ntmps3
  go_wp2_with fail
  refine (sbnew_any _).mono ?_
  rintro e w0 ⟨rfl, hT0, hb0⟩
  have HT0 := Lib.hid hT0
  have HO0 := Lib.hid hb0
  clear hT0 hb0
  go_wp2_with fail
  refine (table_any _).mono ?_
  rintro e w1 ⟨rfl, hb1⟩
  have hT1 := HT0.out.below hb1
  have hO1 : Below w.heap.size w w1 := HO0.out.trans (hb1.mono HO0.out.size)
  have hlt := hT1.lt
  have hN0 : Blk (w1.alloc (.cells zero256 25)) w1.heap.size zero256 25 := Blk.new _ _ _
  have hN : Blk ((w1.alloc (.cells zero256 25)).setCells w1.heap.size 0 (rowC 256 subN).toArray.toList) w1.heap.size (rowC 256 subN).toArray 25 := Blk.setCells hN0 (rowC 256 subN) (by simp [zero256, rowC_len])
  have hOw : Own w1.heap.size (w1.alloc (.cells zero256 25)) ((w1.alloc (.cells zero256 25)).setCells w1.heap.size 0 (rowC 256 subN).toArray.toList) := Own.setCells _ _ _
  have HTh : Hid ((w1.alloc (.cells zero256 25)).there w1.heap.size 0 (rowC 256 subN).toArray.size) := Lib.hid (Blk.there hN0 (by simp [zero256, rowC_len]))
  have HI : Hid ((Try.prog.info? 25).map (·.size) = some (rowC 256 subN).toArray.size) := Lib.hid (by rw [List.size_toArray, rowC_len]; exact size256)
  have HON := Lib.hid (one256 subN)
  have HT2 : Hid (BoxIn ((w1.alloc (.cells zero256 25)).setCells w1.heap.size 0 (rowC 256 subN).toArray.toList) w.heap.size) := Lib.hid ((hT1.below ((Below.refl _ _).alloc (Nat.le_refl _) _)).own hOw (by omega))
  have HO2 : Hid (Below w.heap.size w ((w1.alloc (.cells zero256 25)).setCells w1.heap.size 0 (rowC 256 subN).toArray.toList)) := Lib.hid ((hO1.alloc hO1.size _).trans (hOw.below hO1.size (by have := hO1.size; simp; omega)))
  have HA : Hid (Arr ((w1.alloc (.cells zero256 25)).setCells w1.heap.size 0 (rowC 256 subN).toArray.toList) w1.heap.size subN) := Lib.hid hN
  have HNE := Lib.hid (show w1.heap.size ≠ w.heap.size by omega)
  clear hb1 hT1 hO1 hlt hN0 hN hOw HT0 HO0
  obtain ⟨C, hC⟩ : ∃ C, (rowC 256 subN).toArray = C := ⟨_, rfl⟩
  rw [hC] at HTh HI HON HT2 HO2 HA
  rw [hC]
  clear hC
  go_wp2_with (refine wpList_store_mid rfl 25 (.tmp 7) (.tmp 11) rfl w1.heap.size 0 C rfl rfl HTh.out HI.out HON.out ?_)
  obtain ⟨w2, hw2⟩ : ∃ W, (w1.alloc (.cells zero256 25)).setCells w1.heap.size 0 C.toList = W := ⟨_, rfl⟩
  rw [hw2] at HT2 HO2 HA
  rw [hw2]
  clear hw2 HTh HI HON hz
  have y0 : w2.cell? ⟨w1.heap.size, x, none⟩ = some (.int .u8 (s : Int)) := by rw [← HS.out]; exact HA.out.cell HX.out
  have HTd : Hid (BoxIn w2.drew w.heap.size) := Lib.hid HT2.out
  have HAd : Hid (Arr w2.drew w1.heap.size subN) := Lib.hid HA.out
  have HOd : Hid (Below w.heap.size w w2.drew) := Lib.hid HO2.out.drew
  clear HT2 HA HO2
  go_wp2_with fail
  refine wp_region_held_drew (S := (fun w' => w'.cell? ⟨w1.heap.size, x, none⟩ = some (.int .u8 (s : Int)))) (by kernel_rfl) ?_ (fun hHeld => ?_)
  · (try dsimp only)
    go_keep
  refine wpAnyH_take (i := 0) (oi := { dst := some 12, op := Go.Op.move (Go.Operand.tmp 5), type := 23, pos := "law.go:20", after := #[], guard := none }) (v := ?_) rfl (by kernel_rfl) (by kernel_rfl) (by kernel_rfl) (fun _ _ _ h => h) (Or.inl ⟨by rfl, ?_⟩) (by assumption) ?_
  rotate_left
  · intro w hSw
    (try dsimp only at hSw)
    go_simp
    (try with_reducible rfl)
  (try simp only [Act.put, List.setIfInBounds_toArray, List.set_cons_zero, List.set_cons_succ])
  refine wpAnyH_take (i := 1) (oi := { dst := some 13, op := Go.Op.move (Go.Operand.tmp 0), type := 5, pos := "law.go:20", after := #[], guard := none }) (v := ?_) rfl (by kernel_rfl) (by kernel_rfl) (by kernel_rfl) (fun _ _ _ h => h) (Or.inl ⟨by rfl, ?_⟩) (by assumption) ?_
  rotate_left
  · intro w hSw
    (try dsimp only at hSw)
    go_simp
    (try with_reducible rfl)
  (try simp only [Act.put, List.setIfInBounds_toArray, List.set_cons_zero, List.set_cons_succ])
  refine wpAnyH_ready (rs := [2]) (by kernel_rfl) (by simp) ?_
  refine AllReadyH.cons (o := { dst := some 14, op := Go.Op.call { callee := Go.Callee.value (Go.Operand.func 6), args := #[Go.Operand.tmp 12, Go.Operand.tmp 13], argTypes := #[23, 5] }, type := 5, pos := "law.go:20", after := #[{ on := 0, ground := Go.Ground.data }, { on := 1, ground := Go.Ground.data }], guard := none }) rfl (fun K hK => ?_) AllReadyH.nil
  go_simp
  (refine (sub_nil _ _).mono ?_; rintro e w9 ⟨rfl, rfl⟩; skip)
  (try go_wp2_with fail)
  refine hK.out _ _ ?_ (fun hHeld => ?_)
  · (try dsimp only)
    go_keep
  clear hK K
  (try simp only [Act.put, List.setIfInBounds_toArray, List.set_cons_zero, List.set_cons_succ])
  refine wpAnyH_take (i := 3) (oi := { dst := some 15, op := Go.Op.binOp Go.BinOp.neq 5 (Go.Operand.tmp 14) (Go.Operand.const (Go.Value.int Go.IntKind.u8 0)) 5, type := 4, pos := "law.go:20", after := #[{ on := 2, ground := Go.Ground.data }], guard := none }) (v := ?_) rfl (by kernel_rfl) (by kernel_rfl) (by kernel_rfl) (fun _ _ _ h => h) (Or.inl ⟨by rfl, ?_⟩) (by assumption) ?_
  rotate_left
  · intro w hSw
    (try dsimp only at hSw)
    go_simp
    (try with_reducible rfl)
  (try simp only [Act.put, List.setIfInBounds_toArray, List.set_cons_zero, List.set_cons_succ])
  refine wpAnyH_take (i := 4) (oi := { dst := some 16, op := Go.Op.move (Go.Operand.tmp 15), type := 4, pos := "law.go:20", after := #[{ on := 3, ground := Go.Ground.data }, { on := 2, ground := Go.Ground.chain }], guard := none }) (v := ?_) rfl (by kernel_rfl) (by kernel_rfl) (by kernel_rfl) (fun _ _ _ h => h) (Or.inl ⟨by rfl, ?_⟩) (by assumption) ?_
  rotate_left
  · intro w hSw
    (try dsimp only at hSw)
    go_simp
    (try with_reducible rfl)
  (try simp only [Act.put, List.setIfInBounds_toArray, List.set_cons_zero, List.set_cons_succ])
  refine wpAnyH_take (i := 5) (oi := { dst := some 17, op := Go.Op.move (Go.Operand.tmp 5), type := 23, pos := "law.go:20", after := #[{ on := 4, ground := Go.Ground.guard }], guard := some (4, false) }) (v := ?_) rfl (by kernel_rfl) (by kernel_rfl) (by kernel_rfl) (fun _ _ _ h => h) (Or.inl ⟨by rfl, ?_⟩) (by assumption) ?_
  rotate_left
  · intro w hSw
    (try dsimp only at hSw)
    go_simp
    (try with_reducible rfl)
  (try simp only [Act.put, List.setIfInBounds_toArray, List.set_cons_zero, List.set_cons_succ])
  refine wpAnyH_take (i := 6) (oi := { dst := some 18, op := Go.Op.move (Go.Operand.tmp 0), type := 5, pos := "law.go:20", after := #[{ on := 4, ground := Go.Ground.guard }], guard := some (4, false) }) (v := ?_) rfl (by kernel_rfl) (by kernel_rfl) (by kernel_rfl) (fun _ _ _ h => h) (Or.inl ⟨by rfl, ?_⟩) (by assumption) ?_
  rotate_left
  · intro w hSw
    (try dsimp only at hSw)
    go_simp
    (try with_reducible rfl)
  (try simp only [Act.put, List.setIfInBounds_toArray, List.set_cons_zero, List.set_cons_succ])
  refine wpAnyH_ready (rs := [7]) (by kernel_rfl) (by simp) ?_
  refine AllReadyH.cons (o := { dst := some 19, op := Go.Op.call { callee := Go.Callee.value (Go.Operand.func 7), args := #[Go.Operand.tmp 17, Go.Operand.tmp 18], argTypes := #[23, 5] }, type := 5, pos := "law.go:20", after := #[{ on := 5, ground := Go.Ground.data }, { on := 6, ground := Go.Ground.data }, { on := 4, ground := Go.Ground.chain }, { on := 4, ground := Go.Ground.guard }], guard := some (4, false) }) rfl (fun K hK => ?_) AllReadyH.nil
  go_simp
  (refine (back_nil _ _).mono ?_; rintro e w9 ⟨rfl, rfl⟩; skip)
  (try go_wp2_with fail)
  refine hK.out _ _ ?_ (fun hHeld => ?_)
  · (try dsimp only)
    go_keep
  clear hK K
  (try simp only [Act.put, List.setIfInBounds_toArray, List.set_cons_zero, List.set_cons_succ])
  refine wpAnyH_take (i := 8) (oi := { dst := some 20, op := Go.Op.binOp Go.BinOp.neq 5 (Go.Operand.tmp 19) (Go.Operand.const (Go.Value.int Go.IntKind.u8 0)) 5, type := 4, pos := "law.go:20", after := #[{ on := 7, ground := Go.Ground.data }, { on := 4, ground := Go.Ground.guard }], guard := some (4, false) }) (v := ?_) rfl (by kernel_rfl) (by kernel_rfl) (by kernel_rfl) (fun _ _ _ h => h) (Or.inl ⟨by rfl, ?_⟩) (by assumption) ?_
  rotate_left
  · intro w hSw
    (try dsimp only at hSw)
    go_simp
    (try with_reducible rfl)
  (try simp only [Act.put, List.setIfInBounds_toArray, List.set_cons_zero, List.set_cons_succ])
  refine wpAnyH_take (i := 9) (oi := { dst := some 21, op := Go.Op.pick (Go.Operand.tmp 16) (Go.Operand.const (Go.Value.bool true)) (Go.Operand.tmp 20), type := 4, pos := "law.go:20", after := #[{ on := 4, ground := Go.Ground.data }, { on := 8, ground := Go.Ground.data }], guard := none }) (v := ?_) rfl (by kernel_rfl) (by kernel_rfl) (by kernel_rfl) (fun _ _ _ h => h) (Or.inl ⟨by rfl, ?_⟩) (by assumption) ?_
  rotate_left
  · intro w hSw
    (try dsimp only at hSw)
    go_simp
    (try with_reducible rfl)
  (try simp only [Act.put, List.setIfInBounds_toArray, List.set_cons_zero, List.set_cons_succ])
  refine wpAnyH_take (i := 10) (oi := { dst := some 22, op := Go.Op.move (Go.Operand.tmp 21), type := 4, pos := "law.go:20", after := #[{ on := 9, ground := Go.Ground.data }, { on := 7, ground := Go.Ground.chain }], guard := none }) (v := ?_) rfl (by kernel_rfl) (by kernel_rfl) (by kernel_rfl) (fun _ _ _ h => h) (Or.inl ⟨by rfl, ?_⟩) (by assumption) ?_
  rotate_left
  · intro w hSw
    (try dsimp only at hSw)
    go_simp
    (try with_reducible rfl)
  (try simp only [Act.put, List.setIfInBounds_toArray, List.set_cons_zero, List.set_cons_succ])
  refine wpAnyH_take (i := 11) (oi := { dst := some 23, op := Go.Op.move (Go.Operand.tmp 5), type := 23, pos := "law.go:20", after := #[{ on := 10, ground := Go.Ground.guard }], guard := some (10, false) }) (v := ?_) rfl (by kernel_rfl) (by kernel_rfl) (by kernel_rfl) (fun _ _ _ h => h) (Or.inl ⟨by rfl, ?_⟩) (by assumption) ?_
  rotate_left
  · intro w hSw
    (try dsimp only at hSw)
    go_simp
    (try with_reducible rfl)
  (try simp only [Act.put, List.setIfInBounds_toArray, List.set_cons_zero, List.set_cons_succ])
  refine wpAnyH_take (i := 12) (oi := { dst := some 24, op := Go.Op.move (Go.Operand.tmp 1), type := 22, pos := "law.go:20", after := #[{ on := 10, ground := Go.Ground.guard }], guard := some (10, false) }) (v := ?_) rfl (by kernel_rfl) (by kernel_rfl) (by kernel_rfl) (fun _ _ _ h => h) (Or.inl ⟨by rfl, ?_⟩) (by assumption) ?_
  rotate_left
  · intro w hSw
    (try dsimp only at hSw)
    go_simp
    (try with_reducible rfl)
  (try simp only [Act.put, List.setIfInBounds_toArray, List.set_cons_zero, List.set_cons_succ])
  refine wpAnyH_ready (rs := [13]) (by kernel_rfl) (by simp) ?_
  refine AllReadyH.cons (o := { dst := some 25, op := Go.Op.call { callee := Go.Callee.value (Go.Operand.func 8), args := #[Go.Operand.tmp 23, Go.Operand.tmp 24], argTypes := #[23, 22] }, type := 22, pos := "law.go:20", after := #[{ on := 11, ground := Go.Ground.data }, { on := 12, ground := Go.Ground.data }, { on := 10, ground := Go.Ground.chain }, { on := 10, ground := Go.Ground.guard }], guard := some (10, false) }) rfl (fun K hK => ?_) AllReadyH.nil
  go_simp
  (refine (word_nil _ _ HMM.out).mono ?_; rintro e w9 ⟨rfl, rfl⟩; skip)
  (try go_wp2_with fail)
  refine hK.out _ _ ?_ (fun hHeld => ?_)
  · (try dsimp only)
    go_keep
  clear hK K
  (try simp only [Act.put, List.setIfInBounds_toArray, List.set_cons_zero, List.set_cons_succ])
  refine wpAnyH_take (i := 14) (oi := { dst := some 26, op := Go.Op.binOp Go.BinOp.neq 22 (Go.Operand.tmp 25) (Go.Operand.const (Go.Value.int Go.IntKind.u32 0)) 22, type := 4, pos := "law.go:20", after := #[{ on := 13, ground := Go.Ground.data }, { on := 10, ground := Go.Ground.guard }], guard := some (10, false) }) (v := ?_) rfl (by kernel_rfl) (by kernel_rfl) (by kernel_rfl) (fun _ _ _ h => h) (Or.inl ⟨by rfl, ?_⟩) (by assumption) ?_
  rotate_left
  · intro w hSw
    (try dsimp only at hSw)
    go_simp
    (try with_reducible rfl)
  (try simp only [Act.put, List.setIfInBounds_toArray, List.set_cons_zero, List.set_cons_succ])
  refine wpAnyH_take (i := 15) (oi := { dst := some 27, op := Go.Op.pick (Go.Operand.tmp 22) (Go.Operand.const (Go.Value.bool true)) (Go.Operand.tmp 26), type := 4, pos := "law.go:20", after := #[{ on := 10, ground := Go.Ground.data }, { on := 14, ground := Go.Ground.data }], guard := none }) (v := ?_) rfl (by kernel_rfl) (by kernel_rfl) (by kernel_rfl) (fun _ _ _ h => h) (Or.inl ⟨by rfl, ?_⟩) (by assumption) ?_
  rotate_left
  · intro w hSw
    (try dsimp only at hSw)
    go_simp
    (try with_reducible rfl)
  (try simp only [Act.put, List.setIfInBounds_toArray, List.set_cons_zero, List.set_cons_succ])
  refine wpAnyH_take (i := 16) (oi := { dst := some 28, op := Go.Op.move (Go.Operand.tmp 27), type := 4, pos := "law.go:20", after := #[{ on := 15, ground := Go.Ground.data }, { on := 13, ground := Go.Ground.chain }], guard := none }) (v := ?_) rfl (by kernel_rfl) (by kernel_rfl) (by kernel_rfl) (fun _ _ _ h => h) (Or.inl ⟨by rfl, ?_⟩) (by assumption) ?_
  rotate_left
  · intro w hSw
    (try dsimp only at hSw)
    go_simp
    (try with_reducible rfl)
  (try simp only [Act.put, List.setIfInBounds_toArray, List.set_cons_zero, List.set_cons_succ])
  refine wpAnyH_take (i := 17) (oi := { dst := some 29, op := Go.Op.move (Go.Operand.tmp 6), type := 23, pos := "law.go:20", after := #[{ on := 16, ground := Go.Ground.guard }], guard := some (16, false) }) (v := ?_) rfl (by kernel_rfl) (by kernel_rfl) (by kernel_rfl) (fun _ _ _ h => h) (Or.inl ⟨by rfl, ?_⟩) (by assumption) ?_
  rotate_left
  · intro w hSw
    (try dsimp only at hSw)
    go_simp
    (try with_reducible rfl)
  (try simp only [Act.put, List.setIfInBounds_toArray, List.set_cons_zero, List.set_cons_succ])
  refine wpAnyH_take (i := 18) (oi := { dst := some 30, op := Go.Op.move (Go.Operand.tmp 0), type := 5, pos := "law.go:20", after := #[{ on := 16, ground := Go.Ground.guard }], guard := some (16, false) }) (v := ?_) rfl (by kernel_rfl) (by kernel_rfl) (by kernel_rfl) (fun _ _ _ h => h) (Or.inl ⟨by rfl, ?_⟩) (by assumption) ?_
  rotate_left
  · intro w hSw
    (try dsimp only at hSw)
    go_simp
    (try with_reducible rfl)
  (try simp only [Act.put, List.setIfInBounds_toArray, List.set_cons_zero, List.set_cons_succ])
  refine wpAnyH_take (i := 20) (oi := { dst := some 32, op := Go.Op.move (Go.Operand.tmp 0), type := 5, pos := "law.go:20", after := #[{ on := 16, ground := Go.Ground.guard }], guard := some (16, false) }) (v := ?_) rfl (by kernel_rfl) (by kernel_rfl) (by kernel_rfl) (fun _ _ _ h => h) (Or.inl ⟨by rfl, ?_⟩) (by assumption) ?_
  rotate_left
  · intro w hSw
    (try dsimp only at hSw)
    go_simp
    (try with_reducible rfl)
  (try simp only [Act.put, List.setIfInBounds_toArray, List.set_cons_zero, List.set_cons_succ])
  refine wpAnyH_ready (rs := [19]) (by kernel_rfl) (by simp) ?_
  refine AllReadyH.cons (o := { dst := some 31, op := Go.Op.call { callee := Go.Callee.value (Go.Operand.func 6), args := #[Go.Operand.tmp 29, Go.Operand.tmp 30], argTypes := #[23, 5] }, type := 5, pos := "law.go:20", after := #[{ on := 17, ground := Go.Ground.data }, { on := 18, ground := Go.Ground.data }, { on := 16, ground := Go.Ground.chain }, { on := 16, ground := Go.Ground.guard }], guard := some (16, false) }) rfl (fun K hK => ?_) AllReadyH.nil
  go_simp
  (refine (sub_i (y := (s : Int)) _ HTd.out HBx.out HSy.out).mono ?_; rintro e w19 ⟨rfl, hL19⟩; have HT19 := Lib.hid hL19.1; have HA19 : Hid (Arr w19 w1.heap.size subN) := Lib.hid (hL19.2.blk HAd.out HNE.out); have HO19 := Lib.hid (HOd.out.trans (hL19.2.below (Nat.le_refl _) HOd.out.size)); have y19 : w19.cell? ⟨w1.heap.size, x, none⟩ = some (.int .u8 (s : Int)) := (by rw [← HS.out]; exact HA19.out.cell HX.out); clear hL19 y0 HTd HAd HOd; skip)
  (try go_wp2_with fail)
  refine hK.out _ _ ?_ (fun hHeld => ?_)
  · (try dsimp only)
    go_keep
  clear hK K
  (try simp only [Act.put, List.setIfInBounds_toArray, List.set_cons_zero, List.set_cons_succ])
  refine wpAnyH_ready (rs := [21]) (by kernel_rfl) (by simp) ?_
  refine AllReadyH.cons (o := { dst := some 33, op := Go.Op.call { callee := Go.Callee.value (Go.Operand.func 9), args := #[Go.Operand.tmp 32], argTypes := #[5] }, type := 5, pos := "law.go:20", after := #[{ on := 20, ground := Go.Ground.data }, { on := 19, ground := Go.Ground.chain }, { on := 16, ground := Go.Ground.guard }], guard := some (16, false) }) rfl (fun K hK => ?_) AllReadyH.nil
  go_simp
  (refine (rsub_any x _ HX.out).mono ?_; rintro e w9 ⟨rfl, rfl⟩; rw [HS.out]; skip)
  (try go_wp2_with fail)
  refine hK.out _ _ ?_ (fun hHeld => ?_)
  · (try dsimp only)
    go_keep
  clear hK K
  (try simp only [Act.put, List.setIfInBounds_toArray, List.set_cons_zero, List.set_cons_succ])
  refine wpAnyH_take (i := 22) (oi := { dst := some 34, op := Go.Op.binOp Go.BinOp.neq 5 (Go.Operand.tmp 31) (Go.Operand.tmp 33) 5, type := 4, pos := "law.go:20", after := #[{ on := 19, ground := Go.Ground.data }, { on := 21, ground := Go.Ground.data }, { on := 16, ground := Go.Ground.guard }], guard := some (16, false) }) (v := ?_) rfl (by kernel_rfl) (by kernel_rfl) (by kernel_rfl) (fun _ _ _ h => h) (Or.inl ⟨by rfl, ?_⟩) (by assumption) ?_
  rotate_left
  · intro w hSw
    (try dsimp only at hSw)
    go_simp
    (try with_reducible rfl)
  (try simp only [Act.put, List.setIfInBounds_toArray, List.set_cons_zero, List.set_cons_succ])
  refine wpAnyH_take (i := 23) (oi := { dst := some 35, op := Go.Op.pick (Go.Operand.tmp 28) (Go.Operand.const (Go.Value.bool true)) (Go.Operand.tmp 34), type := 4, pos := "law.go:20", after := #[{ on := 16, ground := Go.Ground.data }, { on := 22, ground := Go.Ground.data }], guard := none }) (v := ?_) rfl (by kernel_rfl) (by kernel_rfl) (by kernel_rfl) (fun _ _ _ h => h) (Or.inl ⟨by rfl, ?_⟩) (by assumption) ?_
  rotate_left
  · intro w hSw
    (try dsimp only at hSw)
    go_simp
    (try with_reducible rfl)
  (try simp only [Act.put, List.setIfInBounds_toArray, List.set_cons_zero, List.set_cons_succ])
  refine wpAnyH_take (i := 24) (oi := { dst := some 36, op := Go.Op.move (Go.Operand.tmp 35), type := 4, pos := "law.go:20", after := #[{ on := 23, ground := Go.Ground.data }, { on := 21, ground := Go.Ground.chain }], guard := none }) (v := ?_) rfl (by kernel_rfl) (by kernel_rfl) (by kernel_rfl) (fun _ _ _ h => h) (Or.inl ⟨by rfl, ?_⟩) (by assumption) ?_
  rotate_left
  · intro w hSw
    (try dsimp only at hSw)
    go_simp
    (try with_reducible rfl)
  (try simp only [Act.put, List.setIfInBounds_toArray, List.set_cons_zero, List.set_cons_succ])
  refine wpAnyH_take (i := 25) (oi := { dst := some 37, op := Go.Op.move (Go.Operand.tmp 0), type := 5, pos := "law.go:20", after := #[{ on := 24, ground := Go.Ground.guard }], guard := some (24, false) }) (v := ?_) rfl (by kernel_rfl) (by kernel_rfl) (by kernel_rfl) (fun _ _ _ h => h) (Or.inl ⟨by rfl, ?_⟩) (by assumption) ?_
  rotate_left
  · intro w hSw
    (try dsimp only at hSw)
    go_simp
    (try with_reducible rfl)
  (try simp only [Act.put, List.setIfInBounds_toArray, List.set_cons_zero, List.set_cons_succ])
  refine wpAnyH_take (i := 26) (oi := { dst := some 38, op := Go.Op.indexAddr 25 (Go.Operand.tmp 7) (Go.Operand.tmp 37), type := 0, pos := "law.go:20", after := #[{ on := 25, ground := Go.Ground.data }, { on := 24, ground := Go.Ground.guard }], guard := some (24, false) }) (v := ?_) rfl (by kernel_rfl) (by kernel_rfl) (by kernel_rfl) (fun _ _ _ h => h) (Or.inl ⟨by rfl, ?_⟩) (by assumption) ?_
  rotate_left
  · intro w hSw
    (try dsimp only at hSw)
    go_simp
    (try with_reducible rfl)
  (try simp only [Act.put, List.setIfInBounds_toArray, List.set_cons_zero, List.set_cons_succ])
  refine wpAnyH_take (i := 27) (oi := { dst := some 39, op := Go.Op.load 5 (Go.Operand.tmp 38), type := 5, pos := "law.go:20", after := #[{ on := 26, ground := Go.Ground.data }, { on := 24, ground := Go.Ground.guard }], guard := some (24, false) }) (v := ?_) rfl (by kernel_rfl) (by kernel_rfl) (by kernel_rfl) (fun _ _ _ h => h) (Or.inl ⟨by rfl, ?_⟩) (by assumption) ?_
  rotate_left
  · intro w hSw
    (try dsimp only at hSw)
    go_simp
    (try with_reducible rfl)
  (try simp only [Act.put, List.setIfInBounds_toArray, List.set_cons_zero, List.set_cons_succ])
  refine wpAnyH_take (i := 28) (oi := { dst := some 40, op := Go.Op.move (Go.Operand.tmp 6), type := 23, pos := "law.go:20", after := #[{ on := 24, ground := Go.Ground.guard }], guard := some (24, false) }) (v := ?_) rfl (by kernel_rfl) (by kernel_rfl) (by kernel_rfl) (fun _ _ _ h => h) (Or.inl ⟨by rfl, ?_⟩) (by assumption) ?_
  rotate_left
  · intro w hSw
    (try dsimp only at hSw)
    go_simp
    (try with_reducible rfl)
  (try simp only [Act.put, List.setIfInBounds_toArray, List.set_cons_zero, List.set_cons_succ])
  refine wpAnyH_take (i := 29) (oi := { dst := some 41, op := Go.Op.move (Go.Operand.tmp 0), type := 5, pos := "law.go:20", after := #[{ on := 24, ground := Go.Ground.guard }], guard := some (24, false) }) (v := ?_) rfl (by kernel_rfl) (by kernel_rfl) (by kernel_rfl) (fun _ _ _ h => h) (Or.inl ⟨by rfl, ?_⟩) (by assumption) ?_
  rotate_left
  · intro w hSw
    (try dsimp only at hSw)
    go_simp
    (try with_reducible rfl)
  (try simp only [Act.put, List.setIfInBounds_toArray, List.set_cons_zero, List.set_cons_succ])
  refine wpAnyH_ready (rs := [30]) (by kernel_rfl) (by simp) ?_
  refine AllReadyH.cons (o := { dst := some 42, op := Go.Op.call { callee := Go.Callee.value (Go.Operand.func 6), args := #[Go.Operand.tmp 40, Go.Operand.tmp 41], argTypes := #[23, 5] }, type := 5, pos := "law.go:20", after := #[{ on := 28, ground := Go.Ground.data }, { on := 29, ground := Go.Ground.data }, { on := 24, ground := Go.Ground.chain }, { on := 24, ground := Go.Ground.guard }], guard := some (24, false) }) rfl (fun K hK => ?_) AllReadyH.nil
  go_simp
  (refine (sub_i (y := (s : Int)) _ HT19.out HBx.out HSy.out).mono ?_; rintro e w30 ⟨rfl, hL30⟩; have HT30 := Lib.hid hL30.1; have HA30 : Hid (Arr w30 w1.heap.size subN) := Lib.hid (hL30.2.blk HA19.out HNE.out); have HO30 := Lib.hid (HO19.out.trans (hL30.2.below (Nat.le_refl _) HO19.out.size)); have y30 : w30.cell? ⟨w1.heap.size, x, none⟩ = some (.int .u8 (s : Int)) := (by rw [← HS.out]; exact HA30.out.cell HX.out); clear hL30 y19 HT19 HA19 HO19; skip)
  (try go_wp2_with fail)
  refine hK.out _ _ ?_ (fun hHeld => ?_)
  · (try dsimp only)
    go_keep
  clear hK K
  (try simp only [Act.put, List.setIfInBounds_toArray, List.set_cons_zero, List.set_cons_succ])
  refine wpAnyH_take (i := 31) (oi := { dst := some 43, op := Go.Op.binOp Go.BinOp.neq 5 (Go.Operand.tmp 39) (Go.Operand.tmp 42) 5, type := 4, pos := "law.go:20", after := #[{ on := 27, ground := Go.Ground.data }, { on := 30, ground := Go.Ground.data }, { on := 24, ground := Go.Ground.guard }], guard := some (24, false) }) (v := ?_) rfl (by kernel_rfl) (by kernel_rfl) (by kernel_rfl) (fun _ _ _ h => h) (Or.inl ⟨by rfl, ?_⟩) (by assumption) ?_
  rotate_left
  · intro w hSw
    (try dsimp only at hSw)
    go_simp
    (try with_reducible rfl)
  (try simp only [Act.put, List.setIfInBounds_toArray, List.set_cons_zero, List.set_cons_succ])
  refine wpAnyH_take (i := 32) (oi := { dst := some 44, op := Go.Op.pick (Go.Operand.tmp 36) (Go.Operand.const (Go.Value.bool true)) (Go.Operand.tmp 43), type := 4, pos := "law.go:20", after := #[{ on := 24, ground := Go.Ground.data }, { on := 31, ground := Go.Ground.data }], guard := none }) (v := ?_) rfl (by kernel_rfl) (by kernel_rfl) (by kernel_rfl) (fun _ _ _ h => h) (Or.inl ⟨by rfl, ?_⟩) (by assumption) ?_
  rotate_left
  · intro w hSw
    (try dsimp only at hSw)
    go_simp
    (try with_reducible rfl)
  (try simp only [Act.put, List.setIfInBounds_toArray, List.set_cons_zero, List.set_cons_succ])
  refine wpAnyH_done (by kernel_rfl) ?_ _
  have d0 : w30.cell? ⟨w1.heap.size, c0, none⟩ = some (.int .u8 (s0 : Int)) := by rw [← HS0.out]; exact HA30.out.cell HB0.out
  have d1 : w30.cell? ⟨w1.heap.size, c1, none⟩ = some (.int .u8 (s1 : Int)) := by rw [← HS1.out]; exact HA30.out.cell HB1.out
  have d2 : w30.cell? ⟨w1.heap.size, c2, none⟩ = some (.int .u8 (s2 : Int)) := by rw [← HS2.out]; exact HA30.out.cell HB2.out
  have d3 : w30.cell? ⟨w1.heap.size, c3, none⟩ = some (.int .u8 (s3 : Int)) := by rw [← HS3.out]; exact HA30.out.cell HB3.out
  clear y30
  go_wp2_with fail
  go_loop [8, 9] (fun v i => ∃ (j : Nat) (z : Int), i = .int .i64 (j : Int) ∧ v = .int .u32 z ∧ (j = 0 ∧ z = 0 ∨ j = 1 ∧ z = (s0 : Int) ∨ j = 2 ∧ z = 256 * (s0 : Int) + (s1 : Int) ∨ j = 3 ∧ z = 256 * (256 * (s0 : Int) + (s1 : Int)) + (s2 : Int) ∨ j = 4 ∧ z = 256 * (256 * (256 * (s0 : Int) + (s1 : Int)) + (s2 : Int)) + (s3 : Int))) (fun _ i => 4 - (intOf i).toNat)
  case atStart => exact ⟨0, 0, rfl, rfl, .inl ⟨rfl, rfl⟩⟩
  case round =>
    obtain ⟨j, z, rfl, rfl, hj⟩ := hrel
    rcases hj with ⟨rfl, rfl⟩ | ⟨rfl, rfl⟩ | ⟨rfl, rfl⟩ | ⟨rfl, rfl⟩ | ⟨rfl, rfl⟩
    · have q := H0.out
      go_wp2_with fail
      go_round
      case rel => exact ⟨1, (s0 : Int), rfl, by go_num, .inr (.inl ⟨rfl, rfl⟩)⟩
      case measure => simp [intOf]
    · have q := H1.out
      go_wp2_with fail
      go_round
      case rel => exact ⟨2, 256 * (s0 : Int) + (s1 : Int), rfl, by go_num, .inr (.inr (.inl ⟨rfl, rfl⟩))⟩
      case measure => simp [intOf]
    · have q := H2.out
      go_wp2_with fail
      go_round
      case rel => exact ⟨3, 256 * (256 * (s0 : Int) + (s1 : Int)) + (s2 : Int), rfl, by go_num, .inr (.inr (.inr (.inl ⟨rfl, rfl⟩)))⟩
      case measure => simp [intOf]
    · have q := H3.out
      go_wp2_with fail
      go_round
      case rel => exact ⟨4, 256 * (256 * (256 * (s0 : Int) + (s1 : Int)) + (s2 : Int)) + (s3 : Int), rfl, by go_num, .inr (.inr (.inr (.inr ⟨rfl, rfl⟩)))⟩
      case measure => simp [intOf]
    · clear d0 d1 d2 d3
      go_wp2_with fail
      refine (word_i (y := 256 * (256 * (256 * (s0 : Int) + (s1 : Int)) + (s2 : Int)) + (s3 : Int)) _ HT30.out HMM.out (by rw [HW.out]; omega)).mono ?_
      rintro e w6 ⟨rfl, hL6⟩
      have HO6 := Lib.hid (HO30.out.trans (hL6.2.below (Nat.le_refl _) HO30.out.size))
      clear hL6
      go_wp2_with fail
      refine (sure_any _).mono ?_
      rintro e w7 ⟨rfl, hb7⟩
      go_wp2_with fail
      go_ret
      exact ⟨rfl, HO6.out.trans (hb7.mono HO6.out.size)⟩
end Go.Proofs.Ytkkghbndlhmboaa
