/- Fields as bytes, as the document makes them. -/
import Derived.Test.YtmabhjifldafaaaDoorWi1
namespace Go.Proofs.YtmabhjifldafaaaDoor
set_option linter.unusedVariables false
set_option linter.unusedSimpArgs false
open Go.RowKit

set_option maxRecDepth 100000 in
set_option maxHeartbeats 8000000 in
theorem renc_any (op : Option Addr) (q cq : Nat) (L : Nat → Nat) (G : Nat → Nat → Nat) (w : World) (hL : LBs w op q L G) (hq : q ≤ maxLen) (hl : ∀ i, i < q → L i ≤ 100000) :
    Calls Tryd.prog 68 #[.slice op q cq] w (EncA q L G (.int .i64 0) (.int .i64 3) w) := by
  unfold maxLen at hq
  have HLB : Hid (∀ w', Below w.heap.size w w' → LBs w' op q L G) := Lib.hid fun w' h i hi => by
    obtain ⟨b, off, od, cp, h1, h2, h3, h4, h5, h6⟩ := hL i hi
    exact ⟨b, off, od, cp, h1, cell_below h h2, h3, h4.later h, h5, h6⟩
  have HLL := Lib.hid hl
  have hq0 : (q : Int) ≤ 9223372036854775807 := by omega
  clear hL hl
  go_enter Tryd.func68, Tryd.ntmps68
  by_cases h16 : 16 < q
  · have h1 : (16 : Int) < (q : Int) := by omega
    have H16 := Lib.hid h16
    clear h16
    go_wp2_with fail
    go_ret2
    exact ⟨Below.refl _ _, .inr ⟨.inl H16.out, rfl⟩⟩
  · have h1 : ¬ (16 : Int) < (q : Int) := by omega
    have H16 : Hid (q ≤ 16) := Lib.hid (by omega)
    have q1 : (q : Int) % 256 = (q : Int) := by omega
    have q2 : IntKind.u8.wrap (q : Int) = (q : Int) := by simp [IntKind.wrap, IntKind.bits, IntKind.signed]; omega
    have H2 : Hid (JG w (.slice (some ⟨w.heap.size, 0, none⟩) 1 1) (wl L 0) (wf q L G 0) (w.alloc (.cells #[.int .u8 (q : Nat)] 5))) := Lib.hid ⟨Grow.one (Nat.le_refl _), (Below.refl _ _).alloc (Nat.le_refl _) _⟩
    clear h16
    go_wp2_with fail
    clear q1 q2
    go_loopw [4, 5] (fun x v wr => ∃ (j : Nat) (vb : Value), j ≤ q ∧ v = .int .i64 (j : Int) ∧ vb = x ∧ (∀ k, k < j → L k ≤ 1024) ∧ JG w vb (wl L j) (wf q L G j) wr) (fun _ v _ => q - (intOf v).toNat)
    case atStart => exact ⟨0, _, Nat.zero_le _, rfl, rfl, fun k hk => absurd hk (Nat.not_lt_zero _), H2.out⟩
    case round =>
      clear H2
      obtain ⟨j, vb, hj, rfl, rfl, hk1, hX⟩ := hrel
      have HY := Lib.hid hX
      have HK1 := Lib.hid hk1
      clear hX hk1
      by_cases hlj : j < q
      · as_aux_lemma =>
        have j0 : (0 : Int) ≤ (j : Int) := by omega
        have j1 : (j : Int) < (q : Int) := by omega
        have HJ : Hid (j < q ∧ q ≤ 16) := Lib.hid ⟨hlj, H16.out⟩
        obtain ⟨j2, hj2⟩ : ∃ x, j + 1 = x := ⟨_, rfl⟩
        have jw : IntKind.i64.wrap ((j : Int) + 1) = (j2 : Int) := by have := H16.out; rw [IntWalk.i64_in _ (by omega)]; omega
        obtain ⟨lb, lo, od, cpi, hop, hc0, hle, hby, hno, hcm⟩ := HLB.out _ (Below.refl _ w) j hlj
        have hlbl : lb < w.heap.size := by
          rcases Nat.lt_or_ge lb w.heap.size with h' | h'
          · exact h'
          · simp [World.cell?, Array.getElem?_eq_none h'] at hc0
        have hss : wl L (j + 1) = wl L j + 2 + L j := rfl
        have hff : wf q L G (j + 1) = catF (wl L j + 2) (catF (wl L j) (wf q L G j) (two (L j / 256) (L j % 256))) (G j) := rfl
        have hmw := wl_mono L (show j + 1 ≤ q by omega)
        have hll := HLL.out j hlj
        obtain ⟨l, hlE⟩ : ∃ l, L j = l := ⟨_, rfl⟩
        obtain ⟨g, hgE⟩ : ∃ g, G j = g := ⟨_, rfl⟩
        obtain ⟨m, hmE⟩ : ∃ m, wl L j = m := ⟨_, rfl⟩
        obtain ⟨f, hfE⟩ : ∃ f, wf q L G j = f := ⟨_, rfl⟩
        rw [hlE] at hc0 hle hby hno hll
        rw [hgE] at hby
        rw [hlE, hmE, hfE, hgE, hj2] at hff
        have HY2 : Hid (JG w vb m f wr) := Lib.hid (hmE ▸ hfE ▸ HY.out)
        have HWQ : Hid (m + 2 + l ≤ wl L q) := Lib.hid (by rw [hss, hlE, hmE] at hmw; exact hmw)
        rw [hlE, hmE, hj2] at hss
        have HSS := Lib.hid hss
        have HFF := Lib.hid hff
        have HJ2 := Lib.hid hj2
        have HLE := Lib.hid hlE
        have HBY : Hid (∀ w', Below w.heap.size w w' → Bytes w' od l g) := Lib.hid fun w' h => hby.later h
        have HNO := Lib.hid hno
        have HCE : Hid (∀ w', Below w.heap.size w w' → w'.cell? ⟨lb, lo + j, none⟩ = some (.slice od l cpi)) := Lib.hid fun w' h => cell_belowB h hlbl hc0
        have hc1 := HCE.out _ HY.out.o
        have a7 : (l : Int) ≤ 9223372036854775807 := by omega
        subst hop
        by_cases h10 : 1024 < l
        · have h2 : (1024 : Int) < (l : Int) := by omega
          have H10 := Lib.hid h10
          clear hc0 hle hby hno hcm hlbl hlE hgE hmE hfE hss hff hmw hj hlj hj2 h10 hll
          go_wp2_with fail
          go_ret2
          exact ⟨HY.out.o, .inr ⟨.inr (by have := HWQ.out; have := H10.out; omega), rfl⟩⟩
        · have h2 : ¬ (1024 : Int) < (l : Int) := by omega
          have H10 : Hid (l ≤ 1024) := Lib.hid (by omega)
          obtain ⟨h, hh⟩ : ∃ h, l / 256 = h := ⟨_, rfl⟩
          obtain ⟨r, hr⟩ : ∃ r, l % 256 = r := ⟨_, rfl⟩
          have a1 : (l : Int).tdiv 256 = (h : Int) := tdk rfl hh
          have a0 : (l : Int) / 256 = (h : Int) := by omega
          have a2 : (h : Int) % 256 = (h : Int) := by omega
          have a3 : (l : Int).tmod 256 = (r : Int) := tmk rfl hr
          have a8 : (l : Int) % 256 = (r : Int) := by omega
          have a9 : (r : Int) % 256 = (r : Int) := by omega
          have a4 : IntKind.u8.wrap (h : Int) = (h : Int) := by simp [IntKind.wrap, IntKind.bits, IntKind.signed]; omega
          have a5 : IntKind.u8.wrap (r : Int) = (r : Int) := by simp [IntKind.wrap, IntKind.bits, IntKind.signed]; omega
          have a6 : IntKind.i64.wrap (h : Int) = (h : Int) := IntWalk.i64_in _ (by omega)
          have HHR : Hid (h < 256 ∧ r < 256) := Lib.hid (by omega)
          have HMB : Hid (m < 40000) := Lib.hid (by
            rw [← hmE]
            have : ∀ n, n ≤ 16 → (∀ k, k < n → L k ≤ 1024) → wl L n ≤ 1 + 1026 * n := fun n => by
              induction n with
              | zero => intro _ _; exact Nat.le_refl _
              | succ n ih => intro h1 h2; have := ih (by omega) fun k hk => h2 k (by omega); have := h2 n (by omega); show wl L n + 2 + L n ≤ _; omega
            have h3 := this j (by have := HJ.out; omega) HK1.out
            have := HJ.out
            omega)
          rw [hh, hr] at HFF
          clear hc0 hle hby hno hcm hlbl hlE hgE hmE hfE hss hff hmw hj hlj hj2 h10 hll hh hr HY
          go_wp2_with fail
          have hP_0 : Below w.heap.size w wr.drew := HY2.out.o.drew
          have HY3 : Hid (JG w vb m f wr.drew) := Lib.hid (HY2.out.later (Below.refl _ wr).drew)
          clear hc1 HY2
          refine wp_region_held_drew (S := (Below w.heap.size w)) (by kernel_rfl) ?_ (fun hHeld => ?_)
          · (try dsimp only)
            first | assumption
          generalize wr.drew = W0 at *
          refine wpAnyH_take (i := 0) (oi := { dst := some 25, op := Go.Op.move (Go.Operand.tmp 4), type := 33, pos := "ref.go:21", after := #[], guard := none }) (v := ?_) rfl (by kernel_rfl) (by kernel_rfl) (by kernel_rfl) (fun _ _ _ h => h) (Or.inl ⟨by rfl, ?_⟩) (by assumption) ?_
          rotate_left
          · intro wS hSw
            (try dsimp only at hSw)
            go_simp
            (try with_reducible rfl)
          (try simp only [Act.put, List.setIfInBounds_toArray, List.set_cons_zero, List.set_cons_succ])
          refine wpAnyH_take (i := 1) (oi := { dst := some 26, op := Go.Op.move (Go.Operand.tmp 0), type := 34, pos := "ref.go:21", after := #[], guard := none }) (v := ?_) rfl (by kernel_rfl) (by kernel_rfl) (by kernel_rfl) (fun _ _ _ h => h) (Or.inl ⟨by rfl, ?_⟩) (by assumption) ?_
          rotate_left
          · intro wS hSw
            (try dsimp only at hSw)
            go_simp
            (try with_reducible rfl)
          (try simp only [Act.put, List.setIfInBounds_toArray, List.set_cons_zero, List.set_cons_succ])
          refine wpAnyH_take (i := 2) (oi := { dst := some 27, op := Go.Op.move (Go.Operand.tmp 5), type := 3, pos := "ref.go:21", after := #[], guard := none }) (v := ?_) rfl (by kernel_rfl) (by kernel_rfl) (by kernel_rfl) (fun _ _ _ h => h) (Or.inl ⟨by rfl, ?_⟩) (by assumption) ?_
          rotate_left
          · intro wS hSw
            (try dsimp only at hSw)
            go_simp
            (try with_reducible rfl)
          (try simp only [Act.put, List.setIfInBounds_toArray, List.set_cons_zero, List.set_cons_succ])
          refine wpAnyH_take (i := 3) (oi := { dst := some 28, op := Go.Op.indexAddr 34 (Go.Operand.tmp 26) (Go.Operand.tmp 27), type := 0, pos := "ref.go:21", after := #[{ on := 1, ground := Go.Ground.data }, { on := 2, ground := Go.Ground.data }], guard := none }) (v := ?_) rfl (by kernel_rfl) (by kernel_rfl) (by kernel_rfl) (fun _ _ _ h => h) (Or.inl ⟨by rfl, ?_⟩) (by assumption) ?_
          rotate_left
          · intro wS hSw
            (try dsimp only at hSw)
            go_simp
            (try with_reducible rfl)
          (try simp only [Act.put, List.setIfInBounds_toArray, List.set_cons_zero, List.set_cons_succ])
          refine wpAnyH_take (i := 4) (oi := { dst := some 29, op := Go.Op.load 33 (Go.Operand.tmp 28), type := 33, pos := "ref.go:21", after := #[{ on := 3, ground := Go.Ground.data }], guard := none }) (v := ?_) rfl (by kernel_rfl) (by kernel_rfl) (by kernel_rfl) (fun _ _ _ h => h) (Or.inl ⟨by rfl, ?_⟩) (by assumption) ?_
          rotate_left
          · intro wS hSw
            (have c9 := HCE.out _ hSw; go_simp; (try with_reducible rfl))
          (try simp only [Act.put, List.setIfInBounds_toArray, List.set_cons_zero, List.set_cons_succ])
          refine wpAnyH_take (i := 5) (oi := { dst := some 30, op := Go.Op.call { callee := Go.Callee.builtin Go.Builtin.len, args := #[Go.Operand.tmp 29], argTypes := #[33] }, type := 3, pos := "ref.go:21", after := #[{ on := 4, ground := Go.Ground.data }], guard := none }) (v := ?_) rfl (by kernel_rfl) (by kernel_rfl) (by kernel_rfl) (fun _ _ _ h => h) (Or.inl ⟨by rfl, ?_⟩) (by assumption) ?_
          rotate_left
          · intro wS hSw
            (try dsimp only at hSw)
            go_simp
            (try with_reducible rfl)
          (try simp only [Act.put, List.setIfInBounds_toArray, List.set_cons_zero, List.set_cons_succ])
          refine wpAnyH_take (i := 6) (oi := { dst := some 31, op := Go.Op.binOp Go.BinOp.quo 3 (Go.Operand.tmp 30) (Go.Operand.const (Go.Value.int Go.IntKind.i64 256)) 3, type := 3, pos := "ref.go:21", after := #[{ on := 5, ground := Go.Ground.data }], guard := none }) (v := ?_) rfl (by kernel_rfl) (by kernel_rfl) (by kernel_rfl) (fun _ _ _ h => h) (Or.inl ⟨by rfl, ?_⟩) (by assumption) ?_
          rotate_left
          · intro wS hSw
            (try dsimp only at hSw)
            go_simp
            (try with_reducible rfl)
          (try simp only [Act.put, List.setIfInBounds_toArray, List.set_cons_zero, List.set_cons_succ])
          refine wpAnyH_take (i := 7) (oi := { dst := some 32, op := Go.Op.convert 3 5 (Go.Operand.tmp 31), type := 5, pos := "ref.go:21", after := #[{ on := 6, ground := Go.Ground.data }], guard := none }) (v := ?_) rfl (by kernel_rfl) (by kernel_rfl) (by kernel_rfl) (fun _ _ _ h => h) (Or.inl ⟨by rfl, ?_⟩) (by assumption) ?_
          rotate_left
          · intro wS hSw
            (try dsimp only at hSw)
            go_simp
            (try with_reducible rfl)
          (try simp only [Act.put, List.setIfInBounds_toArray, List.set_cons_zero, List.set_cons_succ])
          refine wpAnyH_take (i := 8) (oi := { dst := some 33, op := Go.Op.move (Go.Operand.tmp 0), type := 34, pos := "ref.go:21", after := #[], guard := none }) (v := ?_) rfl (by kernel_rfl) (by kernel_rfl) (by kernel_rfl) (fun _ _ _ h => h) (Or.inl ⟨by rfl, ?_⟩) (by assumption) ?_
          rotate_left
          · intro wS hSw
            (try dsimp only at hSw)
            go_simp
            (try with_reducible rfl)
          (try simp only [Act.put, List.setIfInBounds_toArray, List.set_cons_zero, List.set_cons_succ])
          refine wpAnyH_take (i := 9) (oi := { dst := some 34, op := Go.Op.move (Go.Operand.tmp 5), type := 3, pos := "ref.go:21", after := #[], guard := none }) (v := ?_) rfl (by kernel_rfl) (by kernel_rfl) (by kernel_rfl) (fun _ _ _ h => h) (Or.inl ⟨by rfl, ?_⟩) (by assumption) ?_
          rotate_left
          · intro wS hSw
            (try dsimp only at hSw)
            go_simp
            (try with_reducible rfl)
          (try simp only [Act.put, List.setIfInBounds_toArray, List.set_cons_zero, List.set_cons_succ])
          refine wpAnyH_take (i := 10) (oi := { dst := some 35, op := Go.Op.indexAddr 34 (Go.Operand.tmp 33) (Go.Operand.tmp 34), type := 0, pos := "ref.go:21", after := #[{ on := 8, ground := Go.Ground.data }, { on := 9, ground := Go.Ground.data }], guard := none }) (v := ?_) rfl (by kernel_rfl) (by kernel_rfl) (by kernel_rfl) (fun _ _ _ h => h) (Or.inl ⟨by rfl, ?_⟩) (by assumption) ?_
          rotate_left
          · intro wS hSw
            (try dsimp only at hSw)
            go_simp
            (try with_reducible rfl)
          (try simp only [Act.put, List.setIfInBounds_toArray, List.set_cons_zero, List.set_cons_succ])
          refine wpAnyH_take (i := 11) (oi := { dst := some 36, op := Go.Op.load 33 (Go.Operand.tmp 35), type := 33, pos := "ref.go:21", after := #[{ on := 10, ground := Go.Ground.data }], guard := none }) (v := ?_) rfl (by kernel_rfl) (by kernel_rfl) (by kernel_rfl) (fun _ _ _ h => h) (Or.inl ⟨by rfl, ?_⟩) (by assumption) ?_
          rotate_left
          · intro wS hSw
            (have c9 := HCE.out _ hSw; go_simp; (try with_reducible rfl))
          (try simp only [Act.put, List.setIfInBounds_toArray, List.set_cons_zero, List.set_cons_succ])
          refine wpAnyH_take (i := 12) (oi := { dst := some 37, op := Go.Op.call { callee := Go.Callee.builtin Go.Builtin.len, args := #[Go.Operand.tmp 36], argTypes := #[33] }, type := 3, pos := "ref.go:21", after := #[{ on := 11, ground := Go.Ground.data }], guard := none }) (v := ?_) rfl (by kernel_rfl) (by kernel_rfl) (by kernel_rfl) (fun _ _ _ h => h) (Or.inl ⟨by rfl, ?_⟩) (by assumption) ?_
          rotate_left
          · intro wS hSw
            (try dsimp only at hSw)
            go_simp
            (try with_reducible rfl)
          (try simp only [Act.put, List.setIfInBounds_toArray, List.set_cons_zero, List.set_cons_succ])
          refine wpAnyH_take (i := 13) (oi := { dst := some 38, op := Go.Op.binOp Go.BinOp.rem 3 (Go.Operand.tmp 37) (Go.Operand.const (Go.Value.int Go.IntKind.i64 256)) 3, type := 3, pos := "ref.go:21", after := #[{ on := 12, ground := Go.Ground.data }], guard := none }) (v := ?_) rfl (by kernel_rfl) (by kernel_rfl) (by kernel_rfl) (fun _ _ _ h => h) (Or.inl ⟨by rfl, ?_⟩) (by assumption) ?_
          rotate_left
          · intro wS hSw
            (try dsimp only at hSw)
            go_simp
            (try with_reducible rfl)
          (try simp only [Act.put, List.setIfInBounds_toArray, List.set_cons_zero, List.set_cons_succ])
          refine wpAnyH_take (i := 14) (oi := { dst := some 39, op := Go.Op.convert 3 5 (Go.Operand.tmp 38), type := 5, pos := "ref.go:21", after := #[{ on := 13, ground := Go.Ground.data }], guard := none }) (v := ?_) rfl (by kernel_rfl) (by kernel_rfl) (by kernel_rfl) (fun _ _ _ h => h) (Or.inl ⟨by rfl, ?_⟩) (by assumption) ?_
          rotate_left
          · intro wS hSw
            (try dsimp only at hSw)
            go_simp
            (try with_reducible rfl)
          (try simp only [Act.put, List.setIfInBounds_toArray, List.set_cons_zero, List.set_cons_succ])
          refine wpAnyH_take (i := 17) (oi := { dst := some 42, op := Go.Op.move (Go.Operand.tmp 0), type := 34, pos := "ref.go:21", after := #[], guard := none }) (v := ?_) rfl (by kernel_rfl) (by kernel_rfl) (by kernel_rfl) (fun _ _ _ h => h) (Or.inl ⟨by rfl, ?_⟩) (by assumption) ?_
          rotate_left
          · intro wS hSw
            (try dsimp only at hSw)
            go_simp
            (try with_reducible rfl)
          (try simp only [Act.put, List.setIfInBounds_toArray, List.set_cons_zero, List.set_cons_succ])
          refine wpAnyH_take (i := 18) (oi := { dst := some 43, op := Go.Op.move (Go.Operand.tmp 5), type := 3, pos := "ref.go:21", after := #[], guard := none }) (v := ?_) rfl (by kernel_rfl) (by kernel_rfl) (by kernel_rfl) (fun _ _ _ h => h) (Or.inl ⟨by rfl, ?_⟩) (by assumption) ?_
          rotate_left
          · intro wS hSw
            (try dsimp only at hSw)
            go_simp
            (try with_reducible rfl)
          (try simp only [Act.put, List.setIfInBounds_toArray, List.set_cons_zero, List.set_cons_succ])
          refine wpAnyH_take (i := 19) (oi := { dst := some 44, op := Go.Op.indexAddr 34 (Go.Operand.tmp 42) (Go.Operand.tmp 43), type := 0, pos := "ref.go:21", after := #[{ on := 17, ground := Go.Ground.data }, { on := 18, ground := Go.Ground.data }], guard := none }) (v := ?_) rfl (by kernel_rfl) (by kernel_rfl) (by kernel_rfl) (fun _ _ _ h => h) (Or.inl ⟨by rfl, ?_⟩) (by assumption) ?_
          rotate_left
          · intro wS hSw
            (try dsimp only at hSw)
            go_simp
            (try with_reducible rfl)
          (try simp only [Act.put, List.setIfInBounds_toArray, List.set_cons_zero, List.set_cons_succ])
          refine wpAnyH_take (i := 20) (oi := { dst := some 45, op := Go.Op.load 33 (Go.Operand.tmp 44), type := 33, pos := "ref.go:21", after := #[{ on := 19, ground := Go.Ground.data }], guard := none }) (v := ?_) rfl (by kernel_rfl) (by kernel_rfl) (by kernel_rfl) (fun _ _ _ h => h) (Or.inl ⟨by rfl, ?_⟩) (by assumption) ?_
          rotate_left
          · intro wS hSw
            (have c9 := HCE.out _ hSw; go_simp; (try with_reducible rfl))
          (try simp only [Act.put, List.setIfInBounds_toArray, List.set_cons_zero, List.set_cons_succ])
          refine wpAnyH_ready (rs := [15]) (by kernel_rfl) (by simp) ?_
          refine AllReadyH.cons (o := { dst := some 40, op := Go.Op.buildSlice 33 2 #[(0, Go.Operand.tmp 32), (1, Go.Operand.tmp 39)], type := 33, pos := "ref.go:21", after := #[{ on := 7, ground := Go.Ground.data }, { on := 14, ground := Go.Ground.data }], guard := none }) rfl (fun K hK => ?_) AllReadyH.nil
          go_simp
          (have HA : Hid (JG w vb m f (W0.alloc (.cells #[.int .u8 (h : Int), .int .u8 (r : Int)] 5))) := Lib.hid (HY3.out.later ((Below.refl _ _).alloc (Nat.le_refl _) _)); have hP_1 : Below w.heap.size w (W0.alloc (.cells #[.int .u8 (h : Int), .int .u8 (r : Int)] 5)) := HA.out.o; clear hP_0 HY3; skip)
          (try go_wp2_with fail)
          refine hK.out _ _ ?_ (fun hHeld => ?_)
          · (try dsimp only)
            first | assumption
          clear hK K
          (try simp only [Act.put, List.setIfInBounds_toArray, List.set_cons_zero, List.set_cons_succ])
          refine wpAnyH_ready (rs := [16]) (by kernel_rfl) (by simp) ?_
          refine AllReadyH.cons (o := { dst := some 41, op := Go.Op.call { callee := Go.Callee.builtin Go.Builtin.append, args := #[Go.Operand.tmp 25, Go.Operand.tmp 40], argTypes := #[33, 33] }, type := 33, pos := "ref.go:21", after := #[{ on := 0, ground := Go.Ground.data }, { on := 15, ground := Go.Ground.data }], guard := none }) rfl (fun K hK => ?_) AllReadyH.nil
          (refine step_appO rfl (.tmp 25) (.tmp 40) (by rfl) w.heap.size vb m 2 2 (some ⟨W0.heap.size, 0, none⟩) f (two h r) _ (by rfl) HA.out.g (by rfl) (fun e => by cases e) (ob2 HHR.out.1 HHR.out.2) (by have := HMB.out; omega) HA.out.o.size ?_; intro v6 w6 hG6 hg6 hob6; have H6 := Lib.hid (HA.out.grew hg6 hG6); have hP_2 : Below w.heap.size w w6 := H6.out.o; clear hG6 hg6 hob6 HA hP_1; skip)
          refine hK.out _ _ ?_ (fun hHeld => ?_)
          · (try dsimp only)
            first | assumption
          clear hK K
          (try simp only [Act.put, List.setIfInBounds_toArray, List.set_cons_zero, List.set_cons_succ])
          refine wpAnyH_ready (rs := [21]) (by kernel_rfl) (by simp) ?_
          refine AllReadyH.cons (o := { dst := some 46, op := Go.Op.call { callee := Go.Callee.builtin Go.Builtin.append, args := #[Go.Operand.tmp 41, Go.Operand.tmp 45], argTypes := #[33, 33] }, type := 33, pos := "ref.go:21", after := #[{ on := 16, ground := Go.Ground.data }, { on := 20, ground := Go.Ground.data }, { on := 16, ground := Go.Ground.chain }], guard := none }) rfl (fun K hK => ?_) AllReadyH.nil
          (refine step_appO rfl (.tmp 41) (.tmp 45) (by rfl) w.heap.size v6 (m + 2) l cpi od (catF m f (two h r)) g _ (by rfl) H6.out.g (by rfl) HNO.out (HBY.out _ H6.out.o) (by have := HMB.out; have := H10.out; omega) H6.out.o.size ?_; intro v7 w7 hG7 hg7 hob7; have H7 := Lib.hid (H6.out.grew hg7 hG7); have hP_3 : Below w.heap.size w w7 := H7.out.o; clear hG7 hg7 hob7 H6 hP_2; skip)
          refine hK.out _ _ ?_ (fun hHeld => ?_)
          · (try dsimp only)
            first | assumption
          clear hK K
          (try simp only [Act.put, List.setIfInBounds_toArray, List.set_cons_zero, List.set_cons_succ])
          refine wpAnyH_take (i := 22) (oi := { dst := some 4, op := Go.Op.assign (Go.Operand.tmp 46), type := 33, pos := "ref.go:21", after := #[{ on := 21, ground := Go.Ground.data }, { on := 21, ground := Go.Ground.chain }, { on := 0, ground := Go.Ground.phase }, { on := 1, ground := Go.Ground.phase }, { on := 2, ground := Go.Ground.phase }, { on := 3, ground := Go.Ground.phase }, { on := 4, ground := Go.Ground.phase }, { on := 5, ground := Go.Ground.phase }, { on := 6, ground := Go.Ground.phase }, { on := 7, ground := Go.Ground.phase }, { on := 8, ground := Go.Ground.phase }, { on := 9, ground := Go.Ground.phase }, { on := 10, ground := Go.Ground.phase }, { on := 11, ground := Go.Ground.phase }, { on := 12, ground := Go.Ground.phase }, { on := 13, ground := Go.Ground.phase }, { on := 14, ground := Go.Ground.phase }, { on := 15, ground := Go.Ground.phase }, { on := 16, ground := Go.Ground.phase }, { on := 17, ground := Go.Ground.phase }, { on := 18, ground := Go.Ground.phase }, { on := 19, ground := Go.Ground.phase }, { on := 20, ground := Go.Ground.phase }, { on := 21, ground := Go.Ground.phase }], guard := none }) (v := ?_) rfl (by kernel_rfl) (by kernel_rfl) (by kernel_rfl) (fun _ _ _ h => h) (Or.inl ⟨by rfl, ?_⟩) (by assumption) ?_
          rotate_left
          · intro wS hSw
            (try dsimp only at hSw)
            go_simp
            (try with_reducible rfl)
          (try simp only [Act.put, List.setIfInBounds_toArray, List.set_cons_zero, List.set_cons_succ])
          refine wpAnyH_done (by kernel_rfl) ?_ _
          clear hP_3 a0 a1 a2 a3 a4 a5 a6 a8 a9
          go_wp2_with fail
          go_roundw
          case rel => exact ⟨j2, _, by have := HJ.out; have := HJ2.out; omega, rfl, rfl, fun k hk => (by
            by_cases e : k < j
            · exact HK1.out k e
            · obtain rfl : k = j := by have := HJ2.out; omega
              rw [HLE.out]; exact H10.out), by rw [HSS.out, HFF.out]; exact H7.out⟩
          case measure => have := HJ.out; have := HJ2.out; simp [intOf] <;> omega
      · obtain rfl : j = q := by omega
        obtain ⟨o7, c7, hv7, hB7, hc7, hn7⟩ := HY.out.g.bytesC (wf_lt (by have := H16.out; omega) j (fun k hk => by have := HK1.out k hk; omega) (fun k hk x hx => by
          obtain ⟨_, _, _, _, _, _, _, h4, _, _⟩ := HLB.out _ (Below.refl _ w) k hk
          exact (h4 x hx).1))
        subst hv7
        obtain ⟨a7, rfl⟩ : ∃ a, o7 = some a := by
          obtain ⟨_, b, off, e, _⟩ := hB7 0 (by have := wl_pos L j; omega)
          exact ⟨_, e⟩
        obtain ⟨cm7⟩ : c7 ≤ maxLen ∧ True := ⟨by
          rcases HY.out.g.2 with ⟨h, _⟩ | ⟨_, cap, _, h, _, _, _, hm, _⟩
          · cases h
          · cases h; exact hm, trivial⟩
        have HB7 := Lib.hid hB7
        have HC7 := Lib.hid (And.intro hc7 cm7)
        obtain ⟨m, hmE⟩ : ∃ m, wl L j = m := ⟨_, rfl⟩
        have HME := Lib.hid hmE
        rw [hmE] at HB7 HC7 ⊢
        clear hB7 hc7 hn7 hj hlj cm7
        by_cases h10 : 1024 < m
        · have h2 : (1024 : Int) < (m : Int) := by omega
          have H10 := Lib.hid h10
          clear h10 hmE
          go_wp2_with fail
          go_ret2
          exact ⟨HY.out.o, .inr ⟨.inr (by rw [HME.out]; exact H10.out), rfl⟩⟩
        · have h2 : ¬ (1024 : Int) < (m : Int) := by omega
          have H10 : Hid (m ≤ 1024) := Lib.hid (by omega)
          clear h10 hmE
          go_wp2_with fail
          go_ret2
          unfold EncA
          rw [HME.out]
          exact ⟨HY.out.o, .inl ⟨H16.out, H10.out, a7, c7, rfl, HB7.out, HC7.out.1, HC7.out.2⟩⟩
end Go.Proofs.YtmabhjifldafaaaDoor
