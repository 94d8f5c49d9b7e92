/- Bytes put together: the law's own sum; a row of bytes that is written over. -/
import Derived.Test.YtmhofofidmbgfaaDoorSp8
import Derived.StillTailTactics
namespace Go.Proofs.YtmhofofidmbgfaaDoor
set_option linter.unusedVariables false
set_option linter.unusedSimpArgs false
open Go.RowKit

theorem still_lit {id : Nat} {Q : Exit → Act → World → Prop} {a : Act} {w : World} {l : List Oper} (hm : Tryd.prog.follows .mixedOrders = true) (hB : Region.lexB .any l.toArray = true)
    (h : wpStill Tryd.prog l.toArray w.drew (fun a' => Q .normal a' w.drew) l a) : (Code.region id l.toArray true).wp Tryd.prog Q a w := wp_region_still_lit hm hB h
theorem still_tail {id : Nat} {Q : Exit → Act → World → Prop} {a : Act} {w : World} {l : List Oper} (n : Nat) (hm : Tryd.prog.follows .mixedOrders = true) (hB : Region.lexTailB .any l.toArray n = true)
    (h : wpStill Tryd.prog l.toArray w.drew (fun a' => wpList Tryd.prog l.toArray Q (l.drop n) a' w.drew) (l.take n) a) : (Code.region id l.toArray true).wp Tryd.prog Q a w := wp_region_still_tail n hm hB h
/-- n bytes at the head of a block. -/
def BRow (w : World) (g n : Nat) (f : Nat → Nat) : Prop := ∃ D : Array Value, Blk w g D 5 ∧ n ≤ D.size ∧ D.toList.take n = rowC n f
theorem BRow.lt {w : World} {g n : Nat} {f : Nat → Nat} (h : BRow w g n f) : g < w.heap.size := by obtain ⟨D, h, _⟩ := h; exact h.lt
theorem BRow.later {w w' : World} {g n : Nat} {f : Nat → Nat} (h : BRow w g n f) (hb : Below w.heap.size w w') : BRow w' g n f := by obtain ⟨D, h, r⟩ := h; exact ⟨D, h.below hb h.lt, r⟩
theorem BRow.own {w w' : World} {g n b : Nat} {f : Nat → Nat} (h : BRow w g n f) (hO : Own b w w') (hn : g ≠ b) : BRow w' g n f := by obtain ⟨D, h, r⟩ := h; exact ⟨D, hO.blk h hn, r⟩
theorem BRow.cell {w : World} {g n : Nat} {f : Nat → Nat} (h : BRow w g n f) {i : Nat} (hi : i < n) : w.cell? ⟨g, i, none⟩ = some (.int .u8 (f i : Nat)) := by
  obtain ⟨D, h1, h2, h3⟩ := h
  rw [Blk.cell h1, ← Array.getElem?_toList, ← List.getElem?_take_of_lt hi, h3]; exact rowC_get f hi
theorem BRow.free {w : World} {g n : Nat} {f : Nat → Nat} (h : BRow w g n f) (i : Nat) : w.frozen? ⟨g, i, none⟩ = false := by obtain ⟨D, h1, _⟩ := h; exact Blk.free h1 i
theorem BRow.set {w : World} {g n : Nat} {f : Nat → Nat} (h : BRow w g n f) (i x : Nat) : BRow (w.setCell ⟨g, i, none⟩ (.int .u8 (x : Nat))) g n (upd f i x) := by
  obtain ⟨D, h1, h2, h3⟩ := h
  exact ⟨_, h1.set i _, by rw [Array.size_setIfInBounds]; exact h2, by rw [Array.toList_setIfInBounds, List.take_set, h3, rowC_set]⟩
theorem BRow.bytes {w : World} {g n : Nat} {f : Nat → Nat} (h : BRow w g n f) (hf : ∀ i, i < n → f i < 256) : Bytes w (some ⟨g, 0, none⟩) n f := fun k hk => ⟨hf k hk, g, 0, rfl, by rw [Nat.zero_add]; exact h.cell hk⟩
theorem BRow.of_grow {w : World} {base n : Nat} {v : Value} {f : Nat → Nat} (h : Grow w base v n f) (hn : 0 < n) : ∃ g cap, v = .slice (some ⟨g, 0, none⟩) n cap ∧ base ≤ g ∧ n ≤ cap ∧ cap ≤ maxLen ∧ BRow w g n f := by
  rcases h.2 with ⟨_, h0⟩ | ⟨g, cap, cur, hv, hb, hh, hnc, hm, hsz, hcur⟩
  · omega
  · exact ⟨g, cap, hv, hb, hnc, hm, cur, hh, by omega, by rw [Nat.mul_one] at hcur; exact hcur⟩
/-- Bytes that came back, in new memory. -/
def NewB (w : World) (n : Nat) (f : Nat → Nat) (e : Ending) (w' : World) : Prop := ∃ g cap, e = .returned (.slice (some ⟨g, 0, none⟩) n cap) ∧ w.heap.size ≤ g ∧ n ≤ cap ∧ Bytes w' (some ⟨g, 0, none⟩) n f ∧ Below w.heap.size w w'
set_option maxRecDepth 100000 in
set_option maxHeartbeats 2000000 in
theorem sum_any (oa ob : Option Addr) (n ca m cb : Nat) (f g : Nat → Nat) (w : World) (ha : Bytes w oa n f) (hb : Bytes w ob m g) (hnm : n ≤ m) (hn : n ≤ 1000) (hn0 : 0 < n) :
    Calls Tryd.prog 26 #[.slice oa n ca, .slice ob m cb] w (NewB w n (fun i => f i ^^^ g i)) := by
  have HA := Lib.hid ha
  have HB := Lib.hid hb
  clear ha hb
  go_enter Tryd.func26, Tryd.ntmps26
  go_wp2_with fail
  go_loopw [5, 6] (fun v x wr => ∃ i : Nat, i ≤ n ∧ x = .int .i64 (i : Int) ∧ Grow wr w.heap.size v i (fun i => f i ^^^ g i) ∧ Below w.heap.size w wr) (fun _ x _ => n - (intOf x).toNat)
  case atStart => exact ⟨0, Nat.zero_le _, rfl, Grow.nil _ _ _, Below.refl _ _⟩
  case round =>
    obtain ⟨i, hi, rfl, hG, hbw⟩ := hrel
    have HG := Lib.hid hG
    have HBW := Lib.hid hbw
    clear hG hbw
    by_cases hlt : i < n
    · obtain ⟨h8, b1, o1, rfl, c1⟩ := (HA.out.later HBW.out) i hlt
      obtain ⟨h9, b2, o2, rfl, c2⟩ := (HB.out.later HBW.out) i (by omega)
      have hi0 : (0 : Int) ≤ (i : Int) := by omega
      have hi1 : (i : Int) < (n : Int) := by omega
      have hi2 : (i : Int) < (m : Int) := by omega
      obtain ⟨x, hx⟩ : ∃ x, f i = x := ⟨_, rfl⟩
      obtain ⟨y, hy⟩ : ∃ x, g i = x := ⟨_, rfl⟩
      rw [hx] at h8 c1
      rw [hy] at h9 c2
      obtain ⟨z, hz⟩ : ∃ q, x ^^^ y = q := ⟨_, rfl⟩
      have HZ : Hid (f i ^^^ g i = z) := Lib.hid (by rw [hx, hy, hz])
      have HZ0 := Lib.hid hz
      have HXX := Lib.hid hx
      have HYY := Lib.hid hy
      have HZ8 : Hid (z < 256) := Lib.hid (by rw [← hz]; exact xor_lt h8 h9)
      clear hx hy hz
      go_wp2_with fail
      have hP_0 : Below w.heap.size w wr.drew := HBW.out.drew
      have c1 : wr.drew.cell? ⟨b1, o1 + i, none⟩ = some (.int .u8 (x : Nat)) := c1
      have c2 : wr.drew.cell? ⟨b2, o2 + i, none⟩ = some (.int .u8 (y : Nat)) := c2
      have HG2 := Lib.hid HG.out.drew
      have HBW2 := Lib.hid HBW.out.drew
      clear HG HBW
      have HL1 : Hid (∀ w7, Below w.heap.size w w7 → w7.cell? ⟨b1, o1 + i, none⟩ = some (.int .u8 (x : Nat))) := Lib.hid fun w7 h7 => by
        obtain ⟨_, b, o, e, c⟩ := (HA.out.later h7) i hlt
        cases e; rw [HXX.out] at c; exact c
      have HL2 : Hid (∀ w7, Below w.heap.size w w7 → w7.cell? ⟨b2, o2 + i, none⟩ = some (.int .u8 (y : Nat))) := Lib.hid fun w7 h7 => by
        obtain ⟨_, b, o, e, c⟩ := (HB.out.later h7) i (by omega)
        cases e; rw [HYY.out] at c; exact c
      clear c1 c2
      refine wp_region_held_drew (S := (Below w.heap.size w)) (by kernel_rfl) ?_ (fun hHeld => ?_)
      · (try dsimp only)
        first | assumption | exact hP_0
      generalize wr.drew = W0 at *
      refine wpAnyH_take (i := 0) (oi := { dst := some 13, op := Go.Op.move (Go.Operand.tmp 5), type := 22, pos := "law.go:258", after := #[], guard := none }) (v := ?_) rfl (by kernel_rfl) (by kernel_rfl) (by kernel_rfl) (fun _ _ _ h => h) (Or.inl ⟨by rfl, ?_⟩) (by assumption) ?_
      rotate_left
      · intro wS hSw
        (try dsimp only at hSw)
        go_simp
        (try with_reducible rfl)
      (try simp only [Act.put, List.setIfInBounds_toArray, List.set_cons_zero, List.set_cons_succ])
      refine wpAnyH_take (i := 1) (oi := { dst := some 14, op := Go.Op.move (Go.Operand.tmp 0), type := 22, pos := "law.go:258", after := #[], guard := none }) (v := ?_) rfl (by kernel_rfl) (by kernel_rfl) (by kernel_rfl) (fun _ _ _ h => h) (Or.inl ⟨by rfl, ?_⟩) (by assumption) ?_
      rotate_left
      · intro wS hSw
        (try dsimp only at hSw)
        go_simp
        (try with_reducible rfl)
      (try simp only [Act.put, List.setIfInBounds_toArray, List.set_cons_zero, List.set_cons_succ])
      refine wpAnyH_take (i := 2) (oi := { dst := some 15, op := Go.Op.move (Go.Operand.tmp 6), type := 3, pos := "law.go:258", after := #[], guard := none }) (v := ?_) rfl (by kernel_rfl) (by kernel_rfl) (by kernel_rfl) (fun _ _ _ h => h) (Or.inl ⟨by rfl, ?_⟩) (by assumption) ?_
      rotate_left
      · intro wS hSw
        (try dsimp only at hSw)
        go_simp
        (try with_reducible rfl)
      (try simp only [Act.put, List.setIfInBounds_toArray, List.set_cons_zero, List.set_cons_succ])
      refine wpAnyH_take (i := 3) (oi := { dst := some 16, op := Go.Op.indexAddr 22 (Go.Operand.tmp 14) (Go.Operand.tmp 15), type := 0, pos := "law.go:258", after := #[{ on := 1, ground := Go.Ground.data }, { on := 2, ground := Go.Ground.data }], guard := none }) (v := ?_) rfl (by kernel_rfl) (by kernel_rfl) (by kernel_rfl) (fun _ _ _ h => h) (Or.inl ⟨by rfl, ?_⟩) (by assumption) ?_
      rotate_left
      · intro wS hSw
        (try dsimp only at hSw)
        go_simp
        (try with_reducible rfl)
      (try simp only [Act.put, List.setIfInBounds_toArray, List.set_cons_zero, List.set_cons_succ])
      refine wpAnyH_take (i := 4) (oi := { dst := some 17, op := Go.Op.load 5 (Go.Operand.tmp 16), type := 5, pos := "law.go:258", after := #[{ on := 3, ground := Go.Ground.data }], guard := none }) (v := ?_) rfl (by kernel_rfl) (by kernel_rfl) (by kernel_rfl) (fun _ _ _ h => h) (Or.inl ⟨by rfl, ?_⟩) (by assumption) ?_
      rotate_left
      · intro wS hSw
        ((have c9 := HL1.out _ hSw); go_simp; (try with_reducible rfl))
      (try simp only [Act.put, List.setIfInBounds_toArray, List.set_cons_zero, List.set_cons_succ])
      refine wpAnyH_take (i := 5) (oi := { dst := some 18, op := Go.Op.move (Go.Operand.tmp 1), type := 22, pos := "law.go:258", after := #[], guard := none }) (v := ?_) rfl (by kernel_rfl) (by kernel_rfl) (by kernel_rfl) (fun _ _ _ h => h) (Or.inl ⟨by rfl, ?_⟩) (by assumption) ?_
      rotate_left
      · intro wS hSw
        (try dsimp only at hSw)
        go_simp
        (try with_reducible rfl)
      (try simp only [Act.put, List.setIfInBounds_toArray, List.set_cons_zero, List.set_cons_succ])
      refine wpAnyH_take (i := 6) (oi := { dst := some 19, op := Go.Op.move (Go.Operand.tmp 6), type := 3, pos := "law.go:258", after := #[], guard := none }) (v := ?_) rfl (by kernel_rfl) (by kernel_rfl) (by kernel_rfl) (fun _ _ _ h => h) (Or.inl ⟨by rfl, ?_⟩) (by assumption) ?_
      rotate_left
      · intro wS hSw
        (try dsimp only at hSw)
        go_simp
        (try with_reducible rfl)
      (try simp only [Act.put, List.setIfInBounds_toArray, List.set_cons_zero, List.set_cons_succ])
      refine wpAnyH_take (i := 7) (oi := { dst := some 20, op := Go.Op.indexAddr 22 (Go.Operand.tmp 18) (Go.Operand.tmp 19), type := 0, pos := "law.go:258", after := #[{ on := 5, ground := Go.Ground.data }, { on := 6, ground := Go.Ground.data }], guard := none }) (v := ?_) rfl (by kernel_rfl) (by kernel_rfl) (by kernel_rfl) (fun _ _ _ h => h) (Or.inl ⟨by rfl, ?_⟩) (by assumption) ?_
      rotate_left
      · intro wS hSw
        (try dsimp only at hSw)
        go_simp
        (try with_reducible rfl)
      (try simp only [Act.put, List.setIfInBounds_toArray, List.set_cons_zero, List.set_cons_succ])
      refine wpAnyH_take (i := 8) (oi := { dst := some 21, op := Go.Op.load 5 (Go.Operand.tmp 20), type := 5, pos := "law.go:258", after := #[{ on := 7, ground := Go.Ground.data }], guard := none }) (v := ?_) rfl (by kernel_rfl) (by kernel_rfl) (by kernel_rfl) (fun _ _ _ h => h) (Or.inl ⟨by rfl, ?_⟩) (by assumption) ?_
      rotate_left
      · intro wS hSw
        ((have c9 := HL2.out _ hSw); go_simp; (try with_reducible rfl))
      (try simp only [Act.put, List.setIfInBounds_toArray, List.set_cons_zero, List.set_cons_succ])
      refine wpAnyH_ready (rs := [9]) (by kernel_rfl) (by simp) ?_
      refine AllReadyH.cons (o := { dst := some 22, op := Go.Op.call { callee := Go.Callee.value (Go.Operand.func 47), args := #[Go.Operand.tmp 17, Go.Operand.tmp 21], argTypes := #[5, 5] }, type := 5, pos := "law.go:258", after := #[{ on := 4, ground := Go.Ground.data }, { on := 8, ground := Go.Ground.data }], guard := none }) rfl (fun K hK => ?_) AllReadyH.nil
      go_simp
      (refine (add_any x y _ h8 h9).mono ?_; rintro e w' ⟨rfl, rfl⟩; rw [HZ0.out]; skip)
      (try go_wp2_with fail)
      refine hK.out _ _ ?_ (fun hHeld => ?_)
      · (try dsimp only)
        first | assumption | exact hP_0
      clear hK K
      (try simp only [Act.put, List.setIfInBounds_toArray, List.set_cons_zero, List.set_cons_succ])
      refine wpAnyH_ready (rs := [10]) (by kernel_rfl) (by simp) ?_
      refine AllReadyH.cons (o := { dst := some 23, op := Go.Op.buildSlice 22 1 #[(0, Go.Operand.tmp 22)], type := 22, pos := "law.go:258", after := #[{ on := 9, ground := Go.Ground.data }], guard := none }) rfl (fun K hK => ?_) AllReadyH.nil
      go_simp
      (obtain ⟨W1, hw1⟩ : ∃ q, W0.alloc (.cells #[.int .u8 (z : Int)] 5) = q := ⟨_, rfl⟩; rw [hw1]; have hb1 : Below W0.heap.size W0 W1 := (by rw [← hw1]; exact (Below.refl _ _).alloc (Nat.le_refl _) _); have hP_1 := hP_0.trans (hb1.mono hP_0.size); have HG1 := Lib.hid (HG2.out.later hb1); have HO1 : Hid (Bytes W1 (some ⟨W0.heap.size, 0, none⟩) 1 (fun _ => z)) := Lib.hid (by rw [← hw1]; exact ob1 rfl HZ8.out); clear hP_0 hw1 hb1; skip)
      (try go_wp2_with fail)
      refine hK.out _ _ ?_ (fun hHeld => ?_)
      · (try dsimp only)
        first | assumption | exact hP_0
      clear hK K
      (try simp only [Act.put, List.setIfInBounds_toArray, List.set_cons_zero, List.set_cons_succ])
      refine wpAnyH_ready (rs := [11]) (by kernel_rfl) (by simp) ?_
      refine AllReadyH.cons (o := { dst := some 24, op := Go.Op.call { callee := Go.Callee.builtin Go.Builtin.append, args := #[Go.Operand.tmp 13, Go.Operand.tmp 23], argTypes := #[22, 22] }, type := 22, pos := "law.go:258", after := #[{ on := 0, ground := Go.Ground.data }, { on := 10, ground := Go.Ground.data }, { on := 9, ground := Go.Ground.chain }], guard := none }) rfl (fun K hK => ?_) AllReadyH.nil
      (refine step_appO rfl (.tmp 13) (.tmp 23) rfl w.heap.size _ i 1 1 (some ⟨W0.heap.size, 0, none⟩) (fun i => f i ^^^ g i) (fun _ => z) W1 rfl HG1.out rfl (fun e => by cases e) HO1.out (by omega) hP_1.size ?_; intro v' W2 hG' hgr hat; have hP_2 : Below w.heap.size w W2 := hP_1.grown hgr hP_1.size (Grow.block HG1.out); have HG3 := Lib.hid (hG'.congr (g := fun i => f i ^^^ g i) (catF_self fun j hj => by obtain rfl : j = 0 := (by omega); exact HZ.out.symm)); clear hP_1 hG' hgr hat; skip)
      refine hK.out _ _ ?_ (fun hHeld => ?_)
      · (try dsimp only)
        first | assumption | exact hP_0
      clear hK K
      (try simp only [Act.put, List.setIfInBounds_toArray, List.set_cons_zero, List.set_cons_succ])
      refine wpAnyH_take (i := 12) (oi := { dst := some 5, op := Go.Op.assign (Go.Operand.tmp 24), type := 22, pos := "law.go:258", after := #[{ on := 11, ground := Go.Ground.data }, { on := 11, ground := Go.Ground.chain }, { on := 0, ground := Go.Ground.phase }, { on := 1, ground := Go.Ground.phase }, { on := 2, ground := Go.Ground.phase }, { on := 3, ground := Go.Ground.phase }, { on := 4, ground := Go.Ground.phase }, { on := 5, ground := Go.Ground.phase }, { on := 6, ground := Go.Ground.phase }, { on := 7, ground := Go.Ground.phase }, { on := 8, ground := Go.Ground.phase }, { on := 9, ground := Go.Ground.phase }, { on := 10, ground := Go.Ground.phase }, { on := 11, ground := Go.Ground.phase }], guard := none }) (v := ?_) rfl (by kernel_rfl) (by kernel_rfl) (by kernel_rfl) (fun _ _ _ h => h) (Or.inl ⟨by rfl, ?_⟩) (by assumption) ?_
      rotate_left
      · intro wS hSw
        (try dsimp only at hSw)
        go_simp
        (try with_reducible rfl)
      (try simp only [Act.put, List.setIfInBounds_toArray, List.set_cons_zero, List.set_cons_succ])
      refine wpAnyH_done (by kernel_rfl) ?_ _
      have HB3 := Lib.hid hP_2
      clear hP_2
      go_wp2_with fail
      go_roundw
      case rel => exact ⟨i + 1, by omega, by go_num, HG3.out, HB3.out⟩
      case measure => simp [intOf]; omega
    · obtain rfl : n = i := by omega
      obtain ⟨g0, cap, rfl, h1, h2, h3, h4⟩ := BRow.of_grow HG.out hn0
      have HQ := Lib.hid (⟨g0, cap, rfl, h1, h2, h4.bytes fun k hk => xor_lt (HA.out k hk).1 (HB.out k (by omega)).1, HBW.out⟩ : NewB w n (fun i => f i ^^^ g i) (.returned (.slice (some ⟨g0, 0, none⟩) n cap)) wr)
      clear h1 h2 h3 h4 HG
      go_wp2_with fail
      go_ret
      exact HQ.out
end Go.Proofs.YtmhofofidmbgfaaDoor
