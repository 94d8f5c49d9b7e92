/- sharecode.Decode: the part of bytes. -/
import Derived.Test.YtmhofofidmbgfaaDoorSc2
namespace Go.Proofs.YtmhofofidmbgfaaDoor
set_option linter.unusedVariables false
set_option linter.unusedSimpArgs false
open Go.RowKit

theorem bsh_part {w : World} {b off n : Nat} {f : Nat → Nat} (h : Bytes w (some ⟨b, off, none⟩) n f) {k : Nat} (hk : k < n) : w.cell? ⟨b, off + k, none⟩ = some (.int .u8 (f k : Int)) := by
  obtain ⟨_, b', o', e, h⟩ := h k hk; cases e; exact h
/-- What lies behind the head. -/
theorem Bytes.tail8 {w : World} {b off n : Nat} {f : Nat → Nat} (h : Bytes w (some ⟨b, off, none⟩) n f) (hn : 8 ≤ n) : Bytes w (some ⟨b, off + 8, none⟩) (n - 8) (fun k => f (8 + k)) := fun k hk => by
  obtain ⟨h1, b', o', e, h2⟩ := h (8 + k) (by omega)
  cases e
  exact ⟨h1, b, off + 8, rfl, by rw [Nat.add_assoc]; exact h2⟩

set_option maxRecDepth 100000 in
set_option maxHeartbeats 8000000 in
theorem dec_any (n cap : Nat) (oa : Option Addr) (f : Nat → Nat) (w : World) (hB : Bytes w oa n f) (hc : n ≤ cap) (hE : IsEnc n f) :
    Calls Tryd.prog 31 #[.slice oa n cap] w fun e w' => ∃ g c, e = .returned (.tuple #[.agg #[.int .u8 (f 6 : Nat), .int .u32 (genOf f : Nat), .slice (some ⟨g, 0, none⟩) (n - 8) c], .nilIface]) ∧ w.heap.size ≤ g ∧ n - 8 ≤ c ∧ c ≤ maxLen ∧ Bytes w' (some ⟨g, 0, none⟩) (n - 8) (fun k => f (8 + k)) ∧ Below w.heap.size w w' := by
  obtain ⟨w0, hw0⟩ : ∃ y, w.alloc (.cells #[.int .u8 0, .int .u32 0, .slice none 0 0] 52) = y := ⟨_, rfl⟩
  obtain ⟨b2, hb2⟩ : ∃ y, w.heap.size = y := ⟨_, rfl⟩
  have hB2 : Blk w0 b2 #[.int .u8 0, .int .u32 0, .slice none 0 0] 52 := by rw [← hw0, ← hb2]; exact Blk.new _ _ _
  have hbl : Below w.heap.size w w0 := by rw [← hw0]; exact (Below.refl _ _).alloc (Nat.le_refl _) _
  have hsz : w0.heap.size = b2 + 1 := by rw [← hw0, ← hb2]; simp
  have lo := hE.lo
  have hi := hE.hi
  obtain ⟨_, b, off, rfl, x0⟩ := (hB.later hbl) 0 (by omega)
  rw [Nat.add_zero, hE.s] at x0
  have hBw := hB.later hbl
  have x1 := bsh_part hBw (k := 1) (by omega)
  have x2 := bsh_part hBw (k := 2) (by omega)
  have x3 := bsh_part hBw (k := 3) (by omega)
  have x4 := bsh_part hBw (k := 4) (by omega)
  have x5 := bsh_part hBw (k := 5) (by omega)
  have x6 := bsh_part hBw (k := 6) (by omega)
  have x7 := bsh_part hBw (k := 7) (by omega)
  have l2 := (hBw 2 (by omega)).1
  have l3 := (hBw 3 (by omega)).1
  have l4 := (hBw 4 (by omega)).1
  have l5 := (hBw 5 (by omega)).1
  have l6 := (hBw 6 (by omega)).1
  have HS := Lib.hid (show ((f 2 : Int) * 16777216 + (f 3 : Int) * 65536 + (f 4 : Int) * 256 + (f 5 : Int)) = ((genOf f : Nat) : Int) by unfold genOf; omega)
  rw [hE.h] at x1
  rw [hE.len] at x7
  have h6 := hE.ix
  have HT8 := Lib.hid (hBw.tail8 (by omega))
  have HFB : Hid (∀ i, i < n - 8 → (fun k => f (8 + k)) i < 256) := Lib.hid fun i hi => (HT8.out i hi).1
  obtain ⟨G, hG⟩ : ∃ y, genOf f = y := ⟨_, rfl⟩
  rw [hG] at HS ⊢
  generalize f 2 = a2 at *
  generalize f 3 = a3 at *
  generalize f 4 = a4 at *
  generalize f 5 = a5 at *
  generalize f 6 = a6 at *
  obtain ⟨F, hF⟩ : ∃ y, (fun k => f (8 + k)) = y := ⟨_, rfl⟩
  rw [hF] at HT8 HFB ⊢
  have q1 : decide ((n : Int) ≤ 8) = false := decide_eq_false (by omega)
  have q2 : decide ((72 : Int) < (n : Int)) = false := decide_eq_false (by omega)
  have i0 : (0 : Int) < (n : Int) := by omega
  have i1 : (1 : Int) < (n : Int) := by omega
  have i2 : (2 : Int) < (n : Int) := by omega
  have i3 : (3 : Int) < (n : Int) := by omega
  have i4 : (4 : Int) < (n : Int) := by omega
  have i5 : (5 : Int) < (n : Int) := by omega
  have i6 : (6 : Int) < (n : Int) := by omega
  have i7 : (7 : Int) < (n : Int) := by omega
  have n0 : 0 < n := by omega
  have n1 : 1 < n := by omega
  have n2 : 2 < n := by omega
  have n3 : 3 < n := by omega
  have n4 : 4 < n := by omega
  have n5 : 5 < n := by omega
  have n6 : 6 < n := by omega
  have n7 : 7 < n := by omega
  have q5 : ((a6 : Int) == 0) = false := by rw [beq_eq_false_iff_ne]; omega
  have q5' : (a6 : Int) ≠ 0 := by omega
  have w1 : IntKind.i64.wrap ((n : Int) - 8) = ((n - 8 : Nat) : Int) := by rw [IntWalk.i64_in _ (by omega)]; omega
  have s1 : ¬ (n : Int) < 8 := by omega
  have s2 : (8 : Int) ≤ (n : Int) := by omega
  have s3 : 8 ≤ n := by omega
  have s4 : ¬ cap = 8 := by omega
  obtain ⟨m, hm8⟩ : ∃ y, n - 8 = y := ⟨_, rfl⟩
  have HM8 := Lib.hid (show n - 8 = m ∧ 1 ≤ m ∧ m ≤ 64 from ⟨hm8, by omega, by omega⟩)
  rw [hm8] at x7 w1 HT8 HFB ⊢
  have w2 : IntKind.i64.wrap (m : Int) = (m : Int) := by rw [IntWalk.i64_in _ (by omega)]
  have k2 : IntKind.u32.wrap (a2 : Int) = (a2 : Int) := by rw [IntKind.wrap_u32]; omega
  have k3 : IntKind.u32.wrap (a3 : Int) = (a3 : Int) := by rw [IntKind.wrap_u32]; omega
  have k4 : IntKind.u32.wrap (a4 : Int) = (a4 : Int) := by rw [IntKind.wrap_u32]; omega
  have k5 : IntKind.u32.wrap (a5 : Int) = (a5 : Int) := by rw [IntKind.wrap_u32]; omega
  have m2 : IntKind.u32.wrap ((a2 : Int) * 16777216) = (a2 : Int) * 16777216 := by rw [IntKind.wrap_u32]; omega
  have m3 : IntKind.u32.wrap ((a3 : Int) * 65536) = (a3 : Int) * 65536 := by rw [IntKind.wrap_u32]; omega
  have m4 : IntKind.u32.wrap ((a4 : Int) * 256) = (a4 : Int) * 256 := by rw [IntKind.wrap_u32]; omega
  have o1 : bits .or .u32 ((a2 : Int) * 16777216) ((a3 : Int) * 65536) = (a2 : Int) * 16777216 + (a3 : Int) * 65536 := bits_join .u32 32 (by decide) (fun n h0 h1 => by rw [IntKind.wrap_u32]; omega) 24 _ _ (by omega) (by omega) (by omega) (by omega) (by omega) (by omega)
  have o2 : bits .or .u32 ((a2 : Int) * 16777216 + (a3 : Int) * 65536) ((a4 : Int) * 256) = (a2 : Int) * 16777216 + (a3 : Int) * 65536 + (a4 : Int) * 256 := bits_join .u32 32 (by decide) (fun n h0 h1 => by rw [IntKind.wrap_u32]; omega) 16 _ _ (by omega) (by omega) (by omega) (by omega) (by omega) (by omega)
  have o3 : bits .or .u32 ((a2 : Int) * 16777216 + (a3 : Int) * 65536 + (a4 : Int) * 256) (a5 : Int) = (G : Int) := (bits_join .u32 32 (by decide) (fun n h0 h1 => by rw [IntKind.wrap_u32]; omega) 8 _ _ (by omega) (by omega) (by omega) (by omega) (by omega) (by omega)).trans HS.out
  have HB2 := Lib.hid hB2
  have HBL := Lib.hid hbl
  have HSZ := Lib.hid hsz
  have HTH : Hid (w0.there b2 0 3) := Lib.hid (hB2.there (by decide))
  have hz := zsh3_run
  have HX6 := Lib.hid x6
  clear hB2 hbl hsz hB hBw hE lo hi h6 hc hF hG HS
  go_enter Tryd.func31, Tryd.ntmps31
  rw [hb2]
  go_wp2_with fail
  replace x2 : w0.drew.cell? ⟨b, off + 2, none⟩ = some (.int .u8 (a2 : Int)) := x2
  replace x3 : w0.drew.cell? ⟨b, off + 3, none⟩ = some (.int .u8 (a3 : Int)) := x3
  replace x4 : w0.drew.cell? ⟨b, off + 4, none⟩ = some (.int .u8 (a4 : Int)) := x4
  replace x5 : w0.drew.cell? ⟨b, off + 5, none⟩ = some (.int .u8 (a5 : Int)) := x5
  replace x6 : w0.drew.cell? ⟨b, off + 6, none⟩ = some (.int .u8 (a6 : Int)) := x6
  have hW0 : Below w0.heap.size w0 w0.drew := ⟨rfl, rfl, rfl, Nat.le_refl _, fun _ _ => rfl⟩
  have hz0 : w0.drew.heap.size = w0.heap.size := rfl
  refine still_lit (by kernel_rfl) (by kernel_rfl) ?_
  generalize w0.drew = W0 at *
  repeat still_step
  refine wpStill_nil ?_
  clear x2 x3 x4 x5 k2 k3 k4 k5 m2 m3 m4 o1 o2 o3 i2 i3 i4 i5 n2 n3 n4 n5 l2 l3 l4 l5 x0 x1 x7 q1 q2 i0 i1 i7 n0 n1 n7 q5 q5'
  go_wp2_with fail
  have HW0 : Hid (Below w.heap.size w W0 ∧ b2 < W0.heap.size) := Lib.hid ⟨HBL.out.trans (hW0.mono HBL.out.size), by have := HSZ.out; omega⟩
  have HBW : Hid (Blk W0 b2 #[.int .u8 0, .int .u32 0, .slice none 0 0] 52) := Lib.hid (Blk.below HB2.out hW0 (by have := HSZ.out; omega))
  have HT0 : Hid (Bytes W0 (some ⟨b, off + 8, none⟩) m F) := Lib.hid (HT8.out.later hW0)
  have hP_0 : Below W0.heap.size W0 W0.drew := ⟨rfl, rfl, rfl, Nat.le_refl _, fun _ _ => rfl⟩
  have HBB : Hid (b ≠ b2) := Lib.hid (by rcases Blk.lt HB2.out with _; have := HX6.out; intro e; subst e; rw [Blk.cell HB2.out] at this; revert this; simp)
  clear hW0 hz0 HB2 HBL HT8 HTH
  go_wp2_with fail
  refine wp_region_held_drew (S := (Own b2 W0)) (by kernel_rfl) ?_ (fun hHeld => ?_)
  · (try dsimp only)
    first | assumption | exact Own.of_below (by assumption)
  generalize W0.drew = W1 at *
  refine wpAnyH_take (i := 0) (oi := { dst := some 65, op := Go.Op.move (Go.Operand.tmp 0), type := 22, pos := "sharecode.go:38", after := #[], guard := none }) (v := ?_) rfl (by kernel_rfl) (by kernel_rfl) (by kernel_rfl) (fun _ _ _ h => h) (Or.inl ⟨by rfl, ?_⟩) (by assumption) ?_
  rotate_left
  · intro wS hSw
    (try dsimp only at hSw)
    go_simp
    (try with_reducible rfl)
  (try simp only [Act.put, List.setIfInBounds_toArray, List.set_cons_zero, List.set_cons_succ])
  refine wpAnyH_take (i := 1) (oi := { dst := some 66, op := Go.Op.indexAddr 22 (Go.Operand.tmp 65) (Go.Operand.const (Go.Value.int Go.IntKind.i64 6)), type := 0, pos := "sharecode.go:38", after := #[{ on := 0, ground := Go.Ground.data }], guard := none }) (v := ?_) rfl (by kernel_rfl) (by kernel_rfl) (by kernel_rfl) (fun _ _ _ h => h) (Or.inl ⟨by rfl, ?_⟩) (by assumption) ?_
  rotate_left
  · intro wS hSw
    (try dsimp only at hSw)
    go_simp
    (try with_reducible rfl)
  (try simp only [Act.put, List.setIfInBounds_toArray, List.set_cons_zero, List.set_cons_succ])
  refine wpAnyH_take (i := 2) (oi := { dst := some 67, op := Go.Op.load 5 (Go.Operand.tmp 66), type := 5, pos := "sharecode.go:38", after := #[{ on := 1, ground := Go.Ground.data }], guard := none }) (v := ?_) rfl (by kernel_rfl) (by kernel_rfl) (by kernel_rfl) (fun _ _ _ h => h) (Or.inl ⟨by rfl, ?_⟩) (by assumption) ?_
  rotate_left
  · intro wS hSw
    (have q := hSw.cell x6 (show b ≠ b2 from HBB.out)); go_simp; (try with_reducible rfl)
  (try simp only [Act.put, List.setIfInBounds_toArray, List.set_cons_zero, List.set_cons_succ])
  refine wpAnyH_take (i := 3) (oi := { dst := some 68, op := Go.Op.move (Go.Operand.tmp 4), type := 23, pos := "sharecode.go:38", after := #[], guard := none }) (v := ?_) rfl (by kernel_rfl) (by kernel_rfl) (by kernel_rfl) (fun _ _ _ h => h) (Or.inl ⟨by rfl, ?_⟩) (by assumption) ?_
  rotate_left
  · intro wS hSw
    (try dsimp only at hSw)
    go_simp
    (try with_reducible rfl)
  (try simp only [Act.put, List.setIfInBounds_toArray, List.set_cons_zero, List.set_cons_succ])
  refine wpAnyH_take (i := 4) (oi := { dst := some 69, op := Go.Op.move (Go.Operand.tmp 0), type := 22, pos := "sharecode.go:38", after := #[], guard := none }) (v := ?_) rfl (by kernel_rfl) (by kernel_rfl) (by kernel_rfl) (fun _ _ _ h => h) (Or.inl ⟨by rfl, ?_⟩) (by assumption) ?_
  rotate_left
  · intro wS hSw
    (try dsimp only at hSw)
    go_simp
    (try with_reducible rfl)
  (try simp only [Act.put, List.setIfInBounds_toArray, List.set_cons_zero, List.set_cons_succ])
  refine wpAnyH_take (i := 5) (oi := { dst := some 70, op := Go.Op.slice 22 (Go.Operand.tmp 69) (some (Go.Operand.const (Go.Value.int Go.IntKind.i64 8))) none none, type := 22, pos := "sharecode.go:38", after := #[{ on := 4, ground := Go.Ground.data }], guard := none }) (v := ?_) rfl (by kernel_rfl) (by kernel_rfl) (by kernel_rfl) (fun _ _ _ h => h) (Or.inl ⟨by rfl, ?_⟩) (by assumption) ?_
  rotate_left
  · intro wS hSw
    (try dsimp only at hSw)
    go_simp
    (try with_reducible rfl)
  (try simp only [Act.put, List.setIfInBounds_toArray, List.set_cons_zero, List.set_cons_succ])
  refine wpAnyH_ready (rs := [6]) (by kernel_rfl) (by simp) ?_
  refine AllReadyH.cons (o := { dst := some 71, op := Go.Op.call { callee := Go.Callee.builtin Go.Builtin.append, args := #[Go.Operand.const (Go.Value.slice none 0 0), Go.Operand.tmp 70], argTypes := #[22, 22] }, type := 22, pos := "sharecode.go:38", after := #[{ on := 5, ground := Go.Ground.data }], guard := none }) rfl (fun K hK => ?_) AllReadyH.nil
  (refine step_appO rfl (.const (.slice none 0 0)) (.tmp 70) rfl W1.heap.size (.slice none 0 0) 0 m (cap - 8) (some ⟨b, off + 8, none⟩) (fun _ => 0) F W1 rfl (Grow.nil _ _ _) rfl (fun e => by cases e) (HT0.out.later hP_0) (by have := HM8.out; omega) (Nat.le_refl _) ?_; intro va V6 hG6 hg6 hob6; have hb6 := grow_bel (Grow.nil W1 W1.heap.size (fun _ => 0)) (Nat.le_refl _) hg6; have hP_6 : Below W0.heap.size W0 V6 := hP_0.trans (hb6.mono hP_0.size); obtain ⟨g6, c6, hv6, hgl, hB6, hc6, hx6⟩ := (hG6.congr (g := F) fun i hi => by unfold catF; rw [if_neg (by omega), Nat.sub_zero]).someN (by have := HM8.out; omega) (fun i hi => HFB.out i (by omega)); subst hv6; rw [Nat.zero_add] at hB6 hc6; have HR6 : Hid (Bytes V6 (some ⟨g6, 0, none⟩) m F ∧ W0.heap.size ≤ g6 ∧ m ≤ c6 ∧ c6 ≤ maxLen) := Lib.hid ⟨hB6, Nat.le_trans hP_0.size hgl, hc6, hx6⟩; rw [Nat.zero_add]; clear hG6 hg6 hob6 hb6 hP_0 hB6 hc6 hx6 hgl; skip)
  refine hK.out _ _ ?_ (fun hHeld => ?_)
  · (try dsimp only)
    first | assumption | exact Own.of_below (by assumption)
  clear hK K
  (try simp only [Act.put, List.setIfInBounds_toArray, List.set_cons_zero, List.set_cons_succ])
  refine wpAnyH_take (i := 7) (oi := { dst := some 72, op := Go.Op.build 52 #[(0, Go.Operand.tmp 67), (1, Go.Operand.tmp 68), (2, Go.Operand.tmp 71)], type := 52, pos := "sharecode.go:38", after := #[{ on := 2, ground := Go.Ground.data }, { on := 3, ground := Go.Ground.data }, { on := 6, ground := Go.Ground.data }], guard := none }) (v := ?_) rfl (by kernel_rfl) (by kernel_rfl) (by kernel_rfl) (fun _ _ _ h => h) (Or.inl ⟨by rfl, ?_⟩) (by assumption) ?_
  rotate_left
  · intro wS hSw
    refine exec_bM (parts := #[(0, .tmp 67), (1, .tmp 68), (2, .tmp 71)]) (ps := #[(0, .int .u8 (a6 : Nat)), (1, .int .u32 (G : Nat)), (2, .slice (some ⟨g6, 0, none⟩) m c6)]) (C := #[.int .u8 (a6 : Nat), .int .u32 (G : Nat), .slice (some ⟨g6, 0, none⟩) m c6]) ?_ ?_ (bsh3 _ _ _ _ _) <;> first | rfl | (simp; exact ⟨rfl, rfl, rfl⟩) | (simp; trace_state; done)
  (try simp only [Act.put, List.setIfInBounds_toArray, List.set_cons_zero, List.set_cons_succ])
  refine wpAnyH_ready (rs := [8]) (by kernel_rfl) (by simp) ?_
  refine AllReadyH.cons (o := { dst := none, op := Go.Op.store 52 (Go.Operand.tmp 2) (Go.Operand.tmp 72), type := 0, pos := "sharecode.go:38", after := #[{ on := 7, ground := Go.Ground.data }, { on := 6, ground := Go.Ground.chain }, { on := 0, ground := Go.Ground.phase }, { on := 1, ground := Go.Ground.phase }, { on := 2, ground := Go.Ground.phase }, { on := 3, ground := Go.Ground.phase }, { on := 4, ground := Go.Ground.phase }, { on := 5, ground := Go.Ground.phase }, { on := 6, ground := Go.Ground.phase }, { on := 7, ground := Go.Ground.phase }], guard := none }) rfl (fun K hK => ?_) AllReadyH.nil
  (have hBb : Blk V6 b2 #[.int .u8 0, .int .u32 0, .slice none 0 0] 52 := Blk.below HBW.out hP_6 HW0.out.2; refine step_sM rfl 52 (.tmp 2) (.tmp 72) rfl b2 0 #[.int .u8 (a6 : Nat), .int .u32 (G : Nat), .slice (some ⟨g6, 0, none⟩) m c6] rfl rfl (hBb.there (Nat.le_refl 3)) info_sh3 (one_sh3 _ _ _ _ _ _ _) ?_; obtain ⟨V8, hV8⟩ : ∃ z, V6.setCells b2 0 [.int .u8 (a6 : Nat), .int .u32 (G : Nat), .slice (some ⟨g6, 0, none⟩) m c6] = z := ⟨_, rfl⟩; have hO8 : Own b2 V6 V8 := (by rw [← hV8]; exact Own.setCells (b := b2) _ 0 V6); have HB8 : Hid (Blk V8 b2 #[.int .u8 (a6 : Nat), .int .u32 (G : Nat), .slice (some ⟨g6, 0, none⟩) m c6] 52) := Lib.hid (by rw [← hV8]; exact hBb.wh3 rfl _ _ _); have hP_8 : Own b2 W0 V8 := (Own.of_below hP_6).trans hO8; have HR8 : Hid (Bytes V8 (some ⟨g6, 0, none⟩) m F) := Lib.hid (HR6.out.1.own hO8 (fun a ha _ e => by cases ha; have := HR6.out.2.1; have := HW0.out.2; simp at e; omega)); rw [hV8]; clear hBb hO8 hV8 hP_6; skip)
  refine hK.out _ _ ?_ (fun hHeld => ?_)
  · (try dsimp only)
    first | assumption | exact Own.of_below (by assumption)
  clear hK K
  (try simp only [Act.put, List.setIfInBounds_toArray, List.set_cons_zero, List.set_cons_succ])
  refine wpAnyH_take (i := 9) (oi := { dst := some 3, op := Go.Op.assign (Go.Operand.const Go.Value.nilIface), type := 31, pos := "sharecode.go:38", after := #[{ on := 8, ground := Go.Ground.chain }, { on := 0, ground := Go.Ground.phase }, { on := 1, ground := Go.Ground.phase }, { on := 2, ground := Go.Ground.phase }, { on := 3, ground := Go.Ground.phase }, { on := 4, ground := Go.Ground.phase }, { on := 5, ground := Go.Ground.phase }, { on := 6, ground := Go.Ground.phase }, { on := 7, ground := Go.Ground.phase }, { on := 8, ground := Go.Ground.phase }], guard := none }) (v := ?_) rfl (by kernel_rfl) (by kernel_rfl) (by kernel_rfl) (fun _ _ _ h => h) (Or.inl ⟨by rfl, ?_⟩) (by assumption) ?_
  rotate_left
  · intro wS hSw
    (try dsimp only at hSw)
    go_simp
    (try with_reducible rfl)
  (try simp only [Act.put, List.setIfInBounds_toArray, List.set_cons_zero, List.set_cons_succ])
  refine wpAnyH_done (by kernel_rfl) ?_ _
  have hfin : Below w.heap.size w V8 := HW0.out.1.trans (hP_8.below (by omega) (by have := HW0.out.2; omega))
  go_wp2_with fail
  refine bodyPost_ret (v := .tuple #[.agg #[.int .u8 (a6 : Nat), .int .u32 (G : Nat), .slice (some ⟨g6, 0, none⟩) m c6], .nilIface]) ?_ rfl ⟨g6, c6, rfl, by have := HR6.out.2.1; have := HW0.out.1.size; omega, HR6.out.2.2.1, HR6.out.2.2.2, HR8.out, hb2 ▸ hfin⟩
  exact res_cell_tmp Tryd.results31 _ _ b2 52 _ (0, 0) _ rfl HB8.out Tryd.underlying52 rfl info_sh3
end Go.Proofs.YtmhofofidmbgfaaDoor
