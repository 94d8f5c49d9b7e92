/- AES: AesExact walked. -/
import Derived.Test.YtcpcaekkdgogmaaDoorAd7
import Derived.Test.YtcpcaekkdgogmaaDoorAe7
import Derived.Test.YtcpcaekkdgogmaaDoorNum9
namespace Go.Proofs.YtcpcaekkdgogmaaDoor
set_option linter.unusedVariables false
set_option linter.unusedSimpArgs false
open Go.RowKit

set_option maxRecDepth 100000 in
set_option maxHeartbeats 1000000 in
theorem enc_nil (C : Array Value) (w : World) :
    Calls Tryd.prog 4 #[.pointer none, .agg C] w fun e w' => e = .returned (.agg zero16) ∧ Below w.heap.size w w' := by
  have hz := zero16_run
  have HC0 : Hid (∃ f, zero16 = (rowC 16 f).toArray) := Lib.hid ⟨_, rfl⟩
  obtain ⟨w1, hw1⟩ : ∃ q, (w.alloc (.cells C 25)).alloc (.cells zero16 25) = q := ⟨_, rfl⟩
  have HR : Hid (Blk w1 (w.heap.size + 1) zero16 25) := Lib.hid (by rw [← hw1]; simpa using Blk.new (w.alloc (.cells C 25)) zero16 25)
  have HN : Hid (Blk (w1.setCells (w.heap.size + 1) 0 zero16.toList) (w.heap.size + 1) zero16 25) := Lib.hid (Blk.store16 HR.out HC0.out HC0.out)
  have HO : Hid (Below w.heap.size w (w1.setCells (w.heap.size + 1) 0 zero16.toList)) := Lib.hid (by
    have h : Below w.heap.size w w1 := by rw [← hw1]; exact ((Below.refl _ _).alloc (Nat.le_refl _) _).alloc (by simp) _
    exact Below.set16 (g := w.heap.size + 1) h (by omega) h.size _)
  go_enter Tryd.func4, Tryd.ntmps4
  go_wp2_with (first
    | (refine wpList_build16 rfl #[] #[] rfl rfl build_none ?_)
    | (refine wpList_store16 rfl (.tmp 4) (.tmp 8) rfl (w.heap.size + 1) rfl zero16 zero16 rfl HR.out HC0.out HC0.out ?_))
  refine bodyPost_ret (v := .agg zero16) ?_ rfl ⟨rfl, HO.out⟩
  exact res16 Tryd.results4 _ _ (w.heap.size + 1) zero16 rfl HN.out HC0.out
set_option maxRecDepth 100000 in
set_option maxHeartbeats 1000000 in
theorem kword_nil (n : Int) (w : World) :
    Calls Tryd.prog 5 #[.pointer none, .int .i64 n] w fun e w' => e = .returned (.int .u32 0) ∧ Below w.heap.size w w' := by
  go_enter Tryd.func5, Tryd.ntmps5
  go_wp2_with fail
  go_ret
  exact ⟨rfl, Below.refl _ _⟩
set_option maxRecDepth 100000 in
set_option maxHeartbeats 1000000 in
theorem kword_out (kb : Nat) (n : Int) (w : World) (h : n < 0 ∨ 60 ≤ n) :
    Calls Tryd.prog 5 #[.pointer (some ⟨kb, 0, none⟩), .int .i64 n] w fun e w' => e = .returned (.int .u32 0) ∧ Below w.heap.size w w' := by
  by_cases h0 : n < 0
  · go_enter Tryd.func5, Tryd.ntmps5
    go_wp2_with fail
    go_ret
    exact ⟨rfl, Below.refl _ _⟩
  · have h1 : (60 : Int) ≤ n := by omega
    clear h
    go_enter Tryd.func5, Tryd.ntmps5
    go_wp2_with fail
    go_ret
    exact ⟨rfl, Below.refl _ _⟩
set_option maxRecDepth 100000 in
set_option maxHeartbeats 1000000 in
theorem new_bad (oa : Option Addr) (m cap : Nat) (w : World) (hm : ¬ m = 32) :
    Calls Tryd.prog 6 #[.slice oa m cap] w fun e w' => e = .returned (.tuple #[.pointer none, .iface 49 (.int .i64 1)]) ∧ Below w.heap.size w w' := by
  have hm' : ¬ (m : Int) = 32 := by omega
  go_enter Tryd.func6, Tryd.ntmps6
  go_wp2_with fail
  go_ret2
  exact ⟨rfl, Below.refl _ _⟩
theorem numB_sum {x : Nat} (h : x < 4294967296) : numB x 4 0 * 16777216 + numB x 4 1 * 65536 + numB x 4 2 * 256 + numB x 4 3 = x := by
  unfold numB
  simp only [Nat.sub_zero, Nat.reduceSub, Nat.reducePow, Nat.div_one]
  omega
theorem wpList_value {ops : Array Oper} {rest : List Oper} {o : Oper} {a : Act} {w : World} {Q : Exit → Act → World → Prop} {v : Value} (hgd : o.guard = none) (he : (execOp a.eval o).run Tryd.prog w = .ok (.value v) w)
    (hk : wpList Tryd.prog ops Q rest (a.put o.dst v) w) : wpList Tryd.prog ops Q (o :: rest) a w := by
  refine wpList_plain hgd fun K hK => ?_
  unfold Oper.wp
  rw [he]
  exact hK _ _ hk
/-- A block that stays. -/
def SB (g : Nat) (B : Array Value) (w : World) : Prop := Blk w g B 23
/-- A key, its box, a block beside. -/
structure AX (w0 : World) (kb bx : Nat) (W b : Nat → Nat) (wr : World) : Prop where
  k : KeyB wr kb W bx
  x : BoxIn wr bx
  n : kb ≠ bx ∧ w0.heap.size < bx
  b : A16 wr w0.heap.size b
  o : Below w0.heap.size w0 wr
theorem AX.below {w0 : World} {kb bx : Nat} {W b : Nat → Nat} {wr w' : World} (h : AX w0 kb bx W b wr) (hb : Below wr.heap.size wr w') : AX w0 kb bx W b w' :=
  ⟨Blk.below h.k hb (Blk.lt h.k), h.x.below hb, h.n, Blk.below h.b hb (Blk.lt h.b), h.o.trans (hb.mono h.o.size)⟩
theorem AX.own {w0 : World} {kb bx : Nat} {W b : Nat → Nat} {wr w' : World} (h : AX w0 kb bx W b wr) (hI : BoxIn w' bx) (hO : Own bx wr w') : AX w0 kb bx W b w' :=
  ⟨hO.blk h.k h.n.1, hI, h.n, hO.blk h.b (by have := h.n.2; omega), h.o.trans (hO.below (by have := h.n.2; omega) h.o.size)⟩
set_option maxRecDepth 100000 in
set_option maxHeartbeats 4000000 in
theorem exact_any (oa : Option Addr) (m cap : Nat) (f b : Nat → Nat) (n : Int) (w : World) (hg : Handle w) (hb : Bytes w oa m f) (hb8 : ∀ i, i < 16 → b i < 256) (n0 : -9223372036854775808 ≤ n) (n1 : n ≤ 9223372036854775807) :
    Calls Tryd.prog 3 #[.slice oa m cap, .agg (rowC 16 b).toArray, .int .i64 n] w fun e w' => e = .returned (.bool true) ∧ Below w.heap.size w w' := by
  obtain ⟨B, hB⟩ : ∃ C, (rowC 16 b).toArray = C := ⟨_, rfl⟩
  have HCB : Hid (∃ f, B = (rowC 16 f).toArray) := Lib.hid ⟨_, hB.symm⟩
  have HBA : Hid (∀ w' g, A16 w' g b → Blk w' g B 23) := Lib.hid fun w' g h => by rw [← hB]; exact h
  obtain ⟨w1, hw1⟩ : ∃ q, w.alloc (.cells B 23) = q := ⟨_, rfl⟩
  have H1 : Hid (A16 w1 w.heap.size b ∧ Below w.heap.size w w1) := Lib.hid ⟨by rw [← hw1, ← hB]; exact Blk.new w _ _, by rw [← hw1]; exact (Below.refl _ _).alloc (Nat.le_refl _) _⟩
  have HBB := Lib.hid hB
  have HB8 := Lib.hid hb8
  have HG := Lib.hid hg
  have HKB := Lib.hid hb
  have HQ0 : Hid (∀ w, (Op.equalIn 10000 25 (.agg zero16) (.agg zero16)).run Tryd.prog w = .ok true w) := Lib.hid fun w => by
    have := eq16 (fun _ => 0) (fun _ => 0) w; rw [eqF_refl] at this; exact this
  rw [hB]
  clear hg hb hB hb8
  have HN0 := Lib.hid n0
  have HN1 := Lib.hid n1
  clear n0 n1
  go_enter Tryd.func3, Tryd.ntmps3
  have HB1 := Lib.hid (HBA.out _ _ H1.out.1)
  go_wp2_with (first | (refine wpList_load16a rfl (.tmp 4) rfl w.heap.size rfl B HB1.out HCB.out ?_))
  clear hw1
  refine (enc_nil B _).mono ?_
  rintro e w2 ⟨rfl, hb2⟩
  have H2 : Hid (A16 w2 w.heap.size b ∧ Below w.heap.size w w2) := Lib.hid ⟨Blk.below H1.out.1 hb2 (Blk.lt H1.out.1), H1.out.2.trans (hb2.mono H1.out.2.size)⟩
  clear hb2 H1 HB1
  go_wp2_with (first
    | (refine wpList_build16 rfl #[] #[] rfl rfl build_none ?_)
    | (refine wpList_value rfl (exec_ne16 (x := .tmp 14) (y := .tmp 15) rfl rfl rfl HQ0.out) ?_))
  refine (kword_nil n _).mono ?_
  rintro e w3 ⟨rfl, hb3⟩
  have H3 : Hid (A16 w3 w.heap.size b ∧ Below w.heap.size w w3) := Lib.hid ⟨Blk.below H2.out.1 hb3 (Blk.lt H2.out.1), H2.out.2.trans (hb3.mono H2.out.2.size)⟩
  clear hb3 H2
  by_cases hm : m = 32
  · subst hm
    obtain ⟨W, hW⟩ : ∃ W, exK f 60 = W := ⟨_, rfl⟩
    obtain ⟨E, hE⟩ : ∃ C, (rowC 240 (dF f)).toArray = C := ⟨_, rfl⟩
    obtain ⟨G, hG⟩ : ∃ C, (rowC 496 (cF W)).toArray = C := ⟨_, rfl⟩
    obtain ⟨X, hX⟩ : ∃ C, (rowC 16 (encK subN W b 14)).toArray = C := ⟨_, rfl⟩
    have hb8 := HB8.out
    have HWDS : Hid (∀ w', Below w.heap.size w w' → Calls Tryd.prog 9 #[.slice oa 32 cap] w' fun e w'' => e = .returned (.agg E) ∧ Below w'.heap.size w' w'') := Lib.hid fun w' h => by
      rw [← hE]; exact rWords_any f oa cap w' (HKB.out.later h)
    have HRDY : Hid (∀ w', Below w.heap.size w w' → Calls Tryd.prog 11 #[.slice oa 32 cap] w' fun e w'' => e = .returned (.agg G) ∧ Below w'.heap.size w' w'') := Lib.hid fun w' h => by
      rw [← hG, ← hW]; exact rReady_any f oa cap w' (HKB.out.later h)
    have HENC : Hid (∀ kb bx w', kb ≠ bx → KeyB w' kb W bx → BoxIn w' bx → Calls Tryd.prog 4 #[.pointer (some ⟨kb, 0, none⟩), .agg B] w' fun e w'' => e = .returned (.agg X) ∧ BoxIn w'' bx ∧ Own bx w' w'') := Lib.hid fun kb bx w' hn hk hx => by
      rw [← HBB.out, ← hX]; exact enc_any kb bx W b w' hk hx hn hb8
    have HREN : Hid (∀ w', Calls Tryd.prog 10 #[.agg G, .agg B] w' fun e w'' => e = .returned (.agg X) ∧ Below w'.heap.size w' w'') := Lib.hid fun w' => by
      rw [← HBB.out, ← hG, ← hX]; exact renc_any W b w' hb8
    have HEQ : Hid (∀ w, (Op.equalIn 10000 25 (.agg X) (.agg X)).run Tryd.prog w = .ok true w) := Lib.hid fun w => by
      rw [← hX]; have := eq16 (encK subN W b 14) (encK subN W b 14) w; rw [eqF_refl] at this; exact this
    have HIB : Hid ((Tryd.prog.info? 23).map (·.size) = some B.size) := Lib.hid (by rw [← HBB.out]; exact info16a b)
    have HE := Lib.hid hE
    have HW := Lib.hid hW
    clear hE hG hX hW hb8
    go_wp2_with fail
    refine (new_any f oa cap w3 (HKB.out.later H3.out.2)).mono ?_
    rintro e w4 ⟨kb, bx, rfl, hN⟩
    have H4 : Hid (AX w kb bx W b w4) := Lib.hid (by
      obtain ⟨a1, a2, a3, a4, a5⟩ := hN
      rw [HW.out] at a1
      have := Blk.lt H3.out.1
      exact ⟨a1, a2, ⟨by omega, by omega⟩, Blk.below H3.out.1 a3 (Blk.lt H3.out.1), H3.out.2.trans (a3.mono H3.out.2.size)⟩)
    have HENC := Lib.hid fun w' => HENC.out kb bx w' H4.out.n.1
    clear hN H3
    by_cases hlo : n < 0
    · have HWORD : Hid (∀ w', KeyB w' kb W bx → Calls Tryd.prog 5 #[.pointer (some ⟨kb, 0, none⟩), .int .i64 n] w' fun e w'' => e = .returned (.int .u32 0) ∧ Below w'.heap.size w' w'') := Lib.hid fun w' _ => kword_out kb n w' (by omega)
      go_wp2_with fail
      have hX_0 := H4.out.below (Below.refl _ w4).drew
      have hS_0 : SB w.heap.size B w4.drew := HBA.out _ _ hX_0.b
      clear H4
      refine wp_region_held_drew (S := (SB w.heap.size B)) (by kernel_rfl) ?_ (fun hHeld => ?_)
      · (try dsimp only)
        first | assumption
      generalize w4.drew = W0 at *
      refine wpAnyH_take (i := 0) (oi := { dst := some 69, op := Go.Op.move (Go.Operand.tmp 9), type := 30, pos := "law.go:54", after := #[], guard := none }) (v := ?_) rfl (by kernel_rfl) (by kernel_rfl) (by kernel_rfl) (fun _ _ _ h => h) (Or.inl ⟨by rfl, ?_⟩) (by assumption) ?_
      rotate_left
      · intro wS hSw
        (try dsimp only at hSw)
        go_simp
        (try with_reducible rfl)
      (try simp only [Act.put, List.setIfInBounds_toArray, List.set_cons_zero, List.set_cons_succ])
      refine wpAnyH_take (i := 1) (oi := { dst := some 70, op := Go.Op.binOp Go.BinOp.eql 30 (Go.Operand.tmp 69) (Go.Operand.const Go.Value.nilIface) 30, type := 4, pos := "law.go:54", after := #[{ on := 0, ground := Go.Ground.data }], guard := none }) (v := ?_) rfl (by kernel_rfl) (by kernel_rfl) (by kernel_rfl) (fun _ _ _ h => h) (Or.inl ⟨by rfl, ?_⟩) (by assumption) ?_
      rotate_left
      · intro wS hSw
        (try dsimp only at hSw)
        go_simp
        (try with_reducible rfl)
      (try simp only [Act.put, List.setIfInBounds_toArray, List.set_cons_zero, List.set_cons_succ])
      refine wpAnyH_take (i := 2) (oi := { dst := some 71, op := Go.Op.move (Go.Operand.tmp 70), type := 4, pos := "law.go:54", after := #[{ on := 1, ground := Go.Ground.data }], guard := none }) (v := ?_) rfl (by kernel_rfl) (by kernel_rfl) (by kernel_rfl) (fun _ _ _ h => h) (Or.inl ⟨by rfl, ?_⟩) (by assumption) ?_
      rotate_left
      · intro wS hSw
        (try dsimp only at hSw)
        go_simp
        (try with_reducible rfl)
      (try simp only [Act.put, List.setIfInBounds_toArray, List.set_cons_zero, List.set_cons_succ])
      refine wpAnyH_take (i := 3) (oi := { dst := some 72, op := Go.Op.move (Go.Operand.tmp 8), type := 24, pos := "law.go:54", after := #[{ on := 2, ground := Go.Ground.guard }], guard := some (2, true) }) (v := ?_) rfl (by kernel_rfl) (by kernel_rfl) (by kernel_rfl) (fun _ _ _ h => h) (Or.inl ⟨by rfl, ?_⟩) (by assumption) ?_
      rotate_left
      · intro wS hSw
        (try dsimp only at hSw)
        go_simp
        (try with_reducible rfl)
      (try simp only [Act.put, List.setIfInBounds_toArray, List.set_cons_zero, List.set_cons_succ])
      refine wpAnyH_take (i := 4) (oi := { dst := some 73, op := Go.Op.move (Go.Operand.tmp 2), type := 3, pos := "law.go:54", after := #[{ on := 2, ground := Go.Ground.guard }], guard := some (2, true) }) (v := ?_) rfl (by kernel_rfl) (by kernel_rfl) (by kernel_rfl) (fun _ _ _ h => h) (Or.inl ⟨by rfl, ?_⟩) (by assumption) ?_
      rotate_left
      · intro wS hSw
        (try dsimp only at hSw)
        go_simp
        (try with_reducible rfl)
      (try simp only [Act.put, List.setIfInBounds_toArray, List.set_cons_zero, List.set_cons_succ])
      refine wpAnyH_take (i := 6) (oi := { dst := some 75, op := Go.Op.move (Go.Operand.tmp 10), type := 27, pos := "law.go:54", after := #[{ on := 2, ground := Go.Ground.guard }], guard := some (2, true) }) (v := ?_) rfl (by kernel_rfl) (by kernel_rfl) (by kernel_rfl) (fun _ _ _ h => h) (Or.inl ⟨by rfl, ?_⟩) (by assumption) ?_
      rotate_left
      · intro wS hSw
        (try dsimp only at hSw)
        go_simp
        (try with_reducible rfl)
      (try simp only [Act.put, List.setIfInBounds_toArray, List.set_cons_zero, List.set_cons_succ])
      refine wpAnyH_ready (rs := [5]) (by kernel_rfl) (by simp) ?_
      refine AllReadyH.cons (o := { dst := some 74, op := Go.Op.call { callee := Go.Callee.value (Go.Operand.func 5), args := #[Go.Operand.tmp 72, Go.Operand.tmp 73], argTypes := #[24, 3] }, type := 27, pos := "law.go:54", after := #[{ on := 3, ground := Go.Ground.data }, { on := 4, ground := Go.Ground.data }, { on := 2, ground := Go.Ground.chain }, { on := 2, ground := Go.Ground.guard }], guard := some (2, true) }) rfl (fun K hK => ?_) AllReadyH.nil
      go_simp
      (refine (HWORD.out _ hX_0.k).mono ?_; rintro e v_1 ⟨rfl, hb_1⟩; have hX_1 := hX_0.below hb_1; have hS_1 : SB w.heap.size B v_1 := HBA.out _ _ hX_1.b; clear hb_1 hX_0 hS_0; skip)
      (try go_wp2_with fail)
      refine hK.out _ _ ?_ (fun hHeld => ?_)
      · (try dsimp only)
        first | assumption
      clear hK K
      (try simp only [Act.put, List.setIfInBounds_toArray, List.set_cons_zero, List.set_cons_succ])
      refine wpAnyH_take (i := 7) (oi := { dst := some 76, op := Go.Op.binOp Go.BinOp.eql 27 (Go.Operand.tmp 74) (Go.Operand.tmp 75) 27, type := 4, pos := "law.go:54", after := #[{ on := 5, ground := Go.Ground.data }, { on := 6, ground := Go.Ground.data }, { on := 2, ground := Go.Ground.guard }], guard := some (2, true) }) (v := ?_) rfl (by kernel_rfl) (by kernel_rfl) (by kernel_rfl) (fun _ _ _ h => h) (Or.inl ⟨by rfl, ?_⟩) (by assumption) ?_
      rotate_left
      · intro wS hSw
        (try dsimp only at hSw)
        go_simp
        (try with_reducible rfl)
      (try simp only [Act.put, List.setIfInBounds_toArray, List.set_cons_zero, List.set_cons_succ])
      refine wpAnyH_take (i := 8) (oi := { dst := some 77, op := Go.Op.pick (Go.Operand.tmp 71) (Go.Operand.tmp 76) (Go.Operand.const (Go.Value.bool false)), type := 4, pos := "law.go:54", after := #[{ on := 2, ground := Go.Ground.data }, { on := 7, ground := Go.Ground.data }], guard := none }) (v := ?_) rfl (by kernel_rfl) (by kernel_rfl) (by kernel_rfl) (fun _ _ _ h => h) (Or.inl ⟨by rfl, ?_⟩) (by assumption) ?_
      rotate_left
      · intro wS hSw
        (try dsimp only at hSw)
        go_simp
        (try with_reducible rfl)
      (try simp only [Act.put, List.setIfInBounds_toArray, List.set_cons_zero, List.set_cons_succ])
      refine wpAnyH_take (i := 9) (oi := { dst := some 78, op := Go.Op.move (Go.Operand.tmp 77), type := 4, pos := "law.go:54", after := #[{ on := 8, ground := Go.Ground.data }, { on := 5, ground := Go.Ground.chain }], guard := none }) (v := ?_) rfl (by kernel_rfl) (by kernel_rfl) (by kernel_rfl) (fun _ _ _ h => h) (Or.inl ⟨by rfl, ?_⟩) (by assumption) ?_
      rotate_left
      · intro wS hSw
        (try dsimp only at hSw)
        go_simp
        (try with_reducible rfl)
      (try simp only [Act.put, List.setIfInBounds_toArray, List.set_cons_zero, List.set_cons_succ])
      refine wpAnyH_take (i := 10) (oi := { dst := some 79, op := Go.Op.move (Go.Operand.tmp 8), type := 24, pos := "law.go:54", after := #[{ on := 9, ground := Go.Ground.guard }], guard := some (9, true) }) (v := ?_) rfl (by kernel_rfl) (by kernel_rfl) (by kernel_rfl) (fun _ _ _ h => h) (Or.inl ⟨by rfl, ?_⟩) (by assumption) ?_
      rotate_left
      · intro wS hSw
        (try dsimp only at hSw)
        go_simp
        (try with_reducible rfl)
      (try simp only [Act.put, List.setIfInBounds_toArray, List.set_cons_zero, List.set_cons_succ])
      refine wpAnyH_take (i := 11) (oi := { dst := some 80, op := Go.Op.load 23 (Go.Operand.tmp 4), type := 23, pos := "law.go:54", after := #[{ on := 9, ground := Go.Ground.guard }], guard := some (9, true) }) (v := ?_) rfl (by kernel_rfl) (by kernel_rfl) (by kernel_rfl) (fun _ _ _ h => h) (Or.inl ⟨by rfl, ?_⟩) (by assumption) ?_
      rotate_left
      · intro wS hSw
        refine exec_load16a (x := .tmp 4) ?_ ?_ (ld16a hSw HIB.out) <;> rfl
      (try simp only [Act.put, List.setIfInBounds_toArray, List.set_cons_zero, List.set_cons_succ])
      refine wpAnyH_take (i := 13) (oi := { dst := some 82, op := Go.Op.move (Go.Operand.tmp 0), type := 22, pos := "law.go:54", after := #[{ on := 9, ground := Go.Ground.guard }], guard := some (9, true) }) (v := ?_) rfl (by kernel_rfl) (by kernel_rfl) (by kernel_rfl) (fun _ _ _ h => h) (Or.inl ⟨by rfl, ?_⟩) (by assumption) ?_
      rotate_left
      · intro wS hSw
        (try dsimp only at hSw)
        go_simp
        (try with_reducible rfl)
      (try simp only [Act.put, List.setIfInBounds_toArray, List.set_cons_zero, List.set_cons_succ])
      refine wpAnyH_take (i := 15) (oi := { dst := some 84, op := Go.Op.load 23 (Go.Operand.tmp 4), type := 23, pos := "law.go:54", after := #[{ on := 9, ground := Go.Ground.guard }], guard := some (9, true) }) (v := ?_) rfl (by kernel_rfl) (by kernel_rfl) (by kernel_rfl) (fun _ _ _ h => h) (Or.inl ⟨by rfl, ?_⟩) (by assumption) ?_
      rotate_left
      · intro wS hSw
        refine exec_load16a (x := .tmp 4) ?_ ?_ (ld16a hSw HIB.out) <;> rfl
      (try simp only [Act.put, List.setIfInBounds_toArray, List.set_cons_zero, List.set_cons_succ])
      refine wpAnyH_ready (rs := [12]) (by kernel_rfl) (by simp) ?_
      refine AllReadyH.cons (o := { dst := some 81, op := Go.Op.call { callee := Go.Callee.value (Go.Operand.func 4), args := #[Go.Operand.tmp 79, Go.Operand.tmp 80], argTypes := #[24, 25] }, type := 25, pos := "law.go:54", after := #[{ on := 10, ground := Go.Ground.data }, { on := 11, ground := Go.Ground.data }, { on := 9, ground := Go.Ground.chain }, { on := 9, ground := Go.Ground.guard }], guard := some (9, true) }) rfl (fun K hK => ?_) AllReadyH.nil
      go_simp
      (refine (HENC.out _ hX_1.k hX_1.x).mono ?_; rintro e v_2 ⟨rfl, hb_2, ho_2⟩; have hX_2 := hX_1.own hb_2 ho_2; have hS_2 : SB w.heap.size B v_2 := HBA.out _ _ hX_2.b; clear hb_2 ho_2 hX_1 hS_1; skip)
      (try go_wp2_with fail)
      refine hK.out _ _ ?_ (fun hHeld => ?_)
      · (try dsimp only)
        first | assumption
      clear hK K
      (try simp only [Act.put, List.setIfInBounds_toArray, List.set_cons_zero, List.set_cons_succ])
      refine wpAnyH_ready (rs := [14]) (by kernel_rfl) (by simp) ?_
      refine AllReadyH.cons (o := { dst := some 83, op := Go.Op.call { callee := Go.Callee.value (Go.Operand.func 11), args := #[Go.Operand.tmp 82], argTypes := #[22] }, type := 41, pos := "law.go:54", after := #[{ on := 13, ground := Go.Ground.data }, { on := 12, ground := Go.Ground.chain }, { on := 9, ground := Go.Ground.guard }], guard := some (9, true) }) rfl (fun K hK => ?_) AllReadyH.nil
      go_simp
      (refine (HRDY.out _ hX_2.o).mono ?_; rintro e v_3 ⟨rfl, hb_3⟩; have hX_3 := hX_2.below hb_3; have hS_3 : SB w.heap.size B v_3 := HBA.out _ _ hX_3.b; clear hb_3 hX_2 hS_2; skip)
      (try go_wp2_with fail)
      refine hK.out _ _ ?_ (fun hHeld => ?_)
      · (try dsimp only)
        first | assumption
      clear hK K
      (try simp only [Act.put, List.setIfInBounds_toArray, List.set_cons_zero, List.set_cons_succ])
      refine wpAnyH_ready (rs := [16]) (by kernel_rfl) (by simp) ?_
      refine AllReadyH.cons (o := { dst := some 85, op := Go.Op.call { callee := Go.Callee.value (Go.Operand.func 10), args := #[Go.Operand.tmp 83, Go.Operand.tmp 84], argTypes := #[41, 23] }, type := 23, pos := "law.go:54", after := #[{ on := 14, ground := Go.Ground.data }, { on := 15, ground := Go.Ground.data }, { on := 14, ground := Go.Ground.chain }, { on := 9, ground := Go.Ground.guard }], guard := some (9, true) }) rfl (fun K hK => ?_) AllReadyH.nil
      go_simp
      (refine (HREN.out _).mono ?_; rintro e v_4 ⟨rfl, hb_4⟩; have hX_4 := hX_3.below hb_4; have hS_4 : SB w.heap.size B v_4 := HBA.out _ _ hX_4.b; clear hb_4 hX_3 hS_3; skip)
      (try go_wp2_with fail)
      refine hK.out _ _ ?_ (fun hHeld => ?_)
      · (try dsimp only)
        first | assumption
      clear hK K
      (try simp only [Act.put, List.setIfInBounds_toArray, List.set_cons_zero, List.set_cons_succ])
      refine wpAnyH_take (i := 17) (oi := { dst := some 86, op := Go.Op.binOp Go.BinOp.eql 25 (Go.Operand.tmp 81) (Go.Operand.tmp 85) 25, type := 4, pos := "law.go:54", after := #[{ on := 12, ground := Go.Ground.data }, { on := 16, ground := Go.Ground.data }, { on := 9, ground := Go.Ground.guard }], guard := some (9, true) }) (v := ?_) rfl (by kernel_rfl) (by kernel_rfl) (by kernel_rfl) (fun _ _ _ h => h) (Or.inl ⟨by rfl, ?_⟩) (by assumption) ?_
      rotate_left
      · intro wS hSw
        refine exec_eql16 (r := 25) (x := .tmp 81) (y := .tmp 85) ?_ ?_ ?_ HEQ.out <;> rfl
      (try simp only [Act.put, List.setIfInBounds_toArray, List.set_cons_zero, List.set_cons_succ])
      refine wpAnyH_take (i := 18) (oi := { dst := some 87, op := Go.Op.pick (Go.Operand.tmp 78) (Go.Operand.tmp 86) (Go.Operand.const (Go.Value.bool false)), type := 4, pos := "law.go:54", after := #[{ on := 9, ground := Go.Ground.data }, { on := 17, ground := Go.Ground.data }], guard := none }) (v := ?_) rfl (by kernel_rfl) (by kernel_rfl) (by kernel_rfl) (fun _ _ _ h => h) (Or.inl ⟨by rfl, ?_⟩) (by assumption) ?_
      rotate_left
      · intro wS hSw
        (try dsimp only at hSw)
        go_simp
        (try with_reducible rfl)
      (try simp only [Act.put, List.setIfInBounds_toArray, List.set_cons_zero, List.set_cons_succ])
      refine wpAnyH_take (i := 19) (oi := { dst := some 88, op := Go.Op.move (Go.Operand.tmp 87), type := 4, pos := "law.go:54", after := #[{ on := 18, ground := Go.Ground.data }, { on := 16, ground := Go.Ground.chain }], guard := none }) (v := ?_) rfl (by kernel_rfl) (by kernel_rfl) (by kernel_rfl) (fun _ _ _ h => h) (Or.inl ⟨by rfl, ?_⟩) (by assumption) ?_
      rotate_left
      · intro wS hSw
        (try dsimp only at hSw)
        go_simp
        (try with_reducible rfl)
      (try simp only [Act.put, List.setIfInBounds_toArray, List.set_cons_zero, List.set_cons_succ])
      refine wpAnyH_ready (rs := [20]) (by kernel_rfl) (by simp) ?_
      refine AllReadyH.cons (o := { dst := some 89, op := Go.Op.call { callee := Go.Callee.value (Go.Operand.func 8), args := #[], argTypes := #[] }, type := 4, pos := "law.go:54", after := #[{ on := 19, ground := Go.Ground.chain }, { on := 19, ground := Go.Ground.guard }], guard := some (19, true) }) rfl (fun K hK => ?_) AllReadyH.nil
      go_simp
      (refine (aes_sure _).mono ?_; rintro e v_5 ⟨rfl, hb_5⟩; have hX_5 := hX_4.below hb_5; have hS_5 : SB w.heap.size B v_5 := HBA.out _ _ hX_5.b; clear hb_5 hX_4 hS_4; skip)
      (try go_wp2_with fail)
      refine hK.out _ _ ?_ (fun hHeld => ?_)
      · (try dsimp only)
        first | assumption
      clear hK K
      (try simp only [Act.put, List.setIfInBounds_toArray, List.set_cons_zero, List.set_cons_succ])
      refine wpAnyH_take (i := 21) (oi := { dst := some 90, op := Go.Op.pick (Go.Operand.tmp 88) (Go.Operand.tmp 89) (Go.Operand.const (Go.Value.bool false)), type := 4, pos := "law.go:54", after := #[{ on := 19, ground := Go.Ground.data }, { on := 20, ground := Go.Ground.data }], guard := none }) (v := ?_) rfl (by kernel_rfl) (by kernel_rfl) (by kernel_rfl) (fun _ _ _ h => h) (Or.inl ⟨by rfl, ?_⟩) (by assumption) ?_
      rotate_left
      · intro wS hSw
        (try dsimp only at hSw)
        go_simp
        (try with_reducible rfl)
      (try simp only [Act.put, List.setIfInBounds_toArray, List.set_cons_zero, List.set_cons_succ])
      refine wpAnyH_take (i := 22) (oi := { dst := some 6, op := Go.Op.assign (Go.Operand.tmp 90), type := 4, pos := "law.go:54", after := #[{ on := 21, ground := Go.Ground.data }, { on := 20, ground := Go.Ground.chain }, { on := 0, ground := Go.Ground.phase }, { on := 1, ground := Go.Ground.phase }, { on := 2, ground := Go.Ground.phase }, { on := 3, ground := Go.Ground.phase }, { on := 4, ground := Go.Ground.phase }, { on := 5, ground := Go.Ground.phase }, { on := 6, ground := Go.Ground.phase }, { on := 7, ground := Go.Ground.phase }, { on := 8, ground := Go.Ground.phase }, { on := 9, ground := Go.Ground.phase }, { on := 10, ground := Go.Ground.phase }, { on := 11, ground := Go.Ground.phase }, { on := 12, ground := Go.Ground.phase }, { on := 13, ground := Go.Ground.phase }, { on := 14, ground := Go.Ground.phase }, { on := 15, ground := Go.Ground.phase }, { on := 16, ground := Go.Ground.phase }, { on := 17, ground := Go.Ground.phase }, { on := 18, ground := Go.Ground.phase }, { on := 19, ground := Go.Ground.phase }, { on := 20, ground := Go.Ground.phase }, { on := 21, ground := Go.Ground.phase }], guard := none }) (v := ?_) rfl (by kernel_rfl) (by kernel_rfl) (by kernel_rfl) (fun _ _ _ h => h) (Or.inl ⟨by rfl, ?_⟩) (by assumption) ?_
      rotate_left
      · intro wS hSw
        (try dsimp only at hSw)
        go_simp
        (try with_reducible rfl)
      (try simp only [Act.put, List.setIfInBounds_toArray, List.set_cons_zero, List.set_cons_succ])
      refine wpAnyH_done (by kernel_rfl) ?_ _
      have HO := Lib.hid hX_5.o
      clear hX_5 hS_5
      go_wp2_with fail
      go_ret
      exact ⟨rfl, HO.out⟩
    · by_cases hhi : 60 ≤ n
      · have HWORD : Hid (∀ w', KeyB w' kb W bx → Calls Tryd.prog 5 #[.pointer (some ⟨kb, 0, none⟩), .int .i64 n] w' fun e w'' => e = .returned (.int .u32 0) ∧ Below w'.heap.size w' w'') := Lib.hid fun w' _ => kword_out kb n w' (by omega)
        have g0 : (0 : Int) ≤ n := by omega
        have g1 : ¬ n < 60 := by omega
        clear hlo
        go_wp2_with fail
        have hX_0 := H4.out.below (Below.refl _ w4).drew
        have hS_0 : SB w.heap.size B w4.drew := HBA.out _ _ hX_0.b
        clear H4
        refine wp_region_held_drew (S := (SB w.heap.size B)) (by kernel_rfl) ?_ (fun hHeld => ?_)
        · (try dsimp only)
          first | assumption
        generalize w4.drew = W0 at *
        refine wpAnyH_take (i := 0) (oi := { dst := some 69, op := Go.Op.move (Go.Operand.tmp 9), type := 30, pos := "law.go:54", after := #[], guard := none }) (v := ?_) rfl (by kernel_rfl) (by kernel_rfl) (by kernel_rfl) (fun _ _ _ h => h) (Or.inl ⟨by rfl, ?_⟩) (by assumption) ?_
        rotate_left
        · intro wS hSw
          (try dsimp only at hSw)
          go_simp
          (try with_reducible rfl)
        (try simp only [Act.put, List.setIfInBounds_toArray, List.set_cons_zero, List.set_cons_succ])
        refine wpAnyH_take (i := 1) (oi := { dst := some 70, op := Go.Op.binOp Go.BinOp.eql 30 (Go.Operand.tmp 69) (Go.Operand.const Go.Value.nilIface) 30, type := 4, pos := "law.go:54", after := #[{ on := 0, ground := Go.Ground.data }], guard := none }) (v := ?_) rfl (by kernel_rfl) (by kernel_rfl) (by kernel_rfl) (fun _ _ _ h => h) (Or.inl ⟨by rfl, ?_⟩) (by assumption) ?_
        rotate_left
        · intro wS hSw
          (try dsimp only at hSw)
          go_simp
          (try with_reducible rfl)
        (try simp only [Act.put, List.setIfInBounds_toArray, List.set_cons_zero, List.set_cons_succ])
        refine wpAnyH_take (i := 2) (oi := { dst := some 71, op := Go.Op.move (Go.Operand.tmp 70), type := 4, pos := "law.go:54", after := #[{ on := 1, ground := Go.Ground.data }], guard := none }) (v := ?_) rfl (by kernel_rfl) (by kernel_rfl) (by kernel_rfl) (fun _ _ _ h => h) (Or.inl ⟨by rfl, ?_⟩) (by assumption) ?_
        rotate_left
        · intro wS hSw
          (try dsimp only at hSw)
          go_simp
          (try with_reducible rfl)
        (try simp only [Act.put, List.setIfInBounds_toArray, List.set_cons_zero, List.set_cons_succ])
        refine wpAnyH_take (i := 3) (oi := { dst := some 72, op := Go.Op.move (Go.Operand.tmp 8), type := 24, pos := "law.go:54", after := #[{ on := 2, ground := Go.Ground.guard }], guard := some (2, true) }) (v := ?_) rfl (by kernel_rfl) (by kernel_rfl) (by kernel_rfl) (fun _ _ _ h => h) (Or.inl ⟨by rfl, ?_⟩) (by assumption) ?_
        rotate_left
        · intro wS hSw
          (try dsimp only at hSw)
          go_simp
          (try with_reducible rfl)
        (try simp only [Act.put, List.setIfInBounds_toArray, List.set_cons_zero, List.set_cons_succ])
        refine wpAnyH_take (i := 4) (oi := { dst := some 73, op := Go.Op.move (Go.Operand.tmp 2), type := 3, pos := "law.go:54", after := #[{ on := 2, ground := Go.Ground.guard }], guard := some (2, true) }) (v := ?_) rfl (by kernel_rfl) (by kernel_rfl) (by kernel_rfl) (fun _ _ _ h => h) (Or.inl ⟨by rfl, ?_⟩) (by assumption) ?_
        rotate_left
        · intro wS hSw
          (try dsimp only at hSw)
          go_simp
          (try with_reducible rfl)
        (try simp only [Act.put, List.setIfInBounds_toArray, List.set_cons_zero, List.set_cons_succ])
        refine wpAnyH_take (i := 6) (oi := { dst := some 75, op := Go.Op.move (Go.Operand.tmp 10), type := 27, pos := "law.go:54", after := #[{ on := 2, ground := Go.Ground.guard }], guard := some (2, true) }) (v := ?_) rfl (by kernel_rfl) (by kernel_rfl) (by kernel_rfl) (fun _ _ _ h => h) (Or.inl ⟨by rfl, ?_⟩) (by assumption) ?_
        rotate_left
        · intro wS hSw
          (try dsimp only at hSw)
          go_simp
          (try with_reducible rfl)
        (try simp only [Act.put, List.setIfInBounds_toArray, List.set_cons_zero, List.set_cons_succ])
        refine wpAnyH_ready (rs := [5]) (by kernel_rfl) (by simp) ?_
        refine AllReadyH.cons (o := { dst := some 74, op := Go.Op.call { callee := Go.Callee.value (Go.Operand.func 5), args := #[Go.Operand.tmp 72, Go.Operand.tmp 73], argTypes := #[24, 3] }, type := 27, pos := "law.go:54", after := #[{ on := 3, ground := Go.Ground.data }, { on := 4, ground := Go.Ground.data }, { on := 2, ground := Go.Ground.chain }, { on := 2, ground := Go.Ground.guard }], guard := some (2, true) }) rfl (fun K hK => ?_) AllReadyH.nil
        go_simp
        (refine (HWORD.out _ hX_0.k).mono ?_; rintro e v_6 ⟨rfl, hb_6⟩; have hX_6 := hX_0.below hb_6; have hS_6 : SB w.heap.size B v_6 := HBA.out _ _ hX_6.b; clear hb_6 hX_0 hS_0; skip)
        (try go_wp2_with fail)
        refine hK.out _ _ ?_ (fun hHeld => ?_)
        · (try dsimp only)
          first | assumption
        clear hK K
        (try simp only [Act.put, List.setIfInBounds_toArray, List.set_cons_zero, List.set_cons_succ])
        refine wpAnyH_take (i := 7) (oi := { dst := some 76, op := Go.Op.binOp Go.BinOp.eql 27 (Go.Operand.tmp 74) (Go.Operand.tmp 75) 27, type := 4, pos := "law.go:54", after := #[{ on := 5, ground := Go.Ground.data }, { on := 6, ground := Go.Ground.data }, { on := 2, ground := Go.Ground.guard }], guard := some (2, true) }) (v := ?_) rfl (by kernel_rfl) (by kernel_rfl) (by kernel_rfl) (fun _ _ _ h => h) (Or.inl ⟨by rfl, ?_⟩) (by assumption) ?_
        rotate_left
        · intro wS hSw
          (try dsimp only at hSw)
          go_simp
          (try with_reducible rfl)
        (try simp only [Act.put, List.setIfInBounds_toArray, List.set_cons_zero, List.set_cons_succ])
        refine wpAnyH_take (i := 8) (oi := { dst := some 77, op := Go.Op.pick (Go.Operand.tmp 71) (Go.Operand.tmp 76) (Go.Operand.const (Go.Value.bool false)), type := 4, pos := "law.go:54", after := #[{ on := 2, ground := Go.Ground.data }, { on := 7, ground := Go.Ground.data }], guard := none }) (v := ?_) rfl (by kernel_rfl) (by kernel_rfl) (by kernel_rfl) (fun _ _ _ h => h) (Or.inl ⟨by rfl, ?_⟩) (by assumption) ?_
        rotate_left
        · intro wS hSw
          (try dsimp only at hSw)
          go_simp
          (try with_reducible rfl)
        (try simp only [Act.put, List.setIfInBounds_toArray, List.set_cons_zero, List.set_cons_succ])
        refine wpAnyH_take (i := 9) (oi := { dst := some 78, op := Go.Op.move (Go.Operand.tmp 77), type := 4, pos := "law.go:54", after := #[{ on := 8, ground := Go.Ground.data }, { on := 5, ground := Go.Ground.chain }], guard := none }) (v := ?_) rfl (by kernel_rfl) (by kernel_rfl) (by kernel_rfl) (fun _ _ _ h => h) (Or.inl ⟨by rfl, ?_⟩) (by assumption) ?_
        rotate_left
        · intro wS hSw
          (try dsimp only at hSw)
          go_simp
          (try with_reducible rfl)
        (try simp only [Act.put, List.setIfInBounds_toArray, List.set_cons_zero, List.set_cons_succ])
        refine wpAnyH_take (i := 10) (oi := { dst := some 79, op := Go.Op.move (Go.Operand.tmp 8), type := 24, pos := "law.go:54", after := #[{ on := 9, ground := Go.Ground.guard }], guard := some (9, true) }) (v := ?_) rfl (by kernel_rfl) (by kernel_rfl) (by kernel_rfl) (fun _ _ _ h => h) (Or.inl ⟨by rfl, ?_⟩) (by assumption) ?_
        rotate_left
        · intro wS hSw
          (try dsimp only at hSw)
          go_simp
          (try with_reducible rfl)
        (try simp only [Act.put, List.setIfInBounds_toArray, List.set_cons_zero, List.set_cons_succ])
        refine wpAnyH_take (i := 11) (oi := { dst := some 80, op := Go.Op.load 23 (Go.Operand.tmp 4), type := 23, pos := "law.go:54", after := #[{ on := 9, ground := Go.Ground.guard }], guard := some (9, true) }) (v := ?_) rfl (by kernel_rfl) (by kernel_rfl) (by kernel_rfl) (fun _ _ _ h => h) (Or.inl ⟨by rfl, ?_⟩) (by assumption) ?_
        rotate_left
        · intro wS hSw
          refine exec_load16a (x := .tmp 4) ?_ ?_ (ld16a hSw HIB.out) <;> rfl
        (try simp only [Act.put, List.setIfInBounds_toArray, List.set_cons_zero, List.set_cons_succ])
        refine wpAnyH_take (i := 13) (oi := { dst := some 82, op := Go.Op.move (Go.Operand.tmp 0), type := 22, pos := "law.go:54", after := #[{ on := 9, ground := Go.Ground.guard }], guard := some (9, true) }) (v := ?_) rfl (by kernel_rfl) (by kernel_rfl) (by kernel_rfl) (fun _ _ _ h => h) (Or.inl ⟨by rfl, ?_⟩) (by assumption) ?_
        rotate_left
        · intro wS hSw
          (try dsimp only at hSw)
          go_simp
          (try with_reducible rfl)
        (try simp only [Act.put, List.setIfInBounds_toArray, List.set_cons_zero, List.set_cons_succ])
        refine wpAnyH_take (i := 15) (oi := { dst := some 84, op := Go.Op.load 23 (Go.Operand.tmp 4), type := 23, pos := "law.go:54", after := #[{ on := 9, ground := Go.Ground.guard }], guard := some (9, true) }) (v := ?_) rfl (by kernel_rfl) (by kernel_rfl) (by kernel_rfl) (fun _ _ _ h => h) (Or.inl ⟨by rfl, ?_⟩) (by assumption) ?_
        rotate_left
        · intro wS hSw
          refine exec_load16a (x := .tmp 4) ?_ ?_ (ld16a hSw HIB.out) <;> rfl
        (try simp only [Act.put, List.setIfInBounds_toArray, List.set_cons_zero, List.set_cons_succ])
        refine wpAnyH_ready (rs := [12]) (by kernel_rfl) (by simp) ?_
        refine AllReadyH.cons (o := { dst := some 81, op := Go.Op.call { callee := Go.Callee.value (Go.Operand.func 4), args := #[Go.Operand.tmp 79, Go.Operand.tmp 80], argTypes := #[24, 25] }, type := 25, pos := "law.go:54", after := #[{ on := 10, ground := Go.Ground.data }, { on := 11, ground := Go.Ground.data }, { on := 9, ground := Go.Ground.chain }, { on := 9, ground := Go.Ground.guard }], guard := some (9, true) }) rfl (fun K hK => ?_) AllReadyH.nil
        go_simp
        (refine (HENC.out _ hX_6.k hX_6.x).mono ?_; rintro e v_7 ⟨rfl, hb_7, ho_7⟩; have hX_7 := hX_6.own hb_7 ho_7; have hS_7 : SB w.heap.size B v_7 := HBA.out _ _ hX_7.b; clear hb_7 ho_7 hX_6 hS_6; skip)
        (try go_wp2_with fail)
        refine hK.out _ _ ?_ (fun hHeld => ?_)
        · (try dsimp only)
          first | assumption
        clear hK K
        (try simp only [Act.put, List.setIfInBounds_toArray, List.set_cons_zero, List.set_cons_succ])
        refine wpAnyH_ready (rs := [14]) (by kernel_rfl) (by simp) ?_
        refine AllReadyH.cons (o := { dst := some 83, op := Go.Op.call { callee := Go.Callee.value (Go.Operand.func 11), args := #[Go.Operand.tmp 82], argTypes := #[22] }, type := 41, pos := "law.go:54", after := #[{ on := 13, ground := Go.Ground.data }, { on := 12, ground := Go.Ground.chain }, { on := 9, ground := Go.Ground.guard }], guard := some (9, true) }) rfl (fun K hK => ?_) AllReadyH.nil
        go_simp
        (refine (HRDY.out _ hX_7.o).mono ?_; rintro e v_8 ⟨rfl, hb_8⟩; have hX_8 := hX_7.below hb_8; have hS_8 : SB w.heap.size B v_8 := HBA.out _ _ hX_8.b; clear hb_8 hX_7 hS_7; skip)
        (try go_wp2_with fail)
        refine hK.out _ _ ?_ (fun hHeld => ?_)
        · (try dsimp only)
          first | assumption
        clear hK K
        (try simp only [Act.put, List.setIfInBounds_toArray, List.set_cons_zero, List.set_cons_succ])
        refine wpAnyH_ready (rs := [16]) (by kernel_rfl) (by simp) ?_
        refine AllReadyH.cons (o := { dst := some 85, op := Go.Op.call { callee := Go.Callee.value (Go.Operand.func 10), args := #[Go.Operand.tmp 83, Go.Operand.tmp 84], argTypes := #[41, 23] }, type := 23, pos := "law.go:54", after := #[{ on := 14, ground := Go.Ground.data }, { on := 15, ground := Go.Ground.data }, { on := 14, ground := Go.Ground.chain }, { on := 9, ground := Go.Ground.guard }], guard := some (9, true) }) rfl (fun K hK => ?_) AllReadyH.nil
        go_simp
        (refine (HREN.out _).mono ?_; rintro e v_9 ⟨rfl, hb_9⟩; have hX_9 := hX_8.below hb_9; have hS_9 : SB w.heap.size B v_9 := HBA.out _ _ hX_9.b; clear hb_9 hX_8 hS_8; skip)
        (try go_wp2_with fail)
        refine hK.out _ _ ?_ (fun hHeld => ?_)
        · (try dsimp only)
          first | assumption
        clear hK K
        (try simp only [Act.put, List.setIfInBounds_toArray, List.set_cons_zero, List.set_cons_succ])
        refine wpAnyH_take (i := 17) (oi := { dst := some 86, op := Go.Op.binOp Go.BinOp.eql 25 (Go.Operand.tmp 81) (Go.Operand.tmp 85) 25, type := 4, pos := "law.go:54", after := #[{ on := 12, ground := Go.Ground.data }, { on := 16, ground := Go.Ground.data }, { on := 9, ground := Go.Ground.guard }], guard := some (9, true) }) (v := ?_) rfl (by kernel_rfl) (by kernel_rfl) (by kernel_rfl) (fun _ _ _ h => h) (Or.inl ⟨by rfl, ?_⟩) (by assumption) ?_
        rotate_left
        · intro wS hSw
          refine exec_eql16 (r := 25) (x := .tmp 81) (y := .tmp 85) ?_ ?_ ?_ HEQ.out <;> rfl
        (try simp only [Act.put, List.setIfInBounds_toArray, List.set_cons_zero, List.set_cons_succ])
        refine wpAnyH_take (i := 18) (oi := { dst := some 87, op := Go.Op.pick (Go.Operand.tmp 78) (Go.Operand.tmp 86) (Go.Operand.const (Go.Value.bool false)), type := 4, pos := "law.go:54", after := #[{ on := 9, ground := Go.Ground.data }, { on := 17, ground := Go.Ground.data }], guard := none }) (v := ?_) rfl (by kernel_rfl) (by kernel_rfl) (by kernel_rfl) (fun _ _ _ h => h) (Or.inl ⟨by rfl, ?_⟩) (by assumption) ?_
        rotate_left
        · intro wS hSw
          (try dsimp only at hSw)
          go_simp
          (try with_reducible rfl)
        (try simp only [Act.put, List.setIfInBounds_toArray, List.set_cons_zero, List.set_cons_succ])
        refine wpAnyH_take (i := 19) (oi := { dst := some 88, op := Go.Op.move (Go.Operand.tmp 87), type := 4, pos := "law.go:54", after := #[{ on := 18, ground := Go.Ground.data }, { on := 16, ground := Go.Ground.chain }], guard := none }) (v := ?_) rfl (by kernel_rfl) (by kernel_rfl) (by kernel_rfl) (fun _ _ _ h => h) (Or.inl ⟨by rfl, ?_⟩) (by assumption) ?_
        rotate_left
        · intro wS hSw
          (try dsimp only at hSw)
          go_simp
          (try with_reducible rfl)
        (try simp only [Act.put, List.setIfInBounds_toArray, List.set_cons_zero, List.set_cons_succ])
        refine wpAnyH_ready (rs := [20]) (by kernel_rfl) (by simp) ?_
        refine AllReadyH.cons (o := { dst := some 89, op := Go.Op.call { callee := Go.Callee.value (Go.Operand.func 8), args := #[], argTypes := #[] }, type := 4, pos := "law.go:54", after := #[{ on := 19, ground := Go.Ground.chain }, { on := 19, ground := Go.Ground.guard }], guard := some (19, true) }) rfl (fun K hK => ?_) AllReadyH.nil
        go_simp
        (refine (aes_sure _).mono ?_; rintro e v_10 ⟨rfl, hb_10⟩; have hX_10 := hX_9.below hb_10; have hS_10 : SB w.heap.size B v_10 := HBA.out _ _ hX_10.b; clear hb_10 hX_9 hS_9; skip)
        (try go_wp2_with fail)
        refine hK.out _ _ ?_ (fun hHeld => ?_)
        · (try dsimp only)
          first | assumption
        clear hK K
        (try simp only [Act.put, List.setIfInBounds_toArray, List.set_cons_zero, List.set_cons_succ])
        refine wpAnyH_take (i := 21) (oi := { dst := some 90, op := Go.Op.pick (Go.Operand.tmp 88) (Go.Operand.tmp 89) (Go.Operand.const (Go.Value.bool false)), type := 4, pos := "law.go:54", after := #[{ on := 19, ground := Go.Ground.data }, { on := 20, ground := Go.Ground.data }], guard := none }) (v := ?_) rfl (by kernel_rfl) (by kernel_rfl) (by kernel_rfl) (fun _ _ _ h => h) (Or.inl ⟨by rfl, ?_⟩) (by assumption) ?_
        rotate_left
        · intro wS hSw
          (try dsimp only at hSw)
          go_simp
          (try with_reducible rfl)
        (try simp only [Act.put, List.setIfInBounds_toArray, List.set_cons_zero, List.set_cons_succ])
        refine wpAnyH_take (i := 22) (oi := { dst := some 6, op := Go.Op.assign (Go.Operand.tmp 90), type := 4, pos := "law.go:54", after := #[{ on := 21, ground := Go.Ground.data }, { on := 20, ground := Go.Ground.chain }, { on := 0, ground := Go.Ground.phase }, { on := 1, ground := Go.Ground.phase }, { on := 2, ground := Go.Ground.phase }, { on := 3, ground := Go.Ground.phase }, { on := 4, ground := Go.Ground.phase }, { on := 5, ground := Go.Ground.phase }, { on := 6, ground := Go.Ground.phase }, { on := 7, ground := Go.Ground.phase }, { on := 8, ground := Go.Ground.phase }, { on := 9, ground := Go.Ground.phase }, { on := 10, ground := Go.Ground.phase }, { on := 11, ground := Go.Ground.phase }, { on := 12, ground := Go.Ground.phase }, { on := 13, ground := Go.Ground.phase }, { on := 14, ground := Go.Ground.phase }, { on := 15, ground := Go.Ground.phase }, { on := 16, ground := Go.Ground.phase }, { on := 17, ground := Go.Ground.phase }, { on := 18, ground := Go.Ground.phase }, { on := 19, ground := Go.Ground.phase }, { on := 20, ground := Go.Ground.phase }, { on := 21, ground := Go.Ground.phase }], guard := none }) (v := ?_) rfl (by kernel_rfl) (by kernel_rfl) (by kernel_rfl) (fun _ _ _ h => h) (Or.inl ⟨by rfl, ?_⟩) (by assumption) ?_
        rotate_left
        · intro wS hSw
          (try dsimp only at hSw)
          go_simp
          (try with_reducible rfl)
        (try simp only [Act.put, List.setIfInBounds_toArray, List.set_cons_zero, List.set_cons_succ])
        refine wpAnyH_done (by kernel_rfl) ?_ _
        have HO := Lib.hid hX_10.o
        clear hX_10 hS_10
        go_wp2_with fail
        go_ret
        exact ⟨rfl, HO.out⟩
      · obtain ⟨k, rfl⟩ : ∃ k : Nat, n = (k : Int) := ⟨n.toNat, by omega⟩
        have hk60 : k < 60 := by omega
        have k0 : (0 : Int) ≤ (k : Int) := by omega
        have k1 : (k : Int) < 60 := by omega
        obtain ⟨V, hV⟩ : ∃ V, W k = V := ⟨_, rfl⟩
        have HWORD : Hid (∀ w', KeyB w' kb W bx → Calls Tryd.prog 5 #[.pointer (some ⟨kb, 0, none⟩), .int .i64 (k : Nat)] w' fun e w'' => e = .returned (.int .u32 (V : Nat)) ∧ Below w'.heap.size w' w'') := Lib.hid fun w' h => by rw [← hV]; exact kword_in kb bx W k w' h hk60
        obtain ⟨u, hu⟩ : ∃ u, (fun j => dF f (k * 4 + j)) = u := ⟨_, rfl⟩
        obtain ⟨D, hD⟩ : ∃ C, (rowC 4 u).toArray = C := ⟨_, rfl⟩
        have HIX : Hid (∀ w, (Instr.index 36 (.agg E) (.int .i64 (k : Nat))).run Tryd.prog w = .ok (.agg D) w) := Lib.hid fun w => by
          rw [← HE.out, run_index36 (dF f) k hk60 w, hu, hD]
        have hVl : V < 4294967296 := by
          rw [← hV, ← HW.out]; exact exK_lt (fun i hi => (HKB.out i hi).1) 60 (Nat.le_refl _) k
        have hsum := numB_sum hVl
        have hu4 : ∀ j, j < 4 → u j = numB V 4 j := fun j hj => by
          rw [← hu, ← hV, ← HW.out]
          show dF f (k * 4 + j) = _
          rw [show k * 4 + j = 4 * k + j by omega, dF_at f k j hj]; rfl
        have l0 := numB_lt V 4 0
        have l1 := numB_lt V 4 1
        have l2 := numB_lt V 4 2
        have l3 := numB_lt V 4 3
        obtain ⟨x0, h0⟩ : ∃ x, numB V 4 0 = x := ⟨_, rfl⟩
        obtain ⟨x1, h1⟩ : ∃ x, numB V 4 1 = x := ⟨_, rfl⟩
        obtain ⟨x2, h2⟩ : ∃ x, numB V 4 2 = x := ⟨_, rfl⟩
        obtain ⟨x3, h3⟩ : ∃ x, numB V 4 3 = x := ⟨_, rfl⟩
        rw [h0, h1, h2, h3] at hsum
        rw [h0] at l0
        rw [h1] at l1
        rw [h2] at l2
        rw [h3] at l3
        have HU : Hid (u 0 = x0 ∧ u 1 = x1 ∧ u 2 = x2 ∧ u 3 = x3) := Lib.hid ⟨(hu4 0 (by decide)).trans h0, (hu4 1 (by decide)).trans h1, (hu4 2 (by decide)).trans h2, (hu4 3 (by decide)).trans h3⟩
        have HDD := Lib.hid hD
        clear h0 h1 h2 h3 hu4 hV hu hVl hD hk60 hlo hhi
        have hz := zero4_run
        go_wp2_with fail
        refine (HWDS.out _ H4.out.o).mono ?_
        rintro e w5 ⟨rfl, hb5⟩
        have H5 := Lib.hid (H4.out.below hb5)
        clear hb5 H4
        obtain ⟨vb, hvb⟩ : ∃ q, w5.heap.size = q := ⟨_, rfl⟩
        obtain ⟨wa, hwa⟩ : ∃ q, w5.alloc (.cells zero4 35) = q := ⟨_, rfl⟩
        obtain ⟨w6, hw6⟩ : ∃ q, wa.setCells vb 0 D.toList = q := ⟨_, rfl⟩
        have HWA : Hid (RB 35 4 vb (fun _ => 0) wa) := Lib.hid (by rw [← hwa, ← hvb]; exact Blk.new w5 zero4 _)
        have H6 : Hid (AX w kb bx W b w6 ∧ RB 35 4 vb u w6) := Lib.hid (by
          have hba : Below w5.heap.size w5 wa := by rw [← hwa]; exact (Below.refl _ _).alloc (Nat.le_refl _) _
          have hA := H5.out.below hba
          have hO : Own vb wa w6 := by rw [← hw6]; exact Own.setCells _ _ _
          have hlt : bx < w5.heap.size := H5.out.x.lt
          have hlk : kb < w5.heap.size := Blk.lt H5.out.k
          have hlb : w.heap.size < w5.heap.size := Blk.lt H5.out.b
          refine ⟨⟨hO.blk hA.k (by omega), hA.x.own hO (by omega), hA.n, hO.blk hA.b (by omega), hA.o.trans (hO.below (by omega) hA.o.size)⟩, ?_⟩
          rw [← hw6, ← HDD.out]; exact HWA.out.store4 u)
        have HTH : Hid (wa.there vb 0 D.size) := Lib.hid (by rw [← HDD.out]; exact HWA.out.there4 (by decide) _)
        have HI2 : Hid ((Tryd.prog.info? 35).map (·.size) = some D.size) := Lib.hid (by rw [← HDD.out]; exact info35 _)
        have HI3 : Hid (D.all (·.oneCell') = true) := Lib.hid (by rw [← HDD.out]; exact one4 _)
        have c0 : w6.cell? ⟨vb, 0, none⟩ = some (.int .u8 (x0 : Nat)) := H6.out.2.val (by decide) HU.out.1
        have c1 : w6.cell? ⟨vb, 1, none⟩ = some (.int .u8 (x1 : Nat)) := H6.out.2.val (by decide) HU.out.2.1
        have c2 : w6.cell? ⟨vb, 2, none⟩ = some (.int .u8 (x2 : Nat)) := H6.out.2.val (by decide) HU.out.2.2.1
        have c3 : w6.cell? ⟨vb, 3, none⟩ = some (.int .u8 (x3 : Nat)) := H6.out.2.val (by decide) HU.out.2.2.2
        have a0 : IntKind.u32.wrap (x0 : Int) = (x0 : Int) := by rw [IntKind.wrap_u32]; omega
        have a1 : IntKind.u32.wrap (x1 : Int) = (x1 : Int) := by rw [IntKind.wrap_u32]; omega
        have a2 : IntKind.u32.wrap (x2 : Int) = (x2 : Int) := by rw [IntKind.wrap_u32]; omega
        have a3 : IntKind.u32.wrap (x3 : Int) = (x3 : Int) := by rw [IntKind.wrap_u32]; omega
        have d0 : IntKind.u32.wrap ((x0 : Int) * 16777216) = (x0 : Int) * 16777216 := by rw [IntKind.wrap_u32]; omega
        have d1 : IntKind.u32.wrap ((x1 : Int) * 65536) = (x1 : Int) * 65536 := by rw [IntKind.wrap_u32]; omega
        have d2 : IntKind.u32.wrap ((x2 : Int) * 256) = (x2 : Int) * 256 := by rw [IntKind.wrap_u32]; omega
        have d3 : IntKind.u32.wrap ((x0 : Int) * 16777216 + (x1 : Int) * 65536) = (x0 : Int) * 16777216 + (x1 : Int) * 65536 := by rw [IntKind.wrap_u32]; omega
        have d4 : IntKind.u32.wrap ((x0 : Int) * 16777216 + (x1 : Int) * 65536 + (x2 : Int) * 256) = (x0 : Int) * 16777216 + (x1 : Int) * 65536 + (x2 : Int) * 256 := by rw [IntKind.wrap_u32]; omega
        have d5 : IntKind.u32.wrap ((x0 : Int) * 16777216 + (x1 : Int) * 65536 + (x2 : Int) * 256 + (x3 : Int)) = (V : Int) := by rw [IntKind.wrap_u32]; omega
        have d6 : (x0 : Int) * 16777216 + (x1 : Int) * 65536 + (x2 : Int) * 256 + (x3 : Int) = (V : Int) := by omega
        have d7 : (V : Int) % 4294967296 = (V : Int) := by omega
        have H7 := Lib.hid H6.out.1
        clear hsum H5 H6 HWA l0 l1 l2 l3
        go_wp2_with (first
          | (refine wpList_index36 rfl (.tmp 48) (.tmp 49) rfl rfl rfl HIX.out ?_)
          | (refine wpList_store_mid rfl 35 (.tmp 11) (.tmp 50) rfl vb 0 D rfl rfl HTH.out HI2.out HI3.out ?_; rw [hw6]))
        clear hw6 hwa hvb hz HTH a0 a1 a2 a3 d0 d1 d2 d3 d4 d5 d6 d7 c0 c1 c2 c3
        have hX_0 := H7.out.below (Below.refl _ w6).drew
        have hS_0 : SB w.heap.size B w6.drew := HBA.out _ _ hX_0.b
        clear H7
        refine wp_region_held_drew (S := (SB w.heap.size B)) (by kernel_rfl) ?_ (fun hHeld => ?_)
        · (try dsimp only)
          first | assumption
        generalize w6.drew = W0 at *
        refine wpAnyH_take (i := 0) (oi := { dst := some 69, op := Go.Op.move (Go.Operand.tmp 9), type := 30, pos := "law.go:54", after := #[], guard := none }) (v := ?_) rfl (by kernel_rfl) (by kernel_rfl) (by kernel_rfl) (fun _ _ _ h => h) (Or.inl ⟨by rfl, ?_⟩) (by assumption) ?_
        rotate_left
        · intro wS hSw
          (try dsimp only at hSw)
          go_simp
          (try with_reducible rfl)
        (try simp only [Act.put, List.setIfInBounds_toArray, List.set_cons_zero, List.set_cons_succ])
        refine wpAnyH_take (i := 1) (oi := { dst := some 70, op := Go.Op.binOp Go.BinOp.eql 30 (Go.Operand.tmp 69) (Go.Operand.const Go.Value.nilIface) 30, type := 4, pos := "law.go:54", after := #[{ on := 0, ground := Go.Ground.data }], guard := none }) (v := ?_) rfl (by kernel_rfl) (by kernel_rfl) (by kernel_rfl) (fun _ _ _ h => h) (Or.inl ⟨by rfl, ?_⟩) (by assumption) ?_
        rotate_left
        · intro wS hSw
          (try dsimp only at hSw)
          go_simp
          (try with_reducible rfl)
        (try simp only [Act.put, List.setIfInBounds_toArray, List.set_cons_zero, List.set_cons_succ])
        refine wpAnyH_take (i := 2) (oi := { dst := some 71, op := Go.Op.move (Go.Operand.tmp 70), type := 4, pos := "law.go:54", after := #[{ on := 1, ground := Go.Ground.data }], guard := none }) (v := ?_) rfl (by kernel_rfl) (by kernel_rfl) (by kernel_rfl) (fun _ _ _ h => h) (Or.inl ⟨by rfl, ?_⟩) (by assumption) ?_
        rotate_left
        · intro wS hSw
          (try dsimp only at hSw)
          go_simp
          (try with_reducible rfl)
        (try simp only [Act.put, List.setIfInBounds_toArray, List.set_cons_zero, List.set_cons_succ])
        refine wpAnyH_take (i := 3) (oi := { dst := some 72, op := Go.Op.move (Go.Operand.tmp 8), type := 24, pos := "law.go:54", after := #[{ on := 2, ground := Go.Ground.guard }], guard := some (2, true) }) (v := ?_) rfl (by kernel_rfl) (by kernel_rfl) (by kernel_rfl) (fun _ _ _ h => h) (Or.inl ⟨by rfl, ?_⟩) (by assumption) ?_
        rotate_left
        · intro wS hSw
          (try dsimp only at hSw)
          go_simp
          (try with_reducible rfl)
        (try simp only [Act.put, List.setIfInBounds_toArray, List.set_cons_zero, List.set_cons_succ])
        refine wpAnyH_take (i := 4) (oi := { dst := some 73, op := Go.Op.move (Go.Operand.tmp 2), type := 3, pos := "law.go:54", after := #[{ on := 2, ground := Go.Ground.guard }], guard := some (2, true) }) (v := ?_) rfl (by kernel_rfl) (by kernel_rfl) (by kernel_rfl) (fun _ _ _ h => h) (Or.inl ⟨by rfl, ?_⟩) (by assumption) ?_
        rotate_left
        · intro wS hSw
          (try dsimp only at hSw)
          go_simp
          (try with_reducible rfl)
        (try simp only [Act.put, List.setIfInBounds_toArray, List.set_cons_zero, List.set_cons_succ])
        refine wpAnyH_take (i := 6) (oi := { dst := some 75, op := Go.Op.move (Go.Operand.tmp 10), type := 27, pos := "law.go:54", after := #[{ on := 2, ground := Go.Ground.guard }], guard := some (2, true) }) (v := ?_) rfl (by kernel_rfl) (by kernel_rfl) (by kernel_rfl) (fun _ _ _ h => h) (Or.inl ⟨by rfl, ?_⟩) (by assumption) ?_
        rotate_left
        · intro wS hSw
          (try dsimp only at hSw)
          go_simp
          (try with_reducible rfl)
        (try simp only [Act.put, List.setIfInBounds_toArray, List.set_cons_zero, List.set_cons_succ])
        refine wpAnyH_ready (rs := [5]) (by kernel_rfl) (by simp) ?_
        refine AllReadyH.cons (o := { dst := some 74, op := Go.Op.call { callee := Go.Callee.value (Go.Operand.func 5), args := #[Go.Operand.tmp 72, Go.Operand.tmp 73], argTypes := #[24, 3] }, type := 27, pos := "law.go:54", after := #[{ on := 3, ground := Go.Ground.data }, { on := 4, ground := Go.Ground.data }, { on := 2, ground := Go.Ground.chain }, { on := 2, ground := Go.Ground.guard }], guard := some (2, true) }) rfl (fun K hK => ?_) AllReadyH.nil
        go_simp
        (refine (HWORD.out _ hX_0.k).mono ?_; rintro e v_11 ⟨rfl, hb_11⟩; have hX_11 := hX_0.below hb_11; have hS_11 : SB w.heap.size B v_11 := HBA.out _ _ hX_11.b; clear hb_11 hX_0 hS_0; skip)
        (try go_wp2_with fail)
        refine hK.out _ _ ?_ (fun hHeld => ?_)
        · (try dsimp only)
          first | assumption
        clear hK K
        (try simp only [Act.put, List.setIfInBounds_toArray, List.set_cons_zero, List.set_cons_succ])
        refine wpAnyH_take (i := 7) (oi := { dst := some 76, op := Go.Op.binOp Go.BinOp.eql 27 (Go.Operand.tmp 74) (Go.Operand.tmp 75) 27, type := 4, pos := "law.go:54", after := #[{ on := 5, ground := Go.Ground.data }, { on := 6, ground := Go.Ground.data }, { on := 2, ground := Go.Ground.guard }], guard := some (2, true) }) (v := ?_) rfl (by kernel_rfl) (by kernel_rfl) (by kernel_rfl) (fun _ _ _ h => h) (Or.inl ⟨by rfl, ?_⟩) (by assumption) ?_
        rotate_left
        · intro wS hSw
          (try dsimp only at hSw)
          go_simp
          (try with_reducible rfl)
        (try simp only [Act.put, List.setIfInBounds_toArray, List.set_cons_zero, List.set_cons_succ])
        refine wpAnyH_take (i := 8) (oi := { dst := some 77, op := Go.Op.pick (Go.Operand.tmp 71) (Go.Operand.tmp 76) (Go.Operand.const (Go.Value.bool false)), type := 4, pos := "law.go:54", after := #[{ on := 2, ground := Go.Ground.data }, { on := 7, ground := Go.Ground.data }], guard := none }) (v := ?_) rfl (by kernel_rfl) (by kernel_rfl) (by kernel_rfl) (fun _ _ _ h => h) (Or.inl ⟨by rfl, ?_⟩) (by assumption) ?_
        rotate_left
        · intro wS hSw
          (try dsimp only at hSw)
          go_simp
          (try with_reducible rfl)
        (try simp only [Act.put, List.setIfInBounds_toArray, List.set_cons_zero, List.set_cons_succ])
        refine wpAnyH_take (i := 9) (oi := { dst := some 78, op := Go.Op.move (Go.Operand.tmp 77), type := 4, pos := "law.go:54", after := #[{ on := 8, ground := Go.Ground.data }, { on := 5, ground := Go.Ground.chain }], guard := none }) (v := ?_) rfl (by kernel_rfl) (by kernel_rfl) (by kernel_rfl) (fun _ _ _ h => h) (Or.inl ⟨by rfl, ?_⟩) (by assumption) ?_
        rotate_left
        · intro wS hSw
          (try dsimp only at hSw)
          go_simp
          (try with_reducible rfl)
        (try simp only [Act.put, List.setIfInBounds_toArray, List.set_cons_zero, List.set_cons_succ])
        refine wpAnyH_take (i := 10) (oi := { dst := some 79, op := Go.Op.move (Go.Operand.tmp 8), type := 24, pos := "law.go:54", after := #[{ on := 9, ground := Go.Ground.guard }], guard := some (9, true) }) (v := ?_) rfl (by kernel_rfl) (by kernel_rfl) (by kernel_rfl) (fun _ _ _ h => h) (Or.inl ⟨by rfl, ?_⟩) (by assumption) ?_
        rotate_left
        · intro wS hSw
          (try dsimp only at hSw)
          go_simp
          (try with_reducible rfl)
        (try simp only [Act.put, List.setIfInBounds_toArray, List.set_cons_zero, List.set_cons_succ])
        refine wpAnyH_take (i := 11) (oi := { dst := some 80, op := Go.Op.load 23 (Go.Operand.tmp 4), type := 23, pos := "law.go:54", after := #[{ on := 9, ground := Go.Ground.guard }], guard := some (9, true) }) (v := ?_) rfl (by kernel_rfl) (by kernel_rfl) (by kernel_rfl) (fun _ _ _ h => h) (Or.inl ⟨by rfl, ?_⟩) (by assumption) ?_
        rotate_left
        · intro wS hSw
          refine exec_load16a (x := .tmp 4) ?_ ?_ (ld16a hSw HIB.out) <;> rfl
        (try simp only [Act.put, List.setIfInBounds_toArray, List.set_cons_zero, List.set_cons_succ])
        refine wpAnyH_take (i := 13) (oi := { dst := some 82, op := Go.Op.move (Go.Operand.tmp 0), type := 22, pos := "law.go:54", after := #[{ on := 9, ground := Go.Ground.guard }], guard := some (9, true) }) (v := ?_) rfl (by kernel_rfl) (by kernel_rfl) (by kernel_rfl) (fun _ _ _ h => h) (Or.inl ⟨by rfl, ?_⟩) (by assumption) ?_
        rotate_left
        · intro wS hSw
          (try dsimp only at hSw)
          go_simp
          (try with_reducible rfl)
        (try simp only [Act.put, List.setIfInBounds_toArray, List.set_cons_zero, List.set_cons_succ])
        refine wpAnyH_take (i := 15) (oi := { dst := some 84, op := Go.Op.load 23 (Go.Operand.tmp 4), type := 23, pos := "law.go:54", after := #[{ on := 9, ground := Go.Ground.guard }], guard := some (9, true) }) (v := ?_) rfl (by kernel_rfl) (by kernel_rfl) (by kernel_rfl) (fun _ _ _ h => h) (Or.inl ⟨by rfl, ?_⟩) (by assumption) ?_
        rotate_left
        · intro wS hSw
          refine exec_load16a (x := .tmp 4) ?_ ?_ (ld16a hSw HIB.out) <;> rfl
        (try simp only [Act.put, List.setIfInBounds_toArray, List.set_cons_zero, List.set_cons_succ])
        refine wpAnyH_ready (rs := [12]) (by kernel_rfl) (by simp) ?_
        refine AllReadyH.cons (o := { dst := some 81, op := Go.Op.call { callee := Go.Callee.value (Go.Operand.func 4), args := #[Go.Operand.tmp 79, Go.Operand.tmp 80], argTypes := #[24, 25] }, type := 25, pos := "law.go:54", after := #[{ on := 10, ground := Go.Ground.data }, { on := 11, ground := Go.Ground.data }, { on := 9, ground := Go.Ground.chain }, { on := 9, ground := Go.Ground.guard }], guard := some (9, true) }) rfl (fun K hK => ?_) AllReadyH.nil
        go_simp
        (refine (HENC.out _ hX_11.k hX_11.x).mono ?_; rintro e v_12 ⟨rfl, hb_12, ho_12⟩; have hX_12 := hX_11.own hb_12 ho_12; have hS_12 : SB w.heap.size B v_12 := HBA.out _ _ hX_12.b; clear hb_12 ho_12 hX_11 hS_11; skip)
        (try go_wp2_with fail)
        refine hK.out _ _ ?_ (fun hHeld => ?_)
        · (try dsimp only)
          first | assumption
        clear hK K
        (try simp only [Act.put, List.setIfInBounds_toArray, List.set_cons_zero, List.set_cons_succ])
        refine wpAnyH_ready (rs := [14]) (by kernel_rfl) (by simp) ?_
        refine AllReadyH.cons (o := { dst := some 83, op := Go.Op.call { callee := Go.Callee.value (Go.Operand.func 11), args := #[Go.Operand.tmp 82], argTypes := #[22] }, type := 41, pos := "law.go:54", after := #[{ on := 13, ground := Go.Ground.data }, { on := 12, ground := Go.Ground.chain }, { on := 9, ground := Go.Ground.guard }], guard := some (9, true) }) rfl (fun K hK => ?_) AllReadyH.nil
        go_simp
        (refine (HRDY.out _ hX_12.o).mono ?_; rintro e v_13 ⟨rfl, hb_13⟩; have hX_13 := hX_12.below hb_13; have hS_13 : SB w.heap.size B v_13 := HBA.out _ _ hX_13.b; clear hb_13 hX_12 hS_12; skip)
        (try go_wp2_with fail)
        refine hK.out _ _ ?_ (fun hHeld => ?_)
        · (try dsimp only)
          first | assumption
        clear hK K
        (try simp only [Act.put, List.setIfInBounds_toArray, List.set_cons_zero, List.set_cons_succ])
        refine wpAnyH_ready (rs := [16]) (by kernel_rfl) (by simp) ?_
        refine AllReadyH.cons (o := { dst := some 85, op := Go.Op.call { callee := Go.Callee.value (Go.Operand.func 10), args := #[Go.Operand.tmp 83, Go.Operand.tmp 84], argTypes := #[41, 23] }, type := 23, pos := "law.go:54", after := #[{ on := 14, ground := Go.Ground.data }, { on := 15, ground := Go.Ground.data }, { on := 14, ground := Go.Ground.chain }, { on := 9, ground := Go.Ground.guard }], guard := some (9, true) }) rfl (fun K hK => ?_) AllReadyH.nil
        go_simp
        (refine (HREN.out _).mono ?_; rintro e v_14 ⟨rfl, hb_14⟩; have hX_14 := hX_13.below hb_14; have hS_14 : SB w.heap.size B v_14 := HBA.out _ _ hX_14.b; clear hb_14 hX_13 hS_13; skip)
        (try go_wp2_with fail)
        refine hK.out _ _ ?_ (fun hHeld => ?_)
        · (try dsimp only)
          first | assumption
        clear hK K
        (try simp only [Act.put, List.setIfInBounds_toArray, List.set_cons_zero, List.set_cons_succ])
        refine wpAnyH_take (i := 17) (oi := { dst := some 86, op := Go.Op.binOp Go.BinOp.eql 25 (Go.Operand.tmp 81) (Go.Operand.tmp 85) 25, type := 4, pos := "law.go:54", after := #[{ on := 12, ground := Go.Ground.data }, { on := 16, ground := Go.Ground.data }, { on := 9, ground := Go.Ground.guard }], guard := some (9, true) }) (v := ?_) rfl (by kernel_rfl) (by kernel_rfl) (by kernel_rfl) (fun _ _ _ h => h) (Or.inl ⟨by rfl, ?_⟩) (by assumption) ?_
        rotate_left
        · intro wS hSw
          refine exec_eql16 (r := 25) (x := .tmp 81) (y := .tmp 85) ?_ ?_ ?_ HEQ.out <;> rfl
        (try simp only [Act.put, List.setIfInBounds_toArray, List.set_cons_zero, List.set_cons_succ])
        refine wpAnyH_take (i := 18) (oi := { dst := some 87, op := Go.Op.pick (Go.Operand.tmp 78) (Go.Operand.tmp 86) (Go.Operand.const (Go.Value.bool false)), type := 4, pos := "law.go:54", after := #[{ on := 9, ground := Go.Ground.data }, { on := 17, ground := Go.Ground.data }], guard := none }) (v := ?_) rfl (by kernel_rfl) (by kernel_rfl) (by kernel_rfl) (fun _ _ _ h => h) (Or.inl ⟨by rfl, ?_⟩) (by assumption) ?_
        rotate_left
        · intro wS hSw
          (try dsimp only at hSw)
          go_simp
          (try with_reducible rfl)
        (try simp only [Act.put, List.setIfInBounds_toArray, List.set_cons_zero, List.set_cons_succ])
        refine wpAnyH_take (i := 19) (oi := { dst := some 88, op := Go.Op.move (Go.Operand.tmp 87), type := 4, pos := "law.go:54", after := #[{ on := 18, ground := Go.Ground.data }, { on := 16, ground := Go.Ground.chain }], guard := none }) (v := ?_) rfl (by kernel_rfl) (by kernel_rfl) (by kernel_rfl) (fun _ _ _ h => h) (Or.inl ⟨by rfl, ?_⟩) (by assumption) ?_
        rotate_left
        · intro wS hSw
          (try dsimp only at hSw)
          go_simp
          (try with_reducible rfl)
        (try simp only [Act.put, List.setIfInBounds_toArray, List.set_cons_zero, List.set_cons_succ])
        refine wpAnyH_ready (rs := [20]) (by kernel_rfl) (by simp) ?_
        refine AllReadyH.cons (o := { dst := some 89, op := Go.Op.call { callee := Go.Callee.value (Go.Operand.func 8), args := #[], argTypes := #[] }, type := 4, pos := "law.go:54", after := #[{ on := 19, ground := Go.Ground.chain }, { on := 19, ground := Go.Ground.guard }], guard := some (19, true) }) rfl (fun K hK => ?_) AllReadyH.nil
        go_simp
        (refine (aes_sure _).mono ?_; rintro e v_15 ⟨rfl, hb_15⟩; have hX_15 := hX_14.below hb_15; have hS_15 : SB w.heap.size B v_15 := HBA.out _ _ hX_15.b; clear hb_15 hX_14 hS_14; skip)
        (try go_wp2_with fail)
        refine hK.out _ _ ?_ (fun hHeld => ?_)
        · (try dsimp only)
          first | assumption
        clear hK K
        (try simp only [Act.put, List.setIfInBounds_toArray, List.set_cons_zero, List.set_cons_succ])
        refine wpAnyH_take (i := 21) (oi := { dst := some 90, op := Go.Op.pick (Go.Operand.tmp 88) (Go.Operand.tmp 89) (Go.Operand.const (Go.Value.bool false)), type := 4, pos := "law.go:54", after := #[{ on := 19, ground := Go.Ground.data }, { on := 20, ground := Go.Ground.data }], guard := none }) (v := ?_) rfl (by kernel_rfl) (by kernel_rfl) (by kernel_rfl) (fun _ _ _ h => h) (Or.inl ⟨by rfl, ?_⟩) (by assumption) ?_
        rotate_left
        · intro wS hSw
          (try dsimp only at hSw)
          go_simp
          (try with_reducible rfl)
        (try simp only [Act.put, List.setIfInBounds_toArray, List.set_cons_zero, List.set_cons_succ])
        refine wpAnyH_take (i := 22) (oi := { dst := some 6, op := Go.Op.assign (Go.Operand.tmp 90), type := 4, pos := "law.go:54", after := #[{ on := 21, ground := Go.Ground.data }, { on := 20, ground := Go.Ground.chain }, { on := 0, ground := Go.Ground.phase }, { on := 1, ground := Go.Ground.phase }, { on := 2, ground := Go.Ground.phase }, { on := 3, ground := Go.Ground.phase }, { on := 4, ground := Go.Ground.phase }, { on := 5, ground := Go.Ground.phase }, { on := 6, ground := Go.Ground.phase }, { on := 7, ground := Go.Ground.phase }, { on := 8, ground := Go.Ground.phase }, { on := 9, ground := Go.Ground.phase }, { on := 10, ground := Go.Ground.phase }, { on := 11, ground := Go.Ground.phase }, { on := 12, ground := Go.Ground.phase }, { on := 13, ground := Go.Ground.phase }, { on := 14, ground := Go.Ground.phase }, { on := 15, ground := Go.Ground.phase }, { on := 16, ground := Go.Ground.phase }, { on := 17, ground := Go.Ground.phase }, { on := 18, ground := Go.Ground.phase }, { on := 19, ground := Go.Ground.phase }, { on := 20, ground := Go.Ground.phase }, { on := 21, ground := Go.Ground.phase }], guard := none }) (v := ?_) rfl (by kernel_rfl) (by kernel_rfl) (by kernel_rfl) (fun _ _ _ h => h) (Or.inl ⟨by rfl, ?_⟩) (by assumption) ?_
        rotate_left
        · intro wS hSw
          (try dsimp only at hSw)
          go_simp
          (try with_reducible rfl)
        (try simp only [Act.put, List.setIfInBounds_toArray, List.set_cons_zero, List.set_cons_succ])
        refine wpAnyH_done (by kernel_rfl) ?_ _
        have HO := Lib.hid hX_15.o
        clear hX_15 hS_15
        go_wp2_with fail
        go_ret
        exact ⟨rfl, HO.out⟩
  · have HM := Lib.hid hm
    have hm' : ¬ (m : Int) = 32 := by omega
    clear hm
    go_wp2_with fail
    refine (new_bad oa m cap _ HM.out).mono ?_
    rintro e w4 ⟨rfl, hb4⟩
    have H4 : Hid (Below w.heap.size w w4) := Lib.hid (H3.out.2.trans (hb4.mono H3.out.2.size))
    clear hb4 H3
    go_wp2_with fail
    refine (num_err 1 _ (HG.out.later H4.out)).mono ?_
    rintro e w5 ⟨rfl, hb5⟩
    have H5 : Hid (Below w.heap.size w w5) := Lib.hid (H4.out.trans (hb5.mono H4.out.size))
    clear hb5 H4
    go_wp2_with fail
    refine (aes_sure _).mono ?_
    rintro e w6 ⟨rfl, hb6⟩
    have H6 : Hid (Below w.heap.size w w6) := Lib.hid (H5.out.trans (hb6.mono H5.out.size))
    clear hb6 H5
    go_wp2_with fail
    go_ret
    exact ⟨rfl, H6.out⟩
end Go.Proofs.YtcpcaekkdgogmaaDoor
