/- Whether a request may be, as the document tells it. -/
import Derived.Test.YtmabhjifldafaaaDoorRq2
import Derived.Test.YtmabhjifldafaaaDoorStp
namespace Go.Proofs.YtmabhjifldafaaaDoor
set_option linter.unusedVariables false
set_option linter.unusedSimpArgs false
open Go.RowKit

/-- A request's four cells, in the first block behind a world. -/
structure RQ (w0 : World) (z tk s ar : Value) (wr : World) : Prop where
  c0 : wr.cell? ⟨w0.heap.size, 0, none⟩ = some z
  c1 : wr.cell? ⟨w0.heap.size, 1, none⟩ = some tk
  c2 : wr.cell? ⟨w0.heap.size, 2, none⟩ = some s
  c3 : wr.cell? ⟨w0.heap.size, 3, none⟩ = some ar
  o : Below w0.heap.size w0 wr
  l : w0.heap.size < wr.heap.size
theorem RQ.later {w0 wr w' : World} {z tk s ar : Value} (h : RQ w0 z tk s ar wr) (hb : Below wr.heap.size wr w') : RQ w0 z tk s ar w' :=
  ⟨cell_below hb h.c0, cell_below hb h.c1, cell_below hb h.c2, cell_below hb h.c3, h.o.trans (hb.mono h.o.size), Nat.lt_of_lt_of_le h.l hb.size⟩
theorem RQ.own {w0 wr w' : World} {z tk s ar : Value} {b : Nat} (h : RQ w0 z tk s ar wr) (hO : Own b wr w') (hb : w0.heap.size < b) : RQ w0 z tk s ar w' :=
  ⟨hO.cell h.c0 (Nat.ne_of_lt hb), hO.cell h.c1 (Nat.ne_of_lt hb), hO.cell h.c2 (Nat.ne_of_lt hb), hO.cell h.c3 (Nat.ne_of_lt hb), h.o.trans (hO.below (Nat.le_of_lt hb) h.o.size), Nat.lt_of_lt_of_le h.l hO.size⟩
theorem RQ.new (w : World) (z tk s ar : Value) (t : TypeId) : RQ w z tk s ar (w.alloc (.cells #[z, tk, s, ar] t)) :=
  ⟨World.cell?_alloc_mark w #[z, tk, s, ar] t (0, 0) 0, World.cell?_alloc_mark w #[z, tk, s, ar] t (0, 0) 1, World.cell?_alloc_mark w #[z, tk, s, ar] t (0, 0) 2, World.cell?_alloc_mark w #[z, tk, s, ar] t (0, 0) 3, (Below.refl _ _).alloc (Nat.le_refl _) _, by simp⟩
def zeroA : Array Value := #[.string ⟨#[]⟩, .int .i64 0, .bool false, .int .i64 0]
theorem zeroA_run (w : World) : (zeroValue 25).run Tryd.prog w = .ok (.agg zeroA) w := by kernel_rfl
theorem rowA_len (k : Nat) : (rowA k).length = 4 := rfl
theorem infoA (k : Nat) : (Tryd.prog.info? 25).map (·.size) = some (rowA k).length := by rw [rowA_len]; kernel_rfl
theorem rowA_one (k : Nat) : (rowA k).toArray.all (·.oneCell') = true := by simp [rowA, Value.oneCell']
theorem AL.range {w : World} {g k p : Nat} (h : AL w g) (hk : k < 30) (hp : 4 * k = p) : w.rangeAt g p (rowA k) := fun j v hv => by
  subst hp
  obtain ⟨h1, h2, h3, h4⟩ := h k hk
  match j, hv with
  | 0, hv => cases hv; exact h1
  | 1, hv => cases hv; exact h2
  | 2, hv => cases hv; exact h3
  | 3, hv => cases hv; exact h4
set_option maxRecDepth 100000 in
set_option maxHeartbeats 8000000 in
theorem rmay_any (z : Int) (ot oa : Option Addr) (nt ct q ca : Nat) (S : ByteArray) (w : World) (h1 : -9223372036854775808 ≤ z) (h2 : z ≤ 9223372036854775807) (hnt : nt ≤ maxLen) (hq : q ≤ maxLen) (hS : S.size ≤ maxLen) :
    Calls Tryd.prog 67 #[.agg #[.int .i64 z, .slice ot nt ct, .string S, .slice oa q ca]] w fun e w' => e = .returned (.bool (decide (MB z nt S q))) ∧ Below w.heap.size w w' := by
  unfold maxLen at hnt hq hS
  obtain ⟨wa, hwa⟩ : ∃ x, w.alloc (.cells #[.int .i64 z, .slice ot nt ct, .string S, .slice oa q ca] 36) = x := ⟨_, rfl⟩
  have hR : RQ w (.int .i64 z) (.slice ot nt ct) (.string S) (.slice oa q ca) wa := by rw [← hwa]; exact RQ.new _ _ _ _ _ _
  have HR := Lib.hid hR
  have c0 := hR.c0
  have c1 := hR.c1
  have c2 := hR.c2
  clear hR
  have q0 : (q : Int) ≤ 9223372036854775807 := by omega
  have n0 : (nt : Int) ≤ 9223372036854775807 := by omega
  have s0 : (S.size : Int) ≤ 9223372036854775807 := by omega
  have hcs : z < 1 ∨ 29 < z ∨ (1 ≤ z ∧ z ≤ 29 ∧ 32 < nt) ∨ (1 ≤ z ∧ z ≤ 29 ∧ nt ≤ 32 ∧ 64 < S.size) ∨ (1 ≤ z ∧ z ≤ 29 ∧ nt ≤ 32 ∧ S.size ≤ 64) := by omega
  rcases hcs with g1 | g2 | ⟨g1, g2, g3⟩ | ⟨g1, g2, g3, g4⟩ | ⟨g1, g2, g3, g4⟩
  · have HD : Hid (decide (MB z nt S q) = false) := Lib.hid (decide_eq_false fun h => by have := h.1; omega)
    clear h1 h2 hnt hq hS
    go_enter Tryd.func67, Tryd.ntmps67
    rw [HD.out]
    go_wp2_with fail
    go_ret
    exact ⟨rfl, HR.out.o⟩
  · have g1 : ¬ z < 1 := by omega
    have HD : Hid (decide (MB z nt S q) = false) := Lib.hid (decide_eq_false fun h => by have := h.2.1; omega)
    clear h1 h2 hnt hq hS
    go_enter Tryd.func67, Tryd.ntmps67
    rw [HD.out]
    go_wp2_with fail
    go_ret
    exact ⟨rfl, HR.out.o⟩
  · have g1 : ¬ z < 1 := by omega
    have g2 : ¬ 29 < z := by omega
    have g5 : (32 : Int) < (nt : Int) := by omega
    have HD : Hid (decide (MB z nt S q) = false) := Lib.hid (decide_eq_false fun h => by have := h.2.2.2.2.1; omega)
    clear h1 h2 hnt hq hS g3
    go_enter Tryd.func67, Tryd.ntmps67
    rw [HD.out]
    go_wp2_with fail
    go_ret
    exact ⟨rfl, HR.out.o⟩
  · have g1 : ¬ z < 1 := by omega
    have g2 : ¬ 29 < z := by omega
    have g5 : ¬ (32 : Int) < (nt : Int) := by omega
    have g6 : (64 : Int) < (S.size : Int) := by omega
    have HD : Hid (decide (MB z nt S q) = false) := Lib.hid (decide_eq_false fun h => by have := h.2.2.2.1; omega)
    clear h1 h2 hnt hq hS g3 g4
    go_enter Tryd.func67, Tryd.ntmps67
    rw [HD.out]
    go_wp2_with fail
    go_ret
    exact ⟨rfl, HR.out.o⟩
  · obtain ⟨k, rfl⟩ : ∃ k : Nat, z = (k : Int) := ⟨z.toNat, by omega⟩
    have k1 : 1 ≤ k := by omega
    have k2 : k < 30 := by omega
    have e1 : ¬ (k : Int) < 1 := by omega
    have e2 : ¬ 29 < (k : Int) := by omega
    have e3 : ¬ (32 : Int) < (nt : Int) := by omega
    have e4 : ¬ (64 : Int) < (S.size : Int) := by omega
    have e5 : (0 : Int) ≤ (k : Int) := by omega
    have e6 : (k : Int) < 30 := by omega
    obtain ⟨p, hp⟩ : ∃ p, 4 * k = p := ⟨_, rfl⟩
    have HK : Hid (1 ≤ k ∧ k < 30 ∧ 4 * k = p ∧ (k : Int).toNat = k ∧ nt ≤ 32 ∧ S.size ≤ 64) := Lib.hid ⟨k1, k2, hp, by omega, g3, g4⟩
    have HRA : Hid (rowA k = [.string (nmF k), .int .i64 (arF k : Nat), .bool (opF k), .int .i64 (scF k)]) := Lib.hid rfl
    have hz := zeroA_run
    have hpk : k * 4 = p := by omega
    clear h1 h2 hnt hq hS g1 g2 g3 g4 k1 k2 hp
    go_enter Tryd.func67, Tryd.ntmps67
    go_wp2_with fail
    have hS_0 : RQ w (.int .i64 k) (.slice ot nt ct) (.string S) (.slice oa q ca) wa.drew := HR.out.later (Below.refl _ wa).drew
    clear HR c0 c1 c2 hwa
    refine wp_region_held_drew (S := (RQ w (.int .i64 k) (.slice ot nt ct) (.string S) (.slice oa q ca))) (by kernel_rfl) ?_ (fun hHeld => ?_)
    · (try dsimp only)
      first | assumption
    generalize wa.drew = W0 at *
    refine wpAnyH_take (i := 1) (oi := { dst := some 25, op := Go.Op.fieldAddr 36 (Go.Operand.tmp 1) 0, type := 0, pos := "ref.go:43", after := #[], guard := none }) (v := ?_) rfl (by kernel_rfl) (by kernel_rfl) (by kernel_rfl) (fun _ _ _ h => h) (Or.inl ⟨by rfl, ?_⟩) (by assumption) ?_
    rotate_left
    · intro wS hSw
      (try dsimp only at hSw)
      go_simp
      (try with_reducible rfl)
    (try simp only [Act.put, List.setIfInBounds_toArray, List.set_cons_zero, List.set_cons_succ])
    refine wpAnyH_take (i := 2) (oi := { dst := some 26, op := Go.Op.load 3 (Go.Operand.tmp 25), type := 3, pos := "ref.go:43", after := #[{ on := 1, ground := Go.Ground.data }], guard := none }) (v := ?_) rfl (by kernel_rfl) (by kernel_rfl) (by kernel_rfl) (fun _ _ _ h => h) (Or.inl ⟨by rfl, ?_⟩) (by assumption) ?_
    rotate_left
    · intro wS hSw
      (have h0 := hSw.c0; go_simp; (try with_reducible rfl))
    (try simp only [Act.put, List.setIfInBounds_toArray, List.set_cons_zero, List.set_cons_succ])
    refine wpAnyH_ready (rs := [0, 5]) (by kernel_rfl) (by simp) ?_
    refine AllReadyH.cons (o := { dst := some 24, op := Go.Op.call { callee := Go.Callee.value (Go.Operand.func 14), args := #[], argTypes := #[] }, type := 22, pos := "ref.go:43", after := #[], guard := none }) rfl (fun K hK => ?_) ?_
    · skip
      go_simp
      (refine (all_any _).mono ?_; rintro e v_1 ⟨rfl, hA_1, hb_1⟩; have hS_1 := hS_0.later hb_1; obtain ⟨ga, hga⟩ : ∃ q, W0.heap.size = q := ⟨_, rfl⟩; rw [hga] at hA_1 ⊢; clear hga hb_1 hS_0; skip)
      (try go_wp2_with fail)
      refine hK.out _ _ ?_ (fun hHeld => ?_)
      · (try dsimp only)
        first | assumption
      clear hK K
      (try simp only [Act.put, List.setIfInBounds_toArray, List.set_cons_zero, List.set_cons_succ])
      refine wpAnyH_take (i := 3) (oi := { dst := some 27, op := Go.Op.indexAddr 22 (Go.Operand.tmp 24) (Go.Operand.tmp 26), type := 0, pos := "ref.go:43", after := #[{ on := 0, ground := Go.Ground.data }, { on := 2, ground := Go.Ground.data }], guard := none }) (v := ?_) rfl (by kernel_rfl) (by kernel_rfl) (by kernel_rfl) (fun _ _ _ h => h) (Or.inl ⟨by rfl, ?_⟩) (by assumption) ?_
      rotate_left
      · intro wS hSw
        (try dsimp only at hSw)
        go_simp
        (try with_reducible rfl)
      (try simp only [Act.put, List.setIfInBounds_toArray, List.set_cons_zero, List.set_cons_succ])
      refine wpAnyH_ready (rs := [4, 5]) (by kernel_rfl) (by simp) ?_
      refine AllReadyH.cons (o := { dst := some 28, op := Go.Op.load 25 (Go.Operand.tmp 27), type := 25, pos := "ref.go:43", after := #[{ on := 3, ground := Go.Ground.data }], guard := none }) rfl (fun K hK => ?_) ?_
      · skip
        (refine step_valueG (by rfl) (exec_loadM (cs := rowA k) (d := _) rfl rfl (hA_1.range HK.out.2.1 HK.out.2.2.1) Tryd.underlying25 rfl (infoA k)) ?_; skip)
        refine hK.out _ _ ?_ (fun hHeld => ?_)
        · (try dsimp only)
          first | assumption
        clear hK K
        (try simp only [Act.put, List.setIfInBounds_toArray, List.set_cons_zero, List.set_cons_succ])
        refine wpAnyH_ready (rs := [5]) (by kernel_rfl) (by simp) ?_
        refine AllReadyH.cons (o := { dst := some 3, op := Go.Op.alloc 25, type := 0, pos := "ref.go:43", after := #[], guard := none }) rfl (fun K hK => ?_) AllReadyH.nil
        go_simp
        (obtain ⟨v_2, hw_2⟩ : ∃ q, v_1.alloc (.cells zeroA 25) = q := ⟨_, rfl⟩; rw [hw_2]; have hb_2 : Below v_1.heap.size v_1 v_2 := (by rw [← hw_2]; exact (Below.refl _ _).alloc (Nat.le_refl _) _); have hB_2 : Blk v_2 v_1.heap.size zeroA 25 := (by rw [← hw_2]; exact Blk.new _ _ _); have HL := Lib.hid hS_1.l; have hS_2 := hS_1.later hb_2; have hA_2 := hA_1.later hb_2; clear hA_1; obtain ⟨gb, hgb⟩ : ∃ q, v_1.heap.size = q := ⟨_, rfl⟩; rw [hgb] at hB_2 HL ⊢; clear hgb hb_2 hS_1 hw_2; skip)
        (try go_wp2_with fail)
        refine hK.out _ _ ?_ (fun hHeld => ?_)
        · (try dsimp only)
          first | assumption
        clear hK K
        (try simp only [Act.put, List.setIfInBounds_toArray, List.set_cons_zero, List.set_cons_succ])
        refine wpAnyH_ready (rs := [6]) (by kernel_rfl) (by simp) ?_
        refine AllReadyH.cons (o := { dst := none, op := Go.Op.store 25 (Go.Operand.tmp 3) (Go.Operand.tmp 28), type := 0, pos := "ref.go:43", after := #[{ on := 5, ground := Go.Ground.data }, { on := 4, ground := Go.Ground.data }, { on := 0, ground := Go.Ground.chain }, { on := 0, ground := Go.Ground.phase }, { on := 1, ground := Go.Ground.phase }, { on := 2, ground := Go.Ground.phase }, { on := 3, ground := Go.Ground.phase }, { on := 4, ground := Go.Ground.phase }, { on := 5, ground := Go.Ground.phase }], guard := none }) rfl (fun K hK => ?_) AllReadyH.nil
        (refine step_storeM (by rfl) 25 (.tmp 3) (.tmp 28) rfl gb 0 (rowA k).toArray rfl rfl (Blk.thereAll hB_2 _ (Nat.le_refl 4)) (infoA k) (rowA_one k) ?_; obtain ⟨v_3, hw_3⟩ : ∃ q, v_2.setCells gb 0 (rowA k).toArray.toList = q := ⟨_, rfl⟩; rw [hw_3]; have hB_3 : Blk v_3 gb (rowA k).toArray 25 := (by rw [← hw_3]; exact Blk.whole hB_2 rfl); have hS_3 : RQ w (.int .i64 k) (.slice ot nt ct) (.string S) (.slice oa q ca) v_3 := (by rw [← hw_3]; exact hS_2.own (Own.setCells _ 0 _) HL.out); clear hw_3 hB_2 hS_2; skip)
        refine hK.out _ _ ?_ (fun hHeld => ?_)
        · (try dsimp only)
          first | assumption
        clear hK K
        (try simp only [Act.put, List.setIfInBounds_toArray, List.set_cons_zero, List.set_cons_succ])
        refine wpAnyH_done (by kernel_rfl) ?_ _
        have HS := Lib.hid hS_3.o
        have d0 := hS_3.c0
        have d1 := hS_3.c1
        have d3 := hS_3.c3
        have hA1 : v_3.cell? ⟨gb, 1, none⟩ = some (.int .i64 (arF k : Nat)) := by rw [Blk.cell hB_3]; rfl
        have hA2 : v_3.cell? ⟨gb, 2, none⟩ = some (.bool (opF k)) := by rw [Blk.cell hB_3]; rfl
        clear hS_3 hB_3 hz hpk
        obtain ⟨u, hu⟩ : ∃ u, arF k = u := ⟨_, rfl⟩
        obtain ⟨b, hb⟩ : ∃ b, opF k = b := ⟨_, rfl⟩
        have HU : Hid (arF k = u ∧ opF k = b) := Lib.hid ⟨hu, hb⟩
        rw [hu] at hA1
        rw [hb] at hA2
        clear hu hb
        by_cases hqu : q = u
        · subst hqu
          cases b with
          | true =>
            by_cases hn : nt = 0
            · have HD : Hid (decide (MB k nt S q) = true) := Lib.hid (decide_eq_true ⟨by have := HK.out; omega, by have := HK.out; omega, by rw [HK.out.2.2.2.1]; exact HU.out.1.symm, HK.out.2.2.2.2.2, HK.out.2.2.2.2.1, fun _ => hn⟩)
              subst hn
              go_wp2_with fail
              go_ret
              exact ⟨by rw [HD.out]; rfl, HS.out⟩
            · have HD : Hid (decide (MB k nt S q) = false) := Lib.hid (decide_eq_false fun h => hn (h.2.2.2.2.2 (by rw [HK.out.2.2.2.1]; exact HU.out.2)))
              have v1 : ¬ (nt : Int) = 0 := by omega
              clear hn
              go_wp2_with fail
              go_ret
              exact ⟨by rw [HD.out]; first | rfl | (simp [v1]; done) | (simp [v1]; omega), HS.out⟩
          | false =>
            have HD : Hid (decide (MB k nt S q) = true) := Lib.hid (decide_eq_true ⟨by have := HK.out; omega, by have := HK.out; omega, by rw [HK.out.2.2.2.1]; exact HU.out.1.symm, HK.out.2.2.2.2.2, HK.out.2.2.2.2.1, fun e => by rw [HK.out.2.2.2.1, HU.out.2] at e; cases e⟩)
            go_wp2_with fail
            go_ret
            exact ⟨by rw [HD.out]; rfl, HS.out⟩
        · have HD : Hid (decide (MB k nt S q) = false) := Lib.hid (decide_eq_false fun h => hqu (by have := h.2.2.1; rw [HK.out.2.2.2.1, HU.out.1] at this; exact this))
          have v1 : ¬ (q : Int) = (u : Int) := by omega
          clear hqu
          go_wp2_with fail
          go_ret
          exact ⟨by rw [HD.out]; first | rfl | (simp [v1]; done) | (simp [v1]; omega), HS.out⟩
      refine AllReadyH.cons (o := { dst := some 3, op := Go.Op.alloc 25, type := 0, pos := "ref.go:43", after := #[], guard := none }) rfl (fun K hK => ?_) AllReadyH.nil
      go_simp
      (obtain ⟨v_4, hw_4⟩ : ∃ q, v_1.alloc (.cells zeroA 25) = q := ⟨_, rfl⟩; rw [hw_4]; have hb_4 : Below v_1.heap.size v_1 v_4 := (by rw [← hw_4]; exact (Below.refl _ _).alloc (Nat.le_refl _) _); have hB_4 : Blk v_4 v_1.heap.size zeroA 25 := (by rw [← hw_4]; exact Blk.new _ _ _); have HL := Lib.hid hS_1.l; have hS_4 := hS_1.later hb_4; have hA_4 := hA_1.later hb_4; clear hA_1; obtain ⟨gb, hgb⟩ : ∃ q, v_1.heap.size = q := ⟨_, rfl⟩; rw [hgb] at hB_4 HL ⊢; clear hgb hb_4 hS_1 hw_4; skip)
      (try go_wp2_with fail)
      refine hK.out _ _ ?_ (fun hHeld => ?_)
      · (try dsimp only)
        first | assumption
      clear hK K
      (try simp only [Act.put, List.setIfInBounds_toArray, List.set_cons_zero, List.set_cons_succ])
      refine wpAnyH_ready (rs := [4]) (by kernel_rfl) (by simp) ?_
      refine AllReadyH.cons (o := { dst := some 28, op := Go.Op.load 25 (Go.Operand.tmp 27), type := 25, pos := "ref.go:43", after := #[{ on := 3, ground := Go.Ground.data }], guard := none }) rfl (fun K hK => ?_) AllReadyH.nil
      (refine step_valueG (by rfl) (exec_loadM (cs := rowA k) (d := _) rfl rfl (hA_4.range HK.out.2.1 HK.out.2.2.1) Tryd.underlying25 rfl (infoA k)) ?_; skip)
      refine hK.out _ _ ?_ (fun hHeld => ?_)
      · (try dsimp only)
        first | assumption
      clear hK K
      (try simp only [Act.put, List.setIfInBounds_toArray, List.set_cons_zero, List.set_cons_succ])
      refine wpAnyH_ready (rs := [6]) (by kernel_rfl) (by simp) ?_
      refine AllReadyH.cons (o := { dst := none, op := Go.Op.store 25 (Go.Operand.tmp 3) (Go.Operand.tmp 28), type := 0, pos := "ref.go:43", after := #[{ on := 5, ground := Go.Ground.data }, { on := 4, ground := Go.Ground.data }, { on := 0, ground := Go.Ground.chain }, { on := 0, ground := Go.Ground.phase }, { on := 1, ground := Go.Ground.phase }, { on := 2, ground := Go.Ground.phase }, { on := 3, ground := Go.Ground.phase }, { on := 4, ground := Go.Ground.phase }, { on := 5, ground := Go.Ground.phase }], guard := none }) rfl (fun K hK => ?_) AllReadyH.nil
      (refine step_storeM (by rfl) 25 (.tmp 3) (.tmp 28) rfl gb 0 (rowA k).toArray rfl rfl (Blk.thereAll hB_4 _ (Nat.le_refl 4)) (infoA k) (rowA_one k) ?_; obtain ⟨v_5, hw_5⟩ : ∃ q, v_4.setCells gb 0 (rowA k).toArray.toList = q := ⟨_, rfl⟩; rw [hw_5]; have hB_5 : Blk v_5 gb (rowA k).toArray 25 := (by rw [← hw_5]; exact Blk.whole hB_4 rfl); have hS_5 : RQ w (.int .i64 k) (.slice ot nt ct) (.string S) (.slice oa q ca) v_5 := (by rw [← hw_5]; exact hS_4.own (Own.setCells _ 0 _) HL.out); clear hw_5 hB_4 hS_4; skip)
      refine hK.out _ _ ?_ (fun hHeld => ?_)
      · (try dsimp only)
        first | assumption
      clear hK K
      (try simp only [Act.put, List.setIfInBounds_toArray, List.set_cons_zero, List.set_cons_succ])
      refine wpAnyH_done (by kernel_rfl) ?_ _
      have HS := Lib.hid hS_5.o
      have d0 := hS_5.c0
      have d1 := hS_5.c1
      have d3 := hS_5.c3
      have hA1 : v_5.cell? ⟨gb, 1, none⟩ = some (.int .i64 (arF k : Nat)) := by rw [Blk.cell hB_5]; rfl
      have hA2 : v_5.cell? ⟨gb, 2, none⟩ = some (.bool (opF k)) := by rw [Blk.cell hB_5]; rfl
      clear hS_5 hB_5 hz hpk
      obtain ⟨u, hu⟩ : ∃ u, arF k = u := ⟨_, rfl⟩
      obtain ⟨b, hb⟩ : ∃ b, opF k = b := ⟨_, rfl⟩
      have HU : Hid (arF k = u ∧ opF k = b) := Lib.hid ⟨hu, hb⟩
      rw [hu] at hA1
      rw [hb] at hA2
      clear hu hb
      by_cases hqu : q = u
      · subst hqu
        cases b with
        | true =>
          by_cases hn : nt = 0
          · have HD : Hid (decide (MB k nt S q) = true) := Lib.hid (decide_eq_true ⟨by have := HK.out; omega, by have := HK.out; omega, by rw [HK.out.2.2.2.1]; exact HU.out.1.symm, HK.out.2.2.2.2.2, HK.out.2.2.2.2.1, fun _ => hn⟩)
            subst hn
            go_wp2_with fail
            go_ret
            exact ⟨by rw [HD.out]; rfl, HS.out⟩
          · have HD : Hid (decide (MB k nt S q) = false) := Lib.hid (decide_eq_false fun h => hn (h.2.2.2.2.2 (by rw [HK.out.2.2.2.1]; exact HU.out.2)))
            have v1 : ¬ (nt : Int) = 0 := by omega
            clear hn
            go_wp2_with fail
            go_ret
            exact ⟨by rw [HD.out]; first | rfl | (simp [v1]; done) | (simp [v1]; omega), HS.out⟩
        | false =>
          have HD : Hid (decide (MB k nt S q) = true) := Lib.hid (decide_eq_true ⟨by have := HK.out; omega, by have := HK.out; omega, by rw [HK.out.2.2.2.1]; exact HU.out.1.symm, HK.out.2.2.2.2.2, HK.out.2.2.2.2.1, fun e => by rw [HK.out.2.2.2.1, HU.out.2] at e; cases e⟩)
          go_wp2_with fail
          go_ret
          exact ⟨by rw [HD.out]; rfl, HS.out⟩
      · have HD : Hid (decide (MB k nt S q) = false) := Lib.hid (decide_eq_false fun h => hqu (by have := h.2.2.1; rw [HK.out.2.2.2.1, HU.out.1] at this; exact this))
        have v1 : ¬ (q : Int) = (u : Int) := by omega
        clear hqu
        go_wp2_with fail
        go_ret
        exact ⟨by rw [HD.out]; first | rfl | (simp [v1]; done) | (simp [v1]; omega), HS.out⟩
    refine AllReadyH.cons (o := { dst := some 3, op := Go.Op.alloc 25, type := 0, pos := "ref.go:43", after := #[], guard := none }) rfl (fun K hK => ?_) AllReadyH.nil
    go_simp
    (obtain ⟨v_6, hw_6⟩ : ∃ q, W0.alloc (.cells zeroA 25) = q := ⟨_, rfl⟩; rw [hw_6]; have hb_6 : Below W0.heap.size W0 v_6 := (by rw [← hw_6]; exact (Below.refl _ _).alloc (Nat.le_refl _) _); have hB_6 : Blk v_6 W0.heap.size zeroA 25 := (by rw [← hw_6]; exact Blk.new _ _ _); have HL := Lib.hid hS_0.l; have hS_6 := hS_0.later hb_6; obtain ⟨gb, hgb⟩ : ∃ q, W0.heap.size = q := ⟨_, rfl⟩; rw [hgb] at hB_6 HL ⊢; clear hgb hb_6 hS_0 hw_6; skip)
    (try go_wp2_with fail)
    refine hK.out _ _ ?_ (fun hHeld => ?_)
    · (try dsimp only)
      first | assumption
    clear hK K
    (try simp only [Act.put, List.setIfInBounds_toArray, List.set_cons_zero, List.set_cons_succ])
    refine wpAnyH_ready (rs := [0]) (by kernel_rfl) (by simp) ?_
    refine AllReadyH.cons (o := { dst := some 24, op := Go.Op.call { callee := Go.Callee.value (Go.Operand.func 14), args := #[], argTypes := #[] }, type := 22, pos := "ref.go:43", after := #[], guard := none }) rfl (fun K hK => ?_) AllReadyH.nil
    go_simp
    (refine (all_any _).mono ?_; rintro e v_7 ⟨rfl, hA_7, hb_7⟩; have hS_7 := hS_6.later hb_7; have hB_7 := Blk.below hB_6 hb_7 (Blk.lt hB_6); clear hB_6; obtain ⟨ga, hga⟩ : ∃ q, v_6.heap.size = q := ⟨_, rfl⟩; rw [hga] at hA_7 ⊢; clear hga hb_7 hS_6; skip)
    (try go_wp2_with fail)
    refine hK.out _ _ ?_ (fun hHeld => ?_)
    · (try dsimp only)
      first | assumption
    clear hK K
    (try simp only [Act.put, List.setIfInBounds_toArray, List.set_cons_zero, List.set_cons_succ])
    refine wpAnyH_take (i := 3) (oi := { dst := some 27, op := Go.Op.indexAddr 22 (Go.Operand.tmp 24) (Go.Operand.tmp 26), type := 0, pos := "ref.go:43", after := #[{ on := 0, ground := Go.Ground.data }, { on := 2, ground := Go.Ground.data }], guard := none }) (v := ?_) rfl (by kernel_rfl) (by kernel_rfl) (by kernel_rfl) (fun _ _ _ h => h) (Or.inl ⟨by rfl, ?_⟩) (by assumption) ?_
    rotate_left
    · intro wS hSw
      (try dsimp only at hSw)
      go_simp
      (try with_reducible rfl)
    (try simp only [Act.put, List.setIfInBounds_toArray, List.set_cons_zero, List.set_cons_succ])
    refine wpAnyH_ready (rs := [4]) (by kernel_rfl) (by simp) ?_
    refine AllReadyH.cons (o := { dst := some 28, op := Go.Op.load 25 (Go.Operand.tmp 27), type := 25, pos := "ref.go:43", after := #[{ on := 3, ground := Go.Ground.data }], guard := none }) rfl (fun K hK => ?_) AllReadyH.nil
    (refine step_valueG (by rfl) (exec_loadM (cs := rowA k) (d := _) rfl rfl (hA_7.range HK.out.2.1 HK.out.2.2.1) Tryd.underlying25 rfl (infoA k)) ?_; skip)
    refine hK.out _ _ ?_ (fun hHeld => ?_)
    · (try dsimp only)
      first | assumption
    clear hK K
    (try simp only [Act.put, List.setIfInBounds_toArray, List.set_cons_zero, List.set_cons_succ])
    refine wpAnyH_ready (rs := [6]) (by kernel_rfl) (by simp) ?_
    refine AllReadyH.cons (o := { dst := none, op := Go.Op.store 25 (Go.Operand.tmp 3) (Go.Operand.tmp 28), type := 0, pos := "ref.go:43", after := #[{ on := 5, ground := Go.Ground.data }, { on := 4, ground := Go.Ground.data }, { on := 0, ground := Go.Ground.chain }, { on := 0, ground := Go.Ground.phase }, { on := 1, ground := Go.Ground.phase }, { on := 2, ground := Go.Ground.phase }, { on := 3, ground := Go.Ground.phase }, { on := 4, ground := Go.Ground.phase }, { on := 5, ground := Go.Ground.phase }], guard := none }) rfl (fun K hK => ?_) AllReadyH.nil
    (refine step_storeM (by rfl) 25 (.tmp 3) (.tmp 28) rfl gb 0 (rowA k).toArray rfl rfl (Blk.thereAll hB_7 _ (Nat.le_refl 4)) (infoA k) (rowA_one k) ?_; obtain ⟨v_8, hw_8⟩ : ∃ q, v_7.setCells gb 0 (rowA k).toArray.toList = q := ⟨_, rfl⟩; rw [hw_8]; have hB_8 : Blk v_8 gb (rowA k).toArray 25 := (by rw [← hw_8]; exact Blk.whole hB_7 rfl); have hS_8 : RQ w (.int .i64 k) (.slice ot nt ct) (.string S) (.slice oa q ca) v_8 := (by rw [← hw_8]; exact hS_7.own (Own.setCells _ 0 _) HL.out); clear hw_8 hB_7 hS_7; skip)
    refine hK.out _ _ ?_ (fun hHeld => ?_)
    · (try dsimp only)
      first | assumption
    clear hK K
    (try simp only [Act.put, List.setIfInBounds_toArray, List.set_cons_zero, List.set_cons_succ])
    refine wpAnyH_done (by kernel_rfl) ?_ _
    have HS := Lib.hid hS_8.o
    have d0 := hS_8.c0
    have d1 := hS_8.c1
    have d3 := hS_8.c3
    have hA1 : v_8.cell? ⟨gb, 1, none⟩ = some (.int .i64 (arF k : Nat)) := by rw [Blk.cell hB_8]; rfl
    have hA2 : v_8.cell? ⟨gb, 2, none⟩ = some (.bool (opF k)) := by rw [Blk.cell hB_8]; rfl
    clear hS_8 hB_8 hz hpk
    obtain ⟨u, hu⟩ : ∃ u, arF k = u := ⟨_, rfl⟩
    obtain ⟨b, hb⟩ : ∃ b, opF k = b := ⟨_, rfl⟩
    have HU : Hid (arF k = u ∧ opF k = b) := Lib.hid ⟨hu, hb⟩
    rw [hu] at hA1
    rw [hb] at hA2
    clear hu hb
    by_cases hqu : q = u
    · subst hqu
      cases b with
      | true =>
        by_cases hn : nt = 0
        · have HD : Hid (decide (MB k nt S q) = true) := Lib.hid (decide_eq_true ⟨by have := HK.out; omega, by have := HK.out; omega, by rw [HK.out.2.2.2.1]; exact HU.out.1.symm, HK.out.2.2.2.2.2, HK.out.2.2.2.2.1, fun _ => hn⟩)
          subst hn
          go_wp2_with fail
          go_ret
          exact ⟨by rw [HD.out]; rfl, HS.out⟩
        · have HD : Hid (decide (MB k nt S q) = false) := Lib.hid (decide_eq_false fun h => hn (h.2.2.2.2.2 (by rw [HK.out.2.2.2.1]; exact HU.out.2)))
          have v1 : ¬ (nt : Int) = 0 := by omega
          clear hn
          go_wp2_with fail
          go_ret
          exact ⟨by rw [HD.out]; first | rfl | (simp [v1]; done) | (simp [v1]; omega), HS.out⟩
      | false =>
        have HD : Hid (decide (MB k nt S q) = true) := Lib.hid (decide_eq_true ⟨by have := HK.out; omega, by have := HK.out; omega, by rw [HK.out.2.2.2.1]; exact HU.out.1.symm, HK.out.2.2.2.2.2, HK.out.2.2.2.2.1, fun e => by rw [HK.out.2.2.2.1, HU.out.2] at e; cases e⟩)
        go_wp2_with fail
        go_ret
        exact ⟨by rw [HD.out]; rfl, HS.out⟩
    · have HD : Hid (decide (MB k nt S q) = false) := Lib.hid (decide_eq_false fun h => hqu (by have := h.2.2.1; rw [HK.out.2.2.2.1, HU.out.1] at this; exact this))
      have v1 : ¬ (q : Int) = (u : Int) := by omega
      clear hqu
      go_wp2_with fail
      go_ret
      exact ⟨by rw [HD.out]; first | rfl | (simp [v1]; done) | (simp [v1]; omega), HS.out⟩
end Go.Proofs.YtmabhjifldafaaaDoor
