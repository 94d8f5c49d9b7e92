/- ShaSums walked. -/
import Derived.Test.YtbblibddikdakaaDoorShB
import Derived.Test.YtbblibddikdakaaDoorSr3
namespace Go.Proofs.YtbblibddikdakaaDoor
set_option linter.unusedVariables false
set_option linter.unusedSimpArgs false
open Go.RowKit

theorem Bytes.hiS {w : World} {ob p : Option Addr} {m cm i : Nat} {B : Nat → Nat} (h : Bytes w ob m B) (hmc : m ≤ cm) (hi : i ≤ m) (hp : (if cm = i then ob else Option.map (fun x => x.add i) ob) = p) : Bytes w p (m - i) (fun t => B (i + t)) := fun k hk => by
  obtain ⟨h1, b, off, rfl, h2⟩ := h (i + k) (by omega)
  rw [if_neg (by omega)] at hp
  refine ⟨h1, b, off + i, ?_, by rw [Nat.add_assoc]; exact h2⟩
  rw [← hp]
  show some ((⟨b, off, none⟩ : Addr).add i) = _
  rw [Addr.add_mid]
/-- The hash and the sum that is wanted. -/
structure SQ (w0 : World) (g g1 m : Nat) (F D : Nat → Nat) (wr : World) : Prop where
  h : HS wr g m F
  s : RB 27 32 g1 D wr
  o : Below w0.heap.size w0 wr
  v : GV wr
  n : w0.heap.size ≤ g ∧ g1 ≠ g
theorem SQ.later {w0 wr w' : World} {g g1 m : Nat} {F D : Nat → Nat} (h : SQ w0 g g1 m F D wr) (hb : Below wr.heap.size wr w') : SQ w0 g g1 m F D w' :=
  ⟨h.h.later hb, Blk.below h.s hb (Blk.lt h.s), h.o.trans (hb.mono h.o.size), h.v.later hb, h.n⟩
theorem SQ.wrote {w0 wr w' : World} {g g1 m m' : Nat} {F F' D : Nat → Nat} (h : SQ w0 g g1 m F D wr) (hS : HS w' g m' F') (hO : Own g wr w') : SQ w0 g g1 m' F' D w' :=
  ⟨hS, hO.blk h.s h.n.2, h.o.trans (hO.below h.n.1 h.o.size), h.v.own hO h.h.1.1 h.h.1.2, h.n⟩
set_option maxRecDepth 100000 in
set_option maxHeartbeats 4000000 in
theorem sums_any (oa : Option Addr) (n cap : Nat) (G : Nat → Nat) (cut : Int) (w : World) (hB : Bytes w oa n G) (hnc : n ≤ cap) (hno : oa = none → n = 0) (hcm : cap ≤ maxLen) (hg : GV w) :
    Calls Tryd.prog 4 #[.slice oa n cap, .int .i64 cut] w fun e w' => e = .returned (.bool true) ∧ Below w.heap.size w w' := by
  unfold maxLen at hcm
  have hz := zero32_run
  have HG := Lib.hid hg
  have HBY : Hid (∀ w', Below w.heap.size w w' → Bytes w' oa n G) := Lib.hid fun w' h => hB.later h
  have HLT : Hid (∀ a, oa = some a → 0 < n → a.block < w.heap.size) := Lib.hid hB.lt
  have HNO := Lib.hid hno
  have HNC := Lib.hid hnc
  have HEZ : Hid (∀ w, (Op.equalIn 10000 27 (.agg zero32) (.agg zero32)).run Tryd.prog w = .ok true w) := Lib.hid fun w => by
    have := eq32 (fun _ => 0) (fun _ => 0) w; rw [eqS_refl] at this; exact this
  have hn0 : (n : Int) ≤ 9223372036854775807 := by omega
  clear hB hg hno
  go_enter Tryd.func4, Tryd.ntmps4
  by_cases h1 : 1000 < n
  · have h2 : (1000 : Int) < (n : Int) := by omega
    clear h1 hz
    go_wp2_with fail
    refine (sha_sure _ HG.out).mono ?_
    rintro e w5 ⟨rfl, hb5⟩
    have HO := Lib.hid hb5
    clear hb5
    go_wp2_with fail
    go_ret
    exact ⟨rfl, HO.out⟩
  · have h2 : ¬ (1000 : Int) < (n : Int) := by omega
    have HN : Hid (n ≤ 1000) := Lib.hid (by omega)
    clear h1
    go_wp2_with fail
    refine (write_nil _ _).mono ?_
    rintro e w1 ⟨rfl, he1⟩
    have he1 := he1.symm
    subst he1
    go_wp2_with fail
    refine (sum_nil _).mono ?_
    rintro e w2 ⟨rfl, hb2⟩
    have H2 := Lib.hid hb2
    clear hb2
    go_wp2_with (first | (refine wpList_value rfl (exec_neq32 (x := .tmp 17) (y := .tmp 18) rfl rfl rfl HEZ.out) ?_))
    refine (clone_nil _).mono ?_
    rintro e w3 ⟨rfl, he3⟩
    have he3 := he3.symm
    subst he3
    go_wp2_with fail
    obtain ⟨D, hD⟩ : ∃ D, shaN n G = D := ⟨_, rfl⟩
    obtain ⟨CD, hCD⟩ : ∃ C, (rowC 32 D).toArray = C := ⟨_, rfl⟩
    have HCD := Lib.hid hCD
    have HI : Hid ((Tryd.prog.info? 27).map (·.size) = some CD.size) := Lib.hid (hCD ▸ info27 _)
    have HI1 : Hid (CD.all (·.oneCell') = true) := Lib.hid (hCD ▸ one32 _)
    have HREF : Hid (∀ w', Below w.heap.size w w' → Calls Tryd.prog 16 #[.slice oa n cap] w' fun e w'' => e = .returned (.agg CD) ∧ Below w'.heap.size w' w'') := Lib.hid fun w' h => by
      rw [← hCD, ← hD]; exact rsum_any oa n cap G w' (HBY.out _ h) HNO.out (by have := HN.out; omega)
    have HSHA : Hid (∀ w', Below w.heap.size w w' → GV w' → Calls Tryd.prog 14 #[.slice oa n cap] w' fun e w'' => e = .returned (.agg CD) ∧ Below w'.heap.size w' w'') := Lib.hid fun w' h h' => by
      rw [← hCD, ← hD]; exact hash_any oa n cap G w' (HBY.out _ h) HNC.out (by have := HN.out; omega) h'
    have HSUM : Hid (∀ g w', HS w' g n G → GV w' → Calls Tryd.prog 13 #[.pointer (some ⟨g, 0, none⟩)] w' fun e w'' => e = .returned (.agg CD) ∧ Below w'.heap.size w' w'') := Lib.hid fun g w' h h' => by
      rw [← hCD, ← hD]; exact hsum_any g n G w' h (by have := HN.out; omega) h'
    have HEQ : Hid (∀ w, (Op.equalIn 10000 27 (.agg CD) (.agg CD)).run Tryd.prog w = .ok true w) := Lib.hid fun w => by
      rw [← hCD]; have := eq32 D D w; rw [eqS_refl] at this; exact this
    clear hCD hD HEZ
    refine (HREF.out _ H2.out).mono ?_
    rintro e w4 ⟨rfl, hb4⟩
    obtain ⟨g1, hg1⟩ : ∃ g, w4.heap.size = g := ⟨_, rfl⟩
    obtain ⟨wa, hwa⟩ : ∃ q, w4.alloc (.cells zero32 27) = q := ⟨_, rfl⟩
    obtain ⟨w5, hw5⟩ : ∃ q, wa.setCells g1 0 CD.toList = q := ⟨_, rfl⟩
    have hl := lay32 w4 D HCD.out
    rw [hg1, hwa, hw5] at hl
    have HTH := Lib.hid hl.2.2
    have H5 : Hid (RB 27 32 g1 D w5 ∧ Below w.heap.size w w5 ∧ GV w5) := Lib.hid (by
      have h4 := H2.out.trans (hb4.mono H2.out.size)
      have h5 := h4.trans (hl.2.1.mono (by rw [← hg1]; exact h4.size))
      exact ⟨hl.1, h5, HG.out.later h5⟩)
    clear hl hb4 H2
    go_wp2_with (first | (refine wpList_store_mid rfl 27 (.tmp 6) (.tmp 26) rfl g1 0 CD rfl rfl HTH.out HI.out HI1.out ?_; rw [hw5]))
    clear hw5 hwa hg1 HTH hz
    refine (hnew_any _ H5.out.2.2).mono ?_
    rintro e w6 ⟨g, rfl, hN, hb6, hge⟩
    have H6 : Hid (SQ w g g1 0 (fun _ => 0) D w6) := Lib.hid (by
      obtain ⟨a1, a2, a3⟩ := H5.out
      exact ⟨hN _, Blk.below a1 hb6 (Blk.lt a1), a2.trans (hb6.mono a2.size), a3.later hb6, Nat.le_trans a2.size hge, by have := Blk.lt a1; omega⟩)
    clear hN hb6 hge H5
    obtain ⟨c, hc⟩ : ∃ c : Nat, cut % 18446744073709551616 = (c : Int) := ⟨(cut % 18446744073709551616).toNat, by omega⟩
    have hc1 : IntKind.u64.wrap cut = (c : Int) := by rw [← hc]; simp [IntKind.wrap, IntKind.bits, IntKind.signed]
    obtain ⟨n1, hn1⟩ : ∃ k, n + 1 = k := ⟨_, rfl⟩
    have hnw : IntKind.i64.wrap ((n : Int) + 1) = (n1 : Int) := by have := HN.out; rw [IntWalk.i64_in _ (by omega)]; omega
    have hnu : IntKind.u64.wrap (n1 : Int) = (n1 : Int) := by have := HN.out; simp [IntKind.wrap, IntKind.bits, IntKind.signed]; omega
    have hn2 : ¬ (n1 : Int) = 0 := by omega
    have hn3 : ¬ n1 = 0 := by omega
    have hn4 : ((n1 : Int) == 0) = false := by simpa using hn3
    obtain ⟨k, hk⟩ : ∃ i, c % n1 = i := ⟨_, rfl⟩
    have hti : (c : Int).tmod (n1 : Int) = (k : Int) := tmk rfl hk
    have htj : (c : Int) % (n1 : Int) = (k : Int) := by rw [← hk]; exact (Int.natCast_emod c n1).symm
    have hkn : k ≤ n := by have := Nat.mod_lt c (show 0 < n1 by omega); omega
    have hki : IntKind.i64.wrap (k : Int) = (k : Int) := by have := HN.out; exact IntWalk.i64_in _ (by omega)
    have hku : IntKind.u64.wrap (k : Int) = (k : Int) := by have := HN.out; simp [IntKind.wrap, IntKind.bits, IntKind.signed]; omega
    have k0 : (0 : Int) ≤ (k : Int) := by omega
    have k1 : (k : Int) ≤ (n : Int) := by omega
    have k2 : (k : Int) ≤ (cap : Int) := by omega
    have n2 : (n : Int) ≤ (cap : Int) := by omega
    have HKN : Hid (k ≤ n) := Lib.hid hkn
    obtain ⟨pk, hpk⟩ : ∃ p, (if cap = k then oa else Option.map (fun x => x.add k) oa) = p := ⟨_, rfl⟩
    go_wp2_with fail
    clear hc hc1 hn1 hnw hnu hn2 hn3 hn4 hk hti htj hkn hki hku
    refine (write_any g 0 k cap oa _ G _ H6.out.h ((HBY.out _ H6.out.o).mono HKN.out) (by have := HKN.out; have := HNC.out; omega) (fun a ha hl => by have := HLT.out a ha (by have := HKN.out; omega); have := H6.out.n; omega) (by have := HKN.out; have := HN.out; omega) H6.out.v).mono ?_
    rintro e w7 ⟨rfl, hS7, hO7⟩
    have H7 := Lib.hid (H6.out.wrote hS7 hO7)
    clear hS7 hO7 H6
    go_wp2_with fail
    have HHI : Hid (Bytes w7 pk (n - k) (fun t => G (k + t))) := Lib.hid ((HBY.out _ H7.out.o).hiS HNC.out HKN.out hpk)
    have HPL : Hid (∀ a, pk = some a → 0 < n - k → a.block < w.heap.size) := Lib.hid fun a ha hl => ((HBY.out _ (Below.refl _ w)).hiS HNC.out HKN.out hpk).lt a ha hl
    refine (write_any g (0 + k) (n - k) (cap - k) pk _ _ _ H7.out.h HHI.out (by have := HNC.out; omega) (fun a ha hl => by have := HPL.out a ha hl; have := H7.out.n; omega) (by have := HN.out; omega) H7.out.v).mono ?_
    rintro e w8 ⟨rfl, hS8, hO8⟩
    have H8 : Hid (SQ w g g1 n G D w8) := Lib.hid (by
      have h8 := H7.out.wrote hS8 hO8
      have e1 : 0 + k + (n - k) = n := by have := HKN.out; omega
      refine ⟨?_, h8.s, h8.o, h8.v, h8.n⟩
      have h9 := h8.h
      rw [e1] at h9
      refine h9.congr fun i hi => ?_
      unfold catF
      by_cases e : i < 0 + k
      · rw [if_pos e, if_neg (by omega), Nat.sub_zero]
      · rw [if_neg e]; show G (k + (i - (0 + k))) = G i; congr 1; omega)
    clear hS8 hO8 H7 HHI HPL hpk k0 k1 k2 n2
    go_wp2_with fail
    have hS_0 : RB 27 32 g1 D w8.drew := H8.out.s
    have hQ_0 : SQ w g g1 n G D w8.drew := H8.out.later (Below.refl _ w8).drew
    clear H8
    refine wp_region_held_drew (S := (RB 27 32 g1 D)) (by kernel_rfl) ?_ (fun hHeld => ?_)
    · (try dsimp only)
      first | assumption
    generalize w8.drew = W0 at *
    refine wpAnyH_take (i := 0) (oi := { dst := some 46, op := Go.Op.move (Go.Operand.tmp 0), type := 25, pos := "law.go:31", after := #[], guard := none }) (v := ?_) rfl (by kernel_rfl) (by kernel_rfl) (by kernel_rfl) (fun _ _ _ h => h) (Or.inl ⟨by rfl, ?_⟩) (by assumption) ?_
    rotate_left
    · intro wS hSw
      (try dsimp only at hSw)
      go_simp
      (try with_reducible rfl)
    (try simp only [Act.put, List.setIfInBounds_toArray, List.set_cons_zero, List.set_cons_succ])
    refine wpAnyH_take (i := 2) (oi := { dst := some 48, op := Go.Op.load 27 (Go.Operand.tmp 6), type := 27, pos := "law.go:31", after := #[], guard := none }) (v := ?_) rfl (by kernel_rfl) (by kernel_rfl) (by kernel_rfl) (fun _ _ _ h => h) (Or.inl ⟨by rfl, ?_⟩) (by assumption) ?_
    rotate_left
    · intro wS hSw
      (refine exec_load32 (x := .tmp 6) (C := CD) ?_ ?_ (by rw [← HCD.out]; exact hSw) HI.out <;> rfl)
    (try simp only [Act.put, List.setIfInBounds_toArray, List.set_cons_zero, List.set_cons_succ])
    refine wpAnyH_ready (rs := [1]) (by kernel_rfl) (by simp) ?_
    refine AllReadyH.cons (o := { dst := some 47, op := Go.Op.call { callee := Go.Callee.value (Go.Operand.func 14), args := #[Go.Operand.tmp 46], argTypes := #[25] }, type := 27, pos := "law.go:31", after := #[{ on := 0, ground := Go.Ground.data }], guard := none }) rfl (fun K hK => ?_) AllReadyH.nil
    go_simp
    (refine (HSHA.out _ hQ_0.o hQ_0.v).mono ?_; rintro e v_1 ⟨rfl, hb_1⟩; have hS_1 := Blk.below hS_0 hb_1 (Blk.lt hS_0); have hQ_1 := hQ_0.later hb_1; clear hb_1 hS_0 hQ_0; skip)
    (try go_wp2_with fail)
    refine hK.out _ _ ?_ (fun hHeld => ?_)
    · (try dsimp only)
      first | assumption
    clear hK K
    (try simp only [Act.put, List.setIfInBounds_toArray, List.set_cons_zero, List.set_cons_succ])
    refine wpAnyH_take (i := 3) (oi := { dst := some 49, op := Go.Op.binOp Go.BinOp.eql 27 (Go.Operand.tmp 47) (Go.Operand.tmp 48) 27, type := 4, pos := "law.go:31", after := #[{ on := 1, ground := Go.Ground.data }, { on := 2, ground := Go.Ground.data }], guard := none }) (v := ?_) rfl (by kernel_rfl) (by kernel_rfl) (by kernel_rfl) (fun _ _ _ h => h) (Or.inl ⟨by rfl, ?_⟩) (by assumption) ?_
    rotate_left
    · intro wS hSw
      refine exec_eql32 (r := 27) (x := .tmp 47) (y := .tmp 48) ?_ ?_ ?_ HEQ.out <;> rfl
    (try simp only [Act.put, List.setIfInBounds_toArray, List.set_cons_zero, List.set_cons_succ])
    refine wpAnyH_take (i := 4) (oi := { dst := some 50, op := Go.Op.move (Go.Operand.tmp 49), type := 4, pos := "law.go:31", after := #[{ on := 3, ground := Go.Ground.data }, { on := 1, ground := Go.Ground.chain }], guard := none }) (v := ?_) rfl (by kernel_rfl) (by kernel_rfl) (by kernel_rfl) (fun _ _ _ h => h) (Or.inl ⟨by rfl, ?_⟩) (by assumption) ?_
    rotate_left
    · intro wS hSw
      (try dsimp only at hSw)
      go_simp
      (try with_reducible rfl)
    (try simp only [Act.put, List.setIfInBounds_toArray, List.set_cons_zero, List.set_cons_succ])
    refine wpAnyH_take (i := 5) (oi := { dst := some 51, op := Go.Op.move (Go.Operand.tmp 7), type := 23, pos := "law.go:31", after := #[{ on := 4, ground := Go.Ground.guard }], guard := some (4, true) }) (v := ?_) rfl (by kernel_rfl) (by kernel_rfl) (by kernel_rfl) (fun _ _ _ h => h) (Or.inl ⟨by rfl, ?_⟩) (by assumption) ?_
    rotate_left
    · intro wS hSw
      (try dsimp only at hSw)
      go_simp
      (try with_reducible rfl)
    (try simp only [Act.put, List.setIfInBounds_toArray, List.set_cons_zero, List.set_cons_succ])
    refine wpAnyH_take (i := 7) (oi := { dst := some 53, op := Go.Op.load 27 (Go.Operand.tmp 6), type := 27, pos := "law.go:31", after := #[{ on := 4, ground := Go.Ground.guard }], guard := some (4, true) }) (v := ?_) rfl (by kernel_rfl) (by kernel_rfl) (by kernel_rfl) (fun _ _ _ h => h) (Or.inl ⟨by rfl, ?_⟩) (by assumption) ?_
    rotate_left
    · intro wS hSw
      (refine exec_load32 (x := .tmp 6) (C := CD) ?_ ?_ (by rw [← HCD.out]; exact hSw) HI.out <;> rfl)
    (try simp only [Act.put, List.setIfInBounds_toArray, List.set_cons_zero, List.set_cons_succ])
    refine wpAnyH_ready (rs := [6]) (by kernel_rfl) (by simp) ?_
    refine AllReadyH.cons (o := { dst := some 52, op := Go.Op.call { callee := Go.Callee.value (Go.Operand.func 13), args := #[Go.Operand.tmp 51], argTypes := #[23] }, type := 27, pos := "law.go:31", after := #[{ on := 5, ground := Go.Ground.data }, { on := 4, ground := Go.Ground.chain }, { on := 4, ground := Go.Ground.guard }], guard := some (4, true) }) rfl (fun K hK => ?_) AllReadyH.nil
    go_simp
    (refine (HSUM.out g _ hQ_1.h hQ_1.v).mono ?_; rintro e v_2 ⟨rfl, hb_2⟩; have hS_2 := Blk.below hS_1 hb_2 (Blk.lt hS_1); have hQ_2 := hQ_1.later hb_2; clear hb_2 hS_1 hQ_1; skip)
    (try go_wp2_with fail)
    refine hK.out _ _ ?_ (fun hHeld => ?_)
    · (try dsimp only)
      first | assumption
    clear hK K
    (try simp only [Act.put, List.setIfInBounds_toArray, List.set_cons_zero, List.set_cons_succ])
    refine wpAnyH_take (i := 8) (oi := { dst := some 54, op := Go.Op.binOp Go.BinOp.eql 27 (Go.Operand.tmp 52) (Go.Operand.tmp 53) 27, type := 4, pos := "law.go:31", after := #[{ on := 6, ground := Go.Ground.data }, { on := 7, ground := Go.Ground.data }, { on := 4, ground := Go.Ground.guard }], guard := some (4, true) }) (v := ?_) rfl (by kernel_rfl) (by kernel_rfl) (by kernel_rfl) (fun _ _ _ h => h) (Or.inl ⟨by rfl, ?_⟩) (by assumption) ?_
    rotate_left
    · intro wS hSw
      refine exec_eql32 (r := 27) (x := .tmp 52) (y := .tmp 53) ?_ ?_ ?_ HEQ.out <;> rfl
    (try simp only [Act.put, List.setIfInBounds_toArray, List.set_cons_zero, List.set_cons_succ])
    refine wpAnyH_take (i := 9) (oi := { dst := some 55, op := Go.Op.pick (Go.Operand.tmp 50) (Go.Operand.tmp 54) (Go.Operand.const (Go.Value.bool false)), type := 4, pos := "law.go:31", after := #[{ on := 4, ground := Go.Ground.data }, { on := 8, ground := Go.Ground.data }], guard := none }) (v := ?_) rfl (by kernel_rfl) (by kernel_rfl) (by kernel_rfl) (fun _ _ _ h => h) (Or.inl ⟨by rfl, ?_⟩) (by assumption) ?_
    rotate_left
    · intro wS hSw
      (try dsimp only at hSw)
      go_simp
      (try with_reducible rfl)
    (try simp only [Act.put, List.setIfInBounds_toArray, List.set_cons_zero, List.set_cons_succ])
    refine wpAnyH_take (i := 10) (oi := { dst := some 56, op := Go.Op.move (Go.Operand.tmp 55), type := 4, pos := "law.go:31", after := #[{ on := 9, ground := Go.Ground.data }, { on := 6, ground := Go.Ground.chain }], guard := none }) (v := ?_) rfl (by kernel_rfl) (by kernel_rfl) (by kernel_rfl) (fun _ _ _ h => h) (Or.inl ⟨by rfl, ?_⟩) (by assumption) ?_
    rotate_left
    · intro wS hSw
      (try dsimp only at hSw)
      go_simp
      (try with_reducible rfl)
    (try simp only [Act.put, List.setIfInBounds_toArray, List.set_cons_zero, List.set_cons_succ])
    refine wpAnyH_ready (rs := [11]) (by kernel_rfl) (by simp) ?_
    refine AllReadyH.cons (o := { dst := some 57, op := Go.Op.call { callee := Go.Callee.value (Go.Operand.func 15), args := #[], argTypes := #[] }, type := 4, pos := "law.go:31", after := #[{ on := 10, ground := Go.Ground.chain }, { on := 10, ground := Go.Ground.guard }], guard := some (10, true) }) rfl (fun K hK => ?_) AllReadyH.nil
    go_simp
    (refine (sha_sure _ hQ_2.v).mono ?_; rintro e v_3 ⟨rfl, hb_3⟩; have hS_3 := Blk.below hS_2 hb_3 (Blk.lt hS_2); have hQ_3 := hQ_2.later hb_3; clear hb_3 hS_2 hQ_2; skip)
    (try go_wp2_with fail)
    refine hK.out _ _ ?_ (fun hHeld => ?_)
    · (try dsimp only)
      first | assumption
    clear hK K
    (try simp only [Act.put, List.setIfInBounds_toArray, List.set_cons_zero, List.set_cons_succ])
    refine wpAnyH_take (i := 12) (oi := { dst := some 58, op := Go.Op.pick (Go.Operand.tmp 56) (Go.Operand.tmp 57) (Go.Operand.const (Go.Value.bool false)), type := 4, pos := "law.go:31", after := #[{ on := 10, ground := Go.Ground.data }, { on := 11, ground := Go.Ground.data }], guard := none }) (v := ?_) rfl (by kernel_rfl) (by kernel_rfl) (by kernel_rfl) (fun _ _ _ h => h) (Or.inl ⟨by rfl, ?_⟩) (by assumption) ?_
    rotate_left
    · intro wS hSw
      (try dsimp only at hSw)
      go_simp
      (try with_reducible rfl)
    (try simp only [Act.put, List.setIfInBounds_toArray, List.set_cons_zero, List.set_cons_succ])
    refine wpAnyH_take (i := 13) (oi := { dst := some 4, op := Go.Op.assign (Go.Operand.tmp 58), type := 4, pos := "law.go:31", after := #[{ on := 12, ground := Go.Ground.data }, { on := 11, ground := Go.Ground.chain }, { on := 0, ground := Go.Ground.phase }, { on := 1, ground := Go.Ground.phase }, { on := 2, ground := Go.Ground.phase }, { on := 3, ground := Go.Ground.phase }, { on := 4, ground := Go.Ground.phase }, { on := 5, ground := Go.Ground.phase }, { on := 6, ground := Go.Ground.phase }, { on := 7, ground := Go.Ground.phase }, { on := 8, ground := Go.Ground.phase }, { on := 9, ground := Go.Ground.phase }, { on := 10, ground := Go.Ground.phase }, { on := 11, ground := Go.Ground.phase }, { on := 12, ground := Go.Ground.phase }], guard := none }) (v := ?_) rfl (by kernel_rfl) (by kernel_rfl) (by kernel_rfl) (fun _ _ _ h => h) (Or.inl ⟨by rfl, ?_⟩) (by assumption) ?_
    rotate_left
    · intro wS hSw
      (try dsimp only at hSw)
      go_simp
      (try with_reducible rfl)
    (try simp only [Act.put, List.setIfInBounds_toArray, List.set_cons_zero, List.set_cons_succ])
    refine wpAnyH_done (by kernel_rfl) ?_ _
    have HO := Lib.hid hQ_3.o
    clear hS_3 hQ_3
    go_wp2_with fail
    go_ret
    exact ⟨rfl, HO.out⟩
end Go.Proofs.YtbblibddikdakaaDoor
