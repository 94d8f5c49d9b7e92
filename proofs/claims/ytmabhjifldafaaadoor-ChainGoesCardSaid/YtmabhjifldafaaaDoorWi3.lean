/- Fields of bytes, as the program takes them. -/
import Derived.Test.YtmabhjifldafaaaDoorWi1
namespace Go.Proofs.YtmabhjifldafaaaDoor
set_option linter.unusedVariables false
set_option linter.unusedSimpArgs false
open Go.RowKit

theorem orI {x y p s : Nat} (hx : x < 256) (hy : y < 256) (hp : x * 256 = p) (hs : p + y = s) : bits .or .i64 (p : Int) (y : Int) = (s : Int) := by
  have h := bits_join .i64 63 (by decide) (fun n h0 h1 => IntWalk.i64_in n (by omega)) 8 (p : Int) (y : Int) (by omega) (by omega) (by omega) (by omega) (by omega) (by omega)
  rw [h]; omega
/-- One field off the begin. -/
def FldA (p : Option Addr) (r : Nat) (F : Nat → Nat) (w0 : World) (e : Ending) (w' : World) : Prop :=
  Below w0.heap.size w0 w' ∧ (((r < 2 ∨ r < 2 + (256 * F 0 + F 1)) ∧ e = .returned (.tuple #[.slice none 0 0, .slice none 0 0, .bool false])) ∨
    (2 ≤ r ∧ 2 + (256 * F 0 + F 1) ≤ r ∧ ∃ oc cc p' cr', e = .returned (.tuple #[.slice oc (256 * F 0 + F 1) cc, .slice p' (r - 2 - (256 * F 0 + F 1)) cr', .bool true]) ∧ Bytes w' oc (256 * F 0 + F 1) (fun t => F (2 + t)) ∧ (oc = none → 256 * F 0 + F 1 = 0) ∧ 256 * F 0 + F 1 ≤ cc ∧ cc ≤ maxLen ∧ (∀ a, oc = some a → w0.heap.size ≤ a.block) ∧
      Bytes w' p' (r - 2 - (256 * F 0 + F 1)) (fun t => F (2 + (256 * F 0 + F 1) + t)) ∧ r - 2 - (256 * F 0 + F 1) ≤ cr' ∧ cr' ≤ maxLen ∧ ∀ a, p' = some a → ∃ a0, p = some a0 ∧ a0.block = a.block))
set_option maxRecDepth 100000 in
set_option maxHeartbeats 4000000 in
theorem field_any (p : Option Addr) (r cr : Nat) (F : Nat → Nat) (w : World) (hB : Bytes w p r F) (hc : r ≤ cr) (hm : cr ≤ maxLen) :
    Calls Tryd.prog 100 #[.slice p r cr] w (FldA p r F w) := by
  unfold maxLen at hm
  have hr0 : (r : Int) ≤ 9223372036854775807 := by omega
  go_enter Tryd.func100, Tryd.ntmps100
  by_cases h2 : r < 2
  · have h1 : (r : Int) < 2 := by omega
    have H2 := Lib.hid h2
    clear h2
    go_wp2_with fail
    go_ret3
    exact ⟨Below.refl _ _, .inl ⟨.inl H2.out, rfl⟩⟩
  · have h1 : ¬ (r : Int) < 2 := by omega
    obtain ⟨hx8, b, off, rfl, hc0⟩ := hB 0 (by omega)
    obtain ⟨hy8, _, _, e, hc1⟩ := hB 1 (by omega)
    cases e
    have HB := Lib.hid hB
    have HR : Hid (2 ≤ r ∧ r ≤ cr ∧ cr ≤ 9223372036854775807) := Lib.hid (by omega)
    obtain ⟨x, hx⟩ : ∃ x, F 0 = x := ⟨_, rfl⟩
    obtain ⟨y, hy⟩ : ∃ x, F 1 = x := ⟨_, rfl⟩
    rw [hx] at hc0 hx8
    rw [hy] at hc1 hy8
    obtain ⟨q, hq⟩ : ∃ q, x * 256 = q := ⟨_, rfl⟩
    obtain ⟨s, hs⟩ : ∃ s, q + y = s := ⟨_, rfl⟩
    have HS : Hid (256 * F 0 + F 1 = s ∧ s < 65536) := Lib.hid (by rw [hx, hy]; omega)
    have H0D : Hid (Below w.heap.size w w.drew) := Lib.hid (Below.refl _ w).drew
    have c0 : w.drew.cell? ⟨b, off, none⟩ = some (.int .u8 (x : Nat)) := hc0
    have c1 : w.drew.cell? ⟨b, off + 1, none⟩ = some (.int .u8 (y : Nat)) := hc1
    have s1 : (x : Int) * 256 = (q : Int) := by omega
    have s2 : IntKind.i64.wrap (q : Int) = (q : Int) := IntWalk.i64_in _ (by omega)
    have s3 := orI hx8 hy8 hq hs
    have s4 : IntKind.i64.wrap (x : Int) = (x : Int) := IntWalk.i64_in _ (by omega)
    have s5 : IntKind.i64.wrap (y : Int) = (y : Int) := IntWalk.i64_in _ (by omega)
    have r1 : (2 : Int) ≤ (r : Int) := by omega
    have r2 : (r : Int) ≤ (cr : Int) := by omega
    have r3 : (0 : Int) < (r : Int) := by omega
    have r4 : (1 : Int) < (r : Int) := by omega
    have r5 : 0 < r := by omega
    have r6 : 1 < r := by omega
    have r7 : 2 ≤ r := by omega
    obtain ⟨k, hk⟩ : ∃ k, r - 2 = k := ⟨_, rfl⟩
    unfold FldA
    rw [HS.out.1, hk]
    clear hB hc0 hc1 hx hy hx8 hy8 hq hs hc hm h2
    go_wp2_with fail
    refine still_lit (by kernel_rfl) (by kernel_rfl) ?_
    generalize w.drew = W0 at *
    repeat still_step
    refine wpStill_nil ?_
    clear c0 c1 s1 s2 s3 s4 s5
    have H00 : Hid (Below w.heap.size w W0) := Lib.hid H0D.out
    by_cases e2 : cr = 2
    · have e3 : r = 2 := by have := HR.out; omega
      subst e2
      subst e3
      obtain rfl : k = 0 := by omega
      clear hk
      by_cases hs0 : 0 < s
      · have z1 : (0 : Int) < (s : Int) := by omega
        have HS0 := Lib.hid hs0
        clear hs0
        go_wp2_with fail
        go_ret3
        exact ⟨H00.out, .inl ⟨.inr (by have := HS0.out; omega), rfl⟩⟩
      · have HS0 : Hid (s = 0) := Lib.hid (by omega)
        obtain rfl : s = 0 := by omega
        clear hs0
        go_wp2_with fail
        have hP_0 : Below w.heap.size w W0.drew := H00.out.drew
        refine wp_region_held_drew (S := (Below w.heap.size w)) (by kernel_rfl) ?_ (fun hHeld => ?_)
        · (try dsimp only)
          first | assumption | (apply Below.drew; assumption)
        generalize W0.drew = W1 at *
        refine wpAnyH_take (i := 0) (oi := { dst := some 25, op := Go.Op.move (Go.Operand.tmp 0), type := 33, pos := "wire.go:47", after := #[], guard := none }) (v := ?_) rfl (by kernel_rfl) (by kernel_rfl) (by kernel_rfl) (fun _ _ _ h => h) (Or.inl ⟨by rfl, ?_⟩) (by assumption) ?_
        rotate_left
        · intro wS hSw
          (try dsimp only at hSw)
          go_simp
          (try with_reducible rfl)
        (try simp only [Act.put, List.setIfInBounds_toArray, List.set_cons_zero, List.set_cons_succ])
        refine wpAnyH_take (i := 1) (oi := { dst := some 26, op := Go.Op.move (Go.Operand.tmp 5), type := 3, pos := "wire.go:47", after := #[], guard := none }) (v := ?_) rfl (by kernel_rfl) (by kernel_rfl) (by kernel_rfl) (fun _ _ _ h => h) (Or.inl ⟨by rfl, ?_⟩) (by assumption) ?_
        rotate_left
        · intro wS hSw
          (try dsimp only at hSw)
          go_simp
          (try with_reducible rfl)
        (try simp only [Act.put, List.setIfInBounds_toArray, List.set_cons_zero, List.set_cons_succ])
        refine wpAnyH_take (i := 2) (oi := { dst := some 27, op := Go.Op.slice 33 (Go.Operand.tmp 25) none (some (Go.Operand.tmp 26)) none, type := 33, pos := "wire.go:47", after := #[{ on := 0, ground := Go.Ground.data }, { on := 1, ground := Go.Ground.data }], guard := none }) (v := ?_) rfl (by kernel_rfl) (by kernel_rfl) (by kernel_rfl) (fun _ _ _ h => h) (Or.inl ⟨by rfl, ?_⟩) (by assumption) ?_
        rotate_left
        · intro wS hSw
          (try dsimp only at hSw)
          go_simp
          (try with_reducible rfl)
        (try simp only [Act.put, List.setIfInBounds_toArray, List.set_cons_zero, List.set_cons_succ])
        refine wpAnyH_take (i := 4) (oi := { dst := some 29, op := Go.Op.move (Go.Operand.tmp 0), type := 33, pos := "wire.go:47", after := #[], guard := none }) (v := ?_) rfl (by kernel_rfl) (by kernel_rfl) (by kernel_rfl) (fun _ _ _ h => h) (Or.inl ⟨by rfl, ?_⟩) (by assumption) ?_
        rotate_left
        · intro wS hSw
          (try dsimp only at hSw)
          go_simp
          (try with_reducible rfl)
        (try simp only [Act.put, List.setIfInBounds_toArray, List.set_cons_zero, List.set_cons_succ])
        refine wpAnyH_take (i := 5) (oi := { dst := some 30, op := Go.Op.move (Go.Operand.tmp 5), type := 3, pos := "wire.go:47", after := #[], guard := none }) (v := ?_) rfl (by kernel_rfl) (by kernel_rfl) (by kernel_rfl) (fun _ _ _ h => h) (Or.inl ⟨by rfl, ?_⟩) (by assumption) ?_
        rotate_left
        · intro wS hSw
          (try dsimp only at hSw)
          go_simp
          (try with_reducible rfl)
        (try simp only [Act.put, List.setIfInBounds_toArray, List.set_cons_zero, List.set_cons_succ])
        refine wpAnyH_take (i := 6) (oi := { dst := some 31, op := Go.Op.slice 33 (Go.Operand.tmp 29) (some (Go.Operand.tmp 30)) none none, type := 33, pos := "wire.go:47", after := #[{ on := 4, ground := Go.Ground.data }, { on := 5, ground := Go.Ground.data }], guard := none }) (v := ?_) rfl (by kernel_rfl) (by kernel_rfl) (by kernel_rfl) (fun _ _ _ h => h) (Or.inl ⟨by rfl, ?_⟩) (by assumption) ?_
        rotate_left
        · intro wS hSw
          (try dsimp only at hSw)
          go_simp
          (try with_reducible rfl)
        (try simp only [Act.put, List.setIfInBounds_toArray, List.set_cons_zero, List.set_cons_succ])
        refine wpAnyH_ready (rs := [3]) (by kernel_rfl) (by simp) ?_
        refine AllReadyH.cons (o := { dst := some 28, op := Go.Op.call { callee := Go.Callee.value (Go.Operand.func 101), args := #[Go.Operand.tmp 27], argTypes := #[33] }, type := 33, pos := "wire.go:47", after := #[{ on := 2, ground := Go.Ground.data }], guard := none }) rfl (fun K hK => ?_) AllReadyH.nil
        go_simp
        (refine (clone_any (some ⟨b, off, none⟩) 0 _ (fun t => F (2 + t)) _ (fun k hk => absurd hk (Nat.not_lt_zero _)) (by decide) (fun e => by cases e)).mono ?_; rintro e v_3 ⟨oc, cc, rfl, hBc, hnc, hlc, hmc, hbc, hb_3⟩; have HC : Hid (Bytes v_3 oc 0 (fun t => F (2 + t)) ∧ (oc = none → 0 = 0) ∧ 0 ≤ cc ∧ cc ≤ maxLen ∧ ∀ a, oc = some a → W1.heap.size ≤ a.block) := Lib.hid ⟨hBc, hnc, hlc, hmc, hbc⟩; have hP_3 := hP_0.trans (hb_3.mono hP_0.size); have HSZ : Hid (w.heap.size ≤ W1.heap.size) := Lib.hid hP_0.size; clear hBc hnc hlc hmc hbc hb_3 hP_0; skip)
        (try go_wp2_with fail)
        refine hK.out _ _ ?_ (fun hHeld => ?_)
        · (try dsimp only)
          first | assumption | (apply Below.drew; assumption)
        clear hK K
        (try simp only [Act.put, List.setIfInBounds_toArray, List.set_cons_zero, List.set_cons_succ])
        refine wpAnyH_take (i := 7) (oi := { dst := some 2, op := Go.Op.assign (Go.Operand.tmp 28), type := 33, pos := "wire.go:47", after := #[{ on := 3, ground := Go.Ground.data }, { on := 3, ground := Go.Ground.chain }, { on := 0, ground := Go.Ground.phase }, { on := 1, ground := Go.Ground.phase }, { on := 2, ground := Go.Ground.phase }, { on := 3, ground := Go.Ground.phase }, { on := 4, ground := Go.Ground.textOnly Go.Departure.lateStores }, { on := 5, ground := Go.Ground.textOnly Go.Departure.lateStores }, { on := 6, ground := Go.Ground.textOnly Go.Departure.lateStoresUnsure }], guard := none }) (v := ?_) rfl (by kernel_rfl) (by kernel_rfl) (by kernel_rfl) (fun _ _ _ h => h) (Or.inl ⟨by rfl, ?_⟩) (by assumption) ?_
        rotate_left
        · intro wS hSw
          (try dsimp only at hSw)
          go_simp
          (try with_reducible rfl)
        (try simp only [Act.put, List.setIfInBounds_toArray, List.set_cons_zero, List.set_cons_succ])
        refine wpAnyH_take (i := 8) (oi := { dst := some 3, op := Go.Op.assign (Go.Operand.tmp 31), type := 33, pos := "wire.go:47", after := #[{ on := 6, ground := Go.Ground.data }, { on := 7, ground := Go.Ground.chain }, { on := 0, ground := Go.Ground.phase }, { on := 1, ground := Go.Ground.phase }, { on := 2, ground := Go.Ground.phase }, { on := 3, ground := Go.Ground.phase }, { on := 4, ground := Go.Ground.phase }, { on := 5, ground := Go.Ground.phase }, { on := 6, ground := Go.Ground.phase }, { on := 7, ground := Go.Ground.phase }], guard := none }) (v := ?_) rfl (by kernel_rfl) (by kernel_rfl) (by kernel_rfl) (fun _ _ _ h => h) (Or.inl ⟨by rfl, ?_⟩) (by assumption) ?_
        rotate_left
        · intro wS hSw
          (try dsimp only at hSw)
          go_simp
          (try with_reducible rfl)
        (try simp only [Act.put, List.setIfInBounds_toArray, List.set_cons_zero, List.set_cons_succ])
        refine wpAnyH_take (i := 9) (oi := { dst := some 4, op := Go.Op.assign (Go.Operand.const (Go.Value.bool true)), type := 4, pos := "wire.go:47", after := #[{ on := 8, ground := Go.Ground.chain }, { on := 0, ground := Go.Ground.phase }, { on := 1, ground := Go.Ground.phase }, { on := 2, ground := Go.Ground.phase }, { on := 3, ground := Go.Ground.phase }, { on := 4, ground := Go.Ground.phase }, { on := 5, ground := Go.Ground.phase }, { on := 6, ground := Go.Ground.phase }, { on := 7, ground := Go.Ground.phase }, { on := 8, ground := Go.Ground.phase }], guard := none }) (v := ?_) rfl (by kernel_rfl) (by kernel_rfl) (by kernel_rfl) (fun _ _ _ h => h) (Or.inl ⟨by rfl, ?_⟩) (by assumption) ?_
        rotate_left
        · intro wS hSw
          (try dsimp only at hSw)
          go_simp
          (try with_reducible rfl)
        (try simp only [Act.put, List.setIfInBounds_toArray, List.set_cons_zero, List.set_cons_succ])
        refine wpAnyH_done (by kernel_rfl) ?_ _
        have HO := Lib.hid hP_3
        clear hP_3
        go_wp2_with fail
        go_ret3
        exact ⟨HO.out, oc, cc, some ⟨b, off, none⟩, 0, rfl, HC.out.1, HC.out.2.2.2.1, fun a ha => Nat.le_trans HSZ.out (HC.out.2.2.2.2 a ha), (fun k hk => absurd hk (Nat.not_lt_zero _)), (by unfold maxLen; omega), fun a ha => by first | (cases ha; exact ⟨_, rfl, rfl⟩) | (cases ha; rfl) | (subst ha; exact ⟨_, rfl, rfl⟩)⟩
    · skip
      obtain ⟨c, hcc⟩ : ∃ c, cr - 2 = c := ⟨_, rfl⟩
      have HK : Hid (r - 2 = k ∧ cr - 2 = c ∧ k ≤ c) := Lib.hid (by have := HR.out; omega)
      have HB1 : Hid (∀ w', Below w.heap.size w w' → Bytes w' (some ⟨b, off + 2, none⟩) k (fun t => F (2 + t))) := Lib.hid fun w' h t ht => by
        obtain ⟨a1, b', off', a2, a3⟩ := HB.out.later h (2 + t) (by omega)
        cases a2
        exact ⟨a1, b, off + 2, rfl, by rw [Nat.add_assoc]; exact a3⟩
      have hkr : (r : Int) - 2 = (k : Int) := by omega
      have hk0 : (k : Int) ≤ 9223372036854775807 := by omega
      by_cases hks : k < s
      · have k1 : (k : Int) < (s : Int) := by omega
        have HKS := Lib.hid hks
        clear hks
        go_wp2_with fail
        go_ret3
        exact ⟨H00.out, .inl ⟨.inr (by have := HKS.out; have := HK.out; omega), rfl⟩⟩
      · have k1 : ¬ (k : Int) < (s : Int) := by omega
        have HKS : Hid (s ≤ k) := Lib.hid (by omega)
        have s0 : (0 : Int) ≤ (s : Int) := by omega
        have s6 : (s : Int) ≤ (k : Int) := by omega
        have s7 : (s : Int) ≤ (c : Int) := by have := HK.out; omega
        have s8 : (k : Int) ≤ (c : Int) := by have := HK.out; omega
        have s9 : s ≤ c := by have := HK.out; omega
        have s10 : s ≤ k := by omega
        have s11 : k ≤ c := by have := HK.out; omega
        have s12 : (s : Int) ≤ 9223372036854775807 := by omega
        clear hks
        by_cases ecs : c = s
        · skip
          have HB2 : Hid (∀ w', Below w.heap.size w w' → Bytes w' (some ⟨b, off + 2, none⟩) (k - s) (fun t => F (2 + s + t))) := Lib.hid fun w' h t ht => by
            obtain ⟨a1, b', off', a2, a3⟩ := HB1.out w' h (s + t) (by omega)
            cases a2
            have e9 : 2 + s + t = 2 + (s + t) := by omega
            have e1 : off + 2 + t = off + 2 + (s + t) := by have := HK.out; omega
            refine ⟨by show F (2 + s + t) < 256; rw [e9]; exact a1, b, off + 2, rfl, ?_⟩
            show w'.cell? ⟨b, off + 2 + t, none⟩ = some (.int .u8 (F (2 + s + t) : Nat))
            rw [e1, e9]; exact a3
          go_wp2_with fail
          have hP_0 : Below w.heap.size w W0.drew := H00.out.drew
          refine wp_region_held_drew (S := (Below w.heap.size w)) (by kernel_rfl) ?_ (fun hHeld => ?_)
          · (try dsimp only)
            first | assumption | (apply Below.drew; assumption)
          generalize W0.drew = W1 at *
          refine wpAnyH_take (i := 0) (oi := { dst := some 25, op := Go.Op.move (Go.Operand.tmp 0), type := 33, pos := "wire.go:47", after := #[], guard := none }) (v := ?_) rfl (by kernel_rfl) (by kernel_rfl) (by kernel_rfl) (fun _ _ _ h => h) (Or.inl ⟨by rfl, ?_⟩) (by assumption) ?_
          rotate_left
          · intro wS hSw
            (try dsimp only at hSw)
            go_simp
            (try with_reducible rfl)
          (try simp only [Act.put, List.setIfInBounds_toArray, List.set_cons_zero, List.set_cons_succ])
          refine wpAnyH_take (i := 1) (oi := { dst := some 26, op := Go.Op.move (Go.Operand.tmp 5), type := 3, pos := "wire.go:47", after := #[], guard := none }) (v := ?_) rfl (by kernel_rfl) (by kernel_rfl) (by kernel_rfl) (fun _ _ _ h => h) (Or.inl ⟨by rfl, ?_⟩) (by assumption) ?_
          rotate_left
          · intro wS hSw
            (try dsimp only at hSw)
            go_simp
            (try with_reducible rfl)
          (try simp only [Act.put, List.setIfInBounds_toArray, List.set_cons_zero, List.set_cons_succ])
          refine wpAnyH_take (i := 2) (oi := { dst := some 27, op := Go.Op.slice 33 (Go.Operand.tmp 25) none (some (Go.Operand.tmp 26)) none, type := 33, pos := "wire.go:47", after := #[{ on := 0, ground := Go.Ground.data }, { on := 1, ground := Go.Ground.data }], guard := none }) (v := ?_) rfl (by kernel_rfl) (by kernel_rfl) (by kernel_rfl) (fun _ _ _ h => h) (Or.inl ⟨by rfl, ?_⟩) (by assumption) ?_
          rotate_left
          · intro wS hSw
            (try dsimp only at hSw)
            go_simp
            (try with_reducible rfl)
          (try simp only [Act.put, List.setIfInBounds_toArray, List.set_cons_zero, List.set_cons_succ])
          refine wpAnyH_take (i := 4) (oi := { dst := some 29, op := Go.Op.move (Go.Operand.tmp 0), type := 33, pos := "wire.go:47", after := #[], guard := none }) (v := ?_) rfl (by kernel_rfl) (by kernel_rfl) (by kernel_rfl) (fun _ _ _ h => h) (Or.inl ⟨by rfl, ?_⟩) (by assumption) ?_
          rotate_left
          · intro wS hSw
            (try dsimp only at hSw)
            go_simp
            (try with_reducible rfl)
          (try simp only [Act.put, List.setIfInBounds_toArray, List.set_cons_zero, List.set_cons_succ])
          refine wpAnyH_take (i := 5) (oi := { dst := some 30, op := Go.Op.move (Go.Operand.tmp 5), type := 3, pos := "wire.go:47", after := #[], guard := none }) (v := ?_) rfl (by kernel_rfl) (by kernel_rfl) (by kernel_rfl) (fun _ _ _ h => h) (Or.inl ⟨by rfl, ?_⟩) (by assumption) ?_
          rotate_left
          · intro wS hSw
            (try dsimp only at hSw)
            go_simp
            (try with_reducible rfl)
          (try simp only [Act.put, List.setIfInBounds_toArray, List.set_cons_zero, List.set_cons_succ])
          refine wpAnyH_take (i := 6) (oi := { dst := some 31, op := Go.Op.slice 33 (Go.Operand.tmp 29) (some (Go.Operand.tmp 30)) none none, type := 33, pos := "wire.go:47", after := #[{ on := 4, ground := Go.Ground.data }, { on := 5, ground := Go.Ground.data }], guard := none }) (v := ?_) rfl (by kernel_rfl) (by kernel_rfl) (by kernel_rfl) (fun _ _ _ h => h) (Or.inl ⟨by rfl, ?_⟩) (by assumption) ?_
          rotate_left
          · intro wS hSw
            (try dsimp only at hSw)
            go_simp
            (try with_reducible rfl)
          (try simp only [Act.put, List.setIfInBounds_toArray, List.set_cons_zero, List.set_cons_succ])
          refine wpAnyH_ready (rs := [3]) (by kernel_rfl) (by simp) ?_
          refine AllReadyH.cons (o := { dst := some 28, op := Go.Op.call { callee := Go.Callee.value (Go.Operand.func 101), args := #[Go.Operand.tmp 27], argTypes := #[33] }, type := 33, pos := "wire.go:47", after := #[{ on := 2, ground := Go.Ground.data }], guard := none }) rfl (fun K hK => ?_) AllReadyH.nil
          go_simp
          (refine (clone_any (some ⟨b, off + 2, none⟩) s _ (fun t => F (2 + t)) _ ((HB1.out _ hP_0).mono HKS.out) (by have := HS.out; omega) (fun e => by cases e)).mono ?_; rintro e v_1 ⟨oc, cc, rfl, hBc, hnc, hlc, hmc, hbc, hb_1⟩; have HC : Hid (Bytes v_1 oc s (fun t => F (2 + t)) ∧ (oc = none → s = 0) ∧ s ≤ cc ∧ cc ≤ maxLen ∧ ∀ a, oc = some a → W1.heap.size ≤ a.block) := Lib.hid ⟨hBc, hnc, hlc, hmc, hbc⟩; have hP_1 := hP_0.trans (hb_1.mono hP_0.size); have HSZ : Hid (w.heap.size ≤ W1.heap.size) := Lib.hid hP_0.size; clear hBc hnc hlc hmc hbc hb_1 hP_0; skip)
          (try go_wp2_with fail)
          refine hK.out _ _ ?_ (fun hHeld => ?_)
          · (try dsimp only)
            first | assumption | (apply Below.drew; assumption)
          clear hK K
          (try simp only [Act.put, List.setIfInBounds_toArray, List.set_cons_zero, List.set_cons_succ])
          refine wpAnyH_take (i := 7) (oi := { dst := some 2, op := Go.Op.assign (Go.Operand.tmp 28), type := 33, pos := "wire.go:47", after := #[{ on := 3, ground := Go.Ground.data }, { on := 3, ground := Go.Ground.chain }, { on := 0, ground := Go.Ground.phase }, { on := 1, ground := Go.Ground.phase }, { on := 2, ground := Go.Ground.phase }, { on := 3, ground := Go.Ground.phase }, { on := 4, ground := Go.Ground.textOnly Go.Departure.lateStores }, { on := 5, ground := Go.Ground.textOnly Go.Departure.lateStores }, { on := 6, ground := Go.Ground.textOnly Go.Departure.lateStoresUnsure }], guard := none }) (v := ?_) rfl (by kernel_rfl) (by kernel_rfl) (by kernel_rfl) (fun _ _ _ h => h) (Or.inl ⟨by rfl, ?_⟩) (by assumption) ?_
          rotate_left
          · intro wS hSw
            (try dsimp only at hSw)
            go_simp
            (try with_reducible rfl)
          (try simp only [Act.put, List.setIfInBounds_toArray, List.set_cons_zero, List.set_cons_succ])
          refine wpAnyH_take (i := 8) (oi := { dst := some 3, op := Go.Op.assign (Go.Operand.tmp 31), type := 33, pos := "wire.go:47", after := #[{ on := 6, ground := Go.Ground.data }, { on := 7, ground := Go.Ground.chain }, { on := 0, ground := Go.Ground.phase }, { on := 1, ground := Go.Ground.phase }, { on := 2, ground := Go.Ground.phase }, { on := 3, ground := Go.Ground.phase }, { on := 4, ground := Go.Ground.phase }, { on := 5, ground := Go.Ground.phase }, { on := 6, ground := Go.Ground.phase }, { on := 7, ground := Go.Ground.phase }], guard := none }) (v := ?_) rfl (by kernel_rfl) (by kernel_rfl) (by kernel_rfl) (fun _ _ _ h => h) (Or.inl ⟨by rfl, ?_⟩) (by assumption) ?_
          rotate_left
          · intro wS hSw
            (try dsimp only at hSw)
            go_simp
            (try with_reducible rfl)
          (try simp only [Act.put, List.setIfInBounds_toArray, List.set_cons_zero, List.set_cons_succ])
          refine wpAnyH_take (i := 9) (oi := { dst := some 4, op := Go.Op.assign (Go.Operand.const (Go.Value.bool true)), type := 4, pos := "wire.go:47", after := #[{ on := 8, ground := Go.Ground.chain }, { on := 0, ground := Go.Ground.phase }, { on := 1, ground := Go.Ground.phase }, { on := 2, ground := Go.Ground.phase }, { on := 3, ground := Go.Ground.phase }, { on := 4, ground := Go.Ground.phase }, { on := 5, ground := Go.Ground.phase }, { on := 6, ground := Go.Ground.phase }, { on := 7, ground := Go.Ground.phase }, { on := 8, ground := Go.Ground.phase }], guard := none }) (v := ?_) rfl (by kernel_rfl) (by kernel_rfl) (by kernel_rfl) (fun _ _ _ h => h) (Or.inl ⟨by rfl, ?_⟩) (by assumption) ?_
          rotate_left
          · intro wS hSw
            (try dsimp only at hSw)
            go_simp
            (try with_reducible rfl)
          (try simp only [Act.put, List.setIfInBounds_toArray, List.set_cons_zero, List.set_cons_succ])
          refine wpAnyH_done (by kernel_rfl) ?_ _
          have HO := Lib.hid hP_1
          clear hP_1
          go_wp2_with fail
          go_ret3
          exact ⟨HO.out, .inr ⟨HR.out.1, by have := HK.out; have := HKS.out; omega, oc, cc, some ⟨b, off + 2, none⟩, 0, rfl, HC.out.1, HC.out.2.1, HC.out.2.2.1, HC.out.2.2.2.1, fun a ha => Nat.le_trans HSZ.out (HC.out.2.2.2.2 a ha), HB2.out _ HO.out, by have := HK.out; have := HKS.out; have := HR.out; omega, by have := HK.out; have := HR.out; unfold maxLen; omega, fun a ha => by first | (cases ha; exact ⟨_, rfl, rfl⟩) | (cases ha; rfl) | (subst ha; exact ⟨_, rfl, rfl⟩)⟩⟩
        · skip
          have HB2 : Hid (∀ w', Below w.heap.size w w' → Bytes w' (some ⟨b, off + 2 + s, none⟩) (k - s) (fun t => F (2 + s + t))) := Lib.hid fun w' h t ht => by
            obtain ⟨a1, b', off', a2, a3⟩ := HB1.out w' h (s + t) (by omega)
            cases a2
            have e9 : 2 + s + t = 2 + (s + t) := by omega
            have e1 : off + 2 + s + t = off + 2 + (s + t) := by omega
            refine ⟨by show F (2 + s + t) < 256; rw [e9]; exact a1, b, off + 2 + s, rfl, ?_⟩
            show w'.cell? ⟨b, off + 2 + s + t, none⟩ = some (.int .u8 (F (2 + s + t) : Nat))
            rw [e1, e9]; exact a3
          go_wp2_with fail
          have hP_0 : Below w.heap.size w W0.drew := H00.out.drew
          refine wp_region_held_drew (S := (Below w.heap.size w)) (by kernel_rfl) ?_ (fun hHeld => ?_)
          · (try dsimp only)
            first | assumption | (apply Below.drew; assumption)
          generalize W0.drew = W1 at *
          refine wpAnyH_take (i := 0) (oi := { dst := some 25, op := Go.Op.move (Go.Operand.tmp 0), type := 33, pos := "wire.go:47", after := #[], guard := none }) (v := ?_) rfl (by kernel_rfl) (by kernel_rfl) (by kernel_rfl) (fun _ _ _ h => h) (Or.inl ⟨by rfl, ?_⟩) (by assumption) ?_
          rotate_left
          · intro wS hSw
            (try dsimp only at hSw)
            go_simp
            (try with_reducible rfl)
          (try simp only [Act.put, List.setIfInBounds_toArray, List.set_cons_zero, List.set_cons_succ])
          refine wpAnyH_take (i := 1) (oi := { dst := some 26, op := Go.Op.move (Go.Operand.tmp 5), type := 3, pos := "wire.go:47", after := #[], guard := none }) (v := ?_) rfl (by kernel_rfl) (by kernel_rfl) (by kernel_rfl) (fun _ _ _ h => h) (Or.inl ⟨by rfl, ?_⟩) (by assumption) ?_
          rotate_left
          · intro wS hSw
            (try dsimp only at hSw)
            go_simp
            (try with_reducible rfl)
          (try simp only [Act.put, List.setIfInBounds_toArray, List.set_cons_zero, List.set_cons_succ])
          refine wpAnyH_take (i := 2) (oi := { dst := some 27, op := Go.Op.slice 33 (Go.Operand.tmp 25) none (some (Go.Operand.tmp 26)) none, type := 33, pos := "wire.go:47", after := #[{ on := 0, ground := Go.Ground.data }, { on := 1, ground := Go.Ground.data }], guard := none }) (v := ?_) rfl (by kernel_rfl) (by kernel_rfl) (by kernel_rfl) (fun _ _ _ h => h) (Or.inl ⟨by rfl, ?_⟩) (by assumption) ?_
          rotate_left
          · intro wS hSw
            (try dsimp only at hSw)
            go_simp
            (try with_reducible rfl)
          (try simp only [Act.put, List.setIfInBounds_toArray, List.set_cons_zero, List.set_cons_succ])
          refine wpAnyH_take (i := 4) (oi := { dst := some 29, op := Go.Op.move (Go.Operand.tmp 0), type := 33, pos := "wire.go:47", after := #[], guard := none }) (v := ?_) rfl (by kernel_rfl) (by kernel_rfl) (by kernel_rfl) (fun _ _ _ h => h) (Or.inl ⟨by rfl, ?_⟩) (by assumption) ?_
          rotate_left
          · intro wS hSw
            (try dsimp only at hSw)
            go_simp
            (try with_reducible rfl)
          (try simp only [Act.put, List.setIfInBounds_toArray, List.set_cons_zero, List.set_cons_succ])
          refine wpAnyH_take (i := 5) (oi := { dst := some 30, op := Go.Op.move (Go.Operand.tmp 5), type := 3, pos := "wire.go:47", after := #[], guard := none }) (v := ?_) rfl (by kernel_rfl) (by kernel_rfl) (by kernel_rfl) (fun _ _ _ h => h) (Or.inl ⟨by rfl, ?_⟩) (by assumption) ?_
          rotate_left
          · intro wS hSw
            (try dsimp only at hSw)
            go_simp
            (try with_reducible rfl)
          (try simp only [Act.put, List.setIfInBounds_toArray, List.set_cons_zero, List.set_cons_succ])
          refine wpAnyH_take (i := 6) (oi := { dst := some 31, op := Go.Op.slice 33 (Go.Operand.tmp 29) (some (Go.Operand.tmp 30)) none none, type := 33, pos := "wire.go:47", after := #[{ on := 4, ground := Go.Ground.data }, { on := 5, ground := Go.Ground.data }], guard := none }) (v := ?_) rfl (by kernel_rfl) (by kernel_rfl) (by kernel_rfl) (fun _ _ _ h => h) (Or.inl ⟨by rfl, ?_⟩) (by assumption) ?_
          rotate_left
          · intro wS hSw
            (try dsimp only at hSw)
            go_simp
            (try with_reducible rfl)
          (try simp only [Act.put, List.setIfInBounds_toArray, List.set_cons_zero, List.set_cons_succ])
          refine wpAnyH_ready (rs := [3]) (by kernel_rfl) (by simp) ?_
          refine AllReadyH.cons (o := { dst := some 28, op := Go.Op.call { callee := Go.Callee.value (Go.Operand.func 101), args := #[Go.Operand.tmp 27], argTypes := #[33] }, type := 33, pos := "wire.go:47", after := #[{ on := 2, ground := Go.Ground.data }], guard := none }) rfl (fun K hK => ?_) AllReadyH.nil
          go_simp
          (refine (clone_any (some ⟨b, off + 2, none⟩) s _ (fun t => F (2 + t)) _ ((HB1.out _ hP_0).mono HKS.out) (by have := HS.out; omega) (fun e => by cases e)).mono ?_; rintro e v_2 ⟨oc, cc, rfl, hBc, hnc, hlc, hmc, hbc, hb_2⟩; have HC : Hid (Bytes v_2 oc s (fun t => F (2 + t)) ∧ (oc = none → s = 0) ∧ s ≤ cc ∧ cc ≤ maxLen ∧ ∀ a, oc = some a → W1.heap.size ≤ a.block) := Lib.hid ⟨hBc, hnc, hlc, hmc, hbc⟩; have hP_2 := hP_0.trans (hb_2.mono hP_0.size); have HSZ : Hid (w.heap.size ≤ W1.heap.size) := Lib.hid hP_0.size; clear hBc hnc hlc hmc hbc hb_2 hP_0; skip)
          (try go_wp2_with fail)
          refine hK.out _ _ ?_ (fun hHeld => ?_)
          · (try dsimp only)
            first | assumption | (apply Below.drew; assumption)
          clear hK K
          (try simp only [Act.put, List.setIfInBounds_toArray, List.set_cons_zero, List.set_cons_succ])
          refine wpAnyH_take (i := 7) (oi := { dst := some 2, op := Go.Op.assign (Go.Operand.tmp 28), type := 33, pos := "wire.go:47", after := #[{ on := 3, ground := Go.Ground.data }, { on := 3, ground := Go.Ground.chain }, { on := 0, ground := Go.Ground.phase }, { on := 1, ground := Go.Ground.phase }, { on := 2, ground := Go.Ground.phase }, { on := 3, ground := Go.Ground.phase }, { on := 4, ground := Go.Ground.textOnly Go.Departure.lateStores }, { on := 5, ground := Go.Ground.textOnly Go.Departure.lateStores }, { on := 6, ground := Go.Ground.textOnly Go.Departure.lateStoresUnsure }], guard := none }) (v := ?_) rfl (by kernel_rfl) (by kernel_rfl) (by kernel_rfl) (fun _ _ _ h => h) (Or.inl ⟨by rfl, ?_⟩) (by assumption) ?_
          rotate_left
          · intro wS hSw
            (try dsimp only at hSw)
            go_simp
            (try with_reducible rfl)
          (try simp only [Act.put, List.setIfInBounds_toArray, List.set_cons_zero, List.set_cons_succ])
          refine wpAnyH_take (i := 8) (oi := { dst := some 3, op := Go.Op.assign (Go.Operand.tmp 31), type := 33, pos := "wire.go:47", after := #[{ on := 6, ground := Go.Ground.data }, { on := 7, ground := Go.Ground.chain }, { on := 0, ground := Go.Ground.phase }, { on := 1, ground := Go.Ground.phase }, { on := 2, ground := Go.Ground.phase }, { on := 3, ground := Go.Ground.phase }, { on := 4, ground := Go.Ground.phase }, { on := 5, ground := Go.Ground.phase }, { on := 6, ground := Go.Ground.phase }, { on := 7, ground := Go.Ground.phase }], guard := none }) (v := ?_) rfl (by kernel_rfl) (by kernel_rfl) (by kernel_rfl) (fun _ _ _ h => h) (Or.inl ⟨by rfl, ?_⟩) (by assumption) ?_
          rotate_left
          · intro wS hSw
            (try dsimp only at hSw)
            go_simp
            (try with_reducible rfl)
          (try simp only [Act.put, List.setIfInBounds_toArray, List.set_cons_zero, List.set_cons_succ])
          refine wpAnyH_take (i := 9) (oi := { dst := some 4, op := Go.Op.assign (Go.Operand.const (Go.Value.bool true)), type := 4, pos := "wire.go:47", after := #[{ on := 8, ground := Go.Ground.chain }, { on := 0, ground := Go.Ground.phase }, { on := 1, ground := Go.Ground.phase }, { on := 2, ground := Go.Ground.phase }, { on := 3, ground := Go.Ground.phase }, { on := 4, ground := Go.Ground.phase }, { on := 5, ground := Go.Ground.phase }, { on := 6, ground := Go.Ground.phase }, { on := 7, ground := Go.Ground.phase }, { on := 8, ground := Go.Ground.phase }], guard := none }) (v := ?_) rfl (by kernel_rfl) (by kernel_rfl) (by kernel_rfl) (fun _ _ _ h => h) (Or.inl ⟨by rfl, ?_⟩) (by assumption) ?_
          rotate_left
          · intro wS hSw
            (try dsimp only at hSw)
            go_simp
            (try with_reducible rfl)
          (try simp only [Act.put, List.setIfInBounds_toArray, List.set_cons_zero, List.set_cons_succ])
          refine wpAnyH_done (by kernel_rfl) ?_ _
          have HO := Lib.hid hP_2
          clear hP_2
          go_wp2_with fail
          go_ret3
          exact ⟨HO.out, .inr ⟨HR.out.1, by have := HK.out; have := HKS.out; omega, oc, cc, some ⟨b, off + 2 + s, none⟩, c - s, rfl, HC.out.1, HC.out.2.1, HC.out.2.2.1, HC.out.2.2.2.1, fun a ha => Nat.le_trans HSZ.out (HC.out.2.2.2.2 a ha), HB2.out _ HO.out, by have := HK.out; have := HKS.out; have := HR.out; omega, by have := HK.out; have := HR.out; unfold maxLen; omega, fun a ha => by first | (cases ha; exact ⟨_, rfl, rfl⟩) | (cases ha; rfl) | (subst ha; exact ⟨_, rfl, rfl⟩)⟩⟩
end Go.Proofs.YtmabhjifldafaaaDoor
