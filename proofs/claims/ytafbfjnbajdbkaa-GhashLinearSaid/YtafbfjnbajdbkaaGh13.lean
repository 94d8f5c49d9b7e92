/- Sums of bytes with a block are linear. -/
import Derived.Test.YtafbfjnbajdbkaaGh12
import Derived.Test.YtafbfjnbajdbkaaApo
namespace Go.Proofs.Ytafbfjnbajdbkaa
set_option linter.unusedVariables false
set_option linter.unusedSimpArgs false
open Go.RowKit

theorem lastF_same (y f g : Nat → Nat) (n : Nat) (hf : ∀ i, i < n → f i < 256) (hg : ∀ i, i < n → g i < 256) (hy : ∀ i, i < 16 → y i < 256) :
    addF (hashF y (fun _ => 0) 0 f n) (hashF y (fun _ => 0) 0 g n) = addF (hashF y (fun _ => 0) 0 (addF f g) n) (hashF y (fun _ => 0) 0 (fun _ => 0) n) := by
  have z0 : ∀ i : Nat, i < 16 → (fun _ => 0 : Nat → Nat) i < 256 := fun _ _ => Nat.zero_lt_succ _
  have zn : ∀ i : Nat, i < n → (fun _ => 0 : Nat → Nat) i < 256 := fun _ _ => Nat.zero_lt_succ _
  have hag : ∀ i, i < n → addF f g i < 256 := fun i hi => Nat.xor_lt_two_pow (n := 8) (hf i hi) (hg i hi)
  have tw : ∀ q : Nat → Nat, twoF y (fun _ => 0) 0 q n = thrF y q n (fun _ => 0) ((n + 15) / 16) := fun q => rfl
  have tl : ∀ q : Nat → Nat, ∀ i, i < 16 → thrF y q n (fun _ => 0) ((n + 15) / 16) i < 256 := fun q => thrF_lt z0 _
  have bl : ∀ i, i < 16 → blkF (0 * 8) (n * 8) i < 256 := fun i _ => blkF_lt _ _ i
  unfold hashF
  rw [tw, tw, tw, tw, ← mulF_add (addF_lt (tl f) bl) (addF_lt (tl g) bl), ← mulF_add (addF_lt (tl (addF f g)) bl) (addF_lt (tl (fun _ => 0)) bl)]
  congr 1
  rw [addF_four, addF_four (thrF y (addF f g) n (fun _ => 0) ((n + 15) / 16))]
  congr 1
  have e1 := thrF_add (h := y) hf hg z0 z0 ((n + 15) / 16)
  have e2 := thrF_add (h := y) hag zn z0 z0 ((n + 15) / 16)
  rw [← e1, ← e2]
  have e3 : addF (addF f g) (fun _ => 0) = addF f g := funext fun i => Nat.xor_zero _
  rw [e3]
/-- Behind k bytes put together. -/
def LI (w0 : World) (D : Array Value) (f g : Nat → Nat) (k : Nat) (v : Value) (wr : World) : Prop := Grow wr (w0.heap.size + 1 + 1) v k (addF f g) ∧ Blk wr (w0.heap.size + 1) D 26 ∧ Below w0.heap.size w0 wr ∧ w0.heap.size + 1 + 1 ≤ wr.heap.size
/-- Behind both sums. -/
def LR1 (w0 : World) (X Y : Array Value) (v10 v11 : Value) (wr : World) : Prop := ∃ g10 g11, v10 = .pointer (some ⟨g10, 0, none⟩) ∧ v11 = .pointer (some ⟨g11, 0, none⟩) ∧ Blk wr g10 X 26 ∧ Blk wr g11 Y 26 ∧ Below w0.heap.size w0 wr
set_option maxRecDepth 100000 in
set_option maxHeartbeats 8000000 in
theorem linear_sure (y : Nat → Nat) (oa ob : Option Addr) (n m cn cm : Nat) (w : World) (hc : 200 < n ∨ m ≠ n) :
    Calls Try.prog 5 #[.agg (rowC 16 y).toArray, .slice oa n cn, .slice ob m cm] w fun e w' => e = .returned (.bool true) ∧ Below w.heap.size w w' := by
  obtain ⟨D, hD⟩ : ∃ C, (rowC 16 y).toArray = C := ⟨_, rfl⟩
  rw [hD]; clear hD
  have HB := Lib.hid ((Below.refl w.heap.size w).alloc (Nat.le_refl _) (.cells D 22))
  by_cases h : 200 < n
  · have h1 : (200 : Int) < (n : Int) := by omega
    clear hc
    go_enter Try.func5, Try.ntmps5
    go_wp2_with fail
    refine (sure_any _).mono ?_
    rintro e w' ⟨rfl, hb⟩
    have HB2 := Lib.hid (HB.out.trans (hb.mono HB.out.size))
    clear hb
    go_wp2_with fail
    go_ret
    exact ⟨rfl, HB2.out⟩
  · have h1 : ¬ (200 : Int) < (n : Int) := by omega
    have h3 : m ≠ n := hc.resolve_left h
    have h2 : ((m : Int) != (n : Int)) = true := by rw [bne_iff_ne]; omega
    clear h3
    clear hc h
    go_enter Try.func5, Try.ntmps5
    go_wp2_with fail
    refine (sure_any _).mono ?_
    rintro e w' ⟨rfl, hb⟩
    have HB2 := Lib.hid (HB.out.trans (hb.mono HB.out.size))
    clear hb
    go_wp2_with fail
    go_ret
    exact ⟨rfl, HB2.out⟩
set_option maxRecDepth 100000 in
set_option maxHeartbeats 8000000 in
theorem linear_main (y f g : Nat → Nat) (oa ob : Option Addr) (n cn cm : Nat) (w : World) (hy : ∀ i, i < 16 → y i < 256) (ha : Bytes w oa n f) (hb : Bytes w ob n g) (hnc : n ≤ cn) (hmc : n ≤ cm) (hcn : cn ≤ maxLen) (hcm : cm ≤ maxLen) (hn : n ≤ 200) :
    Calls Try.prog 5 #[.agg (rowC 16 y).toArray, .slice oa n cn, .slice ob n cm] w fun e w' => e = .returned (.bool true) ∧ Below w.heap.size w w' := by
  obtain ⟨D, hD⟩ : ∃ C, (rowC 16 y).toArray = C := ⟨_, rfl⟩
  obtain ⟨X1, hX1⟩ : ∃ C, (rowC 16 (hashF y (fun _ => 0) 0 f n)).toArray = C := ⟨_, rfl⟩
  obtain ⟨X2, hX2⟩ : ∃ C, (rowC 16 (hashF y (fun _ => 0) 0 g n)).toArray = C := ⟨_, rfl⟩
  obtain ⟨X3, hX3⟩ : ∃ C, (rowC 16 (hashF y (fun _ => 0) 0 (addF f g) n)).toArray = C := ⟨_, rfl⟩
  obtain ⟨X4, hX4⟩ : ∃ C, (rowC 16 (hashF y (fun _ => 0) 0 (fun _ => 0) n)).toArray = C := ⟨_, rfl⟩
  obtain ⟨S1, hS1⟩ : ∃ C, (rowC 16 (addF (hashF y (fun _ => 0) 0 f n) (hashF y (fun _ => 0) 0 g n))).toArray = C := ⟨_, rfl⟩
  have b0 : ∀ w', Bytes w' none 0 (fun _ => 0) := fun w' i hi => absurd hi (Nat.not_lt_zero i)
  have z9 : (0 : Nat) ≤ maxLen := Nat.zero_le _
  have hl : ∀ p q r : Nat → Nat, ∀ k i, i < 16 → hashF p q 0 r k i < 256 := fun p q r k i _ => mulF_lt _ _ i
  have HH1 : Hid (∀ w', Below w.heap.size w w' → Calls Try.prog 11 #[.agg D, .slice none 0 0, .slice oa n cn] w' fun e w'' => e = .returned (.agg X1) ∧ Below w'.heap.size w' w'') := Lib.hid fun w' hb' => by
    rw [← hD, ← hX1]; exact hash_any y (fun _ => 0) f none oa 0 n 0 cn w' hy (b0 w') (ha.later hb') (Nat.le_refl _) hnc z9 hcn (by omega) (by omega)
  have HH2 : Hid (∀ w', Below w.heap.size w w' → Calls Try.prog 11 #[.agg D, .slice none 0 0, .slice ob n cm] w' fun e w'' => e = .returned (.agg X2) ∧ Below w'.heap.size w' w'') := Lib.hid fun w' hb' => by
    rw [← hD, ← hX2]; exact hash_any y (fun _ => 0) g none ob 0 n 0 cm w' hy (b0 w') (hb.later hb') (Nat.le_refl _) hmc z9 hcm (by omega) (by omega)
  have HH3 : Hid (∀ w' ov cv, Bytes w' ov n (addF f g) → n ≤ cv → cv ≤ maxLen → Calls Try.prog 11 #[.agg D, .slice none 0 0, .slice ov n cv] w' fun e w'' => e = .returned (.agg X3) ∧ Below w'.heap.size w' w'') := Lib.hid fun w' ov cv hB h1 h2 => by
    rw [← hD, ← hX3]; exact hash_any y (fun _ => 0) (addF f g) none ov 0 n 0 cv w' hy (b0 w') hB (Nat.le_refl _) h1 z9 h2 (by omega) (by omega)
  have HH4 : Hid (∀ w' ov, Bytes w' ov n (fun _ => 0) → Calls Try.prog 11 #[.agg D, .slice none 0 0, .slice ov n n] w' fun e w'' => e = .returned (.agg X4) ∧ Below w'.heap.size w' w'') := Lib.hid fun w' ov hB => by
    rw [← hD, ← hX4]; exact hash_any y (fun _ => 0) (fun _ => 0) none ov 0 n 0 n w' hy (b0 w') hB (Nat.le_refl _) (Nat.le_refl _) z9 (by unfold maxLen; omega) (by omega) (by omega)
  have HA1 := call2 hX1 hX2 hS1 fun w => gadd_any _ _ w (hl _ _ _ _) (hl _ _ _ _)
  have HA2 := call2 hX3 hX4 (show (rowC 16 (addF (hashF y (fun _ => 0) 0 (addF f g) n) (hashF y (fun _ => 0) 0 (fun _ => 0) n))).toArray = S1 by rw [← lastF_same y f g n (fun i hi => (ha i hi).1) (fun i hi => (hb i hi).1) hy]; exact hS1) fun w => gadd_any _ _ w (hl _ _ _ _) (hl _ _ _ _)
  have HE := eq2 hS1 hS1 (eqF_refl _)
  have HID : Hid ((Try.prog.info? 26).map (·.size) = some D.size) := Lib.hid (hD ▸ info16 _)
  have HI1 : Hid ((Try.prog.info? 26).map (·.size) = some X1.size) := Lib.hid (hX1 ▸ info16 _)
  have HI2 : Hid ((Try.prog.info? 26).map (·.size) = some X2.size) := Lib.hid (hX2 ▸ info16 _)
  have HJD : Hid ((Try.prog.info? 22).map (·.size) = some D.size) := Lib.hid (hD ▸ info16a _)
  have HCD : Hid (∃ f, D = (rowC 16 f).toArray) := Lib.hid ⟨_, hD.symm⟩
  have HC1 : Hid (∃ f, X1 = (rowC 16 f).toArray) := Lib.hid ⟨_, hX1.symm⟩
  have HC2 : Hid (∃ f, X2 = (rowC 16 f).toArray) := Lib.hid ⟨_, hX2.symm⟩
  have HC0 : Hid (∃ f, zero16 = (rowC 16 f).toArray) := Lib.hid ⟨_, rfl⟩
  have HFA := Lib.hid ha
  have HFB := Lib.hid hb
  have n0 : ¬ (200 : Int) < (n : Int) := by omega
  have n1 : (n : Int) ≤ 200 := by omega
  have hz := zero16_run
  rw [hD]
  obtain ⟨w1, hw1⟩ : ∃ q, (w.alloc (.cells D 22)).alloc (.cells zero16 26) = q := ⟨_, rfl⟩
  obtain ⟨w2, hw2⟩ : ∃ q, w1.setCells (w.heap.size + 1) 0 D.toList = q := ⟨_, rfl⟩
  have hA1 : Blk w1 w.heap.size D 22 := by rw [← hw1]; exact (Blk.new w _ _).alloc _
  have hB1 : Blk w1 (w.heap.size + 1) zero16 26 := by rw [← hw1]; simpa using Blk.new (w.alloc (.cells D 22)) zero16 26
  have hO1 : Below w.heap.size w w1 := by rw [← hw1]; exact ((Below.refl _ _).alloc (Nat.le_refl _) _).alloc (by simp) _
  have hB2 : Blk w2 (w.heap.size + 1) D 26 := by rw [← hw2]; exact Blk.store16 hB1 HCD.out HC0.out
  have hO2 : Below w.heap.size w w2 := by rw [← hw2]; exact Below.set16 (g := w.heap.size + 1) hO1 (by omega) hO1.size _
  have HA0 := Lib.hid hA1
  have HB0 := Lib.hid hB1
  have HL0 : Hid (LI w D f g 0 (.slice none 0 0) w2) := Lib.hid ⟨Grow.nil _ _ _, hB2, hO2, Blk.lt hB2⟩
  clear hA1 hB1 hO1 hB2 hO2 hD hX1 hX2 hX3 hX4 hS1 b0 z9 hl hy ha hb hnc hmc hcn hcm
  have HA9 : Hid (Blk (w.alloc (.cells D 22)) w.heap.size D 22) := Lib.hid (Blk.new _ _ _)
  go_enter Try.func5, Try.ntmps5
  go_wp2_with (first
    | (refine wpList_load_row rfl 22 (.tmp 3) rfl w.heap.size rfl 22 D (0, 0) _ HA9.out Try.underlying22 rfl HJD.out ?_)
    | (refine wpList_store16 rfl (.tmp 7) (.tmp 23) rfl (w.heap.size + 1) rfl D zero16 rfl HB0.out HCD.out HC0.out ?_))
  clear HA9 HA0 HB0
  go_loopw [8, 9] (fun v i wr => ∃ k : Nat, k ≤ n ∧ i = .int .i64 (k : Int) ∧ LI w D f g k v wr) (fun _ i _ => n - (intOf i).toNat)
  case atStart => exact ⟨0, Nat.zero_le _, rfl, hw2 ▸ HL0.out⟩
  case round =>
    clear hw1 hw2 HL0
    obtain ⟨k, hk, rfl, hG, hB, hO, hs⟩ := hrel
    by_cases hlt : k < n
    · obtain ⟨hfk, b1, o1, rfl, hc1⟩ := HFA.out k hlt
      obtain ⟨hgk, b2, o2, rfl, hc2⟩ := HFB.out k hlt
      have k0 : (0 : Int) ≤ (k : Int) := by omega
      have k1 : (k : Int) < (n : Int) := by omega
      have e1 : bits .xor .u8 (f k : Int) (g k : Int) = ((f k ^^^ g k : Nat) : Int) := u8_xor_nat _ _ hfk hgk
      have hr : f k ^^^ g k < 256 := Nat.xor_lt_two_pow (n := 8) hfk hgk
      have HR0 : Hid (f k ^^^ g k = addF f g k) := Lib.hid rfl
      generalize f k ^^^ g k = r at *
      generalize f k = p at *
      generalize g k = q at *
      have HC1 := Lib.hid hc1
      have HC2 := Lib.hid hc2
      have HR := Lib.hid hr
      have HGk := Lib.hid hG
      have HBk := Lib.hid hB
      have HOk := Lib.hid hO
      have HSk := Lib.hid hs
      clear hc1 hc2 hr hG hB hO hs hfk hgk
      go_wp2_with fail
      have hG_0 := HGk.out.drew
      have hD_0 := Blk.drew HBk.out
      have hO_0 := HOk.out.drew
      have hs_0 : w.heap.size + 1 + 1 ≤ wr.drew.heap.size := HSk.out
      clear HGk HBk HOk HSk
      refine wp_region_held_drew (S := (Below w.heap.size w)) (by kernel_rfl) ?_ (fun hHeld => ?_)
      · (try dsimp only)
        first | assumption | (apply Below.drew; assumption)
      generalize wr.drew = w5 at *
      refine wpAnyH_take (i := 0) (oi := { dst := some 30, op := Go.Op.move (Go.Operand.tmp 8), type := 24, pos := "law.go:44", after := #[], guard := none }) (v := ?_) rfl (by kernel_rfl) (by kernel_rfl) (by kernel_rfl) (fun _ _ _ h => h) (Or.inl ⟨by rfl, ?_⟩) (by assumption) ?_
      rotate_left
      · intro w hSw
        (try dsimp only at hSw)
        go_simp
        (try with_reducible rfl)
      (try simp only [Act.put, List.setIfInBounds_toArray, List.set_cons_zero, List.set_cons_succ])
      refine wpAnyH_take (i := 1) (oi := { dst := some 31, op := Go.Op.move (Go.Operand.tmp 1), type := 24, pos := "law.go:44", after := #[], guard := none }) (v := ?_) rfl (by kernel_rfl) (by kernel_rfl) (by kernel_rfl) (fun _ _ _ h => h) (Or.inl ⟨by rfl, ?_⟩) (by assumption) ?_
      rotate_left
      · intro w hSw
        (try dsimp only at hSw)
        go_simp
        (try with_reducible rfl)
      (try simp only [Act.put, List.setIfInBounds_toArray, List.set_cons_zero, List.set_cons_succ])
      refine wpAnyH_take (i := 2) (oi := { dst := some 32, op := Go.Op.move (Go.Operand.tmp 9), type := 3, pos := "law.go:44", after := #[], guard := none }) (v := ?_) rfl (by kernel_rfl) (by kernel_rfl) (by kernel_rfl) (fun _ _ _ h => h) (Or.inl ⟨by rfl, ?_⟩) (by assumption) ?_
      rotate_left
      · intro w hSw
        (try dsimp only at hSw)
        go_simp
        (try with_reducible rfl)
      (try simp only [Act.put, List.setIfInBounds_toArray, List.set_cons_zero, List.set_cons_succ])
      refine wpAnyH_take (i := 3) (oi := { dst := some 33, op := Go.Op.indexAddr 24 (Go.Operand.tmp 31) (Go.Operand.tmp 32), type := 0, pos := "law.go:44", after := #[{ on := 1, ground := Go.Ground.data }, { on := 2, ground := Go.Ground.data }], guard := none }) (v := ?_) rfl (by kernel_rfl) (by kernel_rfl) (by kernel_rfl) (fun _ _ _ h => h) (Or.inl ⟨by rfl, ?_⟩) (by assumption) ?_
      rotate_left
      · intro w hSw
        (try dsimp only at hSw)
        go_simp
        (try with_reducible rfl)
      (try simp only [Act.put, List.setIfInBounds_toArray, List.set_cons_zero, List.set_cons_succ])
      refine wpAnyH_take (i := 4) (oi := { dst := some 34, op := Go.Op.load 5 (Go.Operand.tmp 33), type := 5, pos := "law.go:44", after := #[{ on := 3, ground := Go.Ground.data }], guard := none }) (v := ?_) rfl (by kernel_rfl) (by kernel_rfl) (by kernel_rfl) (fun _ _ _ h => h) (Or.inl ⟨by rfl, ?_⟩) (by assumption) ?_
      rotate_left
      · intro w hSw
        (have c9 := cell_below hSw HC1.out; go_simp; (try with_reducible rfl))
      (try simp only [Act.put, List.setIfInBounds_toArray, List.set_cons_zero, List.set_cons_succ])
      refine wpAnyH_take (i := 5) (oi := { dst := some 35, op := Go.Op.move (Go.Operand.tmp 2), type := 24, pos := "law.go:44", after := #[], guard := none }) (v := ?_) rfl (by kernel_rfl) (by kernel_rfl) (by kernel_rfl) (fun _ _ _ h => h) (Or.inl ⟨by rfl, ?_⟩) (by assumption) ?_
      rotate_left
      · intro w hSw
        (try dsimp only at hSw)
        go_simp
        (try with_reducible rfl)
      (try simp only [Act.put, List.setIfInBounds_toArray, List.set_cons_zero, List.set_cons_succ])
      refine wpAnyH_take (i := 6) (oi := { dst := some 36, op := Go.Op.move (Go.Operand.tmp 9), type := 3, pos := "law.go:44", after := #[], guard := none }) (v := ?_) rfl (by kernel_rfl) (by kernel_rfl) (by kernel_rfl) (fun _ _ _ h => h) (Or.inl ⟨by rfl, ?_⟩) (by assumption) ?_
      rotate_left
      · intro w hSw
        (try dsimp only at hSw)
        go_simp
        (try with_reducible rfl)
      (try simp only [Act.put, List.setIfInBounds_toArray, List.set_cons_zero, List.set_cons_succ])
      refine wpAnyH_take (i := 7) (oi := { dst := some 37, op := Go.Op.indexAddr 24 (Go.Operand.tmp 35) (Go.Operand.tmp 36), type := 0, pos := "law.go:44", after := #[{ on := 5, ground := Go.Ground.data }, { on := 6, ground := Go.Ground.data }], guard := none }) (v := ?_) rfl (by kernel_rfl) (by kernel_rfl) (by kernel_rfl) (fun _ _ _ h => h) (Or.inl ⟨by rfl, ?_⟩) (by assumption) ?_
      rotate_left
      · intro w hSw
        (try dsimp only at hSw)
        go_simp
        (try with_reducible rfl)
      (try simp only [Act.put, List.setIfInBounds_toArray, List.set_cons_zero, List.set_cons_succ])
      refine wpAnyH_take (i := 8) (oi := { dst := some 38, op := Go.Op.load 5 (Go.Operand.tmp 37), type := 5, pos := "law.go:44", after := #[{ on := 7, ground := Go.Ground.data }], guard := none }) (v := ?_) rfl (by kernel_rfl) (by kernel_rfl) (by kernel_rfl) (fun _ _ _ h => h) (Or.inl ⟨by rfl, ?_⟩) (by assumption) ?_
      rotate_left
      · intro w hSw
        (have c9 := cell_below hSw HC2.out; go_simp; (try with_reducible rfl))
      (try simp only [Act.put, List.setIfInBounds_toArray, List.set_cons_zero, List.set_cons_succ])
      refine wpAnyH_take (i := 9) (oi := { dst := some 39, op := Go.Op.binOp Go.BinOp.xor 5 (Go.Operand.tmp 34) (Go.Operand.tmp 38) 5, type := 5, pos := "law.go:44", after := #[{ on := 4, ground := Go.Ground.data }, { on := 8, ground := Go.Ground.data }], guard := none }) (v := ?_) rfl (by kernel_rfl) (by kernel_rfl) (by kernel_rfl) (fun _ _ _ h => h) (Or.inl ⟨by rfl, ?_⟩) (by assumption) ?_
      rotate_left
      · intro w hSw
        (try dsimp only at hSw)
        go_simp
        (try with_reducible rfl)
      (try simp only [Act.put, List.setIfInBounds_toArray, List.set_cons_zero, List.set_cons_succ])
      refine wpAnyH_ready (rs := [10]) (by kernel_rfl) (by simp) ?_
      refine AllReadyH.cons (o := { dst := some 40, op := Go.Op.buildSlice 24 1 #[(0, Go.Operand.tmp 39)], type := 24, pos := "law.go:44", after := #[{ on := 9, ground := Go.Ground.data }], guard := none }) rfl (fun K hK => ?_) AllReadyH.nil
      go_simp
      (obtain ⟨v_1, hw_1⟩ : ∃ q, w5.alloc (.cells #[.int .u8 (r : Int)] 5) = q := ⟨_, rfl⟩; rw [hw_1]; have hb_1 : Below w5.heap.size w5 v_1 := (by rw [← hw_1]; exact (Below.refl _ _).alloc (Nat.le_refl _) _); have hG_1 := Grow.later hG_0 hb_1; have hD_1 := Blk.below hD_0 hb_1 (Blk.lt hD_0); have hO_1 := Below.trans hO_0 (hb_1.mono hO_0.size); have hs_1 : w.heap.size + 1 + 1 ≤ v_1.heap.size := Nat.le_trans hs_0 hb_1.size; have hN_1 : Bytes v_1 (some ⟨w5.heap.size, 0, none⟩) 1 (fun _ => r) := (by rw [← hw_1]; exact ob1 rfl HR.out); clear hG_0 hD_0 hO_0 hs_0 hb_1 hw_1; skip)
      (try go_wp2_with fail)
      refine hK.out _ _ ?_ (fun hHeld => ?_)
      · (try dsimp only)
        first | assumption | (apply Below.drew; assumption)
      clear hK K
      (try simp only [Act.put, List.setIfInBounds_toArray, List.set_cons_zero, List.set_cons_succ])
      refine wpAnyH_ready (rs := [11]) (by kernel_rfl) (by simp) ?_
      refine AllReadyH.cons (o := { dst := some 41, op := Go.Op.call { callee := Go.Callee.builtin Go.Builtin.append, args := #[Go.Operand.tmp 30, Go.Operand.tmp 40], argTypes := #[24, 24] }, type := 24, pos := "law.go:44", after := #[{ on := 0, ground := Go.Ground.data }, { on := 10, ground := Go.Ground.data }], guard := none }) rfl (fun K hK => ?_) AllReadyH.nil
      (refine step_appO rfl (.tmp 30) (.tmp 40) rfl (w.heap.size + 1 + 1) _ k 1 1 (some ⟨w5.heap.size, 0, none⟩) (addF f g) (fun _ => r) v_1 rfl hG_1 rfl (fun e => by cases e) hN_1 (by omega) hs_1 ?_; intro v' v_2 hG_2 hgr hat; have hb_2 : Below (w.heap.size + 1 + 1) v_1 v_2 := (Below.refl _ _).grown hgr hs_1 (Grow.block hG_1); have HG9 : Hid (Grow v_2 (w.heap.size + 1 + 1) v' (k + 1) (addF f g)) := Lib.hid (hG_2.congr (catF_self fun i hi => (by obtain rfl : i = 0 := (by omega); exact HR0.out))); have hD_2 := Blk.below hD_1 hb_2 (by omega); have hO_2 : Below w.heap.size w v_2 := Below.trans hO_1 (hb_2.mono (by omega)); have hs_2 : w.heap.size + 1 + 1 ≤ v_2.heap.size := Nat.le_trans hs_1 hb_2.size; clear hG_2 hG_1 hN_1 hD_1 hO_1 hs_1 hb_2 hgr hat; skip)
      refine hK.out _ _ ?_ (fun hHeld => ?_)
      · (try dsimp only)
        first | assumption | (apply Below.drew; assumption)
      clear hK K
      (try simp only [Act.put, List.setIfInBounds_toArray, List.set_cons_zero, List.set_cons_succ])
      refine wpAnyH_take (i := 12) (oi := { dst := some 8, op := Go.Op.assign (Go.Operand.tmp 41), type := 24, pos := "law.go:44", after := #[{ on := 11, ground := Go.Ground.data }, { on := 11, ground := Go.Ground.chain }, { on := 0, ground := Go.Ground.phase }, { on := 1, ground := Go.Ground.phase }, { on := 2, ground := Go.Ground.phase }, { on := 3, ground := Go.Ground.phase }, { on := 4, ground := Go.Ground.phase }, { on := 5, ground := Go.Ground.phase }, { on := 6, ground := Go.Ground.phase }, { on := 7, ground := Go.Ground.phase }, { on := 8, ground := Go.Ground.phase }, { on := 9, ground := Go.Ground.phase }, { on := 10, ground := Go.Ground.phase }, { on := 11, ground := Go.Ground.phase }], guard := none }) (v := ?_) rfl (by kernel_rfl) (by kernel_rfl) (by kernel_rfl) (fun _ _ _ h => h) (Or.inl ⟨by rfl, ?_⟩) (by assumption) ?_
      rotate_left
      · intro w hSw
        (try dsimp only at hSw)
        go_simp
        (try with_reducible rfl)
      (try simp only [Act.put, List.setIfInBounds_toArray, List.set_cons_zero, List.set_cons_succ])
      refine wpAnyH_done (by kernel_rfl) ?_ _
      have HD9 := Lib.hid hD_2
      have HO9 := Lib.hid hO_2
      have HS9 := Lib.hid hs_2
      clear hD_2 hO_2 hs_2
      go_wp2_with fail
      go_roundw
      case rel => exact ⟨k + 1, by omega, by go_num, HG9.out, HD9.out, HO9.out, HS9.out⟩
      case measure => simp [intOf]; omega
    · obtain rfl : k = n := by omega
      obtain ⟨ov, cv, rfl, hBv, _⟩ := hG.bytes (fun i hi => Nat.xor_lt_two_pow (n := 8) (HFA.out i hi).1 (HFB.out i hi).1)
      have hcv : k ≤ cv ∧ cv ≤ maxLen := by
        rcases hG.2 with ⟨h1, h2⟩ | ⟨_, cap, _, h1, _, _, h3, h4, _⟩
        · cases h1; exact ⟨by omega, Nat.zero_le _⟩
        · cases h1; exact ⟨h3, h4⟩
      have HV : Hid (∀ w', Below wr.heap.size wr w' → Bytes w' ov k (addF f g)) := Lib.hid fun w' hb' => hBv.later hb'
      have HDD : Hid (∀ w', Below wr.heap.size wr w' → Blk w' (w.heap.size + 1) D 26) := Lib.hid fun w' hb' => Blk.below hB hb' (Blk.lt hB)
      have HOW : Hid (∀ w', Below wr.heap.size wr w' → Below w.heap.size w w') := Lib.hid fun w' hb' => hO.trans (hb'.mono hO.size)
      have HCV := Lib.hid hcv
      clear hG hBv hcv hB hO hs
      go_upto_region 9 with fail
      go_cut [10, 11] (LR1 wr X1 X2)
      case first =>
        have hP_0 : Below wr.heap.size wr wr.drew := (Below.refl _ wr).drew
        refine wp_region_held_drew (S := (Below wr.heap.size wr)) (by kernel_rfl) ?_ (fun hHeld => ?_)
        · (try dsimp only)
          first | assumption | (apply Below.drew; assumption)
        generalize wr.drew = w5 at *
        refine wpAnyH_take (i := 0) (oi := { dst := some 42, op := Go.Op.load 26 (Go.Operand.tmp 7), type := 26, pos := "law.go:46", after := #[], guard := none }) (v := ?_) rfl (by kernel_rfl) (by kernel_rfl) (by kernel_rfl) (fun _ _ _ h => h) (Or.inl ⟨by rfl, ?_⟩) (by assumption) ?_
        rotate_left
        · intro w hSw
          refine exec_load16 (x := .tmp 7) ?_ ?_ (ld16 (HDD.out _ hSw) HID.out) <;> rfl
        (try simp only [Act.put, List.setIfInBounds_toArray, List.set_cons_zero, List.set_cons_succ])
        refine wpAnyH_take (i := 1) (oi := { dst := some 43, op := Go.Op.move (Go.Operand.tmp 1), type := 24, pos := "law.go:46", after := #[], guard := none }) (v := ?_) rfl (by kernel_rfl) (by kernel_rfl) (by kernel_rfl) (fun _ _ _ h => h) (Or.inl ⟨by rfl, ?_⟩) (by assumption) ?_
        rotate_left
        · intro w hSw
          (try dsimp only at hSw)
          go_simp
          (try with_reducible rfl)
        (try simp only [Act.put, List.setIfInBounds_toArray, List.set_cons_zero, List.set_cons_succ])
        refine wpAnyH_take (i := 3) (oi := { dst := some 45, op := Go.Op.load 26 (Go.Operand.tmp 7), type := 26, pos := "law.go:46", after := #[], guard := none }) (v := ?_) rfl (by kernel_rfl) (by kernel_rfl) (by kernel_rfl) (fun _ _ _ h => h) (Or.inl ⟨by rfl, ?_⟩) (by assumption) ?_
        rotate_left
        · intro w hSw
          refine exec_load16 (x := .tmp 7) ?_ ?_ (ld16 (HDD.out _ hSw) HID.out) <;> rfl
        (try simp only [Act.put, List.setIfInBounds_toArray, List.set_cons_zero, List.set_cons_succ])
        refine wpAnyH_take (i := 4) (oi := { dst := some 46, op := Go.Op.move (Go.Operand.tmp 2), type := 24, pos := "law.go:46", after := #[], guard := none }) (v := ?_) rfl (by kernel_rfl) (by kernel_rfl) (by kernel_rfl) (fun _ _ _ h => h) (Or.inl ⟨by rfl, ?_⟩) (by assumption) ?_
        rotate_left
        · intro w hSw
          (try dsimp only at hSw)
          go_simp
          (try with_reducible rfl)
        (try simp only [Act.put, List.setIfInBounds_toArray, List.set_cons_zero, List.set_cons_succ])
        refine wpAnyH_ready (rs := [2, 6, 7]) (by kernel_rfl) (by simp) ?_
        refine AllReadyH.cons (o := { dst := some 44, op := Go.Op.call { callee := Go.Callee.value (Go.Operand.func 11), args := #[Go.Operand.tmp 42, Go.Operand.const (Go.Value.slice none 0 0), Go.Operand.tmp 43], argTypes := #[26, 24, 24] }, type := 26, pos := "law.go:46", after := #[{ on := 0, ground := Go.Ground.data }, { on := 1, ground := Go.Ground.data }], guard := none }) rfl (fun K hK => ?_) ?_
        · skip
          go_simp
          (refine (HH1.out _ (HOW.out _ hP_0)).mono ?_; rintro e v_3 ⟨rfl, hb_3⟩; have hP_3 := Below.trans hP_0 (hb_3.mono hP_0.size); clear hP_0; clear hb_3; skip)
          (try go_wp2_with fail)
          refine hK.out _ _ ?_ (fun hHeld => ?_)
          · (try dsimp only)
            first | assumption | (apply Below.drew; assumption)
          clear hK K
          (try simp only [Act.put, List.setIfInBounds_toArray, List.set_cons_zero, List.set_cons_succ])
          refine wpAnyH_ready (rs := [5, 6, 7]) (by kernel_rfl) (by simp) ?_
          refine AllReadyH.cons (o := { dst := some 47, op := Go.Op.call { callee := Go.Callee.value (Go.Operand.func 11), args := #[Go.Operand.tmp 45, Go.Operand.const (Go.Value.slice none 0 0), Go.Operand.tmp 46], argTypes := #[26, 24, 24] }, type := 26, pos := "law.go:46", after := #[{ on := 3, ground := Go.Ground.data }, { on := 4, ground := Go.Ground.data }, { on := 2, ground := Go.Ground.chain }], guard := none }) rfl (fun K hK => ?_) ?_
          · skip
            go_simp
            (refine (HH2.out _ (HOW.out _ hP_3)).mono ?_; rintro e v_4 ⟨rfl, hb_4⟩; have hP_4 := Below.trans hP_3 (hb_4.mono hP_3.size); clear hP_3; clear hb_4; skip)
            (try go_wp2_with fail)
            refine hK.out _ _ ?_ (fun hHeld => ?_)
            · (try dsimp only)
              first | assumption | (apply Below.drew; assumption)
            clear hK K
            (try simp only [Act.put, List.setIfInBounds_toArray, List.set_cons_zero, List.set_cons_succ])
            refine wpAnyH_ready (rs := [6, 7]) (by kernel_rfl) (by simp) ?_
            refine AllReadyH.cons (o := { dst := some 10, op := Go.Op.alloc 26, type := 0, pos := "law.go:46", after := #[], guard := none }) rfl (fun K hK => ?_) ?_
            · skip
              go_simp
              (obtain ⟨v_5, hw_5⟩ : ∃ q, v_4.alloc (.cells zero16 26) = q := ⟨_, rfl⟩; rw [hw_5]; have hb_5 : Below v_4.heap.size v_4 v_5 := (by rw [← hw_5]; exact (Below.refl _ _).alloc (Nat.le_refl _) _); have HW10 := Lib.hid hP_4.size; have hP_5 := Below.trans hP_4 (hb_5.mono hP_4.size); have hG10_5 : Blk v_5 v_4.heap.size zero16 26 := (by rw [← hw_5]; exact Blk.new _ _ _); clear hP_4; clear hb_5 hw_5; skip)
              (try go_wp2_with fail)
              refine hK.out _ _ ?_ (fun hHeld => ?_)
              · (try dsimp only)
                first | assumption | (apply Below.drew; assumption)
              clear hK K
              (try simp only [Act.put, List.setIfInBounds_toArray, List.set_cons_zero, List.set_cons_succ])
              refine wpAnyH_ready (rs := [7]) (by kernel_rfl) (by simp) ?_
              refine AllReadyH.cons (o := { dst := some 11, op := Go.Op.alloc 26, type := 0, pos := "law.go:46", after := #[], guard := none }) rfl (fun K hK => ?_) AllReadyH.nil
              go_simp
              (obtain ⟨v_6, hw_6⟩ : ∃ q, v_5.alloc (.cells zero16 26) = q := ⟨_, rfl⟩; rw [hw_6]; have hb_6 : Below v_5.heap.size v_5 v_6 := (by rw [← hw_6]; exact (Below.refl _ _).alloc (Nat.le_refl _) _); have HW11 := Lib.hid hP_5.size; have HN10x11 : Hid (v_4.heap.size ≠ v_5.heap.size) := Lib.hid (Nat.ne_of_lt (Blk.lt hG10_5)); have HN11x10 : Hid (v_5.heap.size ≠ v_4.heap.size) := Lib.hid (Nat.ne_of_gt (Blk.lt hG10_5)); have hG10_6 := Blk.below hG10_5 hb_6 (Blk.lt hG10_5); have hP_6 := Below.trans hP_5 (hb_6.mono hP_5.size); have hG11_6 : Blk v_6 v_5.heap.size zero16 26 := (by rw [← hw_6]; exact Blk.new _ _ _); clear hG10_5 hP_5; clear hb_6 hw_6; skip)
              (try go_wp2_with fail)
              refine hK.out _ _ ?_ (fun hHeld => ?_)
              · (try dsimp only)
                first | assumption | (apply Below.drew; assumption)
              clear hK K
              (try simp only [Act.put, List.setIfInBounds_toArray, List.set_cons_zero, List.set_cons_succ])
              refine wpAnyH_ready (rs := [8]) (by kernel_rfl) (by simp) ?_
              refine AllReadyH.cons (o := { dst := none, op := Go.Op.store 26 (Go.Operand.tmp 10) (Go.Operand.tmp 44), type := 0, pos := "law.go:46", after := #[{ on := 6, ground := Go.Ground.data }, { on := 2, ground := Go.Ground.data }, { on := 5, ground := Go.Ground.chain }, { on := 0, ground := Go.Ground.phase }, { on := 1, ground := Go.Ground.phase }, { on := 2, ground := Go.Ground.phase }, { on := 3, ground := Go.Ground.textOnly Go.Departure.lateStores }, { on := 4, ground := Go.Ground.textOnly Go.Departure.lateStores }, { on := 5, ground := Go.Ground.textOnly Go.Departure.lateStoresUnsure }, { on := 6, ground := Go.Ground.phase }, { on := 7, ground := Go.Ground.phase }], guard := none }) rfl (fun K hK => ?_) AllReadyH.nil
              (refine step_store16 rfl (.tmp 10) (.tmp 44) rfl v_4.heap.size rfl X1 zero16 rfl hG10_6 HC1.out HC0.out ?_; have hG10_7 := Blk.store16 hG10_6 HC1.out HC0.out; have hG11_7 := (Own.setCells X1.toList 0 v_6).blk hG11_6 HN11x10.out; have hP_7 := Below.set16 (g := v_4.heap.size) hP_6 HW10.out hP_6.size X1.toList; obtain ⟨v_7, hw_7⟩ : ∃ q, (v_6.setCells v_4.heap.size 0 X1.toList) = q := ⟨_, rfl⟩; rw [hw_7] at hG10_7 hG11_7 hP_7 ⊢; clear hG10_6 hG11_6 hP_6 hw_7; skip)
              refine hK.out _ _ ?_ (fun hHeld => ?_)
              · (try dsimp only)
                first | assumption | (apply Below.drew; assumption)
              clear hK K
              (try simp only [Act.put, List.setIfInBounds_toArray, List.set_cons_zero, List.set_cons_succ])
              refine wpAnyH_ready (rs := [9]) (by kernel_rfl) (by simp) ?_
              refine AllReadyH.cons (o := { dst := none, op := Go.Op.store 26 (Go.Operand.tmp 11) (Go.Operand.tmp 47), type := 0, pos := "law.go:46", after := #[{ on := 7, ground := Go.Ground.data }, { on := 5, ground := Go.Ground.data }, { on := 8, ground := Go.Ground.chain }, { on := 0, ground := Go.Ground.phase }, { on := 1, ground := Go.Ground.phase }, { on := 2, ground := Go.Ground.phase }, { on := 3, ground := Go.Ground.phase }, { on := 4, ground := Go.Ground.phase }, { on := 5, ground := Go.Ground.phase }, { on := 6, ground := Go.Ground.phase }, { on := 7, ground := Go.Ground.phase }, { on := 8, ground := Go.Ground.phase }], guard := none }) rfl (fun K hK => ?_) AllReadyH.nil
              (refine step_store16 rfl (.tmp 11) (.tmp 47) rfl v_5.heap.size rfl X2 zero16 rfl hG11_7 HC2.out HC0.out ?_; have hG11_8 := Blk.store16 hG11_7 HC2.out HC0.out; have hG10_8 := (Own.setCells X2.toList 0 v_7).blk hG10_7 HN10x11.out; have hP_8 := Below.set16 (g := v_5.heap.size) hP_7 HW11.out hP_7.size X2.toList; obtain ⟨v_8, hw_8⟩ : ∃ q, (v_7.setCells v_5.heap.size 0 X2.toList) = q := ⟨_, rfl⟩; rw [hw_8] at hG11_8 hG10_8 hP_8 ⊢; clear hG11_7 hG10_7 hP_7 hw_8; skip)
              refine hK.out _ _ ?_ (fun hHeld => ?_)
              · (try dsimp only)
                first | assumption | (apply Below.drew; assumption)
              clear hK K
              (try simp only [Act.put, List.setIfInBounds_toArray, List.set_cons_zero, List.set_cons_succ])
              refine wpAnyH_done (by kernel_rfl) ?_ _
              go_wp2_with fail
              go_meet
              exact ⟨_, _, rfl, rfl, hG10_8, hG11_8, hP_8⟩
            refine AllReadyH.cons (o := { dst := some 11, op := Go.Op.alloc 26, type := 0, pos := "law.go:46", after := #[], guard := none }) rfl (fun K hK => ?_) AllReadyH.nil
            go_simp
            (obtain ⟨v_9, hw_9⟩ : ∃ q, v_4.alloc (.cells zero16 26) = q := ⟨_, rfl⟩; rw [hw_9]; have hb_9 : Below v_4.heap.size v_4 v_9 := (by rw [← hw_9]; exact (Below.refl _ _).alloc (Nat.le_refl _) _); have HW11 := Lib.hid hP_4.size; have hP_9 := Below.trans hP_4 (hb_9.mono hP_4.size); have hG11_9 : Blk v_9 v_4.heap.size zero16 26 := (by rw [← hw_9]; exact Blk.new _ _ _); clear hP_4; clear hb_9 hw_9; skip)
            (try go_wp2_with fail)
            refine hK.out _ _ ?_ (fun hHeld => ?_)
            · (try dsimp only)
              first | assumption | (apply Below.drew; assumption)
            clear hK K
            (try simp only [Act.put, List.setIfInBounds_toArray, List.set_cons_zero, List.set_cons_succ])
            refine wpAnyH_ready (rs := [6]) (by kernel_rfl) (by simp) ?_
            refine AllReadyH.cons (o := { dst := some 10, op := Go.Op.alloc 26, type := 0, pos := "law.go:46", after := #[], guard := none }) rfl (fun K hK => ?_) AllReadyH.nil
            go_simp
            (obtain ⟨v_10, hw_10⟩ : ∃ q, v_9.alloc (.cells zero16 26) = q := ⟨_, rfl⟩; rw [hw_10]; have hb_10 : Below v_9.heap.size v_9 v_10 := (by rw [← hw_10]; exact (Below.refl _ _).alloc (Nat.le_refl _) _); have HW10 := Lib.hid hP_9.size; have HN11x10 : Hid (v_4.heap.size ≠ v_9.heap.size) := Lib.hid (Nat.ne_of_lt (Blk.lt hG11_9)); have HN10x11 : Hid (v_9.heap.size ≠ v_4.heap.size) := Lib.hid (Nat.ne_of_gt (Blk.lt hG11_9)); have hG11_10 := Blk.below hG11_9 hb_10 (Blk.lt hG11_9); have hP_10 := Below.trans hP_9 (hb_10.mono hP_9.size); have hG10_10 : Blk v_10 v_9.heap.size zero16 26 := (by rw [← hw_10]; exact Blk.new _ _ _); clear hG11_9 hP_9; clear hb_10 hw_10; skip)
            (try go_wp2_with fail)
            refine hK.out _ _ ?_ (fun hHeld => ?_)
            · (try dsimp only)
              first | assumption | (apply Below.drew; assumption)
            clear hK K
            (try simp only [Act.put, List.setIfInBounds_toArray, List.set_cons_zero, List.set_cons_succ])
            refine wpAnyH_ready (rs := [8]) (by kernel_rfl) (by simp) ?_
            refine AllReadyH.cons (o := { dst := none, op := Go.Op.store 26 (Go.Operand.tmp 10) (Go.Operand.tmp 44), type := 0, pos := "law.go:46", after := #[{ on := 6, ground := Go.Ground.data }, { on := 2, ground := Go.Ground.data }, { on := 5, ground := Go.Ground.chain }, { on := 0, ground := Go.Ground.phase }, { on := 1, ground := Go.Ground.phase }, { on := 2, ground := Go.Ground.phase }, { on := 3, ground := Go.Ground.textOnly Go.Departure.lateStores }, { on := 4, ground := Go.Ground.textOnly Go.Departure.lateStores }, { on := 5, ground := Go.Ground.textOnly Go.Departure.lateStoresUnsure }, { on := 6, ground := Go.Ground.phase }, { on := 7, ground := Go.Ground.phase }], guard := none }) rfl (fun K hK => ?_) AllReadyH.nil
            (refine step_store16 rfl (.tmp 10) (.tmp 44) rfl v_9.heap.size rfl X1 zero16 rfl hG10_10 HC1.out HC0.out ?_; have hG10_11 := Blk.store16 hG10_10 HC1.out HC0.out; have hG11_11 := (Own.setCells X1.toList 0 v_10).blk hG11_10 HN11x10.out; have hP_11 := Below.set16 (g := v_9.heap.size) hP_10 HW10.out hP_10.size X1.toList; obtain ⟨v_11, hw_11⟩ : ∃ q, (v_10.setCells v_9.heap.size 0 X1.toList) = q := ⟨_, rfl⟩; rw [hw_11] at hG10_11 hG11_11 hP_11 ⊢; clear hG10_10 hG11_10 hP_10 hw_11; skip)
            refine hK.out _ _ ?_ (fun hHeld => ?_)
            · (try dsimp only)
              first | assumption | (apply Below.drew; assumption)
            clear hK K
            (try simp only [Act.put, List.setIfInBounds_toArray, List.set_cons_zero, List.set_cons_succ])
            refine wpAnyH_ready (rs := [9]) (by kernel_rfl) (by simp) ?_
            refine AllReadyH.cons (o := { dst := none, op := Go.Op.store 26 (Go.Operand.tmp 11) (Go.Operand.tmp 47), type := 0, pos := "law.go:46", after := #[{ on := 7, ground := Go.Ground.data }, { on := 5, ground := Go.Ground.data }, { on := 8, ground := Go.Ground.chain }, { on := 0, ground := Go.Ground.phase }, { on := 1, ground := Go.Ground.phase }, { on := 2, ground := Go.Ground.phase }, { on := 3, ground := Go.Ground.phase }, { on := 4, ground := Go.Ground.phase }, { on := 5, ground := Go.Ground.phase }, { on := 6, ground := Go.Ground.phase }, { on := 7, ground := Go.Ground.phase }, { on := 8, ground := Go.Ground.phase }], guard := none }) rfl (fun K hK => ?_) AllReadyH.nil
            (refine step_store16 rfl (.tmp 11) (.tmp 47) rfl v_4.heap.size rfl X2 zero16 rfl hG11_11 HC2.out HC0.out ?_; have hG11_12 := Blk.store16 hG11_11 HC2.out HC0.out; have hG10_12 := (Own.setCells X2.toList 0 v_11).blk hG10_11 HN10x11.out; have hP_12 := Below.set16 (g := v_4.heap.size) hP_11 HW11.out hP_11.size X2.toList; obtain ⟨v_12, hw_12⟩ : ∃ q, (v_11.setCells v_4.heap.size 0 X2.toList) = q := ⟨_, rfl⟩; rw [hw_12] at hG11_12 hG10_12 hP_12 ⊢; clear hG11_11 hG10_11 hP_11 hw_12; skip)
            refine hK.out _ _ ?_ (fun hHeld => ?_)
            · (try dsimp only)
              first | assumption | (apply Below.drew; assumption)
            clear hK K
            (try simp only [Act.put, List.setIfInBounds_toArray, List.set_cons_zero, List.set_cons_succ])
            refine wpAnyH_done (by kernel_rfl) ?_ _
            go_wp2_with fail
            go_meet
            exact ⟨_, _, rfl, rfl, hG10_12, hG11_12, hP_12⟩
          refine AllReadyH.cons (o := { dst := some 10, op := Go.Op.alloc 26, type := 0, pos := "law.go:46", after := #[], guard := none }) rfl (fun K hK => ?_) ?_
          · skip
            go_simp
            (obtain ⟨v_13, hw_13⟩ : ∃ q, v_3.alloc (.cells zero16 26) = q := ⟨_, rfl⟩; rw [hw_13]; have hb_13 : Below v_3.heap.size v_3 v_13 := (by rw [← hw_13]; exact (Below.refl _ _).alloc (Nat.le_refl _) _); have HW10 := Lib.hid hP_3.size; have hP_13 := Below.trans hP_3 (hb_13.mono hP_3.size); have hG10_13 : Blk v_13 v_3.heap.size zero16 26 := (by rw [← hw_13]; exact Blk.new _ _ _); clear hP_3; clear hb_13 hw_13; skip)
            (try go_wp2_with fail)
            refine hK.out _ _ ?_ (fun hHeld => ?_)
            · (try dsimp only)
              first | assumption | (apply Below.drew; assumption)
            clear hK K
            (try simp only [Act.put, List.setIfInBounds_toArray, List.set_cons_zero, List.set_cons_succ])
            refine wpAnyH_ready (rs := [5, 7]) (by kernel_rfl) (by simp) ?_
            refine AllReadyH.cons (o := { dst := some 47, op := Go.Op.call { callee := Go.Callee.value (Go.Operand.func 11), args := #[Go.Operand.tmp 45, Go.Operand.const (Go.Value.slice none 0 0), Go.Operand.tmp 46], argTypes := #[26, 24, 24] }, type := 26, pos := "law.go:46", after := #[{ on := 3, ground := Go.Ground.data }, { on := 4, ground := Go.Ground.data }, { on := 2, ground := Go.Ground.chain }], guard := none }) rfl (fun K hK => ?_) ?_
            · skip
              go_simp
              (refine (HH2.out _ (HOW.out _ hP_13)).mono ?_; rintro e v_14 ⟨rfl, hb_14⟩; have hG10_14 := Blk.below hG10_13 hb_14 (Blk.lt hG10_13); have hP_14 := Below.trans hP_13 (hb_14.mono hP_13.size); clear hG10_13 hP_13; clear hb_14; skip)
              (try go_wp2_with fail)
              refine hK.out _ _ ?_ (fun hHeld => ?_)
              · (try dsimp only)
                first | assumption | (apply Below.drew; assumption)
              clear hK K
              (try simp only [Act.put, List.setIfInBounds_toArray, List.set_cons_zero, List.set_cons_succ])
              refine wpAnyH_ready (rs := [7]) (by kernel_rfl) (by simp) ?_
              refine AllReadyH.cons (o := { dst := some 11, op := Go.Op.alloc 26, type := 0, pos := "law.go:46", after := #[], guard := none }) rfl (fun K hK => ?_) AllReadyH.nil
              go_simp
              (obtain ⟨v_15, hw_15⟩ : ∃ q, v_14.alloc (.cells zero16 26) = q := ⟨_, rfl⟩; rw [hw_15]; have hb_15 : Below v_14.heap.size v_14 v_15 := (by rw [← hw_15]; exact (Below.refl _ _).alloc (Nat.le_refl _) _); have HW11 := Lib.hid hP_14.size; have HN10x11 : Hid (v_3.heap.size ≠ v_14.heap.size) := Lib.hid (Nat.ne_of_lt (Blk.lt hG10_14)); have HN11x10 : Hid (v_14.heap.size ≠ v_3.heap.size) := Lib.hid (Nat.ne_of_gt (Blk.lt hG10_14)); have hG10_15 := Blk.below hG10_14 hb_15 (Blk.lt hG10_14); have hP_15 := Below.trans hP_14 (hb_15.mono hP_14.size); have hG11_15 : Blk v_15 v_14.heap.size zero16 26 := (by rw [← hw_15]; exact Blk.new _ _ _); clear hG10_14 hP_14; clear hb_15 hw_15; skip)
              (try go_wp2_with fail)
              refine hK.out _ _ ?_ (fun hHeld => ?_)
              · (try dsimp only)
                first | assumption | (apply Below.drew; assumption)
              clear hK K
              (try simp only [Act.put, List.setIfInBounds_toArray, List.set_cons_zero, List.set_cons_succ])
              refine wpAnyH_ready (rs := [8]) (by kernel_rfl) (by simp) ?_
              refine AllReadyH.cons (o := { dst := none, op := Go.Op.store 26 (Go.Operand.tmp 10) (Go.Operand.tmp 44), type := 0, pos := "law.go:46", after := #[{ on := 6, ground := Go.Ground.data }, { on := 2, ground := Go.Ground.data }, { on := 5, ground := Go.Ground.chain }, { on := 0, ground := Go.Ground.phase }, { on := 1, ground := Go.Ground.phase }, { on := 2, ground := Go.Ground.phase }, { on := 3, ground := Go.Ground.textOnly Go.Departure.lateStores }, { on := 4, ground := Go.Ground.textOnly Go.Departure.lateStores }, { on := 5, ground := Go.Ground.textOnly Go.Departure.lateStoresUnsure }, { on := 6, ground := Go.Ground.phase }, { on := 7, ground := Go.Ground.phase }], guard := none }) rfl (fun K hK => ?_) AllReadyH.nil
              (refine step_store16 rfl (.tmp 10) (.tmp 44) rfl v_3.heap.size rfl X1 zero16 rfl hG10_15 HC1.out HC0.out ?_; have hG10_16 := Blk.store16 hG10_15 HC1.out HC0.out; have hG11_16 := (Own.setCells X1.toList 0 v_15).blk hG11_15 HN11x10.out; have hP_16 := Below.set16 (g := v_3.heap.size) hP_15 HW10.out hP_15.size X1.toList; obtain ⟨v_16, hw_16⟩ : ∃ q, (v_15.setCells v_3.heap.size 0 X1.toList) = q := ⟨_, rfl⟩; rw [hw_16] at hG10_16 hG11_16 hP_16 ⊢; clear hG10_15 hG11_15 hP_15 hw_16; skip)
              refine hK.out _ _ ?_ (fun hHeld => ?_)
              · (try dsimp only)
                first | assumption | (apply Below.drew; assumption)
              clear hK K
              (try simp only [Act.put, List.setIfInBounds_toArray, List.set_cons_zero, List.set_cons_succ])
              refine wpAnyH_ready (rs := [9]) (by kernel_rfl) (by simp) ?_
              refine AllReadyH.cons (o := { dst := none, op := Go.Op.store 26 (Go.Operand.tmp 11) (Go.Operand.tmp 47), type := 0, pos := "law.go:46", after := #[{ on := 7, ground := Go.Ground.data }, { on := 5, ground := Go.Ground.data }, { on := 8, ground := Go.Ground.chain }, { on := 0, ground := Go.Ground.phase }, { on := 1, ground := Go.Ground.phase }, { on := 2, ground := Go.Ground.phase }, { on := 3, ground := Go.Ground.phase }, { on := 4, ground := Go.Ground.phase }, { on := 5, ground := Go.Ground.phase }, { on := 6, ground := Go.Ground.phase }, { on := 7, ground := Go.Ground.phase }, { on := 8, ground := Go.Ground.phase }], guard := none }) rfl (fun K hK => ?_) AllReadyH.nil
              (refine step_store16 rfl (.tmp 11) (.tmp 47) rfl v_14.heap.size rfl X2 zero16 rfl hG11_16 HC2.out HC0.out ?_; have hG11_17 := Blk.store16 hG11_16 HC2.out HC0.out; have hG10_17 := (Own.setCells X2.toList 0 v_16).blk hG10_16 HN10x11.out; have hP_17 := Below.set16 (g := v_14.heap.size) hP_16 HW11.out hP_16.size X2.toList; obtain ⟨v_17, hw_17⟩ : ∃ q, (v_16.setCells v_14.heap.size 0 X2.toList) = q := ⟨_, rfl⟩; rw [hw_17] at hG11_17 hG10_17 hP_17 ⊢; clear hG11_16 hG10_16 hP_16 hw_17; skip)
              refine hK.out _ _ ?_ (fun hHeld => ?_)
              · (try dsimp only)
                first | assumption | (apply Below.drew; assumption)
              clear hK K
              (try simp only [Act.put, List.setIfInBounds_toArray, List.set_cons_zero, List.set_cons_succ])
              refine wpAnyH_done (by kernel_rfl) ?_ _
              go_wp2_with fail
              go_meet
              exact ⟨_, _, rfl, rfl, hG10_17, hG11_17, hP_17⟩
            refine AllReadyH.cons (o := { dst := some 11, op := Go.Op.alloc 26, type := 0, pos := "law.go:46", after := #[], guard := none }) rfl (fun K hK => ?_) AllReadyH.nil
            go_simp
            (obtain ⟨v_18, hw_18⟩ : ∃ q, v_13.alloc (.cells zero16 26) = q := ⟨_, rfl⟩; rw [hw_18]; have hb_18 : Below v_13.heap.size v_13 v_18 := (by rw [← hw_18]; exact (Below.refl _ _).alloc (Nat.le_refl _) _); have HW11 := Lib.hid hP_13.size; have HN10x11 : Hid (v_3.heap.size ≠ v_13.heap.size) := Lib.hid (Nat.ne_of_lt (Blk.lt hG10_13)); have HN11x10 : Hid (v_13.heap.size ≠ v_3.heap.size) := Lib.hid (Nat.ne_of_gt (Blk.lt hG10_13)); have hG10_18 := Blk.below hG10_13 hb_18 (Blk.lt hG10_13); have hP_18 := Below.trans hP_13 (hb_18.mono hP_13.size); have hG11_18 : Blk v_18 v_13.heap.size zero16 26 := (by rw [← hw_18]; exact Blk.new _ _ _); clear hG10_13 hP_13; clear hb_18 hw_18; skip)
            (try go_wp2_with fail)
            refine hK.out _ _ ?_ (fun hHeld => ?_)
            · (try dsimp only)
              first | assumption | (apply Below.drew; assumption)
            clear hK K
            (try simp only [Act.put, List.setIfInBounds_toArray, List.set_cons_zero, List.set_cons_succ])
            refine wpAnyH_ready (rs := [5]) (by kernel_rfl) (by simp) ?_
            refine AllReadyH.cons (o := { dst := some 47, op := Go.Op.call { callee := Go.Callee.value (Go.Operand.func 11), args := #[Go.Operand.tmp 45, Go.Operand.const (Go.Value.slice none 0 0), Go.Operand.tmp 46], argTypes := #[26, 24, 24] }, type := 26, pos := "law.go:46", after := #[{ on := 3, ground := Go.Ground.data }, { on := 4, ground := Go.Ground.data }, { on := 2, ground := Go.Ground.chain }], guard := none }) rfl (fun K hK => ?_) AllReadyH.nil
            go_simp
            (refine (HH2.out _ (HOW.out _ hP_18)).mono ?_; rintro e v_19 ⟨rfl, hb_19⟩; have hG10_19 := Blk.below hG10_18 hb_19 (Blk.lt hG10_18); have hG11_19 := Blk.below hG11_18 hb_19 (Blk.lt hG11_18); have hP_19 := Below.trans hP_18 (hb_19.mono hP_18.size); clear hG10_18 hG11_18 hP_18; clear hb_19; skip)
            (try go_wp2_with fail)
            refine hK.out _ _ ?_ (fun hHeld => ?_)
            · (try dsimp only)
              first | assumption | (apply Below.drew; assumption)
            clear hK K
            (try simp only [Act.put, List.setIfInBounds_toArray, List.set_cons_zero, List.set_cons_succ])
            refine wpAnyH_ready (rs := [8]) (by kernel_rfl) (by simp) ?_
            refine AllReadyH.cons (o := { dst := none, op := Go.Op.store 26 (Go.Operand.tmp 10) (Go.Operand.tmp 44), type := 0, pos := "law.go:46", after := #[{ on := 6, ground := Go.Ground.data }, { on := 2, ground := Go.Ground.data }, { on := 5, ground := Go.Ground.chain }, { on := 0, ground := Go.Ground.phase }, { on := 1, ground := Go.Ground.phase }, { on := 2, ground := Go.Ground.phase }, { on := 3, ground := Go.Ground.textOnly Go.Departure.lateStores }, { on := 4, ground := Go.Ground.textOnly Go.Departure.lateStores }, { on := 5, ground := Go.Ground.textOnly Go.Departure.lateStoresUnsure }, { on := 6, ground := Go.Ground.phase }, { on := 7, ground := Go.Ground.phase }], guard := none }) rfl (fun K hK => ?_) AllReadyH.nil
            (refine step_store16 rfl (.tmp 10) (.tmp 44) rfl v_3.heap.size rfl X1 zero16 rfl hG10_19 HC1.out HC0.out ?_; have hG10_20 := Blk.store16 hG10_19 HC1.out HC0.out; have hG11_20 := (Own.setCells X1.toList 0 v_19).blk hG11_19 HN11x10.out; have hP_20 := Below.set16 (g := v_3.heap.size) hP_19 HW10.out hP_19.size X1.toList; obtain ⟨v_20, hw_20⟩ : ∃ q, (v_19.setCells v_3.heap.size 0 X1.toList) = q := ⟨_, rfl⟩; rw [hw_20] at hG10_20 hG11_20 hP_20 ⊢; clear hG10_19 hG11_19 hP_19 hw_20; skip)
            refine hK.out _ _ ?_ (fun hHeld => ?_)
            · (try dsimp only)
              first | assumption | (apply Below.drew; assumption)
            clear hK K
            (try simp only [Act.put, List.setIfInBounds_toArray, List.set_cons_zero, List.set_cons_succ])
            refine wpAnyH_ready (rs := [9]) (by kernel_rfl) (by simp) ?_
            refine AllReadyH.cons (o := { dst := none, op := Go.Op.store 26 (Go.Operand.tmp 11) (Go.Operand.tmp 47), type := 0, pos := "law.go:46", after := #[{ on := 7, ground := Go.Ground.data }, { on := 5, ground := Go.Ground.data }, { on := 8, ground := Go.Ground.chain }, { on := 0, ground := Go.Ground.phase }, { on := 1, ground := Go.Ground.phase }, { on := 2, ground := Go.Ground.phase }, { on := 3, ground := Go.Ground.phase }, { on := 4, ground := Go.Ground.phase }, { on := 5, ground := Go.Ground.phase }, { on := 6, ground := Go.Ground.phase }, { on := 7, ground := Go.Ground.phase }, { on := 8, ground := Go.Ground.phase }], guard := none }) rfl (fun K hK => ?_) AllReadyH.nil
            (refine step_store16 rfl (.tmp 11) (.tmp 47) rfl v_13.heap.size rfl X2 zero16 rfl hG11_20 HC2.out HC0.out ?_; have hG11_21 := Blk.store16 hG11_20 HC2.out HC0.out; have hG10_21 := (Own.setCells X2.toList 0 v_20).blk hG10_20 HN10x11.out; have hP_21 := Below.set16 (g := v_13.heap.size) hP_20 HW11.out hP_20.size X2.toList; obtain ⟨v_21, hw_21⟩ : ∃ q, (v_20.setCells v_13.heap.size 0 X2.toList) = q := ⟨_, rfl⟩; rw [hw_21] at hG11_21 hG10_21 hP_21 ⊢; clear hG11_20 hG10_20 hP_20 hw_21; skip)
            refine hK.out _ _ ?_ (fun hHeld => ?_)
            · (try dsimp only)
              first | assumption | (apply Below.drew; assumption)
            clear hK K
            (try simp only [Act.put, List.setIfInBounds_toArray, List.set_cons_zero, List.set_cons_succ])
            refine wpAnyH_done (by kernel_rfl) ?_ _
            go_wp2_with fail
            go_meet
            exact ⟨_, _, rfl, rfl, hG10_21, hG11_21, hP_21⟩
          refine AllReadyH.cons (o := { dst := some 11, op := Go.Op.alloc 26, type := 0, pos := "law.go:46", after := #[], guard := none }) rfl (fun K hK => ?_) AllReadyH.nil
          go_simp
          (obtain ⟨v_22, hw_22⟩ : ∃ q, v_3.alloc (.cells zero16 26) = q := ⟨_, rfl⟩; rw [hw_22]; have hb_22 : Below v_3.heap.size v_3 v_22 := (by rw [← hw_22]; exact (Below.refl _ _).alloc (Nat.le_refl _) _); have HW11 := Lib.hid hP_3.size; have hP_22 := Below.trans hP_3 (hb_22.mono hP_3.size); have hG11_22 : Blk v_22 v_3.heap.size zero16 26 := (by rw [← hw_22]; exact Blk.new _ _ _); clear hP_3; clear hb_22 hw_22; skip)
          (try go_wp2_with fail)
          refine hK.out _ _ ?_ (fun hHeld => ?_)
          · (try dsimp only)
            first | assumption | (apply Below.drew; assumption)
          clear hK K
          (try simp only [Act.put, List.setIfInBounds_toArray, List.set_cons_zero, List.set_cons_succ])
          refine wpAnyH_ready (rs := [5, 6]) (by kernel_rfl) (by simp) ?_
          refine AllReadyH.cons (o := { dst := some 47, op := Go.Op.call { callee := Go.Callee.value (Go.Operand.func 11), args := #[Go.Operand.tmp 45, Go.Operand.const (Go.Value.slice none 0 0), Go.Operand.tmp 46], argTypes := #[26, 24, 24] }, type := 26, pos := "law.go:46", after := #[{ on := 3, ground := Go.Ground.data }, { on := 4, ground := Go.Ground.data }, { on := 2, ground := Go.Ground.chain }], guard := none }) rfl (fun K hK => ?_) ?_
          · skip
            go_simp
            (refine (HH2.out _ (HOW.out _ hP_22)).mono ?_; rintro e v_23 ⟨rfl, hb_23⟩; have hG11_23 := Blk.below hG11_22 hb_23 (Blk.lt hG11_22); have hP_23 := Below.trans hP_22 (hb_23.mono hP_22.size); clear hG11_22 hP_22; clear hb_23; skip)
            (try go_wp2_with fail)
            refine hK.out _ _ ?_ (fun hHeld => ?_)
            · (try dsimp only)
              first | assumption | (apply Below.drew; assumption)
            clear hK K
            (try simp only [Act.put, List.setIfInBounds_toArray, List.set_cons_zero, List.set_cons_succ])
            refine wpAnyH_ready (rs := [6]) (by kernel_rfl) (by simp) ?_
            refine AllReadyH.cons (o := { dst := some 10, op := Go.Op.alloc 26, type := 0, pos := "law.go:46", after := #[], guard := none }) rfl (fun K hK => ?_) AllReadyH.nil
            go_simp
            (obtain ⟨v_24, hw_24⟩ : ∃ q, v_23.alloc (.cells zero16 26) = q := ⟨_, rfl⟩; rw [hw_24]; have hb_24 : Below v_23.heap.size v_23 v_24 := (by rw [← hw_24]; exact (Below.refl _ _).alloc (Nat.le_refl _) _); have HW10 := Lib.hid hP_23.size; have HN11x10 : Hid (v_3.heap.size ≠ v_23.heap.size) := Lib.hid (Nat.ne_of_lt (Blk.lt hG11_23)); have HN10x11 : Hid (v_23.heap.size ≠ v_3.heap.size) := Lib.hid (Nat.ne_of_gt (Blk.lt hG11_23)); have hG11_24 := Blk.below hG11_23 hb_24 (Blk.lt hG11_23); have hP_24 := Below.trans hP_23 (hb_24.mono hP_23.size); have hG10_24 : Blk v_24 v_23.heap.size zero16 26 := (by rw [← hw_24]; exact Blk.new _ _ _); clear hG11_23 hP_23; clear hb_24 hw_24; skip)
            (try go_wp2_with fail)
            refine hK.out _ _ ?_ (fun hHeld => ?_)
            · (try dsimp only)
              first | assumption | (apply Below.drew; assumption)
            clear hK K
            (try simp only [Act.put, List.setIfInBounds_toArray, List.set_cons_zero, List.set_cons_succ])
            refine wpAnyH_ready (rs := [8]) (by kernel_rfl) (by simp) ?_
            refine AllReadyH.cons (o := { dst := none, op := Go.Op.store 26 (Go.Operand.tmp 10) (Go.Operand.tmp 44), type := 0, pos := "law.go:46", after := #[{ on := 6, ground := Go.Ground.data }, { on := 2, ground := Go.Ground.data }, { on := 5, ground := Go.Ground.chain }, { on := 0, ground := Go.Ground.phase }, { on := 1, ground := Go.Ground.phase }, { on := 2, ground := Go.Ground.phase }, { on := 3, ground := Go.Ground.textOnly Go.Departure.lateStores }, { on := 4, ground := Go.Ground.textOnly Go.Departure.lateStores }, { on := 5, ground := Go.Ground.textOnly Go.Departure.lateStoresUnsure }, { on := 6, ground := Go.Ground.phase }, { on := 7, ground := Go.Ground.phase }], guard := none }) rfl (fun K hK => ?_) AllReadyH.nil
            (refine step_store16 rfl (.tmp 10) (.tmp 44) rfl v_23.heap.size rfl X1 zero16 rfl hG10_24 HC1.out HC0.out ?_; have hG10_25 := Blk.store16 hG10_24 HC1.out HC0.out; have hG11_25 := (Own.setCells X1.toList 0 v_24).blk hG11_24 HN11x10.out; have hP_25 := Below.set16 (g := v_23.heap.size) hP_24 HW10.out hP_24.size X1.toList; obtain ⟨v_25, hw_25⟩ : ∃ q, (v_24.setCells v_23.heap.size 0 X1.toList) = q := ⟨_, rfl⟩; rw [hw_25] at hG10_25 hG11_25 hP_25 ⊢; clear hG10_24 hG11_24 hP_24 hw_25; skip)
            refine hK.out _ _ ?_ (fun hHeld => ?_)
            · (try dsimp only)
              first | assumption | (apply Below.drew; assumption)
            clear hK K
            (try simp only [Act.put, List.setIfInBounds_toArray, List.set_cons_zero, List.set_cons_succ])
            refine wpAnyH_ready (rs := [9]) (by kernel_rfl) (by simp) ?_
            refine AllReadyH.cons (o := { dst := none, op := Go.Op.store 26 (Go.Operand.tmp 11) (Go.Operand.tmp 47), type := 0, pos := "law.go:46", after := #[{ on := 7, ground := Go.Ground.data }, { on := 5, ground := Go.Ground.data }, { on := 8, ground := Go.Ground.chain }, { on := 0, ground := Go.Ground.phase }, { on := 1, ground := Go.Ground.phase }, { on := 2, ground := Go.Ground.phase }, { on := 3, ground := Go.Ground.phase }, { on := 4, ground := Go.Ground.phase }, { on := 5, ground := Go.Ground.phase }, { on := 6, ground := Go.Ground.phase }, { on := 7, ground := Go.Ground.phase }, { on := 8, ground := Go.Ground.phase }], guard := none }) rfl (fun K hK => ?_) AllReadyH.nil
            (refine step_store16 rfl (.tmp 11) (.tmp 47) rfl v_3.heap.size rfl X2 zero16 rfl hG11_25 HC2.out HC0.out ?_; have hG11_26 := Blk.store16 hG11_25 HC2.out HC0.out; have hG10_26 := (Own.setCells X2.toList 0 v_25).blk hG10_25 HN10x11.out; have hP_26 := Below.set16 (g := v_3.heap.size) hP_25 HW11.out hP_25.size X2.toList; obtain ⟨v_26, hw_26⟩ : ∃ q, (v_25.setCells v_3.heap.size 0 X2.toList) = q := ⟨_, rfl⟩; rw [hw_26] at hG11_26 hG10_26 hP_26 ⊢; clear hG11_25 hG10_25 hP_25 hw_26; skip)
            refine hK.out _ _ ?_ (fun hHeld => ?_)
            · (try dsimp only)
              first | assumption | (apply Below.drew; assumption)
            clear hK K
            (try simp only [Act.put, List.setIfInBounds_toArray, List.set_cons_zero, List.set_cons_succ])
            refine wpAnyH_done (by kernel_rfl) ?_ _
            go_wp2_with fail
            go_meet
            exact ⟨_, _, rfl, rfl, hG10_26, hG11_26, hP_26⟩
          refine AllReadyH.cons (o := { dst := some 10, op := Go.Op.alloc 26, type := 0, pos := "law.go:46", after := #[], guard := none }) rfl (fun K hK => ?_) AllReadyH.nil
          go_simp
          (obtain ⟨v_27, hw_27⟩ : ∃ q, v_22.alloc (.cells zero16 26) = q := ⟨_, rfl⟩; rw [hw_27]; have hb_27 : Below v_22.heap.size v_22 v_27 := (by rw [← hw_27]; exact (Below.refl _ _).alloc (Nat.le_refl _) _); have HW10 := Lib.hid hP_22.size; have HN11x10 : Hid (v_3.heap.size ≠ v_22.heap.size) := Lib.hid (Nat.ne_of_lt (Blk.lt hG11_22)); have HN10x11 : Hid (v_22.heap.size ≠ v_3.heap.size) := Lib.hid (Nat.ne_of_gt (Blk.lt hG11_22)); have hG11_27 := Blk.below hG11_22 hb_27 (Blk.lt hG11_22); have hP_27 := Below.trans hP_22 (hb_27.mono hP_22.size); have hG10_27 : Blk v_27 v_22.heap.size zero16 26 := (by rw [← hw_27]; exact Blk.new _ _ _); clear hG11_22 hP_22; clear hb_27 hw_27; skip)
          (try go_wp2_with fail)
          refine hK.out _ _ ?_ (fun hHeld => ?_)
          · (try dsimp only)
            first | assumption | (apply Below.drew; assumption)
          clear hK K
          (try simp only [Act.put, List.setIfInBounds_toArray, List.set_cons_zero, List.set_cons_succ])
          refine wpAnyH_ready (rs := [5]) (by kernel_rfl) (by simp) ?_
          refine AllReadyH.cons (o := { dst := some 47, op := Go.Op.call { callee := Go.Callee.value (Go.Operand.func 11), args := #[Go.Operand.tmp 45, Go.Operand.const (Go.Value.slice none 0 0), Go.Operand.tmp 46], argTypes := #[26, 24, 24] }, type := 26, pos := "law.go:46", after := #[{ on := 3, ground := Go.Ground.data }, { on := 4, ground := Go.Ground.data }, { on := 2, ground := Go.Ground.chain }], guard := none }) rfl (fun K hK => ?_) AllReadyH.nil
          go_simp
          (refine (HH2.out _ (HOW.out _ hP_27)).mono ?_; rintro e v_28 ⟨rfl, hb_28⟩; have hG11_28 := Blk.below hG11_27 hb_28 (Blk.lt hG11_27); have hG10_28 := Blk.below hG10_27 hb_28 (Blk.lt hG10_27); have hP_28 := Below.trans hP_27 (hb_28.mono hP_27.size); clear hG11_27 hG10_27 hP_27; clear hb_28; skip)
          (try go_wp2_with fail)
          refine hK.out _ _ ?_ (fun hHeld => ?_)
          · (try dsimp only)
            first | assumption | (apply Below.drew; assumption)
          clear hK K
          (try simp only [Act.put, List.setIfInBounds_toArray, List.set_cons_zero, List.set_cons_succ])
          refine wpAnyH_ready (rs := [8]) (by kernel_rfl) (by simp) ?_
          refine AllReadyH.cons (o := { dst := none, op := Go.Op.store 26 (Go.Operand.tmp 10) (Go.Operand.tmp 44), type := 0, pos := "law.go:46", after := #[{ on := 6, ground := Go.Ground.data }, { on := 2, ground := Go.Ground.data }, { on := 5, ground := Go.Ground.chain }, { on := 0, ground := Go.Ground.phase }, { on := 1, ground := Go.Ground.phase }, { on := 2, ground := Go.Ground.phase }, { on := 3, ground := Go.Ground.textOnly Go.Departure.lateStores }, { on := 4, ground := Go.Ground.textOnly Go.Departure.lateStores }, { on := 5, ground := Go.Ground.textOnly Go.Departure.lateStoresUnsure }, { on := 6, ground := Go.Ground.phase }, { on := 7, ground := Go.Ground.phase }], guard := none }) rfl (fun K hK => ?_) AllReadyH.nil
          (refine step_store16 rfl (.tmp 10) (.tmp 44) rfl v_22.heap.size rfl X1 zero16 rfl hG10_28 HC1.out HC0.out ?_; have hG10_29 := Blk.store16 hG10_28 HC1.out HC0.out; have hG11_29 := (Own.setCells X1.toList 0 v_28).blk hG11_28 HN11x10.out; have hP_29 := Below.set16 (g := v_22.heap.size) hP_28 HW10.out hP_28.size X1.toList; obtain ⟨v_29, hw_29⟩ : ∃ q, (v_28.setCells v_22.heap.size 0 X1.toList) = q := ⟨_, rfl⟩; rw [hw_29] at hG10_29 hG11_29 hP_29 ⊢; clear hG10_28 hG11_28 hP_28 hw_29; skip)
          refine hK.out _ _ ?_ (fun hHeld => ?_)
          · (try dsimp only)
            first | assumption | (apply Below.drew; assumption)
          clear hK K
          (try simp only [Act.put, List.setIfInBounds_toArray, List.set_cons_zero, List.set_cons_succ])
          refine wpAnyH_ready (rs := [9]) (by kernel_rfl) (by simp) ?_
          refine AllReadyH.cons (o := { dst := none, op := Go.Op.store 26 (Go.Operand.tmp 11) (Go.Operand.tmp 47), type := 0, pos := "law.go:46", after := #[{ on := 7, ground := Go.Ground.data }, { on := 5, ground := Go.Ground.data }, { on := 8, ground := Go.Ground.chain }, { on := 0, ground := Go.Ground.phase }, { on := 1, ground := Go.Ground.phase }, { on := 2, ground := Go.Ground.phase }, { on := 3, ground := Go.Ground.phase }, { on := 4, ground := Go.Ground.phase }, { on := 5, ground := Go.Ground.phase }, { on := 6, ground := Go.Ground.phase }, { on := 7, ground := Go.Ground.phase }, { on := 8, ground := Go.Ground.phase }], guard := none }) rfl (fun K hK => ?_) AllReadyH.nil
          (refine step_store16 rfl (.tmp 11) (.tmp 47) rfl v_3.heap.size rfl X2 zero16 rfl hG11_29 HC2.out HC0.out ?_; have hG11_30 := Blk.store16 hG11_29 HC2.out HC0.out; have hG10_30 := (Own.setCells X2.toList 0 v_29).blk hG10_29 HN10x11.out; have hP_30 := Below.set16 (g := v_3.heap.size) hP_29 HW11.out hP_29.size X2.toList; obtain ⟨v_30, hw_30⟩ : ∃ q, (v_29.setCells v_3.heap.size 0 X2.toList) = q := ⟨_, rfl⟩; rw [hw_30] at hG11_30 hG10_30 hP_30 ⊢; clear hG11_29 hG10_29 hP_29 hw_30; skip)
          refine hK.out _ _ ?_ (fun hHeld => ?_)
          · (try dsimp only)
            first | assumption | (apply Below.drew; assumption)
          clear hK K
          (try simp only [Act.put, List.setIfInBounds_toArray, List.set_cons_zero, List.set_cons_succ])
          refine wpAnyH_done (by kernel_rfl) ?_ _
          go_wp2_with fail
          go_meet
          exact ⟨_, _, rfl, rfl, hG10_30, hG11_30, hP_30⟩
        refine AllReadyH.cons (o := { dst := some 10, op := Go.Op.alloc 26, type := 0, pos := "law.go:46", after := #[], guard := none }) rfl (fun K hK => ?_) ?_
        · skip
          go_simp
          (obtain ⟨v_31, hw_31⟩ : ∃ q, w5.alloc (.cells zero16 26) = q := ⟨_, rfl⟩; rw [hw_31]; have hb_31 : Below w5.heap.size w5 v_31 := (by rw [← hw_31]; exact (Below.refl _ _).alloc (Nat.le_refl _) _); have HW10 := Lib.hid hP_0.size; have hP_31 := Below.trans hP_0 (hb_31.mono hP_0.size); have hG10_31 : Blk v_31 w5.heap.size zero16 26 := (by rw [← hw_31]; exact Blk.new _ _ _); clear hP_0; clear hb_31 hw_31; skip)
          (try go_wp2_with fail)
          refine hK.out _ _ ?_ (fun hHeld => ?_)
          · (try dsimp only)
            first | assumption | (apply Below.drew; assumption)
          clear hK K
          (try simp only [Act.put, List.setIfInBounds_toArray, List.set_cons_zero, List.set_cons_succ])
          refine wpAnyH_ready (rs := [2, 7]) (by kernel_rfl) (by simp) ?_
          refine AllReadyH.cons (o := { dst := some 44, op := Go.Op.call { callee := Go.Callee.value (Go.Operand.func 11), args := #[Go.Operand.tmp 42, Go.Operand.const (Go.Value.slice none 0 0), Go.Operand.tmp 43], argTypes := #[26, 24, 24] }, type := 26, pos := "law.go:46", after := #[{ on := 0, ground := Go.Ground.data }, { on := 1, ground := Go.Ground.data }], guard := none }) rfl (fun K hK => ?_) ?_
          · skip
            go_simp
            (refine (HH1.out _ (HOW.out _ hP_31)).mono ?_; rintro e v_32 ⟨rfl, hb_32⟩; have hG10_32 := Blk.below hG10_31 hb_32 (Blk.lt hG10_31); have hP_32 := Below.trans hP_31 (hb_32.mono hP_31.size); clear hG10_31 hP_31; clear hb_32; skip)
            (try go_wp2_with fail)
            refine hK.out _ _ ?_ (fun hHeld => ?_)
            · (try dsimp only)
              first | assumption | (apply Below.drew; assumption)
            clear hK K
            (try simp only [Act.put, List.setIfInBounds_toArray, List.set_cons_zero, List.set_cons_succ])
            refine wpAnyH_ready (rs := [5, 7]) (by kernel_rfl) (by simp) ?_
            refine AllReadyH.cons (o := { dst := some 47, op := Go.Op.call { callee := Go.Callee.value (Go.Operand.func 11), args := #[Go.Operand.tmp 45, Go.Operand.const (Go.Value.slice none 0 0), Go.Operand.tmp 46], argTypes := #[26, 24, 24] }, type := 26, pos := "law.go:46", after := #[{ on := 3, ground := Go.Ground.data }, { on := 4, ground := Go.Ground.data }, { on := 2, ground := Go.Ground.chain }], guard := none }) rfl (fun K hK => ?_) ?_
            · skip
              go_simp
              (refine (HH2.out _ (HOW.out _ hP_32)).mono ?_; rintro e v_33 ⟨rfl, hb_33⟩; have hG10_33 := Blk.below hG10_32 hb_33 (Blk.lt hG10_32); have hP_33 := Below.trans hP_32 (hb_33.mono hP_32.size); clear hG10_32 hP_32; clear hb_33; skip)
              (try go_wp2_with fail)
              refine hK.out _ _ ?_ (fun hHeld => ?_)
              · (try dsimp only)
                first | assumption | (apply Below.drew; assumption)
              clear hK K
              (try simp only [Act.put, List.setIfInBounds_toArray, List.set_cons_zero, List.set_cons_succ])
              refine wpAnyH_ready (rs := [7]) (by kernel_rfl) (by simp) ?_
              refine AllReadyH.cons (o := { dst := some 11, op := Go.Op.alloc 26, type := 0, pos := "law.go:46", after := #[], guard := none }) rfl (fun K hK => ?_) AllReadyH.nil
              go_simp
              (obtain ⟨v_34, hw_34⟩ : ∃ q, v_33.alloc (.cells zero16 26) = q := ⟨_, rfl⟩; rw [hw_34]; have hb_34 : Below v_33.heap.size v_33 v_34 := (by rw [← hw_34]; exact (Below.refl _ _).alloc (Nat.le_refl _) _); have HW11 := Lib.hid hP_33.size; have HN10x11 : Hid (w5.heap.size ≠ v_33.heap.size) := Lib.hid (Nat.ne_of_lt (Blk.lt hG10_33)); have HN11x10 : Hid (v_33.heap.size ≠ w5.heap.size) := Lib.hid (Nat.ne_of_gt (Blk.lt hG10_33)); have hG10_34 := Blk.below hG10_33 hb_34 (Blk.lt hG10_33); have hP_34 := Below.trans hP_33 (hb_34.mono hP_33.size); have hG11_34 : Blk v_34 v_33.heap.size zero16 26 := (by rw [← hw_34]; exact Blk.new _ _ _); clear hG10_33 hP_33; clear hb_34 hw_34; skip)
              (try go_wp2_with fail)
              refine hK.out _ _ ?_ (fun hHeld => ?_)
              · (try dsimp only)
                first | assumption | (apply Below.drew; assumption)
              clear hK K
              (try simp only [Act.put, List.setIfInBounds_toArray, List.set_cons_zero, List.set_cons_succ])
              refine wpAnyH_ready (rs := [8]) (by kernel_rfl) (by simp) ?_
              refine AllReadyH.cons (o := { dst := none, op := Go.Op.store 26 (Go.Operand.tmp 10) (Go.Operand.tmp 44), type := 0, pos := "law.go:46", after := #[{ on := 6, ground := Go.Ground.data }, { on := 2, ground := Go.Ground.data }, { on := 5, ground := Go.Ground.chain }, { on := 0, ground := Go.Ground.phase }, { on := 1, ground := Go.Ground.phase }, { on := 2, ground := Go.Ground.phase }, { on := 3, ground := Go.Ground.textOnly Go.Departure.lateStores }, { on := 4, ground := Go.Ground.textOnly Go.Departure.lateStores }, { on := 5, ground := Go.Ground.textOnly Go.Departure.lateStoresUnsure }, { on := 6, ground := Go.Ground.phase }, { on := 7, ground := Go.Ground.phase }], guard := none }) rfl (fun K hK => ?_) AllReadyH.nil
              (refine step_store16 rfl (.tmp 10) (.tmp 44) rfl w5.heap.size rfl X1 zero16 rfl hG10_34 HC1.out HC0.out ?_; have hG10_35 := Blk.store16 hG10_34 HC1.out HC0.out; have hG11_35 := (Own.setCells X1.toList 0 v_34).blk hG11_34 HN11x10.out; have hP_35 := Below.set16 (g := w5.heap.size) hP_34 HW10.out hP_34.size X1.toList; obtain ⟨v_35, hw_35⟩ : ∃ q, (v_34.setCells w5.heap.size 0 X1.toList) = q := ⟨_, rfl⟩; rw [hw_35] at hG10_35 hG11_35 hP_35 ⊢; clear hG10_34 hG11_34 hP_34 hw_35; skip)
              refine hK.out _ _ ?_ (fun hHeld => ?_)
              · (try dsimp only)
                first | assumption | (apply Below.drew; assumption)
              clear hK K
              (try simp only [Act.put, List.setIfInBounds_toArray, List.set_cons_zero, List.set_cons_succ])
              refine wpAnyH_ready (rs := [9]) (by kernel_rfl) (by simp) ?_
              refine AllReadyH.cons (o := { dst := none, op := Go.Op.store 26 (Go.Operand.tmp 11) (Go.Operand.tmp 47), type := 0, pos := "law.go:46", after := #[{ on := 7, ground := Go.Ground.data }, { on := 5, ground := Go.Ground.data }, { on := 8, ground := Go.Ground.chain }, { on := 0, ground := Go.Ground.phase }, { on := 1, ground := Go.Ground.phase }, { on := 2, ground := Go.Ground.phase }, { on := 3, ground := Go.Ground.phase }, { on := 4, ground := Go.Ground.phase }, { on := 5, ground := Go.Ground.phase }, { on := 6, ground := Go.Ground.phase }, { on := 7, ground := Go.Ground.phase }, { on := 8, ground := Go.Ground.phase }], guard := none }) rfl (fun K hK => ?_) AllReadyH.nil
              (refine step_store16 rfl (.tmp 11) (.tmp 47) rfl v_33.heap.size rfl X2 zero16 rfl hG11_35 HC2.out HC0.out ?_; have hG11_36 := Blk.store16 hG11_35 HC2.out HC0.out; have hG10_36 := (Own.setCells X2.toList 0 v_35).blk hG10_35 HN10x11.out; have hP_36 := Below.set16 (g := v_33.heap.size) hP_35 HW11.out hP_35.size X2.toList; obtain ⟨v_36, hw_36⟩ : ∃ q, (v_35.setCells v_33.heap.size 0 X2.toList) = q := ⟨_, rfl⟩; rw [hw_36] at hG11_36 hG10_36 hP_36 ⊢; clear hG11_35 hG10_35 hP_35 hw_36; skip)
              refine hK.out _ _ ?_ (fun hHeld => ?_)
              · (try dsimp only)
                first | assumption | (apply Below.drew; assumption)
              clear hK K
              (try simp only [Act.put, List.setIfInBounds_toArray, List.set_cons_zero, List.set_cons_succ])
              refine wpAnyH_done (by kernel_rfl) ?_ _
              go_wp2_with fail
              go_meet
              exact ⟨_, _, rfl, rfl, hG10_36, hG11_36, hP_36⟩
            refine AllReadyH.cons (o := { dst := some 11, op := Go.Op.alloc 26, type := 0, pos := "law.go:46", after := #[], guard := none }) rfl (fun K hK => ?_) AllReadyH.nil
            go_simp
            (obtain ⟨v_37, hw_37⟩ : ∃ q, v_32.alloc (.cells zero16 26) = q := ⟨_, rfl⟩; rw [hw_37]; have hb_37 : Below v_32.heap.size v_32 v_37 := (by rw [← hw_37]; exact (Below.refl _ _).alloc (Nat.le_refl _) _); have HW11 := Lib.hid hP_32.size; have HN10x11 : Hid (w5.heap.size ≠ v_32.heap.size) := Lib.hid (Nat.ne_of_lt (Blk.lt hG10_32)); have HN11x10 : Hid (v_32.heap.size ≠ w5.heap.size) := Lib.hid (Nat.ne_of_gt (Blk.lt hG10_32)); have hG10_37 := Blk.below hG10_32 hb_37 (Blk.lt hG10_32); have hP_37 := Below.trans hP_32 (hb_37.mono hP_32.size); have hG11_37 : Blk v_37 v_32.heap.size zero16 26 := (by rw [← hw_37]; exact Blk.new _ _ _); clear hG10_32 hP_32; clear hb_37 hw_37; skip)
            (try go_wp2_with fail)
            refine hK.out _ _ ?_ (fun hHeld => ?_)
            · (try dsimp only)
              first | assumption | (apply Below.drew; assumption)
            clear hK K
            (try simp only [Act.put, List.setIfInBounds_toArray, List.set_cons_zero, List.set_cons_succ])
            refine wpAnyH_ready (rs := [5]) (by kernel_rfl) (by simp) ?_
            refine AllReadyH.cons (o := { dst := some 47, op := Go.Op.call { callee := Go.Callee.value (Go.Operand.func 11), args := #[Go.Operand.tmp 45, Go.Operand.const (Go.Value.slice none 0 0), Go.Operand.tmp 46], argTypes := #[26, 24, 24] }, type := 26, pos := "law.go:46", after := #[{ on := 3, ground := Go.Ground.data }, { on := 4, ground := Go.Ground.data }, { on := 2, ground := Go.Ground.chain }], guard := none }) rfl (fun K hK => ?_) AllReadyH.nil
            go_simp
            (refine (HH2.out _ (HOW.out _ hP_37)).mono ?_; rintro e v_38 ⟨rfl, hb_38⟩; have hG10_38 := Blk.below hG10_37 hb_38 (Blk.lt hG10_37); have hG11_38 := Blk.below hG11_37 hb_38 (Blk.lt hG11_37); have hP_38 := Below.trans hP_37 (hb_38.mono hP_37.size); clear hG10_37 hG11_37 hP_37; clear hb_38; skip)
            (try go_wp2_with fail)
            refine hK.out _ _ ?_ (fun hHeld => ?_)
            · (try dsimp only)
              first | assumption | (apply Below.drew; assumption)
            clear hK K
            (try simp only [Act.put, List.setIfInBounds_toArray, List.set_cons_zero, List.set_cons_succ])
            refine wpAnyH_ready (rs := [8]) (by kernel_rfl) (by simp) ?_
            refine AllReadyH.cons (o := { dst := none, op := Go.Op.store 26 (Go.Operand.tmp 10) (Go.Operand.tmp 44), type := 0, pos := "law.go:46", after := #[{ on := 6, ground := Go.Ground.data }, { on := 2, ground := Go.Ground.data }, { on := 5, ground := Go.Ground.chain }, { on := 0, ground := Go.Ground.phase }, { on := 1, ground := Go.Ground.phase }, { on := 2, ground := Go.Ground.phase }, { on := 3, ground := Go.Ground.textOnly Go.Departure.lateStores }, { on := 4, ground := Go.Ground.textOnly Go.Departure.lateStores }, { on := 5, ground := Go.Ground.textOnly Go.Departure.lateStoresUnsure }, { on := 6, ground := Go.Ground.phase }, { on := 7, ground := Go.Ground.phase }], guard := none }) rfl (fun K hK => ?_) AllReadyH.nil
            (refine step_store16 rfl (.tmp 10) (.tmp 44) rfl w5.heap.size rfl X1 zero16 rfl hG10_38 HC1.out HC0.out ?_; have hG10_39 := Blk.store16 hG10_38 HC1.out HC0.out; have hG11_39 := (Own.setCells X1.toList 0 v_38).blk hG11_38 HN11x10.out; have hP_39 := Below.set16 (g := w5.heap.size) hP_38 HW10.out hP_38.size X1.toList; obtain ⟨v_39, hw_39⟩ : ∃ q, (v_38.setCells w5.heap.size 0 X1.toList) = q := ⟨_, rfl⟩; rw [hw_39] at hG10_39 hG11_39 hP_39 ⊢; clear hG10_38 hG11_38 hP_38 hw_39; skip)
            refine hK.out _ _ ?_ (fun hHeld => ?_)
            · (try dsimp only)
              first | assumption | (apply Below.drew; assumption)
            clear hK K
            (try simp only [Act.put, List.setIfInBounds_toArray, List.set_cons_zero, List.set_cons_succ])
            refine wpAnyH_ready (rs := [9]) (by kernel_rfl) (by simp) ?_
            refine AllReadyH.cons (o := { dst := none, op := Go.Op.store 26 (Go.Operand.tmp 11) (Go.Operand.tmp 47), type := 0, pos := "law.go:46", after := #[{ on := 7, ground := Go.Ground.data }, { on := 5, ground := Go.Ground.data }, { on := 8, ground := Go.Ground.chain }, { on := 0, ground := Go.Ground.phase }, { on := 1, ground := Go.Ground.phase }, { on := 2, ground := Go.Ground.phase }, { on := 3, ground := Go.Ground.phase }, { on := 4, ground := Go.Ground.phase }, { on := 5, ground := Go.Ground.phase }, { on := 6, ground := Go.Ground.phase }, { on := 7, ground := Go.Ground.phase }, { on := 8, ground := Go.Ground.phase }], guard := none }) rfl (fun K hK => ?_) AllReadyH.nil
            (refine step_store16 rfl (.tmp 11) (.tmp 47) rfl v_32.heap.size rfl X2 zero16 rfl hG11_39 HC2.out HC0.out ?_; have hG11_40 := Blk.store16 hG11_39 HC2.out HC0.out; have hG10_40 := (Own.setCells X2.toList 0 v_39).blk hG10_39 HN10x11.out; have hP_40 := Below.set16 (g := v_32.heap.size) hP_39 HW11.out hP_39.size X2.toList; obtain ⟨v_40, hw_40⟩ : ∃ q, (v_39.setCells v_32.heap.size 0 X2.toList) = q := ⟨_, rfl⟩; rw [hw_40] at hG11_40 hG10_40 hP_40 ⊢; clear hG11_39 hG10_39 hP_39 hw_40; skip)
            refine hK.out _ _ ?_ (fun hHeld => ?_)
            · (try dsimp only)
              first | assumption | (apply Below.drew; assumption)
            clear hK K
            (try simp only [Act.put, List.setIfInBounds_toArray, List.set_cons_zero, List.set_cons_succ])
            refine wpAnyH_done (by kernel_rfl) ?_ _
            go_wp2_with fail
            go_meet
            exact ⟨_, _, rfl, rfl, hG10_40, hG11_40, hP_40⟩
          refine AllReadyH.cons (o := { dst := some 11, op := Go.Op.alloc 26, type := 0, pos := "law.go:46", after := #[], guard := none }) rfl (fun K hK => ?_) AllReadyH.nil
          go_simp
          (obtain ⟨v_41, hw_41⟩ : ∃ q, v_31.alloc (.cells zero16 26) = q := ⟨_, rfl⟩; rw [hw_41]; have hb_41 : Below v_31.heap.size v_31 v_41 := (by rw [← hw_41]; exact (Below.refl _ _).alloc (Nat.le_refl _) _); have HW11 := Lib.hid hP_31.size; have HN10x11 : Hid (w5.heap.size ≠ v_31.heap.size) := Lib.hid (Nat.ne_of_lt (Blk.lt hG10_31)); have HN11x10 : Hid (v_31.heap.size ≠ w5.heap.size) := Lib.hid (Nat.ne_of_gt (Blk.lt hG10_31)); have hG10_41 := Blk.below hG10_31 hb_41 (Blk.lt hG10_31); have hP_41 := Below.trans hP_31 (hb_41.mono hP_31.size); have hG11_41 : Blk v_41 v_31.heap.size zero16 26 := (by rw [← hw_41]; exact Blk.new _ _ _); clear hG10_31 hP_31; clear hb_41 hw_41; skip)
          (try go_wp2_with fail)
          refine hK.out _ _ ?_ (fun hHeld => ?_)
          · (try dsimp only)
            first | assumption | (apply Below.drew; assumption)
          clear hK K
          (try simp only [Act.put, List.setIfInBounds_toArray, List.set_cons_zero, List.set_cons_succ])
          refine wpAnyH_ready (rs := [2]) (by kernel_rfl) (by simp) ?_
          refine AllReadyH.cons (o := { dst := some 44, op := Go.Op.call { callee := Go.Callee.value (Go.Operand.func 11), args := #[Go.Operand.tmp 42, Go.Operand.const (Go.Value.slice none 0 0), Go.Operand.tmp 43], argTypes := #[26, 24, 24] }, type := 26, pos := "law.go:46", after := #[{ on := 0, ground := Go.Ground.data }, { on := 1, ground := Go.Ground.data }], guard := none }) rfl (fun K hK => ?_) AllReadyH.nil
          go_simp
          (refine (HH1.out _ (HOW.out _ hP_41)).mono ?_; rintro e v_42 ⟨rfl, hb_42⟩; have hG10_42 := Blk.below hG10_41 hb_42 (Blk.lt hG10_41); have hG11_42 := Blk.below hG11_41 hb_42 (Blk.lt hG11_41); have hP_42 := Below.trans hP_41 (hb_42.mono hP_41.size); clear hG10_41 hG11_41 hP_41; clear hb_42; skip)
          (try go_wp2_with fail)
          refine hK.out _ _ ?_ (fun hHeld => ?_)
          · (try dsimp only)
            first | assumption | (apply Below.drew; assumption)
          clear hK K
          (try simp only [Act.put, List.setIfInBounds_toArray, List.set_cons_zero, List.set_cons_succ])
          refine wpAnyH_ready (rs := [5]) (by kernel_rfl) (by simp) ?_
          refine AllReadyH.cons (o := { dst := some 47, op := Go.Op.call { callee := Go.Callee.value (Go.Operand.func 11), args := #[Go.Operand.tmp 45, Go.Operand.const (Go.Value.slice none 0 0), Go.Operand.tmp 46], argTypes := #[26, 24, 24] }, type := 26, pos := "law.go:46", after := #[{ on := 3, ground := Go.Ground.data }, { on := 4, ground := Go.Ground.data }, { on := 2, ground := Go.Ground.chain }], guard := none }) rfl (fun K hK => ?_) AllReadyH.nil
          go_simp
          (refine (HH2.out _ (HOW.out _ hP_42)).mono ?_; rintro e v_43 ⟨rfl, hb_43⟩; have hG10_43 := Blk.below hG10_42 hb_43 (Blk.lt hG10_42); have hG11_43 := Blk.below hG11_42 hb_43 (Blk.lt hG11_42); have hP_43 := Below.trans hP_42 (hb_43.mono hP_42.size); clear hG10_42 hG11_42 hP_42; clear hb_43; skip)
          (try go_wp2_with fail)
          refine hK.out _ _ ?_ (fun hHeld => ?_)
          · (try dsimp only)
            first | assumption | (apply Below.drew; assumption)
          clear hK K
          (try simp only [Act.put, List.setIfInBounds_toArray, List.set_cons_zero, List.set_cons_succ])
          refine wpAnyH_ready (rs := [8]) (by kernel_rfl) (by simp) ?_
          refine AllReadyH.cons (o := { dst := none, op := Go.Op.store 26 (Go.Operand.tmp 10) (Go.Operand.tmp 44), type := 0, pos := "law.go:46", after := #[{ on := 6, ground := Go.Ground.data }, { on := 2, ground := Go.Ground.data }, { on := 5, ground := Go.Ground.chain }, { on := 0, ground := Go.Ground.phase }, { on := 1, ground := Go.Ground.phase }, { on := 2, ground := Go.Ground.phase }, { on := 3, ground := Go.Ground.textOnly Go.Departure.lateStores }, { on := 4, ground := Go.Ground.textOnly Go.Departure.lateStores }, { on := 5, ground := Go.Ground.textOnly Go.Departure.lateStoresUnsure }, { on := 6, ground := Go.Ground.phase }, { on := 7, ground := Go.Ground.phase }], guard := none }) rfl (fun K hK => ?_) AllReadyH.nil
          (refine step_store16 rfl (.tmp 10) (.tmp 44) rfl w5.heap.size rfl X1 zero16 rfl hG10_43 HC1.out HC0.out ?_; have hG10_44 := Blk.store16 hG10_43 HC1.out HC0.out; have hG11_44 := (Own.setCells X1.toList 0 v_43).blk hG11_43 HN11x10.out; have hP_44 := Below.set16 (g := w5.heap.size) hP_43 HW10.out hP_43.size X1.toList; obtain ⟨v_44, hw_44⟩ : ∃ q, (v_43.setCells w5.heap.size 0 X1.toList) = q := ⟨_, rfl⟩; rw [hw_44] at hG10_44 hG11_44 hP_44 ⊢; clear hG10_43 hG11_43 hP_43 hw_44; skip)
          refine hK.out _ _ ?_ (fun hHeld => ?_)
          · (try dsimp only)
            first | assumption | (apply Below.drew; assumption)
          clear hK K
          (try simp only [Act.put, List.setIfInBounds_toArray, List.set_cons_zero, List.set_cons_succ])
          refine wpAnyH_ready (rs := [9]) (by kernel_rfl) (by simp) ?_
          refine AllReadyH.cons (o := { dst := none, op := Go.Op.store 26 (Go.Operand.tmp 11) (Go.Operand.tmp 47), type := 0, pos := "law.go:46", after := #[{ on := 7, ground := Go.Ground.data }, { on := 5, ground := Go.Ground.data }, { on := 8, ground := Go.Ground.chain }, { on := 0, ground := Go.Ground.phase }, { on := 1, ground := Go.Ground.phase }, { on := 2, ground := Go.Ground.phase }, { on := 3, ground := Go.Ground.phase }, { on := 4, ground := Go.Ground.phase }, { on := 5, ground := Go.Ground.phase }, { on := 6, ground := Go.Ground.phase }, { on := 7, ground := Go.Ground.phase }, { on := 8, ground := Go.Ground.phase }], guard := none }) rfl (fun K hK => ?_) AllReadyH.nil
          (refine step_store16 rfl (.tmp 11) (.tmp 47) rfl v_31.heap.size rfl X2 zero16 rfl hG11_44 HC2.out HC0.out ?_; have hG11_45 := Blk.store16 hG11_44 HC2.out HC0.out; have hG10_45 := (Own.setCells X2.toList 0 v_44).blk hG10_44 HN10x11.out; have hP_45 := Below.set16 (g := v_31.heap.size) hP_44 HW11.out hP_44.size X2.toList; obtain ⟨v_45, hw_45⟩ : ∃ q, (v_44.setCells v_31.heap.size 0 X2.toList) = q := ⟨_, rfl⟩; rw [hw_45] at hG11_45 hG10_45 hP_45 ⊢; clear hG11_44 hG10_44 hP_44 hw_45; skip)
          refine hK.out _ _ ?_ (fun hHeld => ?_)
          · (try dsimp only)
            first | assumption | (apply Below.drew; assumption)
          clear hK K
          (try simp only [Act.put, List.setIfInBounds_toArray, List.set_cons_zero, List.set_cons_succ])
          refine wpAnyH_done (by kernel_rfl) ?_ _
          go_wp2_with fail
          go_meet
          exact ⟨_, _, rfl, rfl, hG10_45, hG11_45, hP_45⟩
        refine AllReadyH.cons (o := { dst := some 11, op := Go.Op.alloc 26, type := 0, pos := "law.go:46", after := #[], guard := none }) rfl (fun K hK => ?_) AllReadyH.nil
        go_simp
        (obtain ⟨v_46, hw_46⟩ : ∃ q, w5.alloc (.cells zero16 26) = q := ⟨_, rfl⟩; rw [hw_46]; have hb_46 : Below w5.heap.size w5 v_46 := (by rw [← hw_46]; exact (Below.refl _ _).alloc (Nat.le_refl _) _); have HW11 := Lib.hid hP_0.size; have hP_46 := Below.trans hP_0 (hb_46.mono hP_0.size); have hG11_46 : Blk v_46 w5.heap.size zero16 26 := (by rw [← hw_46]; exact Blk.new _ _ _); clear hP_0; clear hb_46 hw_46; skip)
        (try go_wp2_with fail)
        refine hK.out _ _ ?_ (fun hHeld => ?_)
        · (try dsimp only)
          first | assumption | (apply Below.drew; assumption)
        clear hK K
        (try simp only [Act.put, List.setIfInBounds_toArray, List.set_cons_zero, List.set_cons_succ])
        refine wpAnyH_ready (rs := [2, 6]) (by kernel_rfl) (by simp) ?_
        refine AllReadyH.cons (o := { dst := some 44, op := Go.Op.call { callee := Go.Callee.value (Go.Operand.func 11), args := #[Go.Operand.tmp 42, Go.Operand.const (Go.Value.slice none 0 0), Go.Operand.tmp 43], argTypes := #[26, 24, 24] }, type := 26, pos := "law.go:46", after := #[{ on := 0, ground := Go.Ground.data }, { on := 1, ground := Go.Ground.data }], guard := none }) rfl (fun K hK => ?_) ?_
        · skip
          go_simp
          (refine (HH1.out _ (HOW.out _ hP_46)).mono ?_; rintro e v_47 ⟨rfl, hb_47⟩; have hG11_47 := Blk.below hG11_46 hb_47 (Blk.lt hG11_46); have hP_47 := Below.trans hP_46 (hb_47.mono hP_46.size); clear hG11_46 hP_46; clear hb_47; skip)
          (try go_wp2_with fail)
          refine hK.out _ _ ?_ (fun hHeld => ?_)
          · (try dsimp only)
            first | assumption | (apply Below.drew; assumption)
          clear hK K
          (try simp only [Act.put, List.setIfInBounds_toArray, List.set_cons_zero, List.set_cons_succ])
          refine wpAnyH_ready (rs := [5, 6]) (by kernel_rfl) (by simp) ?_
          refine AllReadyH.cons (o := { dst := some 47, op := Go.Op.call { callee := Go.Callee.value (Go.Operand.func 11), args := #[Go.Operand.tmp 45, Go.Operand.const (Go.Value.slice none 0 0), Go.Operand.tmp 46], argTypes := #[26, 24, 24] }, type := 26, pos := "law.go:46", after := #[{ on := 3, ground := Go.Ground.data }, { on := 4, ground := Go.Ground.data }, { on := 2, ground := Go.Ground.chain }], guard := none }) rfl (fun K hK => ?_) ?_
          · skip
            go_simp
            (refine (HH2.out _ (HOW.out _ hP_47)).mono ?_; rintro e v_48 ⟨rfl, hb_48⟩; have hG11_48 := Blk.below hG11_47 hb_48 (Blk.lt hG11_47); have hP_48 := Below.trans hP_47 (hb_48.mono hP_47.size); clear hG11_47 hP_47; clear hb_48; skip)
            (try go_wp2_with fail)
            refine hK.out _ _ ?_ (fun hHeld => ?_)
            · (try dsimp only)
              first | assumption | (apply Below.drew; assumption)
            clear hK K
            (try simp only [Act.put, List.setIfInBounds_toArray, List.set_cons_zero, List.set_cons_succ])
            refine wpAnyH_ready (rs := [6]) (by kernel_rfl) (by simp) ?_
            refine AllReadyH.cons (o := { dst := some 10, op := Go.Op.alloc 26, type := 0, pos := "law.go:46", after := #[], guard := none }) rfl (fun K hK => ?_) AllReadyH.nil
            go_simp
            (obtain ⟨v_49, hw_49⟩ : ∃ q, v_48.alloc (.cells zero16 26) = q := ⟨_, rfl⟩; rw [hw_49]; have hb_49 : Below v_48.heap.size v_48 v_49 := (by rw [← hw_49]; exact (Below.refl _ _).alloc (Nat.le_refl _) _); have HW10 := Lib.hid hP_48.size; have HN11x10 : Hid (w5.heap.size ≠ v_48.heap.size) := Lib.hid (Nat.ne_of_lt (Blk.lt hG11_48)); have HN10x11 : Hid (v_48.heap.size ≠ w5.heap.size) := Lib.hid (Nat.ne_of_gt (Blk.lt hG11_48)); have hG11_49 := Blk.below hG11_48 hb_49 (Blk.lt hG11_48); have hP_49 := Below.trans hP_48 (hb_49.mono hP_48.size); have hG10_49 : Blk v_49 v_48.heap.size zero16 26 := (by rw [← hw_49]; exact Blk.new _ _ _); clear hG11_48 hP_48; clear hb_49 hw_49; skip)
            (try go_wp2_with fail)
            refine hK.out _ _ ?_ (fun hHeld => ?_)
            · (try dsimp only)
              first | assumption | (apply Below.drew; assumption)
            clear hK K
            (try simp only [Act.put, List.setIfInBounds_toArray, List.set_cons_zero, List.set_cons_succ])
            refine wpAnyH_ready (rs := [8]) (by kernel_rfl) (by simp) ?_
            refine AllReadyH.cons (o := { dst := none, op := Go.Op.store 26 (Go.Operand.tmp 10) (Go.Operand.tmp 44), type := 0, pos := "law.go:46", after := #[{ on := 6, ground := Go.Ground.data }, { on := 2, ground := Go.Ground.data }, { on := 5, ground := Go.Ground.chain }, { on := 0, ground := Go.Ground.phase }, { on := 1, ground := Go.Ground.phase }, { on := 2, ground := Go.Ground.phase }, { on := 3, ground := Go.Ground.textOnly Go.Departure.lateStores }, { on := 4, ground := Go.Ground.textOnly Go.Departure.lateStores }, { on := 5, ground := Go.Ground.textOnly Go.Departure.lateStoresUnsure }, { on := 6, ground := Go.Ground.phase }, { on := 7, ground := Go.Ground.phase }], guard := none }) rfl (fun K hK => ?_) AllReadyH.nil
            (refine step_store16 rfl (.tmp 10) (.tmp 44) rfl v_48.heap.size rfl X1 zero16 rfl hG10_49 HC1.out HC0.out ?_; have hG10_50 := Blk.store16 hG10_49 HC1.out HC0.out; have hG11_50 := (Own.setCells X1.toList 0 v_49).blk hG11_49 HN11x10.out; have hP_50 := Below.set16 (g := v_48.heap.size) hP_49 HW10.out hP_49.size X1.toList; obtain ⟨v_50, hw_50⟩ : ∃ q, (v_49.setCells v_48.heap.size 0 X1.toList) = q := ⟨_, rfl⟩; rw [hw_50] at hG10_50 hG11_50 hP_50 ⊢; clear hG10_49 hG11_49 hP_49 hw_50; skip)
            refine hK.out _ _ ?_ (fun hHeld => ?_)
            · (try dsimp only)
              first | assumption | (apply Below.drew; assumption)
            clear hK K
            (try simp only [Act.put, List.setIfInBounds_toArray, List.set_cons_zero, List.set_cons_succ])
            refine wpAnyH_ready (rs := [9]) (by kernel_rfl) (by simp) ?_
            refine AllReadyH.cons (o := { dst := none, op := Go.Op.store 26 (Go.Operand.tmp 11) (Go.Operand.tmp 47), type := 0, pos := "law.go:46", after := #[{ on := 7, ground := Go.Ground.data }, { on := 5, ground := Go.Ground.data }, { on := 8, ground := Go.Ground.chain }, { on := 0, ground := Go.Ground.phase }, { on := 1, ground := Go.Ground.phase }, { on := 2, ground := Go.Ground.phase }, { on := 3, ground := Go.Ground.phase }, { on := 4, ground := Go.Ground.phase }, { on := 5, ground := Go.Ground.phase }, { on := 6, ground := Go.Ground.phase }, { on := 7, ground := Go.Ground.phase }, { on := 8, ground := Go.Ground.phase }], guard := none }) rfl (fun K hK => ?_) AllReadyH.nil
            (refine step_store16 rfl (.tmp 11) (.tmp 47) rfl w5.heap.size rfl X2 zero16 rfl hG11_50 HC2.out HC0.out ?_; have hG11_51 := Blk.store16 hG11_50 HC2.out HC0.out; have hG10_51 := (Own.setCells X2.toList 0 v_50).blk hG10_50 HN10x11.out; have hP_51 := Below.set16 (g := w5.heap.size) hP_50 HW11.out hP_50.size X2.toList; obtain ⟨v_51, hw_51⟩ : ∃ q, (v_50.setCells w5.heap.size 0 X2.toList) = q := ⟨_, rfl⟩; rw [hw_51] at hG11_51 hG10_51 hP_51 ⊢; clear hG11_50 hG10_50 hP_50 hw_51; skip)
            refine hK.out _ _ ?_ (fun hHeld => ?_)
            · (try dsimp only)
              first | assumption | (apply Below.drew; assumption)
            clear hK K
            (try simp only [Act.put, List.setIfInBounds_toArray, List.set_cons_zero, List.set_cons_succ])
            refine wpAnyH_done (by kernel_rfl) ?_ _
            go_wp2_with fail
            go_meet
            exact ⟨_, _, rfl, rfl, hG10_51, hG11_51, hP_51⟩
          refine AllReadyH.cons (o := { dst := some 10, op := Go.Op.alloc 26, type := 0, pos := "law.go:46", after := #[], guard := none }) rfl (fun K hK => ?_) AllReadyH.nil
          go_simp
          (obtain ⟨v_52, hw_52⟩ : ∃ q, v_47.alloc (.cells zero16 26) = q := ⟨_, rfl⟩; rw [hw_52]; have hb_52 : Below v_47.heap.size v_47 v_52 := (by rw [← hw_52]; exact (Below.refl _ _).alloc (Nat.le_refl _) _); have HW10 := Lib.hid hP_47.size; have HN11x10 : Hid (w5.heap.size ≠ v_47.heap.size) := Lib.hid (Nat.ne_of_lt (Blk.lt hG11_47)); have HN10x11 : Hid (v_47.heap.size ≠ w5.heap.size) := Lib.hid (Nat.ne_of_gt (Blk.lt hG11_47)); have hG11_52 := Blk.below hG11_47 hb_52 (Blk.lt hG11_47); have hP_52 := Below.trans hP_47 (hb_52.mono hP_47.size); have hG10_52 : Blk v_52 v_47.heap.size zero16 26 := (by rw [← hw_52]; exact Blk.new _ _ _); clear hG11_47 hP_47; clear hb_52 hw_52; skip)
          (try go_wp2_with fail)
          refine hK.out _ _ ?_ (fun hHeld => ?_)
          · (try dsimp only)
            first | assumption | (apply Below.drew; assumption)
          clear hK K
          (try simp only [Act.put, List.setIfInBounds_toArray, List.set_cons_zero, List.set_cons_succ])
          refine wpAnyH_ready (rs := [5]) (by kernel_rfl) (by simp) ?_
          refine AllReadyH.cons (o := { dst := some 47, op := Go.Op.call { callee := Go.Callee.value (Go.Operand.func 11), args := #[Go.Operand.tmp 45, Go.Operand.const (Go.Value.slice none 0 0), Go.Operand.tmp 46], argTypes := #[26, 24, 24] }, type := 26, pos := "law.go:46", after := #[{ on := 3, ground := Go.Ground.data }, { on := 4, ground := Go.Ground.data }, { on := 2, ground := Go.Ground.chain }], guard := none }) rfl (fun K hK => ?_) AllReadyH.nil
          go_simp
          (refine (HH2.out _ (HOW.out _ hP_52)).mono ?_; rintro e v_53 ⟨rfl, hb_53⟩; have hG11_53 := Blk.below hG11_52 hb_53 (Blk.lt hG11_52); have hG10_53 := Blk.below hG10_52 hb_53 (Blk.lt hG10_52); have hP_53 := Below.trans hP_52 (hb_53.mono hP_52.size); clear hG11_52 hG10_52 hP_52; clear hb_53; skip)
          (try go_wp2_with fail)
          refine hK.out _ _ ?_ (fun hHeld => ?_)
          · (try dsimp only)
            first | assumption | (apply Below.drew; assumption)
          clear hK K
          (try simp only [Act.put, List.setIfInBounds_toArray, List.set_cons_zero, List.set_cons_succ])
          refine wpAnyH_ready (rs := [8]) (by kernel_rfl) (by simp) ?_
          refine AllReadyH.cons (o := { dst := none, op := Go.Op.store 26 (Go.Operand.tmp 10) (Go.Operand.tmp 44), type := 0, pos := "law.go:46", after := #[{ on := 6, ground := Go.Ground.data }, { on := 2, ground := Go.Ground.data }, { on := 5, ground := Go.Ground.chain }, { on := 0, ground := Go.Ground.phase }, { on := 1, ground := Go.Ground.phase }, { on := 2, ground := Go.Ground.phase }, { on := 3, ground := Go.Ground.textOnly Go.Departure.lateStores }, { on := 4, ground := Go.Ground.textOnly Go.Departure.lateStores }, { on := 5, ground := Go.Ground.textOnly Go.Departure.lateStoresUnsure }, { on := 6, ground := Go.Ground.phase }, { on := 7, ground := Go.Ground.phase }], guard := none }) rfl (fun K hK => ?_) AllReadyH.nil
          (refine step_store16 rfl (.tmp 10) (.tmp 44) rfl v_47.heap.size rfl X1 zero16 rfl hG10_53 HC1.out HC0.out ?_; have hG10_54 := Blk.store16 hG10_53 HC1.out HC0.out; have hG11_54 := (Own.setCells X1.toList 0 v_53).blk hG11_53 HN11x10.out; have hP_54 := Below.set16 (g := v_47.heap.size) hP_53 HW10.out hP_53.size X1.toList; obtain ⟨v_54, hw_54⟩ : ∃ q, (v_53.setCells v_47.heap.size 0 X1.toList) = q := ⟨_, rfl⟩; rw [hw_54] at hG10_54 hG11_54 hP_54 ⊢; clear hG10_53 hG11_53 hP_53 hw_54; skip)
          refine hK.out _ _ ?_ (fun hHeld => ?_)
          · (try dsimp only)
            first | assumption | (apply Below.drew; assumption)
          clear hK K
          (try simp only [Act.put, List.setIfInBounds_toArray, List.set_cons_zero, List.set_cons_succ])
          refine wpAnyH_ready (rs := [9]) (by kernel_rfl) (by simp) ?_
          refine AllReadyH.cons (o := { dst := none, op := Go.Op.store 26 (Go.Operand.tmp 11) (Go.Operand.tmp 47), type := 0, pos := "law.go:46", after := #[{ on := 7, ground := Go.Ground.data }, { on := 5, ground := Go.Ground.data }, { on := 8, ground := Go.Ground.chain }, { on := 0, ground := Go.Ground.phase }, { on := 1, ground := Go.Ground.phase }, { on := 2, ground := Go.Ground.phase }, { on := 3, ground := Go.Ground.phase }, { on := 4, ground := Go.Ground.phase }, { on := 5, ground := Go.Ground.phase }, { on := 6, ground := Go.Ground.phase }, { on := 7, ground := Go.Ground.phase }, { on := 8, ground := Go.Ground.phase }], guard := none }) rfl (fun K hK => ?_) AllReadyH.nil
          (refine step_store16 rfl (.tmp 11) (.tmp 47) rfl w5.heap.size rfl X2 zero16 rfl hG11_54 HC2.out HC0.out ?_; have hG11_55 := Blk.store16 hG11_54 HC2.out HC0.out; have hG10_55 := (Own.setCells X2.toList 0 v_54).blk hG10_54 HN10x11.out; have hP_55 := Below.set16 (g := w5.heap.size) hP_54 HW11.out hP_54.size X2.toList; obtain ⟨v_55, hw_55⟩ : ∃ q, (v_54.setCells w5.heap.size 0 X2.toList) = q := ⟨_, rfl⟩; rw [hw_55] at hG11_55 hG10_55 hP_55 ⊢; clear hG11_54 hG10_54 hP_54 hw_55; skip)
          refine hK.out _ _ ?_ (fun hHeld => ?_)
          · (try dsimp only)
            first | assumption | (apply Below.drew; assumption)
          clear hK K
          (try simp only [Act.put, List.setIfInBounds_toArray, List.set_cons_zero, List.set_cons_succ])
          refine wpAnyH_done (by kernel_rfl) ?_ _
          go_wp2_with fail
          go_meet
          exact ⟨_, _, rfl, rfl, hG10_55, hG11_55, hP_55⟩
        refine AllReadyH.cons (o := { dst := some 10, op := Go.Op.alloc 26, type := 0, pos := "law.go:46", after := #[], guard := none }) rfl (fun K hK => ?_) AllReadyH.nil
        go_simp
        (obtain ⟨v_56, hw_56⟩ : ∃ q, v_46.alloc (.cells zero16 26) = q := ⟨_, rfl⟩; rw [hw_56]; have hb_56 : Below v_46.heap.size v_46 v_56 := (by rw [← hw_56]; exact (Below.refl _ _).alloc (Nat.le_refl _) _); have HW10 := Lib.hid hP_46.size; have HN11x10 : Hid (w5.heap.size ≠ v_46.heap.size) := Lib.hid (Nat.ne_of_lt (Blk.lt hG11_46)); have HN10x11 : Hid (v_46.heap.size ≠ w5.heap.size) := Lib.hid (Nat.ne_of_gt (Blk.lt hG11_46)); have hG11_56 := Blk.below hG11_46 hb_56 (Blk.lt hG11_46); have hP_56 := Below.trans hP_46 (hb_56.mono hP_46.size); have hG10_56 : Blk v_56 v_46.heap.size zero16 26 := (by rw [← hw_56]; exact Blk.new _ _ _); clear hG11_46 hP_46; clear hb_56 hw_56; skip)
        (try go_wp2_with fail)
        refine hK.out _ _ ?_ (fun hHeld => ?_)
        · (try dsimp only)
          first | assumption | (apply Below.drew; assumption)
        clear hK K
        (try simp only [Act.put, List.setIfInBounds_toArray, List.set_cons_zero, List.set_cons_succ])
        refine wpAnyH_ready (rs := [2]) (by kernel_rfl) (by simp) ?_
        refine AllReadyH.cons (o := { dst := some 44, op := Go.Op.call { callee := Go.Callee.value (Go.Operand.func 11), args := #[Go.Operand.tmp 42, Go.Operand.const (Go.Value.slice none 0 0), Go.Operand.tmp 43], argTypes := #[26, 24, 24] }, type := 26, pos := "law.go:46", after := #[{ on := 0, ground := Go.Ground.data }, { on := 1, ground := Go.Ground.data }], guard := none }) rfl (fun K hK => ?_) AllReadyH.nil
        go_simp
        (refine (HH1.out _ (HOW.out _ hP_56)).mono ?_; rintro e v_57 ⟨rfl, hb_57⟩; have hG11_57 := Blk.below hG11_56 hb_57 (Blk.lt hG11_56); have hG10_57 := Blk.below hG10_56 hb_57 (Blk.lt hG10_56); have hP_57 := Below.trans hP_56 (hb_57.mono hP_56.size); clear hG11_56 hG10_56 hP_56; clear hb_57; skip)
        (try go_wp2_with fail)
        refine hK.out _ _ ?_ (fun hHeld => ?_)
        · (try dsimp only)
          first | assumption | (apply Below.drew; assumption)
        clear hK K
        (try simp only [Act.put, List.setIfInBounds_toArray, List.set_cons_zero, List.set_cons_succ])
        refine wpAnyH_ready (rs := [5]) (by kernel_rfl) (by simp) ?_
        refine AllReadyH.cons (o := { dst := some 47, op := Go.Op.call { callee := Go.Callee.value (Go.Operand.func 11), args := #[Go.Operand.tmp 45, Go.Operand.const (Go.Value.slice none 0 0), Go.Operand.tmp 46], argTypes := #[26, 24, 24] }, type := 26, pos := "law.go:46", after := #[{ on := 3, ground := Go.Ground.data }, { on := 4, ground := Go.Ground.data }, { on := 2, ground := Go.Ground.chain }], guard := none }) rfl (fun K hK => ?_) AllReadyH.nil
        go_simp
        (refine (HH2.out _ (HOW.out _ hP_57)).mono ?_; rintro e v_58 ⟨rfl, hb_58⟩; have hG11_58 := Blk.below hG11_57 hb_58 (Blk.lt hG11_57); have hG10_58 := Blk.below hG10_57 hb_58 (Blk.lt hG10_57); have hP_58 := Below.trans hP_57 (hb_58.mono hP_57.size); clear hG11_57 hG10_57 hP_57; clear hb_58; skip)
        (try go_wp2_with fail)
        refine hK.out _ _ ?_ (fun hHeld => ?_)
        · (try dsimp only)
          first | assumption | (apply Below.drew; assumption)
        clear hK K
        (try simp only [Act.put, List.setIfInBounds_toArray, List.set_cons_zero, List.set_cons_succ])
        refine wpAnyH_ready (rs := [8]) (by kernel_rfl) (by simp) ?_
        refine AllReadyH.cons (o := { dst := none, op := Go.Op.store 26 (Go.Operand.tmp 10) (Go.Operand.tmp 44), type := 0, pos := "law.go:46", after := #[{ on := 6, ground := Go.Ground.data }, { on := 2, ground := Go.Ground.data }, { on := 5, ground := Go.Ground.chain }, { on := 0, ground := Go.Ground.phase }, { on := 1, ground := Go.Ground.phase }, { on := 2, ground := Go.Ground.phase }, { on := 3, ground := Go.Ground.textOnly Go.Departure.lateStores }, { on := 4, ground := Go.Ground.textOnly Go.Departure.lateStores }, { on := 5, ground := Go.Ground.textOnly Go.Departure.lateStoresUnsure }, { on := 6, ground := Go.Ground.phase }, { on := 7, ground := Go.Ground.phase }], guard := none }) rfl (fun K hK => ?_) AllReadyH.nil
        (refine step_store16 rfl (.tmp 10) (.tmp 44) rfl v_46.heap.size rfl X1 zero16 rfl hG10_58 HC1.out HC0.out ?_; have hG10_59 := Blk.store16 hG10_58 HC1.out HC0.out; have hG11_59 := (Own.setCells X1.toList 0 v_58).blk hG11_58 HN11x10.out; have hP_59 := Below.set16 (g := v_46.heap.size) hP_58 HW10.out hP_58.size X1.toList; obtain ⟨v_59, hw_59⟩ : ∃ q, (v_58.setCells v_46.heap.size 0 X1.toList) = q := ⟨_, rfl⟩; rw [hw_59] at hG10_59 hG11_59 hP_59 ⊢; clear hG10_58 hG11_58 hP_58 hw_59; skip)
        refine hK.out _ _ ?_ (fun hHeld => ?_)
        · (try dsimp only)
          first | assumption | (apply Below.drew; assumption)
        clear hK K
        (try simp only [Act.put, List.setIfInBounds_toArray, List.set_cons_zero, List.set_cons_succ])
        refine wpAnyH_ready (rs := [9]) (by kernel_rfl) (by simp) ?_
        refine AllReadyH.cons (o := { dst := none, op := Go.Op.store 26 (Go.Operand.tmp 11) (Go.Operand.tmp 47), type := 0, pos := "law.go:46", after := #[{ on := 7, ground := Go.Ground.data }, { on := 5, ground := Go.Ground.data }, { on := 8, ground := Go.Ground.chain }, { on := 0, ground := Go.Ground.phase }, { on := 1, ground := Go.Ground.phase }, { on := 2, ground := Go.Ground.phase }, { on := 3, ground := Go.Ground.phase }, { on := 4, ground := Go.Ground.phase }, { on := 5, ground := Go.Ground.phase }, { on := 6, ground := Go.Ground.phase }, { on := 7, ground := Go.Ground.phase }, { on := 8, ground := Go.Ground.phase }], guard := none }) rfl (fun K hK => ?_) AllReadyH.nil
        (refine step_store16 rfl (.tmp 11) (.tmp 47) rfl w5.heap.size rfl X2 zero16 rfl hG11_59 HC2.out HC0.out ?_; have hG11_60 := Blk.store16 hG11_59 HC2.out HC0.out; have hG10_60 := (Own.setCells X2.toList 0 v_59).blk hG10_59 HN10x11.out; have hP_60 := Below.set16 (g := w5.heap.size) hP_59 HW11.out hP_59.size X2.toList; obtain ⟨v_60, hw_60⟩ : ∃ q, (v_59.setCells w5.heap.size 0 X2.toList) = q := ⟨_, rfl⟩; rw [hw_60] at hG11_60 hG10_60 hP_60 ⊢; clear hG11_59 hG10_59 hP_59 hw_60; skip)
        refine hK.out _ _ ?_ (fun hHeld => ?_)
        · (try dsimp only)
          first | assumption | (apply Below.drew; assumption)
        clear hK K
        (try simp only [Act.put, List.setIfInBounds_toArray, List.set_cons_zero, List.set_cons_succ])
        refine wpAnyH_done (by kernel_rfl) ?_ _
        go_wp2_with fail
        go_meet
        exact ⟨_, _, rfl, rfl, hG10_60, hG11_60, hP_60⟩
      case rest =>
        obtain ⟨g10, g11, rfl, rfl, h10, h11, hP⟩ := hcut
        have H10 : Hid (∀ w', Below wc.heap.size wc w' → Blk w' g10 X1 26) := Lib.hid fun w' hb' => Blk.below h10 hb' (Blk.lt h10)
        have H11 : Hid (∀ w', Below wc.heap.size wc w' → Blk w' g11 X2 26) := Lib.hid fun w' hb' => Blk.below h11 hb' (Blk.lt h11)
        have HPW : Hid (∀ w', Below wc.heap.size wc w' → Below wr.heap.size wr w') := Lib.hid fun w' hb' => hP.trans (hb'.mono hP.size)
        clear h10 h11 hP
        go_wp2_with fail
        have hP_0 : Below wc.heap.size wc wc.drew := (Below.refl _ wc).drew
        refine wp_region_held_drew (S := (Below wc.heap.size wc)) (by kernel_rfl) ?_ (fun hHeld => ?_)
        · (try dsimp only)
          first | assumption | (apply Below.drew; assumption)
        generalize wc.drew = w5 at *
        refine wpAnyH_take (i := 0) (oi := { dst := some 48, op := Go.Op.load 26 (Go.Operand.tmp 10), type := 26, pos := "law.go:47", after := #[], guard := none }) (v := ?_) rfl (by kernel_rfl) (by kernel_rfl) (by kernel_rfl) (fun _ _ _ h => h) (Or.inl ⟨by rfl, ?_⟩) (by assumption) ?_
        rotate_left
        · intro w hSw
          refine exec_load16 (x := .tmp 10) ?_ ?_ (ld16 (H10.out _ hSw) HI1.out) <;> rfl
        (try simp only [Act.put, List.setIfInBounds_toArray, List.set_cons_zero, List.set_cons_succ])
        refine wpAnyH_take (i := 1) (oi := { dst := some 49, op := Go.Op.load 26 (Go.Operand.tmp 11), type := 26, pos := "law.go:47", after := #[], guard := none }) (v := ?_) rfl (by kernel_rfl) (by kernel_rfl) (by kernel_rfl) (fun _ _ _ h => h) (Or.inl ⟨by rfl, ?_⟩) (by assumption) ?_
        rotate_left
        · intro w hSw
          refine exec_load16 (x := .tmp 11) ?_ ?_ (ld16 (H11.out _ hSw) HI2.out) <;> rfl
        (try simp only [Act.put, List.setIfInBounds_toArray, List.set_cons_zero, List.set_cons_succ])
        refine wpAnyH_take (i := 3) (oi := { dst := some 51, op := Go.Op.load 26 (Go.Operand.tmp 7), type := 26, pos := "law.go:47", after := #[], guard := none }) (v := ?_) rfl (by kernel_rfl) (by kernel_rfl) (by kernel_rfl) (fun _ _ _ h => h) (Or.inl ⟨by rfl, ?_⟩) (by assumption) ?_
        rotate_left
        · intro w hSw
          refine exec_load16 (x := .tmp 7) ?_ ?_ (ld16 (HDD.out _ (HPW.out _ hSw)) HID.out) <;> rfl
        (try simp only [Act.put, List.setIfInBounds_toArray, List.set_cons_zero, List.set_cons_succ])
        refine wpAnyH_take (i := 4) (oi := { dst := some 52, op := Go.Op.move (Go.Operand.tmp 8), type := 24, pos := "law.go:47", after := #[], guard := none }) (v := ?_) rfl (by kernel_rfl) (by kernel_rfl) (by kernel_rfl) (fun _ _ _ h => h) (Or.inl ⟨by rfl, ?_⟩) (by assumption) ?_
        rotate_left
        · intro w hSw
          (try dsimp only at hSw)
          go_simp
          (try with_reducible rfl)
        (try simp only [Act.put, List.setIfInBounds_toArray, List.set_cons_zero, List.set_cons_succ])
        refine wpAnyH_take (i := 6) (oi := { dst := some 54, op := Go.Op.load 26 (Go.Operand.tmp 7), type := 26, pos := "law.go:47", after := #[], guard := none }) (v := ?_) rfl (by kernel_rfl) (by kernel_rfl) (by kernel_rfl) (fun _ _ _ h => h) (Or.inl ⟨by rfl, ?_⟩) (by assumption) ?_
        rotate_left
        · intro w hSw
          refine exec_load16 (x := .tmp 7) ?_ ?_ (ld16 (HDD.out _ (HPW.out _ hSw)) HID.out) <;> rfl
        (try simp only [Act.put, List.setIfInBounds_toArray, List.set_cons_zero, List.set_cons_succ])
        refine wpAnyH_take (i := 7) (oi := { dst := some 55, op := Go.Op.move (Go.Operand.tmp 1), type := 24, pos := "law.go:47", after := #[], guard := none }) (v := ?_) rfl (by kernel_rfl) (by kernel_rfl) (by kernel_rfl) (fun _ _ _ h => h) (Or.inl ⟨by rfl, ?_⟩) (by assumption) ?_
        rotate_left
        · intro w hSw
          (try dsimp only at hSw)
          go_simp
          (try with_reducible rfl)
        (try simp only [Act.put, List.setIfInBounds_toArray, List.set_cons_zero, List.set_cons_succ])
        refine wpAnyH_take (i := 8) (oi := { dst := some 56, op := Go.Op.call { callee := Go.Callee.builtin Go.Builtin.len, args := #[Go.Operand.tmp 55], argTypes := #[24] }, type := 3, pos := "law.go:47", after := #[{ on := 7, ground := Go.Ground.data }], guard := none }) (v := ?_) rfl (by kernel_rfl) (by kernel_rfl) (by kernel_rfl) (fun _ _ _ h => h) (Or.inl ⟨by rfl, ?_⟩) (by assumption) ?_
        rotate_left
        · intro w hSw
          (try dsimp only at hSw)
          go_simp
          (try with_reducible rfl)
        (try simp only [Act.put, List.setIfInBounds_toArray, List.set_cons_zero, List.set_cons_succ])
        refine wpAnyH_ready (rs := [2, 9]) (by kernel_rfl) (by simp) ?_
        refine AllReadyH.cons (o := { dst := some 50, op := Go.Op.call { callee := Go.Callee.value (Go.Operand.func 7), args := #[Go.Operand.tmp 48, Go.Operand.tmp 49], argTypes := #[26, 26] }, type := 26, pos := "law.go:47", after := #[{ on := 0, ground := Go.Ground.data }, { on := 1, ground := Go.Ground.data }], guard := none }) rfl (fun K hK => ?_) ?_
        · skip
          go_simp
          (refine (HA1.out _).mono ?_; rintro e v_61 ⟨rfl, hb_61⟩; have hP_61 := Below.trans hP_0 (hb_61.mono hP_0.size); clear hP_0; clear hb_61; skip)
          (try go_wp2_with fail)
          refine hK.out _ _ ?_ (fun hHeld => ?_)
          · (try dsimp only)
            first | assumption | (apply Below.drew; assumption)
          clear hK K
          (try simp only [Act.put, List.setIfInBounds_toArray, List.set_cons_zero, List.set_cons_succ])
          refine wpAnyH_ready (rs := [5, 9]) (by kernel_rfl) (by simp) ?_
          refine AllReadyH.cons (o := { dst := some 53, op := Go.Op.call { callee := Go.Callee.value (Go.Operand.func 11), args := #[Go.Operand.tmp 51, Go.Operand.const (Go.Value.slice none 0 0), Go.Operand.tmp 52], argTypes := #[26, 24, 24] }, type := 26, pos := "law.go:47", after := #[{ on := 3, ground := Go.Ground.data }, { on := 4, ground := Go.Ground.data }, { on := 2, ground := Go.Ground.chain }], guard := none }) rfl (fun K hK => ?_) ?_
          · skip
            go_simp
            (refine (HH3.out _ _ _ (HV.out _ (HPW.out _ hP_61)) HCV.out.1 HCV.out.2).mono ?_; rintro e v_62 ⟨rfl, hb_62⟩; have hP_62 := Below.trans hP_61 (hb_62.mono hP_61.size); clear hP_61; clear hb_62; skip)
            (try go_wp2_with fail)
            refine hK.out _ _ ?_ (fun hHeld => ?_)
            · (try dsimp only)
              first | assumption | (apply Below.drew; assumption)
            clear hK K
            (try simp only [Act.put, List.setIfInBounds_toArray, List.set_cons_zero, List.set_cons_succ])
            refine wpAnyH_ready (rs := [9]) (by kernel_rfl) (by simp) ?_
            refine AllReadyH.cons (o := { dst := some 57, op := Go.Op.makeSlice 24 (Go.Operand.tmp 56) (Go.Operand.tmp 56), type := 24, pos := "law.go:47", after := #[{ on := 8, ground := Go.Ground.data }, { on := 8, ground := Go.Ground.data }], guard := none }) rfl (fun K hK => ?_) AllReadyH.nil
            (refine step_make rfl (.tmp 56) (.tmp 56) rfl k rfl rfl (by omega) ?_; obtain ⟨v_63, hw_63⟩ : ∃ q, v_62.alloc (.cells (rowC k (fun _ => 0)).toArray 5) = q := ⟨_, rfl⟩; rw [hw_63]; have hb_63 : Below v_62.heap.size v_62 v_63 := (by rw [← hw_63]; exact (Below.refl _ _).alloc (Nat.le_refl _) _); have hP_63 := Below.trans hP_62 (hb_63.mono hP_62.size); have HZ9 : Hid (∀ w', Below v_63.heap.size v_63 w' → Bytes w' (some ⟨v_62.heap.size, 0, none⟩) k (fun _ => 0)) := Lib.hid (fun w' hb' => Bytes.later (Row.bytes (by rw [← hw_63]; exact row_new _ _ _) (fun _ _ => Nat.zero_lt_succ _)) hb'); have hQ_63 : Below v_63.heap.size v_63 v_63 := Below.refl _ _; clear hP_62; clear hb_63 hw_63; skip)
            refine hK.out _ _ ?_ (fun hHeld => ?_)
            · (try dsimp only)
              first | assumption | (apply Below.drew; assumption)
            clear hK K
            (try simp only [Act.put, List.setIfInBounds_toArray, List.set_cons_zero, List.set_cons_succ])
            refine wpAnyH_ready (rs := [10]) (by kernel_rfl) (by simp) ?_
            refine AllReadyH.cons (o := { dst := some 58, op := Go.Op.call { callee := Go.Callee.value (Go.Operand.func 11), args := #[Go.Operand.tmp 54, Go.Operand.const (Go.Value.slice none 0 0), Go.Operand.tmp 57], argTypes := #[26, 24, 24] }, type := 26, pos := "law.go:47", after := #[{ on := 6, ground := Go.Ground.data }, { on := 9, ground := Go.Ground.data }, { on := 5, ground := Go.Ground.chain }], guard := none }) rfl (fun K hK => ?_) AllReadyH.nil
            go_simp
            (refine (HH4.out _ _ (HZ9.out _ hQ_63)).mono ?_; rintro e v_64 ⟨rfl, hb_64⟩; have hP_64 := Below.trans hP_63 (hb_64.mono hP_63.size); have hQ_64 := Below.trans hQ_63 (hb_64.mono hQ_63.size); clear hP_63 hQ_63; clear hb_64; skip)
            (try go_wp2_with fail)
            refine hK.out _ _ ?_ (fun hHeld => ?_)
            · (try dsimp only)
              first | assumption | (apply Below.drew; assumption)
            clear hK K
            (try simp only [Act.put, List.setIfInBounds_toArray, List.set_cons_zero, List.set_cons_succ])
            refine wpAnyH_ready (rs := [11]) (by kernel_rfl) (by simp) ?_
            refine AllReadyH.cons (o := { dst := some 59, op := Go.Op.call { callee := Go.Callee.value (Go.Operand.func 7), args := #[Go.Operand.tmp 53, Go.Operand.tmp 58], argTypes := #[26, 26] }, type := 26, pos := "law.go:47", after := #[{ on := 5, ground := Go.Ground.data }, { on := 10, ground := Go.Ground.data }, { on := 10, ground := Go.Ground.chain }], guard := none }) rfl (fun K hK => ?_) AllReadyH.nil
            go_simp
            (refine (HA2.out _).mono ?_; rintro e v_65 ⟨rfl, hb_65⟩; have hP_65 := Below.trans hP_64 (hb_65.mono hP_64.size); have hQ_65 := Below.trans hQ_64 (hb_65.mono hQ_64.size); clear hP_64 hQ_64; clear hb_65; skip)
            (try go_wp2_with fail)
            refine hK.out _ _ ?_ (fun hHeld => ?_)
            · (try dsimp only)
              first | assumption | (apply Below.drew; assumption)
            clear hK K
            (try simp only [Act.put, List.setIfInBounds_toArray, List.set_cons_zero, List.set_cons_succ])
            refine wpAnyH_take (i := 12) (oi := { dst := some 60, op := Go.Op.binOp Go.BinOp.eql 26 (Go.Operand.tmp 50) (Go.Operand.tmp 59) 26, type := 4, pos := "law.go:47", after := #[{ on := 2, ground := Go.Ground.data }, { on := 11, ground := Go.Ground.data }], guard := none }) (v := ?_) rfl (by kernel_rfl) (by kernel_rfl) (by kernel_rfl) (fun _ _ _ h => h) (Or.inl ⟨by rfl, ?_⟩) (by assumption) ?_
            rotate_left
            · intro w hSw
              refine exec_eql16 (r := 26) (x := .tmp 50) (y := .tmp 59) ?_ ?_ ?_ HE.out <;> rfl
            (try simp only [Act.put, List.setIfInBounds_toArray, List.set_cons_zero, List.set_cons_succ])
            refine wpAnyH_take (i := 13) (oi := { dst := some 61, op := Go.Op.move (Go.Operand.tmp 60), type := 4, pos := "law.go:47", after := #[{ on := 12, ground := Go.Ground.data }, { on := 11, ground := Go.Ground.chain }], guard := none }) (v := ?_) rfl (by kernel_rfl) (by kernel_rfl) (by kernel_rfl) (fun _ _ _ h => h) (Or.inl ⟨by rfl, ?_⟩) (by assumption) ?_
            rotate_left
            · intro w hSw
              (try dsimp only at hSw)
              go_simp
              (try with_reducible rfl)
            (try simp only [Act.put, List.setIfInBounds_toArray, List.set_cons_zero, List.set_cons_succ])
            refine wpAnyH_ready (rs := [14]) (by kernel_rfl) (by simp) ?_
            refine AllReadyH.cons (o := { dst := some 62, op := Go.Op.call { callee := Go.Callee.value (Go.Operand.func 6), args := #[], argTypes := #[] }, type := 4, pos := "law.go:47", after := #[{ on := 13, ground := Go.Ground.chain }, { on := 13, ground := Go.Ground.guard }], guard := some (13, true) }) rfl (fun K hK => ?_) AllReadyH.nil
            go_simp
            (refine (sure_any _).mono ?_; rintro e v_66 ⟨rfl, hb_66⟩; have hP_66 := Below.trans hP_65 (hb_66.mono hP_65.size); have hQ_66 := Below.trans hQ_65 (hb_66.mono hQ_65.size); clear hP_65 hQ_65; clear hb_66; skip)
            (try go_wp2_with fail)
            refine hK.out _ _ ?_ (fun hHeld => ?_)
            · (try dsimp only)
              first | assumption | (apply Below.drew; assumption)
            clear hK K
            (try simp only [Act.put, List.setIfInBounds_toArray, List.set_cons_zero, List.set_cons_succ])
            refine wpAnyH_take (i := 15) (oi := { dst := some 63, op := Go.Op.pick (Go.Operand.tmp 61) (Go.Operand.tmp 62) (Go.Operand.const (Go.Value.bool false)), type := 4, pos := "law.go:47", after := #[{ on := 13, ground := Go.Ground.data }, { on := 14, ground := Go.Ground.data }], guard := none }) (v := ?_) rfl (by kernel_rfl) (by kernel_rfl) (by kernel_rfl) (fun _ _ _ h => h) (Or.inl ⟨by rfl, ?_⟩) (by assumption) ?_
            rotate_left
            · intro w hSw
              (try dsimp only at hSw)
              go_simp
              (try with_reducible rfl)
            (try simp only [Act.put, List.setIfInBounds_toArray, List.set_cons_zero, List.set_cons_succ])
            refine wpAnyH_take (i := 16) (oi := { dst := some 6, op := Go.Op.assign (Go.Operand.tmp 63), type := 4, pos := "law.go:47", after := #[{ on := 15, ground := Go.Ground.data }, { on := 14, ground := Go.Ground.chain }, { on := 0, ground := Go.Ground.phase }, { on := 1, ground := Go.Ground.phase }, { on := 2, ground := Go.Ground.phase }, { on := 3, ground := Go.Ground.phase }, { on := 4, ground := Go.Ground.phase }, { on := 5, ground := Go.Ground.phase }, { on := 6, ground := Go.Ground.phase }, { on := 7, ground := Go.Ground.phase }, { on := 8, ground := Go.Ground.phase }, { on := 9, ground := Go.Ground.phase }, { on := 10, ground := Go.Ground.phase }, { on := 11, ground := Go.Ground.phase }, { on := 12, ground := Go.Ground.phase }, { on := 13, ground := Go.Ground.phase }, { on := 14, ground := Go.Ground.phase }, { on := 15, ground := Go.Ground.phase }], guard := none }) (v := ?_) rfl (by kernel_rfl) (by kernel_rfl) (by kernel_rfl) (fun _ _ _ h => h) (Or.inl ⟨by rfl, ?_⟩) (by assumption) ?_
            rotate_left
            · intro w hSw
              (try dsimp only at hSw)
              go_simp
              (try with_reducible rfl)
            (try simp only [Act.put, List.setIfInBounds_toArray, List.set_cons_zero, List.set_cons_succ])
            refine wpAnyH_done (by kernel_rfl) ?_ _
            have HO9 := Lib.hid (HOW.out _ (HPW.out _ hP_66))
            clear hP_66 hQ_66
            go_wp2_with fail
            go_ret
            exact ⟨rfl, HO9.out⟩
          refine AllReadyH.cons (o := { dst := some 57, op := Go.Op.makeSlice 24 (Go.Operand.tmp 56) (Go.Operand.tmp 56), type := 24, pos := "law.go:47", after := #[{ on := 8, ground := Go.Ground.data }, { on := 8, ground := Go.Ground.data }], guard := none }) rfl (fun K hK => ?_) AllReadyH.nil
          (refine step_make rfl (.tmp 56) (.tmp 56) rfl k rfl rfl (by omega) ?_; obtain ⟨v_67, hw_67⟩ : ∃ q, v_61.alloc (.cells (rowC k (fun _ => 0)).toArray 5) = q := ⟨_, rfl⟩; rw [hw_67]; have hb_67 : Below v_61.heap.size v_61 v_67 := (by rw [← hw_67]; exact (Below.refl _ _).alloc (Nat.le_refl _) _); have hP_67 := Below.trans hP_61 (hb_67.mono hP_61.size); have HZ9 : Hid (∀ w', Below v_67.heap.size v_67 w' → Bytes w' (some ⟨v_61.heap.size, 0, none⟩) k (fun _ => 0)) := Lib.hid (fun w' hb' => Bytes.later (Row.bytes (by rw [← hw_67]; exact row_new _ _ _) (fun _ _ => Nat.zero_lt_succ _)) hb'); have hQ_67 : Below v_67.heap.size v_67 v_67 := Below.refl _ _; clear hP_61; clear hb_67 hw_67; skip)
          refine hK.out _ _ ?_ (fun hHeld => ?_)
          · (try dsimp only)
            first | assumption | (apply Below.drew; assumption)
          clear hK K
          (try simp only [Act.put, List.setIfInBounds_toArray, List.set_cons_zero, List.set_cons_succ])
          refine wpAnyH_ready (rs := [5]) (by kernel_rfl) (by simp) ?_
          refine AllReadyH.cons (o := { dst := some 53, op := Go.Op.call { callee := Go.Callee.value (Go.Operand.func 11), args := #[Go.Operand.tmp 51, Go.Operand.const (Go.Value.slice none 0 0), Go.Operand.tmp 52], argTypes := #[26, 24, 24] }, type := 26, pos := "law.go:47", after := #[{ on := 3, ground := Go.Ground.data }, { on := 4, ground := Go.Ground.data }, { on := 2, ground := Go.Ground.chain }], guard := none }) rfl (fun K hK => ?_) AllReadyH.nil
          go_simp
          (refine (HH3.out _ _ _ (HV.out _ (HPW.out _ hP_67)) HCV.out.1 HCV.out.2).mono ?_; rintro e v_68 ⟨rfl, hb_68⟩; have hP_68 := Below.trans hP_67 (hb_68.mono hP_67.size); have hQ_68 := Below.trans hQ_67 (hb_68.mono hQ_67.size); clear hP_67 hQ_67; clear hb_68; skip)
          (try go_wp2_with fail)
          refine hK.out _ _ ?_ (fun hHeld => ?_)
          · (try dsimp only)
            first | assumption | (apply Below.drew; assumption)
          clear hK K
          (try simp only [Act.put, List.setIfInBounds_toArray, List.set_cons_zero, List.set_cons_succ])
          refine wpAnyH_ready (rs := [10]) (by kernel_rfl) (by simp) ?_
          refine AllReadyH.cons (o := { dst := some 58, op := Go.Op.call { callee := Go.Callee.value (Go.Operand.func 11), args := #[Go.Operand.tmp 54, Go.Operand.const (Go.Value.slice none 0 0), Go.Operand.tmp 57], argTypes := #[26, 24, 24] }, type := 26, pos := "law.go:47", after := #[{ on := 6, ground := Go.Ground.data }, { on := 9, ground := Go.Ground.data }, { on := 5, ground := Go.Ground.chain }], guard := none }) rfl (fun K hK => ?_) AllReadyH.nil
          go_simp
          (refine (HH4.out _ _ (HZ9.out _ hQ_68)).mono ?_; rintro e v_69 ⟨rfl, hb_69⟩; have hP_69 := Below.trans hP_68 (hb_69.mono hP_68.size); have hQ_69 := Below.trans hQ_68 (hb_69.mono hQ_68.size); clear hP_68 hQ_68; clear hb_69; skip)
          (try go_wp2_with fail)
          refine hK.out _ _ ?_ (fun hHeld => ?_)
          · (try dsimp only)
            first | assumption | (apply Below.drew; assumption)
          clear hK K
          (try simp only [Act.put, List.setIfInBounds_toArray, List.set_cons_zero, List.set_cons_succ])
          refine wpAnyH_ready (rs := [11]) (by kernel_rfl) (by simp) ?_
          refine AllReadyH.cons (o := { dst := some 59, op := Go.Op.call { callee := Go.Callee.value (Go.Operand.func 7), args := #[Go.Operand.tmp 53, Go.Operand.tmp 58], argTypes := #[26, 26] }, type := 26, pos := "law.go:47", after := #[{ on := 5, ground := Go.Ground.data }, { on := 10, ground := Go.Ground.data }, { on := 10, ground := Go.Ground.chain }], guard := none }) rfl (fun K hK => ?_) AllReadyH.nil
          go_simp
          (refine (HA2.out _).mono ?_; rintro e v_70 ⟨rfl, hb_70⟩; have hP_70 := Below.trans hP_69 (hb_70.mono hP_69.size); have hQ_70 := Below.trans hQ_69 (hb_70.mono hQ_69.size); clear hP_69 hQ_69; clear hb_70; skip)
          (try go_wp2_with fail)
          refine hK.out _ _ ?_ (fun hHeld => ?_)
          · (try dsimp only)
            first | assumption | (apply Below.drew; assumption)
          clear hK K
          (try simp only [Act.put, List.setIfInBounds_toArray, List.set_cons_zero, List.set_cons_succ])
          refine wpAnyH_take (i := 12) (oi := { dst := some 60, op := Go.Op.binOp Go.BinOp.eql 26 (Go.Operand.tmp 50) (Go.Operand.tmp 59) 26, type := 4, pos := "law.go:47", after := #[{ on := 2, ground := Go.Ground.data }, { on := 11, ground := Go.Ground.data }], guard := none }) (v := ?_) rfl (by kernel_rfl) (by kernel_rfl) (by kernel_rfl) (fun _ _ _ h => h) (Or.inl ⟨by rfl, ?_⟩) (by assumption) ?_
          rotate_left
          · intro w hSw
            refine exec_eql16 (r := 26) (x := .tmp 50) (y := .tmp 59) ?_ ?_ ?_ HE.out <;> rfl
          (try simp only [Act.put, List.setIfInBounds_toArray, List.set_cons_zero, List.set_cons_succ])
          refine wpAnyH_take (i := 13) (oi := { dst := some 61, op := Go.Op.move (Go.Operand.tmp 60), type := 4, pos := "law.go:47", after := #[{ on := 12, ground := Go.Ground.data }, { on := 11, ground := Go.Ground.chain }], guard := none }) (v := ?_) rfl (by kernel_rfl) (by kernel_rfl) (by kernel_rfl) (fun _ _ _ h => h) (Or.inl ⟨by rfl, ?_⟩) (by assumption) ?_
          rotate_left
          · intro w hSw
            (try dsimp only at hSw)
            go_simp
            (try with_reducible rfl)
          (try simp only [Act.put, List.setIfInBounds_toArray, List.set_cons_zero, List.set_cons_succ])
          refine wpAnyH_ready (rs := [14]) (by kernel_rfl) (by simp) ?_
          refine AllReadyH.cons (o := { dst := some 62, op := Go.Op.call { callee := Go.Callee.value (Go.Operand.func 6), args := #[], argTypes := #[] }, type := 4, pos := "law.go:47", after := #[{ on := 13, ground := Go.Ground.chain }, { on := 13, ground := Go.Ground.guard }], guard := some (13, true) }) rfl (fun K hK => ?_) AllReadyH.nil
          go_simp
          (refine (sure_any _).mono ?_; rintro e v_71 ⟨rfl, hb_71⟩; have hP_71 := Below.trans hP_70 (hb_71.mono hP_70.size); have hQ_71 := Below.trans hQ_70 (hb_71.mono hQ_70.size); clear hP_70 hQ_70; clear hb_71; skip)
          (try go_wp2_with fail)
          refine hK.out _ _ ?_ (fun hHeld => ?_)
          · (try dsimp only)
            first | assumption | (apply Below.drew; assumption)
          clear hK K
          (try simp only [Act.put, List.setIfInBounds_toArray, List.set_cons_zero, List.set_cons_succ])
          refine wpAnyH_take (i := 15) (oi := { dst := some 63, op := Go.Op.pick (Go.Operand.tmp 61) (Go.Operand.tmp 62) (Go.Operand.const (Go.Value.bool false)), type := 4, pos := "law.go:47", after := #[{ on := 13, ground := Go.Ground.data }, { on := 14, ground := Go.Ground.data }], guard := none }) (v := ?_) rfl (by kernel_rfl) (by kernel_rfl) (by kernel_rfl) (fun _ _ _ h => h) (Or.inl ⟨by rfl, ?_⟩) (by assumption) ?_
          rotate_left
          · intro w hSw
            (try dsimp only at hSw)
            go_simp
            (try with_reducible rfl)
          (try simp only [Act.put, List.setIfInBounds_toArray, List.set_cons_zero, List.set_cons_succ])
          refine wpAnyH_take (i := 16) (oi := { dst := some 6, op := Go.Op.assign (Go.Operand.tmp 63), type := 4, pos := "law.go:47", after := #[{ on := 15, ground := Go.Ground.data }, { on := 14, ground := Go.Ground.chain }, { on := 0, ground := Go.Ground.phase }, { on := 1, ground := Go.Ground.phase }, { on := 2, ground := Go.Ground.phase }, { on := 3, ground := Go.Ground.phase }, { on := 4, ground := Go.Ground.phase }, { on := 5, ground := Go.Ground.phase }, { on := 6, ground := Go.Ground.phase }, { on := 7, ground := Go.Ground.phase }, { on := 8, ground := Go.Ground.phase }, { on := 9, ground := Go.Ground.phase }, { on := 10, ground := Go.Ground.phase }, { on := 11, ground := Go.Ground.phase }, { on := 12, ground := Go.Ground.phase }, { on := 13, ground := Go.Ground.phase }, { on := 14, ground := Go.Ground.phase }, { on := 15, ground := Go.Ground.phase }], guard := none }) (v := ?_) rfl (by kernel_rfl) (by kernel_rfl) (by kernel_rfl) (fun _ _ _ h => h) (Or.inl ⟨by rfl, ?_⟩) (by assumption) ?_
          rotate_left
          · intro w hSw
            (try dsimp only at hSw)
            go_simp
            (try with_reducible rfl)
          (try simp only [Act.put, List.setIfInBounds_toArray, List.set_cons_zero, List.set_cons_succ])
          refine wpAnyH_done (by kernel_rfl) ?_ _
          have HO9 := Lib.hid (HOW.out _ (HPW.out _ hP_71))
          clear hP_71 hQ_71
          go_wp2_with fail
          go_ret
          exact ⟨rfl, HO9.out⟩
        refine AllReadyH.cons (o := { dst := some 57, op := Go.Op.makeSlice 24 (Go.Operand.tmp 56) (Go.Operand.tmp 56), type := 24, pos := "law.go:47", after := #[{ on := 8, ground := Go.Ground.data }, { on := 8, ground := Go.Ground.data }], guard := none }) rfl (fun K hK => ?_) AllReadyH.nil
        (refine step_make rfl (.tmp 56) (.tmp 56) rfl k rfl rfl (by omega) ?_; obtain ⟨v_72, hw_72⟩ : ∃ q, w5.alloc (.cells (rowC k (fun _ => 0)).toArray 5) = q := ⟨_, rfl⟩; rw [hw_72]; have hb_72 : Below w5.heap.size w5 v_72 := (by rw [← hw_72]; exact (Below.refl _ _).alloc (Nat.le_refl _) _); have hP_72 := Below.trans hP_0 (hb_72.mono hP_0.size); have HZ9 : Hid (∀ w', Below v_72.heap.size v_72 w' → Bytes w' (some ⟨w5.heap.size, 0, none⟩) k (fun _ => 0)) := Lib.hid (fun w' hb' => Bytes.later (Row.bytes (by rw [← hw_72]; exact row_new _ _ _) (fun _ _ => Nat.zero_lt_succ _)) hb'); have hQ_72 : Below v_72.heap.size v_72 v_72 := Below.refl _ _; clear hP_0; clear hb_72 hw_72; skip)
        refine hK.out _ _ ?_ (fun hHeld => ?_)
        · (try dsimp only)
          first | assumption | (apply Below.drew; assumption)
        clear hK K
        (try simp only [Act.put, List.setIfInBounds_toArray, List.set_cons_zero, List.set_cons_succ])
        refine wpAnyH_ready (rs := [2]) (by kernel_rfl) (by simp) ?_
        refine AllReadyH.cons (o := { dst := some 50, op := Go.Op.call { callee := Go.Callee.value (Go.Operand.func 7), args := #[Go.Operand.tmp 48, Go.Operand.tmp 49], argTypes := #[26, 26] }, type := 26, pos := "law.go:47", after := #[{ on := 0, ground := Go.Ground.data }, { on := 1, ground := Go.Ground.data }], guard := none }) rfl (fun K hK => ?_) AllReadyH.nil
        go_simp
        (refine (HA1.out _).mono ?_; rintro e v_73 ⟨rfl, hb_73⟩; have hP_73 := Below.trans hP_72 (hb_73.mono hP_72.size); have hQ_73 := Below.trans hQ_72 (hb_73.mono hQ_72.size); clear hP_72 hQ_72; clear hb_73; skip)
        (try go_wp2_with fail)
        refine hK.out _ _ ?_ (fun hHeld => ?_)
        · (try dsimp only)
          first | assumption | (apply Below.drew; assumption)
        clear hK K
        (try simp only [Act.put, List.setIfInBounds_toArray, List.set_cons_zero, List.set_cons_succ])
        refine wpAnyH_ready (rs := [5]) (by kernel_rfl) (by simp) ?_
        refine AllReadyH.cons (o := { dst := some 53, op := Go.Op.call { callee := Go.Callee.value (Go.Operand.func 11), args := #[Go.Operand.tmp 51, Go.Operand.const (Go.Value.slice none 0 0), Go.Operand.tmp 52], argTypes := #[26, 24, 24] }, type := 26, pos := "law.go:47", after := #[{ on := 3, ground := Go.Ground.data }, { on := 4, ground := Go.Ground.data }, { on := 2, ground := Go.Ground.chain }], guard := none }) rfl (fun K hK => ?_) AllReadyH.nil
        go_simp
        (refine (HH3.out _ _ _ (HV.out _ (HPW.out _ hP_73)) HCV.out.1 HCV.out.2).mono ?_; rintro e v_74 ⟨rfl, hb_74⟩; have hP_74 := Below.trans hP_73 (hb_74.mono hP_73.size); have hQ_74 := Below.trans hQ_73 (hb_74.mono hQ_73.size); clear hP_73 hQ_73; clear hb_74; skip)
        (try go_wp2_with fail)
        refine hK.out _ _ ?_ (fun hHeld => ?_)
        · (try dsimp only)
          first | assumption | (apply Below.drew; assumption)
        clear hK K
        (try simp only [Act.put, List.setIfInBounds_toArray, List.set_cons_zero, List.set_cons_succ])
        refine wpAnyH_ready (rs := [10]) (by kernel_rfl) (by simp) ?_
        refine AllReadyH.cons (o := { dst := some 58, op := Go.Op.call { callee := Go.Callee.value (Go.Operand.func 11), args := #[Go.Operand.tmp 54, Go.Operand.const (Go.Value.slice none 0 0), Go.Operand.tmp 57], argTypes := #[26, 24, 24] }, type := 26, pos := "law.go:47", after := #[{ on := 6, ground := Go.Ground.data }, { on := 9, ground := Go.Ground.data }, { on := 5, ground := Go.Ground.chain }], guard := none }) rfl (fun K hK => ?_) AllReadyH.nil
        go_simp
        (refine (HH4.out _ _ (HZ9.out _ hQ_74)).mono ?_; rintro e v_75 ⟨rfl, hb_75⟩; have hP_75 := Below.trans hP_74 (hb_75.mono hP_74.size); have hQ_75 := Below.trans hQ_74 (hb_75.mono hQ_74.size); clear hP_74 hQ_74; clear hb_75; skip)
        (try go_wp2_with fail)
        refine hK.out _ _ ?_ (fun hHeld => ?_)
        · (try dsimp only)
          first | assumption | (apply Below.drew; assumption)
        clear hK K
        (try simp only [Act.put, List.setIfInBounds_toArray, List.set_cons_zero, List.set_cons_succ])
        refine wpAnyH_ready (rs := [11]) (by kernel_rfl) (by simp) ?_
        refine AllReadyH.cons (o := { dst := some 59, op := Go.Op.call { callee := Go.Callee.value (Go.Operand.func 7), args := #[Go.Operand.tmp 53, Go.Operand.tmp 58], argTypes := #[26, 26] }, type := 26, pos := "law.go:47", after := #[{ on := 5, ground := Go.Ground.data }, { on := 10, ground := Go.Ground.data }, { on := 10, ground := Go.Ground.chain }], guard := none }) rfl (fun K hK => ?_) AllReadyH.nil
        go_simp
        (refine (HA2.out _).mono ?_; rintro e v_76 ⟨rfl, hb_76⟩; have hP_76 := Below.trans hP_75 (hb_76.mono hP_75.size); have hQ_76 := Below.trans hQ_75 (hb_76.mono hQ_75.size); clear hP_75 hQ_75; clear hb_76; skip)
        (try go_wp2_with fail)
        refine hK.out _ _ ?_ (fun hHeld => ?_)
        · (try dsimp only)
          first | assumption | (apply Below.drew; assumption)
        clear hK K
        (try simp only [Act.put, List.setIfInBounds_toArray, List.set_cons_zero, List.set_cons_succ])
        refine wpAnyH_take (i := 12) (oi := { dst := some 60, op := Go.Op.binOp Go.BinOp.eql 26 (Go.Operand.tmp 50) (Go.Operand.tmp 59) 26, type := 4, pos := "law.go:47", after := #[{ on := 2, ground := Go.Ground.data }, { on := 11, ground := Go.Ground.data }], guard := none }) (v := ?_) rfl (by kernel_rfl) (by kernel_rfl) (by kernel_rfl) (fun _ _ _ h => h) (Or.inl ⟨by rfl, ?_⟩) (by assumption) ?_
        rotate_left
        · intro w hSw
          refine exec_eql16 (r := 26) (x := .tmp 50) (y := .tmp 59) ?_ ?_ ?_ HE.out <;> rfl
        (try simp only [Act.put, List.setIfInBounds_toArray, List.set_cons_zero, List.set_cons_succ])
        refine wpAnyH_take (i := 13) (oi := { dst := some 61, op := Go.Op.move (Go.Operand.tmp 60), type := 4, pos := "law.go:47", after := #[{ on := 12, ground := Go.Ground.data }, { on := 11, ground := Go.Ground.chain }], guard := none }) (v := ?_) rfl (by kernel_rfl) (by kernel_rfl) (by kernel_rfl) (fun _ _ _ h => h) (Or.inl ⟨by rfl, ?_⟩) (by assumption) ?_
        rotate_left
        · intro w hSw
          (try dsimp only at hSw)
          go_simp
          (try with_reducible rfl)
        (try simp only [Act.put, List.setIfInBounds_toArray, List.set_cons_zero, List.set_cons_succ])
        refine wpAnyH_ready (rs := [14]) (by kernel_rfl) (by simp) ?_
        refine AllReadyH.cons (o := { dst := some 62, op := Go.Op.call { callee := Go.Callee.value (Go.Operand.func 6), args := #[], argTypes := #[] }, type := 4, pos := "law.go:47", after := #[{ on := 13, ground := Go.Ground.chain }, { on := 13, ground := Go.Ground.guard }], guard := some (13, true) }) rfl (fun K hK => ?_) AllReadyH.nil
        go_simp
        (refine (sure_any _).mono ?_; rintro e v_77 ⟨rfl, hb_77⟩; have hP_77 := Below.trans hP_76 (hb_77.mono hP_76.size); have hQ_77 := Below.trans hQ_76 (hb_77.mono hQ_76.size); clear hP_76 hQ_76; clear hb_77; skip)
        (try go_wp2_with fail)
        refine hK.out _ _ ?_ (fun hHeld => ?_)
        · (try dsimp only)
          first | assumption | (apply Below.drew; assumption)
        clear hK K
        (try simp only [Act.put, List.setIfInBounds_toArray, List.set_cons_zero, List.set_cons_succ])
        refine wpAnyH_take (i := 15) (oi := { dst := some 63, op := Go.Op.pick (Go.Operand.tmp 61) (Go.Operand.tmp 62) (Go.Operand.const (Go.Value.bool false)), type := 4, pos := "law.go:47", after := #[{ on := 13, ground := Go.Ground.data }, { on := 14, ground := Go.Ground.data }], guard := none }) (v := ?_) rfl (by kernel_rfl) (by kernel_rfl) (by kernel_rfl) (fun _ _ _ h => h) (Or.inl ⟨by rfl, ?_⟩) (by assumption) ?_
        rotate_left
        · intro w hSw
          (try dsimp only at hSw)
          go_simp
          (try with_reducible rfl)
        (try simp only [Act.put, List.setIfInBounds_toArray, List.set_cons_zero, List.set_cons_succ])
        refine wpAnyH_take (i := 16) (oi := { dst := some 6, op := Go.Op.assign (Go.Operand.tmp 63), type := 4, pos := "law.go:47", after := #[{ on := 15, ground := Go.Ground.data }, { on := 14, ground := Go.Ground.chain }, { on := 0, ground := Go.Ground.phase }, { on := 1, ground := Go.Ground.phase }, { on := 2, ground := Go.Ground.phase }, { on := 3, ground := Go.Ground.phase }, { on := 4, ground := Go.Ground.phase }, { on := 5, ground := Go.Ground.phase }, { on := 6, ground := Go.Ground.phase }, { on := 7, ground := Go.Ground.phase }, { on := 8, ground := Go.Ground.phase }, { on := 9, ground := Go.Ground.phase }, { on := 10, ground := Go.Ground.phase }, { on := 11, ground := Go.Ground.phase }, { on := 12, ground := Go.Ground.phase }, { on := 13, ground := Go.Ground.phase }, { on := 14, ground := Go.Ground.phase }, { on := 15, ground := Go.Ground.phase }], guard := none }) (v := ?_) rfl (by kernel_rfl) (by kernel_rfl) (by kernel_rfl) (fun _ _ _ h => h) (Or.inl ⟨by rfl, ?_⟩) (by assumption) ?_
        rotate_left
        · intro w hSw
          (try dsimp only at hSw)
          go_simp
          (try with_reducible rfl)
        (try simp only [Act.put, List.setIfInBounds_toArray, List.set_cons_zero, List.set_cons_succ])
        refine wpAnyH_done (by kernel_rfl) ?_ _
        have HO9 := Lib.hid (HOW.out _ (HPW.out _ hP_77))
        clear hP_77 hQ_77
        go_wp2_with fail
        go_ret
        exact ⟨rfl, HO9.out⟩

theorem linear_any (y f g : Nat → Nat) (oa ob : Option Addr) (n m cn cm : Nat) (w : World) (hy : ∀ i, i < 16 → y i < 256) (ha : Bytes w oa n f) (hb : Bytes w ob m g) (hnc : n ≤ cn) (hmc : m ≤ cm) (hcn : cn ≤ maxLen) (hcm : cm ≤ maxLen) :
    Calls Try.prog 5 #[.agg (rowC 16 y).toArray, .slice oa n cn, .slice ob m cm] w fun e w' => e = .returned (.bool true) ∧ Below w.heap.size w w' := by
  by_cases h : 200 < n ∨ m ≠ n
  · exact linear_sure y oa ob n m cn cm w h
  · obtain rfl : m = n := by omega
    exact linear_main y f g oa ob m cn cm w hy ha hb hnc hmc hcn hcm (by omega)
end Go.Proofs.Ytafbfjnbajdbkaa
