/- The parts of a secret: the contract of shamir.Split. -/
import Derived.Test.YtmhofofidmbgfaaDoorSp1
import Derived.Test.YtmhofofidmbgfaaDoorStB
import Derived.Deep.RegionHeld3
import Derived.IntWalk
namespace Go.Proofs.YtmhofofidmbgfaaDoor
set_option linter.unusedVariables false
set_option linter.unusedSimpArgs false
open Go.RowKit

theorem exec_buildM {o : Oper} {a : Act} {w : World} {ty : TypeId} {C : Array Value} {parts : Array (Nat × Operand)} {ps : Array (Nat × Value)} (ho : o.op = .build ty parts) (hp : (parts.map fun (i, x) => (i, a.eval x)) = ps) (h : ∀ w, (Instr.build ty ps).run Tryd.prog w = .ok (.agg C) w) : (execOp a.eval o).run Tryd.prog w = .ok (.value (.agg C)) w := by
  unfold execOp
  simp only [ho, hp, Sem.run_bind, h, Result.andThen_ok]
  rfl
theorem build_share (x g : Int) (oa : Option Addr) (n c : Nat) (w : World) : (Instr.build 52 #[(0, .int .u8 x), (1, .int .u32 g), (2, .slice oa n c)]).run Tryd.prog w = .ok (.agg #[.int .u8 x, .int .u32 g, .slice oa n c]) w := run_build w 52 _ _ (by kernel_rfl)
theorem one_share (a b : Int) (k k2 : IntKind) (oa : Option Addr) (n c : Nat) : (#[Value.int k a, Value.int k2 b, Value.slice oa n c] : Array Value).all (·.oneCell') = true := all_oneCell_toArray fun v hv => by
  simp at hv
  rcases hv with rfl | rfl | rfl <;> rfl
theorem Grow.lit {w : World} {base g n : Nat} {f : Nat → Nat} (h : Blk w g (rowC n f).toArray 5) (hb : base ≤ g) (hn : n ≤ maxLen) : Grow w base (.slice (some ⟨g, 0, none⟩) n n) n f :=
  ⟨by rw [rowC_len, Nat.mul_one], .inr ⟨g, n, (rowC n f).toArray, rfl, hb, h, Nat.le_refl _, hn, by rw [List.size_toArray, rowC_len, Nat.mul_one], by rw [Nat.mul_one, List.take_of_length_le]; rw [rowC_len]; exact Nat.le_refl _⟩⟩
/-- What lies in the rows: all of the first j bytes, of byte j that of the first i parts. -/
def nF (V : Nat → Nat → Nat) (j i : Nat) : Nat → Nat → Nat := fun x y => if y < j ∨ y = j ∧ x < i then V x y else 0
theorem nF_step {V : Nat → Nat → Nat} {j i v : Nat} (hv : V i j = v) : updS (nF V j i) i j v = nF V j (i + 1) := by
  subst hv
  funext x y
  unfold updS nF upd
  by_cases e : x = i
  · subst e
    rw [if_pos rfl]
    by_cases e2 : y = j
    · subst e2; rw [if_pos rfl, if_pos (by omega)]
    · rw [if_neg e2]
      show (if y < j ∨ y = j ∧ x < x then V x y else 0) = _
      by_cases h : y < j
      · rw [if_pos (by omega), if_pos (by omega)]
      · rw [if_neg (by omega), if_neg (by omega)]
  · rw [if_neg e]
    by_cases h : y < j ∨ y = j ∧ x < i
    · rw [if_pos h, if_pos (by omega)]
    · rw [if_neg h, if_neg (by omega)]
theorem nF_next {V : Nat → Nat → Nat} {j N x y : Nat} (hx : x < N) : nF V j N x y = nF V (j + 1) 0 x y := by
  unfold nF
  by_cases h : y < j + 1
  · rw [if_pos (by omega), if_pos (by omega)]
  · rw [if_neg (by omega), if_neg (by omega)]
theorem nF_end {V : Nat → Nat → Nat} {L x y : Nat} (hy : y < L) : nF V L 0 x y = V x y := by unfold nF; rw [if_pos (.inl hy)]
theorem nF_zero {V : Nat → Nat → Nat} {x y : Nat} : nF V 0 0 x y = 0 := by unfold nF; rw [if_neg (by omega)]
theorem u8_in {n : Nat} (h : n < 256) : IntKind.u8.wrap (n : Int) = (n : Int) := by simp [IntKind.wrap, IntKind.bits, IntKind.signed]; omega

theorem eval_keep {tb base n cp v b : Nat} {oa : Option Addr} {f : Nat → Nat} {x : Nat} {u0 u2 : Value} (w : World) (h : TabIn w tb) (hG : Grow w base (.slice oa n cp) n f) (hf : ∀ i, i < n → f i < 256) (hb : tb < base) (hn : n ≤ maxLen) (hx : x < 256) (hv : evalN f n x = v)
    (h0 : w.cell? ⟨b, 0, none⟩ = some u0) (h2 : w.cell? ⟨b, 2, none⟩ = some u2) (hne : b ≠ tb) :
    Calls Tryd.prog 39 #[.pointer (some ⟨tb, 0, none⟩), .slice oa n cp, .int .u8 x] w fun e w' => e = .returned (.int .u8 (v : Nat)) ∧ Left tb w w' ∧ w'.cell? ⟨b, 0, none⟩ = some u0 ∧ w'.cell? ⟨b, 2, none⟩ = some u2 := by
  obtain ⟨oa', cp', e, hB, hA⟩ := hG.bytes hf
  cases e
  exact (eval_is w h hB (fun _ a ha => by have := hA a ha; omega) hn hx hv).mono fun e w' ⟨he, hl⟩ => ⟨he, hl, hl.2.cell h0 hne, hl.2.cell h2 hne⟩
theorem cF_eq {s d : Nat → Nat} {k j jk sj : Nat} (h1 : j * k = jk) (h2 : s j = sj) : cF s d k j = catF 1 (fun _ => sj) (fun i => d (jk + i)) := by subst h1; subst h2; rfl

set_option maxHeartbeats 400000 in
theorem draws_any (K N k L M : Nat) (g : Int) (w : World) (hK : K = k + 1) (h2 : 2 ≤ K) (hKN : K ≤ N) (hN : N ≤ 255) (h1 : 1 ≤ L) (hL : L ≤ 64) (hM : M = L * k) :
    Calls Tryd.prog 17 #[.agg #[.int .i64 (K : Int), .int .i64 (N : Int), .int .u32 g], .int .i64 (L : Int)] w fun e w' => e = .returned (.int .i64 (M : Int)) ∧ Below w.heap.size w w' := by
  have HC := Lib.hid (fun w => check_yes (K : Int) (N : Int) g w ⟨by omega, by omega, by omega⟩)
  have HF := Lib.hid (fun w => fits_yes L w h1 hL)
  have hKk : (K : Int) - 1 = (k : Int) := by omega
  have hMi : (k : Int) * (L : Int) = (M : Int) := by rw [hM, Nat.mul_comm]; exact (Int.natCast_mul k L).symm
  have hMb : M ≤ 64 * 254 := by rw [hM]; exact Nat.mul_le_mul hL (by omega)
  have hMw : IntKind.i64.wrap ((k : Int) * (L : Int)) = (M : Int) := by rw [hMi]; exact IntWalk.i64_in _ (by omega)
  have hM2 : (M : Int) ≤ 20000 := by omega
  have hb1 : (1 : Int) ≤ (K : Int) ∧ (K : Int) ≤ 255 := by omega
  clear hM hK h2 hKN hN h1 hL hMb
  go_enter Tryd.func17, Tryd.ntmps17
  go_wp2_with fail
  refine (HC.out _).mono ?_
  rintro e w1 ⟨rfl, hb⟩
  have hc0 : w1.cell? ⟨w.heap.size, 0, none⟩ = some (.int .i64 (K : Int)) := cell_below hb (World.cell?_alloc_mark _ _ _ _ _)
  have HB1 : Hid (Below w.heap.size w w1) := Lib.hid (((Below.refl _ _).alloc (Nat.le_refl _) _).trans (hb.mono (by simp)))
  clear hb
  go_wp2_with fail
  refine (HF.out _).mono ?_
  rintro e w2 ⟨rfl, rfl⟩
  go_wp2_with fail
  go_ret
  exact ⟨rfl, HB1.out⟩

set_option maxRecDepth 100000 in
set_option maxHeartbeats 4000000 in
theorem split_any (tb Kp N k gen L cs M cd sb so db dof : Nat) (s d : Nat → Nat) (w : World) (hT : TabIn w tb) (hs : Bytes w (some ⟨sb, so, none⟩) L s) (hsA : sb ≠ tb) (hd : Bytes w (some ⟨db, dof, none⟩) M d) (hdA : db ≠ tb)
    (hK : Kp = k + 1) (h2 : 2 ≤ Kp) (hKN : Kp ≤ N) (hN : N ≤ 255) (h1 : 1 ≤ L) (hL : L ≤ 64) (hM : M = L * k) (hcd : M ≤ cd) :
    Calls Tryd.prog 12 #[.pointer (some ⟨tb, 0, none⟩), .slice (some ⟨sb, so, none⟩) L cs, .agg #[.int .i64 (Kp : Int), .int .i64 (N : Int), .int .u32 (gen : Int)], .slice (some ⟨db, dof, none⟩) M cd] w
      fun e w' => ∃ wA, e = .returned (.tuple #[.slice (some ⟨wA.heap.size, 0, none⟩) N N, .nilIface]) ∧ w.heap.size ≤ wA.heap.size ∧ Own tb w wA ∧ SR tb wA N L gen (fun x => shF s d k (x + 1)) w' := by
  have HC := Lib.hid (fun w => check_yes (Kp : Int) (N : Int) (gen : Int) w ⟨by omega, by omega, by omega⟩)
  have HF := Lib.hid (fun w => fits_yes L w h1 hL)
  have HD := Lib.hid (fun w => draws_any Kp N k L M (gen : Int) w hK h2 hKN hN h1 hL hM)
  have HNM : Hid (Kp = k + 1 ∧ 2 ≤ Kp ∧ Kp ≤ N ∧ N ≤ 255 ∧ 1 ≤ L ∧ L ≤ 64 ∧ M = L * k ∧ M ≤ cd) := Lib.hid ⟨hK, h2, hKN, hN, h1, hL, hM, hcd⟩
  have HS := Lib.hid hs
  have HDR := Lib.hid hd
  have HA := Lib.hid (show sb ≠ tb ∧ db ≠ tb from ⟨hsA, hdA⟩)
  have HT := Lib.hid hT
  clear hs hd hsA hdA hT hK hKN hM hcd
  go_enter Tryd.func12, Tryd.ntmps12
  go_wp2_with fail
  refine (HC.out _).mono ?_
  rintro e w1 ⟨rfl, hb⟩
  have HB1 : Hid (Blk w1 w.heap.size #[.int .i64 (Kp : Int), .int .i64 (N : Int), .int .u32 (gen : Int)] 28 ∧ Below w.heap.size w w1) := Lib.hid ⟨Blk.below (Blk.new _ _ _) hb (by simp), ((Below.refl _ _).alloc (Nat.le_refl _) _).trans (hb.mono (by simp))⟩
  clear hb
  go_wp2_with fail
  refine (HF.out _).mono ?_
  rintro e w2 ⟨rfl, rfl⟩
  have c0 : w1.cell? ⟨w.heap.size, 0, none⟩ = some (.int .i64 (Kp : Int)) := by rw [Blk.cell HB1.out.1]; rfl
  have c1 : w1.cell? ⟨w.heap.size, 1, none⟩ = some (.int .i64 (N : Int)) := by rw [Blk.cell HB1.out.1]; rfl
  have c2 : w1.cell? ⟨w.heap.size, 2, none⟩ = some (.int .u32 (gen : Int)) := by rw [Blk.cell HB1.out.1]; rfl
  go_wp2_with fail
  refine (HD.out _).mono ?_
  rintro e wA ⟨rfl, hb⟩
  have HA1 : Hid (Blk wA w.heap.size #[.int .i64 (Kp : Int), .int .i64 (N : Int), .int .u32 (gen : Int)] 28 ∧ Below w.heap.size w wA) := Lib.hid ⟨Blk.below HB1.out.1 hb (Blk.lt HB1.out.1), HB1.out.2.trans (hb.mono HB1.out.2.size)⟩
  clear hb c0 c1 c2 HB1
  have c0 : wA.cell? ⟨w.heap.size, 0, none⟩ = some (.int .i64 (Kp : Int)) := by rw [Blk.cell HA1.out.1]; rfl
  have c1 : wA.cell? ⟨w.heap.size, 1, none⟩ = some (.int .i64 (N : Int)) := by rw [Blk.cell HA1.out.1]; rfl
  have c2 : wA.cell? ⟨w.heap.size, 2, none⟩ = some (.int .u32 (gen : Int)) := by rw [Blk.cell HA1.out.1]; rfl
  go_wp2_with (refine wpList_mkS rfl (.tmp 42) (.tmp 42) rfl N rfl rfl hN ?_)
  have hX0 := SM.start wA N L gen
  generalize wA.alloc (.cells (rws N fun _ => zsh).toArray 52) = wB at *
  clear c0 c1 c2
  go_wp2_with fail
  go_loopw [46] (fun x wr => ∃ i : Nat, i ≤ N ∧ x = .int .i64 (i : Int) ∧ SM wA N L gen i wr) (fun x _ => N - (intOf x).toNat)
  case atStart => exact ⟨0, Nat.zero_le _, rfl, hX0⟩
  case round =>
    obtain ⟨i, hi, rfl, hX⟩ := hrel
    clear hX0
    by_cases hlt : i < N
    · have hi1 : (i : Int) < (N : Int) := by omega
      have hw1 : IntKind.i64.wrap ((i : Int) + 1) = (i : Int) + 1 := IntWalk.i64_in _ (by omega)
      have hw8 : IntKind.u8.wrap ((i : Int) + 1) = (i : Int) + 1 := u8_in (n := i + 1) (by omega)
      have hi0 : (0 : Int) ≤ (i : Int) := by omega
      have HC2 : Hid (wA.cell? ⟨w.heap.size, 2, none⟩ = some (.int .u32 (gen : Int))) := Lib.hid (by rw [Blk.cell HA1.out.1]; rfl)
      have hX_0 := hX.drew
      have hP_0 : Below wA.heap.size wA wr.drew := hX.bel.drew
      clear hX
      go_wp2_with fail
      refine wp_region_held_drew (S := (Below wA.heap.size wA)) (by kernel_rfl) ?_ (fun hHeld => ?_)
      · (try dsimp only)
        first | assumption | (apply Below.drew; assumption)
      generalize wr.drew = W5 at *
      refine wpAnyH_take (i := 0) (oi := { dst := some 49, op := Go.Op.move (Go.Operand.tmp 10), type := 29, pos := "shamir.go:49", after := #[], guard := none }) (v := ?_) rfl (by kernel_rfl) (by kernel_rfl) (by kernel_rfl) (fun _ _ _ h => h) (Or.inl ⟨by rfl, ?_⟩) (by assumption) ?_
      rotate_left
      · intro wS hSw
        (try dsimp only at hSw)
        go_simp
        (try with_reducible rfl)
      (try simp only [Act.put, List.setIfInBounds_toArray, List.set_cons_zero, List.set_cons_succ])
      refine wpAnyH_take (i := 1) (oi := { dst := some 50, op := Go.Op.move (Go.Operand.tmp 11), type := 3, pos := "shamir.go:49", after := #[], guard := none }) (v := ?_) rfl (by kernel_rfl) (by kernel_rfl) (by kernel_rfl) (fun _ _ _ h => h) (Or.inl ⟨by rfl, ?_⟩) (by assumption) ?_
      rotate_left
      · intro wS hSw
        (try dsimp only at hSw)
        go_simp
        (try with_reducible rfl)
      (try simp only [Act.put, List.setIfInBounds_toArray, List.set_cons_zero, List.set_cons_succ])
      refine wpAnyH_take (i := 2) (oi := { dst := some 51, op := Go.Op.move (Go.Operand.tmp 11), type := 3, pos := "shamir.go:49", after := #[], guard := none }) (v := ?_) rfl (by kernel_rfl) (by kernel_rfl) (by kernel_rfl) (fun _ _ _ h => h) (Or.inl ⟨by rfl, ?_⟩) (by assumption) ?_
      rotate_left
      · intro wS hSw
        (try dsimp only at hSw)
        go_simp
        (try with_reducible rfl)
      (try simp only [Act.put, List.setIfInBounds_toArray, List.set_cons_zero, List.set_cons_succ])
      refine wpAnyH_take (i := 3) (oi := { dst := some 52, op := Go.Op.binOp Go.BinOp.add 3 (Go.Operand.tmp 51) (Go.Operand.const (Go.Value.int Go.IntKind.i64 1)) 3, type := 3, pos := "shamir.go:49", after := #[{ on := 2, ground := Go.Ground.data }], guard := none }) (v := ?_) rfl (by kernel_rfl) (by kernel_rfl) (by kernel_rfl) (fun _ _ _ h => h) (Or.inl ⟨by rfl, ?_⟩) (by assumption) ?_
      rotate_left
      · intro wS hSw
        ((try dsimp only at hSw); go_simp; (try with_reducible rfl))
      (try simp only [Act.put, List.setIfInBounds_toArray, List.set_cons_zero, List.set_cons_succ])
      refine wpAnyH_take (i := 4) (oi := { dst := some 53, op := Go.Op.convert 3 5 (Go.Operand.tmp 52), type := 5, pos := "shamir.go:49", after := #[{ on := 3, ground := Go.Ground.data }], guard := none }) (v := ?_) rfl (by kernel_rfl) (by kernel_rfl) (by kernel_rfl) (fun _ _ _ h => h) (Or.inl ⟨by rfl, ?_⟩) (by assumption) ?_
      rotate_left
      · intro wS hSw
        (try dsimp only at hSw)
        go_simp
        (try with_reducible rfl)
      (try simp only [Act.put, List.setIfInBounds_toArray, List.set_cons_zero, List.set_cons_succ])
      refine wpAnyH_take (i := 5) (oi := { dst := some 54, op := Go.Op.fieldAddr 28 (Go.Operand.tmp 6) 2, type := 0, pos := "shamir.go:49", after := #[], guard := none }) (v := ?_) rfl (by kernel_rfl) (by kernel_rfl) (by kernel_rfl) (fun _ _ _ h => h) (Or.inl ⟨by rfl, ?_⟩) (by assumption) ?_
      rotate_left
      · intro wS hSw
        (try dsimp only at hSw)
        go_simp
        (try with_reducible rfl)
      (try simp only [Act.put, List.setIfInBounds_toArray, List.set_cons_zero, List.set_cons_succ])
      refine wpAnyH_take (i := 6) (oi := { dst := some 55, op := Go.Op.load 23 (Go.Operand.tmp 54), type := 23, pos := "shamir.go:49", after := #[{ on := 5, ground := Go.Ground.data }], guard := none }) (v := ?_) rfl (by kernel_rfl) (by kernel_rfl) (by kernel_rfl) (fun _ _ _ h => h) (Or.inl ⟨by rfl, ?_⟩) (by assumption) ?_
      rotate_left
      · intro wS hSw
        (have c9 := cell_below hSw HC2.out; go_simp; (try with_reducible rfl))
      (try simp only [Act.put, List.setIfInBounds_toArray, List.set_cons_zero, List.set_cons_succ])
      refine wpAnyH_take (i := 7) (oi := { dst := some 56, op := Go.Op.move (Go.Operand.tmp 1), type := 22, pos := "shamir.go:49", after := #[], guard := none }) (v := ?_) rfl (by kernel_rfl) (by kernel_rfl) (by kernel_rfl) (fun _ _ _ h => h) (Or.inl ⟨by rfl, ?_⟩) (by assumption) ?_
      rotate_left
      · intro wS hSw
        (try dsimp only at hSw)
        go_simp
        (try with_reducible rfl)
      (try simp only [Act.put, List.setIfInBounds_toArray, List.set_cons_zero, List.set_cons_succ])
      refine wpAnyH_take (i := 8) (oi := { dst := some 57, op := Go.Op.call { callee := Go.Callee.builtin Go.Builtin.len, args := #[Go.Operand.tmp 56], argTypes := #[22] }, type := 3, pos := "shamir.go:49", after := #[{ on := 7, ground := Go.Ground.data }], guard := none }) (v := ?_) rfl (by kernel_rfl) (by kernel_rfl) (by kernel_rfl) (fun _ _ _ h => h) (Or.inl ⟨by rfl, ?_⟩) (by assumption) ?_
      rotate_left
      · intro wS hSw
        (try dsimp only at hSw)
        go_simp
        (try with_reducible rfl)
      (try simp only [Act.put, List.setIfInBounds_toArray, List.set_cons_zero, List.set_cons_succ])
      refine wpAnyH_ready (rs := [9]) (by kernel_rfl) (by simp) ?_
      refine AllReadyH.cons (o := { dst := some 58, op := Go.Op.makeSlice 22 (Go.Operand.tmp 57) (Go.Operand.tmp 57), type := 22, pos := "shamir.go:49", after := #[{ on := 8, ground := Go.Ground.data }, { on := 8, ground := Go.Ground.data }], guard := none }) rfl (fun K hK => ?_) AllReadyH.nil
      (refine step_make rfl (.tmp 57) (.tmp 57) rfl L rfl rfl (by omega) ?_; have hP_1 : Below wA.heap.size wA (W5.alloc (.cells (rowC L (fun _ => 0)).toArray 5)) := hP_0.trans ((Below.refl _ _).alloc hP_0.size _); have HTH : Hid ((W5.alloc (.cells (rowC L (fun _ => 0)).toArray 5)).there wA.heap.size (i * 3) 3) := Lib.hid (Blk.thereM (hX_0.blk.alloc _) (by rw [rws_size3 (fun _ _ => mkC_len _ _ _ _ _)]; omega)); clear hP_0; skip)
      refine hK.out _ _ ?_ (fun hHeld => ?_)
      · (try dsimp only)
        first | assumption | (apply Below.drew; assumption)
      clear hK K
      (try simp only [Act.put, List.setIfInBounds_toArray, List.set_cons_zero, List.set_cons_succ])
      refine wpAnyH_take (i := 10) (oi := { dst := some 59, op := Go.Op.build 52 #[(0, Go.Operand.tmp 53), (1, Go.Operand.tmp 55), (2, Go.Operand.tmp 58)], type := 52, pos := "shamir.go:49", after := #[{ on := 4, ground := Go.Ground.data }, { on := 6, ground := Go.Ground.data }, { on := 9, ground := Go.Ground.data }], guard := none }) (v := ?_) rfl (by kernel_rfl) (by kernel_rfl) (by kernel_rfl) (fun _ _ _ h => h) (Or.inl ⟨by rfl, ?_⟩) (by assumption) ?_
      rotate_left
      · intro wS hSw
        refine exec_buildM (parts := #[(0, .tmp 53), (1, .tmp 55), (2, .tmp 58)]) (C := #[.int .u8 ((i : Int) + 1), .int .u32 (gen : Int), .slice (some ⟨W5.heap.size, 0, none⟩) L L]) (ps := #[(0, .int .u8 ((i : Int) + 1)), (1, .int .u32 (gen : Int)), (2, .slice (some ⟨W5.heap.size, 0, none⟩) L L)]) ?_ ?_ (build_share _ _ _ _ _) <;> first | rfl | (simp; exact ⟨rfl, rfl, rfl⟩)
      (try simp only [Act.put, List.setIfInBounds_toArray, List.set_cons_zero, List.set_cons_succ])
      refine wpAnyH_take (i := 11) (oi := { dst := some 60, op := Go.Op.indexAddr 29 (Go.Operand.tmp 49) (Go.Operand.tmp 50), type := 0, pos := "shamir.go:49", after := #[{ on := 0, ground := Go.Ground.data }, { on := 1, ground := Go.Ground.data }, { on := 0, ground := Go.Ground.phase }, { on := 1, ground := Go.Ground.phase }, { on := 2, ground := Go.Ground.phase }, { on := 3, ground := Go.Ground.phase }, { on := 4, ground := Go.Ground.phase }, { on := 5, ground := Go.Ground.phase }, { on := 6, ground := Go.Ground.phase }, { on := 7, ground := Go.Ground.phase }, { on := 8, ground := Go.Ground.phase }, { on := 9, ground := Go.Ground.phase }, { on := 10, ground := Go.Ground.phase }], guard := none }) (v := ?_) rfl (by kernel_rfl) (by kernel_rfl) (by kernel_rfl) (fun _ _ _ h => h) (Or.inl ⟨by rfl, ?_⟩) (by assumption) ?_
      rotate_left
      · intro wS hSw
        (try dsimp only at hSw)
        go_simp
        (try with_reducible rfl)
      (try simp only [Act.put, List.setIfInBounds_toArray, List.set_cons_zero, List.set_cons_succ])
      refine wpAnyH_ready (rs := [12]) (by kernel_rfl) (by simp) ?_
      refine AllReadyH.cons (o := { dst := none, op := Go.Op.store 52 (Go.Operand.tmp 60) (Go.Operand.tmp 59), type := 0, pos := "shamir.go:49", after := #[{ on := 11, ground := Go.Ground.data }, { on := 10, ground := Go.Ground.data }, { on := 0, ground := Go.Ground.phase }, { on := 1, ground := Go.Ground.phase }, { on := 2, ground := Go.Ground.phase }, { on := 3, ground := Go.Ground.phase }, { on := 4, ground := Go.Ground.phase }, { on := 5, ground := Go.Ground.phase }, { on := 6, ground := Go.Ground.phase }, { on := 7, ground := Go.Ground.phase }, { on := 8, ground := Go.Ground.phase }, { on := 9, ground := Go.Ground.phase }, { on := 10, ground := Go.Ground.phase }], guard := none }) rfl (fun K hK => ?_) AllReadyH.nil
      (refine step_storeM rfl 52 (.tmp 60) (.tmp 59) rfl wA.heap.size (i * 3) #[.int .u8 ((i : Int) + 1), .int .u32 (gen : Int), .slice (some ⟨W5.heap.size, 0, none⟩) L L] rfl rfl HTH.out info_share3 (one_share _ _ _ _ _ _ _) ?_; have hX2 := hX_0.next hlt; rw [shC, ← hX_0.size] at hX2; have hP_2 := hX2.bel; skip)
      refine hK.out _ _ ?_ (fun hHeld => ?_)
      · (try dsimp only)
        first | assumption | (apply Below.drew; assumption)
      clear hK K
      (try simp only [Act.put, List.setIfInBounds_toArray, List.set_cons_zero, List.set_cons_succ])
      refine wpAnyH_done (by kernel_rfl) ?_ _
      have HX2 := Lib.hid hX2
      clear hX2 hX_0 hP_1 hP_2
      go_wp2_with fail
      go_roundw
      case rel => exact ⟨i + 1, by omega, by go_num, HX2.out⟩
      case measure => simp [intOf]; omega
    · obtain rfl : N = i := by omega
      have hR := SR.of_made hX (HT.out.below HA1.out.2)
      have c0 : wr.cell? ⟨w.heap.size, 0, none⟩ = some (.int .i64 (Kp : Int)) := by rw [Blk.cell (Blk.below HA1.out.1 hX.bel (Blk.lt HA1.out.1))]; rfl
      have hKk : (Kp : Int) - 1 = (k : Int) := by have := HNM.out.1; omega
      have hKb : (1 : Int) ≤ (Kp : Int) ∧ (Kp : Int) ≤ 255 := by have := HNM.out; omega
      have hR2 := hR.congr (G := nF (fun x => shF s d k (x + 1)) 0 0) (fun x j _ _ => nF_zero.symm)
      clear hX hR hlt hi
      go_wp2_with fail
      clear c0 hKk
      go_loopw [67] (fun x wr => ∃ j : Nat, j ≤ L ∧ x = .int .i64 (j : Int) ∧ SR tb wA N L gen (nF (fun x => shF s d k (x + 1)) j 0) wr) (fun x _ => L - (intOf x).toNat)
      case atStart => exact ⟨0, Nat.zero_le _, rfl, hR2⟩
      case round =>
        obtain ⟨j, hj, rfl, hR⟩ := hrel
        clear hR2
        by_cases hlt : j < L
        · obtain ⟨hs8, b9, o9, e9, hc⟩ := ((HS.out.later HA1.out.2).own hR.own (Apart.of_ne HA.out.1)) j hlt
          cases e9
          obtain ⟨jk, hjk⟩ : ∃ x, j * k = x := ⟨_, rfl⟩
          obtain ⟨hi, hhi⟩ : ∃ x, jk + k = x := ⟨_, rfl⟩
          have hle : hi ≤ M ∧ 1 ≤ k := by
            have h9 := HNM.out
            rw [← hhi, ← hjk, h9.2.2.2.2.2.2.1]
            exact ⟨by rw [← Nat.succ_mul]; exact Nat.mul_le_mul_right k hlt, by omega⟩
          have hMc : M ≤ cd ∧ M ≤ 64 * 255 := by
            have h9 := HNM.out
            refine ⟨h9.2.2.2.2.2.2.2, ?_⟩
            rw [h9.2.2.2.2.2.2.1]; exact Nat.mul_le_mul h9.2.2.2.2.2.1 (by omega)
          have hj0 : (0 : Int) ≤ (j : Int) := by omega
          have hj1 : (j : Int) < (L : Int) := by omega
          have hw1 : IntKind.i64.wrap ((j : Int) + 1) = (j : Int) + 1 := IntWalk.i64_in _ (by omega)
          have hw2 : IntKind.i64.wrap ((j : Int) * (k : Int)) = (jk : Int) := by rw [← Int.natCast_mul, hjk]; exact IntWalk.i64_in _ (by omega)
          have hw3 : IntKind.i64.wrap (((j : Int) + 1) * (k : Int)) = (hi : Int) := by
            rw [show ((j : Int) + 1) * (k : Int) = (hi : Int) by rw [show ((j : Int) + 1) = ((j + 1 : Nat) : Int) from rfl, ← Int.natCast_mul, Nat.succ_mul, hjk, hhi]]
            exact IntWalk.i64_in _ (by omega)
          have hne : ¬ cd = jk := by omega
          have hb1 : jk ≤ hi := by omega
          have hb2 : hi ≤ cd := by omega
          have HJ : Hid (j * k = jk ∧ jk + k = hi ∧ hi ≤ M ∧ 1 ≤ k) := Lib.hid ⟨hjk, hhi, hle.1, hle.2⟩
          obtain ⟨sj, hsj⟩ : ∃ x, s j = x := ⟨_, rfl⟩
          rw [hsj] at hc hs8
          have HSJ := Lib.hid hsj
          clear hjk hhi hle hMc hsj
          have hhk : hi - jk = k := by have := HJ.out; omega
          have HGL : Hid (Grow (wr.alloc (.cells #[.int .u8 (sj : Int)] 5)) wr.heap.size (.slice (some ⟨wr.heap.size, 0, none⟩) 1 1) 1 (fun _ => sj)) := Lib.hid (Grow.lit (Blk.new _ _ _) (Nat.le_refl _) (by unfold maxLen; omega))
          have HBD : Hid (Bytes (wr.alloc (.cells #[.int .u8 (sj : Int)] 5)) (some ⟨db, dof + jk, none⟩) k (fun i => d (jk + i))) := Lib.hid (fun i hi' => by
            obtain ⟨g1, b, off, e, g2⟩ := (((HDR.out.later HA1.out.2).own hR.own (Apart.of_ne HA.out.2)).alloc (.cells #[.int .u8 (sj : Int)] 5)) (jk + i) (by have := HJ.out; omega)
            cases e
            exact ⟨g1, db, dof + jk, rfl, by rw [Nat.add_assoc]; exact g2⟩)
          have HR := Lib.hid hR
          have hk4 : k < 1000 := by have := HNM.out; omega
          clear hR
          go_wp2_with (refine wpList_appO rfl (.tmp 73) (.tmp 82) rfl wr.heap.size (.slice (some ⟨wr.heap.size, 0, none⟩) 1 1) 1 k (cd - jk) (some ⟨db, dof + jk, none⟩) (fun _ => sj) (fun i => d (jk + i)) _ rfl HGL.out rfl (fun e => by cases e) HBD.out (by omega) ?c1 ?_)
          case c1 => simp
          intro v1 w1 hG hgr hat
          have hb1 : Below wr.heap.size wr w1 := ((Below.refl _ _).alloc (Nat.le_refl _) _).grown hgr (by simp) (Grow.block HGL.out)
          have hR1 := HR.out.later hb1
          obtain ⟨B0, hB0⟩ : ∃ x, wr.heap.size = x := ⟨_, rfl⟩
          have hlow : wA.heap.size + 1 + N ≤ B0 ∧ tb < wA.heap.size := ⟨hB0 ▸ HR.out.big, HR.out.low⟩
          rw [hB0] at hG
          obtain ⟨C, hC⟩ : ∃ x, cF s d k j = x := ⟨_, rfl⟩
          rw [← cF_eq HJ.out.1 HSJ.out, hC] at hG
          have HCC : Hid (∀ i, i < 1 + k → C i < 256) := Lib.hid (by
            rw [← hC]
            exact cF_lt (L := L) (fun j hj => (HS.out j hj).1) (fun i hi => (HDR.out i (by rw [HNM.out.2.2.2.2.2.2.1]; exact hi)).1) hlt)
          have HCE := Lib.hid hC
          have hsz1 : B0 ≤ w1.heap.size := hB0 ▸ hb1.size
          clear hgr hat hb1 hB0 hC HGL HBD HR hc hw2 hw3 hhk hne hb2
          obtain ⟨oa, cp, rfl, hBy, hob⟩ := hG.bytes HCC.out
          clear hBy hob
          have hk9 : 1 + k ≤ maxLen := by unfold maxLen; have := HNM.out; omega
          have HK9 := Lib.hid hk9
          clear hk9
          go_wp2_with fail
          go_loopw [86] (fun x ws => ∃ i : Nat, i ≤ N ∧ x = .int .i64 (i : Int) ∧ SR tb wA N L gen (nF (fun x => shF s d k (x + 1)) j i) ws ∧ Grow ws B0 (.slice oa (1 + k) cp) (1 + k) C ∧ B0 ≤ ws.heap.size) (fun x _ => N - (intOf x).toNat)
          case atStart => exact ⟨0, Nat.zero_le _, rfl, hR1, hG, hsz1⟩
          case round =>
            obtain ⟨i, hi', rfl, hR, hG2, hBw⟩ := hrel
            clear hR1 hG hsz1
            by_cases hlt2 : i < N
            · obtain ⟨q0, q1, q2⟩ := hR.cells hlt2
              obtain ⟨q, hq⟩ : ∃ x, i + 1 = x := ⟨_, rfl⟩
              have hq2 : (i : Int) + 1 = (q : Int) := by omega
              have hq8 : q < 256 := by omega
              rw [hq] at q0
              have hi0 : (0 : Int) ≤ (i : Int) := by omega
              have hi1 : (i : Int) < (N : Int) := by omega
              have HQ := Lib.hid hq
              have HR := Lib.hid hR
              have HG := Lib.hid hG2
              clear hq hq2 hR hG2
              go_wp2_with fail
              obtain ⟨wB, hwB⟩ : ∃ x, wr.alloc (.cells #[.int .u8 (q : Int), .int .u32 (gen : Int), .slice (some ⟨wA.heap.size + 1 + i, 0, none⟩) L L] 52) = x := ⟨_, rfl⟩
              rw [hwB]
              have hR2 : SR tb wA N L gen (nF (fun x => shF s d k (x + 1)) j i) wB.drew := by rw [← hwB]; exact (HR.out.alloc _).drew
              have hG3 : Grow wB.drew B0 (.slice oa (1 + k) cp) (1 + k) C := by rw [← hwB]; exact (HG.out.later ((Below.refl _ _).alloc (Nat.le_refl _) _)).drew
              have hbw : B0 ≤ wB.heap.size := by rw [← hwB]; simp; omega
              have hbn : wr.heap.size ≠ tb := by omega
              obtain ⟨sb2, hsb2⟩ : ∃ x, wr.heap.size = x := ⟨_, rfl⟩
              have d0 : wB.cell? ⟨sb2, 0, none⟩ = some (.int .u8 (q : Int)) := by rw [← hwB, ← hsb2]; exact World.cell?_alloc_mark _ _ _ _ _
              have d2 : wB.cell? ⟨sb2, 2, none⟩ = some (.slice (some ⟨wA.heap.size + 1 + i, 0, none⟩) L L) := by rw [← hwB, ← hsb2]; exact World.cell?_alloc_mark _ _ _ _ _
              rw [hsb2] at hbn
              obtain ⟨v, hv⟩ : ∃ x, evalN C (1 + k) q = x := ⟨_, rfl⟩
              have HVV := Lib.hid hv
              have HR2 := Lib.hid hR2
              have HG3 := Lib.hid hG3
              have HL2 := Lib.hid hlow
              have HBN := Lib.hid hbn
              have HBW := Lib.hid hbw
              have hne3 : sb2 ≠ wA.heap.size + 1 + i := by omega
              have hne4 : wA.heap.size + 1 + i ≠ sb2 := by omega
              rw [hsb2]
              clear hv hR2 hG3 hwB hsb2 q0 q1 q2 HR HG hlow hbn hbw hBw
              go_region_held3 (fun w' => w'.cell? ⟨sb2, 0, none⟩ = some (.int .u8 (q : Int)) ∧ w'.cell? ⟨sb2, 2, none⟩ = some (.slice (some ⟨wA.heap.size + 1 + i, 0, none⟩) L L)) (go_keep)
                ((go_at_call 39; refine (eval_keep (b := sb2) _ HR2.out.tab HG3.out HCC.out (by have := HL2.out; omega) HK9.out hq8 HVV.out d0 d2 HBN.out).mono ?_; rintro e w5 ⟨rfl, hL5, d5, d6⟩; have hR5 := Lib.hid (HR2.out.left hL5); have c5 := (hR5.out.rows i hlt2).cell hlt; have f5 := Blk.free (hR5.out.rows i hlt2) j))
              have HR6 := Lib.hid (hR5.out.set hlt2 j v)
              have HG6 : Hid (Grow (w5.setCell ⟨wA.heap.size + 1 + i, j, none⟩ (.int .u8 (v : Nat))) B0 (.slice oa (1 + k) cp) (1 + k) C) := Lib.hid ((HG3.out.own hL5.2 (by have := HL2.out; omega)).own ((Own.refl (wA.heap.size + 1 + i) w5).set j _) (by have := HL2.out; omega))
              have hlow := HL2.out
              have hB6 : Hid (B0 ≤ (w5.setCell ⟨wA.heap.size + 1 + i, j, none⟩ (.int .u8 (v : Nat))).heap.size) := Lib.hid (Nat.le_trans HBW.out (Nat.le_trans hL5.2.size ((Own.refl (wA.heap.size + 1 + i) w5).set j _).size))
              clear HR2 HG3 hL5 d5 d6 hR5 c5 f5 d0 d2 hne3 hne4
              go_wp2_with fail
              go_roundw
              case rel => exact ⟨i + 1, by omega, by go_num, by
                have h9 := HR6.out
                rw [nF_step (by show shF s d k (i + 1) j = v; rw [HQ.out, ← HVV.out, ← HCE.out]; rfl)] at h9
                exact h9, HG6.out, hB6.out⟩
              case measure => simp [intOf]; omega
            · obtain rfl : N = i := by omega
              have HR6 := Lib.hid (hR.congr (G := nF (fun x => shF s d k (x + 1)) (j + 1) 0) (fun x y hx _ => nF_next hx))
              clear hR hG2 hBw
              go_wp2_with fail
              go_roundw
              case rel => exact ⟨j + 1, by omega, by go_num, HR6.out⟩
              case measure => simp [intOf]; omega
        · obtain rfl : L = j := by omega
          have HR6 := Lib.hid (hR.congr (G := fun x => shF s d k (x + 1)) (fun x y _ hy => nF_end hy))
          clear hR
          go_wp2_with fail
          go_ret2
          exact ⟨wA, rfl, HA1.out.2.size, Own.of_below HA1.out.2, HR6.out⟩
end Go.Proofs.YtmhofofidmbgfaaDoor
