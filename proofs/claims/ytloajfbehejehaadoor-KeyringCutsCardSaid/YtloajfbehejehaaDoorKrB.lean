/- KeyringCuts: the ring from the keys. -/
import Derived.Test.YtloajfbehejehaaDoorKrY
namespace Go.Proofs.YtloajfbehejehaaDoor
set_option linter.unusedVariables false
set_option linter.unusedSimpArgs false
open Go.RowKit
/-- Keys of 32 bytes behind an address. -/
def KL (w : World) (oa : Option Addr) (n : Nat) (Q : Nat → Nat → Nat) : Prop := ∀ i, i < n → ∃ b off, oa = some ⟨b, off, none⟩ ∧ w.rangeAt b (off + i * 32) (rowC 32 (Q i))
theorem KL.later {w w' : World} {oa : Option Addr} {n : Nat} {Q : Nat → Nat → Nat} (h : KL w oa n Q) (hb : Below w.heap.size w w') : KL w' oa n Q := fun i hi => by
  obtain ⟨b, off, e, hr⟩ := h i hi
  exact ⟨b, off, e, fun j v hv => cell_below hb (hr j v hv)⟩
theorem dec_no (m cb : Nat) (ob : Option Addr) (B : Nat → Nat) (w : World) (hB : Bytes w ob m B) (hm : m ≤ cb) (hs : m < 1000000) (h : ¬ IsRing m B) :
    Calls Tryd.prog 10 #[.slice ob m cb] w fun e w' => e = .returned (.tuple #[.agg #[.slice none 0 0], .iface 64 (.int .i64 4)]) ∧ Below w.heap.size w w' := by
  refine (decode_any m cb ob B w hB hm hs).mono ?_
  rintro e w' ⟨hb, ⟨rfl, _⟩ | ⟨h1, _⟩⟩
  · exact ⟨rfl, hb⟩
  · exact absurd h1 h
theorem dec_ok (m cb : Nat) (ob : Option Addr) (B : Nat → Nat) (w : World) (hB : Bytes w ob m B) (hm : m ≤ cb) (hs : m < 1000000) (h : IsRing m B) :
    Calls Tryd.prog 10 #[.slice ob m cb] w fun e w' => ∃ o c, e = .returned (.tuple #[.agg #[.slice o (B 2) c], .nilIface]) ∧ TL w' o (B 2) (fun i => i + 1) (fun i j => B (3 + 32 * i + j)) ∧ Below w.heap.size w w' := by
  refine (decode_any m cb ob B w hB hm hs).mono ?_
  rintro e w' ⟨hb, ⟨_, h1⟩ | ⟨_, o, c, rfl, hT⟩⟩
  · exact absurd h h1
  · exact ⟨o, c, rfl, hT, hb⟩
theorem encode_nil (w : World) : Calls Tryd.prog 9 #[.agg #[.slice none 0 0]] w fun e w' => e = .returned (.tuple #[.slice none 0 0, .iface 64 (.int .i64 1)]) ∧ Below w.heap.size w w' := by
  refine (encode_any 0 0 none (fun _ => 0) (fun _ _ => 0) w (TL.nil _ _ _ _) (fun _ h => absurd h (Nat.not_lt_zero _)) (fun _ _ h => absurd h (Nat.not_lt_zero _)) (by omega)).mono ?_
  rintro e w' ⟨hb, ⟨rfl, _⟩ | ⟨h1, _⟩⟩
  · exact ⟨rfl, hb⟩
  · exact absurd h1.1 (by omega)
theorem encF_lt {k : Nat} {S : Nat → Nat → Nat} (hk : k < 256) (hS : ∀ i j, S i j < 256) (i : Nat) : encF k S i < 256 := by
  unfold encF
  by_cases e0 : i = 0
  · rw [if_pos e0]; decide
  · rw [if_neg e0]
    by_cases e1 : i = 1
    · rw [if_pos e1]; decide
    · rw [if_neg e1]
      by_cases e2 : i = 2
      · rw [if_pos e2]; exact hk
      · rw [if_neg e2]; exact hS _ _
theorem encF_two (k : Nat) (S : Nat → Nat → Nat) : encF k S 2 = k := by unfold encF; simp
/-- A ring of i + 1 keys lies in block b. -/
def RS (b i : Nat) (w wr : World) : Prop := ∃ o c S, Blk wr b #[.slice o (i + 1) c] 26 ∧ TL wr o (i + 1) (fun i => i + 1) S ∧ (∀ i j, S i j < 256) ∧ Below w.heap.size w wr
theorem build_k1 (w : World) : (Instr.build 22 #[(0, .int .u8 1)]).run Tryd.prog w = .ok (.agg (rowC 32 (kF 1)).toArray) w := run_build w 22 _ _ (by kernel_rfl)
set_option maxRecDepth 100000 in
set_option maxHeartbeats 8000000 in
theorem cuts_any (n cs m cb cut : Nat) (oa ob : Option Addr) (Q : Nat → Nat → Nat) (B : Nat → Nat) (w : World) (hg : GH w) (hK : KL w oa n Q) (hQ : ∀ i j, Q i j < 256) (hB : Bytes w ob m B) (hm : m ≤ cb) (hn : n < 9223372036854775808) (hmx : m < 9223372036854775808) (hno : ob = none → m = 0) (hcut : cut < 65536) :
    Calls Tryd.prog 4 #[.slice oa n cs, .int .u16 (cut : Int), .slice ob m cb] w fun e w' => e = .returned (.bool true) ∧ Below w.heap.size w w' := by
  obtain ⟨F1, hF1⟩ : ∃ q, (rowC 32 (kF 1)).toArray = q := ⟨_, rfl⟩
  have HK1 : Hid (∀ w, (Instr.build 22 #[(0, .int .u8 1)]).run Tryd.prog w = .ok (.agg F1) w) := Lib.hid (by rw [← hF1]; exact build_k1)
  have HFI : Hid (∀ w, Calls Tryd.prog 6 #[.agg F1] w fun e w' => ∃ g, e = .returned (.agg #[.slice (some ⟨g, 0, none⟩) 1 1]) ∧ TL w' (some ⟨g, 0, none⟩) 1 (fun _ => 1) (fun _ => kF 1) ∧ Below w.heap.size w w') := Lib.hid fun w => by rw [← hF1]; exact first_any _ w
  have HG := Lib.hid hg
  have HK := Lib.hid hK
  have HQ := Lib.hid hQ
  have HBY := Lib.hid hB
  have HN := Lib.hid (show m ≤ cb ∧ n < 9223372036854775808 ∧ m < 9223372036854775808 ∧ (ob = none → m = 0) ∧ cut < 65536 from ⟨hm, hn, hmx, hno, hcut⟩)
  clear hF1 hg hK hQ hB hm hn hmx hno hcut
  go_enter Tryd.func4, Tryd.ntmps4
  go_upto_region 2 with (first | (refine wpList_value rfl (exec_buildM (parts := #[(0, .const (.int .u8 1))]) (ps := #[(0, .int .u8 1)]) (C := F1) rfl (by first | rfl | (simp [Act.eval]; done) | go_simp) HK1.out) ?_) | (go_at_call 6; refine (HFI.out _).mono ?_; rintro e w1 ⟨g, rfl, hT1, hb1⟩))
  obtain ⟨w2, hw2⟩ : ∃ q, w1.alloc (.cells #[.slice (some ⟨g, 0, none⟩) 1 1] 26) = q := ⟨_, rfl⟩
  obtain ⟨b7, hq7⟩ : ∃ q, w1.heap.size = q := ⟨_, rfl⟩
  have HR2 : Hid (RS b7 0 w w2) := Lib.hid (by
    have hv : Below w1.heap.size w1 w2 := by rw [← hw2]; exact (Below.refl _ _).alloc (Nat.le_refl _) _
    exact ⟨_, 1, fun _ => kF 1, by rw [← hw2, ← hq7]; exact Blk.new _ _ _, (hT1.later hv).congr (fun i hi => ⟨by show 1 = i + 1; omega, rfl⟩), fun i j => kF_lt (by omega) _, hb1.trans (hv.mono hb1.size)⟩)
  have HGE : Hid (w.heap.size ≤ b7) := Lib.hid (by rw [← hq7]; exact hb1.size)
  rw [hw2, hq7]
  clear hT1 hb1 hw2 hq7
  go_wp2_with fail
  go_loopw [8] (fun y wr => ∃ i : Nat, i ≤ min n 15 ∧ y = .int .i64 (i : Int) ∧ RS b7 i w wr) (fun y _ => 15 - (intOf y).toNat)
  case atStart => exact ⟨0, Nat.zero_le _, rfl, HR2.out⟩
  case round =>
    obtain ⟨i, hi, rfl, hRS⟩ := hrel
    by_cases hlt : i < min n 15
    · obtain ⟨o, c, S, h7, hT, hSl, hW⟩ := hRS
      have za1 : (i : Int) < (n : Int) := by omega
      have za2 : decide ((i : Int) < (n : Int)) = true := decide_eq_true za1
      have za7 : i < n := by omega
      have za8 : decide (i < n) = true := decide_eq_true za7
      have zb1 : (i : Int) < (15 : Int) := by omega
      have zb2 : decide ((i : Int) < (15 : Int)) = true := decide_eq_true zb1
      have zb7 : i < 15 := by omega
      have zb8 : decide (i < 15) = true := decide_eq_true zb7
      have i0 : (0 : Int) ≤ (i : Int) := by omega
      have k4 : IntKind.i64.wrap ((i : Int) + 1) = ((i + 1 : Nat) : Int) := by rw [IntWalk.i64_in _ (by omega)]; omega
      obtain ⟨bk, ok, ea, hrg⟩ := (HK.out.later hW) i (by omega)
      subst ea
      have HK2 := HK
      obtain ⟨F, hF⟩ : ∃ q, (rowC 32 (Q i)).toArray = q := ⟨_, rfl⟩
      obtain ⟨i1, hi1⟩ : ∃ q, i + 1 = q := ⟨_, rfl⟩
      obtain ⟨i2, hi2⟩ : ∃ q, i1 + 1 = q := ⟨_, rfl⟩
      obtain ⟨S2, hS2⟩ : ∃ q, catT i1 S (fun _ => Q i) = q := ⟨_, rfl⟩
      have HI := Lib.hid (show i + 1 ≤ min n 15 by omega)
      have HI2 : Hid (i2 = i + 1 + 1) := Lib.hid (by omega)
      have HIF : Hid ((Tryd.prog.info? 22).map (·.size) = some F.size) := Lib.hid (by rw [← hF, List.size_toArray, rowC_len]; exact info_a32)
      have HS2 : Hid (∀ i j, S2 i j < 256) := Lib.hid fun p q => by rw [← hS2]; unfold catT; split <;> first | exact hSl _ _ | exact HQ.out _ _
      rw [hi1] at h7 hT
      have HRO : Hid (∀ A, Below wr.heap.size wr A → Calls Tryd.prog 7 #[.agg #[.slice o i1 c], .agg F] A fun e w' => ∃ o2 c2, e = .returned (.tuple #[.agg #[.slice o2 i2 c2], .nilIface]) ∧ TL w' o2 i2 (fun i => i + 1) S2 ∧ Below A.heap.size A w') := Lib.hid fun A hA => by
        rw [← hF, ← hS2, ← hi2]
        exact rotate_ok i1 c o _ S (Q i) A (hT.later hA) ⟨by omega, by omega, fun _ _ => rfl⟩ (by omega)
      have HRG : Hid (wr.rangeAt bk (ok + i * 32) F.toList) := Lib.hid (by rw [← hF]; exact hrg)
      have HSS : Hid (∀ A, Below wr.heap.size wr A → A.cell? ⟨b7, 0, none⟩ = some (.slice o i1 c) ∧ A.rangeAt bk (ok + i * 32) F.toList) := Lib.hid fun A hA => ⟨by rw [Blk.cell (Blk.below h7 hA (Blk.lt h7))]; rfl, fun j v hv => cell_below hA (HRG.out j v hv)⟩
      have HB7 := Lib.hid h7
      have HW := Lib.hid hW
      clear hrg hF hi1 hi2 hS2 hSl h7 hT hW hi hlt
      go_upto_region 5 with fail
      have hvW0 : Below wr.heap.size wr wr.drew := (Below.refl _ _).drew
      have hSW0 := HSS.out _ hvW0
      refine wp_region_held_drew (S := (fun A => A.cell? ⟨b7, 0, none⟩ = some (.slice o i1 c) ∧ A.rangeAt bk (ok + i * 32) F.toList)) (by kernel_rfl) ?_ (fun hHeld => ?_)
      · (try dsimp only)
        (first | assumption | (dsimp only; assumption))
      generalize wr.drew = W0 at *
      refine wpAnyH_take (i := 0) (oi := { dst := some 34, op := Go.Op.load 26 (Go.Operand.tmp 7), type := 26, pos := "law.go:127", after := #[], guard := none }) (v := ?_) rfl (by kernel_rfl) (by kernel_rfl) (by kernel_rfl) (fun _ _ _ h => h) (Or.inl ⟨by rfl, ?_⟩) (by assumption) ?_
      rotate_left
      · intro wS hSw
        (have c := hSw.1; go_simp; (try with_reducible rfl))
      (try simp only [Act.put, List.setIfInBounds_toArray, List.set_cons_zero, List.set_cons_succ])
      refine wpAnyH_take (i := 1) (oi := { dst := some 35, op := Go.Op.move (Go.Operand.tmp 0), type := 23, pos := "law.go:127", after := #[], guard := none }) (v := ?_) rfl (by kernel_rfl) (by kernel_rfl) (by kernel_rfl) (fun _ _ _ h => h) (Or.inl ⟨by rfl, ?_⟩) (by assumption) ?_
      rotate_left
      · intro wS hSw
        (try dsimp only at hSw)
        go_simp
        (try with_reducible rfl)
      (try simp only [Act.put, List.setIfInBounds_toArray, List.set_cons_zero, List.set_cons_succ])
      refine wpAnyH_take (i := 2) (oi := { dst := some 36, op := Go.Op.move (Go.Operand.tmp 8), type := 3, pos := "law.go:127", after := #[], guard := none }) (v := ?_) rfl (by kernel_rfl) (by kernel_rfl) (by kernel_rfl) (fun _ _ _ h => h) (Or.inl ⟨by rfl, ?_⟩) (by assumption) ?_
      rotate_left
      · intro wS hSw
        (try dsimp only at hSw)
        go_simp
        (try with_reducible rfl)
      (try simp only [Act.put, List.setIfInBounds_toArray, List.set_cons_zero, List.set_cons_succ])
      refine wpAnyH_take (i := 3) (oi := { dst := some 37, op := Go.Op.indexAddr 23 (Go.Operand.tmp 35) (Go.Operand.tmp 36), type := 0, pos := "law.go:127", after := #[{ on := 1, ground := Go.Ground.data }, { on := 2, ground := Go.Ground.data }], guard := none }) (v := ?_) rfl (by kernel_rfl) (by kernel_rfl) (by kernel_rfl) (fun _ _ _ h => h) (Or.inl ⟨by rfl, ?_⟩) (by assumption) ?_
      rotate_left
      · intro wS hSw
        (try dsimp only at hSw)
        go_simp
        (try with_reducible rfl)
      (try simp only [Act.put, List.setIfInBounds_toArray, List.set_cons_zero, List.set_cons_succ])
      refine wpAnyH_take (i := 4) (oi := { dst := some 38, op := Go.Op.load 22 (Go.Operand.tmp 37), type := 22, pos := "law.go:127", after := #[{ on := 3, ground := Go.Ground.data }], guard := none }) (v := ?_) rfl (by kernel_rfl) (by kernel_rfl) (by kernel_rfl) (fun _ _ _ h => h) (Or.inl ⟨by rfl, ?_⟩) (by assumption) ?_
      rotate_left
      · intro wS hSw
        (refine exec_loadA (x := .tmp 37) (C := F) ?_ ?_ hSw.2 Tryd.underlying22 rfl HIF.out <;> rfl)
      (try simp only [Act.put, List.setIfInBounds_toArray, List.set_cons_zero, List.set_cons_succ])
      refine wpAnyH_ready (rs := [5, 9]) (by kernel_rfl) (by simp) ?_
      refine AllReadyH.cons (o := { dst := some 39, op := Go.Op.call { callee := Go.Callee.value (Go.Operand.func 7), args := #[Go.Operand.tmp 34, Go.Operand.tmp 38], argTypes := #[26, 22] }, type := 30, pos := "law.go:127", after := #[{ on := 0, ground := Go.Ground.data }, { on := 4, ground := Go.Ground.data }], guard := none }) rfl (fun K hK => ?_) ?_
      · skip
        go_simp
        (refine (HRO.out W0 hvW0).mono ?_; rintro e WRx5 ⟨o2, c2, rfl, hT2, hb2⟩; have hvWRx5 := Below.trans hvW0 (hb2.mono (Below.size hvW0)); have hSWRx5 := HSS.out _ hvWRx5; clear hb2; skip)
        (try go_wp2_with fail)
        refine hK.out _ _ ?_ (fun hHeld => ?_)
        · (try dsimp only)
          (first | assumption | (dsimp only; assumption))
        clear hK K
        (try simp only [Act.put, List.setIfInBounds_toArray, List.set_cons_zero, List.set_cons_succ])
        refine wpAnyH_take (i := 6) (oi := { dst := some 33, op := Go.Op.move (Go.Operand.tmp 39), type := 30, pos := "law.go:127", after := #[{ on := 5, ground := Go.Ground.data }], guard := none }) (v := ?_) rfl (by kernel_rfl) (by kernel_rfl) (by kernel_rfl) (fun _ _ _ h => h) (Or.inl ⟨by rfl, ?_⟩) (by assumption) ?_
        rotate_left
        · intro wS hSw
          (try dsimp only at hSw)
          go_simp
          (try with_reducible rfl)
        (try simp only [Act.put, List.setIfInBounds_toArray, List.set_cons_zero, List.set_cons_succ])
        refine wpAnyH_take (i := 7) (oi := { dst := some 40, op := Go.Op.extract (Go.Operand.tmp 33) 0, type := 26, pos := "law.go:127", after := #[{ on := 6, ground := Go.Ground.data }], guard := none }) (v := ?_) rfl (by kernel_rfl) (by kernel_rfl) (by kernel_rfl) (fun _ _ _ h => h) (Or.inl ⟨by rfl, ?_⟩) (by assumption) ?_
        rotate_left
        · intro wS hSw
          (try dsimp only at hSw)
          go_simp
          (try with_reducible rfl)
        (try simp only [Act.put, List.setIfInBounds_toArray, List.set_cons_zero, List.set_cons_succ])
        refine wpAnyH_take (i := 8) (oi := { dst := some 41, op := Go.Op.extract (Go.Operand.tmp 33) 1, type := 29, pos := "law.go:127", after := #[{ on := 6, ground := Go.Ground.data }, { on := 10, ground := Go.Ground.gcOnly Go.Departure.lateStores }], guard := none }) (v := ?_) rfl (by kernel_rfl) (by kernel_rfl) (by kernel_rfl) (fun _ _ _ h => h) (Or.inl ⟨by rfl, ?_⟩) (by assumption) ?_
        rotate_left
        · intro wS hSw
          (try dsimp only at hSw)
          go_simp
          (try with_reducible rfl)
        (try simp only [Act.put, List.setIfInBounds_toArray, List.set_cons_zero, List.set_cons_succ])
        refine wpAnyH_ready (rs := [9]) (by kernel_rfl) (by simp) ?_
        refine AllReadyH.cons (o := { dst := some 9, op := Go.Op.alloc 26, type := 0, pos := "law.go:127", after := #[], guard := none }) rfl (fun K hK => ?_) AllReadyH.nil
        go_simp
        (obtain ⟨b9, hq9⟩ : ∃ q, WRx5.heap.size = q := ⟨_, rfl⟩; obtain ⟨WAx5, hw⟩ : ∃ q, WRx5.alloc (.cells #[.slice none 0 0] 26) = q := ⟨_, rfl⟩; rw [hw, hq9]; have hv : Below WRx5.heap.size WRx5 WAx5 := (by rw [← hw]; exact (Below.refl _ _).alloc (Nat.le_refl _) _); have h9b : Blk WAx5 b9 #[.slice none 0 0] 26 := (by rw [← hw, ← hq9]; exact Blk.new _ _ _); have hge : wr.heap.size ≤ b9 := (by rw [← hq9]; exact Below.size hvWRx5); have hT2 := hT2.later hv; have hvWAx5 := Below.trans hvWRx5 (hv.mono (Below.size hvWRx5)); have hSWAx5 := HSS.out _ hvWAx5; clear hv hw hq9; skip)
        (try go_wp2_with fail)
        refine hK.out _ _ ?_ (fun hHeld => ?_)
        · (try dsimp only)
          (first | assumption | (dsimp only; assumption))
        clear hK K
        (try simp only [Act.put, List.setIfInBounds_toArray, List.set_cons_zero, List.set_cons_succ])
        refine wpAnyH_ready (rs := [10]) (by kernel_rfl) (by simp) ?_
        refine AllReadyH.cons (o := { dst := none, op := Go.Op.store 26 (Go.Operand.tmp 9) (Go.Operand.tmp 40), type := 0, pos := "law.go:127", after := #[{ on := 9, ground := Go.Ground.data }, { on := 7, ground := Go.Ground.data }, { on := 5, ground := Go.Ground.chain }, { on := 0, ground := Go.Ground.phase }, { on := 1, ground := Go.Ground.phase }, { on := 2, ground := Go.Ground.phase }, { on := 3, ground := Go.Ground.phase }, { on := 4, ground := Go.Ground.phase }, { on := 5, ground := Go.Ground.phase }, { on := 6, ground := Go.Ground.phase }, { on := 7, ground := Go.Ground.phase }, { on := 8, ground := Go.Ground.textOnly Go.Departure.lateStores }, { on := 9, ground := Go.Ground.phase }], guard := none }) rfl (fun K hK => ?_) AllReadyH.nil
        (have c9 : WAx5.cell? ⟨b9, 0, none⟩ = some (.slice none 0 0) := (by rw [Blk.cell h9b]; rfl); have f9 : WAx5.frozen? ⟨b9, 0, none⟩ = false := Blk.free h9b 0; go_simp; have hO9 := (Own.refl b9 WAx5).set 0 (.slice o2 i2 c2); have h9c := h9b.set 0 (.slice o2 i2 c2); have hT3 := hT2.away hO9 (hT2.not (by have := HI2.out; omega) h9b (fun _ _ e => by cases e)); have hvX9 := Below.trans hvWAx5 (hO9.below hge (Below.size hvWAx5)); have hSX9 := HSS.out _ hvX9; clear c9 f9; generalize WAx5.setCell ⟨b9, 0, none⟩ (.slice o2 i2 c2) = X9 at *; skip)
        refine hK.out _ _ ?_ (fun hHeld => ?_)
        · (try dsimp only)
          (first | assumption | (dsimp only; assumption))
        clear hK K
        (try simp only [Act.put, List.setIfInBounds_toArray, List.set_cons_zero, List.set_cons_succ])
        refine wpAnyH_take (i := 11) (oi := { dst := some 10, op := Go.Op.assign (Go.Operand.tmp 41), type := 29, pos := "law.go:127", after := #[{ on := 8, ground := Go.Ground.data }, { on := 10, ground := Go.Ground.chain }, { on := 0, ground := Go.Ground.phase }, { on := 1, ground := Go.Ground.phase }, { on := 2, ground := Go.Ground.phase }, { on := 3, ground := Go.Ground.phase }, { on := 4, ground := Go.Ground.phase }, { on := 5, ground := Go.Ground.phase }, { on := 6, ground := Go.Ground.phase }, { on := 7, ground := Go.Ground.phase }, { on := 8, ground := Go.Ground.phase }, { on := 9, ground := Go.Ground.phase }, { on := 10, ground := Go.Ground.phase }], guard := none }) (v := ?_) rfl (by kernel_rfl) (by kernel_rfl) (by kernel_rfl) (fun _ _ _ h => h) (Or.inl ⟨by rfl, ?_⟩) (by assumption) ?_
        rotate_left
        · intro wS hSw
          (try dsimp only at hSw)
          go_simp
          (try with_reducible rfl)
        (try simp only [Act.put, List.setIfInBounds_toArray, List.set_cons_zero, List.set_cons_succ])
        refine wpAnyH_done (by kernel_rfl) ?_ _
        have H7 := Lib.hid (Blk.below HB7.out hvX9 (Blk.lt HB7.out))
        have c9 : X9.cell? ⟨b9, 0, none⟩ = some (.slice o2 i2 c2) := by rw [Blk.cell h9c]; rfl
        have c7 : X9.cell? ⟨b7, 0, none⟩ = some (.slice o i1 c) := hSX9.1
        have f7 : X9.frozen? ⟨b7, 0, none⟩ = false := Blk.free H7.out 0
        have HT3 := Lib.hid hT3
        have HV9 := Lib.hid hvX9
        clear h9b h9c hT2 hT3 hvX9 hSX9 hO9
        go_wp2_with fail
        have hO7 := (Own.refl b7 X9).set 0 (.slice o2 i2 c2)
        go_roundw
        case rel => exact ⟨i + 1, HI.out, by first | rfl | go_num, o2, c2, S2, by rw [← HI2.out]; exact H7.out.set 0 _, by rw [← HI2.out]; exact HT3.out.away hO7 (HT3.out.not (by have := HI2.out; omega) H7.out (fun _ _ e => by cases e)), HS2.out, (HW.out.trans (HV9.out.mono HW.out.size)).trans (hO7.below HGE.out (Nat.le_trans HW.out.size HV9.out.size))⟩
        case measure => have := HI.out; simp [intOf]; omega
      refine AllReadyH.cons (o := { dst := some 9, op := Go.Op.alloc 26, type := 0, pos := "law.go:127", after := #[], guard := none }) rfl (fun K hK => ?_) AllReadyH.nil
      go_simp
      (obtain ⟨b9, hq9⟩ : ∃ q, W0.heap.size = q := ⟨_, rfl⟩; obtain ⟨WAx9, hw⟩ : ∃ q, W0.alloc (.cells #[.slice none 0 0] 26) = q := ⟨_, rfl⟩; rw [hw, hq9]; have hv : Below W0.heap.size W0 WAx9 := (by rw [← hw]; exact (Below.refl _ _).alloc (Nat.le_refl _) _); have h9b : Blk WAx9 b9 #[.slice none 0 0] 26 := (by rw [← hw, ← hq9]; exact Blk.new _ _ _); have hge : wr.heap.size ≤ b9 := (by rw [← hq9]; exact Below.size hvW0); have hvWAx9 := Below.trans hvW0 (hv.mono (Below.size hvW0)); have hSWAx9 := HSS.out _ hvWAx9; clear hv hw hq9; skip)
      (try go_wp2_with fail)
      refine hK.out _ _ ?_ (fun hHeld => ?_)
      · (try dsimp only)
        (first | assumption | (dsimp only; assumption))
      clear hK K
      (try simp only [Act.put, List.setIfInBounds_toArray, List.set_cons_zero, List.set_cons_succ])
      refine wpAnyH_ready (rs := [5]) (by kernel_rfl) (by simp) ?_
      refine AllReadyH.cons (o := { dst := some 39, op := Go.Op.call { callee := Go.Callee.value (Go.Operand.func 7), args := #[Go.Operand.tmp 34, Go.Operand.tmp 38], argTypes := #[26, 22] }, type := 30, pos := "law.go:127", after := #[{ on := 0, ground := Go.Ground.data }, { on := 4, ground := Go.Ground.data }], guard := none }) rfl (fun K hK => ?_) AllReadyH.nil
      go_simp
      (refine (HRO.out WAx9 hvWAx9).mono ?_; rintro e WRx9 ⟨o2, c2, rfl, hT2, hb2⟩; have h9b := Blk.below h9b hb2 (Blk.lt h9b); have hvWRx9 := Below.trans hvWAx9 (hb2.mono (Below.size hvWAx9)); have hSWRx9 := HSS.out _ hvWRx9; clear hb2; skip)
      (try go_wp2_with fail)
      refine hK.out _ _ ?_ (fun hHeld => ?_)
      · (try dsimp only)
        (first | assumption | (dsimp only; assumption))
      clear hK K
      (try simp only [Act.put, List.setIfInBounds_toArray, List.set_cons_zero, List.set_cons_succ])
      refine wpAnyH_take (i := 6) (oi := { dst := some 33, op := Go.Op.move (Go.Operand.tmp 39), type := 30, pos := "law.go:127", after := #[{ on := 5, ground := Go.Ground.data }], guard := none }) (v := ?_) rfl (by kernel_rfl) (by kernel_rfl) (by kernel_rfl) (fun _ _ _ h => h) (Or.inl ⟨by rfl, ?_⟩) (by assumption) ?_
      rotate_left
      · intro wS hSw
        (try dsimp only at hSw)
        go_simp
        (try with_reducible rfl)
      (try simp only [Act.put, List.setIfInBounds_toArray, List.set_cons_zero, List.set_cons_succ])
      refine wpAnyH_take (i := 7) (oi := { dst := some 40, op := Go.Op.extract (Go.Operand.tmp 33) 0, type := 26, pos := "law.go:127", after := #[{ on := 6, ground := Go.Ground.data }], guard := none }) (v := ?_) rfl (by kernel_rfl) (by kernel_rfl) (by kernel_rfl) (fun _ _ _ h => h) (Or.inl ⟨by rfl, ?_⟩) (by assumption) ?_
      rotate_left
      · intro wS hSw
        (try dsimp only at hSw)
        go_simp
        (try with_reducible rfl)
      (try simp only [Act.put, List.setIfInBounds_toArray, List.set_cons_zero, List.set_cons_succ])
      refine wpAnyH_take (i := 8) (oi := { dst := some 41, op := Go.Op.extract (Go.Operand.tmp 33) 1, type := 29, pos := "law.go:127", after := #[{ on := 6, ground := Go.Ground.data }, { on := 10, ground := Go.Ground.gcOnly Go.Departure.lateStores }], guard := none }) (v := ?_) rfl (by kernel_rfl) (by kernel_rfl) (by kernel_rfl) (fun _ _ _ h => h) (Or.inl ⟨by rfl, ?_⟩) (by assumption) ?_
      rotate_left
      · intro wS hSw
        (try dsimp only at hSw)
        go_simp
        (try with_reducible rfl)
      (try simp only [Act.put, List.setIfInBounds_toArray, List.set_cons_zero, List.set_cons_succ])
      refine wpAnyH_ready (rs := [10]) (by kernel_rfl) (by simp) ?_
      refine AllReadyH.cons (o := { dst := none, op := Go.Op.store 26 (Go.Operand.tmp 9) (Go.Operand.tmp 40), type := 0, pos := "law.go:127", after := #[{ on := 9, ground := Go.Ground.data }, { on := 7, ground := Go.Ground.data }, { on := 5, ground := Go.Ground.chain }, { on := 0, ground := Go.Ground.phase }, { on := 1, ground := Go.Ground.phase }, { on := 2, ground := Go.Ground.phase }, { on := 3, ground := Go.Ground.phase }, { on := 4, ground := Go.Ground.phase }, { on := 5, ground := Go.Ground.phase }, { on := 6, ground := Go.Ground.phase }, { on := 7, ground := Go.Ground.phase }, { on := 8, ground := Go.Ground.textOnly Go.Departure.lateStores }, { on := 9, ground := Go.Ground.phase }], guard := none }) rfl (fun K hK => ?_) AllReadyH.nil
      (have c9 : WRx9.cell? ⟨b9, 0, none⟩ = some (.slice none 0 0) := (by rw [Blk.cell h9b]; rfl); have f9 : WRx9.frozen? ⟨b9, 0, none⟩ = false := Blk.free h9b 0; go_simp; have hO9 := (Own.refl b9 WRx9).set 0 (.slice o2 i2 c2); have h9c := h9b.set 0 (.slice o2 i2 c2); have hT3 := hT2.away hO9 (hT2.not (by have := HI2.out; omega) h9b (fun _ _ e => by cases e)); have hvX9 := Below.trans hvWRx9 (hO9.below hge (Below.size hvWRx9)); have hSX9 := HSS.out _ hvX9; clear c9 f9; generalize WRx9.setCell ⟨b9, 0, none⟩ (.slice o2 i2 c2) = X9 at *; skip)
      refine hK.out _ _ ?_ (fun hHeld => ?_)
      · (try dsimp only)
        (first | assumption | (dsimp only; assumption))
      clear hK K
      (try simp only [Act.put, List.setIfInBounds_toArray, List.set_cons_zero, List.set_cons_succ])
      refine wpAnyH_take (i := 11) (oi := { dst := some 10, op := Go.Op.assign (Go.Operand.tmp 41), type := 29, pos := "law.go:127", after := #[{ on := 8, ground := Go.Ground.data }, { on := 10, ground := Go.Ground.chain }, { on := 0, ground := Go.Ground.phase }, { on := 1, ground := Go.Ground.phase }, { on := 2, ground := Go.Ground.phase }, { on := 3, ground := Go.Ground.phase }, { on := 4, ground := Go.Ground.phase }, { on := 5, ground := Go.Ground.phase }, { on := 6, ground := Go.Ground.phase }, { on := 7, ground := Go.Ground.phase }, { on := 8, ground := Go.Ground.phase }, { on := 9, ground := Go.Ground.phase }, { on := 10, ground := Go.Ground.phase }], guard := none }) (v := ?_) rfl (by kernel_rfl) (by kernel_rfl) (by kernel_rfl) (fun _ _ _ h => h) (Or.inl ⟨by rfl, ?_⟩) (by assumption) ?_
      rotate_left
      · intro wS hSw
        (try dsimp only at hSw)
        go_simp
        (try with_reducible rfl)
      (try simp only [Act.put, List.setIfInBounds_toArray, List.set_cons_zero, List.set_cons_succ])
      refine wpAnyH_done (by kernel_rfl) ?_ _
      have H7 := Lib.hid (Blk.below HB7.out hvX9 (Blk.lt HB7.out))
      have c9 : X9.cell? ⟨b9, 0, none⟩ = some (.slice o2 i2 c2) := by rw [Blk.cell h9c]; rfl
      have c7 : X9.cell? ⟨b7, 0, none⟩ = some (.slice o i1 c) := hSX9.1
      have f7 : X9.frozen? ⟨b7, 0, none⟩ = false := Blk.free H7.out 0
      have HT3 := Lib.hid hT3
      have HV9 := Lib.hid hvX9
      clear h9b h9c hT2 hT3 hvX9 hSX9 hO9
      go_wp2_with fail
      have hO7 := (Own.refl b7 X9).set 0 (.slice o2 i2 c2)
      go_roundw
      case rel => exact ⟨i + 1, HI.out, by first | rfl | go_num, o2, c2, S2, by rw [← HI2.out]; exact H7.out.set 0 _, by rw [← HI2.out]; exact HT3.out.away hO7 (HT3.out.not (by have := HI2.out; omega) H7.out (fun _ _ e => by cases e)), HS2.out, (HW.out.trans (HV9.out.mono HW.out.size)).trans (hO7.below HGE.out (Nat.le_trans HW.out.size HV9.out.size))⟩
      case measure => have := HI.out; simp [intOf]; omega
    · obtain rfl : i = min n 15 := by omega
      have hk : ∃ k : Nat, k = min n 15 + 1 ∧ 1 ≤ k ∧ k ≤ 16 := ⟨_, rfl, by omega, by omega⟩
      obtain ⟨k, hkk, hk1, hk2⟩ := hk
      obtain ⟨o, c, S, h7, hT, hSl, hW⟩ := hRS
      obtain ⟨i, hii⟩ : ∃ q, min n 15 = q := ⟨_, rfl⟩
      rw [hii] at hkk h7 hT
      rw [hii]
      rw [← hkk] at h7 hT
      obtain ⟨L, hL⟩ : ∃ q, 3 + 32 * k = q := ⟨_, rfl⟩
      have HOK : Hid (OkT k (fun i => i + 1)) := Lib.hid ⟨hk1, hk2, fun _ _ => rfl⟩
      have HEN : Hid (∀ A, TL A o k (fun i => i + 1) S → Calls Tryd.prog 9 #[.agg #[.slice o k c]] A fun e w' => ∃ o c, e = .returned (.tuple #[.slice o L c, .nilIface]) ∧ Bytes w' o L (encF k S) ∧ L ≤ c ∧ (o = none → L = 0) ∧ Below A.heap.size A w') := Lib.hid fun A hA => by
        rw [← hL]; exact encode_ok k c o _ S A hA HOK.out (fun i j _ _ => hSl i j)
      have HSL := Lib.hid hSl
      have HL := Lib.hid (show L = 3 + 32 * k ∧ 1 ≤ k ∧ k ≤ 16 from ⟨hL.symm, hk1, hk2⟩)
      have hlt : (i : Int) < (n : Int) ∨ ¬ (i : Int) < (n : Int) := Decidable.em _
      have c7 : wr.cell? ⟨b7, 0, none⟩ = some (.slice o k c) := by rw [Blk.cell h7]; rfl
      have HT := Lib.hid hT
      have HW := Lib.hid hW
      have HIX := Lib.hid hii
      clear h7 hT hSl hW hL hk1 hk2 hkk hii hi
      have HNU : Hid (∀ A, Below w.heap.size w A → Calls Tryd.prog 8 #[.iface 64 (.int .i64 4)] A fun e w' => e = .returned (.int .i64 4) ∧ Below A.heap.size A w') := Lib.hid fun A hA => num_err 4 A (HG.out.later hA).2
      have HSU : Hid (∀ A, Below w.heap.size w A → Calls Tryd.prog 12 #[] A fun e w' => e = .returned (.bool true) ∧ Below A.heap.size A w') := Lib.hid fun A hA => sure_any A (HG.out.1.later hA)
      have l0 : ¬ (L : Int) = 0 := by have := HL.out; omega
      have l1 : ((L : Int) == 0) = false := by simp only [beq_eq_false_iff_ne]; exact l0
      have l2 : (0 : Int) < (L : Int) := by have := HL.out; omega
      have l3 : decide ((0 : Int) < (L : Int)) = true := decide_eq_true l2
      have kc : IntKind.i64.wrap (cut : Int) = (cut : Int) := IntWalk.i64_in _ (by have := HN.out.2.2.2.2; omega)
      by_cases hm : 2000 < m
      · skip
        have zm1 : (2000 : Int) < (m : Int) := by omega
        have zm2 : decide ((2000 : Int) < (m : Int)) = true := decide_eq_true zm1
        have zm7 : 2000 < m := by omega
        have zm8 : decide (2000 < m) = true := decide_eq_true zm7
        rcases hlt with h | h
        · have hi15 : i = 15 := by have := HIX.out; omega
          subst hi15
          have h2 : decide ((15 : Int) < (n : Int)) = true := decide_eq_true h
          go_wp2_with (first | (go_at_call 9; refine (HEN.out _ HT.out).mono ?_; rintro e w4 ⟨oc, cp, rfl, hB4, hcp, hno4, hb4⟩; have HB4 := Lib.hid (HW.out.trans (hb4.mono HW.out.size))) | (go_at_call 12; refine (HSU.out _ HB4.out).mono ?_; rintro e w5 ⟨rfl, hb5⟩; have HB5 := Lib.hid (HB4.out.trans (hb5.mono HB4.out.size))))
          go_ret
          exact ⟨rfl, HB5.out⟩
        · have h2 : decide ((i : Int) < (n : Int)) = false := decide_eq_false h
          go_wp2_with (first | (go_at_call 9; refine (HEN.out _ HT.out).mono ?_; rintro e w4 ⟨oc, cp, rfl, hB4, hcp, hno4, hb4⟩; have HB4 := Lib.hid (HW.out.trans (hb4.mono HW.out.size))) | (go_at_call 12; refine (HSU.out _ HB4.out).mono ?_; rintro e w5 ⟨rfl, hb5⟩; have HB5 := Lib.hid (HB4.out.trans (hb5.mono HB4.out.size))))
          go_ret
          exact ⟨rfl, HB5.out⟩
      · skip
        have zm1 : ¬ (2000 : Int) < (m : Int) := by omega
        have zm2 : decide ((2000 : Int) < (m : Int)) = false := decide_eq_false zm1
        have zm7 : ¬ 2000 < m := by omega
        have zm8 : decide (2000 < m) = false := decide_eq_false zm7
        rcases hlt with h | h
        · have hi15 : i = 15 := by have := HIX.out; omega
          subst hi15
          have h2 : decide ((15 : Int) < (n : Int)) = true := decide_eq_true h
          go_upto_region 12 with (first | (go_at_call 9; refine (HEN.out _ HT.out).mono ?_; rintro e w4 ⟨oc, cp, rfl, hB4, hcp, hno4, hb4⟩; have HB4 := Lib.hid (HW.out.trans (hb4.mono HW.out.size))))
          obtain ⟨_, bo, oo, e9, _⟩ := hB4 0 (by have := HL.out; omega)
          subst e9
          obtain ⟨r, hr⟩ : ∃ q, cut % L = q := ⟨_, rfl⟩
          have hrL : r < L := by rw [← hr]; exact Nat.mod_lt _ (by have := HL.out; omega)
          have r0 : (cut : Int) % (L : Int) = (r : Int) := by rw [← hr]; rfl
          have r1 : (0 : Int) ≤ (r : Int) := by omega
          have r2 : (r : Int) ≤ (cp : Int) := by omega
          have r3 : r ≤ cp := by omega
          have r4 : ¬ cp = 0 := by have := HL.out; omega
          have hS9 : ∀ j, encF k S j < 256 := fun j => encF_lt (by have := HL.out; omega) HSL.out j
          have HD1 : Hid (∀ A, Below w4.heap.size w4 A → Calls Tryd.prog 10 #[.slice (some ⟨bo, oo, none⟩) r cp] A fun e w' => e = .returned (.tuple #[.agg #[.slice none 0 0], .iface 64 (.int .i64 4)]) ∧ Below A.heap.size A w') := Lib.hid fun A hA =>
            dec_no r cp _ (encF k S) A ((hB4.later hA).mono (by omega)) r3 (by have := HL.out; omega) (fun h => by have h1 := h.2.2.2.2.2; rw [encF_two] at h1; have := HL.out; omega)
          obtain ⟨E, hE⟩ : ∃ q, encF k S = q := ⟨_, rfl⟩
          have HE2 : Hid (E 2 = k ∧ ∀ j, E j < 256) := Lib.hid ⟨by rw [← hE]; exact encF_two _ _, by rw [← hE]; exact hS9⟩
          rw [hE] at hB4
          have HB4L := Lib.hid hB4
          have HCP := Lib.hid (And.intro hcp r3)
          clear hB4 hcp hno4 hrL hr hS9 hE r3
          go_upto_region 13 with (first | (go_at_call 10; refine (HD1.out _ (Below.refl _ _)).mono ?_; rintro e w5 ⟨rfl, hb5⟩))
          obtain ⟨w6, hw6⟩ : ∃ q, w5.alloc (.cells #[.slice none 0 0] 26) = q := ⟨_, rfl⟩
          have hb56 : Below w5.heap.size w5 w6 := by rw [← hw6]; exact (Below.refl _ _).alloc (Nat.le_refl _) _
          have hb46 : Below w4.heap.size w4 w6 := hb5.trans (hb56.mono hb5.size)
          have HB6 := Lib.hid (HB4.out.trans (hb46.mono HB4.out.size))
          have HB6L := Lib.hid (HB4L.out.later hb46)
          rw [hw6]
          clear hb5 hw6 hb56 hb46 r0 r1 r2 r4
          have HCF : Hid (∀ i, i < L + 1 → catF L E (fun _ => 0) i < 256) := Lib.hid fun q hq => by unfold catF; split <;> first | exact HE2.out.2 _ | (show (0:Nat) < 256; omega)
          have HD2 : Hid (∀ A o c, Bytes A o (L + 1) (catF L E (fun _ => 0)) → L + 1 ≤ c → Calls Tryd.prog 10 #[.slice o (L + 1) c] A fun e w' => e = .returned (.tuple #[.agg #[.slice none 0 0], .iface 64 (.int .i64 4)]) ∧ Below A.heap.size A w') := Lib.hid fun A o c hA hc =>
            dec_no (L + 1) c o _ A hA hc (by have := HL.out; omega) (fun h => by have h1 := h.2.2.2.2.2; unfold catF at h1; rw [if_pos (by have := HL.out; omega), HE2.out.1] at h1; have := HL.out; omega)
          have HGE6 : Hid (Grow (w6.alloc (.cells #[] 5)) w6.heap.size (.slice (some ⟨w6.heap.size, 0, none⟩) 0 0) 0 (fun _ => 0)) := Lib.hid (Grow.empty (Blk.new _ _ _) (Nat.le_refl _) _)
          have HB6A : Hid (Bytes (w6.alloc (.cells #[] 5)) (some ⟨bo, oo, none⟩) L E) := Lib.hid (HB6L.out.alloc _)
          go_upto_region 14 with (first
            | (refine wpList_appO rfl (.tmp 84) (.tmp 85) rfl w6.heap.size (.slice (some ⟨w6.heap.size, 0, none⟩) 0 0) 0 L cp (some ⟨bo, oo, none⟩) (fun _ => 0) E (w6.alloc (.cells #[] 5)) rfl HGE6.out rfl (fun e => by cases e) HB6A.out (by have := HL.out; omega) (by simp) ?_; intro v1 w7 hG1 hg1 hob1; rw [Nat.zero_add] at hG1; have hG1e := hG1.congr (g := E) (fun q hq => by unfold catF; rw [if_neg (Nat.not_lt_zero _), Nat.sub_zero]); have HG1 := Lib.hid (hG1e.later ((Below.refl _ _).alloc (Nat.le_refl _) (.cells #[.int .u8 0] 5))); have HB7 : Hid (Below w6.heap.size w6 w7) := Lib.hid (((Below.refl _ w6).alloc (Nat.le_refl _) (.cells #[] 5)).trans (grow_bel HGE6.out (by simp) hg1)); clear hG1 hG1e hg1 hob1; skip)
            | (refine wpList_appO rfl (.tmp 86) (.tmp 87) rfl w6.heap.size v1 L 1 1 (some ⟨w7.heap.size, 0, none⟩) E (fun _ => 0) (w7.alloc (.cells #[.int .u8 0] 5)) rfl HG1.out rfl (fun e => by cases e) (one_byte (by decide)) (by have := HL.out; omega) (Nat.le_trans HB7.out.size (by simp)) ?_; intro v2 w8 hG2 hg2 hob2; obtain ⟨o2, c2, hv2, hBy2, hc2, _⟩ := hG2.bytesC (HCF.out); subst hv2; have HB8 : Hid (Below w6.heap.size w6 w8) := Lib.hid (HB7.out.trans (((Below.refl _ w7).alloc HB7.out.size (.cells #[.int .u8 0] 5)).trans (grow_bel HG1.out (Nat.le_trans HB7.out.size (by simp)) hg2))); have HBY2 := Lib.hid (And.intro hBy2 hc2); clear hG2 hg2 hob2 hBy2 hc2; skip)
            | (go_at_call 10; refine (HD2.out _ _ _ HBY2.out.1 HBY2.out.2).mono ?_; rintro e w9 ⟨rfl, hb9⟩))
          have hbA : Below w.heap.size w (w9.alloc (.cells #[.slice none 0 0] 26)) := ((HB6.out.trans (HB8.out.mono HB6.out.size)).trans (hb9.mono (Nat.le_trans HB6.out.size HB8.out.size))).trans ((Below.refl _ _).alloc (Nat.le_trans HB6.out.size (Nat.le_trans HB8.out.size hb9.size)) _)
          obtain ⟨wA, hwA⟩ : ∃ q, w9.alloc (.cells #[.slice none 0 0] 26) = q := ⟨_, rfl⟩
          rw [hwA] at hbA
          rw [hwA]
          have HBA := Lib.hid hbA
          clear hb9 hwA hbA
          by_cases hR : IsRing m B
          · obtain ⟨n2, hn2⟩ : ∃ q, B 2 = q := ⟨_, rfl⟩
            obtain ⟨S3, hS3⟩ : ∃ q, (fun i j => B (3 + 32 * i + j)) = q := ⟨_, rfl⟩
            have hn216 : 1 ≤ n2 ∧ n2 ≤ 16 ∧ m = 3 + 32 * n2 := by rw [← hn2]; exact ⟨hR.2.2.2.1, hR.2.2.2.2.1, hR.2.2.2.2.2⟩
            have hS3l : ∀ i j, i < n2 → j < 32 → S3 i j < 256 := fun i j hi hj => by rw [← hS3]; exact (HBY.out _ (by omega)).1
            have HD3 : Hid (∀ A, Below w.heap.size w A → Calls Tryd.prog 10 #[.slice ob m cb] A fun e w' => ∃ o c, e = .returned (.tuple #[.agg #[.slice o n2 c], .nilIface]) ∧ TL w' o n2 (fun i => i + 1) S3 ∧ Below A.heap.size A w') := Lib.hid fun A hA => by
              rw [← hn2, ← hS3]; exact dec_ok m cb ob B A (HBY.out.later hA) HN.out.1 (by omega) hR
            have HEN3 : Hid (∀ A o c, TL A o n2 (fun i => i + 1) S3 → Calls Tryd.prog 9 #[.agg #[.slice o n2 c]] A fun e w' => ∃ o c, e = .returned (.tuple #[.slice o m c, .nilIface]) ∧ Bytes w' o m (encF n2 S3) ∧ Below A.heap.size A w') := Lib.hid fun A o c hA =>
              (encode_ok n2 c o _ S3 A hA ⟨hn216.1, hn216.2.1, fun _ _ => rfl⟩ hS3l).mono fun e w' ⟨o, c, h1, h2, _, _, h5⟩ => by rw [← hn216.2.2] at h1 h2; exact ⟨o, c, h1, h2, h5⟩
            obtain ⟨ST, hST⟩ : ∃ q, strF m B = q := ⟨_, rfl⟩
            have HST : Hid (strF m (encF n2 S3) = ST ∧ strF m B = ST) := Lib.hid ⟨by
              rw [← hST]
              refine strF_congr fun q hq => ?_
              unfold encF
              by_cases e0 : q = 0
              · rw [if_pos e0, e0, hR.2.1]
              · rw [if_neg e0]
                by_cases e1 : q = 1
                · rw [if_pos e1, e1, hR.2.2.1]
                · rw [if_neg e1]
                  by_cases e2 : q = 2
                  · rw [if_pos e2, e2, hn2]
                  · rw [if_neg e2, ← hS3]; show B (3 + 32 * ((q - 3) / 32) + (q - 3) % 32) = B q; congr 1; omega, hST⟩
            have HM0 : Hid (m ≠ 0) := Lib.hid (by omega)
            clear hS3 hn2 hn216 hS3l hST hR
            go_upto_region 15 with (go_at_call 10; refine (HD3.out _ HBA.out).mono ?_; rintro e w10 ⟨o3, c3, rfl, hT3, hb10⟩)
            have hbB : Below w.heap.size w (w10.alloc (.cells #[.slice o3 n2 c3] 26)) := (HBA.out.trans (hb10.mono HBA.out.size)).trans ((Below.refl _ _).alloc (Nat.le_trans HBA.out.size hb10.size) _)
            have hT3' := hT3.later ((Below.refl w10.heap.size w10).alloc (Nat.le_refl _) (.cells #[.slice o3 n2 c3] 26))
            have hC : Blk (w10.alloc (.cells #[.slice o3 n2 c3] 26)) w10.heap.size #[.slice o3 n2 c3] 26 := Blk.new _ _ _
            obtain ⟨wB, hwB⟩ : ∃ q, w10.alloc (.cells #[.slice o3 n2 c3] 26) = q := ⟨_, rfl⟩
            obtain ⟨b17, hb17⟩ : ∃ q, w10.heap.size = q := ⟨_, rfl⟩
            rw [hwB] at hbB hT3' hC
            rw [hb17] at hC
            rw [hwB, hb17]
            have c17 : wB.cell? ⟨b17, 0, none⟩ = some (.slice o3 n2 c3) := by rw [Blk.cell hC]; rfl
            have HBB := Lib.hid hbB
            clear hT3 hb10 hbB hwB hb17 hC
            go_upto_region 16 with (go_at_call 9; refine (HEN3.out _ _ _ hT3').mono ?_; rintro e w11 ⟨o4, c4, rfl, hBy4, hb11⟩)
            have HWW : Hid (∀ A, Below w11.heap.size w11 A → Below w.heap.size w A) := Lib.hid fun A hA => (HBB.out.trans (hb11.mono HBB.out.size)).trans (hA.mono (Nat.le_trans HBB.out.size hb11.size))
            have HCV : Hid (∀ A, Below w11.heap.size w11 A → (convert 33 9 (.slice o4 m c4)).run Tryd.prog A = .ok (.string ST) A ∧ (convert 33 9 (.slice ob m cb)).run Tryd.prog A = .ok (.string ST) A) := Lib.hid fun A hA => by
              have hw := (HBB.out.trans (hb11.mono HBB.out.size)).trans (hA.mono (Nat.le_trans HBB.out.size hb11.size))
              refine ⟨?_, ?_⟩
              · have h9 := conv_any (cap := c4) (hBy4.later hA) (fun e => by obtain ⟨_, _, _, e2, _⟩ := hBy4 0 (by have := HM0.out; omega); rw [e] at e2; cases e2)
                rw [HST.out.1] at h9; exact h9
              · have h9 := conv_any (cap := cb) (HBY.out.later hw) HN.out.2.2.2.1
                rw [HST.out.2] at h9; exact h9
            clear hBy4 hb11 c17 hT3'
            have hvW0 : Below w11.heap.size w11 w11.drew := (Below.refl _ _).drew
            refine wp_region_held_drew (S := (Below w11.heap.size w11)) (by kernel_rfl) ?_ (fun hHeld => ?_)
            · (try dsimp only)
              (first | assumption | (dsimp only; assumption))
            generalize w11.drew = W0 at *
            refine wpAnyH_take (i := 0) (oi := { dst := some 102, op := Go.Op.move (Go.Operand.tmp 14), type := 29, pos := "law.go:141", after := #[], guard := none }) (v := ?_) rfl (by kernel_rfl) (by kernel_rfl) (by kernel_rfl) (fun _ _ _ h => h) (Or.inl ⟨by rfl, ?_⟩) (by assumption) ?_
            rotate_left
            · intro wS hSw
              (try dsimp only at hSw)
              go_simp
              (try with_reducible rfl)
            (try simp only [Act.put, List.setIfInBounds_toArray, List.set_cons_zero, List.set_cons_succ])
            refine wpAnyH_ready (rs := [1]) (by kernel_rfl) (by simp) ?_
            refine AllReadyH.cons (o := { dst := some 103, op := Go.Op.call { callee := Go.Callee.value (Go.Operand.func 8), args := #[Go.Operand.tmp 102], argTypes := #[29] }, type := 3, pos := "law.go:141", after := #[{ on := 0, ground := Go.Ground.data }], guard := none }) rfl (fun K hK => ?_) AllReadyH.nil
            go_simp
            (refine (HNU.out W0 (HWW.out _ hvW0)).mono ?_; rintro e V1 ⟨rfl, hbz⟩; have hvV1 := Below.trans hvW0 (hbz.mono (Below.size hvW0)); clear hbz; skip)
            (try go_wp2_with fail)
            refine hK.out _ _ ?_ (fun hHeld => ?_)
            · (try dsimp only)
              (first | assumption | (dsimp only; assumption))
            clear hK K
            (try simp only [Act.put, List.setIfInBounds_toArray, List.set_cons_zero, List.set_cons_succ])
            refine wpAnyH_take (i := 2) (oi := { dst := some 104, op := Go.Op.binOp Go.BinOp.eql 3 (Go.Operand.tmp 103) (Go.Operand.const (Go.Value.int Go.IntKind.i64 4)) 3, type := 4, pos := "law.go:141", after := #[{ on := 1, ground := Go.Ground.data }], guard := none }) (v := ?_) rfl (by kernel_rfl) (by kernel_rfl) (by kernel_rfl) (fun _ _ _ h => h) (Or.inl ⟨by rfl, ?_⟩) (by assumption) ?_
            rotate_left
            · intro wS hSw
              (try dsimp only at hSw)
              go_simp
              (try with_reducible rfl)
            (try simp only [Act.put, List.setIfInBounds_toArray, List.set_cons_zero, List.set_cons_succ])
            refine wpAnyH_take (i := 3) (oi := { dst := some 105, op := Go.Op.move (Go.Operand.tmp 104), type := 4, pos := "law.go:141", after := #[{ on := 2, ground := Go.Ground.data }, { on := 1, ground := Go.Ground.chain }], guard := none }) (v := ?_) rfl (by kernel_rfl) (by kernel_rfl) (by kernel_rfl) (fun _ _ _ h => h) (Or.inl ⟨by rfl, ?_⟩) (by assumption) ?_
            rotate_left
            · intro wS hSw
              (try dsimp only at hSw)
              go_simp
              (try with_reducible rfl)
            (try simp only [Act.put, List.setIfInBounds_toArray, List.set_cons_zero, List.set_cons_succ])
            refine wpAnyH_take (i := 4) (oi := { dst := some 106, op := Go.Op.move (Go.Operand.tmp 16), type := 29, pos := "law.go:141", after := #[{ on := 3, ground := Go.Ground.guard }], guard := some (3, true) }) (v := ?_) rfl (by kernel_rfl) (by kernel_rfl) (by kernel_rfl) (fun _ _ _ h => h) (Or.inl ⟨by rfl, ?_⟩) (by assumption) ?_
            rotate_left
            · intro wS hSw
              (try dsimp only at hSw)
              go_simp
              (try with_reducible rfl)
            (try simp only [Act.put, List.setIfInBounds_toArray, List.set_cons_zero, List.set_cons_succ])
            refine wpAnyH_ready (rs := [5]) (by kernel_rfl) (by simp) ?_
            refine AllReadyH.cons (o := { dst := some 107, op := Go.Op.call { callee := Go.Callee.value (Go.Operand.func 8), args := #[Go.Operand.tmp 106], argTypes := #[29] }, type := 3, pos := "law.go:141", after := #[{ on := 4, ground := Go.Ground.data }, { on := 3, ground := Go.Ground.chain }, { on := 3, ground := Go.Ground.guard }], guard := some (3, true) }) rfl (fun K hK => ?_) AllReadyH.nil
            go_simp
            (refine (HNU.out V1 (HWW.out _ hvV1)).mono ?_; rintro e V5 ⟨rfl, hbz⟩; have hvV5 := Below.trans hvV1 (hbz.mono (Below.size hvV1)); clear hbz; skip)
            (try go_wp2_with fail)
            refine hK.out _ _ ?_ (fun hHeld => ?_)
            · (try dsimp only)
              (first | assumption | (dsimp only; assumption))
            clear hK K
            (try simp only [Act.put, List.setIfInBounds_toArray, List.set_cons_zero, List.set_cons_succ])
            refine wpAnyH_take (i := 6) (oi := { dst := some 108, op := Go.Op.binOp Go.BinOp.eql 3 (Go.Operand.tmp 107) (Go.Operand.const (Go.Value.int Go.IntKind.i64 4)) 3, type := 4, pos := "law.go:141", after := #[{ on := 5, ground := Go.Ground.data }, { on := 3, ground := Go.Ground.guard }], guard := some (3, true) }) (v := ?_) rfl (by kernel_rfl) (by kernel_rfl) (by kernel_rfl) (fun _ _ _ h => h) (Or.inl ⟨by rfl, ?_⟩) (by assumption) ?_
            rotate_left
            · intro wS hSw
              (try dsimp only at hSw)
              go_simp
              (try with_reducible rfl)
            (try simp only [Act.put, List.setIfInBounds_toArray, List.set_cons_zero, List.set_cons_succ])
            refine wpAnyH_take (i := 7) (oi := { dst := some 109, op := Go.Op.pick (Go.Operand.tmp 105) (Go.Operand.tmp 108) (Go.Operand.const (Go.Value.bool false)), type := 4, pos := "law.go:141", after := #[{ on := 3, ground := Go.Ground.data }, { on := 6, ground := Go.Ground.data }], guard := none }) (v := ?_) rfl (by kernel_rfl) (by kernel_rfl) (by kernel_rfl) (fun _ _ _ h => h) (Or.inl ⟨by rfl, ?_⟩) (by assumption) ?_
            rotate_left
            · intro wS hSw
              (try dsimp only at hSw)
              go_simp
              (try with_reducible rfl)
            (try simp only [Act.put, List.setIfInBounds_toArray, List.set_cons_zero, List.set_cons_succ])
            refine wpAnyH_take (i := 8) (oi := { dst := some 110, op := Go.Op.move (Go.Operand.tmp 109), type := 4, pos := "law.go:141", after := #[{ on := 7, ground := Go.Ground.data }, { on := 5, ground := Go.Ground.chain }], guard := none }) (v := ?_) rfl (by kernel_rfl) (by kernel_rfl) (by kernel_rfl) (fun _ _ _ h => h) (Or.inl ⟨by rfl, ?_⟩) (by assumption) ?_
            rotate_left
            · intro wS hSw
              (try dsimp only at hSw)
              go_simp
              (try with_reducible rfl)
            (try simp only [Act.put, List.setIfInBounds_toArray, List.set_cons_zero, List.set_cons_succ])
            refine wpAnyH_take (i := 9) (oi := { dst := some 111, op := Go.Op.move (Go.Operand.tmp 18), type := 29, pos := "law.go:141", after := #[{ on := 8, ground := Go.Ground.guard }], guard := some (8, true) }) (v := ?_) rfl (by kernel_rfl) (by kernel_rfl) (by kernel_rfl) (fun _ _ _ h => h) (Or.inl ⟨by rfl, ?_⟩) (by assumption) ?_
            rotate_left
            · intro wS hSw
              (try dsimp only at hSw)
              go_simp
              (try with_reducible rfl)
            (try simp only [Act.put, List.setIfInBounds_toArray, List.set_cons_zero, List.set_cons_succ])
            refine wpAnyH_take (i := 10) (oi := { dst := some 112, op := Go.Op.binOp Go.BinOp.eql 29 (Go.Operand.tmp 111) (Go.Operand.const Go.Value.nilIface) 29, type := 4, pos := "law.go:141", after := #[{ on := 9, ground := Go.Ground.data }, { on := 8, ground := Go.Ground.guard }], guard := some (8, true) }) (v := ?_) rfl (by kernel_rfl) (by kernel_rfl) (by kernel_rfl) (fun _ _ _ h => h) (Or.inl ⟨by rfl, ?_⟩) (by assumption) ?_
            rotate_left
            · intro wS hSw
              (try dsimp only at hSw)
              go_simp
              (try with_reducible rfl)
            (try simp only [Act.put, List.setIfInBounds_toArray, List.set_cons_zero, List.set_cons_succ])
            refine wpAnyH_take (i := 11) (oi := { dst := some 113, op := Go.Op.move (Go.Operand.tmp 20), type := 29, pos := "law.go:141", after := #[{ on := 8, ground := Go.Ground.guard }], guard := some (8, true) }) (v := ?_) rfl (by kernel_rfl) (by kernel_rfl) (by kernel_rfl) (fun _ _ _ h => h) (Or.inl ⟨by rfl, ?_⟩) (by assumption) ?_
            rotate_left
            · intro wS hSw
              (try dsimp only at hSw)
              go_simp
              (try with_reducible rfl)
            (try simp only [Act.put, List.setIfInBounds_toArray, List.set_cons_zero, List.set_cons_succ])
            refine wpAnyH_take (i := 12) (oi := { dst := some 114, op := Go.Op.binOp Go.BinOp.eql 29 (Go.Operand.tmp 113) (Go.Operand.const Go.Value.nilIface) 29, type := 4, pos := "law.go:141", after := #[{ on := 11, ground := Go.Ground.data }, { on := 8, ground := Go.Ground.guard }], guard := some (8, true) }) (v := ?_) rfl (by kernel_rfl) (by kernel_rfl) (by kernel_rfl) (fun _ _ _ h => h) (Or.inl ⟨by rfl, ?_⟩) (by assumption) ?_
            rotate_left
            · intro wS hSw
              (try dsimp only at hSw)
              go_simp
              (try with_reducible rfl)
            (try simp only [Act.put, List.setIfInBounds_toArray, List.set_cons_zero, List.set_cons_succ])
            refine wpAnyH_take (i := 13) (oi := { dst := some 115, op := Go.Op.binOp Go.BinOp.eql 4 (Go.Operand.tmp 112) (Go.Operand.tmp 114) 4, type := 4, pos := "law.go:141", after := #[{ on := 10, ground := Go.Ground.data }, { on := 12, ground := Go.Ground.data }, { on := 8, ground := Go.Ground.guard }], guard := some (8, true) }) (v := ?_) rfl (by kernel_rfl) (by kernel_rfl) (by kernel_rfl) (fun _ _ _ h => h) (Or.inl ⟨by rfl, ?_⟩) (by assumption) ?_
            rotate_left
            · intro wS hSw
              (try dsimp only at hSw)
              go_simp
              (try with_reducible rfl)
            (try simp only [Act.put, List.setIfInBounds_toArray, List.set_cons_zero, List.set_cons_succ])
            refine wpAnyH_take (i := 14) (oi := { dst := some 116, op := Go.Op.pick (Go.Operand.tmp 110) (Go.Operand.tmp 115) (Go.Operand.const (Go.Value.bool false)), type := 4, pos := "law.go:141", after := #[{ on := 8, ground := Go.Ground.data }, { on := 13, ground := Go.Ground.data }], guard := none }) (v := ?_) rfl (by kernel_rfl) (by kernel_rfl) (by kernel_rfl) (fun _ _ _ h => h) (Or.inl ⟨by rfl, ?_⟩) (by assumption) ?_
            rotate_left
            · intro wS hSw
              (try dsimp only at hSw)
              go_simp
              (try with_reducible rfl)
            (try simp only [Act.put, List.setIfInBounds_toArray, List.set_cons_zero, List.set_cons_succ])
            refine wpAnyH_take (i := 15) (oi := { dst := some 117, op := Go.Op.move (Go.Operand.tmp 116), type := 4, pos := "law.go:141", after := #[{ on := 14, ground := Go.Ground.data }, { on := 8, ground := Go.Ground.chain }], guard := none }) (v := ?_) rfl (by kernel_rfl) (by kernel_rfl) (by kernel_rfl) (fun _ _ _ h => h) (Or.inl ⟨by rfl, ?_⟩) (by assumption) ?_
            rotate_left
            · intro wS hSw
              (try dsimp only at hSw)
              go_simp
              (try with_reducible rfl)
            (try simp only [Act.put, List.setIfInBounds_toArray, List.set_cons_zero, List.set_cons_succ])
            refine wpAnyH_take (i := 16) (oi := { dst := some 118, op := Go.Op.move (Go.Operand.tmp 18), type := 29, pos := "law.go:141", after := #[{ on := 15, ground := Go.Ground.guard }], guard := some (15, true) }) (v := ?_) rfl (by kernel_rfl) (by kernel_rfl) (by kernel_rfl) (fun _ _ _ h => h) (Or.inl ⟨by rfl, ?_⟩) (by assumption) ?_
            rotate_left
            · intro wS hSw
              (try dsimp only at hSw)
              go_simp
              (try with_reducible rfl)
            (try simp only [Act.put, List.setIfInBounds_toArray, List.set_cons_zero, List.set_cons_succ])
            refine wpAnyH_take (i := 17) (oi := { dst := some 119, op := Go.Op.binOp Go.BinOp.neq 29 (Go.Operand.tmp 118) (Go.Operand.const Go.Value.nilIface) 29, type := 4, pos := "law.go:141", after := #[{ on := 16, ground := Go.Ground.data }, { on := 15, ground := Go.Ground.guard }], guard := some (15, true) }) (v := ?_) rfl (by kernel_rfl) (by kernel_rfl) (by kernel_rfl) (fun _ _ _ h => h) (Or.inl ⟨by rfl, ?_⟩) (by assumption) ?_
            rotate_left
            · intro wS hSw
              (try dsimp only at hSw)
              go_simp
              (try with_reducible rfl)
            (try simp only [Act.put, List.setIfInBounds_toArray, List.set_cons_zero, List.set_cons_succ])
            refine wpAnyH_take (i := 18) (oi := { dst := some 120, op := Go.Op.move (Go.Operand.tmp 119), type := 4, pos := "law.go:141", after := #[{ on := 17, ground := Go.Ground.data }, { on := 15, ground := Go.Ground.chain }, { on := 15, ground := Go.Ground.guard }], guard := some (15, true) }) (v := ?_) rfl (by kernel_rfl) (by kernel_rfl) (by kernel_rfl) (fun _ _ _ h => h) (Or.inl ⟨by rfl, ?_⟩) (by assumption) ?_
            rotate_left
            · intro wS hSw
              (try dsimp only at hSw)
              go_simp
              (try with_reducible rfl)
            (try simp only [Act.put, List.setIfInBounds_toArray, List.set_cons_zero, List.set_cons_succ])
            refine wpAnyH_take (i := 19) (oi := { dst := some 121, op := Go.Op.move (Go.Operand.tmp 19), type := 33, pos := "law.go:141", after := #[{ on := 18, ground := Go.Ground.guard }], guard := some (18, false) }) (v := ?_) rfl (by kernel_rfl) (by kernel_rfl) (by kernel_rfl) (fun _ _ _ h => h) (Or.inl ⟨by rfl, ?_⟩) (by assumption) ?_
            rotate_left
            · intro wS hSw
              (try dsimp only at hSw)
              go_simp
              (try with_reducible rfl)
            (try simp only [Act.put, List.setIfInBounds_toArray, List.set_cons_zero, List.set_cons_succ])
            refine wpAnyH_take (i := 20) (oi := { dst := some 122, op := Go.Op.convert 33 9 (Go.Operand.tmp 121), type := 9, pos := "law.go:141", after := #[{ on := 19, ground := Go.Ground.data }, { on := 18, ground := Go.Ground.guard }], guard := some (18, false) }) (v := ?_) rfl (by kernel_rfl) (by kernel_rfl) (by kernel_rfl) (fun _ _ _ h => h) (Or.inl ⟨by rfl, ?_⟩) (by assumption) ?_
            rotate_left
            · intro wS hSw
              (have cv := (HCV.out wS hSw).1; go_simp; (try with_reducible rfl))
            (try simp only [Act.put, List.setIfInBounds_toArray, List.set_cons_zero, List.set_cons_succ])
            refine wpAnyH_take (i := 21) (oi := { dst := some 123, op := Go.Op.move (Go.Operand.tmp 2), type := 33, pos := "law.go:141", after := #[{ on := 18, ground := Go.Ground.guard }], guard := some (18, false) }) (v := ?_) rfl (by kernel_rfl) (by kernel_rfl) (by kernel_rfl) (fun _ _ _ h => h) (Or.inl ⟨by rfl, ?_⟩) (by assumption) ?_
            rotate_left
            · intro wS hSw
              (try dsimp only at hSw)
              go_simp
              (try with_reducible rfl)
            (try simp only [Act.put, List.setIfInBounds_toArray, List.set_cons_zero, List.set_cons_succ])
            refine wpAnyH_take (i := 22) (oi := { dst := some 124, op := Go.Op.convert 33 9 (Go.Operand.tmp 123), type := 9, pos := "law.go:141", after := #[{ on := 21, ground := Go.Ground.data }, { on := 18, ground := Go.Ground.guard }], guard := some (18, false) }) (v := ?_) rfl (by kernel_rfl) (by kernel_rfl) (by kernel_rfl) (fun _ _ _ h => h) (Or.inl ⟨by rfl, ?_⟩) (by assumption) ?_
            rotate_left
            · intro wS hSw
              (have cv := (HCV.out wS hSw).2; go_simp; (try with_reducible rfl))
            (try simp only [Act.put, List.setIfInBounds_toArray, List.set_cons_zero, List.set_cons_succ])
            refine wpAnyH_take (i := 23) (oi := { dst := some 125, op := Go.Op.binOp Go.BinOp.eql 9 (Go.Operand.tmp 122) (Go.Operand.tmp 124) 9, type := 4, pos := "law.go:141", after := #[{ on := 20, ground := Go.Ground.data }, { on := 22, ground := Go.Ground.data }, { on := 18, ground := Go.Ground.guard }], guard := some (18, false) }) (v := ?_) rfl (by kernel_rfl) (by kernel_rfl) (by kernel_rfl) (fun _ _ _ h => h) (Or.inl ⟨by rfl, ?_⟩) (by assumption) ?_
            rotate_left
            · intro wS hSw
              (try dsimp only at hSw)
              go_simp
              (try with_reducible rfl)
            (try simp only [Act.put, List.setIfInBounds_toArray, List.set_cons_zero, List.set_cons_succ])
            refine wpAnyH_take (i := 24) (oi := { dst := some 126, op := Go.Op.pick (Go.Operand.tmp 120) (Go.Operand.const (Go.Value.bool true)) (Go.Operand.tmp 125), type := 4, pos := "law.go:141", after := #[{ on := 18, ground := Go.Ground.data }, { on := 23, ground := Go.Ground.data }, { on := 15, ground := Go.Ground.guard }], guard := some (15, true) }) (v := ?_) rfl (by kernel_rfl) (by kernel_rfl) (by kernel_rfl) (fun _ _ _ h => h) (Or.inl ⟨by rfl, ?_⟩) (by assumption) ?_
            rotate_left
            · intro wS hSw
              (try dsimp only at hSw)
              go_simp
              (try with_reducible rfl)
            (try simp only [Act.put, List.setIfInBounds_toArray, List.set_cons_zero, List.set_cons_succ])
            refine wpAnyH_take (i := 25) (oi := { dst := some 127, op := Go.Op.pick (Go.Operand.tmp 117) (Go.Operand.tmp 126) (Go.Operand.const (Go.Value.bool false)), type := 4, pos := "law.go:141", after := #[{ on := 15, ground := Go.Ground.data }, { on := 24, ground := Go.Ground.data }], guard := none }) (v := ?_) rfl (by kernel_rfl) (by kernel_rfl) (by kernel_rfl) (fun _ _ _ h => h) (Or.inl ⟨by rfl, ?_⟩) (by assumption) ?_
            rotate_left
            · intro wS hSw
              (try dsimp only at hSw)
              go_simp
              (try with_reducible rfl)
            (try simp only [Act.put, List.setIfInBounds_toArray, List.set_cons_zero, List.set_cons_succ])
            refine wpAnyH_take (i := 26) (oi := { dst := some 128, op := Go.Op.move (Go.Operand.tmp 127), type := 4, pos := "law.go:141", after := #[{ on := 25, ground := Go.Ground.data }, { on := 18, ground := Go.Ground.chain }], guard := none }) (v := ?_) rfl (by kernel_rfl) (by kernel_rfl) (by kernel_rfl) (fun _ _ _ h => h) (Or.inl ⟨by rfl, ?_⟩) (by assumption) ?_
            rotate_left
            · intro wS hSw
              (try dsimp only at hSw)
              go_simp
              (try with_reducible rfl)
            (try simp only [Act.put, List.setIfInBounds_toArray, List.set_cons_zero, List.set_cons_succ])
            refine wpAnyH_ready (rs := [27]) (by kernel_rfl) (by simp) ?_
            refine AllReadyH.cons (o := { dst := some 129, op := Go.Op.call { callee := Go.Callee.value (Go.Operand.func 12), args := #[], argTypes := #[] }, type := 4, pos := "law.go:141", after := #[{ on := 26, ground := Go.Ground.chain }, { on := 26, ground := Go.Ground.guard }], guard := some (26, true) }) rfl (fun K hK => ?_) AllReadyH.nil
            go_simp
            (refine (HSU.out V5 (HWW.out _ hvV5)).mono ?_; rintro e V27 ⟨rfl, hbz⟩; have hvV27 := Below.trans hvV5 (hbz.mono (Below.size hvV5)); clear hbz; skip)
            (try go_wp2_with fail)
            refine hK.out _ _ ?_ (fun hHeld => ?_)
            · (try dsimp only)
              (first | assumption | (dsimp only; assumption))
            clear hK K
            (try simp only [Act.put, List.setIfInBounds_toArray, List.set_cons_zero, List.set_cons_succ])
            refine wpAnyH_take (i := 28) (oi := { dst := some 130, op := Go.Op.pick (Go.Operand.tmp 128) (Go.Operand.tmp 129) (Go.Operand.const (Go.Value.bool false)), type := 4, pos := "law.go:141", after := #[{ on := 26, ground := Go.Ground.data }, { on := 27, ground := Go.Ground.data }], guard := none }) (v := ?_) rfl (by kernel_rfl) (by kernel_rfl) (by kernel_rfl) (fun _ _ _ h => h) (Or.inl ⟨by rfl, ?_⟩) (by assumption) ?_
            rotate_left
            · intro wS hSw
              (try dsimp only at hSw)
              go_simp
              (try with_reducible rfl)
            (try simp only [Act.put, List.setIfInBounds_toArray, List.set_cons_zero, List.set_cons_succ])
            refine wpAnyH_take (i := 29) (oi := { dst := some 6, op := Go.Op.assign (Go.Operand.tmp 130), type := 4, pos := "law.go:141", after := #[{ on := 28, ground := Go.Ground.data }, { on := 27, ground := Go.Ground.chain }, { on := 0, ground := Go.Ground.phase }, { on := 1, ground := Go.Ground.phase }, { on := 2, ground := Go.Ground.phase }, { on := 3, ground := Go.Ground.phase }, { on := 4, ground := Go.Ground.phase }, { on := 5, ground := Go.Ground.phase }, { on := 6, ground := Go.Ground.phase }, { on := 7, ground := Go.Ground.phase }, { on := 8, ground := Go.Ground.phase }, { on := 9, ground := Go.Ground.phase }, { on := 10, ground := Go.Ground.phase }, { on := 11, ground := Go.Ground.phase }, { on := 12, ground := Go.Ground.phase }, { on := 13, ground := Go.Ground.phase }, { on := 14, ground := Go.Ground.phase }, { on := 15, ground := Go.Ground.phase }, { on := 16, ground := Go.Ground.phase }, { on := 17, ground := Go.Ground.phase }, { on := 18, ground := Go.Ground.phase }, { on := 19, ground := Go.Ground.phase }, { on := 20, ground := Go.Ground.phase }, { on := 21, ground := Go.Ground.phase }, { on := 22, ground := Go.Ground.phase }, { on := 23, ground := Go.Ground.phase }, { on := 24, ground := Go.Ground.phase }, { on := 25, ground := Go.Ground.phase }, { on := 26, ground := Go.Ground.phase }, { on := 27, ground := Go.Ground.phase }, { on := 28, ground := Go.Ground.phase }], guard := none }) (v := ?_) rfl (by kernel_rfl) (by kernel_rfl) (by kernel_rfl) (fun _ _ _ h => h) (Or.inl ⟨by rfl, ?_⟩) (by assumption) ?_
            rotate_left
            · intro wS hSw
              (try dsimp only at hSw)
              go_simp
              (try with_reducible rfl)
            (try simp only [Act.put, List.setIfInBounds_toArray, List.set_cons_zero, List.set_cons_succ])
            refine wpAnyH_done (by kernel_rfl) ?_ _
            go_wp2_with fail
            go_ret
            exact ⟨rfl, HWW.out _ hvV27⟩
          · have HD3 : Hid (∀ A, Below w.heap.size w A → Calls Tryd.prog 10 #[.slice ob m cb] A fun e w' => e = .returned (.tuple #[.agg #[.slice none 0 0], .iface 64 (.int .i64 4)]) ∧ Below A.heap.size A w') := Lib.hid fun A hA => dec_no m cb ob B A (HBY.out.later hA) HN.out.1 (by omega) hR
            clear hR
            go_upto_region 15 with (go_at_call 10; refine (HD3.out _ HBA.out).mono ?_; rintro e w10 ⟨rfl, hb10⟩)
            have hbB : Below w.heap.size w (w10.alloc (.cells #[.slice none 0 0] 26)) := (HBA.out.trans (hb10.mono HBA.out.size)).trans ((Below.refl _ _).alloc (Nat.le_trans HBA.out.size hb10.size) _)
            have hC : Blk (w10.alloc (.cells #[.slice none 0 0] 26)) w10.heap.size #[.slice none 0 0] 26 := Blk.new _ _ _
            obtain ⟨wB, hwB⟩ : ∃ q, w10.alloc (.cells #[.slice none 0 0] 26) = q := ⟨_, rfl⟩
            obtain ⟨b17, hb17⟩ : ∃ q, w10.heap.size = q := ⟨_, rfl⟩
            rw [hwB] at hbB hC
            rw [hb17] at hC
            rw [hwB, hb17]
            have c17 : wB.cell? ⟨b17, 0, none⟩ = some (.slice none 0 0) := by rw [Blk.cell hC]; rfl
            have HBB := Lib.hid hbB
            clear hb10 hbB hwB hb17 hC
            go_upto_region 16 with (go_at_call 9; refine (encode_nil _).mono ?_; rintro e w11 ⟨rfl, hb11⟩)
            have HWW : Hid (∀ A, Below w11.heap.size w11 A → Below w.heap.size w A) := Lib.hid fun A hA => (HBB.out.trans (hb11.mono HBB.out.size)).trans (hA.mono (Nat.le_trans HBB.out.size hb11.size))
            clear hb11 c17
            have hvW0 : Below w11.heap.size w11 w11.drew := (Below.refl _ _).drew
            refine wp_region_held_drew (S := (Below w11.heap.size w11)) (by kernel_rfl) ?_ (fun hHeld => ?_)
            · (try dsimp only)
              (first | assumption | (dsimp only; assumption))
            generalize w11.drew = W0 at *
            refine wpAnyH_take (i := 0) (oi := { dst := some 102, op := Go.Op.move (Go.Operand.tmp 14), type := 29, pos := "law.go:141", after := #[], guard := none }) (v := ?_) rfl (by kernel_rfl) (by kernel_rfl) (by kernel_rfl) (fun _ _ _ h => h) (Or.inl ⟨by rfl, ?_⟩) (by assumption) ?_
            rotate_left
            · intro wS hSw
              (try dsimp only at hSw)
              go_simp
              (try with_reducible rfl)
            (try simp only [Act.put, List.setIfInBounds_toArray, List.set_cons_zero, List.set_cons_succ])
            refine wpAnyH_ready (rs := [1]) (by kernel_rfl) (by simp) ?_
            refine AllReadyH.cons (o := { dst := some 103, op := Go.Op.call { callee := Go.Callee.value (Go.Operand.func 8), args := #[Go.Operand.tmp 102], argTypes := #[29] }, type := 3, pos := "law.go:141", after := #[{ on := 0, ground := Go.Ground.data }], guard := none }) rfl (fun K hK => ?_) AllReadyH.nil
            go_simp
            (refine (HNU.out W0 (HWW.out _ hvW0)).mono ?_; rintro e V1 ⟨rfl, hbz⟩; have hvV1 := Below.trans hvW0 (hbz.mono (Below.size hvW0)); clear hbz; skip)
            (try go_wp2_with fail)
            refine hK.out _ _ ?_ (fun hHeld => ?_)
            · (try dsimp only)
              (first | assumption | (dsimp only; assumption))
            clear hK K
            (try simp only [Act.put, List.setIfInBounds_toArray, List.set_cons_zero, List.set_cons_succ])
            refine wpAnyH_take (i := 2) (oi := { dst := some 104, op := Go.Op.binOp Go.BinOp.eql 3 (Go.Operand.tmp 103) (Go.Operand.const (Go.Value.int Go.IntKind.i64 4)) 3, type := 4, pos := "law.go:141", after := #[{ on := 1, ground := Go.Ground.data }], guard := none }) (v := ?_) rfl (by kernel_rfl) (by kernel_rfl) (by kernel_rfl) (fun _ _ _ h => h) (Or.inl ⟨by rfl, ?_⟩) (by assumption) ?_
            rotate_left
            · intro wS hSw
              (try dsimp only at hSw)
              go_simp
              (try with_reducible rfl)
            (try simp only [Act.put, List.setIfInBounds_toArray, List.set_cons_zero, List.set_cons_succ])
            refine wpAnyH_take (i := 3) (oi := { dst := some 105, op := Go.Op.move (Go.Operand.tmp 104), type := 4, pos := "law.go:141", after := #[{ on := 2, ground := Go.Ground.data }, { on := 1, ground := Go.Ground.chain }], guard := none }) (v := ?_) rfl (by kernel_rfl) (by kernel_rfl) (by kernel_rfl) (fun _ _ _ h => h) (Or.inl ⟨by rfl, ?_⟩) (by assumption) ?_
            rotate_left
            · intro wS hSw
              (try dsimp only at hSw)
              go_simp
              (try with_reducible rfl)
            (try simp only [Act.put, List.setIfInBounds_toArray, List.set_cons_zero, List.set_cons_succ])
            refine wpAnyH_take (i := 4) (oi := { dst := some 106, op := Go.Op.move (Go.Operand.tmp 16), type := 29, pos := "law.go:141", after := #[{ on := 3, ground := Go.Ground.guard }], guard := some (3, true) }) (v := ?_) rfl (by kernel_rfl) (by kernel_rfl) (by kernel_rfl) (fun _ _ _ h => h) (Or.inl ⟨by rfl, ?_⟩) (by assumption) ?_
            rotate_left
            · intro wS hSw
              (try dsimp only at hSw)
              go_simp
              (try with_reducible rfl)
            (try simp only [Act.put, List.setIfInBounds_toArray, List.set_cons_zero, List.set_cons_succ])
            refine wpAnyH_ready (rs := [5]) (by kernel_rfl) (by simp) ?_
            refine AllReadyH.cons (o := { dst := some 107, op := Go.Op.call { callee := Go.Callee.value (Go.Operand.func 8), args := #[Go.Operand.tmp 106], argTypes := #[29] }, type := 3, pos := "law.go:141", after := #[{ on := 4, ground := Go.Ground.data }, { on := 3, ground := Go.Ground.chain }, { on := 3, ground := Go.Ground.guard }], guard := some (3, true) }) rfl (fun K hK => ?_) AllReadyH.nil
            go_simp
            (refine (HNU.out V1 (HWW.out _ hvV1)).mono ?_; rintro e V5 ⟨rfl, hbz⟩; have hvV5 := Below.trans hvV1 (hbz.mono (Below.size hvV1)); clear hbz; skip)
            (try go_wp2_with fail)
            refine hK.out _ _ ?_ (fun hHeld => ?_)
            · (try dsimp only)
              (first | assumption | (dsimp only; assumption))
            clear hK K
            (try simp only [Act.put, List.setIfInBounds_toArray, List.set_cons_zero, List.set_cons_succ])
            refine wpAnyH_take (i := 6) (oi := { dst := some 108, op := Go.Op.binOp Go.BinOp.eql 3 (Go.Operand.tmp 107) (Go.Operand.const (Go.Value.int Go.IntKind.i64 4)) 3, type := 4, pos := "law.go:141", after := #[{ on := 5, ground := Go.Ground.data }, { on := 3, ground := Go.Ground.guard }], guard := some (3, true) }) (v := ?_) rfl (by kernel_rfl) (by kernel_rfl) (by kernel_rfl) (fun _ _ _ h => h) (Or.inl ⟨by rfl, ?_⟩) (by assumption) ?_
            rotate_left
            · intro wS hSw
              (try dsimp only at hSw)
              go_simp
              (try with_reducible rfl)
            (try simp only [Act.put, List.setIfInBounds_toArray, List.set_cons_zero, List.set_cons_succ])
            refine wpAnyH_take (i := 7) (oi := { dst := some 109, op := Go.Op.pick (Go.Operand.tmp 105) (Go.Operand.tmp 108) (Go.Operand.const (Go.Value.bool false)), type := 4, pos := "law.go:141", after := #[{ on := 3, ground := Go.Ground.data }, { on := 6, ground := Go.Ground.data }], guard := none }) (v := ?_) rfl (by kernel_rfl) (by kernel_rfl) (by kernel_rfl) (fun _ _ _ h => h) (Or.inl ⟨by rfl, ?_⟩) (by assumption) ?_
            rotate_left
            · intro wS hSw
              (try dsimp only at hSw)
              go_simp
              (try with_reducible rfl)
            (try simp only [Act.put, List.setIfInBounds_toArray, List.set_cons_zero, List.set_cons_succ])
            refine wpAnyH_take (i := 8) (oi := { dst := some 110, op := Go.Op.move (Go.Operand.tmp 109), type := 4, pos := "law.go:141", after := #[{ on := 7, ground := Go.Ground.data }, { on := 5, ground := Go.Ground.chain }], guard := none }) (v := ?_) rfl (by kernel_rfl) (by kernel_rfl) (by kernel_rfl) (fun _ _ _ h => h) (Or.inl ⟨by rfl, ?_⟩) (by assumption) ?_
            rotate_left
            · intro wS hSw
              (try dsimp only at hSw)
              go_simp
              (try with_reducible rfl)
            (try simp only [Act.put, List.setIfInBounds_toArray, List.set_cons_zero, List.set_cons_succ])
            refine wpAnyH_take (i := 9) (oi := { dst := some 111, op := Go.Op.move (Go.Operand.tmp 18), type := 29, pos := "law.go:141", after := #[{ on := 8, ground := Go.Ground.guard }], guard := some (8, true) }) (v := ?_) rfl (by kernel_rfl) (by kernel_rfl) (by kernel_rfl) (fun _ _ _ h => h) (Or.inl ⟨by rfl, ?_⟩) (by assumption) ?_
            rotate_left
            · intro wS hSw
              (try dsimp only at hSw)
              go_simp
              (try with_reducible rfl)
            (try simp only [Act.put, List.setIfInBounds_toArray, List.set_cons_zero, List.set_cons_succ])
            refine wpAnyH_take (i := 10) (oi := { dst := some 112, op := Go.Op.binOp Go.BinOp.eql 29 (Go.Operand.tmp 111) (Go.Operand.const Go.Value.nilIface) 29, type := 4, pos := "law.go:141", after := #[{ on := 9, ground := Go.Ground.data }, { on := 8, ground := Go.Ground.guard }], guard := some (8, true) }) (v := ?_) rfl (by kernel_rfl) (by kernel_rfl) (by kernel_rfl) (fun _ _ _ h => h) (Or.inl ⟨by rfl, ?_⟩) (by assumption) ?_
            rotate_left
            · intro wS hSw
              (try dsimp only at hSw)
              go_simp
              (try with_reducible rfl)
            (try simp only [Act.put, List.setIfInBounds_toArray, List.set_cons_zero, List.set_cons_succ])
            refine wpAnyH_take (i := 11) (oi := { dst := some 113, op := Go.Op.move (Go.Operand.tmp 20), type := 29, pos := "law.go:141", after := #[{ on := 8, ground := Go.Ground.guard }], guard := some (8, true) }) (v := ?_) rfl (by kernel_rfl) (by kernel_rfl) (by kernel_rfl) (fun _ _ _ h => h) (Or.inl ⟨by rfl, ?_⟩) (by assumption) ?_
            rotate_left
            · intro wS hSw
              (try dsimp only at hSw)
              go_simp
              (try with_reducible rfl)
            (try simp only [Act.put, List.setIfInBounds_toArray, List.set_cons_zero, List.set_cons_succ])
            refine wpAnyH_take (i := 12) (oi := { dst := some 114, op := Go.Op.binOp Go.BinOp.eql 29 (Go.Operand.tmp 113) (Go.Operand.const Go.Value.nilIface) 29, type := 4, pos := "law.go:141", after := #[{ on := 11, ground := Go.Ground.data }, { on := 8, ground := Go.Ground.guard }], guard := some (8, true) }) (v := ?_) rfl (by kernel_rfl) (by kernel_rfl) (by kernel_rfl) (fun _ _ _ h => h) (Or.inl ⟨by rfl, ?_⟩) (by assumption) ?_
            rotate_left
            · intro wS hSw
              (try dsimp only at hSw)
              go_simp
              (try with_reducible rfl)
            (try simp only [Act.put, List.setIfInBounds_toArray, List.set_cons_zero, List.set_cons_succ])
            refine wpAnyH_take (i := 13) (oi := { dst := some 115, op := Go.Op.binOp Go.BinOp.eql 4 (Go.Operand.tmp 112) (Go.Operand.tmp 114) 4, type := 4, pos := "law.go:141", after := #[{ on := 10, ground := Go.Ground.data }, { on := 12, ground := Go.Ground.data }, { on := 8, ground := Go.Ground.guard }], guard := some (8, true) }) (v := ?_) rfl (by kernel_rfl) (by kernel_rfl) (by kernel_rfl) (fun _ _ _ h => h) (Or.inl ⟨by rfl, ?_⟩) (by assumption) ?_
            rotate_left
            · intro wS hSw
              (try dsimp only at hSw)
              go_simp
              (try with_reducible rfl)
            (try simp only [Act.put, List.setIfInBounds_toArray, List.set_cons_zero, List.set_cons_succ])
            refine wpAnyH_take (i := 14) (oi := { dst := some 116, op := Go.Op.pick (Go.Operand.tmp 110) (Go.Operand.tmp 115) (Go.Operand.const (Go.Value.bool false)), type := 4, pos := "law.go:141", after := #[{ on := 8, ground := Go.Ground.data }, { on := 13, ground := Go.Ground.data }], guard := none }) (v := ?_) rfl (by kernel_rfl) (by kernel_rfl) (by kernel_rfl) (fun _ _ _ h => h) (Or.inl ⟨by rfl, ?_⟩) (by assumption) ?_
            rotate_left
            · intro wS hSw
              (try dsimp only at hSw)
              go_simp
              (try with_reducible rfl)
            (try simp only [Act.put, List.setIfInBounds_toArray, List.set_cons_zero, List.set_cons_succ])
            refine wpAnyH_take (i := 15) (oi := { dst := some 117, op := Go.Op.move (Go.Operand.tmp 116), type := 4, pos := "law.go:141", after := #[{ on := 14, ground := Go.Ground.data }, { on := 8, ground := Go.Ground.chain }], guard := none }) (v := ?_) rfl (by kernel_rfl) (by kernel_rfl) (by kernel_rfl) (fun _ _ _ h => h) (Or.inl ⟨by rfl, ?_⟩) (by assumption) ?_
            rotate_left
            · intro wS hSw
              (try dsimp only at hSw)
              go_simp
              (try with_reducible rfl)
            (try simp only [Act.put, List.setIfInBounds_toArray, List.set_cons_zero, List.set_cons_succ])
            refine wpAnyH_take (i := 16) (oi := { dst := some 118, op := Go.Op.move (Go.Operand.tmp 18), type := 29, pos := "law.go:141", after := #[{ on := 15, ground := Go.Ground.guard }], guard := some (15, true) }) (v := ?_) rfl (by kernel_rfl) (by kernel_rfl) (by kernel_rfl) (fun _ _ _ h => h) (Or.inl ⟨by rfl, ?_⟩) (by assumption) ?_
            rotate_left
            · intro wS hSw
              (try dsimp only at hSw)
              go_simp
              (try with_reducible rfl)
            (try simp only [Act.put, List.setIfInBounds_toArray, List.set_cons_zero, List.set_cons_succ])
            refine wpAnyH_take (i := 17) (oi := { dst := some 119, op := Go.Op.binOp Go.BinOp.neq 29 (Go.Operand.tmp 118) (Go.Operand.const Go.Value.nilIface) 29, type := 4, pos := "law.go:141", after := #[{ on := 16, ground := Go.Ground.data }, { on := 15, ground := Go.Ground.guard }], guard := some (15, true) }) (v := ?_) rfl (by kernel_rfl) (by kernel_rfl) (by kernel_rfl) (fun _ _ _ h => h) (Or.inl ⟨by rfl, ?_⟩) (by assumption) ?_
            rotate_left
            · intro wS hSw
              (try dsimp only at hSw)
              go_simp
              (try with_reducible rfl)
            (try simp only [Act.put, List.setIfInBounds_toArray, List.set_cons_zero, List.set_cons_succ])
            refine wpAnyH_take (i := 18) (oi := { dst := some 120, op := Go.Op.move (Go.Operand.tmp 119), type := 4, pos := "law.go:141", after := #[{ on := 17, ground := Go.Ground.data }, { on := 15, ground := Go.Ground.chain }, { on := 15, ground := Go.Ground.guard }], guard := some (15, true) }) (v := ?_) rfl (by kernel_rfl) (by kernel_rfl) (by kernel_rfl) (fun _ _ _ h => h) (Or.inl ⟨by rfl, ?_⟩) (by assumption) ?_
            rotate_left
            · intro wS hSw
              (try dsimp only at hSw)
              go_simp
              (try with_reducible rfl)
            (try simp only [Act.put, List.setIfInBounds_toArray, List.set_cons_zero, List.set_cons_succ])
            refine wpAnyH_take (i := 19) (oi := { dst := some 121, op := Go.Op.move (Go.Operand.tmp 19), type := 33, pos := "law.go:141", after := #[{ on := 18, ground := Go.Ground.guard }], guard := some (18, false) }) (v := undef) rfl (by kernel_rfl) (by kernel_rfl) (by kernel_rfl) (fun _ _ _ h => h) (Or.inr ⟨by rfl, rfl⟩) (by assumption) ?_
            (try simp only [Act.put, List.setIfInBounds_toArray, List.set_cons_zero, List.set_cons_succ])
            refine wpAnyH_take (i := 20) (oi := { dst := some 122, op := Go.Op.convert 33 9 (Go.Operand.tmp 121), type := 9, pos := "law.go:141", after := #[{ on := 19, ground := Go.Ground.data }, { on := 18, ground := Go.Ground.guard }], guard := some (18, false) }) (v := undef) rfl (by kernel_rfl) (by kernel_rfl) (by kernel_rfl) (fun _ _ _ h => h) (Or.inr ⟨by rfl, rfl⟩) (by assumption) ?_
            (try simp only [Act.put, List.setIfInBounds_toArray, List.set_cons_zero, List.set_cons_succ])
            refine wpAnyH_take (i := 21) (oi := { dst := some 123, op := Go.Op.move (Go.Operand.tmp 2), type := 33, pos := "law.go:141", after := #[{ on := 18, ground := Go.Ground.guard }], guard := some (18, false) }) (v := undef) rfl (by kernel_rfl) (by kernel_rfl) (by kernel_rfl) (fun _ _ _ h => h) (Or.inr ⟨by rfl, rfl⟩) (by assumption) ?_
            (try simp only [Act.put, List.setIfInBounds_toArray, List.set_cons_zero, List.set_cons_succ])
            refine wpAnyH_take (i := 22) (oi := { dst := some 124, op := Go.Op.convert 33 9 (Go.Operand.tmp 123), type := 9, pos := "law.go:141", after := #[{ on := 21, ground := Go.Ground.data }, { on := 18, ground := Go.Ground.guard }], guard := some (18, false) }) (v := undef) rfl (by kernel_rfl) (by kernel_rfl) (by kernel_rfl) (fun _ _ _ h => h) (Or.inr ⟨by rfl, rfl⟩) (by assumption) ?_
            (try simp only [Act.put, List.setIfInBounds_toArray, List.set_cons_zero, List.set_cons_succ])
            refine wpAnyH_take (i := 23) (oi := { dst := some 125, op := Go.Op.binOp Go.BinOp.eql 9 (Go.Operand.tmp 122) (Go.Operand.tmp 124) 9, type := 4, pos := "law.go:141", after := #[{ on := 20, ground := Go.Ground.data }, { on := 22, ground := Go.Ground.data }, { on := 18, ground := Go.Ground.guard }], guard := some (18, false) }) (v := undef) rfl (by kernel_rfl) (by kernel_rfl) (by kernel_rfl) (fun _ _ _ h => h) (Or.inr ⟨by rfl, rfl⟩) (by assumption) ?_
            (try simp only [Act.put, List.setIfInBounds_toArray, List.set_cons_zero, List.set_cons_succ])
            refine wpAnyH_take (i := 24) (oi := { dst := some 126, op := Go.Op.pick (Go.Operand.tmp 120) (Go.Operand.const (Go.Value.bool true)) (Go.Operand.tmp 125), type := 4, pos := "law.go:141", after := #[{ on := 18, ground := Go.Ground.data }, { on := 23, ground := Go.Ground.data }, { on := 15, ground := Go.Ground.guard }], guard := some (15, true) }) (v := ?_) rfl (by kernel_rfl) (by kernel_rfl) (by kernel_rfl) (fun _ _ _ h => h) (Or.inl ⟨by rfl, ?_⟩) (by assumption) ?_
            rotate_left
            · intro wS hSw
              (try dsimp only at hSw)
              go_simp
              (try with_reducible rfl)
            (try simp only [Act.put, List.setIfInBounds_toArray, List.set_cons_zero, List.set_cons_succ])
            refine wpAnyH_take (i := 25) (oi := { dst := some 127, op := Go.Op.pick (Go.Operand.tmp 117) (Go.Operand.tmp 126) (Go.Operand.const (Go.Value.bool false)), type := 4, pos := "law.go:141", after := #[{ on := 15, ground := Go.Ground.data }, { on := 24, ground := Go.Ground.data }], guard := none }) (v := ?_) rfl (by kernel_rfl) (by kernel_rfl) (by kernel_rfl) (fun _ _ _ h => h) (Or.inl ⟨by rfl, ?_⟩) (by assumption) ?_
            rotate_left
            · intro wS hSw
              (try dsimp only at hSw)
              go_simp
              (try with_reducible rfl)
            (try simp only [Act.put, List.setIfInBounds_toArray, List.set_cons_zero, List.set_cons_succ])
            refine wpAnyH_take (i := 26) (oi := { dst := some 128, op := Go.Op.move (Go.Operand.tmp 127), type := 4, pos := "law.go:141", after := #[{ on := 25, ground := Go.Ground.data }, { on := 18, ground := Go.Ground.chain }], guard := none }) (v := ?_) rfl (by kernel_rfl) (by kernel_rfl) (by kernel_rfl) (fun _ _ _ h => h) (Or.inl ⟨by rfl, ?_⟩) (by assumption) ?_
            rotate_left
            · intro wS hSw
              (try dsimp only at hSw)
              go_simp
              (try with_reducible rfl)
            (try simp only [Act.put, List.setIfInBounds_toArray, List.set_cons_zero, List.set_cons_succ])
            refine wpAnyH_ready (rs := [27]) (by kernel_rfl) (by simp) ?_
            refine AllReadyH.cons (o := { dst := some 129, op := Go.Op.call { callee := Go.Callee.value (Go.Operand.func 12), args := #[], argTypes := #[] }, type := 4, pos := "law.go:141", after := #[{ on := 26, ground := Go.Ground.chain }, { on := 26, ground := Go.Ground.guard }], guard := some (26, true) }) rfl (fun K hK => ?_) AllReadyH.nil
            go_simp
            (refine (HSU.out V5 (HWW.out _ hvV5)).mono ?_; rintro e V27 ⟨rfl, hbz⟩; have hvV27 := Below.trans hvV5 (hbz.mono (Below.size hvV5)); clear hbz; skip)
            (try go_wp2_with fail)
            refine hK.out _ _ ?_ (fun hHeld => ?_)
            · (try dsimp only)
              (first | assumption | (dsimp only; assumption))
            clear hK K
            (try simp only [Act.put, List.setIfInBounds_toArray, List.set_cons_zero, List.set_cons_succ])
            refine wpAnyH_take (i := 28) (oi := { dst := some 130, op := Go.Op.pick (Go.Operand.tmp 128) (Go.Operand.tmp 129) (Go.Operand.const (Go.Value.bool false)), type := 4, pos := "law.go:141", after := #[{ on := 26, ground := Go.Ground.data }, { on := 27, ground := Go.Ground.data }], guard := none }) (v := ?_) rfl (by kernel_rfl) (by kernel_rfl) (by kernel_rfl) (fun _ _ _ h => h) (Or.inl ⟨by rfl, ?_⟩) (by assumption) ?_
            rotate_left
            · intro wS hSw
              (try dsimp only at hSw)
              go_simp
              (try with_reducible rfl)
            (try simp only [Act.put, List.setIfInBounds_toArray, List.set_cons_zero, List.set_cons_succ])
            refine wpAnyH_take (i := 29) (oi := { dst := some 6, op := Go.Op.assign (Go.Operand.tmp 130), type := 4, pos := "law.go:141", after := #[{ on := 28, ground := Go.Ground.data }, { on := 27, ground := Go.Ground.chain }, { on := 0, ground := Go.Ground.phase }, { on := 1, ground := Go.Ground.phase }, { on := 2, ground := Go.Ground.phase }, { on := 3, ground := Go.Ground.phase }, { on := 4, ground := Go.Ground.phase }, { on := 5, ground := Go.Ground.phase }, { on := 6, ground := Go.Ground.phase }, { on := 7, ground := Go.Ground.phase }, { on := 8, ground := Go.Ground.phase }, { on := 9, ground := Go.Ground.phase }, { on := 10, ground := Go.Ground.phase }, { on := 11, ground := Go.Ground.phase }, { on := 12, ground := Go.Ground.phase }, { on := 13, ground := Go.Ground.phase }, { on := 14, ground := Go.Ground.phase }, { on := 15, ground := Go.Ground.phase }, { on := 16, ground := Go.Ground.phase }, { on := 17, ground := Go.Ground.phase }, { on := 18, ground := Go.Ground.phase }, { on := 19, ground := Go.Ground.phase }, { on := 20, ground := Go.Ground.phase }, { on := 21, ground := Go.Ground.phase }, { on := 22, ground := Go.Ground.phase }, { on := 23, ground := Go.Ground.phase }, { on := 24, ground := Go.Ground.phase }, { on := 25, ground := Go.Ground.phase }, { on := 26, ground := Go.Ground.phase }, { on := 27, ground := Go.Ground.phase }, { on := 28, ground := Go.Ground.phase }], guard := none }) (v := ?_) rfl (by kernel_rfl) (by kernel_rfl) (by kernel_rfl) (fun _ _ _ h => h) (Or.inl ⟨by rfl, ?_⟩) (by assumption) ?_
            rotate_left
            · intro wS hSw
              (try dsimp only at hSw)
              go_simp
              (try with_reducible rfl)
            (try simp only [Act.put, List.setIfInBounds_toArray, List.set_cons_zero, List.set_cons_succ])
            refine wpAnyH_done (by kernel_rfl) ?_ _
            go_wp2_with fail
            go_ret
            exact ⟨rfl, HWW.out _ hvV27⟩
        · have h2 : decide ((i : Int) < (n : Int)) = false := decide_eq_false h
          go_upto_region 12 with (first | (go_at_call 9; refine (HEN.out _ HT.out).mono ?_; rintro e w4 ⟨oc, cp, rfl, hB4, hcp, hno4, hb4⟩; have HB4 := Lib.hid (HW.out.trans (hb4.mono HW.out.size))))
          obtain ⟨_, bo, oo, e9, _⟩ := hB4 0 (by have := HL.out; omega)
          subst e9
          obtain ⟨r, hr⟩ : ∃ q, cut % L = q := ⟨_, rfl⟩
          have hrL : r < L := by rw [← hr]; exact Nat.mod_lt _ (by have := HL.out; omega)
          have r0 : (cut : Int) % (L : Int) = (r : Int) := by rw [← hr]; rfl
          have r1 : (0 : Int) ≤ (r : Int) := by omega
          have r2 : (r : Int) ≤ (cp : Int) := by omega
          have r3 : r ≤ cp := by omega
          have r4 : ¬ cp = 0 := by have := HL.out; omega
          have hS9 : ∀ j, encF k S j < 256 := fun j => encF_lt (by have := HL.out; omega) HSL.out j
          have HD1 : Hid (∀ A, Below w4.heap.size w4 A → Calls Tryd.prog 10 #[.slice (some ⟨bo, oo, none⟩) r cp] A fun e w' => e = .returned (.tuple #[.agg #[.slice none 0 0], .iface 64 (.int .i64 4)]) ∧ Below A.heap.size A w') := Lib.hid fun A hA =>
            dec_no r cp _ (encF k S) A ((hB4.later hA).mono (by omega)) r3 (by have := HL.out; omega) (fun h => by have h1 := h.2.2.2.2.2; rw [encF_two] at h1; have := HL.out; omega)
          obtain ⟨E, hE⟩ : ∃ q, encF k S = q := ⟨_, rfl⟩
          have HE2 : Hid (E 2 = k ∧ ∀ j, E j < 256) := Lib.hid ⟨by rw [← hE]; exact encF_two _ _, by rw [← hE]; exact hS9⟩
          rw [hE] at hB4
          have HB4L := Lib.hid hB4
          have HCP := Lib.hid (And.intro hcp r3)
          clear hB4 hcp hno4 hrL hr hS9 hE r3
          go_upto_region 13 with (first | (go_at_call 10; refine (HD1.out _ (Below.refl _ _)).mono ?_; rintro e w5 ⟨rfl, hb5⟩))
          obtain ⟨w6, hw6⟩ : ∃ q, w5.alloc (.cells #[.slice none 0 0] 26) = q := ⟨_, rfl⟩
          have hb56 : Below w5.heap.size w5 w6 := by rw [← hw6]; exact (Below.refl _ _).alloc (Nat.le_refl _) _
          have hb46 : Below w4.heap.size w4 w6 := hb5.trans (hb56.mono hb5.size)
          have HB6 := Lib.hid (HB4.out.trans (hb46.mono HB4.out.size))
          have HB6L := Lib.hid (HB4L.out.later hb46)
          rw [hw6]
          clear hb5 hw6 hb56 hb46 r0 r1 r2 r4
          have HCF : Hid (∀ i, i < L + 1 → catF L E (fun _ => 0) i < 256) := Lib.hid fun q hq => by unfold catF; split <;> first | exact HE2.out.2 _ | (show (0:Nat) < 256; omega)
          have HD2 : Hid (∀ A o c, Bytes A o (L + 1) (catF L E (fun _ => 0)) → L + 1 ≤ c → Calls Tryd.prog 10 #[.slice o (L + 1) c] A fun e w' => e = .returned (.tuple #[.agg #[.slice none 0 0], .iface 64 (.int .i64 4)]) ∧ Below A.heap.size A w') := Lib.hid fun A o c hA hc =>
            dec_no (L + 1) c o _ A hA hc (by have := HL.out; omega) (fun h => by have h1 := h.2.2.2.2.2; unfold catF at h1; rw [if_pos (by have := HL.out; omega), HE2.out.1] at h1; have := HL.out; omega)
          have HGE6 : Hid (Grow (w6.alloc (.cells #[] 5)) w6.heap.size (.slice (some ⟨w6.heap.size, 0, none⟩) 0 0) 0 (fun _ => 0)) := Lib.hid (Grow.empty (Blk.new _ _ _) (Nat.le_refl _) _)
          have HB6A : Hid (Bytes (w6.alloc (.cells #[] 5)) (some ⟨bo, oo, none⟩) L E) := Lib.hid (HB6L.out.alloc _)
          go_upto_region 14 with (first
            | (refine wpList_appO rfl (.tmp 84) (.tmp 85) rfl w6.heap.size (.slice (some ⟨w6.heap.size, 0, none⟩) 0 0) 0 L cp (some ⟨bo, oo, none⟩) (fun _ => 0) E (w6.alloc (.cells #[] 5)) rfl HGE6.out rfl (fun e => by cases e) HB6A.out (by have := HL.out; omega) (by simp) ?_; intro v1 w7 hG1 hg1 hob1; rw [Nat.zero_add] at hG1; have hG1e := hG1.congr (g := E) (fun q hq => by unfold catF; rw [if_neg (Nat.not_lt_zero _), Nat.sub_zero]); have HG1 := Lib.hid (hG1e.later ((Below.refl _ _).alloc (Nat.le_refl _) (.cells #[.int .u8 0] 5))); have HB7 : Hid (Below w6.heap.size w6 w7) := Lib.hid (((Below.refl _ w6).alloc (Nat.le_refl _) (.cells #[] 5)).trans (grow_bel HGE6.out (by simp) hg1)); clear hG1 hG1e hg1 hob1; skip)
            | (refine wpList_appO rfl (.tmp 86) (.tmp 87) rfl w6.heap.size v1 L 1 1 (some ⟨w7.heap.size, 0, none⟩) E (fun _ => 0) (w7.alloc (.cells #[.int .u8 0] 5)) rfl HG1.out rfl (fun e => by cases e) (one_byte (by decide)) (by have := HL.out; omega) (Nat.le_trans HB7.out.size (by simp)) ?_; intro v2 w8 hG2 hg2 hob2; obtain ⟨o2, c2, hv2, hBy2, hc2, _⟩ := hG2.bytesC (HCF.out); subst hv2; have HB8 : Hid (Below w6.heap.size w6 w8) := Lib.hid (HB7.out.trans (((Below.refl _ w7).alloc HB7.out.size (.cells #[.int .u8 0] 5)).trans (grow_bel HG1.out (Nat.le_trans HB7.out.size (by simp)) hg2))); have HBY2 := Lib.hid (And.intro hBy2 hc2); clear hG2 hg2 hob2 hBy2 hc2; skip)
            | (go_at_call 10; refine (HD2.out _ _ _ HBY2.out.1 HBY2.out.2).mono ?_; rintro e w9 ⟨rfl, hb9⟩))
          have hbA : Below w.heap.size w (w9.alloc (.cells #[.slice none 0 0] 26)) := ((HB6.out.trans (HB8.out.mono HB6.out.size)).trans (hb9.mono (Nat.le_trans HB6.out.size HB8.out.size))).trans ((Below.refl _ _).alloc (Nat.le_trans HB6.out.size (Nat.le_trans HB8.out.size hb9.size)) _)
          obtain ⟨wA, hwA⟩ : ∃ q, w9.alloc (.cells #[.slice none 0 0] 26) = q := ⟨_, rfl⟩
          rw [hwA] at hbA
          rw [hwA]
          have HBA := Lib.hid hbA
          clear hb9 hwA hbA
          by_cases hR : IsRing m B
          · obtain ⟨n2, hn2⟩ : ∃ q, B 2 = q := ⟨_, rfl⟩
            obtain ⟨S3, hS3⟩ : ∃ q, (fun i j => B (3 + 32 * i + j)) = q := ⟨_, rfl⟩
            have hn216 : 1 ≤ n2 ∧ n2 ≤ 16 ∧ m = 3 + 32 * n2 := by rw [← hn2]; exact ⟨hR.2.2.2.1, hR.2.2.2.2.1, hR.2.2.2.2.2⟩
            have hS3l : ∀ i j, i < n2 → j < 32 → S3 i j < 256 := fun i j hi hj => by rw [← hS3]; exact (HBY.out _ (by omega)).1
            have HD3 : Hid (∀ A, Below w.heap.size w A → Calls Tryd.prog 10 #[.slice ob m cb] A fun e w' => ∃ o c, e = .returned (.tuple #[.agg #[.slice o n2 c], .nilIface]) ∧ TL w' o n2 (fun i => i + 1) S3 ∧ Below A.heap.size A w') := Lib.hid fun A hA => by
              rw [← hn2, ← hS3]; exact dec_ok m cb ob B A (HBY.out.later hA) HN.out.1 (by omega) hR
            have HEN3 : Hid (∀ A o c, TL A o n2 (fun i => i + 1) S3 → Calls Tryd.prog 9 #[.agg #[.slice o n2 c]] A fun e w' => ∃ o c, e = .returned (.tuple #[.slice o m c, .nilIface]) ∧ Bytes w' o m (encF n2 S3) ∧ Below A.heap.size A w') := Lib.hid fun A o c hA =>
              (encode_ok n2 c o _ S3 A hA ⟨hn216.1, hn216.2.1, fun _ _ => rfl⟩ hS3l).mono fun e w' ⟨o, c, h1, h2, _, _, h5⟩ => by rw [← hn216.2.2] at h1 h2; exact ⟨o, c, h1, h2, h5⟩
            obtain ⟨ST, hST⟩ : ∃ q, strF m B = q := ⟨_, rfl⟩
            have HST : Hid (strF m (encF n2 S3) = ST ∧ strF m B = ST) := Lib.hid ⟨by
              rw [← hST]
              refine strF_congr fun q hq => ?_
              unfold encF
              by_cases e0 : q = 0
              · rw [if_pos e0, e0, hR.2.1]
              · rw [if_neg e0]
                by_cases e1 : q = 1
                · rw [if_pos e1, e1, hR.2.2.1]
                · rw [if_neg e1]
                  by_cases e2 : q = 2
                  · rw [if_pos e2, e2, hn2]
                  · rw [if_neg e2, ← hS3]; show B (3 + 32 * ((q - 3) / 32) + (q - 3) % 32) = B q; congr 1; omega, hST⟩
            have HM0 : Hid (m ≠ 0) := Lib.hid (by omega)
            clear hS3 hn2 hn216 hS3l hST hR
            go_upto_region 15 with (go_at_call 10; refine (HD3.out _ HBA.out).mono ?_; rintro e w10 ⟨o3, c3, rfl, hT3, hb10⟩)
            have hbB : Below w.heap.size w (w10.alloc (.cells #[.slice o3 n2 c3] 26)) := (HBA.out.trans (hb10.mono HBA.out.size)).trans ((Below.refl _ _).alloc (Nat.le_trans HBA.out.size hb10.size) _)
            have hT3' := hT3.later ((Below.refl w10.heap.size w10).alloc (Nat.le_refl _) (.cells #[.slice o3 n2 c3] 26))
            have hC : Blk (w10.alloc (.cells #[.slice o3 n2 c3] 26)) w10.heap.size #[.slice o3 n2 c3] 26 := Blk.new _ _ _
            obtain ⟨wB, hwB⟩ : ∃ q, w10.alloc (.cells #[.slice o3 n2 c3] 26) = q := ⟨_, rfl⟩
            obtain ⟨b17, hb17⟩ : ∃ q, w10.heap.size = q := ⟨_, rfl⟩
            rw [hwB] at hbB hT3' hC
            rw [hb17] at hC
            rw [hwB, hb17]
            have c17 : wB.cell? ⟨b17, 0, none⟩ = some (.slice o3 n2 c3) := by rw [Blk.cell hC]; rfl
            have HBB := Lib.hid hbB
            clear hT3 hb10 hbB hwB hb17 hC
            go_upto_region 16 with (go_at_call 9; refine (HEN3.out _ _ _ hT3').mono ?_; rintro e w11 ⟨o4, c4, rfl, hBy4, hb11⟩)
            have HWW : Hid (∀ A, Below w11.heap.size w11 A → Below w.heap.size w A) := Lib.hid fun A hA => (HBB.out.trans (hb11.mono HBB.out.size)).trans (hA.mono (Nat.le_trans HBB.out.size hb11.size))
            have HCV : Hid (∀ A, Below w11.heap.size w11 A → (convert 33 9 (.slice o4 m c4)).run Tryd.prog A = .ok (.string ST) A ∧ (convert 33 9 (.slice ob m cb)).run Tryd.prog A = .ok (.string ST) A) := Lib.hid fun A hA => by
              have hw := (HBB.out.trans (hb11.mono HBB.out.size)).trans (hA.mono (Nat.le_trans HBB.out.size hb11.size))
              refine ⟨?_, ?_⟩
              · have h9 := conv_any (cap := c4) (hBy4.later hA) (fun e => by obtain ⟨_, _, _, e2, _⟩ := hBy4 0 (by have := HM0.out; omega); rw [e] at e2; cases e2)
                rw [HST.out.1] at h9; exact h9
              · have h9 := conv_any (cap := cb) (HBY.out.later hw) HN.out.2.2.2.1
                rw [HST.out.2] at h9; exact h9
            clear hBy4 hb11 c17 hT3'
            have hvW0 : Below w11.heap.size w11 w11.drew := (Below.refl _ _).drew
            refine wp_region_held_drew (S := (Below w11.heap.size w11)) (by kernel_rfl) ?_ (fun hHeld => ?_)
            · (try dsimp only)
              (first | assumption | (dsimp only; assumption))
            generalize w11.drew = W0 at *
            refine wpAnyH_take (i := 0) (oi := { dst := some 102, op := Go.Op.move (Go.Operand.tmp 14), type := 29, pos := "law.go:141", after := #[], guard := none }) (v := ?_) rfl (by kernel_rfl) (by kernel_rfl) (by kernel_rfl) (fun _ _ _ h => h) (Or.inl ⟨by rfl, ?_⟩) (by assumption) ?_
            rotate_left
            · intro wS hSw
              (try dsimp only at hSw)
              go_simp
              (try with_reducible rfl)
            (try simp only [Act.put, List.setIfInBounds_toArray, List.set_cons_zero, List.set_cons_succ])
            refine wpAnyH_ready (rs := [1]) (by kernel_rfl) (by simp) ?_
            refine AllReadyH.cons (o := { dst := some 103, op := Go.Op.call { callee := Go.Callee.value (Go.Operand.func 8), args := #[Go.Operand.tmp 102], argTypes := #[29] }, type := 3, pos := "law.go:141", after := #[{ on := 0, ground := Go.Ground.data }], guard := none }) rfl (fun K hK => ?_) AllReadyH.nil
            go_simp
            (refine (HNU.out W0 (HWW.out _ hvW0)).mono ?_; rintro e V1 ⟨rfl, hbz⟩; have hvV1 := Below.trans hvW0 (hbz.mono (Below.size hvW0)); clear hbz; skip)
            (try go_wp2_with fail)
            refine hK.out _ _ ?_ (fun hHeld => ?_)
            · (try dsimp only)
              (first | assumption | (dsimp only; assumption))
            clear hK K
            (try simp only [Act.put, List.setIfInBounds_toArray, List.set_cons_zero, List.set_cons_succ])
            refine wpAnyH_take (i := 2) (oi := { dst := some 104, op := Go.Op.binOp Go.BinOp.eql 3 (Go.Operand.tmp 103) (Go.Operand.const (Go.Value.int Go.IntKind.i64 4)) 3, type := 4, pos := "law.go:141", after := #[{ on := 1, ground := Go.Ground.data }], guard := none }) (v := ?_) rfl (by kernel_rfl) (by kernel_rfl) (by kernel_rfl) (fun _ _ _ h => h) (Or.inl ⟨by rfl, ?_⟩) (by assumption) ?_
            rotate_left
            · intro wS hSw
              (try dsimp only at hSw)
              go_simp
              (try with_reducible rfl)
            (try simp only [Act.put, List.setIfInBounds_toArray, List.set_cons_zero, List.set_cons_succ])
            refine wpAnyH_take (i := 3) (oi := { dst := some 105, op := Go.Op.move (Go.Operand.tmp 104), type := 4, pos := "law.go:141", after := #[{ on := 2, ground := Go.Ground.data }, { on := 1, ground := Go.Ground.chain }], guard := none }) (v := ?_) rfl (by kernel_rfl) (by kernel_rfl) (by kernel_rfl) (fun _ _ _ h => h) (Or.inl ⟨by rfl, ?_⟩) (by assumption) ?_
            rotate_left
            · intro wS hSw
              (try dsimp only at hSw)
              go_simp
              (try with_reducible rfl)
            (try simp only [Act.put, List.setIfInBounds_toArray, List.set_cons_zero, List.set_cons_succ])
            refine wpAnyH_take (i := 4) (oi := { dst := some 106, op := Go.Op.move (Go.Operand.tmp 16), type := 29, pos := "law.go:141", after := #[{ on := 3, ground := Go.Ground.guard }], guard := some (3, true) }) (v := ?_) rfl (by kernel_rfl) (by kernel_rfl) (by kernel_rfl) (fun _ _ _ h => h) (Or.inl ⟨by rfl, ?_⟩) (by assumption) ?_
            rotate_left
            · intro wS hSw
              (try dsimp only at hSw)
              go_simp
              (try with_reducible rfl)
            (try simp only [Act.put, List.setIfInBounds_toArray, List.set_cons_zero, List.set_cons_succ])
            refine wpAnyH_ready (rs := [5]) (by kernel_rfl) (by simp) ?_
            refine AllReadyH.cons (o := { dst := some 107, op := Go.Op.call { callee := Go.Callee.value (Go.Operand.func 8), args := #[Go.Operand.tmp 106], argTypes := #[29] }, type := 3, pos := "law.go:141", after := #[{ on := 4, ground := Go.Ground.data }, { on := 3, ground := Go.Ground.chain }, { on := 3, ground := Go.Ground.guard }], guard := some (3, true) }) rfl (fun K hK => ?_) AllReadyH.nil
            go_simp
            (refine (HNU.out V1 (HWW.out _ hvV1)).mono ?_; rintro e V5 ⟨rfl, hbz⟩; have hvV5 := Below.trans hvV1 (hbz.mono (Below.size hvV1)); clear hbz; skip)
            (try go_wp2_with fail)
            refine hK.out _ _ ?_ (fun hHeld => ?_)
            · (try dsimp only)
              (first | assumption | (dsimp only; assumption))
            clear hK K
            (try simp only [Act.put, List.setIfInBounds_toArray, List.set_cons_zero, List.set_cons_succ])
            refine wpAnyH_take (i := 6) (oi := { dst := some 108, op := Go.Op.binOp Go.BinOp.eql 3 (Go.Operand.tmp 107) (Go.Operand.const (Go.Value.int Go.IntKind.i64 4)) 3, type := 4, pos := "law.go:141", after := #[{ on := 5, ground := Go.Ground.data }, { on := 3, ground := Go.Ground.guard }], guard := some (3, true) }) (v := ?_) rfl (by kernel_rfl) (by kernel_rfl) (by kernel_rfl) (fun _ _ _ h => h) (Or.inl ⟨by rfl, ?_⟩) (by assumption) ?_
            rotate_left
            · intro wS hSw
              (try dsimp only at hSw)
              go_simp
              (try with_reducible rfl)
            (try simp only [Act.put, List.setIfInBounds_toArray, List.set_cons_zero, List.set_cons_succ])
            refine wpAnyH_take (i := 7) (oi := { dst := some 109, op := Go.Op.pick (Go.Operand.tmp 105) (Go.Operand.tmp 108) (Go.Operand.const (Go.Value.bool false)), type := 4, pos := "law.go:141", after := #[{ on := 3, ground := Go.Ground.data }, { on := 6, ground := Go.Ground.data }], guard := none }) (v := ?_) rfl (by kernel_rfl) (by kernel_rfl) (by kernel_rfl) (fun _ _ _ h => h) (Or.inl ⟨by rfl, ?_⟩) (by assumption) ?_
            rotate_left
            · intro wS hSw
              (try dsimp only at hSw)
              go_simp
              (try with_reducible rfl)
            (try simp only [Act.put, List.setIfInBounds_toArray, List.set_cons_zero, List.set_cons_succ])
            refine wpAnyH_take (i := 8) (oi := { dst := some 110, op := Go.Op.move (Go.Operand.tmp 109), type := 4, pos := "law.go:141", after := #[{ on := 7, ground := Go.Ground.data }, { on := 5, ground := Go.Ground.chain }], guard := none }) (v := ?_) rfl (by kernel_rfl) (by kernel_rfl) (by kernel_rfl) (fun _ _ _ h => h) (Or.inl ⟨by rfl, ?_⟩) (by assumption) ?_
            rotate_left
            · intro wS hSw
              (try dsimp only at hSw)
              go_simp
              (try with_reducible rfl)
            (try simp only [Act.put, List.setIfInBounds_toArray, List.set_cons_zero, List.set_cons_succ])
            refine wpAnyH_take (i := 9) (oi := { dst := some 111, op := Go.Op.move (Go.Operand.tmp 18), type := 29, pos := "law.go:141", after := #[{ on := 8, ground := Go.Ground.guard }], guard := some (8, true) }) (v := ?_) rfl (by kernel_rfl) (by kernel_rfl) (by kernel_rfl) (fun _ _ _ h => h) (Or.inl ⟨by rfl, ?_⟩) (by assumption) ?_
            rotate_left
            · intro wS hSw
              (try dsimp only at hSw)
              go_simp
              (try with_reducible rfl)
            (try simp only [Act.put, List.setIfInBounds_toArray, List.set_cons_zero, List.set_cons_succ])
            refine wpAnyH_take (i := 10) (oi := { dst := some 112, op := Go.Op.binOp Go.BinOp.eql 29 (Go.Operand.tmp 111) (Go.Operand.const Go.Value.nilIface) 29, type := 4, pos := "law.go:141", after := #[{ on := 9, ground := Go.Ground.data }, { on := 8, ground := Go.Ground.guard }], guard := some (8, true) }) (v := ?_) rfl (by kernel_rfl) (by kernel_rfl) (by kernel_rfl) (fun _ _ _ h => h) (Or.inl ⟨by rfl, ?_⟩) (by assumption) ?_
            rotate_left
            · intro wS hSw
              (try dsimp only at hSw)
              go_simp
              (try with_reducible rfl)
            (try simp only [Act.put, List.setIfInBounds_toArray, List.set_cons_zero, List.set_cons_succ])
            refine wpAnyH_take (i := 11) (oi := { dst := some 113, op := Go.Op.move (Go.Operand.tmp 20), type := 29, pos := "law.go:141", after := #[{ on := 8, ground := Go.Ground.guard }], guard := some (8, true) }) (v := ?_) rfl (by kernel_rfl) (by kernel_rfl) (by kernel_rfl) (fun _ _ _ h => h) (Or.inl ⟨by rfl, ?_⟩) (by assumption) ?_
            rotate_left
            · intro wS hSw
              (try dsimp only at hSw)
              go_simp
              (try with_reducible rfl)
            (try simp only [Act.put, List.setIfInBounds_toArray, List.set_cons_zero, List.set_cons_succ])
            refine wpAnyH_take (i := 12) (oi := { dst := some 114, op := Go.Op.binOp Go.BinOp.eql 29 (Go.Operand.tmp 113) (Go.Operand.const Go.Value.nilIface) 29, type := 4, pos := "law.go:141", after := #[{ on := 11, ground := Go.Ground.data }, { on := 8, ground := Go.Ground.guard }], guard := some (8, true) }) (v := ?_) rfl (by kernel_rfl) (by kernel_rfl) (by kernel_rfl) (fun _ _ _ h => h) (Or.inl ⟨by rfl, ?_⟩) (by assumption) ?_
            rotate_left
            · intro wS hSw
              (try dsimp only at hSw)
              go_simp
              (try with_reducible rfl)
            (try simp only [Act.put, List.setIfInBounds_toArray, List.set_cons_zero, List.set_cons_succ])
            refine wpAnyH_take (i := 13) (oi := { dst := some 115, op := Go.Op.binOp Go.BinOp.eql 4 (Go.Operand.tmp 112) (Go.Operand.tmp 114) 4, type := 4, pos := "law.go:141", after := #[{ on := 10, ground := Go.Ground.data }, { on := 12, ground := Go.Ground.data }, { on := 8, ground := Go.Ground.guard }], guard := some (8, true) }) (v := ?_) rfl (by kernel_rfl) (by kernel_rfl) (by kernel_rfl) (fun _ _ _ h => h) (Or.inl ⟨by rfl, ?_⟩) (by assumption) ?_
            rotate_left
            · intro wS hSw
              (try dsimp only at hSw)
              go_simp
              (try with_reducible rfl)
            (try simp only [Act.put, List.setIfInBounds_toArray, List.set_cons_zero, List.set_cons_succ])
            refine wpAnyH_take (i := 14) (oi := { dst := some 116, op := Go.Op.pick (Go.Operand.tmp 110) (Go.Operand.tmp 115) (Go.Operand.const (Go.Value.bool false)), type := 4, pos := "law.go:141", after := #[{ on := 8, ground := Go.Ground.data }, { on := 13, ground := Go.Ground.data }], guard := none }) (v := ?_) rfl (by kernel_rfl) (by kernel_rfl) (by kernel_rfl) (fun _ _ _ h => h) (Or.inl ⟨by rfl, ?_⟩) (by assumption) ?_
            rotate_left
            · intro wS hSw
              (try dsimp only at hSw)
              go_simp
              (try with_reducible rfl)
            (try simp only [Act.put, List.setIfInBounds_toArray, List.set_cons_zero, List.set_cons_succ])
            refine wpAnyH_take (i := 15) (oi := { dst := some 117, op := Go.Op.move (Go.Operand.tmp 116), type := 4, pos := "law.go:141", after := #[{ on := 14, ground := Go.Ground.data }, { on := 8, ground := Go.Ground.chain }], guard := none }) (v := ?_) rfl (by kernel_rfl) (by kernel_rfl) (by kernel_rfl) (fun _ _ _ h => h) (Or.inl ⟨by rfl, ?_⟩) (by assumption) ?_
            rotate_left
            · intro wS hSw
              (try dsimp only at hSw)
              go_simp
              (try with_reducible rfl)
            (try simp only [Act.put, List.setIfInBounds_toArray, List.set_cons_zero, List.set_cons_succ])
            refine wpAnyH_take (i := 16) (oi := { dst := some 118, op := Go.Op.move (Go.Operand.tmp 18), type := 29, pos := "law.go:141", after := #[{ on := 15, ground := Go.Ground.guard }], guard := some (15, true) }) (v := ?_) rfl (by kernel_rfl) (by kernel_rfl) (by kernel_rfl) (fun _ _ _ h => h) (Or.inl ⟨by rfl, ?_⟩) (by assumption) ?_
            rotate_left
            · intro wS hSw
              (try dsimp only at hSw)
              go_simp
              (try with_reducible rfl)
            (try simp only [Act.put, List.setIfInBounds_toArray, List.set_cons_zero, List.set_cons_succ])
            refine wpAnyH_take (i := 17) (oi := { dst := some 119, op := Go.Op.binOp Go.BinOp.neq 29 (Go.Operand.tmp 118) (Go.Operand.const Go.Value.nilIface) 29, type := 4, pos := "law.go:141", after := #[{ on := 16, ground := Go.Ground.data }, { on := 15, ground := Go.Ground.guard }], guard := some (15, true) }) (v := ?_) rfl (by kernel_rfl) (by kernel_rfl) (by kernel_rfl) (fun _ _ _ h => h) (Or.inl ⟨by rfl, ?_⟩) (by assumption) ?_
            rotate_left
            · intro wS hSw
              (try dsimp only at hSw)
              go_simp
              (try with_reducible rfl)
            (try simp only [Act.put, List.setIfInBounds_toArray, List.set_cons_zero, List.set_cons_succ])
            refine wpAnyH_take (i := 18) (oi := { dst := some 120, op := Go.Op.move (Go.Operand.tmp 119), type := 4, pos := "law.go:141", after := #[{ on := 17, ground := Go.Ground.data }, { on := 15, ground := Go.Ground.chain }, { on := 15, ground := Go.Ground.guard }], guard := some (15, true) }) (v := ?_) rfl (by kernel_rfl) (by kernel_rfl) (by kernel_rfl) (fun _ _ _ h => h) (Or.inl ⟨by rfl, ?_⟩) (by assumption) ?_
            rotate_left
            · intro wS hSw
              (try dsimp only at hSw)
              go_simp
              (try with_reducible rfl)
            (try simp only [Act.put, List.setIfInBounds_toArray, List.set_cons_zero, List.set_cons_succ])
            refine wpAnyH_take (i := 19) (oi := { dst := some 121, op := Go.Op.move (Go.Operand.tmp 19), type := 33, pos := "law.go:141", after := #[{ on := 18, ground := Go.Ground.guard }], guard := some (18, false) }) (v := ?_) rfl (by kernel_rfl) (by kernel_rfl) (by kernel_rfl) (fun _ _ _ h => h) (Or.inl ⟨by rfl, ?_⟩) (by assumption) ?_
            rotate_left
            · intro wS hSw
              (try dsimp only at hSw)
              go_simp
              (try with_reducible rfl)
            (try simp only [Act.put, List.setIfInBounds_toArray, List.set_cons_zero, List.set_cons_succ])
            refine wpAnyH_take (i := 20) (oi := { dst := some 122, op := Go.Op.convert 33 9 (Go.Operand.tmp 121), type := 9, pos := "law.go:141", after := #[{ on := 19, ground := Go.Ground.data }, { on := 18, ground := Go.Ground.guard }], guard := some (18, false) }) (v := ?_) rfl (by kernel_rfl) (by kernel_rfl) (by kernel_rfl) (fun _ _ _ h => h) (Or.inl ⟨by rfl, ?_⟩) (by assumption) ?_
            rotate_left
            · intro wS hSw
              (have cv := (HCV.out wS hSw).1; go_simp; (try with_reducible rfl))
            (try simp only [Act.put, List.setIfInBounds_toArray, List.set_cons_zero, List.set_cons_succ])
            refine wpAnyH_take (i := 21) (oi := { dst := some 123, op := Go.Op.move (Go.Operand.tmp 2), type := 33, pos := "law.go:141", after := #[{ on := 18, ground := Go.Ground.guard }], guard := some (18, false) }) (v := ?_) rfl (by kernel_rfl) (by kernel_rfl) (by kernel_rfl) (fun _ _ _ h => h) (Or.inl ⟨by rfl, ?_⟩) (by assumption) ?_
            rotate_left
            · intro wS hSw
              (try dsimp only at hSw)
              go_simp
              (try with_reducible rfl)
            (try simp only [Act.put, List.setIfInBounds_toArray, List.set_cons_zero, List.set_cons_succ])
            refine wpAnyH_take (i := 22) (oi := { dst := some 124, op := Go.Op.convert 33 9 (Go.Operand.tmp 123), type := 9, pos := "law.go:141", after := #[{ on := 21, ground := Go.Ground.data }, { on := 18, ground := Go.Ground.guard }], guard := some (18, false) }) (v := ?_) rfl (by kernel_rfl) (by kernel_rfl) (by kernel_rfl) (fun _ _ _ h => h) (Or.inl ⟨by rfl, ?_⟩) (by assumption) ?_
            rotate_left
            · intro wS hSw
              (have cv := (HCV.out wS hSw).2; go_simp; (try with_reducible rfl))
            (try simp only [Act.put, List.setIfInBounds_toArray, List.set_cons_zero, List.set_cons_succ])
            refine wpAnyH_take (i := 23) (oi := { dst := some 125, op := Go.Op.binOp Go.BinOp.eql 9 (Go.Operand.tmp 122) (Go.Operand.tmp 124) 9, type := 4, pos := "law.go:141", after := #[{ on := 20, ground := Go.Ground.data }, { on := 22, ground := Go.Ground.data }, { on := 18, ground := Go.Ground.guard }], guard := some (18, false) }) (v := ?_) rfl (by kernel_rfl) (by kernel_rfl) (by kernel_rfl) (fun _ _ _ h => h) (Or.inl ⟨by rfl, ?_⟩) (by assumption) ?_
            rotate_left
            · intro wS hSw
              (try dsimp only at hSw)
              go_simp
              (try with_reducible rfl)
            (try simp only [Act.put, List.setIfInBounds_toArray, List.set_cons_zero, List.set_cons_succ])
            refine wpAnyH_take (i := 24) (oi := { dst := some 126, op := Go.Op.pick (Go.Operand.tmp 120) (Go.Operand.const (Go.Value.bool true)) (Go.Operand.tmp 125), type := 4, pos := "law.go:141", after := #[{ on := 18, ground := Go.Ground.data }, { on := 23, ground := Go.Ground.data }, { on := 15, ground := Go.Ground.guard }], guard := some (15, true) }) (v := ?_) rfl (by kernel_rfl) (by kernel_rfl) (by kernel_rfl) (fun _ _ _ h => h) (Or.inl ⟨by rfl, ?_⟩) (by assumption) ?_
            rotate_left
            · intro wS hSw
              (try dsimp only at hSw)
              go_simp
              (try with_reducible rfl)
            (try simp only [Act.put, List.setIfInBounds_toArray, List.set_cons_zero, List.set_cons_succ])
            refine wpAnyH_take (i := 25) (oi := { dst := some 127, op := Go.Op.pick (Go.Operand.tmp 117) (Go.Operand.tmp 126) (Go.Operand.const (Go.Value.bool false)), type := 4, pos := "law.go:141", after := #[{ on := 15, ground := Go.Ground.data }, { on := 24, ground := Go.Ground.data }], guard := none }) (v := ?_) rfl (by kernel_rfl) (by kernel_rfl) (by kernel_rfl) (fun _ _ _ h => h) (Or.inl ⟨by rfl, ?_⟩) (by assumption) ?_
            rotate_left
            · intro wS hSw
              (try dsimp only at hSw)
              go_simp
              (try with_reducible rfl)
            (try simp only [Act.put, List.setIfInBounds_toArray, List.set_cons_zero, List.set_cons_succ])
            refine wpAnyH_take (i := 26) (oi := { dst := some 128, op := Go.Op.move (Go.Operand.tmp 127), type := 4, pos := "law.go:141", after := #[{ on := 25, ground := Go.Ground.data }, { on := 18, ground := Go.Ground.chain }], guard := none }) (v := ?_) rfl (by kernel_rfl) (by kernel_rfl) (by kernel_rfl) (fun _ _ _ h => h) (Or.inl ⟨by rfl, ?_⟩) (by assumption) ?_
            rotate_left
            · intro wS hSw
              (try dsimp only at hSw)
              go_simp
              (try with_reducible rfl)
            (try simp only [Act.put, List.setIfInBounds_toArray, List.set_cons_zero, List.set_cons_succ])
            refine wpAnyH_ready (rs := [27]) (by kernel_rfl) (by simp) ?_
            refine AllReadyH.cons (o := { dst := some 129, op := Go.Op.call { callee := Go.Callee.value (Go.Operand.func 12), args := #[], argTypes := #[] }, type := 4, pos := "law.go:141", after := #[{ on := 26, ground := Go.Ground.chain }, { on := 26, ground := Go.Ground.guard }], guard := some (26, true) }) rfl (fun K hK => ?_) AllReadyH.nil
            go_simp
            (refine (HSU.out V5 (HWW.out _ hvV5)).mono ?_; rintro e V27 ⟨rfl, hbz⟩; have hvV27 := Below.trans hvV5 (hbz.mono (Below.size hvV5)); clear hbz; skip)
            (try go_wp2_with fail)
            refine hK.out _ _ ?_ (fun hHeld => ?_)
            · (try dsimp only)
              (first | assumption | (dsimp only; assumption))
            clear hK K
            (try simp only [Act.put, List.setIfInBounds_toArray, List.set_cons_zero, List.set_cons_succ])
            refine wpAnyH_take (i := 28) (oi := { dst := some 130, op := Go.Op.pick (Go.Operand.tmp 128) (Go.Operand.tmp 129) (Go.Operand.const (Go.Value.bool false)), type := 4, pos := "law.go:141", after := #[{ on := 26, ground := Go.Ground.data }, { on := 27, ground := Go.Ground.data }], guard := none }) (v := ?_) rfl (by kernel_rfl) (by kernel_rfl) (by kernel_rfl) (fun _ _ _ h => h) (Or.inl ⟨by rfl, ?_⟩) (by assumption) ?_
            rotate_left
            · intro wS hSw
              (try dsimp only at hSw)
              go_simp
              (try with_reducible rfl)
            (try simp only [Act.put, List.setIfInBounds_toArray, List.set_cons_zero, List.set_cons_succ])
            refine wpAnyH_take (i := 29) (oi := { dst := some 6, op := Go.Op.assign (Go.Operand.tmp 130), type := 4, pos := "law.go:141", after := #[{ on := 28, ground := Go.Ground.data }, { on := 27, ground := Go.Ground.chain }, { on := 0, ground := Go.Ground.phase }, { on := 1, ground := Go.Ground.phase }, { on := 2, ground := Go.Ground.phase }, { on := 3, ground := Go.Ground.phase }, { on := 4, ground := Go.Ground.phase }, { on := 5, ground := Go.Ground.phase }, { on := 6, ground := Go.Ground.phase }, { on := 7, ground := Go.Ground.phase }, { on := 8, ground := Go.Ground.phase }, { on := 9, ground := Go.Ground.phase }, { on := 10, ground := Go.Ground.phase }, { on := 11, ground := Go.Ground.phase }, { on := 12, ground := Go.Ground.phase }, { on := 13, ground := Go.Ground.phase }, { on := 14, ground := Go.Ground.phase }, { on := 15, ground := Go.Ground.phase }, { on := 16, ground := Go.Ground.phase }, { on := 17, ground := Go.Ground.phase }, { on := 18, ground := Go.Ground.phase }, { on := 19, ground := Go.Ground.phase }, { on := 20, ground := Go.Ground.phase }, { on := 21, ground := Go.Ground.phase }, { on := 22, ground := Go.Ground.phase }, { on := 23, ground := Go.Ground.phase }, { on := 24, ground := Go.Ground.phase }, { on := 25, ground := Go.Ground.phase }, { on := 26, ground := Go.Ground.phase }, { on := 27, ground := Go.Ground.phase }, { on := 28, ground := Go.Ground.phase }], guard := none }) (v := ?_) rfl (by kernel_rfl) (by kernel_rfl) (by kernel_rfl) (fun _ _ _ h => h) (Or.inl ⟨by rfl, ?_⟩) (by assumption) ?_
            rotate_left
            · intro wS hSw
              (try dsimp only at hSw)
              go_simp
              (try with_reducible rfl)
            (try simp only [Act.put, List.setIfInBounds_toArray, List.set_cons_zero, List.set_cons_succ])
            refine wpAnyH_done (by kernel_rfl) ?_ _
            go_wp2_with fail
            go_ret
            exact ⟨rfl, HWW.out _ hvV27⟩
          · have HD3 : Hid (∀ A, Below w.heap.size w A → Calls Tryd.prog 10 #[.slice ob m cb] A fun e w' => e = .returned (.tuple #[.agg #[.slice none 0 0], .iface 64 (.int .i64 4)]) ∧ Below A.heap.size A w') := Lib.hid fun A hA => dec_no m cb ob B A (HBY.out.later hA) HN.out.1 (by omega) hR
            clear hR
            go_upto_region 15 with (go_at_call 10; refine (HD3.out _ HBA.out).mono ?_; rintro e w10 ⟨rfl, hb10⟩)
            have hbB : Below w.heap.size w (w10.alloc (.cells #[.slice none 0 0] 26)) := (HBA.out.trans (hb10.mono HBA.out.size)).trans ((Below.refl _ _).alloc (Nat.le_trans HBA.out.size hb10.size) _)
            have hC : Blk (w10.alloc (.cells #[.slice none 0 0] 26)) w10.heap.size #[.slice none 0 0] 26 := Blk.new _ _ _
            obtain ⟨wB, hwB⟩ : ∃ q, w10.alloc (.cells #[.slice none 0 0] 26) = q := ⟨_, rfl⟩
            obtain ⟨b17, hb17⟩ : ∃ q, w10.heap.size = q := ⟨_, rfl⟩
            rw [hwB] at hbB hC
            rw [hb17] at hC
            rw [hwB, hb17]
            have c17 : wB.cell? ⟨b17, 0, none⟩ = some (.slice none 0 0) := by rw [Blk.cell hC]; rfl
            have HBB := Lib.hid hbB
            clear hb10 hbB hwB hb17 hC
            go_upto_region 16 with (go_at_call 9; refine (encode_nil _).mono ?_; rintro e w11 ⟨rfl, hb11⟩)
            have HWW : Hid (∀ A, Below w11.heap.size w11 A → Below w.heap.size w A) := Lib.hid fun A hA => (HBB.out.trans (hb11.mono HBB.out.size)).trans (hA.mono (Nat.le_trans HBB.out.size hb11.size))
            clear hb11 c17
            have hvW0 : Below w11.heap.size w11 w11.drew := (Below.refl _ _).drew
            refine wp_region_held_drew (S := (Below w11.heap.size w11)) (by kernel_rfl) ?_ (fun hHeld => ?_)
            · (try dsimp only)
              (first | assumption | (dsimp only; assumption))
            generalize w11.drew = W0 at *
            refine wpAnyH_take (i := 0) (oi := { dst := some 102, op := Go.Op.move (Go.Operand.tmp 14), type := 29, pos := "law.go:141", after := #[], guard := none }) (v := ?_) rfl (by kernel_rfl) (by kernel_rfl) (by kernel_rfl) (fun _ _ _ h => h) (Or.inl ⟨by rfl, ?_⟩) (by assumption) ?_
            rotate_left
            · intro wS hSw
              (try dsimp only at hSw)
              go_simp
              (try with_reducible rfl)
            (try simp only [Act.put, List.setIfInBounds_toArray, List.set_cons_zero, List.set_cons_succ])
            refine wpAnyH_ready (rs := [1]) (by kernel_rfl) (by simp) ?_
            refine AllReadyH.cons (o := { dst := some 103, op := Go.Op.call { callee := Go.Callee.value (Go.Operand.func 8), args := #[Go.Operand.tmp 102], argTypes := #[29] }, type := 3, pos := "law.go:141", after := #[{ on := 0, ground := Go.Ground.data }], guard := none }) rfl (fun K hK => ?_) AllReadyH.nil
            go_simp
            (refine (HNU.out W0 (HWW.out _ hvW0)).mono ?_; rintro e V1 ⟨rfl, hbz⟩; have hvV1 := Below.trans hvW0 (hbz.mono (Below.size hvW0)); clear hbz; skip)
            (try go_wp2_with fail)
            refine hK.out _ _ ?_ (fun hHeld => ?_)
            · (try dsimp only)
              (first | assumption | (dsimp only; assumption))
            clear hK K
            (try simp only [Act.put, List.setIfInBounds_toArray, List.set_cons_zero, List.set_cons_succ])
            refine wpAnyH_take (i := 2) (oi := { dst := some 104, op := Go.Op.binOp Go.BinOp.eql 3 (Go.Operand.tmp 103) (Go.Operand.const (Go.Value.int Go.IntKind.i64 4)) 3, type := 4, pos := "law.go:141", after := #[{ on := 1, ground := Go.Ground.data }], guard := none }) (v := ?_) rfl (by kernel_rfl) (by kernel_rfl) (by kernel_rfl) (fun _ _ _ h => h) (Or.inl ⟨by rfl, ?_⟩) (by assumption) ?_
            rotate_left
            · intro wS hSw
              (try dsimp only at hSw)
              go_simp
              (try with_reducible rfl)
            (try simp only [Act.put, List.setIfInBounds_toArray, List.set_cons_zero, List.set_cons_succ])
            refine wpAnyH_take (i := 3) (oi := { dst := some 105, op := Go.Op.move (Go.Operand.tmp 104), type := 4, pos := "law.go:141", after := #[{ on := 2, ground := Go.Ground.data }, { on := 1, ground := Go.Ground.chain }], guard := none }) (v := ?_) rfl (by kernel_rfl) (by kernel_rfl) (by kernel_rfl) (fun _ _ _ h => h) (Or.inl ⟨by rfl, ?_⟩) (by assumption) ?_
            rotate_left
            · intro wS hSw
              (try dsimp only at hSw)
              go_simp
              (try with_reducible rfl)
            (try simp only [Act.put, List.setIfInBounds_toArray, List.set_cons_zero, List.set_cons_succ])
            refine wpAnyH_take (i := 4) (oi := { dst := some 106, op := Go.Op.move (Go.Operand.tmp 16), type := 29, pos := "law.go:141", after := #[{ on := 3, ground := Go.Ground.guard }], guard := some (3, true) }) (v := ?_) rfl (by kernel_rfl) (by kernel_rfl) (by kernel_rfl) (fun _ _ _ h => h) (Or.inl ⟨by rfl, ?_⟩) (by assumption) ?_
            rotate_left
            · intro wS hSw
              (try dsimp only at hSw)
              go_simp
              (try with_reducible rfl)
            (try simp only [Act.put, List.setIfInBounds_toArray, List.set_cons_zero, List.set_cons_succ])
            refine wpAnyH_ready (rs := [5]) (by kernel_rfl) (by simp) ?_
            refine AllReadyH.cons (o := { dst := some 107, op := Go.Op.call { callee := Go.Callee.value (Go.Operand.func 8), args := #[Go.Operand.tmp 106], argTypes := #[29] }, type := 3, pos := "law.go:141", after := #[{ on := 4, ground := Go.Ground.data }, { on := 3, ground := Go.Ground.chain }, { on := 3, ground := Go.Ground.guard }], guard := some (3, true) }) rfl (fun K hK => ?_) AllReadyH.nil
            go_simp
            (refine (HNU.out V1 (HWW.out _ hvV1)).mono ?_; rintro e V5 ⟨rfl, hbz⟩; have hvV5 := Below.trans hvV1 (hbz.mono (Below.size hvV1)); clear hbz; skip)
            (try go_wp2_with fail)
            refine hK.out _ _ ?_ (fun hHeld => ?_)
            · (try dsimp only)
              (first | assumption | (dsimp only; assumption))
            clear hK K
            (try simp only [Act.put, List.setIfInBounds_toArray, List.set_cons_zero, List.set_cons_succ])
            refine wpAnyH_take (i := 6) (oi := { dst := some 108, op := Go.Op.binOp Go.BinOp.eql 3 (Go.Operand.tmp 107) (Go.Operand.const (Go.Value.int Go.IntKind.i64 4)) 3, type := 4, pos := "law.go:141", after := #[{ on := 5, ground := Go.Ground.data }, { on := 3, ground := Go.Ground.guard }], guard := some (3, true) }) (v := ?_) rfl (by kernel_rfl) (by kernel_rfl) (by kernel_rfl) (fun _ _ _ h => h) (Or.inl ⟨by rfl, ?_⟩) (by assumption) ?_
            rotate_left
            · intro wS hSw
              (try dsimp only at hSw)
              go_simp
              (try with_reducible rfl)
            (try simp only [Act.put, List.setIfInBounds_toArray, List.set_cons_zero, List.set_cons_succ])
            refine wpAnyH_take (i := 7) (oi := { dst := some 109, op := Go.Op.pick (Go.Operand.tmp 105) (Go.Operand.tmp 108) (Go.Operand.const (Go.Value.bool false)), type := 4, pos := "law.go:141", after := #[{ on := 3, ground := Go.Ground.data }, { on := 6, ground := Go.Ground.data }], guard := none }) (v := ?_) rfl (by kernel_rfl) (by kernel_rfl) (by kernel_rfl) (fun _ _ _ h => h) (Or.inl ⟨by rfl, ?_⟩) (by assumption) ?_
            rotate_left
            · intro wS hSw
              (try dsimp only at hSw)
              go_simp
              (try with_reducible rfl)
            (try simp only [Act.put, List.setIfInBounds_toArray, List.set_cons_zero, List.set_cons_succ])
            refine wpAnyH_take (i := 8) (oi := { dst := some 110, op := Go.Op.move (Go.Operand.tmp 109), type := 4, pos := "law.go:141", after := #[{ on := 7, ground := Go.Ground.data }, { on := 5, ground := Go.Ground.chain }], guard := none }) (v := ?_) rfl (by kernel_rfl) (by kernel_rfl) (by kernel_rfl) (fun _ _ _ h => h) (Or.inl ⟨by rfl, ?_⟩) (by assumption) ?_
            rotate_left
            · intro wS hSw
              (try dsimp only at hSw)
              go_simp
              (try with_reducible rfl)
            (try simp only [Act.put, List.setIfInBounds_toArray, List.set_cons_zero, List.set_cons_succ])
            refine wpAnyH_take (i := 9) (oi := { dst := some 111, op := Go.Op.move (Go.Operand.tmp 18), type := 29, pos := "law.go:141", after := #[{ on := 8, ground := Go.Ground.guard }], guard := some (8, true) }) (v := ?_) rfl (by kernel_rfl) (by kernel_rfl) (by kernel_rfl) (fun _ _ _ h => h) (Or.inl ⟨by rfl, ?_⟩) (by assumption) ?_
            rotate_left
            · intro wS hSw
              (try dsimp only at hSw)
              go_simp
              (try with_reducible rfl)
            (try simp only [Act.put, List.setIfInBounds_toArray, List.set_cons_zero, List.set_cons_succ])
            refine wpAnyH_take (i := 10) (oi := { dst := some 112, op := Go.Op.binOp Go.BinOp.eql 29 (Go.Operand.tmp 111) (Go.Operand.const Go.Value.nilIface) 29, type := 4, pos := "law.go:141", after := #[{ on := 9, ground := Go.Ground.data }, { on := 8, ground := Go.Ground.guard }], guard := some (8, true) }) (v := ?_) rfl (by kernel_rfl) (by kernel_rfl) (by kernel_rfl) (fun _ _ _ h => h) (Or.inl ⟨by rfl, ?_⟩) (by assumption) ?_
            rotate_left
            · intro wS hSw
              (try dsimp only at hSw)
              go_simp
              (try with_reducible rfl)
            (try simp only [Act.put, List.setIfInBounds_toArray, List.set_cons_zero, List.set_cons_succ])
            refine wpAnyH_take (i := 11) (oi := { dst := some 113, op := Go.Op.move (Go.Operand.tmp 20), type := 29, pos := "law.go:141", after := #[{ on := 8, ground := Go.Ground.guard }], guard := some (8, true) }) (v := ?_) rfl (by kernel_rfl) (by kernel_rfl) (by kernel_rfl) (fun _ _ _ h => h) (Or.inl ⟨by rfl, ?_⟩) (by assumption) ?_
            rotate_left
            · intro wS hSw
              (try dsimp only at hSw)
              go_simp
              (try with_reducible rfl)
            (try simp only [Act.put, List.setIfInBounds_toArray, List.set_cons_zero, List.set_cons_succ])
            refine wpAnyH_take (i := 12) (oi := { dst := some 114, op := Go.Op.binOp Go.BinOp.eql 29 (Go.Operand.tmp 113) (Go.Operand.const Go.Value.nilIface) 29, type := 4, pos := "law.go:141", after := #[{ on := 11, ground := Go.Ground.data }, { on := 8, ground := Go.Ground.guard }], guard := some (8, true) }) (v := ?_) rfl (by kernel_rfl) (by kernel_rfl) (by kernel_rfl) (fun _ _ _ h => h) (Or.inl ⟨by rfl, ?_⟩) (by assumption) ?_
            rotate_left
            · intro wS hSw
              (try dsimp only at hSw)
              go_simp
              (try with_reducible rfl)
            (try simp only [Act.put, List.setIfInBounds_toArray, List.set_cons_zero, List.set_cons_succ])
            refine wpAnyH_take (i := 13) (oi := { dst := some 115, op := Go.Op.binOp Go.BinOp.eql 4 (Go.Operand.tmp 112) (Go.Operand.tmp 114) 4, type := 4, pos := "law.go:141", after := #[{ on := 10, ground := Go.Ground.data }, { on := 12, ground := Go.Ground.data }, { on := 8, ground := Go.Ground.guard }], guard := some (8, true) }) (v := ?_) rfl (by kernel_rfl) (by kernel_rfl) (by kernel_rfl) (fun _ _ _ h => h) (Or.inl ⟨by rfl, ?_⟩) (by assumption) ?_
            rotate_left
            · intro wS hSw
              (try dsimp only at hSw)
              go_simp
              (try with_reducible rfl)
            (try simp only [Act.put, List.setIfInBounds_toArray, List.set_cons_zero, List.set_cons_succ])
            refine wpAnyH_take (i := 14) (oi := { dst := some 116, op := Go.Op.pick (Go.Operand.tmp 110) (Go.Operand.tmp 115) (Go.Operand.const (Go.Value.bool false)), type := 4, pos := "law.go:141", after := #[{ on := 8, ground := Go.Ground.data }, { on := 13, ground := Go.Ground.data }], guard := none }) (v := ?_) rfl (by kernel_rfl) (by kernel_rfl) (by kernel_rfl) (fun _ _ _ h => h) (Or.inl ⟨by rfl, ?_⟩) (by assumption) ?_
            rotate_left
            · intro wS hSw
              (try dsimp only at hSw)
              go_simp
              (try with_reducible rfl)
            (try simp only [Act.put, List.setIfInBounds_toArray, List.set_cons_zero, List.set_cons_succ])
            refine wpAnyH_take (i := 15) (oi := { dst := some 117, op := Go.Op.move (Go.Operand.tmp 116), type := 4, pos := "law.go:141", after := #[{ on := 14, ground := Go.Ground.data }, { on := 8, ground := Go.Ground.chain }], guard := none }) (v := ?_) rfl (by kernel_rfl) (by kernel_rfl) (by kernel_rfl) (fun _ _ _ h => h) (Or.inl ⟨by rfl, ?_⟩) (by assumption) ?_
            rotate_left
            · intro wS hSw
              (try dsimp only at hSw)
              go_simp
              (try with_reducible rfl)
            (try simp only [Act.put, List.setIfInBounds_toArray, List.set_cons_zero, List.set_cons_succ])
            refine wpAnyH_take (i := 16) (oi := { dst := some 118, op := Go.Op.move (Go.Operand.tmp 18), type := 29, pos := "law.go:141", after := #[{ on := 15, ground := Go.Ground.guard }], guard := some (15, true) }) (v := ?_) rfl (by kernel_rfl) (by kernel_rfl) (by kernel_rfl) (fun _ _ _ h => h) (Or.inl ⟨by rfl, ?_⟩) (by assumption) ?_
            rotate_left
            · intro wS hSw
              (try dsimp only at hSw)
              go_simp
              (try with_reducible rfl)
            (try simp only [Act.put, List.setIfInBounds_toArray, List.set_cons_zero, List.set_cons_succ])
            refine wpAnyH_take (i := 17) (oi := { dst := some 119, op := Go.Op.binOp Go.BinOp.neq 29 (Go.Operand.tmp 118) (Go.Operand.const Go.Value.nilIface) 29, type := 4, pos := "law.go:141", after := #[{ on := 16, ground := Go.Ground.data }, { on := 15, ground := Go.Ground.guard }], guard := some (15, true) }) (v := ?_) rfl (by kernel_rfl) (by kernel_rfl) (by kernel_rfl) (fun _ _ _ h => h) (Or.inl ⟨by rfl, ?_⟩) (by assumption) ?_
            rotate_left
            · intro wS hSw
              (try dsimp only at hSw)
              go_simp
              (try with_reducible rfl)
            (try simp only [Act.put, List.setIfInBounds_toArray, List.set_cons_zero, List.set_cons_succ])
            refine wpAnyH_take (i := 18) (oi := { dst := some 120, op := Go.Op.move (Go.Operand.tmp 119), type := 4, pos := "law.go:141", after := #[{ on := 17, ground := Go.Ground.data }, { on := 15, ground := Go.Ground.chain }, { on := 15, ground := Go.Ground.guard }], guard := some (15, true) }) (v := ?_) rfl (by kernel_rfl) (by kernel_rfl) (by kernel_rfl) (fun _ _ _ h => h) (Or.inl ⟨by rfl, ?_⟩) (by assumption) ?_
            rotate_left
            · intro wS hSw
              (try dsimp only at hSw)
              go_simp
              (try with_reducible rfl)
            (try simp only [Act.put, List.setIfInBounds_toArray, List.set_cons_zero, List.set_cons_succ])
            refine wpAnyH_take (i := 19) (oi := { dst := some 121, op := Go.Op.move (Go.Operand.tmp 19), type := 33, pos := "law.go:141", after := #[{ on := 18, ground := Go.Ground.guard }], guard := some (18, false) }) (v := undef) rfl (by kernel_rfl) (by kernel_rfl) (by kernel_rfl) (fun _ _ _ h => h) (Or.inr ⟨by rfl, rfl⟩) (by assumption) ?_
            (try simp only [Act.put, List.setIfInBounds_toArray, List.set_cons_zero, List.set_cons_succ])
            refine wpAnyH_take (i := 20) (oi := { dst := some 122, op := Go.Op.convert 33 9 (Go.Operand.tmp 121), type := 9, pos := "law.go:141", after := #[{ on := 19, ground := Go.Ground.data }, { on := 18, ground := Go.Ground.guard }], guard := some (18, false) }) (v := undef) rfl (by kernel_rfl) (by kernel_rfl) (by kernel_rfl) (fun _ _ _ h => h) (Or.inr ⟨by rfl, rfl⟩) (by assumption) ?_
            (try simp only [Act.put, List.setIfInBounds_toArray, List.set_cons_zero, List.set_cons_succ])
            refine wpAnyH_take (i := 21) (oi := { dst := some 123, op := Go.Op.move (Go.Operand.tmp 2), type := 33, pos := "law.go:141", after := #[{ on := 18, ground := Go.Ground.guard }], guard := some (18, false) }) (v := undef) rfl (by kernel_rfl) (by kernel_rfl) (by kernel_rfl) (fun _ _ _ h => h) (Or.inr ⟨by rfl, rfl⟩) (by assumption) ?_
            (try simp only [Act.put, List.setIfInBounds_toArray, List.set_cons_zero, List.set_cons_succ])
            refine wpAnyH_take (i := 22) (oi := { dst := some 124, op := Go.Op.convert 33 9 (Go.Operand.tmp 123), type := 9, pos := "law.go:141", after := #[{ on := 21, ground := Go.Ground.data }, { on := 18, ground := Go.Ground.guard }], guard := some (18, false) }) (v := undef) rfl (by kernel_rfl) (by kernel_rfl) (by kernel_rfl) (fun _ _ _ h => h) (Or.inr ⟨by rfl, rfl⟩) (by assumption) ?_
            (try simp only [Act.put, List.setIfInBounds_toArray, List.set_cons_zero, List.set_cons_succ])
            refine wpAnyH_take (i := 23) (oi := { dst := some 125, op := Go.Op.binOp Go.BinOp.eql 9 (Go.Operand.tmp 122) (Go.Operand.tmp 124) 9, type := 4, pos := "law.go:141", after := #[{ on := 20, ground := Go.Ground.data }, { on := 22, ground := Go.Ground.data }, { on := 18, ground := Go.Ground.guard }], guard := some (18, false) }) (v := undef) rfl (by kernel_rfl) (by kernel_rfl) (by kernel_rfl) (fun _ _ _ h => h) (Or.inr ⟨by rfl, rfl⟩) (by assumption) ?_
            (try simp only [Act.put, List.setIfInBounds_toArray, List.set_cons_zero, List.set_cons_succ])
            refine wpAnyH_take (i := 24) (oi := { dst := some 126, op := Go.Op.pick (Go.Operand.tmp 120) (Go.Operand.const (Go.Value.bool true)) (Go.Operand.tmp 125), type := 4, pos := "law.go:141", after := #[{ on := 18, ground := Go.Ground.data }, { on := 23, ground := Go.Ground.data }, { on := 15, ground := Go.Ground.guard }], guard := some (15, true) }) (v := ?_) rfl (by kernel_rfl) (by kernel_rfl) (by kernel_rfl) (fun _ _ _ h => h) (Or.inl ⟨by rfl, ?_⟩) (by assumption) ?_
            rotate_left
            · intro wS hSw
              (try dsimp only at hSw)
              go_simp
              (try with_reducible rfl)
            (try simp only [Act.put, List.setIfInBounds_toArray, List.set_cons_zero, List.set_cons_succ])
            refine wpAnyH_take (i := 25) (oi := { dst := some 127, op := Go.Op.pick (Go.Operand.tmp 117) (Go.Operand.tmp 126) (Go.Operand.const (Go.Value.bool false)), type := 4, pos := "law.go:141", after := #[{ on := 15, ground := Go.Ground.data }, { on := 24, ground := Go.Ground.data }], guard := none }) (v := ?_) rfl (by kernel_rfl) (by kernel_rfl) (by kernel_rfl) (fun _ _ _ h => h) (Or.inl ⟨by rfl, ?_⟩) (by assumption) ?_
            rotate_left
            · intro wS hSw
              (try dsimp only at hSw)
              go_simp
              (try with_reducible rfl)
            (try simp only [Act.put, List.setIfInBounds_toArray, List.set_cons_zero, List.set_cons_succ])
            refine wpAnyH_take (i := 26) (oi := { dst := some 128, op := Go.Op.move (Go.Operand.tmp 127), type := 4, pos := "law.go:141", after := #[{ on := 25, ground := Go.Ground.data }, { on := 18, ground := Go.Ground.chain }], guard := none }) (v := ?_) rfl (by kernel_rfl) (by kernel_rfl) (by kernel_rfl) (fun _ _ _ h => h) (Or.inl ⟨by rfl, ?_⟩) (by assumption) ?_
            rotate_left
            · intro wS hSw
              (try dsimp only at hSw)
              go_simp
              (try with_reducible rfl)
            (try simp only [Act.put, List.setIfInBounds_toArray, List.set_cons_zero, List.set_cons_succ])
            refine wpAnyH_ready (rs := [27]) (by kernel_rfl) (by simp) ?_
            refine AllReadyH.cons (o := { dst := some 129, op := Go.Op.call { callee := Go.Callee.value (Go.Operand.func 12), args := #[], argTypes := #[] }, type := 4, pos := "law.go:141", after := #[{ on := 26, ground := Go.Ground.chain }, { on := 26, ground := Go.Ground.guard }], guard := some (26, true) }) rfl (fun K hK => ?_) AllReadyH.nil
            go_simp
            (refine (HSU.out V5 (HWW.out _ hvV5)).mono ?_; rintro e V27 ⟨rfl, hbz⟩; have hvV27 := Below.trans hvV5 (hbz.mono (Below.size hvV5)); clear hbz; skip)
            (try go_wp2_with fail)
            refine hK.out _ _ ?_ (fun hHeld => ?_)
            · (try dsimp only)
              (first | assumption | (dsimp only; assumption))
            clear hK K
            (try simp only [Act.put, List.setIfInBounds_toArray, List.set_cons_zero, List.set_cons_succ])
            refine wpAnyH_take (i := 28) (oi := { dst := some 130, op := Go.Op.pick (Go.Operand.tmp 128) (Go.Operand.tmp 129) (Go.Operand.const (Go.Value.bool false)), type := 4, pos := "law.go:141", after := #[{ on := 26, ground := Go.Ground.data }, { on := 27, ground := Go.Ground.data }], guard := none }) (v := ?_) rfl (by kernel_rfl) (by kernel_rfl) (by kernel_rfl) (fun _ _ _ h => h) (Or.inl ⟨by rfl, ?_⟩) (by assumption) ?_
            rotate_left
            · intro wS hSw
              (try dsimp only at hSw)
              go_simp
              (try with_reducible rfl)
            (try simp only [Act.put, List.setIfInBounds_toArray, List.set_cons_zero, List.set_cons_succ])
            refine wpAnyH_take (i := 29) (oi := { dst := some 6, op := Go.Op.assign (Go.Operand.tmp 130), type := 4, pos := "law.go:141", after := #[{ on := 28, ground := Go.Ground.data }, { on := 27, ground := Go.Ground.chain }, { on := 0, ground := Go.Ground.phase }, { on := 1, ground := Go.Ground.phase }, { on := 2, ground := Go.Ground.phase }, { on := 3, ground := Go.Ground.phase }, { on := 4, ground := Go.Ground.phase }, { on := 5, ground := Go.Ground.phase }, { on := 6, ground := Go.Ground.phase }, { on := 7, ground := Go.Ground.phase }, { on := 8, ground := Go.Ground.phase }, { on := 9, ground := Go.Ground.phase }, { on := 10, ground := Go.Ground.phase }, { on := 11, ground := Go.Ground.phase }, { on := 12, ground := Go.Ground.phase }, { on := 13, ground := Go.Ground.phase }, { on := 14, ground := Go.Ground.phase }, { on := 15, ground := Go.Ground.phase }, { on := 16, ground := Go.Ground.phase }, { on := 17, ground := Go.Ground.phase }, { on := 18, ground := Go.Ground.phase }, { on := 19, ground := Go.Ground.phase }, { on := 20, ground := Go.Ground.phase }, { on := 21, ground := Go.Ground.phase }, { on := 22, ground := Go.Ground.phase }, { on := 23, ground := Go.Ground.phase }, { on := 24, ground := Go.Ground.phase }, { on := 25, ground := Go.Ground.phase }, { on := 26, ground := Go.Ground.phase }, { on := 27, ground := Go.Ground.phase }, { on := 28, ground := Go.Ground.phase }], guard := none }) (v := ?_) rfl (by kernel_rfl) (by kernel_rfl) (by kernel_rfl) (fun _ _ _ h => h) (Or.inl ⟨by rfl, ?_⟩) (by assumption) ?_
            rotate_left
            · intro wS hSw
              (try dsimp only at hSw)
              go_simp
              (try with_reducible rfl)
            (try simp only [Act.put, List.setIfInBounds_toArray, List.set_cons_zero, List.set_cons_succ])
            refine wpAnyH_done (by kernel_rfl) ?_ _
            go_wp2_with fail
            go_ret
            exact ⟨rfl, HWW.out _ hvV27⟩
end Go.Proofs.YtloajfbehejehaaDoor
