/- A disk that was armed: just as many steps are done. -/
import Derived.Test.YtcohllhmfghlfaaDoorDk7
namespace Go.Proofs.YtcohllhmfghlfaaDoor
set_option linter.unusedVariables false
set_option linter.unusedSimpArgs false
open Go.RowKit

/-- A disk that was armed at k, i steps on. -/
def DI (w : World) (d sb k i : Nat) (A : World) : Prop := ∃ v s, DX w d sb v s A ∧ s.n = 8 ∧ s.nw ≤ i ∧ s.ar = k - i ∧ s.dn = decide (k ≤ i)
theorem DI.later {w A A' : World} {d sb k i : Nat} (h : DI w d sb k i A) (hb : Below A.heap.size A A') : DI w d sb k i A' := by
  obtain ⟨v, s, h1, h2⟩ := h
  exact ⟨v, s, h1.later hb, h2⟩
theorem DI.below {w A : World} {d sb k i : Nat} (h : DI w d sb k i A) : Below w.heap.size w A := by
  obtain ⟨v, s, h1, h2⟩ := h; exact h1.2
theorem DI.stp {k i : Nat} {s : DS} (h3 : s.ar = k - i) (h4 : s.dn = decide (k ≤ i)) (hk : 1 ≤ k) : (stepS s).ar = k - (i + 1) ∧ (stepS s).dn = decide (k ≤ i + 1) := by
  refine ⟨?_, ?_⟩
  · show s.ar - 1 = _; omega
  · show (s.dn || decide (s.ar = 1)) = _
    rw [h4, h3]
    by_cases h1 : k ≤ i
    · rw [decide_eq_true h1, decide_eq_true (show k ≤ i + 1 by omega)]; rfl
    · rw [decide_eq_false h1]
      by_cases h2 : k = i + 1
      · rw [decide_eq_true (show k - i = 1 by omega), decide_eq_true (show k ≤ i + 1 by omega)]; rfl
      · rw [decide_eq_false (show ¬ k - i = 1 by omega), decide_eq_false (show ¬ k ≤ i + 1 by omega)]; rfl
def dnV (b : Bool) : Value := if b = true then .iface 60 (.int .i64 23) else .nilIface
theorem sync_DI {w A : World} {d sb k i : Nat} (h : DI w d sb k i A) (hk : 1 ≤ k) :
    Calls Tryd.prog 9 #[.pointer (some ⟨d, 0, none⟩)] A fun e A' => e = .returned (dnV (decide (k ≤ i + 1))) ∧ DI w d sb k (i + 1) A' := by
  obtain ⟨v, s, h1, h2, h3, h4, h5⟩ := h
  obtain ⟨q1, q2⟩ := DI.stp h4 h5 hk
  cases hu : (stepS s).dn with
  | true =>
    refine (sync_down h1 hu).mono ?_
    rintro e A' ⟨rfl, v', hx⟩
    rw [← q2, hu]
    exact ⟨rfl, v', _, hx, h2, Nat.le_succ_of_le h3, q1, q2⟩
  | false =>
    refine (sync_up h1 hu).mono ?_
    rintro e A' ⟨rfl, v', hx⟩
    rw [← q2, hu]
    exact ⟨rfl, v', _, hx, h2, Nat.zero_le _, q1, q2⟩
theorem write_DI {w A A0 : World} {d sb k i x pb : Nat} {v : Value} {s : DS} {F : Nat → Nat} {jj : Int} (h0 : DX w d sb v s A0) (h : DX w d sb v s A) (hf : s.n = 8 ∧ s.nw ≤ i ∧ s.ar = k - i ∧ s.dn = decide (k ≤ i)) (hk : 1 ≤ k) (hp : A0.heap.size ≤ pb) (hj : jj = (x : Int) % 8) (hi : i < 1000) (hF : Row A pb 64 F) (hF8 : ∀ k, k < 64 → F k < 256) :
    Calls Tryd.prog 10 #[.pointer (some ⟨d, 0, none⟩), .int .i64 jj, .slice (some ⟨pb, 0, none⟩) 64 64] A fun e A' => e = .returned (dnV (decide (k ≤ i + 1))) ∧ DI w d sb k (i + 1) A' := by
  obtain ⟨h2, h3, h4, h5⟩ := hf
  obtain ⟨q1, q2⟩ := DI.stp h4 h5 hk
  have e1 : jj = ((x % 8 : Nat) : Int) := by rw [hj]; omega
  rw [e1]
  cases hu : (stepS s).dn with
  | true =>
    refine (write_down h0.1 h hp (by rw [h2]; exact Nat.mod_lt _ (by decide)) hF hF8 (by omega) hu).mono ?_
    rintro e A' ⟨rfl, v', hx⟩
    rw [← q2, hu]
    exact ⟨rfl, v', _, hx, h2, Nat.le_succ_of_le h3, q1, q2⟩
  | false =>
    refine (write_up h0.1 h hp (by rw [h2]; exact Nat.mod_lt _ (by decide)) hF hF8 (by omega) hu).mono ?_
    rintro e A' ⟨rfl, v', hx⟩
    rw [← q2, hu]
    exact ⟨rfl, v', _, hx, h2, Nat.succ_le_succ h3, q1, q2⟩
theorem down_DI {w A : World} {d sb k i : Nat} (h : DI w d sb k i A) :
    Calls Tryd.prog 13 #[.pointer (some ⟨d, 0, none⟩)] A fun e A' => e = .returned (.bool (decide (k ≤ i))) ∧ A = A' := by
  obtain ⟨v, s, h1, h2, h3, h4, h5⟩ := h
  refine (down_any h1.1).mono ?_
  rintro e A' ⟨rfl, rfl⟩
  rw [h5]
  exact ⟨rfl, rfl⟩
theorem crash_DI {w A : World} {d sb k i : Nat} (h : DI w d sb k i A) :
    Calls Tryd.prog 14 #[.pointer (some ⟨d, 0, none⟩), .slice none 0 0] A fun e A' => (∃ x, e = .returned x) ∧ ∃ v s, DX w d sb v s A' ∧ s.n = 8 ∧ s.nw = 0 ∧ s.ar = 0 ∧ s.dn = false := by
  obtain ⟨v, s, h1, h2, h3, h4, h5⟩ := h
  refine (crash_nil h1).mono ?_
  rintro e A' ⟨hx, hn⟩
  exact ⟨hx, _, _, hn, h2, rfl, rfl, rfl⟩
set_option maxRecDepth 100000 in
set_option maxHeartbeats 8000000 in
theorem dkdown_any (n len cap : Nat) (oa : Option Addr) (f : Nat → Nat) (w : World) (hn : n < 256) (hB : Bytes w oa len f) (hl : len ≤ maxLen) (hg : Handle w) :
    Calls Tryd.prog 3 #[.int .u8 (n : Int), .slice oa len cap] w fun e w' => e = .returned (.bool true) ∧ Below w.heap.size w w' := by
  have HG := Lib.hid hg
  have HB := Lib.hid hB
  have n0 : (len : Int) ≤ 9223372036854775807 := by unfold maxLen at hl; omega
  clear hg hB
  go_enter Tryd.func3, Tryd.ntmps3
  go_wp2_with fail
  refine (new_any 8 w (by decide) (by decide)).mono ?_
  rintro e A0 ⟨d, sb, rfl, hk, hb, h1, h2⟩
  have X0 := Lib.hid (show DX w d sb (.slice none 0 0) (newS 8) A0 from ⟨hk, hb⟩)
  clear hk hb h1 h2
  by_cases h60 : len ≤ 60
  rotate_left
  · have g1 : (60 : Int) < (len : Int) := by omega
    have g2 : decide ((60 : Int) < (len : Int)) = true := decide_eq_true g1
    clear h60
    go_wp2_with fail
    refine (sure13 A0 (HG.out.below X0.out.2 HG.out.2)).mono ?_
    rintro e A1 ⟨rfl, hb⟩
    have hb2 := Lib.hid (X0.out.2.trans (hb.mono X0.out.2.size))
    clear hb
    go_wp2_with fail
    go_ret
    exact ⟨rfl, hb2.out⟩
  have g1 : ¬ (60 : Int) < (len : Int) := by omega
  have g2 : decide ((60 : Int) < (len : Int)) = false := decide_eq_false g1
  have HL := Lib.hid h60
  clear h60
  go_wp2_with fail
  obtain ⟨k, hk⟩ : ∃ k, 1 + n % 20 = k := ⟨_, rfl⟩
  have ek : 1 + (n : Int) % 20 = (k : Int) := by omega
  have HK := Lib.hid (show 1 ≤ k ∧ k ≤ 20 by omega)
  rw [ek]
  clear ek hk g1 g2
  refine (arm_ok X0.out k (by have := HK.out; omega)).mono ?_
  rintro e A1 ⟨rfl, hx⟩
  have X1 : Hid (DI w d sb k 0 A1) := Lib.hid ⟨_, _, hx, rfl, Nat.le_refl _, rfl, (decide_eq_false (by have := HK.out; omega)).symm⟩
  have L1 := Lib.hid hx.2
  clear hx X0
  go_wp2_with fail
  go_loopw [8, 9] (fun x y wr => ∃ i : Nat, i ≤ len ∧ x = .int .i64 (i : Int) ∧ DI w d sb k i wr) (fun x y _ => len - (intOf x).toNat)
  case atStart => exact ⟨0, Nat.zero_le _, rfl, X1.out⟩
  case round =>
    obtain ⟨i, hi, rfl, hD⟩ := hrel
    have HD := Lib.hid hD
    clear hD X1 L1
    by_cases hlt : i < len
    · as_aux_lemma =>
      obtain ⟨hx256, b, off, rfl, hcell⟩ := HB.out i hlt
      obtain ⟨x, hx⟩ : ∃ x, f i = x := ⟨_, rfl⟩
      rw [hx] at hcell hx256
      have hcr : wr.cell? ⟨b, off + i, none⟩ = some (.int .u8 (x : Int)) := cell_below HD.out.below hcell
      have i1 : (i : Int) < (len : Int) := by omega
      have i0 : (0 : Int) ≤ (i : Int) := by omega
      have k4 : IntKind.i64.wrap ((i : Int) + 1) = ((i + 1 : Nat) : Int) := by have := HL.out; rw [IntWalk.i64_in _ (by omega)]; omega
      have HI := Lib.hid (show i < len ∧ x < 256 from ⟨hlt, hx256⟩)
      have x0 : (x : Int) % 256 = (x : Int) := by omega
      have x1 : IntKind.i64.wrap (x : Int) = (x : Int) := IntWalk.i64_in _ (by omega)
      have x2 : (x : Int).tmod 8 = (x : Int) % 8 := Int.tmod_eq_emod_of_nonneg (by omega)
      clear hlt hi hx hx256
      by_cases h4 : x % 4 = 0
      · have m1 : (x : Int) % 4 = 0 := by omega
        have m2 : decide ((x : Int) % 4 = 0) = true := decide_eq_true m1
        have m3 : ((x : Int) % 4 == 0) = true := by rw [m1]; rfl
        have HS := Lib.hid (sync_DI HD.out HK.out.1)
        clear h4 hcell
        go_wp2_with fail
        refine HS.out.mono ?_
        rintro e A2 ⟨rfl, hd2⟩
        have D2 := Lib.hid hd2
        clear hd2 HS HD hcr
        by_cases hd : k ≤ i + 1
        · have E : dnV (decide (k ≤ i + 1)) = .iface 60 (.int .i64 23) := by rw [decide_eq_true hd]; rfl
          rw [E]
          have j1 : ¬ ((i : Int) + 1 < (k : Int)) := by omega
          have j2 : decide ((i : Int) + 1 < (k : Int)) = false := decide_eq_false j1
          have j3 : (k : Int) ≤ (i : Int) + 1 := by omega
          have j4 : decide ((k : Int) ≤ (i : Int) + 1) = true := decide_eq_true j3
          have j5 : decide (i + 1 < k) = false := decide_eq_false (by omega)
          have j6 : decide (k ≤ i + 1) = true := decide_eq_true hd
          clear E hd
          go_wp2_with fail
          refine (num_err 23 A2 (HG.out.below D2.out.below HG.out.2)).mono ?_
          rintro e A3 ⟨rfl, hb⟩
          have D3 := Lib.hid (D2.out.later hb)
          clear hb D2
          go_wp2_with fail
          refine (down_DI D3.out).mono ?_
          rintro e A4 ⟨rfl, rfl⟩
          rw [j6]
          go_wp2_with fail
          go_roundw
          case rel => exact ⟨i + 1, HI.out.1, by first | rfl | go_num, D3.out⟩
          case measure => have := HI.out.1; simp [intOf]; omega
        · have E : dnV (decide (k ≤ i + 1)) = .nilIface := by rw [decide_eq_false hd]; rfl
          rw [E]
          have j1 : (i : Int) + 1 < (k : Int) := by omega
          have j2 : decide ((i : Int) + 1 < (k : Int)) = true := decide_eq_true j1
          have j3 : ¬ (k : Int) ≤ (i : Int) + 1 := by omega
          have j4 : decide ((k : Int) ≤ (i : Int) + 1) = false := decide_eq_false j3
          have j5 : decide (i + 1 < k) = true := decide_eq_true (by omega)
          have j6 : decide (k ≤ i + 1) = false := decide_eq_false hd
          clear E hd
          go_wp2_with fail
          refine (down_DI D2.out).mono ?_
          rintro e A4 ⟨rfl, rfl⟩
          rw [j6]
          go_wp2_with fail
          go_roundw
          case rel => exact ⟨i + 1, HI.out.1, by first | rfl | go_num, D2.out⟩
          case measure => have := HI.out.1; simp [intOf]; omega
      · have m1 : ¬ (x : Int) % 4 = 0 := by omega
        have m2 : decide ((x : Int) % 4 = 0) = false := decide_eq_false m1
        have m3 : ((x : Int) % 4 == 0) = false := beq_false_of_ne m1
        clear h4
        obtain ⟨v, s, hdx, hsf⟩ := HD.out
        have HX := Lib.hid (hdx.later (Below.refl _ wr).drew)
        have HSF := Lib.hid hsf
        have HC : Hid (∀ A', Below w.heap.size w A' → A'.cell? ⟨b, off + i, none⟩ = some (.int .u8 (x : Int))) := Lib.hid fun A' hA => cell_below hA hcell
        have hS0 : Below w.heap.size w wr.drew := HX.out.2
        clear hdx hsf HD hcell
        go_upto_region 13 with fail
        clear hcr
        refine wp_region_held_drew (S := (Below w.heap.size w)) (by kernel_rfl) ?_ (fun hHeld => ?_)
        · (try dsimp only)
          (first | assumption)
        generalize wr.drew = WR at *
        refine wpAnyH_take (i := 0) (oi := { dst := some 52, op := Go.Op.move (Go.Operand.tmp 5), type := 23, pos := "law.go:167", after := #[], guard := none }) (v := ?_) rfl (by kernel_rfl) (by kernel_rfl) (by kernel_rfl) (fun _ _ _ h => h) (Or.inl ⟨by rfl, ?_⟩) (by assumption) ?_
        rotate_left
        · intro wS hSw
          (try dsimp only at hSw)
          go_simp
          (try with_reducible rfl)
        (try simp only [Act.put, List.setIfInBounds_toArray, List.set_cons_zero, List.set_cons_succ])
        refine wpAnyH_take (i := 1) (oi := { dst := some 53, op := Go.Op.move (Go.Operand.tmp 1), type := 22, pos := "law.go:167", after := #[], guard := none }) (v := ?_) rfl (by kernel_rfl) (by kernel_rfl) (by kernel_rfl) (fun _ _ _ h => h) (Or.inl ⟨by rfl, ?_⟩) (by assumption) ?_
        rotate_left
        · intro wS hSw
          (try dsimp only at hSw)
          go_simp
          (try with_reducible rfl)
        (try simp only [Act.put, List.setIfInBounds_toArray, List.set_cons_zero, List.set_cons_succ])
        refine wpAnyH_take (i := 2) (oi := { dst := some 54, op := Go.Op.move (Go.Operand.tmp 8), type := 3, pos := "law.go:167", after := #[], guard := none }) (v := ?_) rfl (by kernel_rfl) (by kernel_rfl) (by kernel_rfl) (fun _ _ _ h => h) (Or.inl ⟨by rfl, ?_⟩) (by assumption) ?_
        rotate_left
        · intro wS hSw
          (try dsimp only at hSw)
          go_simp
          (try with_reducible rfl)
        (try simp only [Act.put, List.setIfInBounds_toArray, List.set_cons_zero, List.set_cons_succ])
        refine wpAnyH_take (i := 3) (oi := { dst := some 55, op := Go.Op.indexAddr 22 (Go.Operand.tmp 53) (Go.Operand.tmp 54), type := 0, pos := "law.go:167", after := #[{ on := 1, ground := Go.Ground.data }, { on := 2, ground := Go.Ground.data }], guard := none }) (v := ?_) rfl (by kernel_rfl) (by kernel_rfl) (by kernel_rfl) (fun _ _ _ h => h) (Or.inl ⟨by rfl, ?_⟩) (by assumption) ?_
        rotate_left
        · intro wS hSw
          (try dsimp only at hSw)
          go_simp
          (try with_reducible rfl)
        (try simp only [Act.put, List.setIfInBounds_toArray, List.set_cons_zero, List.set_cons_succ])
        refine wpAnyH_take (i := 4) (oi := { dst := some 56, op := Go.Op.load 5 (Go.Operand.tmp 55), type := 5, pos := "law.go:167", after := #[{ on := 3, ground := Go.Ground.data }], guard := none }) (v := ?_) rfl (by kernel_rfl) (by kernel_rfl) (by kernel_rfl) (fun _ _ _ h => h) (Or.inl ⟨by rfl, ?_⟩) (by assumption) ?_
        rotate_left
        · intro wS hSw
          have c0 := HC.out wS hSw
          go_simp
          (try with_reducible rfl)
        (try simp only [Act.put, List.setIfInBounds_toArray, List.set_cons_zero, List.set_cons_succ])
        refine wpAnyH_take (i := 5) (oi := { dst := some 57, op := Go.Op.convert 5 3 (Go.Operand.tmp 56), type := 3, pos := "law.go:167", after := #[{ on := 4, ground := Go.Ground.data }], guard := none }) (v := ?_) rfl (by kernel_rfl) (by kernel_rfl) (by kernel_rfl) (fun _ _ _ h => h) (Or.inl ⟨by rfl, ?_⟩) (by assumption) ?_
        rotate_left
        · intro wS hSw
          (try dsimp only at hSw)
          go_simp
          (try with_reducible rfl)
        (try simp only [Act.put, List.setIfInBounds_toArray, List.set_cons_zero, List.set_cons_succ])
        refine wpAnyH_take (i := 6) (oi := { dst := some 58, op := Go.Op.binOp Go.BinOp.rem 3 (Go.Operand.tmp 57) (Go.Operand.const (Go.Value.int Go.IntKind.i64 8)) 3, type := 3, pos := "law.go:167", after := #[{ on := 5, ground := Go.Ground.data }], guard := none }) (v := ?_) rfl (by kernel_rfl) (by kernel_rfl) (by kernel_rfl) (fun _ _ _ h => h) (Or.inl ⟨by rfl, ?_⟩) (by assumption) ?_
        rotate_left
        · intro wS hSw
          (try dsimp only at hSw)
          go_simp
          (try with_reducible rfl)
        (try simp only [Act.put, List.setIfInBounds_toArray, List.set_cons_zero, List.set_cons_succ])
        refine wpAnyH_take (i := 7) (oi := { dst := some 59, op := Go.Op.move (Go.Operand.tmp 1), type := 22, pos := "law.go:167", after := #[], guard := none }) (v := ?_) rfl (by kernel_rfl) (by kernel_rfl) (by kernel_rfl) (fun _ _ _ h => h) (Or.inl ⟨by rfl, ?_⟩) (by assumption) ?_
        rotate_left
        · intro wS hSw
          (try dsimp only at hSw)
          go_simp
          (try with_reducible rfl)
        (try simp only [Act.put, List.setIfInBounds_toArray, List.set_cons_zero, List.set_cons_succ])
        refine wpAnyH_take (i := 8) (oi := { dst := some 60, op := Go.Op.move (Go.Operand.tmp 8), type := 3, pos := "law.go:167", after := #[], guard := none }) (v := ?_) rfl (by kernel_rfl) (by kernel_rfl) (by kernel_rfl) (fun _ _ _ h => h) (Or.inl ⟨by rfl, ?_⟩) (by assumption) ?_
        rotate_left
        · intro wS hSw
          (try dsimp only at hSw)
          go_simp
          (try with_reducible rfl)
        (try simp only [Act.put, List.setIfInBounds_toArray, List.set_cons_zero, List.set_cons_succ])
        refine wpAnyH_take (i := 9) (oi := { dst := some 61, op := Go.Op.indexAddr 22 (Go.Operand.tmp 59) (Go.Operand.tmp 60), type := 0, pos := "law.go:167", after := #[{ on := 7, ground := Go.Ground.data }, { on := 8, ground := Go.Ground.data }], guard := none }) (v := ?_) rfl (by kernel_rfl) (by kernel_rfl) (by kernel_rfl) (fun _ _ _ h => h) (Or.inl ⟨by rfl, ?_⟩) (by assumption) ?_
        rotate_left
        · intro wS hSw
          (try dsimp only at hSw)
          go_simp
          (try with_reducible rfl)
        (try simp only [Act.put, List.setIfInBounds_toArray, List.set_cons_zero, List.set_cons_succ])
        refine wpAnyH_take (i := 10) (oi := { dst := some 62, op := Go.Op.load 5 (Go.Operand.tmp 61), type := 5, pos := "law.go:167", after := #[{ on := 9, ground := Go.Ground.data }], guard := none }) (v := ?_) rfl (by kernel_rfl) (by kernel_rfl) (by kernel_rfl) (fun _ _ _ h => h) (Or.inl ⟨by rfl, ?_⟩) (by assumption) ?_
        rotate_left
        · intro wS hSw
          have c0 := HC.out wS hSw
          go_simp
          (try with_reducible rfl)
        (try simp only [Act.put, List.setIfInBounds_toArray, List.set_cons_zero, List.set_cons_succ])
        refine wpAnyH_ready (rs := [11]) (by kernel_rfl) (by simp) ?_
        refine AllReadyH.cons (o := { dst := some 63, op := Go.Op.buildSlice 22 1 #[(0, Go.Operand.tmp 62)], type := 22, pos := "law.go:167", after := #[{ on := 10, ground := Go.Ground.data }], guard := none }) rfl (fun K hK => ?_) AllReadyH.nil
        go_simp
        (obtain ⟨W1, hW1⟩ : ∃ q, WR.alloc (.cells #[.int .u8 (x : Int)] 5) = q := ⟨_, rfl⟩; rw [hW1]; have hb1 : Below WR.heap.size WR W1 := (by rw [← hW1]; exact (Below.refl _ _).alloc (Nat.le_refl _) _); have hK1 : Blk W1 WR.heap.size #[.int .u8 (x : Int)] 5 := (by rw [← hW1]; exact Blk.new _ _ _); have HBY : Hid (Bytes W1 (some ⟨WR.heap.size, 0, none⟩) 1 (fun _ => x)) := Lib.hid (fun k hk => ⟨HI.out.2, WR.heap.size, 0, rfl, by rw [show k = 0 by omega, Blk.cell hK1]; rfl⟩); have hS1 : Below w.heap.size w W1 := hS0.trans (hb1.mono hS0.size); clear hW1 hK1; skip)
        (try go_wp2_with fail)
        refine hK.out _ _ ?_ (fun hHeld => ?_)
        · (try dsimp only)
          (first | assumption)
        clear hK K
        (try simp only [Act.put, List.setIfInBounds_toArray, List.set_cons_zero, List.set_cons_succ])
        refine wpAnyH_ready (rs := [12]) (by kernel_rfl) (by simp) ?_
        refine AllReadyH.cons (o := { dst := some 64, op := Go.Op.call { callee := Go.Callee.value (Go.Operand.func 11), args := #[Go.Operand.tmp 63], argTypes := #[22] }, type := 22, pos := "law.go:167", after := #[{ on := 11, ground := Go.Ground.data }], guard := none }) rfl (fun K hK => ?_) AllReadyH.nil
        go_simp
        (refine (sector_any (some ⟨WR.heap.size, 0, none⟩) 1 1 (fun _ => x) W1 HBY.out (by decide)).mono ?_; rintro e V2 ⟨rfl, hr2, hb2⟩; have R2 := Lib.hid hr2; have hb3 : Below WR.heap.size WR V2 := hb1.trans (hb2.mono hb1.size); have HP2 := Lib.hid (show WR.heap.size ≤ W1.heap.size from hb1.size); have HXV := Lib.hid (HX.out.later hb3); have hS2 := HXV.out.2; clear hr2 hb2 HBY hb1; skip)
        (try go_wp2_with fail)
        refine hK.out _ _ ?_ (fun hHeld => ?_)
        · (try dsimp only)
          (first | assumption)
        clear hK K
        (try simp only [Act.put, List.setIfInBounds_toArray, List.set_cons_zero, List.set_cons_succ])
        refine wpAnyH_ready (rs := [13]) (by kernel_rfl) (by simp) ?_
        refine AllReadyH.cons (o := { dst := some 65, op := Go.Op.call { callee := Go.Callee.value (Go.Operand.func 10), args := #[Go.Operand.tmp 52, Go.Operand.tmp 58, Go.Operand.tmp 64], argTypes := #[23, 3, 22] }, type := 25, pos := "law.go:167", after := #[{ on := 0, ground := Go.Ground.data }, { on := 6, ground := Go.Ground.data }, { on := 12, ground := Go.Ground.data }, { on := 12, ground := Go.Ground.chain }], guard := none }) rfl (fun K hK => ?_) AllReadyH.nil
        go_simp
        (refine (write_DI (jj := (x : Int) % 8) HX.out HXV.out HSF.out HK.out.1 HP2.out rfl (by have := HI.out.1; have := HL.out; omega) R2.out (secF_lt fun _ _ => HI.out.2)).mono ?_; rintro e A2 ⟨rfl, hd2⟩; have D2 := Lib.hid hd2; have hS3 := D2.out.below; clear hd2 hb3; skip)
        (try go_wp2_with fail)
        refine hK.out _ _ ?_ (fun hHeld => ?_)
        · (try dsimp only)
          (first | assumption)
        clear hK K
        (try simp only [Act.put, List.setIfInBounds_toArray, List.set_cons_zero, List.set_cons_succ])
        refine wpAnyH_take (i := 14) (oi := { dst := some 9, op := Go.Op.assign (Go.Operand.tmp 65), type := 25, pos := "law.go:167", after := #[{ on := 13, ground := Go.Ground.data }, { on := 13, ground := Go.Ground.chain }, { on := 0, ground := Go.Ground.phase }, { on := 1, ground := Go.Ground.phase }, { on := 2, ground := Go.Ground.phase }, { on := 3, ground := Go.Ground.phase }, { on := 4, ground := Go.Ground.phase }, { on := 5, ground := Go.Ground.phase }, { on := 6, ground := Go.Ground.phase }, { on := 7, ground := Go.Ground.phase }, { on := 8, ground := Go.Ground.phase }, { on := 9, ground := Go.Ground.phase }, { on := 10, ground := Go.Ground.phase }, { on := 11, ground := Go.Ground.phase }, { on := 12, ground := Go.Ground.phase }, { on := 13, ground := Go.Ground.phase }], guard := none }) (v := ?_) rfl (by kernel_rfl) (by kernel_rfl) (by kernel_rfl) (fun _ _ _ h => h) (Or.inl ⟨by rfl, ?_⟩) (by assumption) ?_
        rotate_left
        · intro wS hSw
          (try dsimp only at hSw)
          go_simp
          (try with_reducible rfl)
        (try simp only [Act.put, List.setIfInBounds_toArray, List.set_cons_zero, List.set_cons_succ])
        refine wpAnyH_done (by kernel_rfl) ?_ _
        by_cases hd : k ≤ i + 1
        · have E : dnV (decide (k ≤ i + 1)) = .iface 60 (.int .i64 23) := by rw [decide_eq_true hd]; rfl
          rw [E]
          have j1 : ¬ ((i : Int) + 1 < (k : Int)) := by omega
          have j2 : decide ((i : Int) + 1 < (k : Int)) = false := decide_eq_false j1
          have j3 : (k : Int) ≤ (i : Int) + 1 := by omega
          have j4 : decide ((k : Int) ≤ (i : Int) + 1) = true := decide_eq_true j3
          have j5 : decide (i + 1 < k) = false := decide_eq_false (by omega)
          have j6 : decide (k ≤ i + 1) = true := decide_eq_true hd
          clear E hd
          go_wp2_with fail
          refine (num_err 23 A2 (HG.out.below D2.out.below HG.out.2)).mono ?_
          rintro e A3 ⟨rfl, hb⟩
          have D3 := Lib.hid (D2.out.later hb)
          clear hb D2
          go_wp2_with fail
          refine (down_DI D3.out).mono ?_
          rintro e A4 ⟨rfl, rfl⟩
          rw [j6]
          go_wp2_with fail
          go_roundw
          case rel => exact ⟨i + 1, HI.out.1, by first | rfl | go_num, D3.out⟩
          case measure => have := HI.out.1; simp [intOf]; omega
        · have E : dnV (decide (k ≤ i + 1)) = .nilIface := by rw [decide_eq_false hd]; rfl
          rw [E]
          have j1 : (i : Int) + 1 < (k : Int) := by omega
          have j2 : decide ((i : Int) + 1 < (k : Int)) = true := decide_eq_true j1
          have j3 : ¬ (k : Int) ≤ (i : Int) + 1 := by omega
          have j4 : decide ((k : Int) ≤ (i : Int) + 1) = false := decide_eq_false j3
          have j5 : decide (i + 1 < k) = true := decide_eq_true (by omega)
          have j6 : decide (k ≤ i + 1) = false := decide_eq_false hd
          clear E hd
          go_wp2_with fail
          refine (down_DI D2.out).mono ?_
          rintro e A4 ⟨rfl, rfl⟩
          rw [j6]
          go_wp2_with fail
          go_roundw
          case rel => exact ⟨i + 1, HI.out.1, by first | rfl | go_num, D2.out⟩
          case measure => have := HI.out.1; simp [intOf]; omega
    · obtain rfl : i = len := by omega
      have i1 : ¬ (i : Int) < (i : Int) := by omega
      clear hlt hi
      go_wp2_with fail
      refine (crash_DI HD.out).mono ?_
      rintro e A2 ⟨⟨y, rfl⟩, v, s, hx, s1, s2, s3, s4⟩
      have X2 := Lib.hid hx
      have HSF := Lib.hid (show s.n = 8 ∧ s.nw = 0 ∧ s.ar = 0 ∧ s.dn = false from ⟨s1, s2, s3, s4⟩)
      clear HD hx s1 s2 s3 s4
      go_wp2_with fail
      refine (down_any X2.out.1).mono ?_
      rintro e A3 ⟨rfl, rfl⟩
      rw [HSF.out.2.2.2]
      go_wp2_with fail
      refine (sector_any none 0 0 (fun _ => 0) A2 (fun k hk => absurd hk (Nat.not_lt_zero _)) (by decide)).mono ?_
      rintro e V ⟨rfl, hr, hb⟩
      have Y2 := Lib.hid (X2.out.later hb)
      have R2 := Lib.hid hr
      clear hr hb
      go_wp2_with fail
      refine (write_up (F := secF 0 (fun _ => 0)) (i := 0) X2.out.1 Y2.out (Nat.le_refl _) (by rw [HSF.out.1]; decide) R2.out (secF_lt fun _ _ => by decide) (by rw [HSF.out.2.1]; decide) (by show (s.dn || decide (s.ar = 1)) = false; rw [HSF.out.2.2.1, HSF.out.2.2.2]; rfl)).mono ?_
      rintro e A4 ⟨rfl, v4, hx⟩
      have X4 := Lib.hid hx
      clear hx Y2 R2 X2
      go_wp2_with fail
      refine (waits_any X4.out.1).mono ?_
      rintro e A5 ⟨he, rfl⟩
      obtain rfl : e = .returned (.int .i64 1) := he.trans (by show Ending.returned (.int .i64 ((s.nw + 1 : Nat) : Int)) = _; rw [HSF.out.2.1]; rfl)
      go_wp2_with fail
      refine (sure13 A4 (HG.out.below X4.out.2 HG.out.2)).mono ?_
      rintro e A6 ⟨rfl, hb⟩
      have hb2 := Lib.hid (X4.out.2.trans (hb.mono X4.out.2.size))
      clear hb
      go_wp2_with fail
      go_ret
      exact ⟨rfl, hb2.out⟩
end Go.Proofs.YtcohllhmfghlfaaDoor
