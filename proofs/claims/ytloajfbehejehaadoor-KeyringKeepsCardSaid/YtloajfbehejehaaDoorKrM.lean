/- KeyringKeeps: the ring and what was wanted. -/
import Derived.Test.YtloajfbehejehaaDoorKrL
namespace Go.Proofs.YtloajfbehejehaaDoor
set_option linter.unusedVariables false
set_option linter.unusedSimpArgs false
open Go.RowKit
theorem rotate_full (cs : Nat) (oa : Option Addr) (S : Nat → Nat → Nat) (Ky : Nat → Nat) (w : World) (hT : TL w oa 16 (fun i => i + 1) S) :
    Calls Tryd.prog 7 #[.agg #[.slice oa 16 cs], .agg (rowC 32 Ky).toArray] w fun e w' => e = .returned (.tuple #[.agg #[.slice none 0 0], .iface 64 (.int .i64 7)]) ∧ Below w.heap.size w w' := by
  refine (rotate_any 16 cs oa _ S Ky w hT (fun i hi => by show i + 1 < 4294967296; omega) (by omega)).mono ?_
  rintro e w' ⟨hb, ⟨_, h1⟩ | ⟨rfl, _, h1⟩ | ⟨_, h1, _⟩⟩
  · exact absurd ⟨by omega, by omega, fun _ _ => rfl⟩ h1
  · exact ⟨rfl, hb⟩
  · exact absurd h1 (by omega)
theorem TL.congr32 {w : World} {oa : Option Addr} {n : Nat} {N : Nat → Nat} {S U : Nat → Nat → Nat} (h : TL w oa n N S) (he : ∀ i j, i < n → j < 32 → S i j = U i j) : TL w oa n N U := fun i hi => by
  obtain ⟨b, off, e, hr⟩ := h i hi
  rw [tmL_congr fun j hj => he i j hi hj] at hr
  exact ⟨b, off, e, hr⟩
theorem dec_ok (m cb : Nat) (ob : Option Addr) (B : Nat → Nat) (w : World) (hB : Bytes w ob m B) (hm : m ≤ cb) (hs : m < 1000000) (h : IsRing m B) :
    Calls Tryd.prog 10 #[.slice ob m cb] w fun e w' => ∃ o c, e = .returned (.tuple #[.agg #[.slice o (B 2) c], .nilIface]) ∧ TL w' o (B 2) (fun i => i + 1) (fun i j => B (3 + 32 * i + j)) ∧ Below w.heap.size w w' := by
  refine (decode_any m cb ob B w hB hm hs).mono ?_
  rintro e w' ⟨hb, ⟨_, h1⟩ | ⟨_, o, c, rfl, hT⟩⟩
  · exact absurd h h1
  · exact ⟨o, c, rfl, hT, hb⟩
theorem encF_two (k : Nat) (S : Nat → Nat → Nat) : encF k S 2 = k := by unfold encF; simp
theorem encF_ring (k : Nat) (S : Nat → Nat → Nat) (h : 1 ≤ k ∧ k ≤ 16) : IsRing (3 + 32 * k) (encF k S) := ⟨by omega, rfl, rfl, by rw [encF_two]; exact h.1, by rw [encF_two]; exact h.2, by rw [encF_two]⟩
theorem encF_at (k : Nat) (S : Nat → Nat → Nat) (i j : Nat) (hj : j < 32) : encF k S (3 + 32 * i + j) = S i j := by
  unfold encF
  rw [if_neg (by omega), if_neg (by omega), if_neg (by omega), show (3 + 32 * i + j - 3) / 32 = i by omega, show (3 + 32 * i + j - 3) % 32 = j by omega]
theorem find_ok (n cs t : Nat) (oa : Option Addr) (S : Nat → Nat → Nat) (w : World) (hT : TL w oa n (fun i => i + 1) S) (h : 1 ≤ n ∧ n ≤ 16) (ht : 1 ≤ t ∧ t ≤ n) :
    Calls Tryd.prog 11 #[.agg #[.slice oa n cs], .int .u32 (t : Int)] w fun e w' => e = .returned (.tuple #[.agg (rowC 32 (S (t - 1))).toArray, .nilIface]) ∧ Below w.heap.size w w' := by
  refine (find_any n cs t oa _ S w hT (fun i hi => by show i + 1 < 4294967296; omega) (by omega)).mono ?_
  rintro e w' ⟨hb, ⟨h1, _⟩ | ⟨_, _, _, rfl⟩ | ⟨_, h1, _⟩⟩
  · exact absurd ⟨h.1, h.2, fun _ _ => rfl⟩ h1
  · exact ⟨rfl, hb⟩
  · exact absurd ht h1
/-- The ring and what was wanted. -/
structure KS (b5 base k : Nat) (o : Option Addr) (c : Nat) (S : Nat → Nat → Nat) (v : Value) (w A : World) : Prop where
  rg : Blk A b5 #[.slice o k c] 26
  tl : TL A o k (fun i => i + 1) S
  ao : AO A base v k S
  lt : ∀ i j, S i j < 256
  bel : Below w.heap.size w A
  sz : base ≤ A.heap.size
  k1 : 1 ≤ k ∧ k ≤ 16
  ap : ∀ a q, o = some a → v.ownBlock = some q → a.block ≠ q
theorem KS.later {b5 base k c : Nat} {o : Option Addr} {S : Nat → Nat → Nat} {v : Value} {w A A' : World} (h : KS b5 base k o c S v w A) (hb : Below A.heap.size A A') : KS b5 base k o c S v w A' :=
  ⟨Blk.below h.rg hb (Blk.lt h.rg), h.tl.later hb, h.ao.later hb, h.lt, h.bel.trans (hb.mono h.bel.size), Nat.le_trans h.sz hb.size, h.k1, h.ap⟩
set_option maxRecDepth 100000 in
set_option maxHeartbeats 8000000 in
theorem keeps_any (n cs : Nat) (oa : Option Addr) (K0 : Nat → Nat) (Q : Nat → Nat → Nat) (w : World) (hg : GH w) (h0 : ∀ i, i < 32 → K0 i < 256) (hK : KL w oa n Q) (hQ : ∀ i j, Q i j < 256) (hn : n < 9223372036854775808) :
    Calls Tryd.prog 3 #[.agg (rowC 32 K0).toArray, .slice oa n cs] w fun e w' => e = .returned (.bool true) ∧ Below w.heap.size w w' := by
  obtain ⟨KF, hKF⟩ : ∃ q : Nat → Nat, (fun i => K0 i % 256) = q := ⟨_, rfl⟩
  have hK0 : (rowC 32 K0).toArray = (rowC 32 KF).toArray := by rw [rowC_congr (g := KF) fun i hi => by rw [← hKF]; exact (Nat.mod_eq_of_lt (h0 i hi)).symm]
  have hKFl : ∀ i, KF i < 256 := fun i => by rw [← hKF]; exact Nat.mod_lt _ (by omega)
  rw [hK0]
  clear hK0 hKF h0
  obtain ⟨F0, hF0⟩ : ∃ q, (rowC 32 KF).toArray = q := ⟨_, rfl⟩
  rw [hF0]
  obtain ⟨b2, hb2⟩ : ∃ q, w.heap.size = q := ⟨_, rfl⟩
  obtain ⟨w0, hw0⟩ : ∃ q, w.alloc (.cells F0 22) = q := ⟨_, rfl⟩
  have hb0 : Below w.heap.size w w0 := by rw [← hw0]; exact (Below.refl _ _).alloc (Nat.le_refl _) _
  have hB2 : Blk w0 b2 F0 22 := by rw [← hw0, ← hb2]; exact Blk.new _ _ _
  have HFI : Hid (∀ w, Calls Tryd.prog 6 #[.agg F0] w fun e w' => ∃ g, e = .returned (.agg #[.slice (some ⟨g, 0, none⟩) 1 1]) ∧ TL w' (some ⟨g, 0, none⟩) 1 (fun _ => 1) (fun _ => KF) ∧ Below w.heap.size w w') := Lib.hid fun w => by rw [← hF0]; exact first_any _ w
  have HI0 : Hid ((Tryd.prog.info? 22).map (·.size) = some F0.size) := Lib.hid (by rw [← hF0, List.size_toArray, rowC_len]; exact info_a32)
  have HBS0 : Hid (∀ w, (Instr.buildSlice 23 1 #[(0, .agg F0)]).run Tryd.prog w = .ok (.slice (some ⟨w.heap.size, 0, none⟩) 1 1) (w.alloc (.cells F0 22))) := Lib.hid (by rw [← hF0]; exact bs_a1 KF)
  have HR0 : Hid (w0.rangeAt b2 0 F0.toList) := Lib.hid hB2.rangeA
  have HB2 := Lib.hid hB2
  have HB0 := Lib.hid hb0
  have HG := Lib.hid hg
  have HK := Lib.hid hK
  have HQ := Lib.hid hQ
  have HN := Lib.hid hn
  have HF0 := Lib.hid hF0
  have HKF := Lib.hid hKFl
  clear hb0 hB2 hg hK hQ hn hF0 hKFl
  go_enter Tryd.func3, Tryd.ntmps3
  go_upto_region 2 with (first | (refine wpList_value rfl (exec_loadA (x := .tmp 2) (C := F0) rfl rfl HR0.out Tryd.underlying22 rfl HI0.out) ?_) | (go_at_call 6; refine (HFI.out _).mono ?_; rintro e w1 ⟨g, rfl, hT1, hb1⟩))
  obtain ⟨w2, hw2⟩ : ∃ q, w1.alloc (.cells #[.slice (some ⟨g, 0, none⟩) 1 1] 26) = q := ⟨_, rfl⟩
  obtain ⟨b5, hq5⟩ : ∃ q, w1.heap.size = q := ⟨_, rfl⟩
  obtain ⟨base, hbase⟩ : ∃ q, w2.heap.size = q := ⟨_, rfl⟩
  have hv : Below w1.heap.size w1 w2 := by rw [← hw2]; exact (Below.refl _ _).alloc (Nat.le_refl _) _
  have h5 : Blk w2 b5 #[.slice (some ⟨g, 0, none⟩) 1 1] 26 := by rw [← hw2, ← hq5]; exact Blk.new _ _ _
  have hT2 := (hT1.later hv).congr (M := fun i => i + 1) (U := fun _ => KF) (fun i hi => ⟨by show 1 = i + 1; omega, rfl⟩)
  have hb02 : Below w.heap.size w w2 := (HB0.out.trans (hb1.mono HB0.out.size)).trans (hv.mono (Nat.le_trans HB0.out.size hb1.size))
  have HR2 : Hid (w2.rangeAt b2 0 F0.toList) := Lib.hid (by have h9 := Blk.below HB2.out (hb1.trans (hv.mono hb1.size)) (Blk.lt HB2.out); exact h9.rangeA)
  have HGE : Hid (w.heap.size ≤ b5 ∧ b5 < base) := Lib.hid ⟨by have := HB0.out.size; have := hb1.size; omega, by rw [← hbase]; exact Blk.lt h5⟩
  obtain ⟨w3, hw3⟩ : ∃ q, w2.alloc (.cells F0 22) = q := ⟨_, rfl⟩
  have HKS : Hid (KS b5 base 1 (some ⟨g, 0, none⟩) 1 (fun _ => KF) (.slice (some ⟨w2.heap.size, 0, none⟩) 1 1) w w3) := Lib.hid (by
    have hv3 : Below w2.heap.size w2 w3 := by rw [← hw3]; exact (Below.refl _ _).alloc (Nat.le_refl _) _
    have hA : Blk w3 w2.heap.size (rowC 32 KF).toArray 22 := by rw [HF0.out, ← hw3]; exact Blk.new _ _ _
    exact ⟨Blk.below h5 hv3 (Blk.lt h5), hT2.later hv3, AO.one hA (Nat.le_of_eq hbase.symm), fun i j => HKF.out j, hb02.trans (hv3.mono hb02.size), by rw [← hbase]; exact hv3.size, ⟨by omega, by omega⟩, fun a q ha hq => by
      have h9 := hT2.lt (Nat.le_refl 1) a ha
      have h8 : w2.heap.size = q := by simpa [Value.ownBlock] using hq
      omega⟩)
  have HW3 := Lib.hid hw3
  rw [hw2, hq5]
  clear hv h5 hT2 hb02 hT1 hb1 hw2 hq5 hw3
  go_wp2_with (first | (refine wpList_value rfl (exec_loadA (x := .tmp 2) (C := F0) rfl rfl HR2.out Tryd.underlying22 rfl HI0.out) ?_) | (refine wpList_bsA rfl (.tmp 21) rfl F0 rfl HBS0.out ?_; rw [HW3.out]))
  rw [hbase] at HKS
  go_loopw [6, 7] (fun y6 y7 wr => ∃ (i : Nat) (v : Value) (k : Nat) (o : Option Addr) (c : Nat) (S : Nat → Nat → Nat), i ≤ min n 24 ∧ y6 = v ∧ y7 = .int .i64 (i : Int) ∧ (k = min (i + 1) 16) ∧ KS b5 base k o c S v w wr) (fun _ y _ => 24 - (intOf y).toNat)
  case atStart => exact ⟨0, _, 1, _, _, _, Nat.zero_le _, rfl, rfl, by omega, HKS.out⟩
  case round =>
    obtain ⟨i, v, k, o, c, S, hi, rfl, rfl, hk, hKS⟩ := hrel
    clear HKS
    by_cases hlt : i < min n 24
    · have hk1 := hKS.k1
      obtain ⟨ov, cv, rfl, hcv, _, hov, hbv, hKLv⟩ := hKS.ao.out
      obtain ⟨av, rfl⟩ : ∃ a, ov = some a := by
        cases ov with
        | none => exact absurd (hov rfl) (by omega)
        | some a => exact ⟨a, rfl⟩
      have HAV : Hid (av.block < wr.heap.size) := Lib.hid (hbv av rfl).2
      have za1 : (i : Int) < (n : Int) := by omega
      have za2 : decide ((i : Int) < (n : Int)) = true := decide_eq_true za1
      have za7 : i < n := by omega
      have za8 : decide (i < n) = true := decide_eq_true za7
      have zb1 : (i : Int) < (24 : Int) := by omega
      have zb2 : decide ((i : Int) < (24 : Int)) = true := decide_eq_true zb1
      have zb7 : i < 24 := by omega
      have zb8 : decide (i < 24) = true := decide_eq_true zb7
      have i0 : (0 : Int) ≤ (i : Int) := by omega
      have k4 : IntKind.i64.wrap ((i : Int) + 1) = ((i + 1 : Nat) : Int) := by rw [IntWalk.i64_in _ (by omega)]; omega
      obtain ⟨bk, ok, ea, hrg⟩ := (HK.out.later hKS.bel) i (by omega)
      subst ea
      obtain ⟨F, hF⟩ : ∃ q, (rowC 32 (Q i)).toArray = q := ⟨_, rfl⟩
      have HF : Hid ((rowC 32 (Q i)).toArray = F) := Lib.hid hF
      have HI := Lib.hid (show i + 1 ≤ min n 24 ∧ k = min (i + 1) 16 from ⟨by omega, hk⟩)
      have HIF : Hid ((Tryd.prog.info? 22).map (·.size) = some F.size) := Lib.hid (by rw [← hF, List.size_toArray, rowC_len]; exact info_a32)
      have HBS : Hid (∀ w, (Instr.buildSlice 23 1 #[(0, .agg F)]).run Tryd.prog w = .ok (.slice (some ⟨w.heap.size, 0, none⟩) 1 1) (w.alloc (.cells F 22))) := Lib.hid (by rw [← hF]; exact bs_a1 (Q i))
      have HRW : Hid (∀ A, Below w.heap.size w A → A.rangeAt bk (ok + i * 32) F.toList) := Lib.hid fun A hA j u hu => by
        obtain ⟨b', o', e, hr⟩ := HK.out i (by omega)
        cases e
        rw [← hF] at hu
        exact cell_below hA (hr j u (by simpa using hu))
      have HSS : Hid (∀ A, Below wr.heap.size wr A → A.cell? ⟨b5, 0, none⟩ = some (.slice o k c) ∧ A.rangeAt bk (ok + i * 32) F.toList) := Lib.hid fun A hA => ⟨by rw [Blk.cell (Blk.below hKS.rg hA (Blk.lt hKS.rg))]; rfl, HRW.out A (hKS.bel.trans (hA.mono hKS.bel.size))⟩
      have HKS := Lib.hid hKS
      have HB7 := Lib.hid hKS.rg
      have HW := Lib.hid hKS.bel
      have HNU : Hid (∀ A, Below w.heap.size w A → Calls Tryd.prog 8 #[.iface 64 (.int .i64 7)] A fun e w' => e = .returned (.int .i64 7) ∧ Below A.heap.size A w') := Lib.hid fun A hA => num_err 7 A (HG.out.later hA).2
      by_cases hfull : k = 16
      · subst hfull
        have HRO : Hid (∀ A, Below wr.heap.size wr A → Calls Tryd.prog 7 #[.agg #[.slice o 16 c], .agg F] A fun e w' => e = .returned (.tuple #[.agg #[.slice none 0 0], .iface 64 (.int .i64 7)]) ∧ Below A.heap.size A w') := Lib.hid fun A hA => by
          rw [← hF]; exact rotate_full c o S (Q i) A (HKS.out.tl.later hA)
        have ht16 : decide (((16 : Nat) : Int) < 16) = false := by decide
        clear hrg hF hKS hi hlt hk hk1 hcv hov hbv hKLv
        go_upto_region 6 with fail
        have hvW0 : Below wr.heap.size wr wr.drew := (Below.refl _ _).drew
        have hSW0 := HSS.out _ hvW0
        refine wp_region_held_drew (S := (fun A => A.cell? ⟨b5, 0, none⟩ = some (.slice o 16 c) ∧ A.rangeAt bk (ok + i * 32) F.toList)) (by kernel_rfl) ?_ (fun hHeld => ?_)
        · (try dsimp only)
          (first | assumption | (dsimp only; assumption))
        generalize wr.drew = W0 at *
        refine wpAnyH_take (i := 0) (oi := { dst := some 34, op := Go.Op.load 26 (Go.Operand.tmp 5), type := 26, pos := "law.go:99", after := #[], guard := none }) (v := ?_) rfl (by kernel_rfl) (by kernel_rfl) (by kernel_rfl) (fun _ _ _ h => h) (Or.inl ⟨by rfl, ?_⟩) (by assumption) ?_
        rotate_left
        · intro wS hSw
          (have c := hSw.1; go_simp; (try with_reducible rfl))
        (try simp only [Act.put, List.setIfInBounds_toArray, List.set_cons_zero, List.set_cons_succ])
        refine wpAnyH_take (i := 1) (oi := { dst := some 35, op := Go.Op.move (Go.Operand.tmp 1), type := 23, pos := "law.go:99", after := #[], guard := none }) (v := ?_) rfl (by kernel_rfl) (by kernel_rfl) (by kernel_rfl) (fun _ _ _ h => h) (Or.inl ⟨by rfl, ?_⟩) (by assumption) ?_
        rotate_left
        · intro wS hSw
          (try dsimp only at hSw)
          go_simp
          (try with_reducible rfl)
        (try simp only [Act.put, List.setIfInBounds_toArray, List.set_cons_zero, List.set_cons_succ])
        refine wpAnyH_take (i := 2) (oi := { dst := some 36, op := Go.Op.move (Go.Operand.tmp 7), type := 3, pos := "law.go:99", after := #[], guard := none }) (v := ?_) rfl (by kernel_rfl) (by kernel_rfl) (by kernel_rfl) (fun _ _ _ h => h) (Or.inl ⟨by rfl, ?_⟩) (by assumption) ?_
        rotate_left
        · intro wS hSw
          (try dsimp only at hSw)
          go_simp
          (try with_reducible rfl)
        (try simp only [Act.put, List.setIfInBounds_toArray, List.set_cons_zero, List.set_cons_succ])
        refine wpAnyH_take (i := 3) (oi := { dst := some 37, op := Go.Op.indexAddr 23 (Go.Operand.tmp 35) (Go.Operand.tmp 36), type := 0, pos := "law.go:99", after := #[{ on := 1, ground := Go.Ground.data }, { on := 2, ground := Go.Ground.data }], guard := none }) (v := ?_) rfl (by kernel_rfl) (by kernel_rfl) (by kernel_rfl) (fun _ _ _ h => h) (Or.inl ⟨by rfl, ?_⟩) (by assumption) ?_
        rotate_left
        · intro wS hSw
          (try dsimp only at hSw)
          go_simp
          (try with_reducible rfl)
        (try simp only [Act.put, List.setIfInBounds_toArray, List.set_cons_zero, List.set_cons_succ])
        refine wpAnyH_take (i := 4) (oi := { dst := some 38, op := Go.Op.load 22 (Go.Operand.tmp 37), type := 22, pos := "law.go:99", after := #[{ on := 3, ground := Go.Ground.data }], guard := none }) (v := ?_) rfl (by kernel_rfl) (by kernel_rfl) (by kernel_rfl) (fun _ _ _ h => h) (Or.inl ⟨by rfl, ?_⟩) (by assumption) ?_
        rotate_left
        · intro wS hSw
          (refine exec_loadA (x := .tmp 37) (C := F) ?_ ?_ hSw.2 Tryd.underlying22 rfl HIF.out <;> rfl)
        (try simp only [Act.put, List.setIfInBounds_toArray, List.set_cons_zero, List.set_cons_succ])
        refine wpAnyH_ready (rs := [5, 9]) (by kernel_rfl) (by simp) ?_
        refine AllReadyH.cons (o := { dst := some 39, op := Go.Op.call { callee := Go.Callee.value (Go.Operand.func 7), args := #[Go.Operand.tmp 34, Go.Operand.tmp 38], argTypes := #[26, 22] }, type := 30, pos := "law.go:99", after := #[{ on := 0, ground := Go.Ground.data }, { on := 4, ground := Go.Ground.data }], guard := none }) rfl (fun K hK => ?_) ?_
        · skip
          go_simp
          (refine (HRO.out W0 hvW0).mono ?_; rintro e WRx5 ⟨rfl, hb2⟩; have hvWRx5 := Below.trans hvW0 (hb2.mono (Below.size hvW0)); have hSWRx5 := HSS.out _ hvWRx5; clear hb2; skip)
          (try go_wp2_with fail)
          refine hK.out _ _ ?_ (fun hHeld => ?_)
          · (try dsimp only)
            (first | assumption | (dsimp only; assumption))
          clear hK K
          (try simp only [Act.put, List.setIfInBounds_toArray, List.set_cons_zero, List.set_cons_succ])
          refine wpAnyH_take (i := 6) (oi := { dst := some 33, op := Go.Op.move (Go.Operand.tmp 39), type := 30, pos := "law.go:99", after := #[{ on := 5, ground := Go.Ground.data }], guard := none }) (v := ?_) rfl (by kernel_rfl) (by kernel_rfl) (by kernel_rfl) (fun _ _ _ h => h) (Or.inl ⟨by rfl, ?_⟩) (by assumption) ?_
          rotate_left
          · intro wS hSw
            (try dsimp only at hSw)
            go_simp
            (try with_reducible rfl)
          (try simp only [Act.put, List.setIfInBounds_toArray, List.set_cons_zero, List.set_cons_succ])
          refine wpAnyH_take (i := 7) (oi := { dst := some 40, op := Go.Op.extract (Go.Operand.tmp 33) 0, type := 26, pos := "law.go:99", after := #[{ on := 6, ground := Go.Ground.data }], guard := none }) (v := ?_) rfl (by kernel_rfl) (by kernel_rfl) (by kernel_rfl) (fun _ _ _ h => h) (Or.inl ⟨by rfl, ?_⟩) (by assumption) ?_
          rotate_left
          · intro wS hSw
            (try dsimp only at hSw)
            go_simp
            (try with_reducible rfl)
          (try simp only [Act.put, List.setIfInBounds_toArray, List.set_cons_zero, List.set_cons_succ])
          refine wpAnyH_take (i := 8) (oi := { dst := some 41, op := Go.Op.extract (Go.Operand.tmp 33) 1, type := 29, pos := "law.go:99", after := #[{ on := 6, ground := Go.Ground.data }, { on := 10, ground := Go.Ground.gcOnly Go.Departure.lateStores }], guard := none }) (v := ?_) rfl (by kernel_rfl) (by kernel_rfl) (by kernel_rfl) (fun _ _ _ h => h) (Or.inl ⟨by rfl, ?_⟩) (by assumption) ?_
          rotate_left
          · intro wS hSw
            (try dsimp only at hSw)
            go_simp
            (try with_reducible rfl)
          (try simp only [Act.put, List.setIfInBounds_toArray, List.set_cons_zero, List.set_cons_succ])
          refine wpAnyH_ready (rs := [9]) (by kernel_rfl) (by simp) ?_
          refine AllReadyH.cons (o := { dst := some 8, op := Go.Op.alloc 26, type := 0, pos := "law.go:99", after := #[], guard := none }) rfl (fun K hK => ?_) AllReadyH.nil
          go_simp
          (obtain ⟨b9, hq9⟩ : ∃ q, WRx5.heap.size = q := ⟨_, rfl⟩; obtain ⟨WAx5, hw⟩ : ∃ q, WRx5.alloc (.cells #[.slice none 0 0] 26) = q := ⟨_, rfl⟩; rw [hw, hq9]; have hv : Below WRx5.heap.size WRx5 WAx5 := (by rw [← hw]; exact (Below.refl _ _).alloc (Nat.le_refl _) _); have h9b : Blk WAx5 b9 #[.slice none 0 0] 26 := (by rw [← hw, ← hq9]; exact Blk.new _ _ _); have hge : wr.heap.size ≤ b9 := (by rw [← hq9]; exact Below.size hvWRx5); have hvWAx5 := Below.trans hvWRx5 (hv.mono (Below.size hvWRx5)); have hSWAx5 := HSS.out _ hvWAx5; clear hv hw hq9; skip)
          (try go_wp2_with fail)
          refine hK.out _ _ ?_ (fun hHeld => ?_)
          · (try dsimp only)
            (first | assumption | (dsimp only; assumption))
          clear hK K
          (try simp only [Act.put, List.setIfInBounds_toArray, List.set_cons_zero, List.set_cons_succ])
          refine wpAnyH_ready (rs := [10]) (by kernel_rfl) (by simp) ?_
          refine AllReadyH.cons (o := { dst := none, op := Go.Op.store 26 (Go.Operand.tmp 8) (Go.Operand.tmp 40), type := 0, pos := "law.go:99", after := #[{ on := 9, ground := Go.Ground.data }, { on := 7, ground := Go.Ground.data }, { on := 5, ground := Go.Ground.chain }, { on := 0, ground := Go.Ground.phase }, { on := 1, ground := Go.Ground.phase }, { on := 2, ground := Go.Ground.phase }, { on := 3, ground := Go.Ground.phase }, { on := 4, ground := Go.Ground.phase }, { on := 5, ground := Go.Ground.phase }, { on := 6, ground := Go.Ground.phase }, { on := 7, ground := Go.Ground.phase }, { on := 8, ground := Go.Ground.textOnly Go.Departure.lateStores }, { on := 9, ground := Go.Ground.phase }], guard := none }) rfl (fun K hK => ?_) AllReadyH.nil
          (have c9 : WAx5.cell? ⟨b9, 0, none⟩ = some (.slice none 0 0) := (by rw [Blk.cell h9b]; rfl); have f9 : WAx5.frozen? ⟨b9, 0, none⟩ = false := Blk.free h9b 0; go_simp; have hO9 := (Own.refl b9 WAx5).set 0 (.slice none 0 0); have h9c := h9b.set 0 (.slice none 0 0); have hvX9 := Below.trans hvWAx5 (hO9.below hge (Below.size hvWAx5)); have hSX9 := HSS.out _ hvX9; clear c9 f9; generalize WAx5.setCell ⟨b9, 0, none⟩ (.slice none 0 0) = X9 at *; skip)
          refine hK.out _ _ ?_ (fun hHeld => ?_)
          · (try dsimp only)
            (first | assumption | (dsimp only; assumption))
          clear hK K
          (try simp only [Act.put, List.setIfInBounds_toArray, List.set_cons_zero, List.set_cons_succ])
          refine wpAnyH_take (i := 11) (oi := { dst := some 9, op := Go.Op.assign (Go.Operand.tmp 41), type := 29, pos := "law.go:99", after := #[{ on := 8, ground := Go.Ground.data }, { on := 10, ground := Go.Ground.chain }, { on := 0, ground := Go.Ground.phase }, { on := 1, ground := Go.Ground.phase }, { on := 2, ground := Go.Ground.phase }, { on := 3, ground := Go.Ground.phase }, { on := 4, ground := Go.Ground.phase }, { on := 5, ground := Go.Ground.phase }, { on := 6, ground := Go.Ground.phase }, { on := 7, ground := Go.Ground.phase }, { on := 8, ground := Go.Ground.phase }, { on := 9, ground := Go.Ground.phase }, { on := 10, ground := Go.Ground.phase }], guard := none }) (v := ?_) rfl (by kernel_rfl) (by kernel_rfl) (by kernel_rfl) (fun _ _ _ h => h) (Or.inl ⟨by rfl, ?_⟩) (by assumption) ?_
          rotate_left
          · intro wS hSw
            (try dsimp only at hSw)
            go_simp
            (try with_reducible rfl)
          (try simp only [Act.put, List.setIfInBounds_toArray, List.set_cons_zero, List.set_cons_succ])
          refine wpAnyH_done (by kernel_rfl) ?_ _
          have HV9 := Lib.hid hvX9
          clear h9b h9c hvX9 hSX9 hO9
          go_wp2_with (go_at_call 8; refine (HNU.out X9 (HW.out.trans (HV9.out.mono HW.out.size))).mono ?_; rintro e XN ⟨rfl, hbn⟩; have HBN := Lib.hid hbn; clear hbn)
          go_roundw
          case rel => exact ⟨i + 1, _, 16, o, c, S, HI.out.1, rfl, by first | rfl | go_num, by have := HI.out; omega, HKS.out.later (HV9.out.trans (HBN.out.mono HV9.out.size))⟩
          case measure => have := HI.out; simp [intOf]; omega
        refine AllReadyH.cons (o := { dst := some 8, op := Go.Op.alloc 26, type := 0, pos := "law.go:99", after := #[], guard := none }) rfl (fun K hK => ?_) AllReadyH.nil
        go_simp
        (obtain ⟨b9, hq9⟩ : ∃ q, W0.heap.size = q := ⟨_, rfl⟩; obtain ⟨WAx9, hw⟩ : ∃ q, W0.alloc (.cells #[.slice none 0 0] 26) = q := ⟨_, rfl⟩; rw [hw, hq9]; have hv : Below W0.heap.size W0 WAx9 := (by rw [← hw]; exact (Below.refl _ _).alloc (Nat.le_refl _) _); have h9b : Blk WAx9 b9 #[.slice none 0 0] 26 := (by rw [← hw, ← hq9]; exact Blk.new _ _ _); have hge : wr.heap.size ≤ b9 := (by rw [← hq9]; exact Below.size hvW0); have hvWAx9 := Below.trans hvW0 (hv.mono (Below.size hvW0)); have hSWAx9 := HSS.out _ hvWAx9; clear hv hw hq9; skip)
        (try go_wp2_with fail)
        refine hK.out _ _ ?_ (fun hHeld => ?_)
        · (try dsimp only)
          (first | assumption | (dsimp only; assumption))
        clear hK K
        (try simp only [Act.put, List.setIfInBounds_toArray, List.set_cons_zero, List.set_cons_succ])
        refine wpAnyH_ready (rs := [5]) (by kernel_rfl) (by simp) ?_
        refine AllReadyH.cons (o := { dst := some 39, op := Go.Op.call { callee := Go.Callee.value (Go.Operand.func 7), args := #[Go.Operand.tmp 34, Go.Operand.tmp 38], argTypes := #[26, 22] }, type := 30, pos := "law.go:99", after := #[{ on := 0, ground := Go.Ground.data }, { on := 4, ground := Go.Ground.data }], guard := none }) rfl (fun K hK => ?_) AllReadyH.nil
        go_simp
        (refine (HRO.out WAx9 hvWAx9).mono ?_; rintro e WRx9 ⟨rfl, hb2⟩; have h9b := Blk.below h9b hb2 (Blk.lt h9b); have hvWRx9 := Below.trans hvWAx9 (hb2.mono (Below.size hvWAx9)); have hSWRx9 := HSS.out _ hvWRx9; clear hb2; skip)
        (try go_wp2_with fail)
        refine hK.out _ _ ?_ (fun hHeld => ?_)
        · (try dsimp only)
          (first | assumption | (dsimp only; assumption))
        clear hK K
        (try simp only [Act.put, List.setIfInBounds_toArray, List.set_cons_zero, List.set_cons_succ])
        refine wpAnyH_take (i := 6) (oi := { dst := some 33, op := Go.Op.move (Go.Operand.tmp 39), type := 30, pos := "law.go:99", after := #[{ on := 5, ground := Go.Ground.data }], guard := none }) (v := ?_) rfl (by kernel_rfl) (by kernel_rfl) (by kernel_rfl) (fun _ _ _ h => h) (Or.inl ⟨by rfl, ?_⟩) (by assumption) ?_
        rotate_left
        · intro wS hSw
          (try dsimp only at hSw)
          go_simp
          (try with_reducible rfl)
        (try simp only [Act.put, List.setIfInBounds_toArray, List.set_cons_zero, List.set_cons_succ])
        refine wpAnyH_take (i := 7) (oi := { dst := some 40, op := Go.Op.extract (Go.Operand.tmp 33) 0, type := 26, pos := "law.go:99", after := #[{ on := 6, ground := Go.Ground.data }], guard := none }) (v := ?_) rfl (by kernel_rfl) (by kernel_rfl) (by kernel_rfl) (fun _ _ _ h => h) (Or.inl ⟨by rfl, ?_⟩) (by assumption) ?_
        rotate_left
        · intro wS hSw
          (try dsimp only at hSw)
          go_simp
          (try with_reducible rfl)
        (try simp only [Act.put, List.setIfInBounds_toArray, List.set_cons_zero, List.set_cons_succ])
        refine wpAnyH_take (i := 8) (oi := { dst := some 41, op := Go.Op.extract (Go.Operand.tmp 33) 1, type := 29, pos := "law.go:99", after := #[{ on := 6, ground := Go.Ground.data }, { on := 10, ground := Go.Ground.gcOnly Go.Departure.lateStores }], guard := none }) (v := ?_) rfl (by kernel_rfl) (by kernel_rfl) (by kernel_rfl) (fun _ _ _ h => h) (Or.inl ⟨by rfl, ?_⟩) (by assumption) ?_
        rotate_left
        · intro wS hSw
          (try dsimp only at hSw)
          go_simp
          (try with_reducible rfl)
        (try simp only [Act.put, List.setIfInBounds_toArray, List.set_cons_zero, List.set_cons_succ])
        refine wpAnyH_ready (rs := [10]) (by kernel_rfl) (by simp) ?_
        refine AllReadyH.cons (o := { dst := none, op := Go.Op.store 26 (Go.Operand.tmp 8) (Go.Operand.tmp 40), type := 0, pos := "law.go:99", after := #[{ on := 9, ground := Go.Ground.data }, { on := 7, ground := Go.Ground.data }, { on := 5, ground := Go.Ground.chain }, { on := 0, ground := Go.Ground.phase }, { on := 1, ground := Go.Ground.phase }, { on := 2, ground := Go.Ground.phase }, { on := 3, ground := Go.Ground.phase }, { on := 4, ground := Go.Ground.phase }, { on := 5, ground := Go.Ground.phase }, { on := 6, ground := Go.Ground.phase }, { on := 7, ground := Go.Ground.phase }, { on := 8, ground := Go.Ground.textOnly Go.Departure.lateStores }, { on := 9, ground := Go.Ground.phase }], guard := none }) rfl (fun K hK => ?_) AllReadyH.nil
        (have c9 : WRx9.cell? ⟨b9, 0, none⟩ = some (.slice none 0 0) := (by rw [Blk.cell h9b]; rfl); have f9 : WRx9.frozen? ⟨b9, 0, none⟩ = false := Blk.free h9b 0; go_simp; have hO9 := (Own.refl b9 WRx9).set 0 (.slice none 0 0); have h9c := h9b.set 0 (.slice none 0 0); have hvX9 := Below.trans hvWRx9 (hO9.below hge (Below.size hvWRx9)); have hSX9 := HSS.out _ hvX9; clear c9 f9; generalize WRx9.setCell ⟨b9, 0, none⟩ (.slice none 0 0) = X9 at *; skip)
        refine hK.out _ _ ?_ (fun hHeld => ?_)
        · (try dsimp only)
          (first | assumption | (dsimp only; assumption))
        clear hK K
        (try simp only [Act.put, List.setIfInBounds_toArray, List.set_cons_zero, List.set_cons_succ])
        refine wpAnyH_take (i := 11) (oi := { dst := some 9, op := Go.Op.assign (Go.Operand.tmp 41), type := 29, pos := "law.go:99", after := #[{ on := 8, ground := Go.Ground.data }, { on := 10, ground := Go.Ground.chain }, { on := 0, ground := Go.Ground.phase }, { on := 1, ground := Go.Ground.phase }, { on := 2, ground := Go.Ground.phase }, { on := 3, ground := Go.Ground.phase }, { on := 4, ground := Go.Ground.phase }, { on := 5, ground := Go.Ground.phase }, { on := 6, ground := Go.Ground.phase }, { on := 7, ground := Go.Ground.phase }, { on := 8, ground := Go.Ground.phase }, { on := 9, ground := Go.Ground.phase }, { on := 10, ground := Go.Ground.phase }], guard := none }) (v := ?_) rfl (by kernel_rfl) (by kernel_rfl) (by kernel_rfl) (fun _ _ _ h => h) (Or.inl ⟨by rfl, ?_⟩) (by assumption) ?_
        rotate_left
        · intro wS hSw
          (try dsimp only at hSw)
          go_simp
          (try with_reducible rfl)
        (try simp only [Act.put, List.setIfInBounds_toArray, List.set_cons_zero, List.set_cons_succ])
        refine wpAnyH_done (by kernel_rfl) ?_ _
        have HV9 := Lib.hid hvX9
        clear h9b h9c hvX9 hSX9 hO9
        go_wp2_with (go_at_call 8; refine (HNU.out X9 (HW.out.trans (HV9.out.mono HW.out.size))).mono ?_; rintro e XN ⟨rfl, hbn⟩; have HBN := Lib.hid hbn; clear hbn)
        go_roundw
        case rel => exact ⟨i + 1, _, 16, o, c, S, HI.out.1, rfl, by first | rfl | go_num, by have := HI.out; omega, HKS.out.later (HV9.out.trans (HBN.out.mono HV9.out.size))⟩
        case measure => have := HI.out; simp [intOf]; omega
      · obtain ⟨i2, hi2⟩ : ∃ q, k + 1 = q := ⟨_, rfl⟩
        obtain ⟨S2, hS2⟩ : ∃ q, catT k S (fun _ => Q i) = q := ⟨_, rfl⟩
        have hki : k = i + 1 := by omega
        have HI2 : Hid (i2 = k + 1 ∧ 1 ≤ i2 ∧ k = i + 1 ∧ i2 ≤ 16) := Lib.hid (by omega)
        have HS2 : Hid (∀ i j, S2 i j < 256) := Lib.hid fun p q => by rw [← hS2]; unfold catT; split <;> first | exact hKS.lt _ _ | exact HQ.out _ _
        have HRO : Hid (∀ A, Below wr.heap.size wr A → Calls Tryd.prog 7 #[.agg #[.slice o k c], .agg F] A fun e w' => ∃ o2 c2, e = .returned (.tuple #[.agg #[.slice o2 i2 c2], .nilIface]) ∧ TL w' o2 i2 (fun i => i + 1) S2 ∧ (∀ a, o2 = some a → A.heap.size ≤ a.block) ∧ Below A.heap.size A w') := Lib.hid fun A hA => by
          rw [← hF, ← hS2, ← hi2]
          exact rotate_fr k c o _ S (Q i) A (HKS.out.tl.later hA) ⟨by omega, by omega, fun _ _ => rfl⟩ (by omega)
        have ht1 : (k : Int) < 16 := by omega
        have ht16 : decide ((k : Int) < 16) = true := decide_eq_true ht1
        have HS2E : Hid (catT k S (fun _ => Q i) = S2) := Lib.hid hS2
        clear hrg hF hKS hi hlt hk hk1 hcv hov hbv hKLv hi2 hS2 hki hfull
        go_upto_region 6 with fail
        have hvW0 : Below wr.heap.size wr wr.drew := (Below.refl _ _).drew
        have hSW0 := HSS.out _ hvW0
        refine wp_region_held_drew (S := (fun A => A.cell? ⟨b5, 0, none⟩ = some (.slice o k c) ∧ A.rangeAt bk (ok + i * 32) F.toList)) (by kernel_rfl) ?_ (fun hHeld => ?_)
        · (try dsimp only)
          (first | assumption | (dsimp only; assumption))
        generalize wr.drew = W0 at *
        refine wpAnyH_take (i := 0) (oi := { dst := some 34, op := Go.Op.load 26 (Go.Operand.tmp 5), type := 26, pos := "law.go:99", after := #[], guard := none }) (v := ?_) rfl (by kernel_rfl) (by kernel_rfl) (by kernel_rfl) (fun _ _ _ h => h) (Or.inl ⟨by rfl, ?_⟩) (by assumption) ?_
        rotate_left
        · intro wS hSw
          (have c := hSw.1; go_simp; (try with_reducible rfl))
        (try simp only [Act.put, List.setIfInBounds_toArray, List.set_cons_zero, List.set_cons_succ])
        refine wpAnyH_take (i := 1) (oi := { dst := some 35, op := Go.Op.move (Go.Operand.tmp 1), type := 23, pos := "law.go:99", after := #[], guard := none }) (v := ?_) rfl (by kernel_rfl) (by kernel_rfl) (by kernel_rfl) (fun _ _ _ h => h) (Or.inl ⟨by rfl, ?_⟩) (by assumption) ?_
        rotate_left
        · intro wS hSw
          (try dsimp only at hSw)
          go_simp
          (try with_reducible rfl)
        (try simp only [Act.put, List.setIfInBounds_toArray, List.set_cons_zero, List.set_cons_succ])
        refine wpAnyH_take (i := 2) (oi := { dst := some 36, op := Go.Op.move (Go.Operand.tmp 7), type := 3, pos := "law.go:99", after := #[], guard := none }) (v := ?_) rfl (by kernel_rfl) (by kernel_rfl) (by kernel_rfl) (fun _ _ _ h => h) (Or.inl ⟨by rfl, ?_⟩) (by assumption) ?_
        rotate_left
        · intro wS hSw
          (try dsimp only at hSw)
          go_simp
          (try with_reducible rfl)
        (try simp only [Act.put, List.setIfInBounds_toArray, List.set_cons_zero, List.set_cons_succ])
        refine wpAnyH_take (i := 3) (oi := { dst := some 37, op := Go.Op.indexAddr 23 (Go.Operand.tmp 35) (Go.Operand.tmp 36), type := 0, pos := "law.go:99", after := #[{ on := 1, ground := Go.Ground.data }, { on := 2, ground := Go.Ground.data }], guard := none }) (v := ?_) rfl (by kernel_rfl) (by kernel_rfl) (by kernel_rfl) (fun _ _ _ h => h) (Or.inl ⟨by rfl, ?_⟩) (by assumption) ?_
        rotate_left
        · intro wS hSw
          (try dsimp only at hSw)
          go_simp
          (try with_reducible rfl)
        (try simp only [Act.put, List.setIfInBounds_toArray, List.set_cons_zero, List.set_cons_succ])
        refine wpAnyH_take (i := 4) (oi := { dst := some 38, op := Go.Op.load 22 (Go.Operand.tmp 37), type := 22, pos := "law.go:99", after := #[{ on := 3, ground := Go.Ground.data }], guard := none }) (v := ?_) rfl (by kernel_rfl) (by kernel_rfl) (by kernel_rfl) (fun _ _ _ h => h) (Or.inl ⟨by rfl, ?_⟩) (by assumption) ?_
        rotate_left
        · intro wS hSw
          (refine exec_loadA (x := .tmp 37) (C := F) ?_ ?_ hSw.2 Tryd.underlying22 rfl HIF.out <;> rfl)
        (try simp only [Act.put, List.setIfInBounds_toArray, List.set_cons_zero, List.set_cons_succ])
        refine wpAnyH_ready (rs := [5, 9]) (by kernel_rfl) (by simp) ?_
        refine AllReadyH.cons (o := { dst := some 39, op := Go.Op.call { callee := Go.Callee.value (Go.Operand.func 7), args := #[Go.Operand.tmp 34, Go.Operand.tmp 38], argTypes := #[26, 22] }, type := 30, pos := "law.go:99", after := #[{ on := 0, ground := Go.Ground.data }, { on := 4, ground := Go.Ground.data }], guard := none }) rfl (fun K hK => ?_) ?_
        · skip
          go_simp
          (refine (HRO.out W0 hvW0).mono ?_; rintro e WRx5 ⟨o2, c2, rfl, hT2, hf2, hb2⟩; have HFS : Hid (∀ a, o2 = some a → wr.heap.size ≤ a.block) := Lib.hid (fun a ha => Nat.le_trans (Below.size hvW0) (hf2 a ha)); clear hf2; have hvWRx5 := Below.trans hvW0 (hb2.mono (Below.size hvW0)); have hSWRx5 := HSS.out _ hvWRx5; clear hb2; skip)
          (try go_wp2_with fail)
          refine hK.out _ _ ?_ (fun hHeld => ?_)
          · (try dsimp only)
            (first | assumption | (dsimp only; assumption))
          clear hK K
          (try simp only [Act.put, List.setIfInBounds_toArray, List.set_cons_zero, List.set_cons_succ])
          refine wpAnyH_take (i := 6) (oi := { dst := some 33, op := Go.Op.move (Go.Operand.tmp 39), type := 30, pos := "law.go:99", after := #[{ on := 5, ground := Go.Ground.data }], guard := none }) (v := ?_) rfl (by kernel_rfl) (by kernel_rfl) (by kernel_rfl) (fun _ _ _ h => h) (Or.inl ⟨by rfl, ?_⟩) (by assumption) ?_
          rotate_left
          · intro wS hSw
            (try dsimp only at hSw)
            go_simp
            (try with_reducible rfl)
          (try simp only [Act.put, List.setIfInBounds_toArray, List.set_cons_zero, List.set_cons_succ])
          refine wpAnyH_take (i := 7) (oi := { dst := some 40, op := Go.Op.extract (Go.Operand.tmp 33) 0, type := 26, pos := "law.go:99", after := #[{ on := 6, ground := Go.Ground.data }], guard := none }) (v := ?_) rfl (by kernel_rfl) (by kernel_rfl) (by kernel_rfl) (fun _ _ _ h => h) (Or.inl ⟨by rfl, ?_⟩) (by assumption) ?_
          rotate_left
          · intro wS hSw
            (try dsimp only at hSw)
            go_simp
            (try with_reducible rfl)
          (try simp only [Act.put, List.setIfInBounds_toArray, List.set_cons_zero, List.set_cons_succ])
          refine wpAnyH_take (i := 8) (oi := { dst := some 41, op := Go.Op.extract (Go.Operand.tmp 33) 1, type := 29, pos := "law.go:99", after := #[{ on := 6, ground := Go.Ground.data }, { on := 10, ground := Go.Ground.gcOnly Go.Departure.lateStores }], guard := none }) (v := ?_) rfl (by kernel_rfl) (by kernel_rfl) (by kernel_rfl) (fun _ _ _ h => h) (Or.inl ⟨by rfl, ?_⟩) (by assumption) ?_
          rotate_left
          · intro wS hSw
            (try dsimp only at hSw)
            go_simp
            (try with_reducible rfl)
          (try simp only [Act.put, List.setIfInBounds_toArray, List.set_cons_zero, List.set_cons_succ])
          refine wpAnyH_ready (rs := [9]) (by kernel_rfl) (by simp) ?_
          refine AllReadyH.cons (o := { dst := some 8, op := Go.Op.alloc 26, type := 0, pos := "law.go:99", after := #[], guard := none }) rfl (fun K hK => ?_) AllReadyH.nil
          go_simp
          (obtain ⟨b9, hq9⟩ : ∃ q, WRx5.heap.size = q := ⟨_, rfl⟩; obtain ⟨WAx5, hw⟩ : ∃ q, WRx5.alloc (.cells #[.slice none 0 0] 26) = q := ⟨_, rfl⟩; rw [hw, hq9]; have hv : Below WRx5.heap.size WRx5 WAx5 := (by rw [← hw]; exact (Below.refl _ _).alloc (Nat.le_refl _) _); have h9b : Blk WAx5 b9 #[.slice none 0 0] 26 := (by rw [← hw, ← hq9]; exact Blk.new _ _ _); have hge : wr.heap.size ≤ b9 := (by rw [← hq9]; exact Below.size hvWRx5); have hT2 := hT2.later hv; have hvWAx5 := Below.trans hvWRx5 (hv.mono (Below.size hvWRx5)); have hSWAx5 := HSS.out _ hvWAx5; clear hv hw hq9; skip)
          (try go_wp2_with fail)
          refine hK.out _ _ ?_ (fun hHeld => ?_)
          · (try dsimp only)
            (first | assumption | (dsimp only; assumption))
          clear hK K
          (try simp only [Act.put, List.setIfInBounds_toArray, List.set_cons_zero, List.set_cons_succ])
          refine wpAnyH_ready (rs := [10]) (by kernel_rfl) (by simp) ?_
          refine AllReadyH.cons (o := { dst := none, op := Go.Op.store 26 (Go.Operand.tmp 8) (Go.Operand.tmp 40), type := 0, pos := "law.go:99", after := #[{ on := 9, ground := Go.Ground.data }, { on := 7, ground := Go.Ground.data }, { on := 5, ground := Go.Ground.chain }, { on := 0, ground := Go.Ground.phase }, { on := 1, ground := Go.Ground.phase }, { on := 2, ground := Go.Ground.phase }, { on := 3, ground := Go.Ground.phase }, { on := 4, ground := Go.Ground.phase }, { on := 5, ground := Go.Ground.phase }, { on := 6, ground := Go.Ground.phase }, { on := 7, ground := Go.Ground.phase }, { on := 8, ground := Go.Ground.textOnly Go.Departure.lateStores }, { on := 9, ground := Go.Ground.phase }], guard := none }) rfl (fun K hK => ?_) AllReadyH.nil
          (have c9 : WAx5.cell? ⟨b9, 0, none⟩ = some (.slice none 0 0) := (by rw [Blk.cell h9b]; rfl); have f9 : WAx5.frozen? ⟨b9, 0, none⟩ = false := Blk.free h9b 0; go_simp; have hO9 := (Own.refl b9 WAx5).set 0 (.slice o2 i2 c2); have h9c := h9b.set 0 (.slice o2 i2 c2); have hT3 := hT2.away hO9 (hT2.not (by have := HI2.out; omega) h9b (fun _ _ e => by cases e)); have hvX9 := Below.trans hvWAx5 (hO9.below hge (Below.size hvWAx5)); have hSX9 := HSS.out _ hvX9; clear c9 f9; generalize WAx5.setCell ⟨b9, 0, none⟩ (.slice o2 i2 c2) = X9 at *; skip)
          refine hK.out _ _ ?_ (fun hHeld => ?_)
          · (try dsimp only)
            (first | assumption | (dsimp only; assumption))
          clear hK K
          (try simp only [Act.put, List.setIfInBounds_toArray, List.set_cons_zero, List.set_cons_succ])
          refine wpAnyH_take (i := 11) (oi := { dst := some 9, op := Go.Op.assign (Go.Operand.tmp 41), type := 29, pos := "law.go:99", after := #[{ on := 8, ground := Go.Ground.data }, { on := 10, ground := Go.Ground.chain }, { on := 0, ground := Go.Ground.phase }, { on := 1, ground := Go.Ground.phase }, { on := 2, ground := Go.Ground.phase }, { on := 3, ground := Go.Ground.phase }, { on := 4, ground := Go.Ground.phase }, { on := 5, ground := Go.Ground.phase }, { on := 6, ground := Go.Ground.phase }, { on := 7, ground := Go.Ground.phase }, { on := 8, ground := Go.Ground.phase }, { on := 9, ground := Go.Ground.phase }, { on := 10, ground := Go.Ground.phase }], guard := none }) (v := ?_) rfl (by kernel_rfl) (by kernel_rfl) (by kernel_rfl) (fun _ _ _ h => h) (Or.inl ⟨by rfl, ?_⟩) (by assumption) ?_
          rotate_left
          · intro wS hSw
            (try dsimp only at hSw)
            go_simp
            (try with_reducible rfl)
          (try simp only [Act.put, List.setIfInBounds_toArray, List.set_cons_zero, List.set_cons_succ])
          refine wpAnyH_done (by kernel_rfl) ?_ _
          have H7 := Lib.hid (Blk.below HB7.out hvX9 (Blk.lt HB7.out))
          have c9 : X9.cell? ⟨b9, 0, none⟩ = some (.slice o2 i2 c2) := by rw [Blk.cell h9c]; rfl
          have c7 : X9.cell? ⟨b5, 0, none⟩ = some (.slice o k c) := hSX9.1
          have f7 : X9.frozen? ⟨b5, 0, none⟩ = false := Blk.free H7.out 0
          have HT3 := Lib.hid hT3
          have HV9 := Lib.hid hvX9
          obtain ⟨XB, hXB⟩ : ∃ q, X9.setCell ⟨b5, 0, none⟩ (.slice o2 i2 c2) = q := ⟨_, rfl⟩
          have hO7 : Own b5 X9 XB := by rw [← hXB]; exact (Own.refl b5 X9).set 0 (.slice o2 i2 c2)
          have HT4 := Lib.hid (HT3.out.away hO7 (HT3.out.not (by have := HI2.out; omega) H7.out (fun _ _ e => by cases e)))
          have H75 : Hid (Blk XB b5 #[.slice o2 i2 c2] 26) := Lib.hid (by rw [← hXB]; exact H7.out.set 0 _)
          have HVB := Lib.hid ((HW.out.trans (HV9.out.mono HW.out.size)).trans (hO7.below HGE.out.1 (Nat.le_trans HW.out.size HV9.out.size)))
          have HAO := Lib.hid ((HKS.out.ao.later HV9.out).own hO7 HGE.out.2)
          have HSZ := Lib.hid (Nat.le_trans HKS.out.sz (Nat.le_trans HV9.out.size hO7.size))
          have HXB := Lib.hid hXB
          have HRG := Lib.hid (HRW.out XB HVB.out)
          clear h9b h9c hT2 hT3 hvX9 hSX9 hO9 hO7 hXB
          have HAB : Hid (Blk (XB.alloc (.cells F 22)) XB.heap.size (rowC 32 (Q i)).toArray 22) := Lib.hid (by rw [HF.out]; exact Blk.new _ _ _)
          have HAA : Hid (AO (XB.alloc (.cells F 22)) base (.slice (some av) k cv) k S) := Lib.hid (HAO.out.later ((Below.refl _ _).alloc (Nat.le_refl _) _))
          go_wp2_with (first | (refine wpList_value rfl (exec_loadA (x := .tmp 63) (C := F) rfl rfl HRG.out Tryd.underlying22 rfl HIF.out) ?_) | (refine wpList_bsA rfl (.tmp 64) rfl F rfl HBS.out ?_) | (refine app_AO rfl (.tmp 60) (.tmp 65) rfl base (.slice (some av) k cv) k XB.heap.size 1 S (Q i) (XB.alloc (.cells F 22)) rfl HAA.out rfl HAB.out (by have := HI.out; omega) (Nat.le_trans HSZ.out (by simp)) ?_; intro v2 XC hao hbc hgc hob; have HAC := Lib.hid hao; have HBC := Lib.hid (And.intro hbc hgc); have HOB := Lib.hid hob; clear hao hbc hgc hob) | (rw [HXB.out]))
          go_roundw
          case rel =>
            have hA : Below w.heap.size w (XB.alloc (.cells F 22)) := HVB.out.trans ((Below.refl w.heap.size XB).alloc HVB.out.size _)
            have hge := HGE.out
            refine ⟨i + 1, v2, i2, o2, c2, S2, HI.out.1, rfl, by first | rfl | go_num, by have := HI2.out; omega, Blk.below (H75.out.alloc _) HBC.out.1 HGE.out.2, ?_, ?_, HS2.out, hA.trans (HBC.out.1.mono (by omega)), Nat.le_trans HSZ.out (Nat.le_trans (by simp) HBC.out.2.size), by have := HI2.out; omega, ?_⟩
            · exact (HT4.out.later ((Below.refl _ _).alloc (Nat.le_refl _) (.cells F 22))).grown HBC.out.2 (fun a ha e => by have h1 := HFS.out a ha; have h2 := HAV.out; have h3 : av.block = a.block := Option.some.inj e; omega)
            · have h9 := HAC.out; rw [HS2E.out, ← HI2.out.1] at h9; exact h9
            · intro a q ha hq
              rcases HOB.out with e | e
              · have h1 := HFS.out a ha; have h2 := HAV.out
                have h3 : av.block = q := Option.some.inj (e.symm.trans hq)
                omega
              · have h1 := HT4.out.lt HI2.out.2.1 a ha
                have h3 : (XB.alloc (.cells F 22)).heap.size = q := Option.some.inj (e.symm.trans hq)
                have h4 : (XB.alloc (.cells F 22)).heap.size = XB.heap.size + 1 := by simp
                omega
          case measure => have := HI.out; simp [intOf]; omega
        refine AllReadyH.cons (o := { dst := some 8, op := Go.Op.alloc 26, type := 0, pos := "law.go:99", after := #[], guard := none }) rfl (fun K hK => ?_) AllReadyH.nil
        go_simp
        (obtain ⟨b9, hq9⟩ : ∃ q, W0.heap.size = q := ⟨_, rfl⟩; obtain ⟨WAx9, hw⟩ : ∃ q, W0.alloc (.cells #[.slice none 0 0] 26) = q := ⟨_, rfl⟩; rw [hw, hq9]; have hv : Below W0.heap.size W0 WAx9 := (by rw [← hw]; exact (Below.refl _ _).alloc (Nat.le_refl _) _); have h9b : Blk WAx9 b9 #[.slice none 0 0] 26 := (by rw [← hw, ← hq9]; exact Blk.new _ _ _); have hge : wr.heap.size ≤ b9 := (by rw [← hq9]; exact Below.size hvW0); have hvWAx9 := Below.trans hvW0 (hv.mono (Below.size hvW0)); have hSWAx9 := HSS.out _ hvWAx9; clear hv hw hq9; skip)
        (try go_wp2_with fail)
        refine hK.out _ _ ?_ (fun hHeld => ?_)
        · (try dsimp only)
          (first | assumption | (dsimp only; assumption))
        clear hK K
        (try simp only [Act.put, List.setIfInBounds_toArray, List.set_cons_zero, List.set_cons_succ])
        refine wpAnyH_ready (rs := [5]) (by kernel_rfl) (by simp) ?_
        refine AllReadyH.cons (o := { dst := some 39, op := Go.Op.call { callee := Go.Callee.value (Go.Operand.func 7), args := #[Go.Operand.tmp 34, Go.Operand.tmp 38], argTypes := #[26, 22] }, type := 30, pos := "law.go:99", after := #[{ on := 0, ground := Go.Ground.data }, { on := 4, ground := Go.Ground.data }], guard := none }) rfl (fun K hK => ?_) AllReadyH.nil
        go_simp
        (refine (HRO.out WAx9 hvWAx9).mono ?_; rintro e WRx9 ⟨o2, c2, rfl, hT2, hf2, hb2⟩; have h9b := Blk.below h9b hb2 (Blk.lt h9b); have HFS : Hid (∀ a, o2 = some a → wr.heap.size ≤ a.block) := Lib.hid (fun a ha => Nat.le_trans (Below.size hvWAx9) (hf2 a ha)); clear hf2; have hvWRx9 := Below.trans hvWAx9 (hb2.mono (Below.size hvWAx9)); have hSWRx9 := HSS.out _ hvWRx9; clear hb2; skip)
        (try go_wp2_with fail)
        refine hK.out _ _ ?_ (fun hHeld => ?_)
        · (try dsimp only)
          (first | assumption | (dsimp only; assumption))
        clear hK K
        (try simp only [Act.put, List.setIfInBounds_toArray, List.set_cons_zero, List.set_cons_succ])
        refine wpAnyH_take (i := 6) (oi := { dst := some 33, op := Go.Op.move (Go.Operand.tmp 39), type := 30, pos := "law.go:99", after := #[{ on := 5, ground := Go.Ground.data }], guard := none }) (v := ?_) rfl (by kernel_rfl) (by kernel_rfl) (by kernel_rfl) (fun _ _ _ h => h) (Or.inl ⟨by rfl, ?_⟩) (by assumption) ?_
        rotate_left
        · intro wS hSw
          (try dsimp only at hSw)
          go_simp
          (try with_reducible rfl)
        (try simp only [Act.put, List.setIfInBounds_toArray, List.set_cons_zero, List.set_cons_succ])
        refine wpAnyH_take (i := 7) (oi := { dst := some 40, op := Go.Op.extract (Go.Operand.tmp 33) 0, type := 26, pos := "law.go:99", after := #[{ on := 6, ground := Go.Ground.data }], guard := none }) (v := ?_) rfl (by kernel_rfl) (by kernel_rfl) (by kernel_rfl) (fun _ _ _ h => h) (Or.inl ⟨by rfl, ?_⟩) (by assumption) ?_
        rotate_left
        · intro wS hSw
          (try dsimp only at hSw)
          go_simp
          (try with_reducible rfl)
        (try simp only [Act.put, List.setIfInBounds_toArray, List.set_cons_zero, List.set_cons_succ])
        refine wpAnyH_take (i := 8) (oi := { dst := some 41, op := Go.Op.extract (Go.Operand.tmp 33) 1, type := 29, pos := "law.go:99", after := #[{ on := 6, ground := Go.Ground.data }, { on := 10, ground := Go.Ground.gcOnly Go.Departure.lateStores }], guard := none }) (v := ?_) rfl (by kernel_rfl) (by kernel_rfl) (by kernel_rfl) (fun _ _ _ h => h) (Or.inl ⟨by rfl, ?_⟩) (by assumption) ?_
        rotate_left
        · intro wS hSw
          (try dsimp only at hSw)
          go_simp
          (try with_reducible rfl)
        (try simp only [Act.put, List.setIfInBounds_toArray, List.set_cons_zero, List.set_cons_succ])
        refine wpAnyH_ready (rs := [10]) (by kernel_rfl) (by simp) ?_
        refine AllReadyH.cons (o := { dst := none, op := Go.Op.store 26 (Go.Operand.tmp 8) (Go.Operand.tmp 40), type := 0, pos := "law.go:99", after := #[{ on := 9, ground := Go.Ground.data }, { on := 7, ground := Go.Ground.data }, { on := 5, ground := Go.Ground.chain }, { on := 0, ground := Go.Ground.phase }, { on := 1, ground := Go.Ground.phase }, { on := 2, ground := Go.Ground.phase }, { on := 3, ground := Go.Ground.phase }, { on := 4, ground := Go.Ground.phase }, { on := 5, ground := Go.Ground.phase }, { on := 6, ground := Go.Ground.phase }, { on := 7, ground := Go.Ground.phase }, { on := 8, ground := Go.Ground.textOnly Go.Departure.lateStores }, { on := 9, ground := Go.Ground.phase }], guard := none }) rfl (fun K hK => ?_) AllReadyH.nil
        (have c9 : WRx9.cell? ⟨b9, 0, none⟩ = some (.slice none 0 0) := (by rw [Blk.cell h9b]; rfl); have f9 : WRx9.frozen? ⟨b9, 0, none⟩ = false := Blk.free h9b 0; go_simp; have hO9 := (Own.refl b9 WRx9).set 0 (.slice o2 i2 c2); have h9c := h9b.set 0 (.slice o2 i2 c2); have hT3 := hT2.away hO9 (hT2.not (by have := HI2.out; omega) h9b (fun _ _ e => by cases e)); have hvX9 := Below.trans hvWRx9 (hO9.below hge (Below.size hvWRx9)); have hSX9 := HSS.out _ hvX9; clear c9 f9; generalize WRx9.setCell ⟨b9, 0, none⟩ (.slice o2 i2 c2) = X9 at *; skip)
        refine hK.out _ _ ?_ (fun hHeld => ?_)
        · (try dsimp only)
          (first | assumption | (dsimp only; assumption))
        clear hK K
        (try simp only [Act.put, List.setIfInBounds_toArray, List.set_cons_zero, List.set_cons_succ])
        refine wpAnyH_take (i := 11) (oi := { dst := some 9, op := Go.Op.assign (Go.Operand.tmp 41), type := 29, pos := "law.go:99", after := #[{ on := 8, ground := Go.Ground.data }, { on := 10, ground := Go.Ground.chain }, { on := 0, ground := Go.Ground.phase }, { on := 1, ground := Go.Ground.phase }, { on := 2, ground := Go.Ground.phase }, { on := 3, ground := Go.Ground.phase }, { on := 4, ground := Go.Ground.phase }, { on := 5, ground := Go.Ground.phase }, { on := 6, ground := Go.Ground.phase }, { on := 7, ground := Go.Ground.phase }, { on := 8, ground := Go.Ground.phase }, { on := 9, ground := Go.Ground.phase }, { on := 10, ground := Go.Ground.phase }], guard := none }) (v := ?_) rfl (by kernel_rfl) (by kernel_rfl) (by kernel_rfl) (fun _ _ _ h => h) (Or.inl ⟨by rfl, ?_⟩) (by assumption) ?_
        rotate_left
        · intro wS hSw
          (try dsimp only at hSw)
          go_simp
          (try with_reducible rfl)
        (try simp only [Act.put, List.setIfInBounds_toArray, List.set_cons_zero, List.set_cons_succ])
        refine wpAnyH_done (by kernel_rfl) ?_ _
        have H7 := Lib.hid (Blk.below HB7.out hvX9 (Blk.lt HB7.out))
        have c9 : X9.cell? ⟨b9, 0, none⟩ = some (.slice o2 i2 c2) := by rw [Blk.cell h9c]; rfl
        have c7 : X9.cell? ⟨b5, 0, none⟩ = some (.slice o k c) := hSX9.1
        have f7 : X9.frozen? ⟨b5, 0, none⟩ = false := Blk.free H7.out 0
        have HT3 := Lib.hid hT3
        have HV9 := Lib.hid hvX9
        obtain ⟨XB, hXB⟩ : ∃ q, X9.setCell ⟨b5, 0, none⟩ (.slice o2 i2 c2) = q := ⟨_, rfl⟩
        have hO7 : Own b5 X9 XB := by rw [← hXB]; exact (Own.refl b5 X9).set 0 (.slice o2 i2 c2)
        have HT4 := Lib.hid (HT3.out.away hO7 (HT3.out.not (by have := HI2.out; omega) H7.out (fun _ _ e => by cases e)))
        have H75 : Hid (Blk XB b5 #[.slice o2 i2 c2] 26) := Lib.hid (by rw [← hXB]; exact H7.out.set 0 _)
        have HVB := Lib.hid ((HW.out.trans (HV9.out.mono HW.out.size)).trans (hO7.below HGE.out.1 (Nat.le_trans HW.out.size HV9.out.size)))
        have HAO := Lib.hid ((HKS.out.ao.later HV9.out).own hO7 HGE.out.2)
        have HSZ := Lib.hid (Nat.le_trans HKS.out.sz (Nat.le_trans HV9.out.size hO7.size))
        have HXB := Lib.hid hXB
        have HRG := Lib.hid (HRW.out XB HVB.out)
        clear h9b h9c hT2 hT3 hvX9 hSX9 hO9 hO7 hXB
        have HAB : Hid (Blk (XB.alloc (.cells F 22)) XB.heap.size (rowC 32 (Q i)).toArray 22) := Lib.hid (by rw [HF.out]; exact Blk.new _ _ _)
        have HAA : Hid (AO (XB.alloc (.cells F 22)) base (.slice (some av) k cv) k S) := Lib.hid (HAO.out.later ((Below.refl _ _).alloc (Nat.le_refl _) _))
        go_wp2_with (first | (refine wpList_value rfl (exec_loadA (x := .tmp 63) (C := F) rfl rfl HRG.out Tryd.underlying22 rfl HIF.out) ?_) | (refine wpList_bsA rfl (.tmp 64) rfl F rfl HBS.out ?_) | (refine app_AO rfl (.tmp 60) (.tmp 65) rfl base (.slice (some av) k cv) k XB.heap.size 1 S (Q i) (XB.alloc (.cells F 22)) rfl HAA.out rfl HAB.out (by have := HI.out; omega) (Nat.le_trans HSZ.out (by simp)) ?_; intro v2 XC hao hbc hgc hob; have HAC := Lib.hid hao; have HBC := Lib.hid (And.intro hbc hgc); have HOB := Lib.hid hob; clear hao hbc hgc hob) | (rw [HXB.out]))
        go_roundw
        case rel =>
          have hA : Below w.heap.size w (XB.alloc (.cells F 22)) := HVB.out.trans ((Below.refl w.heap.size XB).alloc HVB.out.size _)
          have hge := HGE.out
          refine ⟨i + 1, v2, i2, o2, c2, S2, HI.out.1, rfl, by first | rfl | go_num, by have := HI2.out; omega, Blk.below (H75.out.alloc _) HBC.out.1 HGE.out.2, ?_, ?_, HS2.out, hA.trans (HBC.out.1.mono (by omega)), Nat.le_trans HSZ.out (Nat.le_trans (by simp) HBC.out.2.size), by have := HI2.out; omega, ?_⟩
          · exact (HT4.out.later ((Below.refl _ _).alloc (Nat.le_refl _) (.cells F 22))).grown HBC.out.2 (fun a ha e => by have h1 := HFS.out a ha; have h2 := HAV.out; have h3 : av.block = a.block := Option.some.inj e; omega)
          · have h9 := HAC.out; rw [HS2E.out, ← HI2.out.1] at h9; exact h9
          · intro a q ha hq
            rcases HOB.out with e | e
            · have h1 := HFS.out a ha; have h2 := HAV.out
              have h3 : av.block = q := Option.some.inj (e.symm.trans hq)
              omega
            · have h1 := HT4.out.lt HI2.out.2.1 a ha
              have h3 : (XB.alloc (.cells F 22)).heap.size = q := Option.some.inj (e.symm.trans hq)
              have h4 : (XB.alloc (.cells F 22)).heap.size = XB.heap.size + 1 := by simp
              omega
        case measure => have := HI.out; simp [intOf]; omega
    · have hin : i = min n 24 := by omega
      obtain ⟨ov, cv, rfl, hcv, _, hov, hbv, hKLv⟩ := hKS.ao.out
      obtain ⟨bv, ofv, ea, _⟩ := hKLv 0 (by have := hKS.k1; omega)
      subst ea
      have HKL := Lib.hid hKLv
      have hk16 := hKS.k1
      obtain ⟨L, hL⟩ : ∃ q, 3 + 32 * k = q := ⟨_, rfl⟩
      have hSl := hKS.lt
      have HEN : Hid (∀ A, TL A o k (fun i => i + 1) S → Calls Tryd.prog 9 #[.agg #[.slice o k c]] A fun e w' => ∃ o c, e = .returned (.tuple #[.slice o L c, .nilIface]) ∧ Bytes w' o L (encF k S) ∧ L ≤ c ∧ Below A.heap.size A w') := Lib.hid fun A hA => by
        rw [← hL]; exact (encode_ok k c o _ S A hA ⟨hk16.1, hk16.2, fun _ _ => rfl⟩ (fun i j _ _ => hSl i j)).mono fun e w' ⟨o, c, h1, h2, h3, _, h5⟩ => ⟨o, c, h1, h2, h3, h5⟩
      have HDE : Hid (∀ A o c, Bytes A o L (encF k S) → L ≤ c → Calls Tryd.prog 10 #[.slice o L c] A fun e w' => ∃ o c, e = .returned (.tuple #[.agg #[.slice o k c], .nilIface]) ∧ TL w' o k (fun i => i + 1) S ∧ Below A.heap.size A w') := Lib.hid fun A o c hA hc => by
        have hR := encF_ring k S hk16
        rw [hL] at hR
        refine (dec_ok L c o _ A hA hc (by omega) hR).mono ?_
        rintro e w' ⟨o, c, rfl, hT, hb⟩
        rw [encF_two] at hT ⊢
        exact ⟨o, c, rfl, hT.congr32 (fun i j _ hj => encF_at k S i j hj), hb⟩
      have HSU : Hid (∀ A, Below w.heap.size w A → Calls Tryd.prog 12 #[] A fun e w' => e = .returned (.bool true) ∧ Below A.heap.size A w') := Lib.hid fun A hA => sure_any A (HG.out.1.later hA)
      have c5 : wr.cell? ⟨b5, 0, none⟩ = some (.slice o k c) := by rw [Blk.cell hKS.rg]; rfl
      have HKS := Lib.hid hKS
      have hcs : (i = 24 ∧ (i : Int) < (n : Int)) ∨ ¬ (i : Int) < (n : Int) := by omega
      clear hKS hKLv hcv hov hbv hL hSl hk16 hk hi hlt hin
      rcases hcs with ⟨h24, h⟩ | h
      · subst h24
        have h2 : decide ((24 : Int) < (n : Int)) = true := decide_eq_true h
        go_upto_region 13 with (go_at_call 9; refine (HEN.out _ HKS.out.tl).mono ?_; rintro e w4 ⟨oc, cp, rfl, hB4, hcp, hb4⟩)
        have HB4 := Lib.hid (HKS.out.later hb4)
        clear c5
        go_upto_region 14 with (go_at_call 10; refine (HDE.out _ _ _ hB4 hcp).mono ?_; rintro e w5 ⟨o6, c6, rfl, hT6, hb5⟩)
        obtain ⟨wL, hwL⟩ : ∃ q, w5.alloc (.cells #[.slice o6 k c6] 26) = q := ⟨_, rfl⟩
        obtain ⟨b12, hb12⟩ : ∃ q, w5.heap.size = q := ⟨_, rfl⟩
        have hv : Below w5.heap.size w5 wL := by rw [← hwL]; exact (Below.refl _ _).alloc (Nat.le_refl _) _
        have H12 : Hid (Blk wL b12 #[.slice o6 k c6] 26) := Lib.hid (by rw [← hwL, ← hb12]; exact Blk.new _ _ _)
        have HT6 := Lib.hid (hT6.later hv)
        have HKL2 := Lib.hid ((HB4.out.later hb5).later hv)
        have HVR : Hid (Below wr.heap.size wr wL) := Lib.hid (hb4.trans ((hb5.trans (hv.mono hb5.size)).mono hb4.size))
        rw [hwL, hb12]
        have c12 : wL.cell? ⟨b12, 0, none⟩ = some (.slice o6 k c6) := by rw [Blk.cell H12.out]; rfl
        clear hv hT6 hb5 hb4 hwL hb12 hB4 hcp
        go_wp2_with fail
        clear c12
        go_loopw [14] (fun y wr => ∃ j : Nat, j ≤ k ∧ y = .int .i64 (j : Int) ∧ Below wL.heap.size wL wr) (fun y _ => 16 - (intOf y).toNat)
        case atStart => exact ⟨0, Nat.zero_le _, rfl, Below.refl _ _⟩
        case round =>
          obtain ⟨j, hj, rfl, hbj⟩ := hrel
          by_cases hlt : j < k
          · have hk16 := HKS.out.k1
            have zj1 : (j : Int) < (k : Int) := by omega
            have zj2 : decide ((j : Int) < (k : Int)) = true := decide_eq_true zj1
            have zj7 : j < k := by omega
            have zj8 : decide (j < k) = true := decide_eq_true zj7
            have j0 : (0 : Int) ≤ (j : Int) := by omega
            obtain ⟨j1, hj1⟩ : ∃ q, j + 1 = q := ⟨_, rfl⟩
            have k5 : (j : Int) + 1 = (j1 : Int) := by omega
            have k6 : IntKind.i64.wrap (j1 : Int) = (j1 : Int) := IntWalk.i64_in _ (by omega)
            have k7 : IntKind.u32.wrap (j1 : Int) = (j1 : Int) := IntWalk.u32_in _ (by omega)
            obtain ⟨Fj, hFj⟩ : ∃ q, (rowC 32 (S j)).toArray = q := ⟨_, rfl⟩
            have hj1e : j1 - 1 = j := by omega
            have HJ := Lib.hid (show j + 1 ≤ k ∧ k ≤ 16 by omega)
            have HIS : Hid ((Tryd.prog.info? 22).map (·.size) = some Fj.size) := Lib.hid (by rw [← hFj, List.size_toArray, rowC_len]; exact info_a32)
            have HSZ : Hid (Fj.size = 32) := Lib.hid (by rw [← hFj, List.size_toArray, rowC_len])
            have HON : Hid (Fj.all (·.oneCell') = true) := Lib.hid (by rw [← hFj]; exact one32 _)
            have HEQ : Hid (∀ w, (Op.equalIn 10000 22 (.agg Fj) (.agg Fj)).run Tryd.prog w = .ok true w) := Lib.hid fun w => by rw [← hFj]; have h9 := eq32 (S j) (S j) w; rw [eqS_refl] at h9; exact h9
            have HF1 : Hid (∀ A, Below wL.heap.size wL A → Calls Tryd.prog 11 #[.agg #[.slice o k c], .int .u32 (j1 : Int)] A fun e w' => e = .returned (.tuple #[.agg Fj, .nilIface]) ∧ Below A.heap.size A w') := Lib.hid fun A hA => by
              have h9 := find_ok k c j1 o S A (HKL2.out.tl.later hA) hk16 (by omega); rw [hj1e, hFj] at h9; exact h9
            have HF2 : Hid (∀ A, Below wL.heap.size wL A → Calls Tryd.prog 11 #[.agg #[.slice o6 k c6], .int .u32 (j1 : Int)] A fun e w' => e = .returned (.tuple #[.agg Fj, .nilIface]) ∧ Below A.heap.size A w') := Lib.hid fun A hA => by
              have h9 := find_ok k c6 j1 o6 S A (HT6.out.later hA) hk16 (by omega); rw [hj1e, hFj] at h9; exact h9
            have HRV : Hid (∀ A, Below wL.heap.size wL A → A.rangeAt bv (ofv + j * 32) Fj.toList) := Lib.hid fun A hA p u hu => by
              obtain ⟨_, _, e, hr⟩ := HKL.out j hlt
              cases e
              rw [← hFj] at hu
              exact cell_below (HVR.out.trans (hA.mono HVR.out.size)) (hr p u (by simpa using hu))
            have HC5 : Hid (∀ A, Below wL.heap.size wL A → A.cell? ⟨b5, 0, none⟩ = some (.slice o k c) ∧ A.cell? ⟨b12, 0, none⟩ = some (.slice o6 k c6)) := Lib.hid fun A hA => ⟨by rw [Blk.cell (Blk.below HKL2.out.rg hA (Blk.lt HKL2.out.rg))]; rfl, by rw [Blk.cell (Blk.below H12.out hA (Blk.lt H12.out))]; rfl⟩
            have c5 := (HC5.out _ hbj).1
            have HBJ := Lib.hid hbj
            clear hFj hj1 hj1e hlt hj hk16 hbj
            go_upto_region 20 with (first | (go_at_call 11; refine (HF1.out _ HBJ.out).mono ?_; rintro e w19 ⟨rfl, hb19⟩; obtain ⟨b15, hqb15⟩ : ∃ y, w19.heap.size = y := ⟨_, rfl⟩; obtain ⟨wz, hwz⟩ : ∃ y, w19.alloc (.cells zeroA 22) = y := ⟨_, rfl⟩; have hbz : Below w19.heap.size w19 wz := (by rw [← hwz]; exact (Below.refl _ _).alloc (Nat.le_refl _) _); have hXz : Blk wz b15 zeroA 22 := (by rw [← hwz, ← hqb15]; exact Blk.new _ _ _); have HTZb15 : Hid (wz.there b15 0 Fj.size) := Lib.hid (hXz.there (by rw [zeroA_size, HSZ.out]; exact Nat.le_refl _)); obtain ⟨w20, hw5⟩ : ∃ y, wz.setCells b15 0 Fj.toList = y := ⟨_, rfl⟩; have hOz : Own b15 wz w20 := (by rw [← hw5]; exact Own.setCells _ _ _); have HBw20 : Hid (Below w19.heap.size w19 w20) := Lib.hid (hbz.trans (hOz.below (by omega) hbz.size)); have HNw20 : Hid (Blk w20 b15 Fj 22) := Lib.hid (by rw [← hw5]; exact Blk.setCells hXz Fj.toList (by rw [zeroA_size, Array.length_toList]; exact HSZ.out)); have HWw20 := Lib.hid hw5; clear hbz hXz hOz hw5) | (refine wpList_zero rfl rfl zero_a32 ?_; rw [hwz, hqb15]; (try simp only [Act.put, List.setIfInBounds_toArray, List.set_cons_zero, List.set_cons_succ])) | (refine wpList_store_mid rfl 22 (.tmp 15) (.tmp 103) rfl b15 0 Fj rfl rfl HTZb15.out HIS.out HON.out ?_; rw [HWw20.out]))
            have hb20 : Below wL.heap.size wL w20 := (HBJ.out.trans (hb19.mono HBJ.out.size)).trans (HBw20.out.mono (Nat.le_trans HBJ.out.size hb19.size))
            have HB20 := Lib.hid hb20
            have c12 := (HC5.out _ hb20).2
            clear c5 hb19 hb20
            go_upto_region 21 with (first | (go_at_call 11; refine (HF2.out _ HB20.out).mono ?_; rintro e w21 ⟨rfl, hb21⟩; obtain ⟨b17, hqb17⟩ : ∃ y, w21.heap.size = y := ⟨_, rfl⟩; obtain ⟨wy, hwy⟩ : ∃ y, w21.alloc (.cells zeroA 22) = y := ⟨_, rfl⟩; have hbz : Below w21.heap.size w21 wy := (by rw [← hwy]; exact (Below.refl _ _).alloc (Nat.le_refl _) _); have hXz : Blk wy b17 zeroA 22 := (by rw [← hwy, ← hqb17]; exact Blk.new _ _ _); have HTZb17 : Hid (wy.there b17 0 Fj.size) := Lib.hid (hXz.there (by rw [zeroA_size, HSZ.out]; exact Nat.le_refl _)); obtain ⟨w22, hw5⟩ : ∃ y, wy.setCells b17 0 Fj.toList = y := ⟨_, rfl⟩; have hOz : Own b17 wy w22 := (by rw [← hw5]; exact Own.setCells _ _ _); have HBw22 : Hid (Below w21.heap.size w21 w22) := Lib.hid (hbz.trans (hOz.below (by omega) hbz.size)); have HNw22 : Hid (Blk w22 b17 Fj 22) := Lib.hid (by rw [← hw5]; exact Blk.setCells hXz Fj.toList (by rw [zeroA_size, Array.length_toList]; exact HSZ.out)); have HWw22 := Lib.hid hw5; clear hbz hXz hOz hw5) | (refine wpList_zero rfl rfl zero_a32 ?_; rw [hwy, hqb17]; (try simp only [Act.put, List.setIfInBounds_toArray, List.set_cons_zero, List.set_cons_succ])) | (refine wpList_store_mid rfl 22 (.tmp 17) (.tmp 111) rfl b17 0 Fj rfl rfl HTZb17.out HIS.out HON.out ?_; rw [HWw22.out]))
            have hb22 : Below wL.heap.size wL w22.drew := ((HB20.out.trans (hb21.mono HB20.out.size)).trans (HBw22.out.mono (Nat.le_trans HB20.out.size hb21.size))).drew
            have hSW0 : w22.drew.rangeAt b15 0 Fj.toList ∧ w22.drew.rangeAt b17 0 Fj.toList ∧ w22.drew.rangeAt bv (ofv + j * 32) Fj.toList := by
              have h9 : Blk w22 b15 Fj 22 := Blk.below HNw20.out (hb21.trans (HBw22.out.mono hb21.size)) (Blk.lt HNw20.out)
              exact ⟨h9.rangeA, HNw22.out.rangeA, HRV.out _ hb22⟩
            clear c12 hb21
            refine wp_region_held_drew (S := (fun A => A.rangeAt b15 0 Fj.toList ∧ A.rangeAt b17 0 Fj.toList ∧ A.rangeAt bv (ofv + j * 32) Fj.toList)) (by kernel_rfl) ?_ (fun hHeld => ?_)
            · (try dsimp only)
              (first | assumption | (dsimp only; assumption))
            generalize w22.drew = W0 at *
            refine wpAnyH_take (i := 0) (oi := { dst := some 113, op := Go.Op.move (Go.Operand.tmp 16), type := 29, pos := "law.go:116", after := #[], guard := none }) (v := ?_) rfl (by kernel_rfl) (by kernel_rfl) (by kernel_rfl) (fun _ _ _ h => h) (Or.inl ⟨by rfl, ?_⟩) (by assumption) ?_
            rotate_left
            · intro wS hSw
              (try dsimp only at hSw)
              go_simp
              (try with_reducible rfl)
            (try simp only [Act.put, List.setIfInBounds_toArray, List.set_cons_zero, List.set_cons_succ])
            refine wpAnyH_take (i := 1) (oi := { dst := some 114, op := Go.Op.binOp Go.BinOp.neq 29 (Go.Operand.tmp 113) (Go.Operand.const Go.Value.nilIface) 29, type := 4, pos := "law.go:116", after := #[{ on := 0, ground := Go.Ground.data }], guard := none }) (v := ?_) rfl (by kernel_rfl) (by kernel_rfl) (by kernel_rfl) (fun _ _ _ h => h) (Or.inl ⟨by rfl, ?_⟩) (by assumption) ?_
            rotate_left
            · intro wS hSw
              (try dsimp only at hSw)
              go_simp
              (try with_reducible rfl)
            (try simp only [Act.put, List.setIfInBounds_toArray, List.set_cons_zero, List.set_cons_succ])
            refine wpAnyH_take (i := 2) (oi := { dst := some 115, op := Go.Op.move (Go.Operand.tmp 114), type := 4, pos := "law.go:116", after := #[{ on := 1, ground := Go.Ground.data }], guard := none }) (v := ?_) rfl (by kernel_rfl) (by kernel_rfl) (by kernel_rfl) (fun _ _ _ h => h) (Or.inl ⟨by rfl, ?_⟩) (by assumption) ?_
            rotate_left
            · intro wS hSw
              (try dsimp only at hSw)
              go_simp
              (try with_reducible rfl)
            (try simp only [Act.put, List.setIfInBounds_toArray, List.set_cons_zero, List.set_cons_succ])
            refine wpAnyH_take (i := 3) (oi := { dst := some 116, op := Go.Op.move (Go.Operand.tmp 18), type := 29, pos := "law.go:116", after := #[{ on := 2, ground := Go.Ground.guard }], guard := some (2, false) }) (v := ?_) rfl (by kernel_rfl) (by kernel_rfl) (by kernel_rfl) (fun _ _ _ h => h) (Or.inl ⟨by rfl, ?_⟩) (by assumption) ?_
            rotate_left
            · intro wS hSw
              (try dsimp only at hSw)
              go_simp
              (try with_reducible rfl)
            (try simp only [Act.put, List.setIfInBounds_toArray, List.set_cons_zero, List.set_cons_succ])
            refine wpAnyH_take (i := 4) (oi := { dst := some 117, op := Go.Op.binOp Go.BinOp.neq 29 (Go.Operand.tmp 116) (Go.Operand.const Go.Value.nilIface) 29, type := 4, pos := "law.go:116", after := #[{ on := 3, ground := Go.Ground.data }, { on := 2, ground := Go.Ground.guard }], guard := some (2, false) }) (v := ?_) rfl (by kernel_rfl) (by kernel_rfl) (by kernel_rfl) (fun _ _ _ h => h) (Or.inl ⟨by rfl, ?_⟩) (by assumption) ?_
            rotate_left
            · intro wS hSw
              (try dsimp only at hSw)
              go_simp
              (try with_reducible rfl)
            (try simp only [Act.put, List.setIfInBounds_toArray, List.set_cons_zero, List.set_cons_succ])
            refine wpAnyH_take (i := 5) (oi := { dst := some 118, op := Go.Op.pick (Go.Operand.tmp 115) (Go.Operand.const (Go.Value.bool true)) (Go.Operand.tmp 117), type := 4, pos := "law.go:116", after := #[{ on := 2, ground := Go.Ground.data }, { on := 4, ground := Go.Ground.data }], guard := none }) (v := ?_) rfl (by kernel_rfl) (by kernel_rfl) (by kernel_rfl) (fun _ _ _ h => h) (Or.inl ⟨by rfl, ?_⟩) (by assumption) ?_
            rotate_left
            · intro wS hSw
              (try dsimp only at hSw)
              go_simp
              (try with_reducible rfl)
            (try simp only [Act.put, List.setIfInBounds_toArray, List.set_cons_zero, List.set_cons_succ])
            refine wpAnyH_take (i := 6) (oi := { dst := some 119, op := Go.Op.move (Go.Operand.tmp 118), type := 4, pos := "law.go:116", after := #[{ on := 5, ground := Go.Ground.data }, { on := 2, ground := Go.Ground.chain }], guard := none }) (v := ?_) rfl (by kernel_rfl) (by kernel_rfl) (by kernel_rfl) (fun _ _ _ h => h) (Or.inl ⟨by rfl, ?_⟩) (by assumption) ?_
            rotate_left
            · intro wS hSw
              (try dsimp only at hSw)
              go_simp
              (try with_reducible rfl)
            (try simp only [Act.put, List.setIfInBounds_toArray, List.set_cons_zero, List.set_cons_succ])
            refine wpAnyH_take (i := 7) (oi := { dst := some 120, op := Go.Op.load 22 (Go.Operand.tmp 15), type := 22, pos := "law.go:116", after := #[{ on := 6, ground := Go.Ground.guard }], guard := some (6, false) }) (v := ?_) rfl (by kernel_rfl) (by kernel_rfl) (by kernel_rfl) (fun _ _ _ h => h) (Or.inl ⟨by rfl, ?_⟩) (by assumption) ?_
            rotate_left
            · intro wS hSw
              (refine exec_loadA (x := .tmp 15) (C := Fj) ?_ ?_ hSw.1 Tryd.underlying22 rfl HIS.out <;> rfl)
            (try simp only [Act.put, List.setIfInBounds_toArray, List.set_cons_zero, List.set_cons_succ])
            refine wpAnyH_take (i := 8) (oi := { dst := some 121, op := Go.Op.move (Go.Operand.tmp 6), type := 23, pos := "law.go:116", after := #[{ on := 6, ground := Go.Ground.guard }], guard := some (6, false) }) (v := ?_) rfl (by kernel_rfl) (by kernel_rfl) (by kernel_rfl) (fun _ _ _ h => h) (Or.inl ⟨by rfl, ?_⟩) (by assumption) ?_
            rotate_left
            · intro wS hSw
              (try dsimp only at hSw)
              go_simp
              (try with_reducible rfl)
            (try simp only [Act.put, List.setIfInBounds_toArray, List.set_cons_zero, List.set_cons_succ])
            refine wpAnyH_take (i := 9) (oi := { dst := some 122, op := Go.Op.move (Go.Operand.tmp 14), type := 3, pos := "law.go:116", after := #[{ on := 6, ground := Go.Ground.guard }], guard := some (6, false) }) (v := ?_) rfl (by kernel_rfl) (by kernel_rfl) (by kernel_rfl) (fun _ _ _ h => h) (Or.inl ⟨by rfl, ?_⟩) (by assumption) ?_
            rotate_left
            · intro wS hSw
              (try dsimp only at hSw)
              go_simp
              (try with_reducible rfl)
            (try simp only [Act.put, List.setIfInBounds_toArray, List.set_cons_zero, List.set_cons_succ])
            refine wpAnyH_take (i := 10) (oi := { dst := some 123, op := Go.Op.indexAddr 23 (Go.Operand.tmp 121) (Go.Operand.tmp 122), type := 0, pos := "law.go:116", after := #[{ on := 8, ground := Go.Ground.data }, { on := 9, ground := Go.Ground.data }, { on := 6, ground := Go.Ground.guard }], guard := some (6, false) }) (v := ?_) rfl (by kernel_rfl) (by kernel_rfl) (by kernel_rfl) (fun _ _ _ h => h) (Or.inl ⟨by rfl, ?_⟩) (by assumption) ?_
            rotate_left
            · intro wS hSw
              (try dsimp only at hSw)
              go_simp
              (try with_reducible rfl)
            (try simp only [Act.put, List.setIfInBounds_toArray, List.set_cons_zero, List.set_cons_succ])
            refine wpAnyH_take (i := 11) (oi := { dst := some 124, op := Go.Op.load 22 (Go.Operand.tmp 123), type := 22, pos := "law.go:116", after := #[{ on := 10, ground := Go.Ground.data }, { on := 6, ground := Go.Ground.guard }], guard := some (6, false) }) (v := ?_) rfl (by kernel_rfl) (by kernel_rfl) (by kernel_rfl) (fun _ _ _ h => h) (Or.inl ⟨by rfl, ?_⟩) (by assumption) ?_
            rotate_left
            · intro wS hSw
              (refine exec_loadA (x := .tmp 123) (C := Fj) ?_ ?_ hSw.2.2 Tryd.underlying22 rfl HIS.out <;> rfl)
            (try simp only [Act.put, List.setIfInBounds_toArray, List.set_cons_zero, List.set_cons_succ])
            refine wpAnyH_take (i := 12) (oi := { dst := some 125, op := Go.Op.binOp Go.BinOp.neq 22 (Go.Operand.tmp 120) (Go.Operand.tmp 124) 22, type := 4, pos := "law.go:116", after := #[{ on := 7, ground := Go.Ground.data }, { on := 11, ground := Go.Ground.data }, { on := 6, ground := Go.Ground.guard }], guard := some (6, false) }) (v := ?_) rfl (by kernel_rfl) (by kernel_rfl) (by kernel_rfl) (fun _ _ _ h => h) (Or.inl ⟨by rfl, ?_⟩) (by assumption) ?_
            rotate_left
            · intro wS hSw
              (refine exec_neq32 (x := .tmp 120) (y := .tmp 124) (r := 22) (C := Fj) (D := Fj) (b := true) ?_ ?_ ?_ HEQ.out <;> rfl)
            (try simp only [Act.put, List.setIfInBounds_toArray, List.set_cons_zero, List.set_cons_succ])
            refine wpAnyH_take (i := 13) (oi := { dst := some 126, op := Go.Op.pick (Go.Operand.tmp 119) (Go.Operand.const (Go.Value.bool true)) (Go.Operand.tmp 125), type := 4, pos := "law.go:116", after := #[{ on := 6, ground := Go.Ground.data }, { on := 12, ground := Go.Ground.data }], guard := none }) (v := ?_) rfl (by kernel_rfl) (by kernel_rfl) (by kernel_rfl) (fun _ _ _ h => h) (Or.inl ⟨by rfl, ?_⟩) (by assumption) ?_
            rotate_left
            · intro wS hSw
              (try dsimp only at hSw)
              go_simp
              (try with_reducible rfl)
            (try simp only [Act.put, List.setIfInBounds_toArray, List.set_cons_zero, List.set_cons_succ])
            refine wpAnyH_take (i := 14) (oi := { dst := some 127, op := Go.Op.move (Go.Operand.tmp 126), type := 4, pos := "law.go:116", after := #[{ on := 13, ground := Go.Ground.data }, { on := 6, ground := Go.Ground.chain }], guard := none }) (v := ?_) rfl (by kernel_rfl) (by kernel_rfl) (by kernel_rfl) (fun _ _ _ h => h) (Or.inl ⟨by rfl, ?_⟩) (by assumption) ?_
            rotate_left
            · intro wS hSw
              (try dsimp only at hSw)
              go_simp
              (try with_reducible rfl)
            (try simp only [Act.put, List.setIfInBounds_toArray, List.set_cons_zero, List.set_cons_succ])
            refine wpAnyH_take (i := 15) (oi := { dst := some 128, op := Go.Op.load 22 (Go.Operand.tmp 17), type := 22, pos := "law.go:116", after := #[{ on := 14, ground := Go.Ground.guard }], guard := some (14, false) }) (v := ?_) rfl (by kernel_rfl) (by kernel_rfl) (by kernel_rfl) (fun _ _ _ h => h) (Or.inl ⟨by rfl, ?_⟩) (by assumption) ?_
            rotate_left
            · intro wS hSw
              (refine exec_loadA (x := .tmp 17) (C := Fj) ?_ ?_ hSw.2.1 Tryd.underlying22 rfl HIS.out <;> rfl)
            (try simp only [Act.put, List.setIfInBounds_toArray, List.set_cons_zero, List.set_cons_succ])
            refine wpAnyH_take (i := 16) (oi := { dst := some 129, op := Go.Op.move (Go.Operand.tmp 6), type := 23, pos := "law.go:116", after := #[{ on := 14, ground := Go.Ground.guard }], guard := some (14, false) }) (v := ?_) rfl (by kernel_rfl) (by kernel_rfl) (by kernel_rfl) (fun _ _ _ h => h) (Or.inl ⟨by rfl, ?_⟩) (by assumption) ?_
            rotate_left
            · intro wS hSw
              (try dsimp only at hSw)
              go_simp
              (try with_reducible rfl)
            (try simp only [Act.put, List.setIfInBounds_toArray, List.set_cons_zero, List.set_cons_succ])
            refine wpAnyH_take (i := 17) (oi := { dst := some 130, op := Go.Op.move (Go.Operand.tmp 14), type := 3, pos := "law.go:116", after := #[{ on := 14, ground := Go.Ground.guard }], guard := some (14, false) }) (v := ?_) rfl (by kernel_rfl) (by kernel_rfl) (by kernel_rfl) (fun _ _ _ h => h) (Or.inl ⟨by rfl, ?_⟩) (by assumption) ?_
            rotate_left
            · intro wS hSw
              (try dsimp only at hSw)
              go_simp
              (try with_reducible rfl)
            (try simp only [Act.put, List.setIfInBounds_toArray, List.set_cons_zero, List.set_cons_succ])
            refine wpAnyH_take (i := 18) (oi := { dst := some 131, op := Go.Op.indexAddr 23 (Go.Operand.tmp 129) (Go.Operand.tmp 130), type := 0, pos := "law.go:116", after := #[{ on := 16, ground := Go.Ground.data }, { on := 17, ground := Go.Ground.data }, { on := 14, ground := Go.Ground.guard }], guard := some (14, false) }) (v := ?_) rfl (by kernel_rfl) (by kernel_rfl) (by kernel_rfl) (fun _ _ _ h => h) (Or.inl ⟨by rfl, ?_⟩) (by assumption) ?_
            rotate_left
            · intro wS hSw
              (try dsimp only at hSw)
              go_simp
              (try with_reducible rfl)
            (try simp only [Act.put, List.setIfInBounds_toArray, List.set_cons_zero, List.set_cons_succ])
            refine wpAnyH_take (i := 19) (oi := { dst := some 132, op := Go.Op.load 22 (Go.Operand.tmp 131), type := 22, pos := "law.go:116", after := #[{ on := 18, ground := Go.Ground.data }, { on := 14, ground := Go.Ground.guard }], guard := some (14, false) }) (v := ?_) rfl (by kernel_rfl) (by kernel_rfl) (by kernel_rfl) (fun _ _ _ h => h) (Or.inl ⟨by rfl, ?_⟩) (by assumption) ?_
            rotate_left
            · intro wS hSw
              (refine exec_loadA (x := .tmp 131) (C := Fj) ?_ ?_ hSw.2.2 Tryd.underlying22 rfl HIS.out <;> rfl)
            (try simp only [Act.put, List.setIfInBounds_toArray, List.set_cons_zero, List.set_cons_succ])
            refine wpAnyH_take (i := 20) (oi := { dst := some 133, op := Go.Op.binOp Go.BinOp.neq 22 (Go.Operand.tmp 128) (Go.Operand.tmp 132) 22, type := 4, pos := "law.go:116", after := #[{ on := 15, ground := Go.Ground.data }, { on := 19, ground := Go.Ground.data }, { on := 14, ground := Go.Ground.guard }], guard := some (14, false) }) (v := ?_) rfl (by kernel_rfl) (by kernel_rfl) (by kernel_rfl) (fun _ _ _ h => h) (Or.inl ⟨by rfl, ?_⟩) (by assumption) ?_
            rotate_left
            · intro wS hSw
              (refine exec_neq32 (x := .tmp 128) (y := .tmp 132) (r := 22) (C := Fj) (D := Fj) (b := true) ?_ ?_ ?_ HEQ.out <;> rfl)
            (try simp only [Act.put, List.setIfInBounds_toArray, List.set_cons_zero, List.set_cons_succ])
            refine wpAnyH_take (i := 21) (oi := { dst := some 134, op := Go.Op.pick (Go.Operand.tmp 127) (Go.Operand.const (Go.Value.bool true)) (Go.Operand.tmp 133), type := 4, pos := "law.go:116", after := #[{ on := 14, ground := Go.Ground.data }, { on := 20, ground := Go.Ground.data }], guard := none }) (v := ?_) rfl (by kernel_rfl) (by kernel_rfl) (by kernel_rfl) (fun _ _ _ h => h) (Or.inl ⟨by rfl, ?_⟩) (by assumption) ?_
            rotate_left
            · intro wS hSw
              (try dsimp only at hSw)
              go_simp
              (try with_reducible rfl)
            (try simp only [Act.put, List.setIfInBounds_toArray, List.set_cons_zero, List.set_cons_succ])
            refine wpAnyH_done (by kernel_rfl) ?_ _
            have HB22 := Lib.hid hb22
            clear hb22 hSW0
            go_wp2_with fail
            go_roundw
            case rel => exact ⟨j + 1, HJ.out.1, by first | rfl | go_num, HB22.out⟩
            case measure => have := HJ.out; simp [intOf]; omega
          · obtain rfl : j = k := by omega
            have j1 : ¬ (j : Int) < (j : Int) := by omega
            have HBJ := Lib.hid (HKL2.out.bel.trans (hbj.mono HKL2.out.bel.size))
            clear hbj
            go_wp2_with (go_at_call 12; refine (HSU.out _ HBJ.out).mono ?_; rintro e wS ⟨rfl, hbS⟩; have HBS9 := Lib.hid (HBJ.out.trans (hbS.mono HBJ.out.size)))
            go_ret
            exact ⟨rfl, HBS9.out⟩
      · have h2 : decide ((i : Int) < (n : Int)) = false := decide_eq_false h
        go_upto_region 13 with (go_at_call 9; refine (HEN.out _ HKS.out.tl).mono ?_; rintro e w4 ⟨oc, cp, rfl, hB4, hcp, hb4⟩)
        have HB4 := Lib.hid (HKS.out.later hb4)
        clear c5
        go_upto_region 14 with (go_at_call 10; refine (HDE.out _ _ _ hB4 hcp).mono ?_; rintro e w5 ⟨o6, c6, rfl, hT6, hb5⟩)
        obtain ⟨wL, hwL⟩ : ∃ q, w5.alloc (.cells #[.slice o6 k c6] 26) = q := ⟨_, rfl⟩
        obtain ⟨b12, hb12⟩ : ∃ q, w5.heap.size = q := ⟨_, rfl⟩
        have hv : Below w5.heap.size w5 wL := by rw [← hwL]; exact (Below.refl _ _).alloc (Nat.le_refl _) _
        have H12 : Hid (Blk wL b12 #[.slice o6 k c6] 26) := Lib.hid (by rw [← hwL, ← hb12]; exact Blk.new _ _ _)
        have HT6 := Lib.hid (hT6.later hv)
        have HKL2 := Lib.hid ((HB4.out.later hb5).later hv)
        have HVR : Hid (Below wr.heap.size wr wL) := Lib.hid (hb4.trans ((hb5.trans (hv.mono hb5.size)).mono hb4.size))
        rw [hwL, hb12]
        have c12 : wL.cell? ⟨b12, 0, none⟩ = some (.slice o6 k c6) := by rw [Blk.cell H12.out]; rfl
        clear hv hT6 hb5 hb4 hwL hb12 hB4 hcp
        go_wp2_with fail
        clear c12
        go_loopw [14] (fun y wr => ∃ j : Nat, j ≤ k ∧ y = .int .i64 (j : Int) ∧ Below wL.heap.size wL wr) (fun y _ => 16 - (intOf y).toNat)
        case atStart => exact ⟨0, Nat.zero_le _, rfl, Below.refl _ _⟩
        case round =>
          obtain ⟨j, hj, rfl, hbj⟩ := hrel
          by_cases hlt : j < k
          · have hk16 := HKS.out.k1
            have zj1 : (j : Int) < (k : Int) := by omega
            have zj2 : decide ((j : Int) < (k : Int)) = true := decide_eq_true zj1
            have zj7 : j < k := by omega
            have zj8 : decide (j < k) = true := decide_eq_true zj7
            have j0 : (0 : Int) ≤ (j : Int) := by omega
            obtain ⟨j1, hj1⟩ : ∃ q, j + 1 = q := ⟨_, rfl⟩
            have k5 : (j : Int) + 1 = (j1 : Int) := by omega
            have k6 : IntKind.i64.wrap (j1 : Int) = (j1 : Int) := IntWalk.i64_in _ (by omega)
            have k7 : IntKind.u32.wrap (j1 : Int) = (j1 : Int) := IntWalk.u32_in _ (by omega)
            obtain ⟨Fj, hFj⟩ : ∃ q, (rowC 32 (S j)).toArray = q := ⟨_, rfl⟩
            have hj1e : j1 - 1 = j := by omega
            have HJ := Lib.hid (show j + 1 ≤ k ∧ k ≤ 16 by omega)
            have HIS : Hid ((Tryd.prog.info? 22).map (·.size) = some Fj.size) := Lib.hid (by rw [← hFj, List.size_toArray, rowC_len]; exact info_a32)
            have HSZ : Hid (Fj.size = 32) := Lib.hid (by rw [← hFj, List.size_toArray, rowC_len])
            have HON : Hid (Fj.all (·.oneCell') = true) := Lib.hid (by rw [← hFj]; exact one32 _)
            have HEQ : Hid (∀ w, (Op.equalIn 10000 22 (.agg Fj) (.agg Fj)).run Tryd.prog w = .ok true w) := Lib.hid fun w => by rw [← hFj]; have h9 := eq32 (S j) (S j) w; rw [eqS_refl] at h9; exact h9
            have HF1 : Hid (∀ A, Below wL.heap.size wL A → Calls Tryd.prog 11 #[.agg #[.slice o k c], .int .u32 (j1 : Int)] A fun e w' => e = .returned (.tuple #[.agg Fj, .nilIface]) ∧ Below A.heap.size A w') := Lib.hid fun A hA => by
              have h9 := find_ok k c j1 o S A (HKL2.out.tl.later hA) hk16 (by omega); rw [hj1e, hFj] at h9; exact h9
            have HF2 : Hid (∀ A, Below wL.heap.size wL A → Calls Tryd.prog 11 #[.agg #[.slice o6 k c6], .int .u32 (j1 : Int)] A fun e w' => e = .returned (.tuple #[.agg Fj, .nilIface]) ∧ Below A.heap.size A w') := Lib.hid fun A hA => by
              have h9 := find_ok k c6 j1 o6 S A (HT6.out.later hA) hk16 (by omega); rw [hj1e, hFj] at h9; exact h9
            have HRV : Hid (∀ A, Below wL.heap.size wL A → A.rangeAt bv (ofv + j * 32) Fj.toList) := Lib.hid fun A hA p u hu => by
              obtain ⟨_, _, e, hr⟩ := HKL.out j hlt
              cases e
              rw [← hFj] at hu
              exact cell_below (HVR.out.trans (hA.mono HVR.out.size)) (hr p u (by simpa using hu))
            have HC5 : Hid (∀ A, Below wL.heap.size wL A → A.cell? ⟨b5, 0, none⟩ = some (.slice o k c) ∧ A.cell? ⟨b12, 0, none⟩ = some (.slice o6 k c6)) := Lib.hid fun A hA => ⟨by rw [Blk.cell (Blk.below HKL2.out.rg hA (Blk.lt HKL2.out.rg))]; rfl, by rw [Blk.cell (Blk.below H12.out hA (Blk.lt H12.out))]; rfl⟩
            have c5 := (HC5.out _ hbj).1
            have HBJ := Lib.hid hbj
            clear hFj hj1 hj1e hlt hj hk16 hbj
            go_upto_region 20 with (first | (go_at_call 11; refine (HF1.out _ HBJ.out).mono ?_; rintro e w19 ⟨rfl, hb19⟩; obtain ⟨b15, hqb15⟩ : ∃ y, w19.heap.size = y := ⟨_, rfl⟩; obtain ⟨wz, hwz⟩ : ∃ y, w19.alloc (.cells zeroA 22) = y := ⟨_, rfl⟩; have hbz : Below w19.heap.size w19 wz := (by rw [← hwz]; exact (Below.refl _ _).alloc (Nat.le_refl _) _); have hXz : Blk wz b15 zeroA 22 := (by rw [← hwz, ← hqb15]; exact Blk.new _ _ _); have HTZb15 : Hid (wz.there b15 0 Fj.size) := Lib.hid (hXz.there (by rw [zeroA_size, HSZ.out]; exact Nat.le_refl _)); obtain ⟨w20, hw5⟩ : ∃ y, wz.setCells b15 0 Fj.toList = y := ⟨_, rfl⟩; have hOz : Own b15 wz w20 := (by rw [← hw5]; exact Own.setCells _ _ _); have HBw20 : Hid (Below w19.heap.size w19 w20) := Lib.hid (hbz.trans (hOz.below (by omega) hbz.size)); have HNw20 : Hid (Blk w20 b15 Fj 22) := Lib.hid (by rw [← hw5]; exact Blk.setCells hXz Fj.toList (by rw [zeroA_size, Array.length_toList]; exact HSZ.out)); have HWw20 := Lib.hid hw5; clear hbz hXz hOz hw5) | (refine wpList_zero rfl rfl zero_a32 ?_; rw [hwz, hqb15]; (try simp only [Act.put, List.setIfInBounds_toArray, List.set_cons_zero, List.set_cons_succ])) | (refine wpList_store_mid rfl 22 (.tmp 15) (.tmp 103) rfl b15 0 Fj rfl rfl HTZb15.out HIS.out HON.out ?_; rw [HWw20.out]))
            have hb20 : Below wL.heap.size wL w20 := (HBJ.out.trans (hb19.mono HBJ.out.size)).trans (HBw20.out.mono (Nat.le_trans HBJ.out.size hb19.size))
            have HB20 := Lib.hid hb20
            have c12 := (HC5.out _ hb20).2
            clear c5 hb19 hb20
            go_upto_region 21 with (first | (go_at_call 11; refine (HF2.out _ HB20.out).mono ?_; rintro e w21 ⟨rfl, hb21⟩; obtain ⟨b17, hqb17⟩ : ∃ y, w21.heap.size = y := ⟨_, rfl⟩; obtain ⟨wy, hwy⟩ : ∃ y, w21.alloc (.cells zeroA 22) = y := ⟨_, rfl⟩; have hbz : Below w21.heap.size w21 wy := (by rw [← hwy]; exact (Below.refl _ _).alloc (Nat.le_refl _) _); have hXz : Blk wy b17 zeroA 22 := (by rw [← hwy, ← hqb17]; exact Blk.new _ _ _); have HTZb17 : Hid (wy.there b17 0 Fj.size) := Lib.hid (hXz.there (by rw [zeroA_size, HSZ.out]; exact Nat.le_refl _)); obtain ⟨w22, hw5⟩ : ∃ y, wy.setCells b17 0 Fj.toList = y := ⟨_, rfl⟩; have hOz : Own b17 wy w22 := (by rw [← hw5]; exact Own.setCells _ _ _); have HBw22 : Hid (Below w21.heap.size w21 w22) := Lib.hid (hbz.trans (hOz.below (by omega) hbz.size)); have HNw22 : Hid (Blk w22 b17 Fj 22) := Lib.hid (by rw [← hw5]; exact Blk.setCells hXz Fj.toList (by rw [zeroA_size, Array.length_toList]; exact HSZ.out)); have HWw22 := Lib.hid hw5; clear hbz hXz hOz hw5) | (refine wpList_zero rfl rfl zero_a32 ?_; rw [hwy, hqb17]; (try simp only [Act.put, List.setIfInBounds_toArray, List.set_cons_zero, List.set_cons_succ])) | (refine wpList_store_mid rfl 22 (.tmp 17) (.tmp 111) rfl b17 0 Fj rfl rfl HTZb17.out HIS.out HON.out ?_; rw [HWw22.out]))
            have hb22 : Below wL.heap.size wL w22.drew := ((HB20.out.trans (hb21.mono HB20.out.size)).trans (HBw22.out.mono (Nat.le_trans HB20.out.size hb21.size))).drew
            have hSW0 : w22.drew.rangeAt b15 0 Fj.toList ∧ w22.drew.rangeAt b17 0 Fj.toList ∧ w22.drew.rangeAt bv (ofv + j * 32) Fj.toList := by
              have h9 : Blk w22 b15 Fj 22 := Blk.below HNw20.out (hb21.trans (HBw22.out.mono hb21.size)) (Blk.lt HNw20.out)
              exact ⟨h9.rangeA, HNw22.out.rangeA, HRV.out _ hb22⟩
            clear c12 hb21
            refine wp_region_held_drew (S := (fun A => A.rangeAt b15 0 Fj.toList ∧ A.rangeAt b17 0 Fj.toList ∧ A.rangeAt bv (ofv + j * 32) Fj.toList)) (by kernel_rfl) ?_ (fun hHeld => ?_)
            · (try dsimp only)
              (first | assumption | (dsimp only; assumption))
            generalize w22.drew = W0 at *
            refine wpAnyH_take (i := 0) (oi := { dst := some 113, op := Go.Op.move (Go.Operand.tmp 16), type := 29, pos := "law.go:116", after := #[], guard := none }) (v := ?_) rfl (by kernel_rfl) (by kernel_rfl) (by kernel_rfl) (fun _ _ _ h => h) (Or.inl ⟨by rfl, ?_⟩) (by assumption) ?_
            rotate_left
            · intro wS hSw
              (try dsimp only at hSw)
              go_simp
              (try with_reducible rfl)
            (try simp only [Act.put, List.setIfInBounds_toArray, List.set_cons_zero, List.set_cons_succ])
            refine wpAnyH_take (i := 1) (oi := { dst := some 114, op := Go.Op.binOp Go.BinOp.neq 29 (Go.Operand.tmp 113) (Go.Operand.const Go.Value.nilIface) 29, type := 4, pos := "law.go:116", after := #[{ on := 0, ground := Go.Ground.data }], guard := none }) (v := ?_) rfl (by kernel_rfl) (by kernel_rfl) (by kernel_rfl) (fun _ _ _ h => h) (Or.inl ⟨by rfl, ?_⟩) (by assumption) ?_
            rotate_left
            · intro wS hSw
              (try dsimp only at hSw)
              go_simp
              (try with_reducible rfl)
            (try simp only [Act.put, List.setIfInBounds_toArray, List.set_cons_zero, List.set_cons_succ])
            refine wpAnyH_take (i := 2) (oi := { dst := some 115, op := Go.Op.move (Go.Operand.tmp 114), type := 4, pos := "law.go:116", after := #[{ on := 1, ground := Go.Ground.data }], guard := none }) (v := ?_) rfl (by kernel_rfl) (by kernel_rfl) (by kernel_rfl) (fun _ _ _ h => h) (Or.inl ⟨by rfl, ?_⟩) (by assumption) ?_
            rotate_left
            · intro wS hSw
              (try dsimp only at hSw)
              go_simp
              (try with_reducible rfl)
            (try simp only [Act.put, List.setIfInBounds_toArray, List.set_cons_zero, List.set_cons_succ])
            refine wpAnyH_take (i := 3) (oi := { dst := some 116, op := Go.Op.move (Go.Operand.tmp 18), type := 29, pos := "law.go:116", after := #[{ on := 2, ground := Go.Ground.guard }], guard := some (2, false) }) (v := ?_) rfl (by kernel_rfl) (by kernel_rfl) (by kernel_rfl) (fun _ _ _ h => h) (Or.inl ⟨by rfl, ?_⟩) (by assumption) ?_
            rotate_left
            · intro wS hSw
              (try dsimp only at hSw)
              go_simp
              (try with_reducible rfl)
            (try simp only [Act.put, List.setIfInBounds_toArray, List.set_cons_zero, List.set_cons_succ])
            refine wpAnyH_take (i := 4) (oi := { dst := some 117, op := Go.Op.binOp Go.BinOp.neq 29 (Go.Operand.tmp 116) (Go.Operand.const Go.Value.nilIface) 29, type := 4, pos := "law.go:116", after := #[{ on := 3, ground := Go.Ground.data }, { on := 2, ground := Go.Ground.guard }], guard := some (2, false) }) (v := ?_) rfl (by kernel_rfl) (by kernel_rfl) (by kernel_rfl) (fun _ _ _ h => h) (Or.inl ⟨by rfl, ?_⟩) (by assumption) ?_
            rotate_left
            · intro wS hSw
              (try dsimp only at hSw)
              go_simp
              (try with_reducible rfl)
            (try simp only [Act.put, List.setIfInBounds_toArray, List.set_cons_zero, List.set_cons_succ])
            refine wpAnyH_take (i := 5) (oi := { dst := some 118, op := Go.Op.pick (Go.Operand.tmp 115) (Go.Operand.const (Go.Value.bool true)) (Go.Operand.tmp 117), type := 4, pos := "law.go:116", after := #[{ on := 2, ground := Go.Ground.data }, { on := 4, ground := Go.Ground.data }], guard := none }) (v := ?_) rfl (by kernel_rfl) (by kernel_rfl) (by kernel_rfl) (fun _ _ _ h => h) (Or.inl ⟨by rfl, ?_⟩) (by assumption) ?_
            rotate_left
            · intro wS hSw
              (try dsimp only at hSw)
              go_simp
              (try with_reducible rfl)
            (try simp only [Act.put, List.setIfInBounds_toArray, List.set_cons_zero, List.set_cons_succ])
            refine wpAnyH_take (i := 6) (oi := { dst := some 119, op := Go.Op.move (Go.Operand.tmp 118), type := 4, pos := "law.go:116", after := #[{ on := 5, ground := Go.Ground.data }, { on := 2, ground := Go.Ground.chain }], guard := none }) (v := ?_) rfl (by kernel_rfl) (by kernel_rfl) (by kernel_rfl) (fun _ _ _ h => h) (Or.inl ⟨by rfl, ?_⟩) (by assumption) ?_
            rotate_left
            · intro wS hSw
              (try dsimp only at hSw)
              go_simp
              (try with_reducible rfl)
            (try simp only [Act.put, List.setIfInBounds_toArray, List.set_cons_zero, List.set_cons_succ])
            refine wpAnyH_take (i := 7) (oi := { dst := some 120, op := Go.Op.load 22 (Go.Operand.tmp 15), type := 22, pos := "law.go:116", after := #[{ on := 6, ground := Go.Ground.guard }], guard := some (6, false) }) (v := ?_) rfl (by kernel_rfl) (by kernel_rfl) (by kernel_rfl) (fun _ _ _ h => h) (Or.inl ⟨by rfl, ?_⟩) (by assumption) ?_
            rotate_left
            · intro wS hSw
              (refine exec_loadA (x := .tmp 15) (C := Fj) ?_ ?_ hSw.1 Tryd.underlying22 rfl HIS.out <;> rfl)
            (try simp only [Act.put, List.setIfInBounds_toArray, List.set_cons_zero, List.set_cons_succ])
            refine wpAnyH_take (i := 8) (oi := { dst := some 121, op := Go.Op.move (Go.Operand.tmp 6), type := 23, pos := "law.go:116", after := #[{ on := 6, ground := Go.Ground.guard }], guard := some (6, false) }) (v := ?_) rfl (by kernel_rfl) (by kernel_rfl) (by kernel_rfl) (fun _ _ _ h => h) (Or.inl ⟨by rfl, ?_⟩) (by assumption) ?_
            rotate_left
            · intro wS hSw
              (try dsimp only at hSw)
              go_simp
              (try with_reducible rfl)
            (try simp only [Act.put, List.setIfInBounds_toArray, List.set_cons_zero, List.set_cons_succ])
            refine wpAnyH_take (i := 9) (oi := { dst := some 122, op := Go.Op.move (Go.Operand.tmp 14), type := 3, pos := "law.go:116", after := #[{ on := 6, ground := Go.Ground.guard }], guard := some (6, false) }) (v := ?_) rfl (by kernel_rfl) (by kernel_rfl) (by kernel_rfl) (fun _ _ _ h => h) (Or.inl ⟨by rfl, ?_⟩) (by assumption) ?_
            rotate_left
            · intro wS hSw
              (try dsimp only at hSw)
              go_simp
              (try with_reducible rfl)
            (try simp only [Act.put, List.setIfInBounds_toArray, List.set_cons_zero, List.set_cons_succ])
            refine wpAnyH_take (i := 10) (oi := { dst := some 123, op := Go.Op.indexAddr 23 (Go.Operand.tmp 121) (Go.Operand.tmp 122), type := 0, pos := "law.go:116", after := #[{ on := 8, ground := Go.Ground.data }, { on := 9, ground := Go.Ground.data }, { on := 6, ground := Go.Ground.guard }], guard := some (6, false) }) (v := ?_) rfl (by kernel_rfl) (by kernel_rfl) (by kernel_rfl) (fun _ _ _ h => h) (Or.inl ⟨by rfl, ?_⟩) (by assumption) ?_
            rotate_left
            · intro wS hSw
              (try dsimp only at hSw)
              go_simp
              (try with_reducible rfl)
            (try simp only [Act.put, List.setIfInBounds_toArray, List.set_cons_zero, List.set_cons_succ])
            refine wpAnyH_take (i := 11) (oi := { dst := some 124, op := Go.Op.load 22 (Go.Operand.tmp 123), type := 22, pos := "law.go:116", after := #[{ on := 10, ground := Go.Ground.data }, { on := 6, ground := Go.Ground.guard }], guard := some (6, false) }) (v := ?_) rfl (by kernel_rfl) (by kernel_rfl) (by kernel_rfl) (fun _ _ _ h => h) (Or.inl ⟨by rfl, ?_⟩) (by assumption) ?_
            rotate_left
            · intro wS hSw
              (refine exec_loadA (x := .tmp 123) (C := Fj) ?_ ?_ hSw.2.2 Tryd.underlying22 rfl HIS.out <;> rfl)
            (try simp only [Act.put, List.setIfInBounds_toArray, List.set_cons_zero, List.set_cons_succ])
            refine wpAnyH_take (i := 12) (oi := { dst := some 125, op := Go.Op.binOp Go.BinOp.neq 22 (Go.Operand.tmp 120) (Go.Operand.tmp 124) 22, type := 4, pos := "law.go:116", after := #[{ on := 7, ground := Go.Ground.data }, { on := 11, ground := Go.Ground.data }, { on := 6, ground := Go.Ground.guard }], guard := some (6, false) }) (v := ?_) rfl (by kernel_rfl) (by kernel_rfl) (by kernel_rfl) (fun _ _ _ h => h) (Or.inl ⟨by rfl, ?_⟩) (by assumption) ?_
            rotate_left
            · intro wS hSw
              (refine exec_neq32 (x := .tmp 120) (y := .tmp 124) (r := 22) (C := Fj) (D := Fj) (b := true) ?_ ?_ ?_ HEQ.out <;> rfl)
            (try simp only [Act.put, List.setIfInBounds_toArray, List.set_cons_zero, List.set_cons_succ])
            refine wpAnyH_take (i := 13) (oi := { dst := some 126, op := Go.Op.pick (Go.Operand.tmp 119) (Go.Operand.const (Go.Value.bool true)) (Go.Operand.tmp 125), type := 4, pos := "law.go:116", after := #[{ on := 6, ground := Go.Ground.data }, { on := 12, ground := Go.Ground.data }], guard := none }) (v := ?_) rfl (by kernel_rfl) (by kernel_rfl) (by kernel_rfl) (fun _ _ _ h => h) (Or.inl ⟨by rfl, ?_⟩) (by assumption) ?_
            rotate_left
            · intro wS hSw
              (try dsimp only at hSw)
              go_simp
              (try with_reducible rfl)
            (try simp only [Act.put, List.setIfInBounds_toArray, List.set_cons_zero, List.set_cons_succ])
            refine wpAnyH_take (i := 14) (oi := { dst := some 127, op := Go.Op.move (Go.Operand.tmp 126), type := 4, pos := "law.go:116", after := #[{ on := 13, ground := Go.Ground.data }, { on := 6, ground := Go.Ground.chain }], guard := none }) (v := ?_) rfl (by kernel_rfl) (by kernel_rfl) (by kernel_rfl) (fun _ _ _ h => h) (Or.inl ⟨by rfl, ?_⟩) (by assumption) ?_
            rotate_left
            · intro wS hSw
              (try dsimp only at hSw)
              go_simp
              (try with_reducible rfl)
            (try simp only [Act.put, List.setIfInBounds_toArray, List.set_cons_zero, List.set_cons_succ])
            refine wpAnyH_take (i := 15) (oi := { dst := some 128, op := Go.Op.load 22 (Go.Operand.tmp 17), type := 22, pos := "law.go:116", after := #[{ on := 14, ground := Go.Ground.guard }], guard := some (14, false) }) (v := ?_) rfl (by kernel_rfl) (by kernel_rfl) (by kernel_rfl) (fun _ _ _ h => h) (Or.inl ⟨by rfl, ?_⟩) (by assumption) ?_
            rotate_left
            · intro wS hSw
              (refine exec_loadA (x := .tmp 17) (C := Fj) ?_ ?_ hSw.2.1 Tryd.underlying22 rfl HIS.out <;> rfl)
            (try simp only [Act.put, List.setIfInBounds_toArray, List.set_cons_zero, List.set_cons_succ])
            refine wpAnyH_take (i := 16) (oi := { dst := some 129, op := Go.Op.move (Go.Operand.tmp 6), type := 23, pos := "law.go:116", after := #[{ on := 14, ground := Go.Ground.guard }], guard := some (14, false) }) (v := ?_) rfl (by kernel_rfl) (by kernel_rfl) (by kernel_rfl) (fun _ _ _ h => h) (Or.inl ⟨by rfl, ?_⟩) (by assumption) ?_
            rotate_left
            · intro wS hSw
              (try dsimp only at hSw)
              go_simp
              (try with_reducible rfl)
            (try simp only [Act.put, List.setIfInBounds_toArray, List.set_cons_zero, List.set_cons_succ])
            refine wpAnyH_take (i := 17) (oi := { dst := some 130, op := Go.Op.move (Go.Operand.tmp 14), type := 3, pos := "law.go:116", after := #[{ on := 14, ground := Go.Ground.guard }], guard := some (14, false) }) (v := ?_) rfl (by kernel_rfl) (by kernel_rfl) (by kernel_rfl) (fun _ _ _ h => h) (Or.inl ⟨by rfl, ?_⟩) (by assumption) ?_
            rotate_left
            · intro wS hSw
              (try dsimp only at hSw)
              go_simp
              (try with_reducible rfl)
            (try simp only [Act.put, List.setIfInBounds_toArray, List.set_cons_zero, List.set_cons_succ])
            refine wpAnyH_take (i := 18) (oi := { dst := some 131, op := Go.Op.indexAddr 23 (Go.Operand.tmp 129) (Go.Operand.tmp 130), type := 0, pos := "law.go:116", after := #[{ on := 16, ground := Go.Ground.data }, { on := 17, ground := Go.Ground.data }, { on := 14, ground := Go.Ground.guard }], guard := some (14, false) }) (v := ?_) rfl (by kernel_rfl) (by kernel_rfl) (by kernel_rfl) (fun _ _ _ h => h) (Or.inl ⟨by rfl, ?_⟩) (by assumption) ?_
            rotate_left
            · intro wS hSw
              (try dsimp only at hSw)
              go_simp
              (try with_reducible rfl)
            (try simp only [Act.put, List.setIfInBounds_toArray, List.set_cons_zero, List.set_cons_succ])
            refine wpAnyH_take (i := 19) (oi := { dst := some 132, op := Go.Op.load 22 (Go.Operand.tmp 131), type := 22, pos := "law.go:116", after := #[{ on := 18, ground := Go.Ground.data }, { on := 14, ground := Go.Ground.guard }], guard := some (14, false) }) (v := ?_) rfl (by kernel_rfl) (by kernel_rfl) (by kernel_rfl) (fun _ _ _ h => h) (Or.inl ⟨by rfl, ?_⟩) (by assumption) ?_
            rotate_left
            · intro wS hSw
              (refine exec_loadA (x := .tmp 131) (C := Fj) ?_ ?_ hSw.2.2 Tryd.underlying22 rfl HIS.out <;> rfl)
            (try simp only [Act.put, List.setIfInBounds_toArray, List.set_cons_zero, List.set_cons_succ])
            refine wpAnyH_take (i := 20) (oi := { dst := some 133, op := Go.Op.binOp Go.BinOp.neq 22 (Go.Operand.tmp 128) (Go.Operand.tmp 132) 22, type := 4, pos := "law.go:116", after := #[{ on := 15, ground := Go.Ground.data }, { on := 19, ground := Go.Ground.data }, { on := 14, ground := Go.Ground.guard }], guard := some (14, false) }) (v := ?_) rfl (by kernel_rfl) (by kernel_rfl) (by kernel_rfl) (fun _ _ _ h => h) (Or.inl ⟨by rfl, ?_⟩) (by assumption) ?_
            rotate_left
            · intro wS hSw
              (refine exec_neq32 (x := .tmp 128) (y := .tmp 132) (r := 22) (C := Fj) (D := Fj) (b := true) ?_ ?_ ?_ HEQ.out <;> rfl)
            (try simp only [Act.put, List.setIfInBounds_toArray, List.set_cons_zero, List.set_cons_succ])
            refine wpAnyH_take (i := 21) (oi := { dst := some 134, op := Go.Op.pick (Go.Operand.tmp 127) (Go.Operand.const (Go.Value.bool true)) (Go.Operand.tmp 133), type := 4, pos := "law.go:116", after := #[{ on := 14, ground := Go.Ground.data }, { on := 20, ground := Go.Ground.data }], guard := none }) (v := ?_) rfl (by kernel_rfl) (by kernel_rfl) (by kernel_rfl) (fun _ _ _ h => h) (Or.inl ⟨by rfl, ?_⟩) (by assumption) ?_
            rotate_left
            · intro wS hSw
              (try dsimp only at hSw)
              go_simp
              (try with_reducible rfl)
            (try simp only [Act.put, List.setIfInBounds_toArray, List.set_cons_zero, List.set_cons_succ])
            refine wpAnyH_done (by kernel_rfl) ?_ _
            have HB22 := Lib.hid hb22
            clear hb22 hSW0
            go_wp2_with fail
            go_roundw
            case rel => exact ⟨j + 1, HJ.out.1, by first | rfl | go_num, HB22.out⟩
            case measure => have := HJ.out; simp [intOf]; omega
          · obtain rfl : j = k := by omega
            have j1 : ¬ (j : Int) < (j : Int) := by omega
            have HBJ := Lib.hid (HKL2.out.bel.trans (hbj.mono HKL2.out.bel.size))
            clear hbj
            go_wp2_with (go_at_call 12; refine (HSU.out _ HBJ.out).mono ?_; rintro e wS ⟨rfl, hbS⟩; have HBS9 := Lib.hid (HBJ.out.trans (hbS.mono HBJ.out.size)))
            go_ret
            exact ⟨rfl, HBS9.out⟩
end Go.Proofs.YtloajfbehejehaaDoor
