/- progress.Check: which progress may be. -/
import Derived.Test.YtgiffaeckhhmpaaDoorPg1
import Derived.Deep.RegionHeld3
import Derived.Deep.DeepCutAuto
namespace Go.Proofs.YtgiffaeckhhmpaaDoor
set_option linter.unusedVariables false
set_option linter.unusedSimpArgs false
open Go.RowKit
theorem info_plan3' : (Tryd.prog.info? 26).map (·.size) = some [Value.int .i64 0, Value.int .i64 0, Value.int .u32 0].length := by kernel_rfl
theorem pg_plan {w : World} {b : Nat} {K N : Int} {gen n cs : Nat} {mk : ByteArray} {oa : Option Addr} {t : TypeId} (h : Blk w b #[.int .i64 K, .int .i64 N, .int .u32 (gen : Int), .string mk, .slice oa n cs] t) : w.rangeAt b 0 [.int .i64 K, .int .i64 N, .int .u32 (gen : Int)] :=
  range3 (by rw [Blk.cell h]; rfl) (by rw [Blk.cell h]; rfl) (by rw [Blk.cell h]; rfl)
theorem pg_sl {w : World} {b : Nat} {K N : Int} {gen n cs : Nat} {mk : ByteArray} {oa : Option Addr} {t : TypeId} (h : Blk w b #[.int .i64 K, .int .i64 N, .int .u32 (gen : Int), .string mk, .slice oa n cs] t) : w.cell? ⟨b, 4, none⟩ = some (.slice oa n cs) := by rw [Blk.cell h]; rfl
theorem pg_mk {w : World} {b : Nat} {K N : Int} {gen n cs : Nat} {mk : ByteArray} {oa : Option Addr} {t : TypeId} (h : Blk w b #[.int .i64 K, .int .i64 N, .int .u32 (gen : Int), .string mk, .slice oa n cs] t) : w.cell? ⟨b, 3, none⟩ = some (.string mk) := by rw [Blk.cell h]; rfl
theorem pg_k {w : World} {b : Nat} {K N : Int} {gen n cs : Nat} {mk : ByteArray} {oa : Option Addr} {t : TypeId} (h : Blk w b #[.int .i64 K, .int .i64 N, .int .u32 (gen : Int), .string mk, .slice oa n cs] t) : w.cell? ⟨b, 0, none⟩ = some (.int .i64 K) := by rw [Blk.cell h]; rfl
theorem EV_zero : EV 0 = .nilIface := rfl
theorem EV_some {k : Nat} (h : k ≠ 0) : EV k = .iface 83 (.int .i64 (k : Int)) := if_neg h
/-- What Check answers. -/
def ChkR (K N : Int) (gen : Nat) (S : Nat → Sh) (n ml : Nat) (w : World) (e : Ending) (w' : World) : Prop :=
  ((e = .returned .nilIface ∧ MayG K N gen S n ml) ∨ (e = .returned (.iface 83 (.int .i64 1)) ∧ ¬ MayG K N gen S n ml)) ∧ Below w.heap.size w w'
set_option maxRecDepth 100000 in
set_option maxHeartbeats 8000000 in
theorem check_pg (tb : Nat) (K N : Int) (gen n cs : Nat) (mk : ByteArray) (oa : Option Addr) (S : Nat → Sh) (w : World) (hS : Shs tb w oa n S) (hix : ∀ i, i < n → (S i).ix < 256) (hn : n < 100000000) (hnc : n ≤ cs) (hmk : mk.size < 100000000) :
    Calls Tryd.prog 19 #[.agg #[.int .i64 K, .int .i64 N, .int .u32 (gen : Int), .string mk, .slice oa n cs]] w (ChkR K N gen S n mk.size w) := by
  obtain ⟨w1, hw1⟩ : ∃ x, w.alloc (.cells #[.int .i64 K, .int .i64 N, .int .u32 (gen : Int), .string mk, .slice oa n cs] 36) = x := ⟨_, rfl⟩
  have hb1 : Below w.heap.size w w1 := by rw [← hw1]; exact (Below.refl _ _).alloc (Nat.le_refl _) _
  have hK : Blk w1 w.heap.size #[.int .i64 K, .int .i64 N, .int .u32 (gen : Int), .string mk, .slice oa n cs] 36 := by rw [← hw1]; exact Blk.new _ _ _
  have HRP := Lib.hid (pg_plan hK)
  have HB1 := Lib.hid hb1
  have HPB := Lib.hid hK
  have HS := Lib.hid hS
  have HIXS := Lib.hid hix
  have HN := Lib.hid (show n < 100000000 ∧ n ≤ cs from ⟨hn, hnc⟩)
  clear hb1 hK hS hn hnc hix
  by_cases hp : MayP K N
  rotate_left
  · have HC := Lib.hid (fun A => check_no K N (gen : Int) A hp)
    have HP := Lib.hid hp
    clear hp hmk
    go_enter Tryd.func19, Tryd.ntmps19
    go_wp2_with (first | (refine wpList_value rfl (exec_loadM (x := .tmp 5) (cs := [.int .i64 K, .int .i64 N, .int .u32 (gen : Int)]) rfl rfl HRP.out Tryd.underlying26 rfl info_plan3) ?_))
    refine (HC.out _).mono ?_
    rintro e w2 ⟨rfl, hb2⟩
    have HB2 := Lib.hid (HB1.out.trans (hb2.mono HB1.out.size))
    clear hb2
    go_wp2_with fail
    go_ret
    exact ⟨.inr ⟨rfl, fun h => HP.out h.1⟩, HB2.out⟩
  have HC := Lib.hid (fun A => check_yes K N (gen : Int) A hp)
  have HP := Lib.hid hp
  obtain ⟨Kp, rfl⟩ : ∃ k : Nat, K = (k : Int) := ⟨K.toNat, by have := hp.1; omega⟩
  obtain ⟨Nn, rfl⟩ : ∃ k : Nat, N = (k : Int) := ⟨N.toNat, by have := hp.1; have := hp.2; omega⟩
  have HKN : Hid (2 ≤ Kp ∧ Kp ≤ Nn ∧ Nn ≤ 255) := Lib.hid (by obtain ⟨h1, h2, h3⟩ := hp; omega)
  clear hp
  by_cases hm : 16 < mk.size
  · have HM : Hid (¬ mk.size ≤ 16) := Lib.hid (by omega)
    have m1 : (16 : Int) < (mk.size : Int) := by omega
    have m2 : decide ((16 : Int) < (mk.size : Int)) = true := decide_eq_true m1
    have m7 : 16 < mk.size := by omega
    have m8 : decide (16 < mk.size) = true := decide_eq_true m7
    clear hm hmk
    go_enter Tryd.func19, Tryd.ntmps19
    go_wp2_with (first | (refine wpList_value rfl (exec_loadM (x := .tmp 5) (cs := [.int .i64 (Kp : Int), .int .i64 (Nn : Int), .int .u32 (gen : Int)]) rfl rfl HRP.out Tryd.underlying26 rfl info_plan3) ?_))
    refine (HC.out _).mono ?_
    rintro e w2 ⟨rfl, hb2⟩
    have HB2 := Lib.hid (HB1.out.trans (hb2.mono HB1.out.size))
    have c3 := pg_mk (Blk.below HPB.out hb2 (Blk.lt HPB.out))
    clear hb2
    go_wp2_with fail
    go_ret
    exact ⟨.inr ⟨rfl, fun h => HM.out h.2.1⟩, HB2.out⟩
  have HM : Hid (mk.size ≤ 16) := Lib.hid (by omega)
  have m1 : ¬ (16 : Int) < (mk.size : Int) := by omega
  have m2 : decide ((16 : Int) < (mk.size : Int)) = false := decide_eq_false m1
  have m7 : ¬ 16 < mk.size := by omega
  have m8 : decide (16 < mk.size) = false := decide_eq_false m7
  by_cases hk : Kp < n
  · have HK : Hid (¬ (n : Int) ≤ (Kp : Int)) := Lib.hid (by omega)
    have k1 : (Kp : Int) < (n : Int) := by omega
    have k2 : decide ((Kp : Int) < (n : Int)) = true := decide_eq_true k1
    have k7 : Kp < n := by omega
    have k8 : decide (Kp < n) = true := decide_eq_true k7
    clear hm hmk hk
    go_enter Tryd.func19, Tryd.ntmps19
    go_wp2_with (first | (refine wpList_value rfl (exec_loadM (x := .tmp 5) (cs := [.int .i64 (Kp : Int), .int .i64 (Nn : Int), .int .u32 (gen : Int)]) rfl rfl HRP.out Tryd.underlying26 rfl info_plan3) ?_))
    refine (HC.out _).mono ?_
    rintro e w2 ⟨rfl, hb2⟩
    have HB2 := Lib.hid (HB1.out.trans (hb2.mono HB1.out.size))
    have hq := Blk.below HPB.out hb2 (Blk.lt HPB.out)
    have c3 := pg_mk hq
    have c4 := pg_sl hq
    have c0 := pg_k hq
    clear hb2 hq
    go_wp2_with fail
    go_ret
    exact ⟨.inr ⟨rfl, fun h => by have h1 := HK.out; have h2 := h.2.2.1; omega⟩, HB2.out⟩
  have HK : Hid ((n : Int) ≤ (Kp : Int)) := Lib.hid (by omega)
  have HN2 : Hid (n ≤ 255) := Lib.hid (by have := HKN.out; omega)
  have k1 : ¬ (Kp : Int) < (n : Int) := by omega
  have k2 : decide ((Kp : Int) < (n : Int)) = false := decide_eq_false k1
  have k7 : ¬ Kp < n := by omega
  have k8 : decide (Kp < n) = false := decide_eq_false k7
  clear hm hmk hk
  go_enter Tryd.func19, Tryd.ntmps19
  go_wp2_with (first | (refine wpList_value rfl (exec_loadM (x := .tmp 5) (cs := [.int .i64 (Kp : Int), .int .i64 (Nn : Int), .int .u32 (gen : Int)]) rfl rfl HRP.out Tryd.underlying26 rfl info_plan3) ?_))
  refine (HC.out _).mono ?_
  rintro e w2 ⟨rfl, hb2⟩
  have HB2 := Lib.hid (HB1.out.trans (hb2.mono HB1.out.size))
  have HP2 := Lib.hid (Blk.below HPB.out hb2 (Blk.lt HPB.out))
  have c3 := pg_mk HP2.out
  have c4 := pg_sl HP2.out
  have c0 := pg_k HP2.out
  clear hb2 HPB HRP
  go_wp2_with fail
  clear c3 c4 c0 m1 m2 m7 m8 k1 k2 k7 k8
  go_loopw [3, 4, 28] (fun _ _ x wr => ∃ i : Nat, i ≤ n ∧ x = .int .i64 (i : Int) ∧ okN Nn gen S i ∧ Below w2.heap.size w2 wr) (fun _ _ x _ => n - (intOf x).toNat)
  case atStart => exact ⟨0, Nat.zero_le _, rfl, fun t ht => absurd ht (Nat.not_lt_zero _), Below.refl _ _⟩
  case round =>
    obtain ⟨i, hi, rfl, hok, hbw⟩ := hrel
    have HBW := Lib.hid hbw
    have HOK0 := Lib.hid hok
    clear hbw hok
    by_cases hlt : i < n
    · as_aux_lemma =>
      have i1 : (i : Int) < (n : Int) := by omega
      have i0 : (0 : Int) ≤ (i : Int) := by omega
      have i3 : (i : Int) ≤ (cs : Int) := by have := HN.out; omega
      have i4 : i ≤ cs := by have := HN.out; omega
      have i5 : ¬ cs = i := by have := HN.out; omega
      have k4 : IntKind.i64.wrap ((i : Int) + 1) = ((i + 1 : Nat) : Int) := by have := HN.out; rw [IntWalk.i64_in _ (by omega)]; omega
      have hbw2 := HB2.out.trans (HBW.out.mono HB2.out.size)
      have HSW := Lib.hid (HS.out.later hbw2)
      obtain ⟨b, off, od, cp, rfl, -, -, -, -, -, -, x0, x1, x2⟩ := HSW.out.get i hlt
      have HRG := Lib.hid (range3 x0 x1 x2)
      have HI := Lib.hid (show i < n ∧ i + 1 ≤ n from ⟨hlt, hlt⟩)
      have HPW := Lib.hid (Blk.below HP2.out HBW.out (Blk.lt HP2.out))
      have HFF := Lib.hid (fun A (hA : Below wr.heap.size wr A) => fits_any tb (Kp : Int) Nn gen i cs (S i).ix (S i).gen (S i).len cp (some ⟨b, off, none⟩) od S (S i).f A ((HSW.out.later hA).mono (Nat.le_of_lt hlt)) (by have := HN.out; omega) (HIXS.out i hlt))
      obtain ⟨wk, hwk⟩ : ∃ q, wrongN Nn gen S i (S i) = q := ⟨_, rfl⟩
      have HWK := Lib.hid hwk
      have HFI : Hid (∀ A, Below wr.heap.size wr A → Calls Tryd.prog 24 #[.agg #[.int .i64 (Kp : Int), .int .i64 (Nn : Int), .int .u32 (gen : Int)], .slice (some ⟨b, off, none⟩) i cs, .agg #[.int .u8 ((S i).ix : Int), .int .u32 ((S i).gen : Int), .slice od (S i).len cp]] A fun e w' => e = .returned (EV wk) ∧ Below A.heap.size A w') := Lib.hid fun A hA => by
        rw [← hwk]; exact HFF.out A hA
      obtain ⟨ix, hix⟩ : ∃ q, (S i).ix = q := ⟨_, rfl⟩
      obtain ⟨gn, hgn⟩ : ∃ q, (S i).gen = q := ⟨_, rfl⟩
      obtain ⟨ln, hln⟩ : ∃ q, (S i).len = q := ⟨_, rfl⟩
      rw [hix, hgn, hln] at HFI HRG
      clear x0 x1 x2 hix hgn hln HFF hlt hi hwk
      obtain ⟨wa, hwa⟩ : ∃ q, wr.alloc (.cells #[.int .u8 (ix : Int), .int .u32 (gn : Int), .slice od ln cp] 42) = q := ⟨_, rfl⟩
      have hba : Below wr.heap.size wr wa := by rw [← hwa]; exact (Below.refl _ _).alloc (Nat.le_refl _) _
      have HSB : Hid (Blk wa.drew wr.heap.size #[.int .u8 (ix : Int), .int .u32 (gn : Int), .slice od ln cp] 42) := Lib.hid (by rw [← hwa]; exact Blk.new _ _ _)
      have hbd := hba.drew
      have HPB := Lib.hid (Blk.below HPW.out hbd (Blk.lt HPW.out))
      have HBW2 := Lib.hid (HBW.out.trans (hbd.mono HBW.out.size))
      have HBA := Lib.hid (hbw2.trans (hbd.mono hbw2.size))
      have HFI : Hid (∀ A, Below wa.drew.heap.size wa.drew A → Calls Tryd.prog 24 #[.agg #[.int .i64 (Kp : Int), .int .i64 (Nn : Int), .int .u32 (gen : Int)], .slice (some ⟨b, off, none⟩) i cs, .agg #[.int .u8 (ix : Int), .int .u32 (gn : Int), .slice od ln cp]] A fun e w' => e = .returned (EV wk) ∧ Below A.heap.size A w') := Lib.hid fun A hA => HFI.out A (hbd.trans (hA.mono hbd.size))
      clear hba hbd hbw2 HSW
      go_upto_region 6 with (first | (refine wpList_value rfl (exec_loadM (x := .tmp 31) (cs := [.int .u8 (ix : Int), .int .u32 (gn : Int), .slice od ln cp]) rfl rfl HRG.out Tryd.underlying42 rfl info_share3) ?_))
      clear hwa
      by_cases hk0 : wk = 0
      · have HOK : Hid (okN Nn gen S (i + 1)) := Lib.hid fun t ht => by
          rcases Nat.lt_or_ge t i with h | h
          · exact HOK0.out t h
          · rw [show t = i by omega, HWK.out, hk0]
        subst hk0
        rw [EV_zero] at HFI
        refine wp_region_held_drew (S := (Below wa.drew.heap.size wa.drew)) (by kernel_rfl) ?_ (fun hHeld => ?_)
        · (try dsimp only)
          (first | exact Below.refl _ _ | assumption)
        generalize wa.drew = WR at *
        refine wpAnyH_take (i := 0) (oi := { dst := some 33, op := Go.Op.fieldAddr 36 (Go.Operand.tmp 1) 0, type := 0, pos := "progress.go:50", after := #[], guard := none }) (v := ?_) rfl (by kernel_rfl) (by kernel_rfl) (by kernel_rfl) (fun _ _ _ h => h) (Or.inl ⟨by rfl, ?_⟩) (by assumption) ?_
        rotate_left
        · intro wS hSw
          (try dsimp only at hSw)
          go_simp
          (try with_reducible rfl)
        (try simp only [Act.put, List.setIfInBounds_toArray, List.set_cons_zero, List.set_cons_succ])
        refine wpAnyH_take (i := 1) (oi := { dst := some 34, op := Go.Op.load 26 (Go.Operand.tmp 33), type := 26, pos := "progress.go:50", after := #[{ on := 0, ground := Go.Ground.data }], guard := none }) (v := ?_) rfl (by kernel_rfl) (by kernel_rfl) (by kernel_rfl) (fun _ _ _ h => h) (Or.inl ⟨by rfl, ?_⟩) (by assumption) ?_
        rotate_left
        · intro wS hSw
          (refine exec_loadM (x := .tmp 33) (cs := [.int .i64 (Kp : Int), .int .i64 (Nn : Int), .int .u32 (gen : Int)]) ?_ ?_ (pg_plan (Blk.below HPB.out hSw (Blk.lt HPB.out))) Tryd.underlying26 rfl info_plan3 <;> rfl)
        (try simp only [Act.put, List.setIfInBounds_toArray, List.set_cons_zero, List.set_cons_succ])
        refine wpAnyH_take (i := 2) (oi := { dst := some 35, op := Go.Op.fieldAddr 36 (Go.Operand.tmp 1) 2, type := 0, pos := "progress.go:50", after := #[], guard := none }) (v := ?_) rfl (by kernel_rfl) (by kernel_rfl) (by kernel_rfl) (fun _ _ _ h => h) (Or.inl ⟨by rfl, ?_⟩) (by assumption) ?_
        rotate_left
        · intro wS hSw
          (try dsimp only at hSw)
          go_simp
          (try with_reducible rfl)
        (try simp only [Act.put, List.setIfInBounds_toArray, List.set_cons_zero, List.set_cons_succ])
        refine wpAnyH_take (i := 3) (oi := { dst := some 36, op := Go.Op.load 29 (Go.Operand.tmp 35), type := 29, pos := "progress.go:50", after := #[{ on := 2, ground := Go.Ground.data }], guard := none }) (v := ?_) rfl (by kernel_rfl) (by kernel_rfl) (by kernel_rfl) (fun _ _ _ h => h) (Or.inl ⟨by rfl, ?_⟩) (by assumption) ?_
        rotate_left
        · intro wS hSw
          (have c4 := pg_sl (Blk.below HPB.out hSw (Blk.lt HPB.out)); go_simp; (try with_reducible rfl))
        (try simp only [Act.put, List.setIfInBounds_toArray, List.set_cons_zero, List.set_cons_succ])
        refine wpAnyH_take (i := 4) (oi := { dst := some 37, op := Go.Op.move (Go.Operand.tmp 3), type := 3, pos := "progress.go:50", after := #[], guard := none }) (v := ?_) rfl (by kernel_rfl) (by kernel_rfl) (by kernel_rfl) (fun _ _ _ h => h) (Or.inl ⟨by rfl, ?_⟩) (by assumption) ?_
        rotate_left
        · intro wS hSw
          (try dsimp only at hSw)
          go_simp
          (try with_reducible rfl)
        (try simp only [Act.put, List.setIfInBounds_toArray, List.set_cons_zero, List.set_cons_succ])
        refine wpAnyH_take (i := 5) (oi := { dst := some 38, op := Go.Op.slice 29 (Go.Operand.tmp 36) none (some (Go.Operand.tmp 37)) none, type := 29, pos := "progress.go:50", after := #[{ on := 3, ground := Go.Ground.data }, { on := 4, ground := Go.Ground.data }], guard := none }) (v := ?_) rfl (by kernel_rfl) (by kernel_rfl) (by kernel_rfl) (fun _ _ _ h => h) (Or.inl ⟨by rfl, ?_⟩) (by assumption) ?_
        rotate_left
        · intro wS hSw
          (try dsimp only at hSw)
          go_simp
          (try with_reducible rfl)
        (try simp only [Act.put, List.setIfInBounds_toArray, List.set_cons_zero, List.set_cons_succ])
        refine wpAnyH_take (i := 6) (oi := { dst := some 39, op := Go.Op.load 42 (Go.Operand.tmp 4), type := 42, pos := "progress.go:50", after := #[], guard := none }) (v := ?_) rfl (by kernel_rfl) (by kernel_rfl) (by kernel_rfl) (fun _ _ _ h => h) (Or.inl ⟨by rfl, ?_⟩) (by assumption) ?_
        rotate_left
        · intro wS hSw
          (refine exec_loadM (x := .tmp 4) (cs := [.int .u8 (ix : Int), .int .u32 (gn : Int), .slice od ln cp]) ?_ ?_ (Blk.range0 (C := [.int .u8 (ix : Int), .int .u32 (gn : Int), .slice od ln cp]) (Blk.below HSB.out hSw (Blk.lt HSB.out))) Tryd.underlying42 rfl info_share3 <;> rfl)
        (try simp only [Act.put, List.setIfInBounds_toArray, List.set_cons_zero, List.set_cons_succ])
        refine wpAnyH_ready (rs := [7]) (by kernel_rfl) (by simp) ?_
        refine AllReadyH.cons (o := { dst := some 40, op := Go.Op.call { callee := Go.Callee.value (Go.Operand.func 24), args := #[Go.Operand.tmp 34, Go.Operand.tmp 38, Go.Operand.tmp 39], argTypes := #[26, 29, 42] }, type := 31, pos := "progress.go:50", after := #[{ on := 1, ground := Go.Ground.data }, { on := 5, ground := Go.Ground.data }, { on := 6, ground := Go.Ground.data }], guard := none }) rfl (fun K hK => ?_) AllReadyH.nil
        go_simp
        (refine (HFI.out WR (Below.refl _ _)).mono ?_; rintro e V1 ⟨rfl, hv1⟩; have HV1 := Lib.hid hv1; clear hv1; skip)
        (try go_wp2_with fail)
        refine hK.out _ _ ?_ (fun hHeld => ?_)
        · (try dsimp only)
          (first | exact Below.refl _ _ | assumption)
        clear hK K
        (try simp only [Act.put, List.setIfInBounds_toArray, List.set_cons_zero, List.set_cons_succ])
        refine wpAnyH_take (i := 8) (oi := { dst := some 41, op := Go.Op.binOp Go.BinOp.neq 31 (Go.Operand.tmp 40) (Go.Operand.const Go.Value.nilIface) 31, type := 4, pos := "progress.go:50", after := #[{ on := 7, ground := Go.Ground.data }], guard := none }) (v := ?_) rfl (by kernel_rfl) (by kernel_rfl) (by kernel_rfl) (fun _ _ _ h => h) (Or.inl ⟨by rfl, ?_⟩) (by assumption) ?_
        rotate_left
        · intro wS hSw
          (try dsimp only at hSw)
          go_simp
          (try with_reducible rfl)
        (try simp only [Act.put, List.setIfInBounds_toArray, List.set_cons_zero, List.set_cons_succ])
        refine wpAnyH_done (by kernel_rfl) ?_ _
        go_wp2_with fail
        go_roundw
        case rel => exact ⟨i + 1, HI.out.2, by first | rfl | go_num, HOK.out, HBW2.out.trans (HV1.out.mono HBW2.out.size)⟩
        case measure => have := HI.out; simp [intOf]; omega
      · have HK0 : Hid (¬ wrongN Nn gen S i (S i) = 0) := Lib.hid (by rw [HWK.out]; exact hk0)
        rw [EV_some hk0] at HFI
        clear hk0
        refine wp_region_held_drew (S := (Below wa.drew.heap.size wa.drew)) (by kernel_rfl) ?_ (fun hHeld => ?_)
        · (try dsimp only)
          (first | exact Below.refl _ _ | assumption)
        generalize wa.drew = WR at *
        refine wpAnyH_take (i := 0) (oi := { dst := some 33, op := Go.Op.fieldAddr 36 (Go.Operand.tmp 1) 0, type := 0, pos := "progress.go:50", after := #[], guard := none }) (v := ?_) rfl (by kernel_rfl) (by kernel_rfl) (by kernel_rfl) (fun _ _ _ h => h) (Or.inl ⟨by rfl, ?_⟩) (by assumption) ?_
        rotate_left
        · intro wS hSw
          (try dsimp only at hSw)
          go_simp
          (try with_reducible rfl)
        (try simp only [Act.put, List.setIfInBounds_toArray, List.set_cons_zero, List.set_cons_succ])
        refine wpAnyH_take (i := 1) (oi := { dst := some 34, op := Go.Op.load 26 (Go.Operand.tmp 33), type := 26, pos := "progress.go:50", after := #[{ on := 0, ground := Go.Ground.data }], guard := none }) (v := ?_) rfl (by kernel_rfl) (by kernel_rfl) (by kernel_rfl) (fun _ _ _ h => h) (Or.inl ⟨by rfl, ?_⟩) (by assumption) ?_
        rotate_left
        · intro wS hSw
          (refine exec_loadM (x := .tmp 33) (cs := [.int .i64 (Kp : Int), .int .i64 (Nn : Int), .int .u32 (gen : Int)]) ?_ ?_ (pg_plan (Blk.below HPB.out hSw (Blk.lt HPB.out))) Tryd.underlying26 rfl info_plan3 <;> rfl)
        (try simp only [Act.put, List.setIfInBounds_toArray, List.set_cons_zero, List.set_cons_succ])
        refine wpAnyH_take (i := 2) (oi := { dst := some 35, op := Go.Op.fieldAddr 36 (Go.Operand.tmp 1) 2, type := 0, pos := "progress.go:50", after := #[], guard := none }) (v := ?_) rfl (by kernel_rfl) (by kernel_rfl) (by kernel_rfl) (fun _ _ _ h => h) (Or.inl ⟨by rfl, ?_⟩) (by assumption) ?_
        rotate_left
        · intro wS hSw
          (try dsimp only at hSw)
          go_simp
          (try with_reducible rfl)
        (try simp only [Act.put, List.setIfInBounds_toArray, List.set_cons_zero, List.set_cons_succ])
        refine wpAnyH_take (i := 3) (oi := { dst := some 36, op := Go.Op.load 29 (Go.Operand.tmp 35), type := 29, pos := "progress.go:50", after := #[{ on := 2, ground := Go.Ground.data }], guard := none }) (v := ?_) rfl (by kernel_rfl) (by kernel_rfl) (by kernel_rfl) (fun _ _ _ h => h) (Or.inl ⟨by rfl, ?_⟩) (by assumption) ?_
        rotate_left
        · intro wS hSw
          (have c4 := pg_sl (Blk.below HPB.out hSw (Blk.lt HPB.out)); go_simp; (try with_reducible rfl))
        (try simp only [Act.put, List.setIfInBounds_toArray, List.set_cons_zero, List.set_cons_succ])
        refine wpAnyH_take (i := 4) (oi := { dst := some 37, op := Go.Op.move (Go.Operand.tmp 3), type := 3, pos := "progress.go:50", after := #[], guard := none }) (v := ?_) rfl (by kernel_rfl) (by kernel_rfl) (by kernel_rfl) (fun _ _ _ h => h) (Or.inl ⟨by rfl, ?_⟩) (by assumption) ?_
        rotate_left
        · intro wS hSw
          (try dsimp only at hSw)
          go_simp
          (try with_reducible rfl)
        (try simp only [Act.put, List.setIfInBounds_toArray, List.set_cons_zero, List.set_cons_succ])
        refine wpAnyH_take (i := 5) (oi := { dst := some 38, op := Go.Op.slice 29 (Go.Operand.tmp 36) none (some (Go.Operand.tmp 37)) none, type := 29, pos := "progress.go:50", after := #[{ on := 3, ground := Go.Ground.data }, { on := 4, ground := Go.Ground.data }], guard := none }) (v := ?_) rfl (by kernel_rfl) (by kernel_rfl) (by kernel_rfl) (fun _ _ _ h => h) (Or.inl ⟨by rfl, ?_⟩) (by assumption) ?_
        rotate_left
        · intro wS hSw
          (try dsimp only at hSw)
          go_simp
          (try with_reducible rfl)
        (try simp only [Act.put, List.setIfInBounds_toArray, List.set_cons_zero, List.set_cons_succ])
        refine wpAnyH_take (i := 6) (oi := { dst := some 39, op := Go.Op.load 42 (Go.Operand.tmp 4), type := 42, pos := "progress.go:50", after := #[], guard := none }) (v := ?_) rfl (by kernel_rfl) (by kernel_rfl) (by kernel_rfl) (fun _ _ _ h => h) (Or.inl ⟨by rfl, ?_⟩) (by assumption) ?_
        rotate_left
        · intro wS hSw
          (refine exec_loadM (x := .tmp 4) (cs := [.int .u8 (ix : Int), .int .u32 (gn : Int), .slice od ln cp]) ?_ ?_ (Blk.range0 (C := [.int .u8 (ix : Int), .int .u32 (gn : Int), .slice od ln cp]) (Blk.below HSB.out hSw (Blk.lt HSB.out))) Tryd.underlying42 rfl info_share3 <;> rfl)
        (try simp only [Act.put, List.setIfInBounds_toArray, List.set_cons_zero, List.set_cons_succ])
        refine wpAnyH_ready (rs := [7]) (by kernel_rfl) (by simp) ?_
        refine AllReadyH.cons (o := { dst := some 40, op := Go.Op.call { callee := Go.Callee.value (Go.Operand.func 24), args := #[Go.Operand.tmp 34, Go.Operand.tmp 38, Go.Operand.tmp 39], argTypes := #[26, 29, 42] }, type := 31, pos := "progress.go:50", after := #[{ on := 1, ground := Go.Ground.data }, { on := 5, ground := Go.Ground.data }, { on := 6, ground := Go.Ground.data }], guard := none }) rfl (fun K hK => ?_) AllReadyH.nil
        go_simp
        (refine (HFI.out WR (Below.refl _ _)).mono ?_; rintro e V1 ⟨rfl, hv1⟩; have HV1 := Lib.hid hv1; clear hv1; skip)
        (try go_wp2_with fail)
        refine hK.out _ _ ?_ (fun hHeld => ?_)
        · (try dsimp only)
          (first | exact Below.refl _ _ | assumption)
        clear hK K
        (try simp only [Act.put, List.setIfInBounds_toArray, List.set_cons_zero, List.set_cons_succ])
        refine wpAnyH_take (i := 8) (oi := { dst := some 41, op := Go.Op.binOp Go.BinOp.neq 31 (Go.Operand.tmp 40) (Go.Operand.const Go.Value.nilIface) 31, type := 4, pos := "progress.go:50", after := #[{ on := 7, ground := Go.Ground.data }], guard := none }) (v := ?_) rfl (by kernel_rfl) (by kernel_rfl) (by kernel_rfl) (fun _ _ _ h => h) (Or.inl ⟨by rfl, ?_⟩) (by assumption) ?_
        rotate_left
        · intro wS hSw
          (try dsimp only at hSw)
          go_simp
          (try with_reducible rfl)
        (try simp only [Act.put, List.setIfInBounds_toArray, List.set_cons_zero, List.set_cons_succ])
        refine wpAnyH_done (by kernel_rfl) ?_ _
        go_wp2_with fail
        go_ret
        exact ⟨.inr ⟨rfl, fun h => HK0.out (h.2.2.2 i HI.out.1)⟩, HBA.out.trans (HV1.out.mono HBA.out.size)⟩
    · obtain rfl : i = n := by omega
      have i1 : ¬ (i : Int) < (i : Int) := by omega
      clear hlt hi
      go_wp2_with fail
      go_ret
      exact ⟨.inl ⟨rfl, HP.out, HM.out, HK.out, by rw [Int.toNat_natCast]; exact HOK0.out⟩, HB2.out.trans (HBW.out.mono HB2.out.size)⟩
end Go.Proofs.YtgiffaeckhhmpaaDoor
