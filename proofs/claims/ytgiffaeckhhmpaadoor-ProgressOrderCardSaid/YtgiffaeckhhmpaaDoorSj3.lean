/- The document's Combine. -/
import Derived.Test.YtgiffaeckhhmpaaDoorSj2
namespace Go.Proofs.YtgiffaeckhhmpaaDoor
set_option linter.unusedVariables false
set_option linter.unusedSimpArgs false
open Go.RowKit

theorem two_bytes (w : World) {d : Nat} (hd : d < 256) : Bytes (w.alloc (.cells #[.int .u8 0, .int .u8 (d : Nat)] 5)) (some ⟨w.heap.size, 0, none⟩) 2 (litF [0, d]) := fun k hk => by
  have hB := Blk.new w #[.int .u8 0, .int .u8 (d : Nat)] 5
  match k, hk with
  | 0, _ => exact ⟨(show (0 : Nat) < 256 by decide), _, 0, rfl, by rw [Blk.cell hB]; rfl⟩
  | 1, _ => exact ⟨hd, _, 0, rfl, by rw [Blk.cell hB]; rfl⟩
theorem eval_two {d x : Nat} (hd : d < 256) (hx : x < 256) : evalN (litF [0, d]) 2 x = mulN d x := by
  have h1 : ∀ i, i < 1 + 1 → litF [0, d] i < 256 := fun i hi => by
    match i, hi with
    | 0, _ => exact (show (0 : Nat) < 256 by decide)
    | 1, _ => exact hd
  rw [show (2 : Nat) = 1 + 1 from rfl, evalN_head h1 hx]
  have h2 : evalN (fun i => litF [0, d] (i + 1)) 1 x = d := by
    unfold evalN
    rw [xsum_head, xsum_none, Nat.xor_zero, powN_zero]
    · exact mulN_one hd
    · intro i hi; exact absurd hi (Nat.not_lt_zero _)
  rw [h2]
  show 0 ^^^ mulN d x = mulN d x
  rw [Nat.zero_xor]
/-- What the document's Combine answers. -/
def RCom (S : Nat → Sh) (Kp x E : Nat) (w : World) (e : Ending) (w' : World) : Prop :=
  (E = 0 ∧ ∃ g cap, e = .returned (.tuple #[.slice (some ⟨g, 0, none⟩) (S 0).len cap, .int .i64 0]) ∧ w.heap.size ≤ g ∧ Bytes w' (some ⟨g, 0, none⟩) (S 0).len (jnF S x Kp) ∧ Below w.heap.size w w') ∨
  (E ≠ 0 ∧ e = .returned (.tuple #[.slice none 0 0, .int .i64 (E : Int)]) ∧ Below w.heap.size w w')
set_option maxHeartbeats 400000 in
theorem rcomb_no (oa : Option Addr) (n cs : Nat) (K N gen x : Int) (w : World) (h : ¬ MayP K N) :
    Calls Tryd.prog 31 #[.slice oa n cs, .agg #[.int .i64 K, .int .i64 N, .int .u32 gen], .int .u8 x] w fun e w' => e = .returned (.tuple #[.slice none 0 0, .int .i64 1]) ∧ Below w.heap.size w w' := by
  have HC := Lib.hid (fun w => wrong_no oa n cs K N gen w h)
  clear h
  go_enter Tryd.func31, Tryd.ntmps31
  go_wp2_with fail
  refine (HC.out _).mono ?_
  rintro e w1 ⟨rfl, hb⟩
  have HB1 : Hid (Below w.heap.size w w1) := Lib.hid (((Below.refl _ _).alloc (Nat.le_refl _) _).trans (hb.mono (by simp)))
  clear hb
  go_wp2_with fail
  go_ret2
  exact ⟨rfl, HB1.out⟩
set_option maxRecDepth 100000 in
set_option maxHeartbeats 8000000 in
theorem rcomb_any (tb n cs Kp N gen x : Nat) (oa : Option Addr) (S : Nat → Sh) (w : World) (hS : Shs tb w oa n S) (hix : ∀ i, i < n → (S i).ix < 256) (hn : n ≤ 1000) (h2 : 2 ≤ Kp) (hKN : Kp ≤ N) (hN : N ≤ 255) (hx : x < 256) :
    Calls Tryd.prog 31 #[.slice oa n cs, .agg #[.int .i64 (Kp : Int), .int .i64 (N : Int), .int .u32 (gen : Int)], .int .u8 (x : Int)] w (RCom S Kp x (needE S n Kp gen) w) := by
  obtain ⟨w0, hw0⟩ : ∃ y, w.alloc (.cells #[.int .i64 (Kp : Int), .int .i64 (N : Int), .int .u32 (gen : Int)] 51) = y := ⟨_, rfl⟩
  have hP0 : Blk w0 w.heap.size #[.int .i64 (Kp : Int), .int .i64 (N : Int), .int .u32 (gen : Int)] 51 := by rw [← hw0]; exact Blk.new _ _ _
  have hb0 : Below w.heap.size w w0 := by rw [← hw0]; exact (Below.refl _ _).alloc (Nat.le_refl _) _
  have HC := Lib.hid (wrong_any tb n cs Kp N gen oa S w0 (hS.later hb0) hix hn h2 hKN hN)
  have HS0 := Lib.hid (hS.later hb0)
  have HX8 := Lib.hid hix
  have HP0 := Lib.hid hP0
  have HB0 := Lib.hid hb0
  have hK5 : Kp ≤ 255 := by omega
  have hK1 : 1 ≤ Kp := by omega
  obtain ⟨E, hE⟩ : ∃ y, needE S n Kp gen = y := ⟨_, rfl⟩
  have HEE := Lib.hid hE
  rw [hE] at HC ⊢
  clear hS hix h2 hKN hN hP0 hb0 hE
  have c0 : w0.cell? ⟨w.heap.size, 0, none⟩ = some (.int .i64 (Kp : Int)) := by rw [Blk.cell HP0.out]; rfl
  have c1 : w0.cell? ⟨w.heap.size, 1, none⟩ = some (.int .i64 (N : Int)) := by rw [Blk.cell HP0.out]; rfl
  have c2 : w0.cell? ⟨w.heap.size, 2, none⟩ = some (.int .u32 (gen : Int)) := by rw [Blk.cell HP0.out]; rfl
  go_enter Tryd.func31, Tryd.ntmps31
  go_wp2_with fail
  clear hw0 c0 c1 c2
  refine HC.out.mono ?_
  rintro e w1 ⟨rfl, hb⟩
  have HB1 : Hid (Below w.heap.size w w1) := Lib.hid (HB0.out.trans (hb.mono HB0.out.size))
  have HS1 := Lib.hid (HS0.out.later hb)
  have HP1 := Lib.hid (Blk.below HP0.out hb (Blk.lt HP0.out))
  clear hb HC HS0 HP0
  by_cases h0 : E = 0
  case neg =>
    have g1 : ((E : Int) != 0) = true := by rw [bne_iff_ne]; omega
    have HH := Lib.hid h0
    clear h0
    go_wp2_with fail
    go_ret2
    exact .inr ⟨HH.out, rfl, HB1.out⟩
  subst h0
  have HZ := Lib.hid (needE_zero HEE.out)
  have HPL := Lib.hid (ok_places HEE.out hK1 hK5)
  have hKn : Kp ≤ n := HZ.out.1
  have HLN : Hid (∀ i, i < Kp → (S i).len = (S 0).len) := Lib.hid fun i hi => (badB_no (HZ.out.2.2 i hi)).2.2.1
  obtain ⟨L, hL⟩ : ∃ y, (S 0).len = y := ⟨_, rfl⟩
  have HL1 : Hid (1 ≤ L ∧ L ≤ 64) := Lib.hid (by have := badB_no (HZ.out.2.2 0 (by omega)); rw [hL] at this; exact ⟨this.2.2.2.1, this.2.2.2.2⟩)
  have HLL := Lib.hid hL
  have hL64 : L ≤ 64 := HL1.out.2
  have HPK : Hid (∀ w7, Below w1.heap.size w1 w7 → w7.cell? ⟨w.heap.size, 0, none⟩ = some (.int .i64 (Kp : Int))) := Lib.hid fun w7 h7 => by rw [Blk.cell (Blk.below HP1.out h7 (Blk.lt HP1.out))]; rfl
  have hn0 : 0 < n := by omega
  obtain ⟨b, off, od0, cap0, rfl, -, -, -, -, -, -, -, -, z2⟩ := HS1.out.get 0 hn0
  rw [Nat.zero_mul, Nat.add_zero, hL] at z2
  have HZ2 : Hid (∀ w7, Below w1.heap.size w1 w7 → w7.cell? ⟨b, off + 2, none⟩ = some (.slice od0 L cap0)) := Lib.hid fun w7 h7 => cell_below h7 z2
  have HG0 : Hid (Grow w1 w1.heap.size (.slice none 0 0) 0 (fun q => (S q).ix)) := Lib.hid (Grow.nil _ _ _)
  clear hL z2
  go_wp2_with fail
  go_loopw [9, 10] (fun v y wr => ∃ i : Nat, i ≤ Kp ∧ y = .int .i64 (i : Int) ∧ Grow wr w1.heap.size v i (fun q => (S q).ix) ∧ Below w1.heap.size w1 wr) (fun _ y _ => Kp - (intOf y).toNat)
  case atStart => exact ⟨0, Nat.zero_le _, rfl, HG0.out, Below.refl _ _⟩
  case round =>
    obtain ⟨i, hi, rfl, hG, hb⟩ := hrel
    have HG := Lib.hid hG
    have HB := Lib.hid hb
    have c0 := HPK.out wr hb
    clear hG hb HG0
    by_cases hlt : i < Kp
    · have hi0 : (0 : Int) ≤ (i : Int) ∧ (i : Int) < (Kp : Int) ∧ (i : Int) < (n : Int) := by omega
      obtain ⟨b', off', od, cap, e, -, -, -, -, -, -, x0, -, -⟩ := (HS1.out.later HB.out).get i (by omega)
      cases e
      obtain ⟨ix, hix⟩ : ∃ y, (S i).ix = y := ⟨_, rfl⟩
      rw [hix] at x0
      have hx8 : ix < 256 := by rw [← hix]; exact HX8.out i (by omega)
      have HIX := Lib.hid hix
      have HA : Hid (Grow (wr.alloc (.cells #[.int .u8 (ix : Nat)] 5)) w1.heap.size u9 i (fun q => (S q).ix)) := Lib.hid (HG.out.later ((Below.refl _ _).alloc (Nat.le_refl _) _))
      have HSZ : Hid (w1.heap.size ≤ wr.heap.size) := Lib.hid HB.out.size
      have hi9 : i + 1 < 100000000000000 := by omega
      clear hix
      go_wp2_with (refine wpList_appO rfl (.tmp 29) (.tmp 35) rfl w1.heap.size u9 i 1 1 (some ⟨wr.heap.size, 0, none⟩) (fun q => (S q).ix) (fun _ => ix) _ rfl HA.out rfl (fun e => by cases e) (ob1 rfl hx8) hi9 (by have := HSZ.out; simp; omega) ?_; intro v6 w6 hG6 hg6 hob6; have HG6 : Hid (Grow w6 w1.heap.size v6 (i + 1) (fun q => (S q).ix)) := Lib.hid (hG6.congr (catF_self fun z hz => by obtain rfl : z = 0 := (by omega); exact HIX.out.symm)); have HB6 := Lib.hid (HB.out.trans (((Below.refl w1.heap.size wr).alloc HSZ.out (.cells #[.int .u8 (ix : Nat)] 5)).trans ((Below.refl w1.heap.size _).grown hg6 (by have := HSZ.out; simp; omega) (Grow.block HA.out)))); clear hG6 hg6 hob6 HA)
      go_roundw
      case rel => exact ⟨i + 1, by omega, by go_num, HG6.out, HB6.out⟩
      case measure => simp [intOf]; omega
    · obtain rfl : Kp = i := by omega
      obtain ⟨gx, cx, rfl, hgx, -, -, hRX⟩ := BRow.of_grow HG.out (by omega)
      have HW := Lib.hid (rweights_any (some ⟨gx, 0, none⟩) Kp cx (fun q => (S q).ix) x wr (hRX.bytes fun j hj => HX8.out j (by omega)) (by unfold maxLen; omega) hx HPL.out)
      clear hgx hRX HG
      go_wp2_with fail
      refine HW.out.mono ?_
      rintro e w2 ⟨vw, rfl, hGW, hb⟩
      obtain ⟨gw, cw, rfl, hgw, -, -, hRW⟩ := BRow.of_grow hGW (by omega)
      have HRW := Lib.hid hRW
      have HB2 := Lib.hid (HB.out.trans (hb.mono HB.out.size))
      have HO0 : Hid (Grow w2 w2.heap.size (.slice none 0 0) 0 (jnF S x Kp)) := Lib.hid (Grow.nil _ _ _)
      clear hGW hb hgw hRW HW c0
      go_wp2_with fail
      go_loopw [13, 14] (fun v y wr => ∃ j : Nat, j ≤ L ∧ y = .int .i64 (j : Int) ∧ Grow wr w2.heap.size v j (jnF S x Kp) ∧ Below w2.heap.size w2 wr) (fun _ y _ => L - (intOf y).toNat)
      case atStart => exact ⟨0, Nat.zero_le _, rfl, HO0.out, Below.refl _ _⟩
      case round =>
        obtain ⟨j, hj, rfl, hG, hb⟩ := hrel
        generalize wr = wj at *
        have HG := Lib.hid hG
        have HBJ := Lib.hid hb
        have HB3 := Lib.hid (HB2.out.trans (hb.mono HB2.out.size))
        have d2 := HZ2.out wj HB3.out
        clear hG hb HO0
        by_cases hltj : j < L
        · have hj0 : (0 : Int) ≤ (j : Int) ∧ (j : Int) < (L : Int) := by omega
          go_wp2_with fail
          go_loopw [15, 16] (fun v y wr => ∃ i : Nat, i ≤ Kp ∧ y = .int .i64 (i : Int) ∧ v = .int .u8 (xsum (fun i => mulN (wF (fun q => (S q).ix) i x Kp) ((S i).f j)) i : Nat) ∧ Below wj.heap.size wj wr) (fun _ y _ => Kp - (intOf y).toNat)
          case atStart => exact ⟨0, Nat.zero_le _, rfl, rfl, Below.refl _ _⟩
          case round =>
            obtain ⟨i, hi, rfl, rfl, hb⟩ := hrel
            have c0 := HPK.out wr (HB3.out.trans (hb.mono HB3.out.size))
            clear d2
            by_cases hlti : i < Kp
            · have hi0 : (0 : Int) ≤ (i : Int) ∧ (i : Int) < (Kp : Int) ∧ (i : Int) < (n : Int) := by omega
              obtain ⟨b', off', od, cap, e, -, hf, -, -, -, -, -, -, x2⟩ := (HS1.out.later HB3.out).get i (by omega)
              cases e
              rw [HLN.out i hlti, HLL.out] at hf x2
              obtain ⟨hdj, db, do', rfl, hdc⟩ := hf j hltj
              obtain ⟨dj, hde⟩ : ∃ y, (S i).f j = y := ⟨_, rfl⟩
              rw [hde] at hdj hdc
              obtain ⟨wi, hwe⟩ : ∃ y, wF (fun q => (S q).ix) i x Kp = y := ⟨_, rfl⟩
              have hwc := (HRW.out.later HBJ.out).cell hlti
              rw [hwe] at hwc
              obtain ⟨pv, hpv⟩ : ∃ y, xsum (fun i => mulN (wF (fun q => (S q).ix) i x Kp) ((S i).f j)) i = y := ⟨_, rfl⟩
              have HPV8 : Hid (pv < 256) := Lib.hid (by rw [← hpv]; exact xsum_lt i fun _ _ => mulN_lt _ _)
              obtain ⟨vv, hvv⟩ : ∃ y, mulN dj wi = y := ⟨_, rfl⟩
              have HWI8 : Hid (wi < 256) := Lib.hid (by rw [← hwe]; exact wF_lt _ _ _ _)
              have HDJ8 := Lib.hid hdj
              have HVV : Hid (evalN (litF [0, dj]) 2 wi = vv) := Lib.hid (by rw [eval_two hdj HWI8.out, hvv])
              have HVV8 : Hid (vv < 256) := Lib.hid (by rw [← hvv]; exact mulN_lt _ _)
              obtain ⟨pn, hpn⟩ : ∃ y, pv ^^^ vv = y := ⟨_, rfl⟩
              have HPN := Lib.hid hpn
              have HPS : Hid (xsum (fun i => mulN (wF (fun q => (S q).ix) i x Kp) ((S i).f j)) (i + 1) = pn) := Lib.hid (by
                show xsum (fun i => mulN (wF (fun q => (S q).ix) i x Kp) ((S i).f j)) i ^^^ mulN (wF (fun q => (S q).ix) i x Kp) ((S i).f j) = pn
                rw [hpv, hwe, hde, mulN_comm, hvv, hpn])
              have HX2 : Hid (∀ w7, Below wj.heap.size wj w7 → w7.cell? ⟨b, off + i * 3 + 2, none⟩ = some (.slice (some ⟨db, do', none⟩) L cap)) := Lib.hid fun w7 h7 => cell_below h7 x2
              have HXD : Hid (∀ w7, Below wj.heap.size wj w7 → w7.cell? ⟨db, do' + j, none⟩ = some (.int .u8 (dj : Int))) := Lib.hid fun w7 h7 => cell_below h7 hdc
              have HWC : Hid (∀ w7, Below wj.heap.size wj w7 → w7.cell? ⟨gw, i, none⟩ = some (.int .u8 (wi : Int))) := Lib.hid fun w7 h7 => cell_below h7 hwc
              have hP_0 : Below wj.heap.size wj wr.drew := hb.drew
              rw [hpv]
              clear hb hf x2 hdc hde hwe hwc hpv hvv hpn hdj
              go_wp2_with fail
              clear c0
              refine wp_region_held_drew (S := (Below wj.heap.size wj)) (by kernel_rfl) ?_ (fun hHeld => ?_)
              · (try dsimp only)
                first | assumption | exact hP_0 | exact hP_1
              generalize wr.drew = W0 at *
              refine wpAnyH_take (i := 0) (oi := { dst := some 58, op := Go.Op.move (Go.Operand.tmp 15), type := 5, pos := "ref.go:101", after := #[], guard := none }) (v := ?_) rfl (by kernel_rfl) (by kernel_rfl) (by kernel_rfl) (fun _ _ _ h => h) (Or.inl ⟨by rfl, ?_⟩) (by assumption) ?_
              rotate_left
              · intro wS hSw
                (try dsimp only at hSw)
                go_simp
                (try with_reducible rfl)
              (try simp only [Act.put, List.setIfInBounds_toArray, List.set_cons_zero, List.set_cons_succ])
              refine wpAnyH_take (i := 1) (oi := { dst := some 59, op := Go.Op.move (Go.Operand.tmp 0), type := 52, pos := "ref.go:101", after := #[], guard := none }) (v := ?_) rfl (by kernel_rfl) (by kernel_rfl) (by kernel_rfl) (fun _ _ _ h => h) (Or.inl ⟨by rfl, ?_⟩) (by assumption) ?_
              rotate_left
              · intro wS hSw
                (try dsimp only at hSw)
                go_simp
                (try with_reducible rfl)
              (try simp only [Act.put, List.setIfInBounds_toArray, List.set_cons_zero, List.set_cons_succ])
              refine wpAnyH_take (i := 2) (oi := { dst := some 60, op := Go.Op.move (Go.Operand.tmp 16), type := 3, pos := "ref.go:101", after := #[], guard := none }) (v := ?_) rfl (by kernel_rfl) (by kernel_rfl) (by kernel_rfl) (fun _ _ _ h => h) (Or.inl ⟨by rfl, ?_⟩) (by assumption) ?_
              rotate_left
              · intro wS hSw
                (try dsimp only at hSw)
                go_simp
                (try with_reducible rfl)
              (try simp only [Act.put, List.setIfInBounds_toArray, List.set_cons_zero, List.set_cons_succ])
              refine wpAnyH_take (i := 3) (oi := { dst := some 61, op := Go.Op.indexAddr 52 (Go.Operand.tmp 59) (Go.Operand.tmp 60), type := 0, pos := "ref.go:101", after := #[{ on := 1, ground := Go.Ground.data }, { on := 2, ground := Go.Ground.data }], guard := none }) (v := ?_) rfl (by kernel_rfl) (by kernel_rfl) (by kernel_rfl) (fun _ _ _ h => h) (Or.inl ⟨by rfl, ?_⟩) (by assumption) ?_
              rotate_left
              · intro wS hSw
                (try dsimp only at hSw)
                go_simp
                (try with_reducible rfl)
              (try simp only [Act.put, List.setIfInBounds_toArray, List.set_cons_zero, List.set_cons_succ])
              refine wpAnyH_take (i := 4) (oi := { dst := some 62, op := Go.Op.fieldAddr 55 (Go.Operand.tmp 61) 2, type := 0, pos := "ref.go:101", after := #[{ on := 3, ground := Go.Ground.data }], guard := none }) (v := ?_) rfl (by kernel_rfl) (by kernel_rfl) (by kernel_rfl) (fun _ _ _ h => h) (Or.inl ⟨by rfl, ?_⟩) (by assumption) ?_
              rotate_left
              · intro wS hSw
                (try dsimp only at hSw)
                go_simp
                (try with_reducible rfl)
              (try simp only [Act.put, List.setIfInBounds_toArray, List.set_cons_zero, List.set_cons_succ])
              refine wpAnyH_take (i := 5) (oi := { dst := some 63, op := Go.Op.load 34 (Go.Operand.tmp 62), type := 34, pos := "ref.go:101", after := #[{ on := 4, ground := Go.Ground.data }], guard := none }) (v := ?_) rfl (by kernel_rfl) (by kernel_rfl) (by kernel_rfl) (fun _ _ _ h => h) (Or.inl ⟨by rfl, ?_⟩) (by assumption) ?_
              rotate_left
              · intro wS hSw
                ((have c9 := HX2.out _ hSw); go_simp; (try with_reducible rfl))
              (try simp only [Act.put, List.setIfInBounds_toArray, List.set_cons_zero, List.set_cons_succ])
              refine wpAnyH_take (i := 6) (oi := { dst := some 64, op := Go.Op.move (Go.Operand.tmp 14), type := 3, pos := "ref.go:101", after := #[], guard := none }) (v := ?_) rfl (by kernel_rfl) (by kernel_rfl) (by kernel_rfl) (fun _ _ _ h => h) (Or.inl ⟨by rfl, ?_⟩) (by assumption) ?_
              rotate_left
              · intro wS hSw
                (try dsimp only at hSw)
                go_simp
                (try with_reducible rfl)
              (try simp only [Act.put, List.setIfInBounds_toArray, List.set_cons_zero, List.set_cons_succ])
              refine wpAnyH_take (i := 7) (oi := { dst := some 65, op := Go.Op.indexAddr 34 (Go.Operand.tmp 63) (Go.Operand.tmp 64), type := 0, pos := "ref.go:101", after := #[{ on := 5, ground := Go.Ground.data }, { on := 6, ground := Go.Ground.data }], guard := none }) (v := ?_) rfl (by kernel_rfl) (by kernel_rfl) (by kernel_rfl) (fun _ _ _ h => h) (Or.inl ⟨by rfl, ?_⟩) (by assumption) ?_
              rotate_left
              · intro wS hSw
                (try dsimp only at hSw)
                go_simp
                (try with_reducible rfl)
              (try simp only [Act.put, List.setIfInBounds_toArray, List.set_cons_zero, List.set_cons_succ])
              refine wpAnyH_take (i := 8) (oi := { dst := some 66, op := Go.Op.load 5 (Go.Operand.tmp 65), type := 5, pos := "ref.go:101", after := #[{ on := 7, ground := Go.Ground.data }], guard := none }) (v := ?_) rfl (by kernel_rfl) (by kernel_rfl) (by kernel_rfl) (fun _ _ _ h => h) (Or.inl ⟨by rfl, ?_⟩) (by assumption) ?_
              rotate_left
              · intro wS hSw
                ((have c9 := HXD.out _ hSw); go_simp; (try with_reducible rfl))
              (try simp only [Act.put, List.setIfInBounds_toArray, List.set_cons_zero, List.set_cons_succ])
              refine wpAnyH_take (i := 10) (oi := { dst := some 68, op := Go.Op.move (Go.Operand.tmp 11), type := 34, pos := "ref.go:101", after := #[], guard := none }) (v := ?_) rfl (by kernel_rfl) (by kernel_rfl) (by kernel_rfl) (fun _ _ _ h => h) (Or.inl ⟨by rfl, ?_⟩) (by assumption) ?_
              rotate_left
              · intro wS hSw
                (try dsimp only at hSw)
                go_simp
                (try with_reducible rfl)
              (try simp only [Act.put, List.setIfInBounds_toArray, List.set_cons_zero, List.set_cons_succ])
              refine wpAnyH_take (i := 11) (oi := { dst := some 69, op := Go.Op.move (Go.Operand.tmp 16), type := 3, pos := "ref.go:101", after := #[], guard := none }) (v := ?_) rfl (by kernel_rfl) (by kernel_rfl) (by kernel_rfl) (fun _ _ _ h => h) (Or.inl ⟨by rfl, ?_⟩) (by assumption) ?_
              rotate_left
              · intro wS hSw
                (try dsimp only at hSw)
                go_simp
                (try with_reducible rfl)
              (try simp only [Act.put, List.setIfInBounds_toArray, List.set_cons_zero, List.set_cons_succ])
              refine wpAnyH_take (i := 12) (oi := { dst := some 70, op := Go.Op.indexAddr 34 (Go.Operand.tmp 68) (Go.Operand.tmp 69), type := 0, pos := "ref.go:101", after := #[{ on := 10, ground := Go.Ground.data }, { on := 11, ground := Go.Ground.data }], guard := none }) (v := ?_) rfl (by kernel_rfl) (by kernel_rfl) (by kernel_rfl) (fun _ _ _ h => h) (Or.inl ⟨by rfl, ?_⟩) (by assumption) ?_
              rotate_left
              · intro wS hSw
                (try dsimp only at hSw)
                go_simp
                (try with_reducible rfl)
              (try simp only [Act.put, List.setIfInBounds_toArray, List.set_cons_zero, List.set_cons_succ])
              refine wpAnyH_take (i := 13) (oi := { dst := some 71, op := Go.Op.load 5 (Go.Operand.tmp 70), type := 5, pos := "ref.go:101", after := #[{ on := 12, ground := Go.Ground.data }], guard := none }) (v := ?_) rfl (by kernel_rfl) (by kernel_rfl) (by kernel_rfl) (fun _ _ _ h => h) (Or.inl ⟨by rfl, ?_⟩) (by assumption) ?_
              rotate_left
              · intro wS hSw
                ((have c9 := HWC.out _ hSw); go_simp; (try with_reducible rfl))
              (try simp only [Act.put, List.setIfInBounds_toArray, List.set_cons_zero, List.set_cons_succ])
              refine wpAnyH_ready (rs := [9]) (by kernel_rfl) (by simp) ?_
              refine AllReadyH.cons (o := { dst := some 67, op := Go.Op.buildSlice 34 2 #[(0, Go.Operand.const (Go.Value.int Go.IntKind.u8 0)), (1, Go.Operand.tmp 66)], type := 34, pos := "ref.go:101", after := #[{ on := 8, ground := Go.Ground.data }], guard := none }) rfl (fun K hK => ?_) AllReadyH.nil
              go_simp
              (obtain ⟨W1, hw⟩ : ∃ z, W0.alloc (.cells #[.int .u8 0, .int .u8 (dj : Nat)] 5) = z := ⟨_, rfl⟩; rw [hw]; have hb : Below W0.heap.size W0 W1 := (by rw [← hw]; exact (Below.refl _ _).alloc (Nat.le_refl _) _); have hP_1 := hP_0.trans (hb.mono hP_0.size); have HO : Hid (Bytes W1 (some ⟨W0.heap.size, 0, none⟩) 2 (litF [0, dj])) := Lib.hid (by rw [← hw]; exact two_bytes W0 HDJ8.out); clear hb hw hP_0; skip)
              (try go_wp2_with fail)
              refine hK.out _ _ ?_ (fun hHeld => ?_)
              · (try dsimp only)
                first | assumption | exact hP_0 | exact hP_1
              clear hK K
              (try simp only [Act.put, List.setIfInBounds_toArray, List.set_cons_zero, List.set_cons_succ])
              refine wpAnyH_ready (rs := [14]) (by kernel_rfl) (by simp) ?_
              refine AllReadyH.cons (o := { dst := some 72, op := Go.Op.call { callee := Go.Callee.value (Go.Operand.func 46), args := #[Go.Operand.tmp 67, Go.Operand.tmp 71], argTypes := #[34, 5] }, type := 5, pos := "ref.go:101", after := #[{ on := 9, ground := Go.Ground.data }, { on := 13, ground := Go.Ground.data }], guard := none }) rfl (fun K hK => ?_) AllReadyH.nil
              go_simp
              (refine (reval_any (some ⟨W0.heap.size, 0, none⟩) 2 2 (litF [0, dj]) wi vv W1 HO.out (by decide) HWI8.out HVV.out).mono ?_; rintro e w' ⟨rfl, rfl⟩; skip)
              (try go_wp2_with fail)
              refine hK.out _ _ ?_ (fun hHeld => ?_)
              · (try dsimp only)
                first | assumption | exact hP_0 | exact hP_1
              clear hK K
              (try simp only [Act.put, List.setIfInBounds_toArray, List.set_cons_zero, List.set_cons_succ])
              refine wpAnyH_ready (rs := [15]) (by kernel_rfl) (by simp) ?_
              refine AllReadyH.cons (o := { dst := some 73, op := Go.Op.call { callee := Go.Callee.value (Go.Operand.func 45), args := #[Go.Operand.tmp 58, Go.Operand.tmp 72], argTypes := #[5, 5] }, type := 5, pos := "ref.go:101", after := #[{ on := 0, ground := Go.Ground.data }, { on := 14, ground := Go.Ground.data }, { on := 14, ground := Go.Ground.chain }], guard := none }) rfl (fun K hK => ?_) AllReadyH.nil
              go_simp
              (refine (radd_n (a := pv) (b := vv) (x := pn) W1 HPV8.out HVV8.out HPN.out).mono ?_; rintro e w' ⟨rfl, rfl⟩; skip)
              (try go_wp2_with fail)
              refine hK.out _ _ ?_ (fun hHeld => ?_)
              · (try dsimp only)
                first | assumption | exact hP_0 | exact hP_1
              clear hK K
              (try simp only [Act.put, List.setIfInBounds_toArray, List.set_cons_zero, List.set_cons_succ])
              refine wpAnyH_take (i := 16) (oi := { dst := some 15, op := Go.Op.assign (Go.Operand.tmp 73), type := 5, pos := "ref.go:101", after := #[{ on := 15, ground := Go.Ground.data }, { on := 15, ground := Go.Ground.chain }, { on := 0, ground := Go.Ground.phase }, { on := 1, ground := Go.Ground.phase }, { on := 2, ground := Go.Ground.phase }, { on := 3, ground := Go.Ground.phase }, { on := 4, ground := Go.Ground.phase }, { on := 5, ground := Go.Ground.phase }, { on := 6, ground := Go.Ground.phase }, { on := 7, ground := Go.Ground.phase }, { on := 8, ground := Go.Ground.phase }, { on := 9, ground := Go.Ground.phase }, { on := 10, ground := Go.Ground.phase }, { on := 11, ground := Go.Ground.phase }, { on := 12, ground := Go.Ground.phase }, { on := 13, ground := Go.Ground.phase }, { on := 14, ground := Go.Ground.phase }, { on := 15, ground := Go.Ground.phase }], guard := none }) (v := ?_) rfl (by kernel_rfl) (by kernel_rfl) (by kernel_rfl) (fun _ _ _ h => h) (Or.inl ⟨by rfl, ?_⟩) (by assumption) ?_
              rotate_left
              · intro wS hSw
                (try dsimp only at hSw)
                go_simp
                (try with_reducible rfl)
              (try simp only [Act.put, List.setIfInBounds_toArray, List.set_cons_zero, List.set_cons_succ])
              refine wpAnyH_done (by kernel_rfl) ?_ _
              have HB9 := Lib.hid hP_1
              clear hP_1
              go_wp2_with fail
              go_roundw
              case rel => exact ⟨i + 1, by omega, by go_num, by rw [HPS.out], HB9.out⟩
              case measure => simp [intOf]; omega
            · obtain rfl : Kp = i := by omega
              obtain ⟨pv, hpv⟩ : ∃ y, xsum (fun i => mulN (wF (fun q => (S q).ix) i x Kp) ((S i).f j)) Kp = y := ⟨_, rfl⟩
              have hpv8 : pv < 256 := by rw [← hpv]; exact xsum_lt Kp fun _ _ => mulN_lt _ _
              have HJN : Hid (jnF S x Kp j = pv) := Lib.hid hpv
              rw [hpv]
              have HBR := Lib.hid hb
              have HA : Hid (Grow (wr.alloc (.cells #[.int .u8 (pv : Nat)] 5)) w2.heap.size u13 j (jnF S x Kp)) := Lib.hid ((HG.out.later hb).later ((Below.refl _ _).alloc (Nat.le_refl _) _))
              have HSZ : Hid (w2.heap.size ≤ wr.heap.size) := Lib.hid (Nat.le_trans HBJ.out.size hb.size)
              have hj9 : j + 1 < 100000000000000 := by omega
              clear hpv hb
              go_wp2_with (refine wpList_appO rfl (.tmp 74) (.tmp 76) rfl w2.heap.size u13 j 1 1 (some ⟨wr.heap.size, 0, none⟩) (jnF S x Kp) (fun _ => pv) _ rfl HA.out rfl (fun e => by cases e) (ob1 rfl hpv8) hj9 (by have := HSZ.out; simp; omega) ?_; intro v6 w6 hG6 hg6 hob6; have HG6 : Hid (Grow w6 w2.heap.size v6 (j + 1) (jnF S x Kp)) := Lib.hid (hG6.congr (catF_self fun z hz => by obtain rfl : z = 0 := (by omega); exact HJN.out.symm)); have HB6 := Lib.hid ((HBJ.out.trans (HBR.out.mono HBJ.out.size)).trans (((Below.refl w2.heap.size wr).alloc HSZ.out (.cells #[.int .u8 (pv : Nat)] 5)).trans ((Below.refl w2.heap.size _).grown hg6 (by have := HSZ.out; simp; omega) (Grow.block HA.out)))); clear hG6 hg6 hob6 HA c0)
              go_roundw
              case rel => exact ⟨j + 1, by omega, by go_num, HG6.out, HB6.out⟩
              case measure => simp [intOf]; omega
        · obtain rfl : L = j := by omega
          obtain ⟨g0, cap, rfl, hg0, -, -, hR⟩ := BRow.of_grow HG.out (by have := HL1.out; omega)
          have HQ : Hid (w.heap.size ≤ g0 ∧ Bytes wj (some ⟨g0, 0, none⟩) L (jnF S x Kp) ∧ Below w.heap.size w wj) := Lib.hid ⟨by have := HB1.out.size; have := HB2.out.size; omega, hR.bytes fun j _ => jnF_lt _ _ _ _, HB1.out.trans (HB3.out.mono HB1.out.size)⟩
          clear hR hg0
          go_wp2_with fail
          go_ret2
          exact .inl ⟨rfl, g0, cap, by rw [HLL.out]; rfl, HQ.out.1, by rw [HLL.out]; exact HQ.out.2.1, HQ.out.2.2⟩
end Go.Proofs.YtgiffaeckhhmpaaDoor
