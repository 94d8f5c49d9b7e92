/- The document's own split. -/
import Derived.Test.YtmhofofidmbgfaaDoorSt1
import Derived.Test.YtmhofofidmbgfaaDoorPoRef3
namespace Go.Proofs.YtmhofofidmbgfaaDoor
set_option linter.unusedVariables false
set_option linter.unusedSimpArgs false
open Go.RowKit

theorem build_rsh (x g : Int) (w : World) : (Instr.build 46 #[(0, .int .u8 x), (1, .int .u32 g)]).run Tryd.prog w = .ok (.agg #[.int .u8 x, .int .u32 g, .slice none 0 0]) w := run_build w 46 _ _ (by kernel_rfl)
theorem zrs_run (w : World) : (zeroValue 46).run Tryd.prog w = .ok (.agg #[.int .u8 0, .int .u32 0, .slice none 0 0]) w := by kernel_rfl
theorem grown_in2 {w w' : World} {base n : Nat} {v : Value} {f : Nat → Nat} (h : Grow w base v n f) (hg : w.grownBy w' v.ownBlock) (hb : base ≤ w.heap.size) : Below base w w' := (Below.refl base w).grown hg hb (Grow.block h)
theorem cF_zero (s d : Nat → Nat) (k j : Nat) : cF s d k j 0 = s j := rfl
theorem cF_next (s d : Nat → Nat) (k j i : Nat) : cF s d k j (1 + i) = d (j * k + i) := by
  unfold cF catF; rw [if_neg (by omega), Nat.add_sub_cancel_left]
/-- The document's parts. -/
def rS (gen L : Nat) (s d : Nat → Nat) (k : Nat) : Nat → Sh := fun x => ⟨x + 1, gen, L, shF s d k (x + 1)⟩

set_option maxRecDepth 100000 in
set_option maxHeartbeats 8000000 in
theorem rsplit_any (tb Kp N k gen L cs M cd sb so db dof : Nat) (s d : Nat → Nat) (w : World) (htb : tb < w.heap.size) (hs : Bytes w (some ⟨sb, so, none⟩) L s) (hd : Bytes w (some ⟨db, dof, none⟩) M d)
    (hK : Kp = k + 1) (h2 : 2 ≤ Kp) (hKN : Kp ≤ N) (hN : N ≤ 255) (h1 : 1 ≤ L) (hL : L ≤ 64) (hM : M = L * k) :
    Calls Tryd.prog 14 #[.slice (some ⟨sb, so, none⟩) L cs, .agg #[.int .i64 (Kp : Int), .int .i64 (N : Int), .int .u32 (gen : Int)], .slice (some ⟨db, dof, none⟩) M cd] w
      fun e w' => ∃ oa cap, e = .returned (.tuple #[.slice oa N cap, .int .i64 0]) ∧ Shs tb w' oa N (rS gen L s d k) ∧ Below w.heap.size w w' := by
  have HC := Lib.hid (fun w => may_yes (Kp : Int) (N : Int) gen w ⟨by omega, by omega, by omega⟩)
  have HNM : Hid (Kp = k + 1 ∧ 2 ≤ Kp ∧ Kp ≤ N ∧ N ≤ 255 ∧ 1 ≤ L ∧ L ≤ 64 ∧ M = L * k) := Lib.hid ⟨hK, h2, hKN, hN, h1, hL, hM⟩
  have HS := Lib.hid hs
  have HDR := Lib.hid hd
  have HTB := Lib.hid htb
  have hkk : (Kp : Int) - 1 = (k : Int) := by omega
  have hMb : M ≤ 64 * 254 := by rw [hM]; exact Nat.mul_le_mul hL (by omega)
  have hMi : (k : Int) * (L : Int) = (M : Int) := by rw [hM, Nat.mul_comm]; exact (Int.natCast_mul k L).symm
  have hMw : IntKind.i64.wrap ((k : Int) * (L : Int)) = (M : Int) := by rw [hMi]; exact IntWalk.i64_in _ (by omega)
  have HMB : Hid (M ≤ 20000) := Lib.hid (by omega)
  have hM2 : (M : Int) ≤ 20000 := by omega
  have hb1 : (1 : Int) ≤ (Kp : Int) ∧ (Kp : Int) ≤ 255 := by omega
  have e1 : ¬ L < 1 := by omega
  have e2 : ¬ 64 < L := by omega
  have e3 : decide ((L : Int) < 1) = false := decide_eq_false (by omega)
  have e4 : decide (64 < (L : Int)) = false := decide_eq_false (by omega)
  clear hs hd htb hK h2 hKN hM hL hMb
  go_enter Tryd.func14, Tryd.ntmps14
  go_wp2_with fail
  refine (HC.out _).mono ?_
  rintro e w1 ⟨rfl, hb⟩
  have HPL : Hid (Blk w1 w.heap.size #[.int .i64 (Kp : Int), .int .i64 (N : Int), .int .u32 (gen : Int)] 25 ∧ Below w.heap.size w w1) := Lib.hid ⟨Blk.below (Blk.new _ _ _) hb (by simp), ((Below.refl _ _).alloc (Nat.le_refl _) _).trans (hb.mono (by simp))⟩
  have c0 : w1.cell? ⟨w.heap.size, 0, none⟩ = some (.int .i64 (Kp : Int)) := by rw [Blk.cell HPL.out.1]; rfl
  clear hb
  go_wp2_with fail
  obtain ⟨base, hba⟩ : ∃ x, w1.heap.size = x := ⟨_, rfl⟩
  have HBS : Hid (w1.heap.size = base ∧ w.heap.size < base ∧ tb < base) := Lib.hid (by have := Blk.lt HPL.out.1; have := HTB.out; omega)
  have HCK : Hid (∀ w7, Below base w1 w7 → w7.cell? ⟨w.heap.size, 0, none⟩ = some (.int .i64 (Kp : Int)) ∧ w7.cell? ⟨w.heap.size, 1, none⟩ = some (.int .i64 (N : Int)) ∧ w7.cell? ⟨w.heap.size, 2, none⟩ = some (.int .u32 (gen : Int))) := Lib.hid fun w7 h7 => by
    have h := Blk.below HPL.out.1 h7 HBS.out.2.1
    exact ⟨by rw [Blk.cell h]; rfl, by rw [Blk.cell h]; rfl, by rw [Blk.cell h]; rfl⟩
  have HBW : Hid (∀ w7, Below base w1 w7 → Below w.heap.size w w7) := Lib.hid fun w7 h7 => HPL.out.2.trans (h7.mono (Nat.le_of_lt HBS.out.2.1))
  have hz8 : N ≤ 255 := hN
  clear c0 hba e1 e2 e3 e4 hMi hMw
  go_loopw [8, 9] (fun v x wr => ∃ i q : Nat, q = i + 1 ∧ i ≤ N ∧ x = .int .i64 (q : Int) ∧ GS 46 tb wr base v i (rS gen L s d k) ∧ Below base w1 wr) (fun _ x _ => N + 1 - (intOf x).toNat)
  case atStart => exact ⟨0, 1, rfl, Nat.zero_le _, rfl, GS.nil _ _ _ _ _, Below.refl _ _⟩
  case round =>
    obtain ⟨i, q, hq, hi, rfl, hGS, hb⟩ := hrel
    generalize wr = wo at *
    have HGS := Lib.hid hGS
    have HBO := Lib.hid hb
    clear hGS hb
    obtain ⟨c0, c1, c2⟩ := HCK.out wo HBO.out
    by_cases hlt : i < N
    · have HQ := Lib.hid hq
      have hq0 : (0 : Int) ≤ (q : Int) ∧ (1 : Int) ≤ (q : Int) ∧ (q : Int) ≤ (N : Int) := by omega
      have hq8 : q < 256 := by omega
      have hw8 : IntKind.u8.wrap (q : Int) = (q : Int) := u8_in (n := q) hq8
      obtain ⟨Hx, hHx⟩ : ∃ x, wo.heap.size = x := ⟨_, rfl⟩
      obtain ⟨wz, hwz⟩ : ∃ x, wo.alloc (.cells #[.int .u8 0, .int .u32 0, .slice none 0 0] 46) = x := ⟨_, rfl⟩
      have hZB : Blk wz Hx #[.int .u8 0, .int .u32 0, .slice none 0 0] 46 := by rw [← hwz, ← hHx]; exact Blk.new _ _ _
      have HTH : Hid (wz.there Hx 0 3) := Lib.hid (hZB.there (by decide))
      have hBZ : Below Hx wo wz := by rw [← hwz, ← hHx]; exact (Below.refl _ _).alloc (Nat.le_refl _) _
      have HX2 : Hid (Blk (wz.setCells Hx 0 [.int .u8 (q : Int), .int .u32 (gen : Int), .slice none 0 0]) Hx #[.int .u8 (q : Int), .int .u32 (gen : Int), .slice none 0 0] 46) := Lib.hid (hZB.whole3 rfl _ _ _)
      have HB2 : Hid (Below Hx wo (wz.setCells Hx 0 [.int .u8 (q : Int), .int .u32 (gen : Int), .slice none 0 0])) := Lib.hid (hBZ.trans ((Own.setCells (b := Hx) _ 0 wz).below (Nat.le_refl _) (by have := Blk.lt hZB; omega)))
      have HZ2 : Hid (Hx + 1 ≤ (wz.setCells Hx 0 [.int .u8 (q : Int), .int .u32 (gen : Int), .slice none 0 0]).heap.size) := Lib.hid (Blk.lt HX2.out)
      have hz := zrs_run
      clear hZB hBZ
      have HHX : Hid (wo.heap.size = Hx ∧ base ≤ Hx) := Lib.hid ⟨hHx, by have := HBO.out.size; have := HBS.out.1; omega⟩
      have HBJ : Hid (∀ w7, Below Hx wo w7 → Below base w1 w7) := Lib.hid fun w7 h7 => HBO.out.trans (h7.mono HHX.out.2)
      clear hq
      go_wp2_with (first | (refine wpList_store_mid rfl 46 (.tmp 10) (.tmp 48) rfl Hx 0 #[.int .u8 (q : Int), .int .u32 (gen : Int), .slice none 0 0] rfl rfl HTH.out info_rshare3 (one_share _ _ _ _ _ _ _) ?_) | (refine wpList_value rfl (exec_buildM (parts := #[(0, .tmp 45), (1, .tmp 47)]) (C := #[.int .u8 (q : Int), .int .u32 (gen : Int), .slice none 0 0]) (ps := #[(0, .int .u8 (q : Int)), (1, .int .u32 (gen : Int))]) rfl rfl (build_rsh _ _)) ?_))
      clear hwz c0 c1 c2 hz HTH
      go_loopw [11] (fun x wr => ∃ (j : Nat) (va : Value), j ≤ L ∧ x = .int .i64 (j : Int) ∧ Blk wr Hx #[.int .u8 (q : Int), .int .u32 (gen : Int), va] 46 ∧ Grow wr (Hx + 1) va j (shF s d k q) ∧ Below Hx wo wr ∧ Hx + 1 ≤ wr.heap.size) (fun x _ => L - (intOf x).toNat)
      case atStart => exact ⟨0, _, Nat.zero_le _, rfl, HX2.out, Grow.nil _ _ _, HB2.out, HZ2.out⟩
      case round =>
        obtain ⟨j, va, hj, rfl, hX, hG, hb, hz⟩ := hrel
        generalize wr = wj at *
        clear HX2 HB2 HZ2 hHx
        have HX := Lib.hid hX
        have HG := Lib.hid hG
        have HOJ := Lib.hid hb
        have HZ := Lib.hid hz
        clear hX hG hb hz
        by_cases hltj : j < L
        · have hj0 : (0 : Int) ≤ (j : Int) ∧ (j : Int) < (L : Int) := by omega
          have hL64 : L ≤ 64 := HNM.out.2.2.2.2.2.1
          obtain ⟨hsj, xb, xo, e, hsc⟩ := (HS.out.later (HBW.out _ (HBJ.out _ HOJ.out))) j hltj
          cases e
          obtain ⟨sj, hse⟩ : ∃ x, s j = x := ⟨_, rfl⟩
          rw [hse] at hsj hsc
          obtain ⟨jk, hjk⟩ : ∃ x, j * k = x := ⟨_, rfl⟩
          have HJ : Hid (j * k = jk ∧ jk + k ≤ M) := Lib.hid ⟨hjk, by
            have h2 : (j + 1) * k ≤ L * k := Nat.mul_le_mul_right _ hltj
            rw [Nat.succ_mul, hjk, ← HNM.out.2.2.2.2.2.2] at h2; exact h2⟩
          have hji : (j : Int) * (k : Int) = (jk : Int) := by rw [← hjk]; exact (Int.natCast_mul j k).symm
          have hjw : IntKind.i64.wrap ((j : Int) * (k : Int)) = (jk : Int) := by rw [hji]; exact IntWalk.i64_in _ (by have := HJ.out; have := HMB.out; omega)
          have hjw2 : IntKind.i64.wrap (jk : Int) = (jk : Int) := IntWalk.i64_in _ (by have := HJ.out; have := HMB.out; omega)
          have hjb : (0 : Int) ≤ (jk : Int) ∧ (jk : Int) ≤ 20000 := by have := HJ.out; have := HMB.out; omega
          have hk4 : k < 1000 := by have := HNM.out; omega
          obtain ⟨Hj, hHj⟩ : ∃ x, wj.heap.size = x := ⟨_, rfl⟩
          obtain ⟨w3, hw3⟩ : ∃ x, wj.alloc (.cells #[.int .u8 (sj : Int)] 5) = x := ⟨_, rfl⟩
          have HG3 : Hid (Grow w3 Hj (.slice (some ⟨Hj, 0, none⟩) 1 1) 1 (cF s d k j)) := Lib.hid (Grow.lit (by
            rw [← hw3, ← hHj]
            have h := Blk.new wj #[.int .u8 (sj : Int)] 5
            have e : rowC 1 (cF s d k j) = [.int .u8 (sj : Int)] := by rw [← hse]; rfl
            rw [e]; exact h) (Nat.le_refl _) (by decide))
          have HB3 : Hid (Below Hj wj w3) := Lib.hid (by rw [← hw3, ← hHj]; exact (Below.refl _ _).alloc (Nat.le_refl _) _)
          have HHJ : Hid (wj.heap.size = Hj ∧ Hx < Hj) := Lib.hid ⟨hHj, by have := Blk.lt HX.out; omega⟩
          have HSE := Lib.hid hse
          clear hjk hse
          go_wp2_with fail
          clear hw3 hsc hHj
          go_loopw [12, 13] (fun c x wr => ∃ t : Nat, t ≤ k ∧ x = .int .i64 (t : Int) ∧ Grow wr Hj c (1 + t) (cF s d k j) ∧ Below Hj wj wr) (fun _ x _ => k - (intOf x).toNat)
          case atStart => exact ⟨0, Nat.zero_le _, rfl, HG3.out, HB3.out⟩
          case round =>
            obtain ⟨t, ht, rfl, hC, hb⟩ := hrel
            clear HG3 HB3
            have HCC := Lib.hid hC
            have HBT := Lib.hid hb
            clear hC hb
            have HBX : Hid (Below Hx wo wr) := Lib.hid (HOJ.out.trans (HBT.out.mono (Nat.le_of_lt HHJ.out.2)))
            obtain ⟨c0, -, -⟩ := HCK.out wr (HBJ.out _ HBX.out)
            by_cases hltt : t < k
            · have ht0 : (0 : Int) ≤ (t : Int) ∧ (t : Int) < (k : Int) := by omega
              obtain ⟨u, hu⟩ : ∃ x, jk + t = x := ⟨_, rfl⟩
              have huM : u < M := by have := HJ.out; omega
              obtain ⟨hdv, yb, yo, e, hdc⟩ := (HDR.out.later (HBW.out _ (HBJ.out _ HBX.out))) u huM
              cases e
              obtain ⟨dv, hde⟩ : ∃ x, d u = x := ⟨_, rfl⟩
              rw [hde] at hdv hdc
              have hu0 : (jk : Int) + (t : Int) = (u : Int) := by omega
              have hu1 : (0 : Int) ≤ (u : Int) ∧ (u : Int) < (M : Int) := by omega
              have huw : IntKind.i64.wrap (u : Int) = (u : Int) := IntWalk.i64_in _ (by have := HMB.out; omega)
              have HCE : Hid (cF s d k j (1 + t) = dv) := Lib.hid (by rw [cF_next, HJ.out.1, hu, hde])
              have HA4 : Hid (Grow (wr.alloc (.cells #[.int .u8 (dv : Nat)] 5)) Hj u12 (1 + t) (cF s d k j)) := Lib.hid (HCC.out.alloc _)
              have HS4 : Hid (Hj ≤ wr.heap.size) := Lib.hid (by have := HBT.out.size; have := HHJ.out.1; omega)
              have ht9 : 1 + t + 1 < 100000000000000 := by omega
              clear hu hde
              go_wp2_with (refine wpList_appO rfl (.tmp 67) (.tmp 78) rfl Hj u12 (1 + t) 1 1 (some ⟨wr.heap.size, 0, none⟩) (cF s d k j) (fun _ => dv) _ rfl HA4.out rfl (fun e => by cases e) (ob1 rfl hdv) ht9 (by have := HS4.out; simp; omega) ?_; intro v4 w4 hG4 hg4 hob4; have HG4 : Hid (Grow w4 Hj v4 (1 + (t + 1)) (cF s d k j)) := Lib.hid (hG4.congr (catF_self fun z hz => by obtain rfl : z = 0 := (by omega); exact HCE.out.symm)); have HB4 := Lib.hid (HBT.out.trans (((Below.refl Hj wr).alloc HS4.out (.cells #[.int .u8 (dv : Nat)] 5)).trans (grown_in2 HA4.out hg4 (by have := HS4.out; simp; omega)))); clear hG4 hg4 hob4 HA4)
              go_roundw
              case rel => exact ⟨t + 1, by omega, by go_num, HG4.out, HB4.out⟩
              case measure => simp [intOf]; omega
            · obtain rfl : k = t := by omega
              have HCB : Hid (∀ z, z < 1 + k → cF s d k j z < 256) := Lib.hid (cF_lt (L := L) (fun j hj => (HS.out j hj).1) (fun i hi => (HDR.out i (by rw [HNM.out.2.2.2.2.2.2]; exact hi)).1) hltj)
              obtain ⟨oa, cp, rfl, hCy, -⟩ := HCC.out.bytes HCB.out
              obtain ⟨vv, hvv⟩ : ∃ x, evalN (cF s d k j) (1 + k) q = x := ⟨_, rfl⟩
              have HVV := Lib.hid hvv
              have HSV : Hid (shF s d k q j = vv) := Lib.hid hvv
              have HV8 : Hid (vv < 256) := Lib.hid (by rw [← hvv]; exact evalN_lt _ _ _)
              have HK9 : Hid (1 + k ≤ maxLen) := Lib.hid (by unfold maxLen; omega)
              have HJL : Hid (j < 100) := Lib.hid (by have := HNM.out; omega)
              have hX_0 := Blk.below HX.out (HBT.out.drew) HHJ.out.2
              have hG_0 : Grow wr.drew (Hx + 1) va j (shF s d k q) := (HG.out.later (by have := HBT.out; rw [← HHJ.out.1] at this; exact this)).drew
              have hP_0 : Below Hx wj wr.drew := (HBT.out.drew).mono (Nat.le_of_lt HHJ.out.2)
              have hZ_0 : Hx + 1 ≤ wr.drew.heap.size := Nat.le_trans HZ.out HBT.out.size
              have hC_0 : Bytes wr.drew oa (1 + k) (cF s d k j) := hCy
              clear hvv hCy HCC HX HG HZ
              go_wp2_with fail
              clear c0
              refine wp_region_held_drew (S := (Below Hx wj)) (by kernel_rfl) ?_ (fun hHeld => ?_)
              · (try dsimp only)
                first | assumption
              generalize wr.drew = W0 at *
              refine wpAnyH_take (i := 0) (oi := { dst := some 80, op := Go.Op.fieldAddr 46 (Go.Operand.tmp 10) 2, type := 0, pos := "ref.go:53", after := #[], guard := none }) (v := ?_) rfl (by kernel_rfl) (by kernel_rfl) (by kernel_rfl) (fun _ _ _ h => h) (Or.inl ⟨by rfl, ?_⟩) (by assumption) ?_
              rotate_left
              · intro wS hSw
                (try dsimp only at hSw)
                go_simp
                (try with_reducible rfl)
              (try simp only [Act.put, List.setIfInBounds_toArray, List.set_cons_zero, List.set_cons_succ])
              refine wpAnyH_take (i := 2) (oi := { dst := some 82, op := Go.Op.move (Go.Operand.tmp 12), type := 22, pos := "ref.go:53", after := #[], guard := none }) (v := ?_) rfl (by kernel_rfl) (by kernel_rfl) (by kernel_rfl) (fun _ _ _ h => h) (Or.inl ⟨by rfl, ?_⟩) (by assumption) ?_
              rotate_left
              · intro wS hSw
                (try dsimp only at hSw)
                go_simp
                (try with_reducible rfl)
              (try simp only [Act.put, List.setIfInBounds_toArray, List.set_cons_zero, List.set_cons_succ])
              refine wpAnyH_take (i := 3) (oi := { dst := some 83, op := Go.Op.move (Go.Operand.tmp 9), type := 3, pos := "ref.go:53", after := #[], guard := none }) (v := ?_) rfl (by kernel_rfl) (by kernel_rfl) (by kernel_rfl) (fun _ _ _ h => h) (Or.inl ⟨by rfl, ?_⟩) (by assumption) ?_
              rotate_left
              · intro wS hSw
                (try dsimp only at hSw)
                go_simp
                (try with_reducible rfl)
              (try simp only [Act.put, List.setIfInBounds_toArray, List.set_cons_zero, List.set_cons_succ])
              refine wpAnyH_take (i := 4) (oi := { dst := some 84, op := Go.Op.convert 3 5 (Go.Operand.tmp 83), type := 5, pos := "ref.go:53", after := #[{ on := 3, ground := Go.Ground.data }], guard := none }) (v := ?_) rfl (by kernel_rfl) (by kernel_rfl) (by kernel_rfl) (fun _ _ _ h => h) (Or.inl ⟨by rfl, ?_⟩) (by assumption) ?_
              rotate_left
              · intro wS hSw
                (try dsimp only at hSw)
                go_simp
                (try with_reducible rfl)
              (try simp only [Act.put, List.setIfInBounds_toArray, List.set_cons_zero, List.set_cons_succ])
              refine wpAnyH_ready (rs := [1, 5]) (by kernel_rfl) (by simp) ?_
              refine AllReadyH.cons (o := { dst := some 81, op := Go.Op.load 22 (Go.Operand.tmp 80), type := 22, pos := "ref.go:53", after := #[{ on := 0, ground := Go.Ground.data }], guard := none }) rfl (fun K hK => ?_) ?_
              · skip
                (have c9 : W0.cell? ⟨Hx, 2, none⟩ = some va := (by rw [Blk.cell hX_0]; rfl); go_simp; clear c9; skip)
                refine hK.out _ _ ?_ (fun hHeld => ?_)
                · (try dsimp only)
                  first | assumption
                clear hK K
                (try simp only [Act.put, List.setIfInBounds_toArray, List.set_cons_zero, List.set_cons_succ])
                refine wpAnyH_ready (rs := [5]) (by kernel_rfl) (by simp) ?_
                refine AllReadyH.cons (o := { dst := some 85, op := Go.Op.call { callee := Go.Callee.value (Go.Operand.func 40), args := #[Go.Operand.tmp 82, Go.Operand.tmp 84], argTypes := #[22, 5] }, type := 5, pos := "ref.go:53", after := #[{ on := 2, ground := Go.Ground.data }, { on := 4, ground := Go.Ground.data }], guard := none }) rfl (fun K hK => ?_) AllReadyH.nil
                go_simp
                (refine (reval_any oa (1 + k) cp (cF s d k j) q vv W0 hC_0 HK9.out hq8 HVV.out).mono ?_; rintro e w' ⟨rfl, rfl⟩; clear hC_0; skip)
                (try go_wp2_with fail)
                refine hK.out _ _ ?_ (fun hHeld => ?_)
                · (try dsimp only)
                  first | assumption
                clear hK K
                (try simp only [Act.put, List.setIfInBounds_toArray, List.set_cons_zero, List.set_cons_succ])
                refine wpAnyH_ready (rs := [6]) (by kernel_rfl) (by simp) ?_
                refine AllReadyH.cons (o := { dst := some 86, op := Go.Op.buildSlice 22 1 #[(0, Go.Operand.tmp 85)], type := 22, pos := "ref.go:53", after := #[{ on := 5, ground := Go.Ground.data }], guard := none }) rfl (fun K hK => ?_) AllReadyH.nil
                go_simp
                (obtain ⟨V_1, hw⟩ : ∃ z, W0.alloc (.cells #[.int .u8 (vv : Nat)] 5) = z := ⟨_, rfl⟩; rw [hw]; have hb : Below W0.heap.size W0 V_1 := (by rw [← hw]; exact (Below.refl _ _).alloc (Nat.le_refl _) _); have hX_1 := Blk.below hX_0 hb (Blk.lt hX_0); have hG_1 := hG_0.later hb; have hP_1 := hP_0.trans (hb.mono (Nat.le_of_succ_le hZ_0)); have hZ_1 : Hx + 1 ≤ V_1.heap.size := Nat.le_trans hZ_0 hb.size; have HO_1 : Hid (Bytes V_1 (some ⟨W0.heap.size, 0, none⟩) 1 (fun _ => vv)) := Lib.hid (by rw [← hw]; exact ob1 rfl HV8.out); have hs_1 := hw; clear hw hb hX_0 hG_0 hP_0 hZ_0 hs_1; skip)
                (try go_wp2_with fail)
                refine hK.out _ _ ?_ (fun hHeld => ?_)
                · (try dsimp only)
                  first | assumption
                clear hK K
                (try simp only [Act.put, List.setIfInBounds_toArray, List.set_cons_zero, List.set_cons_succ])
                refine wpAnyH_ready (rs := [7]) (by kernel_rfl) (by simp) ?_
                refine AllReadyH.cons (o := { dst := some 87, op := Go.Op.call { callee := Go.Callee.builtin Go.Builtin.append, args := #[Go.Operand.tmp 81, Go.Operand.tmp 86], argTypes := #[22, 22] }, type := 22, pos := "ref.go:53", after := #[{ on := 1, ground := Go.Ground.data }, { on := 6, ground := Go.Ground.data }, { on := 5, ground := Go.Ground.chain }], guard := none }) rfl (fun K hK => ?_) AllReadyH.nil
                (refine step_appO rfl (.tmp 81) (.tmp 86) rfl (Hx + 1) va j 1 1 (some ⟨W0.heap.size, 0, none⟩) (shF s d k q) (fun _ => vv) V_1 rfl hG_1 rfl (fun e => by cases e) HO_1.out (by have := HJL.out; omega) hZ_1 ?_; intro v' V_2 hG' hgr hat; have hb : Below (Hx + 1) V_1 V_2 := grown_in2 hG_1 hgr hZ_1; have hX_2 := Blk.below hX_1 hb (Nat.lt_succ_self Hx); have hG_2 : Grow V_2 (Hx + 1) v' (j + 1) (shF s d k q) := hG'.congr (catF_self fun t ht => by obtain rfl : t = 0 := (by omega); exact HSV.out.symm); have hP_2 := hP_1.trans (hb.mono (Nat.le_succ _)); have hZ_2 : Hx + 1 ≤ V_2.heap.size := Nat.le_trans hZ_1 hb.size; clear hG' hgr hat hb hX_1 hG_1 hP_1 hZ_1; obtain ⟨ov, cv, rfl, -, -⟩ := hG_2.bytes (fun z _ => shF_lt _ _ _ _ _); skip)
                refine hK.out _ _ ?_ (fun hHeld => ?_)
                · (try dsimp only)
                  first | assumption
                clear hK K
                (try simp only [Act.put, List.setIfInBounds_toArray, List.set_cons_zero, List.set_cons_succ])
                refine wpAnyH_take (i := 8) (oi := { dst := some 88, op := Go.Op.fieldAddr 46 (Go.Operand.tmp 10) 2, type := 0, pos := "ref.go:53", after := #[{ on := 0, ground := Go.Ground.phase }, { on := 1, ground := Go.Ground.phase }, { on := 2, ground := Go.Ground.phase }, { on := 3, ground := Go.Ground.phase }, { on := 4, ground := Go.Ground.phase }, { on := 5, ground := Go.Ground.phase }, { on := 6, ground := Go.Ground.phase }, { on := 7, ground := Go.Ground.phase }], guard := none }) (v := ?_) rfl (by kernel_rfl) (by kernel_rfl) (by kernel_rfl) (fun _ _ _ h => h) (Or.inl ⟨by rfl, ?_⟩) (by assumption) ?_
                rotate_left
                · intro wS hSw
                  (try dsimp only at hSw)
                  go_simp
                  (try with_reducible rfl)
                (try simp only [Act.put, List.setIfInBounds_toArray, List.set_cons_zero, List.set_cons_succ])
                refine wpAnyH_ready (rs := [9]) (by kernel_rfl) (by simp) ?_
                refine AllReadyH.cons (o := { dst := none, op := Go.Op.store 22 (Go.Operand.tmp 88) (Go.Operand.tmp 87), type := 0, pos := "ref.go:53", after := #[{ on := 8, ground := Go.Ground.data }, { on := 7, ground := Go.Ground.data }, { on := 7, ground := Go.Ground.chain }, { on := 0, ground := Go.Ground.phase }, { on := 1, ground := Go.Ground.phase }, { on := 2, ground := Go.Ground.phase }, { on := 3, ground := Go.Ground.phase }, { on := 4, ground := Go.Ground.phase }, { on := 5, ground := Go.Ground.phase }, { on := 6, ground := Go.Ground.phase }, { on := 7, ground := Go.Ground.phase }], guard := none }) rfl (fun K hK => ?_) AllReadyH.nil
                (have c9 : V_2.cell? ⟨Hx, 2, none⟩ = some va := (by rw [Blk.cell hX_2]; rfl); have f9 := Blk.free hX_2 2; have hO : Own Hx V_2 (V_2.setCell ⟨Hx, 2, none⟩ (.slice ov (j + 1) cv)) := (Own.refl Hx V_2).set 2 (.slice ov (j + 1) cv); have hX_3 : Blk (V_2.setCell ⟨Hx, 2, none⟩ (.slice ov (j + 1) cv)) Hx #[.int .u8 (q : Int), .int .u32 (gen : Int), .slice ov (j + 1) cv] 46 := hX_2.set 2 (.slice ov (j + 1) cv); have hG_3 := hG_2.own hO (Nat.lt_succ_self Hx); have hP_3 := hP_2.trans (hO.below (Nat.le_refl _) (Nat.le_of_succ_le hZ_2)); have hZ_3 : Hx + 1 ≤ (V_2.setCell ⟨Hx, 2, none⟩ (.slice ov (j + 1) cv)).heap.size := Nat.le_trans hZ_2 hO.size; go_simp; clear c9 f9 hX_2 hG_2 hP_2 hZ_2 hO; skip)
                refine hK.out _ _ ?_ (fun hHeld => ?_)
                · (try dsimp only)
                  first | assumption
                clear hK K
                (try simp only [Act.put, List.setIfInBounds_toArray, List.set_cons_zero, List.set_cons_succ])
                refine wpAnyH_done (by kernel_rfl) ?_ _
                have HE := Lib.hid (show _ ∧ _ ∧ _ ∧ _ from ⟨hX_3, hG_3, hP_3, hZ_3⟩)
                clear hX_3 hG_3 hP_3 hZ_3
                go_wp2_with fail
                go_roundw
                case rel => exact ⟨j + 1, _, by omega, by go_num, HE.out.1, HE.out.2.1, HOJ.out.trans HE.out.2.2.1, HE.out.2.2.2⟩
                case measure => simp [intOf]; omega
              refine AllReadyH.cons (o := { dst := some 85, op := Go.Op.call { callee := Go.Callee.value (Go.Operand.func 40), args := #[Go.Operand.tmp 82, Go.Operand.tmp 84], argTypes := #[22, 5] }, type := 5, pos := "ref.go:53", after := #[{ on := 2, ground := Go.Ground.data }, { on := 4, ground := Go.Ground.data }], guard := none }) rfl (fun K hK => ?_) AllReadyH.nil
              go_simp
              (refine (reval_any oa (1 + k) cp (cF s d k j) q vv W0 hC_0 HK9.out hq8 HVV.out).mono ?_; rintro e w' ⟨rfl, rfl⟩; clear hC_0; skip)
              (try go_wp2_with fail)
              refine hK.out _ _ ?_ (fun hHeld => ?_)
              · (try dsimp only)
                first | assumption
              clear hK K
              (try simp only [Act.put, List.setIfInBounds_toArray, List.set_cons_zero, List.set_cons_succ])
              refine wpAnyH_ready (rs := [1, 6]) (by kernel_rfl) (by simp) ?_
              refine AllReadyH.cons (o := { dst := some 81, op := Go.Op.load 22 (Go.Operand.tmp 80), type := 22, pos := "ref.go:53", after := #[{ on := 0, ground := Go.Ground.data }], guard := none }) rfl (fun K hK => ?_) ?_
              · skip
                (have c9 : W0.cell? ⟨Hx, 2, none⟩ = some va := (by rw [Blk.cell hX_0]; rfl); go_simp; clear c9; skip)
                refine hK.out _ _ ?_ (fun hHeld => ?_)
                · (try dsimp only)
                  first | assumption
                clear hK K
                (try simp only [Act.put, List.setIfInBounds_toArray, List.set_cons_zero, List.set_cons_succ])
                refine wpAnyH_ready (rs := [6]) (by kernel_rfl) (by simp) ?_
                refine AllReadyH.cons (o := { dst := some 86, op := Go.Op.buildSlice 22 1 #[(0, Go.Operand.tmp 85)], type := 22, pos := "ref.go:53", after := #[{ on := 5, ground := Go.Ground.data }], guard := none }) rfl (fun K hK => ?_) AllReadyH.nil
                go_simp
                (obtain ⟨V_1, hw⟩ : ∃ z, W0.alloc (.cells #[.int .u8 (vv : Nat)] 5) = z := ⟨_, rfl⟩; rw [hw]; have hb : Below W0.heap.size W0 V_1 := (by rw [← hw]; exact (Below.refl _ _).alloc (Nat.le_refl _) _); have hX_1 := Blk.below hX_0 hb (Blk.lt hX_0); have hG_1 := hG_0.later hb; have hP_1 := hP_0.trans (hb.mono (Nat.le_of_succ_le hZ_0)); have hZ_1 : Hx + 1 ≤ V_1.heap.size := Nat.le_trans hZ_0 hb.size; have HO_1 : Hid (Bytes V_1 (some ⟨W0.heap.size, 0, none⟩) 1 (fun _ => vv)) := Lib.hid (by rw [← hw]; exact ob1 rfl HV8.out); have hs_1 := hw; clear hw hb hX_0 hG_0 hP_0 hZ_0 hs_1; skip)
                (try go_wp2_with fail)
                refine hK.out _ _ ?_ (fun hHeld => ?_)
                · (try dsimp only)
                  first | assumption
                clear hK K
                (try simp only [Act.put, List.setIfInBounds_toArray, List.set_cons_zero, List.set_cons_succ])
                refine wpAnyH_ready (rs := [7]) (by kernel_rfl) (by simp) ?_
                refine AllReadyH.cons (o := { dst := some 87, op := Go.Op.call { callee := Go.Callee.builtin Go.Builtin.append, args := #[Go.Operand.tmp 81, Go.Operand.tmp 86], argTypes := #[22, 22] }, type := 22, pos := "ref.go:53", after := #[{ on := 1, ground := Go.Ground.data }, { on := 6, ground := Go.Ground.data }, { on := 5, ground := Go.Ground.chain }], guard := none }) rfl (fun K hK => ?_) AllReadyH.nil
                (refine step_appO rfl (.tmp 81) (.tmp 86) rfl (Hx + 1) va j 1 1 (some ⟨W0.heap.size, 0, none⟩) (shF s d k q) (fun _ => vv) V_1 rfl hG_1 rfl (fun e => by cases e) HO_1.out (by have := HJL.out; omega) hZ_1 ?_; intro v' V_2 hG' hgr hat; have hb : Below (Hx + 1) V_1 V_2 := grown_in2 hG_1 hgr hZ_1; have hX_2 := Blk.below hX_1 hb (Nat.lt_succ_self Hx); have hG_2 : Grow V_2 (Hx + 1) v' (j + 1) (shF s d k q) := hG'.congr (catF_self fun t ht => by obtain rfl : t = 0 := (by omega); exact HSV.out.symm); have hP_2 := hP_1.trans (hb.mono (Nat.le_succ _)); have hZ_2 : Hx + 1 ≤ V_2.heap.size := Nat.le_trans hZ_1 hb.size; clear hG' hgr hat hb hX_1 hG_1 hP_1 hZ_1; obtain ⟨ov, cv, rfl, -, -⟩ := hG_2.bytes (fun z _ => shF_lt _ _ _ _ _); skip)
                refine hK.out _ _ ?_ (fun hHeld => ?_)
                · (try dsimp only)
                  first | assumption
                clear hK K
                (try simp only [Act.put, List.setIfInBounds_toArray, List.set_cons_zero, List.set_cons_succ])
                refine wpAnyH_take (i := 8) (oi := { dst := some 88, op := Go.Op.fieldAddr 46 (Go.Operand.tmp 10) 2, type := 0, pos := "ref.go:53", after := #[{ on := 0, ground := Go.Ground.phase }, { on := 1, ground := Go.Ground.phase }, { on := 2, ground := Go.Ground.phase }, { on := 3, ground := Go.Ground.phase }, { on := 4, ground := Go.Ground.phase }, { on := 5, ground := Go.Ground.phase }, { on := 6, ground := Go.Ground.phase }, { on := 7, ground := Go.Ground.phase }], guard := none }) (v := ?_) rfl (by kernel_rfl) (by kernel_rfl) (by kernel_rfl) (fun _ _ _ h => h) (Or.inl ⟨by rfl, ?_⟩) (by assumption) ?_
                rotate_left
                · intro wS hSw
                  (try dsimp only at hSw)
                  go_simp
                  (try with_reducible rfl)
                (try simp only [Act.put, List.setIfInBounds_toArray, List.set_cons_zero, List.set_cons_succ])
                refine wpAnyH_ready (rs := [9]) (by kernel_rfl) (by simp) ?_
                refine AllReadyH.cons (o := { dst := none, op := Go.Op.store 22 (Go.Operand.tmp 88) (Go.Operand.tmp 87), type := 0, pos := "ref.go:53", after := #[{ on := 8, ground := Go.Ground.data }, { on := 7, ground := Go.Ground.data }, { on := 7, ground := Go.Ground.chain }, { on := 0, ground := Go.Ground.phase }, { on := 1, ground := Go.Ground.phase }, { on := 2, ground := Go.Ground.phase }, { on := 3, ground := Go.Ground.phase }, { on := 4, ground := Go.Ground.phase }, { on := 5, ground := Go.Ground.phase }, { on := 6, ground := Go.Ground.phase }, { on := 7, ground := Go.Ground.phase }], guard := none }) rfl (fun K hK => ?_) AllReadyH.nil
                (have c9 : V_2.cell? ⟨Hx, 2, none⟩ = some va := (by rw [Blk.cell hX_2]; rfl); have f9 := Blk.free hX_2 2; have hO : Own Hx V_2 (V_2.setCell ⟨Hx, 2, none⟩ (.slice ov (j + 1) cv)) := (Own.refl Hx V_2).set 2 (.slice ov (j + 1) cv); have hX_3 : Blk (V_2.setCell ⟨Hx, 2, none⟩ (.slice ov (j + 1) cv)) Hx #[.int .u8 (q : Int), .int .u32 (gen : Int), .slice ov (j + 1) cv] 46 := hX_2.set 2 (.slice ov (j + 1) cv); have hG_3 := hG_2.own hO (Nat.lt_succ_self Hx); have hP_3 := hP_2.trans (hO.below (Nat.le_refl _) (Nat.le_of_succ_le hZ_2)); have hZ_3 : Hx + 1 ≤ (V_2.setCell ⟨Hx, 2, none⟩ (.slice ov (j + 1) cv)).heap.size := Nat.le_trans hZ_2 hO.size; go_simp; clear c9 f9 hX_2 hG_2 hP_2 hZ_2 hO; skip)
                refine hK.out _ _ ?_ (fun hHeld => ?_)
                · (try dsimp only)
                  first | assumption
                clear hK K
                (try simp only [Act.put, List.setIfInBounds_toArray, List.set_cons_zero, List.set_cons_succ])
                refine wpAnyH_done (by kernel_rfl) ?_ _
                have HE := Lib.hid (show _ ∧ _ ∧ _ ∧ _ from ⟨hX_3, hG_3, hP_3, hZ_3⟩)
                clear hX_3 hG_3 hP_3 hZ_3
                go_wp2_with fail
                go_roundw
                case rel => exact ⟨j + 1, _, by omega, by go_num, HE.out.1, HE.out.2.1, HOJ.out.trans HE.out.2.2.1, HE.out.2.2.2⟩
                case measure => simp [intOf]; omega
              refine AllReadyH.cons (o := { dst := some 86, op := Go.Op.buildSlice 22 1 #[(0, Go.Operand.tmp 85)], type := 22, pos := "ref.go:53", after := #[{ on := 5, ground := Go.Ground.data }], guard := none }) rfl (fun K hK => ?_) AllReadyH.nil
              go_simp
              (obtain ⟨V_1, hw⟩ : ∃ z, W0.alloc (.cells #[.int .u8 (vv : Nat)] 5) = z := ⟨_, rfl⟩; rw [hw]; have hb : Below W0.heap.size W0 V_1 := (by rw [← hw]; exact (Below.refl _ _).alloc (Nat.le_refl _) _); have hX_1 := Blk.below hX_0 hb (Blk.lt hX_0); have hG_1 := hG_0.later hb; have hP_1 := hP_0.trans (hb.mono (Nat.le_of_succ_le hZ_0)); have hZ_1 : Hx + 1 ≤ V_1.heap.size := Nat.le_trans hZ_0 hb.size; have HO_1 : Hid (Bytes V_1 (some ⟨W0.heap.size, 0, none⟩) 1 (fun _ => vv)) := Lib.hid (by rw [← hw]; exact ob1 rfl HV8.out); have hs_1 := hw; clear hw hb hX_0 hG_0 hP_0 hZ_0 hs_1; skip)
              (try go_wp2_with fail)
              refine hK.out _ _ ?_ (fun hHeld => ?_)
              · (try dsimp only)
                first | assumption
              clear hK K
              (try simp only [Act.put, List.setIfInBounds_toArray, List.set_cons_zero, List.set_cons_succ])
              refine wpAnyH_ready (rs := [1]) (by kernel_rfl) (by simp) ?_
              refine AllReadyH.cons (o := { dst := some 81, op := Go.Op.load 22 (Go.Operand.tmp 80), type := 22, pos := "ref.go:53", after := #[{ on := 0, ground := Go.Ground.data }], guard := none }) rfl (fun K hK => ?_) AllReadyH.nil
              (have c9 : V_1.cell? ⟨Hx, 2, none⟩ = some va := (by rw [Blk.cell hX_1]; rfl); go_simp; clear c9; skip)
              refine hK.out _ _ ?_ (fun hHeld => ?_)
              · (try dsimp only)
                first | assumption
              clear hK K
              (try simp only [Act.put, List.setIfInBounds_toArray, List.set_cons_zero, List.set_cons_succ])
              refine wpAnyH_ready (rs := [7]) (by kernel_rfl) (by simp) ?_
              refine AllReadyH.cons (o := { dst := some 87, op := Go.Op.call { callee := Go.Callee.builtin Go.Builtin.append, args := #[Go.Operand.tmp 81, Go.Operand.tmp 86], argTypes := #[22, 22] }, type := 22, pos := "ref.go:53", after := #[{ on := 1, ground := Go.Ground.data }, { on := 6, ground := Go.Ground.data }, { on := 5, ground := Go.Ground.chain }], guard := none }) rfl (fun K hK => ?_) AllReadyH.nil
              (refine step_appO rfl (.tmp 81) (.tmp 86) rfl (Hx + 1) va j 1 1 (some ⟨W0.heap.size, 0, none⟩) (shF s d k q) (fun _ => vv) V_1 rfl hG_1 rfl (fun e => by cases e) HO_1.out (by have := HJL.out; omega) hZ_1 ?_; intro v' V_2 hG' hgr hat; have hb : Below (Hx + 1) V_1 V_2 := grown_in2 hG_1 hgr hZ_1; have hX_2 := Blk.below hX_1 hb (Nat.lt_succ_self Hx); have hG_2 : Grow V_2 (Hx + 1) v' (j + 1) (shF s d k q) := hG'.congr (catF_self fun t ht => by obtain rfl : t = 0 := (by omega); exact HSV.out.symm); have hP_2 := hP_1.trans (hb.mono (Nat.le_succ _)); have hZ_2 : Hx + 1 ≤ V_2.heap.size := Nat.le_trans hZ_1 hb.size; clear hG' hgr hat hb hX_1 hG_1 hP_1 hZ_1; obtain ⟨ov, cv, rfl, -, -⟩ := hG_2.bytes (fun z _ => shF_lt _ _ _ _ _); skip)
              refine hK.out _ _ ?_ (fun hHeld => ?_)
              · (try dsimp only)
                first | assumption
              clear hK K
              (try simp only [Act.put, List.setIfInBounds_toArray, List.set_cons_zero, List.set_cons_succ])
              refine wpAnyH_take (i := 8) (oi := { dst := some 88, op := Go.Op.fieldAddr 46 (Go.Operand.tmp 10) 2, type := 0, pos := "ref.go:53", after := #[{ on := 0, ground := Go.Ground.phase }, { on := 1, ground := Go.Ground.phase }, { on := 2, ground := Go.Ground.phase }, { on := 3, ground := Go.Ground.phase }, { on := 4, ground := Go.Ground.phase }, { on := 5, ground := Go.Ground.phase }, { on := 6, ground := Go.Ground.phase }, { on := 7, ground := Go.Ground.phase }], guard := none }) (v := ?_) rfl (by kernel_rfl) (by kernel_rfl) (by kernel_rfl) (fun _ _ _ h => h) (Or.inl ⟨by rfl, ?_⟩) (by assumption) ?_
              rotate_left
              · intro wS hSw
                (try dsimp only at hSw)
                go_simp
                (try with_reducible rfl)
              (try simp only [Act.put, List.setIfInBounds_toArray, List.set_cons_zero, List.set_cons_succ])
              refine wpAnyH_ready (rs := [9]) (by kernel_rfl) (by simp) ?_
              refine AllReadyH.cons (o := { dst := none, op := Go.Op.store 22 (Go.Operand.tmp 88) (Go.Operand.tmp 87), type := 0, pos := "ref.go:53", after := #[{ on := 8, ground := Go.Ground.data }, { on := 7, ground := Go.Ground.data }, { on := 7, ground := Go.Ground.chain }, { on := 0, ground := Go.Ground.phase }, { on := 1, ground := Go.Ground.phase }, { on := 2, ground := Go.Ground.phase }, { on := 3, ground := Go.Ground.phase }, { on := 4, ground := Go.Ground.phase }, { on := 5, ground := Go.Ground.phase }, { on := 6, ground := Go.Ground.phase }, { on := 7, ground := Go.Ground.phase }], guard := none }) rfl (fun K hK => ?_) AllReadyH.nil
              (have c9 : V_2.cell? ⟨Hx, 2, none⟩ = some va := (by rw [Blk.cell hX_2]; rfl); have f9 := Blk.free hX_2 2; have hO : Own Hx V_2 (V_2.setCell ⟨Hx, 2, none⟩ (.slice ov (j + 1) cv)) := (Own.refl Hx V_2).set 2 (.slice ov (j + 1) cv); have hX_3 : Blk (V_2.setCell ⟨Hx, 2, none⟩ (.slice ov (j + 1) cv)) Hx #[.int .u8 (q : Int), .int .u32 (gen : Int), .slice ov (j + 1) cv] 46 := hX_2.set 2 (.slice ov (j + 1) cv); have hG_3 := hG_2.own hO (Nat.lt_succ_self Hx); have hP_3 := hP_2.trans (hO.below (Nat.le_refl _) (Nat.le_of_succ_le hZ_2)); have hZ_3 : Hx + 1 ≤ (V_2.setCell ⟨Hx, 2, none⟩ (.slice ov (j + 1) cv)).heap.size := Nat.le_trans hZ_2 hO.size; go_simp; clear c9 f9 hX_2 hG_2 hP_2 hZ_2 hO; skip)
              refine hK.out _ _ ?_ (fun hHeld => ?_)
              · (try dsimp only)
                first | assumption
              clear hK K
              (try simp only [Act.put, List.setIfInBounds_toArray, List.set_cons_zero, List.set_cons_succ])
              refine wpAnyH_done (by kernel_rfl) ?_ _
              have HE := Lib.hid (show _ ∧ _ ∧ _ ∧ _ from ⟨hX_3, hG_3, hP_3, hZ_3⟩)
              clear hX_3 hG_3 hP_3 hZ_3
              go_wp2_with fail
              go_roundw
              case rel => exact ⟨j + 1, _, by omega, by go_num, HE.out.1, HE.out.2.1, HOJ.out.trans HE.out.2.2.1, HE.out.2.2.2⟩
              case measure => simp [intOf]; omega
        · obtain rfl : L = j := by omega
          obtain ⟨g, cap, rfl, hgx, hlc, hcm, hBR⟩ := BRow.of_grow HG.out (by have := HNM.out; omega)
          have HRG : Hid (wj.rangeAt Hx 0 [.int .u8 (q : Int), .int .u32 (gen : Int), .slice (some ⟨g, 0, none⟩) L cap]) := Lib.hid (Blk.range0 (C := [.int .u8 (q : Int), .int .u32 (gen : Int), .slice (some ⟨g, 0, none⟩) L cap]) HX.out)
          have HIS : Hid (IsSh tb wj [.int .u8 (q : Int), .int .u32 (gen : Int), .slice (some ⟨g, 0, none⟩) L cap] (rS gen L s d k i)) := Lib.hid (by
            unfold rS
            rw [← HQ.out]
            exact ⟨some ⟨g, 0, none⟩, cap, rfl, hBR.bytes fun j _ => shF_lt _ _ _ _ _, (fun e => by cases e), hlc, hcm, Apart.of_ne (by have := HBS.out; have := HHX.out; omega)⟩)
          have HGJ : Hid (GS 46 tb wj base u8 i (rS gen L s d k)) := Lib.hid (HGS.out.later (by have := HOJ.out; rw [← HHX.out.1] at this; exact this))
          have HAW : Hid (Away u8 [.int .u8 (q : Int), .int .u32 (gen : Int), .slice (some ⟨g, 0, none⟩) L cap]) := Lib.hid fun a2 l cp hm _ e => by
            simp at hm
            obtain ⟨rfl, -, -⟩ := hm
            have h1 := (HGS.out.block _ e).2
            have h3 := HHX.out.1
            simp only at h1
            omega
          obtain ⟨H, hH⟩ : ∃ x, wj.heap.size = x := ⟨_, rfl⟩
          have HHH := Lib.hid hH
          have HBH : Hid (base ≤ wj.heap.size) := Lib.hid (by have := HHX.out; have := HOJ.out.size; omega)
          have hi9 : i < 1000000 := by omega
          have hu : Tryd.prog.underlying 36 = some (.slice 46) := by kernel_rfl
          clear hgx hlc hcm hBR
          go_wp2_with (first
            | (refine wpList_value rfl (exec_loadM (x := .tmp 10) (cs := [.int .u8 (q : Int), .int .u32 (gen : Int), .slice (some ⟨g, 0, none⟩) L cap]) rfl rfl HRG.out Tryd.underlying46 rfl info_rshare3) ?_)
            | (refine wpList_appGS hu info_rshare rfl rfl (.tmp 89) (.tmp 91) rfl tb base u8 i (rS gen L s d k) [.int .u8 (q : Int), .int .u32 (gen : Int), .slice (some ⟨g, 0, none⟩) L cap] _ rfl HGJ.out HIS.out HAW.out H HHH.out rfl hi9 HBH.out ?_; intro v6 w6 hG6 hg6 hb6 hs6; have HG6 := Lib.hid hG6; have HB6 := Lib.hid ((HBJ.out _ HOJ.out).trans hb6); clear hG6 hg6 hb6 hs6))
          go_roundw
          case rel => exact ⟨i + 1, q + 1, by rw [HQ.out], by omega, by go_num, HG6.out, HB6.out⟩
          case measure => simp [intOf]; omega
    · have hq1 : decide ((q : Int) ≤ (N : Int)) = false := decide_eq_false (by omega)
      obtain rfl : N = i := by omega
      obtain ⟨oa, cap, rfl, -, -, hSS⟩ := HGS.out.shs (.inl HBS.out.2.2)
      have HQ9 := Lib.hid (⟨hSS, HBW.out _ HBO.out⟩ : Shs tb wo oa N (rS gen L s d k) ∧ Below w.heap.size w wo)
      clear hSS
      go_wp2_with fail
      go_ret2
      exact ⟨oa, cap, rfl, HQ9.out.1, HQ9.out.2⟩
end Go.Proofs.YtmhofofidmbgfaaDoor
