/- FrameMixed walked. -/
import Derived.Test.YtfbbnffinlebbaaDoorFr5
import Derived.Test.YtfbbnffinlebbaaDoorRry
namespace Go.Proofs.YtfbbnffinlebbaaDoor
set_option linter.unusedVariables false
set_option linter.unusedSimpArgs false
open Go.RowKit

/-- The old record's sectors, noughts behind them. -/
def oldG (na nx : Nat) (A : Nat → Nat) : Nat → Nat → Nat := fun i => if i < nx then frF 5 na A i else fun _ => 0
/-- The same, with those of the new one that came, ahead of place m. -/
def midG (na nb nx : Nat) (A B : Nat → Nat) (p : Nat → Bool) (m : Nat) : Nat → Nat → Nat := fun j => if j < m ∧ p j = true then frF 6 nb B j else oldG na nx A j
theorem midG_put {na nb nx m : Nat} {A B : Nat → Nat} {p : Nat → Bool} (hp : p m = true) (j : Nat) : (fun j => if j = m then frF 6 nb B m else midG na nb nx A B p m j) j = midG na nb nx A B p (m + 1) j := by
  dsimp only
  unfold midG
  by_cases e : j = m
  · subst e; rw [if_pos rfl, if_pos ⟨by omega, hp⟩]
  · rw [if_neg e]
    by_cases e2 : j < m ∧ p j = true
    · rw [if_pos e2, if_pos ⟨by omega, e2.2⟩]
    · rw [if_neg e2, if_neg fun h => e2 ⟨by omega, h.2⟩]
theorem midG_skip {na nb nx m : Nat} {A B : Nat → Nat} {p : Nat → Bool} (hp : p m = false) (j : Nat) : midG na nb nx A B p m j = midG na nb nx A B p (m + 1) j := by
  unfold midG
  by_cases e2 : j < m ∧ p j = true
  · rw [if_pos e2, if_pos ⟨by omega, e2.2⟩]
  · rw [if_neg e2, if_neg fun h => e2 ⟨by
      by_cases e : j = m
      · rw [e, hp] at h; cases h.2
      · omega, h.2⟩]
theorem midG_mix {na nb nx ny : Nat} {A B : Nat → Nat} {p : Nat → Bool} (hx : secN na = nx) (hy : secN nb = ny) (i k : Nat) : midG na nb nx A B p ny i k = mixF na nb A B p i k := by
  subst hx hy
  unfold midG mixF oldG
  split
  · rfl
  split <;> rfl
theorem cntB_succ {p : Nat → Bool} {n : Nat} (h : p n = true) : cntB p (n + 1) = cntB p n + 1 := by show cntB p n + (if p n = true then 1 else 0) = _; rw [if_pos h]
theorem cntB_skip {p : Nat → Bool} {n : Nat} (h : p n = false) : cntB p (n + 1) = cntB p n := by show cntB p n + (if p n = true then 1 else 0) = _; rw [h]; rfl
/-- Which sectors came. -/
def cameP (nw : Nat) (f : Nat → Bool) : Nat → Bool := fun i => decide (i < nw) && f i
theorem cameP_in {nw i : Nat} {f : Nat → Bool} (h : i < nw) : cameP nw f i = f i := by unfold cameP; simp [h]
theorem cameP_out {nw i : Nat} {f : Nat → Bool} (h : ¬ i < nw) : cameP nw f i = false := by unfold cameP; simp [h]
set_option maxRecDepth 100000 in
set_option maxHeartbeats 16000000 in
theorem mixed_any (na ca nb cb nw cw : Nat) (oa ob ow : Option Addr) (A B : Nat → Nat) (f : Nat → Bool) (w : World) (hg : Handle w) (hA : Bytes w oa na A) (zA : oa = none → na = 0) (lA : na ≤ ca) (qA : ca ≤ maxLen)
    (hB : Bytes w ob nb B) (zB : ob = none → nb = 0) (lB : nb ≤ cb) (qB : cb ≤ maxLen) (hW : Bools w ow nw f) (lW : nw ≤ cw) (qW : cw ≤ maxLen) :
    Calls Tryd.prog 5 #[.slice oa na ca, .slice ob nb cb, .slice ow nw cw] w fun e w' => e = .returned (.bool true) ∧ Below w.heap.size w w' := by
  have HSU : Hid (∀ w', Below w.heap.size w w' → Calls Tryd.prog 7 #[] w' fun e w'' => e = .returned (.bool true) ∧ Below w'.heap.size w' w'') := Lib.hid fun w' hb => sure14 w' (hg.below hb hg.2)
  have HG := Lib.hid hg
  have HNM := Lib.hid (show (oa = none → na = 0) ∧ na ≤ ca ∧ (ob = none → nb = 0) ∧ nb ≤ cb ∧ nw ≤ cw ∧ cw ≤ maxLen from ⟨zA, lA, zB, lB, lW, qW⟩)
  have HAY : Hid (∀ w', Below w.heap.size w w' → Bytes w' oa na A) := Lib.hid fun w' h => hA.later h
  have HBY : Hid (∀ w', Below w.heap.size w w' → Bytes w' ob nb B) := Lib.hid fun w' h => hB.later h
  have HWY : Hid (∀ w', Below w.heap.size w w' → Bools w' ow nw f) := Lib.hid fun w' h => hW.later h
  have n0 : (na : Int) ≤ 9223372036854775807 := by unfold maxLen at qA; omega
  have n1 : (nb : Int) ≤ 9223372036854775807 := by unfold maxLen at qB; omega
  have n2 : (nw : Int) ≤ 9223372036854775807 := by unfold maxLen at qW; omega
  clear hg zA lA qA zB lB qB lW qW hA hB hW
  by_cases h9 : 900 < na
  · have z2 : (900 : Int) < (na : Int) := by omega
    clear h9
    go_enter Tryd.func5, Tryd.ntmps5
    go_wp2_with fail
    refine (HSU.out w (Below.refl w.heap.size w)).mono ?_
    rintro e ws ⟨rfl, hbs⟩
    have HBS := Lib.hid (((Below.refl w.heap.size w)).trans (hbs.mono ((Below.refl w.heap.size w)).size))
    clear hbs
    go_wp2_with fail
    go_ret
    exact ⟨rfl, HBS.out⟩
  have z2 : ¬ (900 : Int) < (na : Int) := by omega
  by_cases h8 : 900 < nb
  · have z3 : (900 : Int) < (nb : Int) := by omega
    clear h8 h9
    go_enter Tryd.func5, Tryd.ntmps5
    go_wp2_with fail
    refine (HSU.out w (Below.refl w.heap.size w)).mono ?_
    rintro e ws ⟨rfl, hbs⟩
    have HBS := Lib.hid (((Below.refl w.heap.size w)).trans (hbs.mono ((Below.refl w.heap.size w)).size))
    clear hbs
    go_wp2_with fail
    go_ret
    exact ⟨rfl, HBS.out⟩
  have z3 : ¬ (900 : Int) < (nb : Int) := by omega
  have HN9 : Hid (na ≤ 900 ∧ nb ≤ 900) := Lib.hid ⟨by omega, by omega⟩
  have HSP := Lib.hid (split_any 5 na oa ca A w (by decide) (by decide) (HAY.out _ (Below.refl _ _)) HNM.out.1 HNM.out.2.1 (by have := HN9.out; omega))
  clear h8 h9
  go_enter Tryd.func5, Tryd.ntmps5
  go_wp2_with fail
  refine HSP.out.mono ?_
  rintro e w2 ⟨g1, rfl, hLX, hb2, _⟩
  obtain ⟨nx, hnx⟩ : ∃ x, secN na = x := ⟨_, rfl⟩
  have HX := Lib.hid (show secN na = nx ∧ 1 ≤ nx ∧ nx ≤ 255 from ⟨hnx, by rw [← hnx]; exact secN_pos na, by rw [← hnx]; exact secN_le (by have := HN9.out; omega)⟩)
  rw [hnx] at hLX ⊢
  have HLX := Lib.hid hLX
  have HB2 := Lib.hid hb2
  have HSP := Lib.hid (split_any 6 nb ob cb B w2 (by decide) (by decide) (HBY.out _ hb2) HNM.out.2.2.1 HNM.out.2.2.2.1 (by have := HN9.out; omega))
  clear hLX hb2 hnx
  go_wp2_with fail
  refine HSP.out.mono ?_
  rintro e w3 ⟨g2, rfl, hLY, hb3, _⟩
  obtain ⟨ny, hny⟩ : ∃ x, secN nb = x := ⟨_, rfl⟩
  have HY := Lib.hid (show secN nb = ny ∧ 1 ≤ ny ∧ ny ≤ 255 from ⟨hny, by rw [← hny]; exact secN_pos nb, by rw [← hny]; exact secN_le (by have := HN9.out; omega)⟩)
  rw [hny] at hLY ⊢
  have HB3 := Lib.hid (HB2.out.trans (hb3.mono HB2.out.size))
  have HLX3 := Lib.hid (LBs.x (HLX.out.later hb3))
  have HLY : Hid (∀ W, Below w3.heap.size w3 W → LBx W w3.heap.size (some ⟨g2, 0, none⟩) ny (fun _ => 64) (frF 6 nb B)) := Lib.hid fun W h => (LBs.x hLY).later h
  have HBB : Hid (∀ W, Below w3.heap.size w3 W → Below w.heap.size w W) := Lib.hid fun W h => HB3.out.trans (h.mono HB3.out.size)
  have x0 : ¬ (nx : Int) = 0 := by have := HX.out; omega
  have x1 : decide ((nx : Int) = 0) = false := decide_eq_false x0
  have x2 : ((nx : Int) == 0) = false := by simpa using x0
  have y0 : ¬ (ny : Int) = 0 := by have := HY.out; omega
  have y1 : decide ((ny : Int) = 0) = false := decide_eq_false y0
  have y2 : ((ny : Int) == 0) = false := by simpa using y0
  have HE := Lib.hid (RL.empty w3 (fun _ => 64) (frF 5 na A))
  have HXL : Hid (LBx (w3.alloc (.cells #[] 23)) w3.heap.size (some ⟨g1, 0, none⟩) nx (fun _ => 64) (frF 5 na A)) := Lib.hid (HLX3.out.later ((Below.refl _ _).alloc (Nat.le_refl _) _))
  have HX9 : Hid (0 + nx < 1000000000000) := Lib.hid (by have := HX.out; omega)
  clear hLY hb3 hny HSP HLX3 HLX
  go_wp2_with (at_builtin; refine wpList_appRs rfl (.tmp 55) (.tmp 56) rfl w3.heap.size (.slice (some ⟨w3.heap.size, 0, none⟩) 0 0) 0 nx nx (fun _ => 64) (fun _ => 64) (frF 5 na A) (frF 5 na A) (some ⟨g1, 0, none⟩) (w3.alloc (.cells #[] 23)) rfl HE.out rfl HXL.out (fun e => by cases e) HX9.out ?c1 ?_)
  case c1 => simp
  intro v1 w4 hR4 hb4
  have hb34 : Below w3.heap.size w3 w4 := ((Below.refl _ _).alloc (Nat.le_refl _) (.cells #[] 23)).trans hb4
  have hR4 : RL w4 w3.heap.size v1 nx (fun _ => 64) (oldG na nx A) := hR4.congr (fun i hi => by unfold catL; split <;> rfl) (fun i hi => by unfold catG oldG; rw [if_neg (Nat.not_lt_zero _), Nat.sub_zero, if_pos hi])
  obtain ⟨gl, cl, rfl, hgl, hcl, hcl2⟩ := hR4.some HX.out.2.1
  have H4 := Lib.hid (show RL w4 w3.heap.size (.slice (some ⟨gl, 0, none⟩) nx cl) nx (fun _ => 64) (oldG na nx A) ∧ Below w3.heap.size w3 w4 from ⟨hR4, hb34⟩)
  clear hR4 hb4 hb34 hgl hcl hcl2 HE HXL HX9
  go_wp2_with fail
  go_loopw [11] (fun v wr => ∃ (g k c : Nat), v = .slice (some ⟨g, 0, none⟩) k c ∧ nx ≤ k ∧ (k ≤ ny ∨ k = nx) ∧ RL wr w3.heap.size (.slice (some ⟨g, 0, none⟩) k c) k (fun _ => 64) (oldG na nx A) ∧ Below w3.heap.size w3 wr) (fun v _ => ny - lenV v)
  case atStart => exact ⟨gl, nx, cl, rfl, Nat.le_refl _, .inr rfl, H4.out.1, H4.out.2⟩
  case round =>
    clear H4
    obtain ⟨g, k, c, rfl, hk1, hk2, hR, hX⟩ := hrel
    have HR := Lib.hid hR
    have HW := Lib.hid hX
    clear hR hX
    by_cases hlt : k < ny
    · as_aux_lemma =>
      have i1 : (k : Int) < (ny : Int) := by omega
      have HK := Lib.hid (show nx ≤ k ∧ k < ny from ⟨hk1, hlt⟩)
      obtain ⟨wa, hwa⟩ : ∃ x, wr.alloc (.cells (rowC 64 (fun _ => 0)).toArray 5) = x := ⟨_, rfl⟩
      obtain ⟨q1, hq1⟩ : ∃ x, wr.heap.size = x := ⟨_, rfl⟩
      obtain ⟨wb, hwb⟩ : ∃ x, wa.alloc (.cells #[.slice (some ⟨q1, 0, none⟩) 64 64] 23) = x := ⟨_, rfl⟩
      obtain ⟨q2, hq2⟩ : ∃ x, wa.heap.size = x := ⟨_, rfl⟩
      have ha1 : Below wr.heap.size wr wa := by rw [← hwa]; exact (Below.refl _ _).alloc (Nat.le_refl _) _
      have hb1 : Below wa.heap.size wa wb := by rw [← hwb]; exact (Below.refl _ _).alloc (Nat.le_refl _) _
      have hab := ha1.trans (hb1.mono ha1.size)
      have hr1 : Row wa q1 64 (fun _ => 0) := by rw [← hwa, ← hq1]; exact Blk.new _ _ _
      have hcb : wb.cell? ⟨q2, 0, none⟩ = some (.slice (some ⟨q1, 0, none⟩) 64 64) := by rw [← hwb, ← hq2]; rw [Blk.cell (Blk.new _ _ _)]; rfl
      have HRB := Lib.hid (HR.out.later hab)
      have HBB2 := Lib.hid (HW.out.trans (hab.mono HW.out.size))
      have HLB : Hid (LBy wb (.slice (some ⟨g, 0, none⟩) k c) (some ⟨q2, 0, none⟩) 1 (fun _ => 64) (fun _ _ => 0)) := Lib.hid fun i hi => by
        obtain rfl : i = 0 := by omega
        refine ⟨q2, 0, some ⟨q1, 0, none⟩, 64, rfl, hcb, Nat.le_refl _, (hr1.later hb1).bytes fun _ _ => by decide, (fun e => by cases e), by unfold maxLen; omega, fun a ha hl e2 => ?_⟩
        cases ha
        have : q1 < wr.heap.size := (HR.out.lt _ e2).2
        have e3 : g = q1 := Option.some.inj e2
        omega
      have HBS : Hid (w3.heap.size ≤ wb.heap.size) := Lib.hid HBB2.out.size
      have HK9 : Hid (k + 1 < 1000000000000) := Lib.hid (by have := HY.out; have := HK.out; omega)
      clear ha1 hb1 hab hr1 hcb hk1 hk2 hlt
      go_wp2_with (first | (refine wpList_mk rfl (.const (.int .i64 64)) (.const (.int .i64 64)) rfl 64 rfl rfl (by decide) ?_; rw [hwa, hq1]) | (at_builtin; refine wpList_appRy rfl (.tmp 63) (.tmp 65) rfl w3.heap.size (.slice (some ⟨g, 0, none⟩) k c) k 1 1 (fun _ => 64) (fun _ => 64) (oldG na nx A) (fun _ _ => 0) (some ⟨q2, 0, none⟩) wb rfl HRB.out rfl HLB.out (fun e => by cases e) HK9.out HBS.out ?_))
      intro v2 w5 hR5 hb5
      have hR5 : RL w5 w3.heap.size v2 (k + 1) (fun _ => 64) (oldG na nx A) := hR5.congr (fun i hi => by unfold catL; split <;> rfl) (fun i hi => by
        unfold catG
        by_cases e : i < k
        · rw [if_pos e]
        · rw [if_neg e]; unfold oldG; rw [if_neg (by have := HK.out; omega)])
      obtain ⟨g5, c5, rfl, _, _, _⟩ := hR5.some (Nat.succ_pos _)
      have H5 := Lib.hid (show RL w5 w3.heap.size (.slice (some ⟨g5, 0, none⟩) (k + 1) c5) (k + 1) (fun _ => 64) (oldG na nx A) ∧ Below w3.heap.size w3 w5 from ⟨hR5, HBB2.out.trans hb5⟩)
      clear hR5 hb5 hwa hwb hq1 hq2
      go_wp2_with fail
      go_roundw
      case rel => exact ⟨g5, k + 1, c5, rfl, by have := HK.out; omega, .inl HK.out.2, H5.out.1, H5.out.2⟩
      case measure => have := HK.out; simp [lenV]; omega
    · have i1 : ¬ (k : Int) < (ny : Int) := by omega
      have HK := Lib.hid (show nx ≤ k ∧ ny ≤ k ∧ k ≤ 255 from ⟨hk1, by omega, by have := HX.out; have := HY.out; omega⟩)
      have hkq : (k : Int) ≤ 9223372036854775807 := by have := HK.out; omega
      clear hk1 hk2 hlt
      have H0 : Hid (RL wr w3.heap.size (.slice (some ⟨g, 0, none⟩) k c) k (fun _ => 64) (midG na nb nx A B (cameP nw f) 0) ∧ Below w3.heap.size w3 wr) := Lib.hid ⟨HR.out.congr (fun _ _ => rfl) (fun i _ => by unfold midG; rw [if_neg fun h => absurd h.1 (Nat.not_lt_zero _)]), HW.out⟩
      obtain ⟨P, hP⟩ : ∃ x, cameP nw f = x := ⟨_, rfl⟩
      have HP := Lib.hid hP
      rw [hP] at H0
      clear hP HR HW
      go_wp2_with fail
      generalize wr = wz at *
      go_loopw [12, 13] (fun v x wr => ∃ i : Nat, i ≤ ny ∧ x = .int .i64 (i : Int) ∧ v = .int .i64 ((cntB P i : Nat) : Int) ∧ RL wr w3.heap.size (.slice (some ⟨g, 0, none⟩) k c) k (fun _ => 64) (midG na nb nx A B P i) ∧ Below w3.heap.size w3 wr) (fun _ x _ => ny - (intOf x).toNat)
      case atStart => exact ⟨0, Nat.zero_le _, rfl, rfl, H0.out.1, H0.out.2⟩
      case round =>
        clear H0
        obtain ⟨i, hi, rfl, rfl, hR, hX⟩ := hrel
        have HR := Lib.hid hR
        have HW := Lib.hid hX
        have hcl := cntB_le P i
        clear hR hX
        by_cases hlt : i < ny
        · as_aux_lemma =>
          have j1 : (i : Int) < (ny : Int) := by omega
          have j2 : (i : Int) < (k : Int) := by have := HK.out; omega
          have j0 : (0 : Int) ≤ (i : Int) := by omega
          have HI := Lib.hid (show i < ny ∧ i < k from ⟨hlt, by have := HK.out; omega⟩)
          have j4 : IntKind.i64.wrap ((i : Int) + 1) = ((i + 1 : Nat) : Int) := by have := HY.out; rw [IntWalk.i64_in _ (by omega)]; omega
          obtain ⟨cn, hcn⟩ : ∃ x, cntB P i = x := ⟨_, rfl⟩
          rw [hcn] at hcl
          have j5 : IntKind.i64.wrap ((cn : Int) + 1) = ((cn + 1 : Nat) : Int) := by have := HY.out; rw [IntWalk.i64_in _ (by omega)]; omega
          have HCN := Lib.hid hcn
          rw [hcn]
          have HSK : Hid (P i = false → ∃ i' : Nat, i' ≤ ny ∧ Value.int .i64 ((i + 1 : Nat) : Int) = .int .i64 (i' : Int) ∧ Value.int .i64 (cn : Int) = .int .i64 ((cntB P i' : Nat) : Int) ∧ RL wr w3.heap.size (.slice (some ⟨g, 0, none⟩) k c) k (fun _ => 64) (midG na nb nx A B P i') ∧ Below w3.heap.size w3 wr) := Lib.hid fun hp =>
            ⟨i + 1, HI.out.1, rfl, by rw [cntB_skip hp, HCN.out], HR.out.congr (fun _ _ => rfl) (fun j _ => midG_skip hp j), HW.out⟩
          clear hlt hi hcn hcl
          by_cases hw : i < nw
          · have j3 : (i : Int) < (nw : Int) := by omega
            obtain ⟨bw, ofw, rfl, hcw⟩ := HWY.out wr (HBB.out wr HW.out) i hw
            obtain ⟨fi, hfi⟩ : ∃ x, f i = x := ⟨_, rfl⟩
            rw [hfi] at hcw
            have HPI : Hid (P i = fi) := Lib.hid (by rw [← HP.out, cameP_in hw, hfi])
            clear hw hfi
            cases fi with
            | true =>
              obtain ⟨bb, off, od, cp, e1, c1, l1, b1, n1', m1, lt1⟩ := HLY.out wr HW.out i HI.out.1
              cases e1
              rw [Nat.zero_add] at c1
              obtain ⟨⟨vo, d1⟩, d2⟩ := HR.out.cell HI.out.2
              have hgb : w3.heap.size ≤ g := (HR.out.lt g rfl).1
              have HR2 := Lib.hid ((HR.out.set HI.out.2 l1 m1 b1 n1' (fun a ha hl => by have := lt1 a ha hl; omega)).congr (L' := fun _ => 64) (G' := midG na nb nx A B P (i + 1)) (fun j _ => by dsimp only; split <;> rfl) (fun j _ => midG_put HPI.out j))
              have HW2 := Lib.hid (HW.out.setCell (p := ⟨g, i, none⟩) hgb (.slice od 64 cp))
              have HC2 : Hid (cntB P (i + 1) = cn + 1) := Lib.hid (by rw [cntB_succ HPI.out, HCN.out])
              clear l1 b1 n1' m1 lt1 hgb
              go_wp2_with fail
              go_roundw
              case rel => exact ⟨i + 1, HI.out.1, by first | rfl | go_num, by rw [HC2.out]; first | rfl | go_num, HR2.out, HW2.out⟩
              case measure => have := HI.out; simp [intOf]; omega
            | false =>
              go_wp2_with fail
              go_roundw
              case rel => exact HSK.out HPI.out
              case measure => have := HI.out; simp [intOf]; omega
          · have j3 : ¬ (i : Int) < (nw : Int) := by omega
            have HPI : Hid (P i = false) := Lib.hid (by rw [← HP.out, cameP_out hw])
            clear hw
            go_wp2_with fail
            go_roundw
            case rel => exact HSK.out HPI.out
            case measure => have := HI.out; simp [intOf]; omega
        · obtain rfl : i = ny := by omega
          have j1 : ¬ (i : Int) < (i : Int) := by omega
          clear hlt hi
          obtain ⟨cy, hcy⟩ : ∃ x, cntB P i = x := ⟨_, rfl⟩
          have HCY := Lib.hid (show cntB P i = cy ∧ cy ≤ i from ⟨hcy, by rw [← hcy]; exact hcl⟩)
          rw [hcy]
          clear hcy hcl
          have HR1 := HR
          have HW1 := HW
          go_wp2_with fail
          generalize wr = wy at *
          go_loopw [14, 15] (fun v x wr => ∃ m : Nat, m ≤ i ∧ m ≤ nx ∧ x = .int .i64 (m : Int) ∧ v = .int .i64 ((cntB P m : Nat) : Int) ∧ RL wr w3.heap.size (.slice (some ⟨g, 0, none⟩) k c) k (fun _ => 64) (midG na nb nx A B P i) ∧ Below w3.heap.size w3 wr) (fun _ x _ => i - (intOf x).toNat)
          case atStart => exact ⟨0, Nat.zero_le _, Nat.zero_le _, rfl, rfl, HR1.out, HW1.out⟩
          case round =>
            clear HR HW HR1 HW1
            obtain ⟨m, hm, hmx, rfl, rfl, hR, hX⟩ := hrel
            have HR := Lib.hid hR
            have HW := Lib.hid hX
            have hcl := cntB_le P m
            clear hR hX
            by_cases hlt : m < i ∧ m < nx
            · as_aux_lemma =>
              have j1 : (m : Int) < (i : Int) := by omega
              have j2 : (m : Int) < (nx : Int) := by omega
              have j0 : (0 : Int) ≤ (m : Int) := by omega
              have HI := Lib.hid hlt
              have j4 : IntKind.i64.wrap ((m : Int) + 1) = ((m + 1 : Nat) : Int) := by have := HY.out; rw [IntWalk.i64_in _ (by omega)]; omega
              obtain ⟨cn, hcn⟩ : ∃ x, cntB P m = x := ⟨_, rfl⟩
              rw [hcn] at hcl
              have j5 : IntKind.i64.wrap ((cn : Int) + 1) = ((cn + 1 : Nat) : Int) := by have := HY.out; rw [IntWalk.i64_in _ (by omega)]; omega
              have HCN := Lib.hid hcn
              rw [hcn]
              clear hlt hm hmx hcn hcl
              by_cases hw : m < nw
              · have j3 : (m : Int) < (nw : Int) := by omega
                obtain ⟨bw, ofw, rfl, hcw⟩ := HWY.out wr (HBB.out wr HW.out) m hw
                obtain ⟨fi, hfi⟩ : ∃ x, f m = x := ⟨_, rfl⟩
                rw [hfi] at hcw
                have HPI : Hid (P m = fi) := Lib.hid (by rw [← HP.out, cameP_in hw, hfi])
                clear hw hfi
                cases fi with
                | true =>
                  have HC2 : Hid (cntB P (m + 1) = cn + 1) := Lib.hid (by rw [cntB_succ HPI.out, HCN.out])
                  go_wp2_with fail
                  go_roundw
                  case rel => exact ⟨m + 1, HI.out.1, HI.out.2, by first | rfl | go_num, by rw [HC2.out]; first | rfl | go_num, HR.out, HW.out⟩
                  case measure => have := HI.out; simp [intOf]; omega
                | false =>
                  have HC2 : Hid (cntB P (m + 1) = cn) := Lib.hid (by rw [cntB_skip HPI.out, HCN.out])
                  go_wp2_with fail
                  go_roundw
                  case rel => exact ⟨m + 1, HI.out.1, HI.out.2, by first | rfl | go_num, by rw [HC2.out], HR.out, HW.out⟩
                  case measure => have := HI.out; simp [intOf]; omega
              · have j3 : ¬ (m : Int) < (nw : Int) := by omega
                have HPI : Hid (P m = false) := Lib.hid (by rw [← HP.out, cameP_out hw])
                have HC2 : Hid (cntB P (m + 1) = cn) := Lib.hid (by rw [cntB_skip HPI.out, HCN.out])
                clear hw
                go_wp2_with fail
                go_roundw
                case rel => exact ⟨m + 1, HI.out.1, HI.out.2, by first | rfl | go_num, by rw [HC2.out], HR.out, HW.out⟩
                case measure => have := HI.out; simp [intOf]; omega
            · have HM : Hid (m ≤ i ∧ m ≤ nx ∧ (m = i ∨ m = nx)) := Lib.hid ⟨hm, hmx, by omega⟩
              have jj : ((m : Int) < (i : Int) ∧ ¬ (m : Int) < (nx : Int) ∧ decide ((m : Int) < (nx : Int)) = false) ∨ (¬ (m : Int) < (i : Int) ∧ decide ((m : Int) < (i : Int)) = false) := by
                by_cases h : m < i
                · have h2 : ¬ (m : Int) < (nx : Int) := by omega
                  exact .inl ⟨by omega, h2, decide_eq_false h2⟩
                · have h2 : ¬ (m : Int) < (i : Int) := by omega
                  exact .inr ⟨h2, decide_eq_false h2⟩
              obtain ⟨co, hco⟩ : ∃ x, cntB P m = x := ⟨_, rfl⟩
              have HCO := Lib.hid hco
              rw [hco]
              clear hlt hm hmx hcl hco
              have hfin := HR.out.lbs
              obtain ⟨ol, cl2, e9, hk9, hm9, hLB9, _⟩ := hfin
              cases e9
              have HLB := Lib.hid hLB9
              have HCL := Lib.hid (show k ≤ c ∧ c ≤ maxLen from ⟨hk9, hm9⟩)
              have HBW := Lib.hid (HBB.out wr HW.out)
              have hmix : ∀ i', i' < k → ∀ q, q < 64 → midG na nb nx A B P i i' q = mixF na nb A B P i' q := fun i' _ q _ => midG_mix HX.out.1 HY.out.1 i' q
              have HMIX := Lib.hid hmix
              clear hk9 hm9 hLB9 hmix
              by_cases hall : cy = i
              · have hpp : ∀ j, j < i → P j = true := cntB_all (by rw [HCY.out.1]; exact hall)
                have HJ := Lib.hid (join_ok (s := 6) (n := nb) (B := B) HLB.out HCL.out.1 HCL.out.2 (by decide) (by decide) (by have := HN9.out; omega) (by rw [HY.out.1]; exact HK.out.2.1) (fun _ _ => rfl) (fun j hj q hq => by
                  rw [HY.out.1] at hj
                  rw [HMIX.out j (by have := HK.out; omega) q hq]; unfold mixF; rw [if_pos ⟨by rw [HY.out.1]; exact hj, hpp j hj⟩]))
                subst hall
                clear hpp
                rcases jj with ⟨t1, t2, t3⟩ | ⟨t1, t3⟩
                · skip
                  go_wp2_with fail
                  refine HJ.out.mono ?_
                  rintro e w8 ⟨hb8, g8, rfl, hB8⟩
                  have HB8 := Lib.hid (HBW.out.trans (hb8.mono HBW.out.size))
                  obtain ⟨SP, hSP⟩ : ∃ q, strF nb B = q := ⟨_, rfl⟩
                  have q1 : (convert 23 9 (.slice (some ⟨g8, 0, none⟩) nb nb)).run Tryd.prog w8 = .ok (.string SP) w8 := by rw [← hSP]; exact conv_any hB8 (fun e => by cases e)
                  have q2 : (convert 23 9 (.slice ob nb cb)).run Tryd.prog w8 = .ok (.string SP) w8 := by rw [← hSP]; exact conv_any (HBY.out _ HB8.out) HNM.out.2.2.1
                  clear hb8 hB8 hSP HJ
                  go_wp2_with fail
                  refine (HSU.out w8 HB8.out).mono ?_
                  rintro e ws ⟨rfl, hbs⟩
                  have HBS := Lib.hid ((HB8.out).trans (hbs.mono (HB8.out).size))
                  clear hbs
                  go_wp2_with fail
                  go_ret
                  exact ⟨rfl, HBS.out⟩
                · skip
                  go_wp2_with fail
                  refine HJ.out.mono ?_
                  rintro e w8 ⟨hb8, g8, rfl, hB8⟩
                  have HB8 := Lib.hid (HBW.out.trans (hb8.mono HBW.out.size))
                  obtain ⟨SP, hSP⟩ : ∃ q, strF nb B = q := ⟨_, rfl⟩
                  have q1 : (convert 23 9 (.slice (some ⟨g8, 0, none⟩) nb nb)).run Tryd.prog w8 = .ok (.string SP) w8 := by rw [← hSP]; exact conv_any hB8 (fun e => by cases e)
                  have q2 : (convert 23 9 (.slice ob nb cb)).run Tryd.prog w8 = .ok (.string SP) w8 := by rw [← hSP]; exact conv_any (HBY.out _ HB8.out) HNM.out.2.2.1
                  clear hb8 hB8 hSP HJ
                  go_wp2_with fail
                  refine (HSU.out w8 HB8.out).mono ?_
                  rintro e ws ⟨rfl, hbs⟩
                  have HBS := Lib.hid ((HB8.out).trans (hbs.mono (HB8.out).size))
                  clear hbs
                  go_wp2_with fail
                  go_ret
                  exact ⟨rfl, HBS.out⟩
              · have hall2 : ¬ (cy : Int) = (i : Int) := by omega
                have hall3 : decide ((cy : Int) = (i : Int)) = false := decide_eq_false hall2
                by_cases hz : co = 0
                · have hpn : ∀ j, j < m → P j = false := cntB_none (by rw [HCO.out]; exact hz)
                  have HJ := Lib.hid (join_ok (s := 5) (n := na) (B := A) HLB.out HCL.out.1 HCL.out.2 (by decide) (by decide) (by have := HN9.out; omega) (by rw [HX.out.1]; exact HK.out.1) (fun _ _ => rfl) (fun j hj q hq => by
                    rw [HX.out.1] at hj
                    rw [HMIX.out j (by have := HK.out; omega) q hq]; unfold mixF
                    rw [if_neg (fun h => by
                      rw [HY.out.1] at h
                      have h5 := hpn j (by have := HM.out; omega)
                      rw [h5] at h; cases h.2), if_pos (by rw [HX.out.1]; exact hj)]))
                  subst hz
                  clear hpn hall
                  rcases jj with ⟨t1, t2, t3⟩ | ⟨t1, t3⟩
                  · skip
                    go_wp2_with fail
                    refine HJ.out.mono ?_
                    rintro e w8 ⟨hb8, g8, rfl, hB8⟩
                    have HB8 := Lib.hid (HBW.out.trans (hb8.mono HBW.out.size))
                    obtain ⟨SP, hSP⟩ : ∃ q, strF na A = q := ⟨_, rfl⟩
                    have q1 : (convert 23 9 (.slice (some ⟨g8, 0, none⟩) na na)).run Tryd.prog w8 = .ok (.string SP) w8 := by rw [← hSP]; exact conv_any hB8 (fun e => by cases e)
                    have q2 : (convert 23 9 (.slice oa na ca)).run Tryd.prog w8 = .ok (.string SP) w8 := by rw [← hSP]; exact conv_any (HAY.out _ HB8.out) HNM.out.1
                    clear hb8 hB8 hSP HJ
                    go_wp2_with fail
                    refine (HSU.out w8 HB8.out).mono ?_
                    rintro e ws ⟨rfl, hbs⟩
                    have HBS := Lib.hid ((HB8.out).trans (hbs.mono (HB8.out).size))
                    clear hbs
                    go_wp2_with fail
                    go_ret
                    exact ⟨rfl, HBS.out⟩
                  · skip
                    go_wp2_with fail
                    refine HJ.out.mono ?_
                    rintro e w8 ⟨hb8, g8, rfl, hB8⟩
                    have HB8 := Lib.hid (HBW.out.trans (hb8.mono HBW.out.size))
                    obtain ⟨SP, hSP⟩ : ∃ q, strF na A = q := ⟨_, rfl⟩
                    have q1 : (convert 23 9 (.slice (some ⟨g8, 0, none⟩) na na)).run Tryd.prog w8 = .ok (.string SP) w8 := by rw [← hSP]; exact conv_any hB8 (fun e => by cases e)
                    have q2 : (convert 23 9 (.slice oa na ca)).run Tryd.prog w8 = .ok (.string SP) w8 := by rw [← hSP]; exact conv_any (HAY.out _ HB8.out) HNM.out.1
                    clear hb8 hB8 hSP HJ
                    go_wp2_with fail
                    refine (HSU.out w8 HB8.out).mono ?_
                    rintro e ws ⟨rfl, hbs⟩
                    have HBS := Lib.hid ((HB8.out).trans (hbs.mono (HB8.out).size))
                    clear hbs
                    go_wp2_with fail
                    go_ret
                    exact ⟨rfl, HBS.out⟩
                · have hz2 : ¬ (co : Int) = 0 := by omega
                  have hz3 : decide ((co : Int) = 0) = false := decide_eq_false hz2
                  have HJ := Lib.hid (join_bad HLB.out HCL.out.1 HCL.out.2 (mix_none (na := na) (nb := nb) (A := A) (B := B) (p := P) (by rw [HX.out.1]; exact HK.out.1) (by rw [HY.out.1]; exact HK.out.2.1) HMIX.out
                    (by
                      obtain ⟨j, hj, hpj⟩ := cntB_some (p := P) (n := m) (by rw [HCO.out]; exact hz)
                      exact ⟨j, by rw [HY.out.1]; have := HM.out; omega, by rw [HX.out.1]; have := HM.out; omega, hpj⟩)
                    (by
                      obtain ⟨j, hj, hpj⟩ := cntB_miss (p := P) (n := i) (by rw [HCY.out.1]; exact hall)
                      exact ⟨j, by rw [HY.out.1]; exact hj, hpj⟩)))
                  clear hall hz
                  rcases jj with ⟨t1, t2, t3⟩ | ⟨t1, t3⟩
                  · skip
                    go_wp2_with fail
                    refine HJ.out.mono ?_
                    rintro e w8 ⟨hb8, rfl⟩
                    have HB8 := Lib.hid (HBW.out.trans (hb8.mono HBW.out.size))
                    have HNU := Lib.hid (num_err 4 w8 (HG.out.below HB8.out HG.out.2))
                    clear hb8 HJ
                    go_wp2_with fail
                    refine HNU.out.mono ?_
                    rintro e w9 ⟨rfl, hb9⟩
                    have HB9 := Lib.hid (HB8.out.trans (hb9.mono HB8.out.size))
                    clear hb9 HNU
                    go_wp2_with fail
                    refine (HSU.out w9 HB9.out).mono ?_
                    rintro e ws ⟨rfl, hbs⟩
                    have HBS := Lib.hid ((HB9.out).trans (hbs.mono (HB9.out).size))
                    clear hbs
                    go_wp2_with fail
                    go_ret
                    exact ⟨rfl, HBS.out⟩
                  · skip
                    go_wp2_with fail
                    refine HJ.out.mono ?_
                    rintro e w8 ⟨hb8, rfl⟩
                    have HB8 := Lib.hid (HBW.out.trans (hb8.mono HBW.out.size))
                    have HNU := Lib.hid (num_err 4 w8 (HG.out.below HB8.out HG.out.2))
                    clear hb8 HJ
                    go_wp2_with fail
                    refine HNU.out.mono ?_
                    rintro e w9 ⟨rfl, hb9⟩
                    have HB9 := Lib.hid (HB8.out.trans (hb9.mono HB8.out.size))
                    clear hb9 HNU
                    go_wp2_with fail
                    refine (HSU.out w9 HB9.out).mono ?_
                    rintro e ws ⟨rfl, hbs⟩
                    have HBS := Lib.hid ((HB9.out).trans (hbs.mono (HB9.out).size))
                    clear hbs
                    go_wp2_with fail
                    go_ret
                    exact ⟨rfl, HBS.out⟩
end Go.Proofs.YtfbbnffinlebbaaDoor
