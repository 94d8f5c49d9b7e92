/- WireBack walked. -/
import Derived.Test.YtcdeamokkbondaaDoorWiA
namespace Go.Proofs.YtcdeamokkbondaaDoor
set_option linter.unusedVariables false
set_option linter.unusedSimpArgs false
open Go.RowKit

theorem fits_wf {q : Nat} {L : Nat → Nat} {G : Nat → Nat → Nat} (h1 : q ≤ 16) (h2 : wl L q ≤ 1024) : Fits (wl L q) (wf q L G q) :=
  ⟨wl_pos L q, h2, by rw [wf_head]; exact h1, by rw [wf_head]; exact ps_wf (fun _ _ => rfl) (Nat.le_refl _)⟩
/-- Cut short, or longer, it is none. -/
theorem not_fits_wf {q m : Nat} {L : Nat → Nat} {G : Nat → Nat → Nat} {B : Nat → Nat} (hm : m ≠ wl L q) (hB : ∀ k, k < wl L q → k < m → B k = wf q L G q k) : ¬ Fits m B := by
  intro ⟨h1, h2, h3, h4⟩
  have hp := wl_pos L q
  have h0 : B 0 = q := by rw [hB 0 (by omega) (by omega), wf_head]
  rw [h0] at h4
  by_cases hc : wl L q ≤ m
  · have := ps_wf (q := q) (L := L) (G := G) (B := B) (fun k hk => hB k hk (by omega)) (Nat.le_refl q)
    omega
  · have key : ∀ i, i ≤ q → ps B i ≤ m → ps B i = wl L i := by
      intro i
      induction i with
      | zero => intro _ _; rfl
      | succ i ih =>
        intro hi hs
        rw [ps_succ] at hs ⊢
        have e := ih (by omega) (by omega)
        obtain ⟨g1, g2⟩ := wf_len (q := q) (G := G) (show i < q by omega)
        have hm2 := wl_mono L hi
        have hs2 : wl L (i + 1) = wl L i + 2 + L i := rfl
        have f : fl B i = L i := by
          unfold fl
          rw [e, hB _ (by omega) (by omega), hB _ (by omega) (by omega), g1, g2]; omega
        rw [e, f]; exact hs2.symm
    have := key q (Nat.le_refl _) (by omega)
    omega
set_option maxRecDepth 100000 in
set_option maxHeartbeats 8000000 in
theorem back_any (oa ob : Option Addr) (q cq n cn : Nat) (L : Nat → Nat) (G : Nat → Nat → Nat) (B : Nat → Nat) (x : Nat) (w : World) (hL : LBs w oa q L G) (hqc : q ≤ cq) (hcq : cq ≤ maxLen) (hB : Bytes w ob n B) (hno : ob = none → n = 0) (hnc : n ≤ cn) (hcn : cn ≤ maxLen) (hx : x < 18446744073709551616) (hg : Handle w) :
    Calls Tryd.prog 4 #[.slice oa q cq, .slice ob n cn, .int .u64 (x : Int)] w fun e w' => e = .returned (.bool true) ∧ Below w.heap.size w w' := by
  have HG := Lib.hid hg
  have HNO := Lib.hid hno
  have HLB : Hid (∀ w', Below w.heap.size w w' → LBs w' oa q L G) := Lib.hid fun w' h => hL.later h
  have HBB : Hid (∀ w', Below w.heap.size w w' → Bytes w' ob n B) := Lib.hid fun w' h => hB.later h
  have HBIG := Lib.hid (big_any oa q cq L G w hL (Nat.le_trans hqc hcq))
  have HDB : Hid (∀ w', Bytes w' ob n B → Calls Tryd.prog 10 #[.slice ob n cn] w' (DecA n B .nilIface (.iface 48 (.int .i64 3)) (.iface 48 (.int .i64 4)) w')) := Lib.hid fun w' h => dec_any ob n cn B w' h hnc hcn
  have HQ : Hid (q ≤ maxLen) := Lib.hid (Nat.le_trans hqc hcq)
  have HX : Hid (x < 18446744073709551616) := Lib.hid hx
  unfold maxLen at hcn
  have hn0 : (n : Int) ≤ 9223372036854775807 := by omega
  clear hL hB hg hqc hcq hnc hcn hno
  go_enter Tryd.func4, Tryd.ntmps4
  go_wp2_with fail
  refine HBIG.out.mono ?_
  clear HBIG
  rintro e w1 ⟨hb1, hr1⟩
  have H1 := Lib.hid hb1
  clear hb1
  rcases hr1 with rfl | ⟨rfl, hq4, hl3⟩
  · have h0 : True := trivial
    go_wp2_with fail
    refine (wire_sure _ (HG.out.later H1.out)).mono ?_
    rintro e w5 ⟨rfl, hb5⟩
    have HO := Lib.hid (H1.out.trans (hb5.mono H1.out.size))
    clear hb5
    go_wp2_with fail
    go_ret
    exact ⟨rfl, HO.out⟩
  · have HL3 : Hid (∀ i, i < q → L i ≤ 100000) := Lib.hid fun i hi => by have := hl3 i hi; omega
    clear hq4 hl3
    have hc3 : (3000 : Int) < (n : Int) ∨ ¬ (3000 : Int) < (n : Int) := by omega
    rcases hc3 with g | g
    · have h0 : True := trivial
      go_wp2_with fail
      refine (wire_sure _ (HG.out.later H1.out)).mono ?_
      rintro e w5 ⟨rfl, hb5⟩
      have HO := Lib.hid (H1.out.trans (hb5.mono H1.out.size))
      clear hb5
      go_wp2_with fail
      go_ret
      exact ⟨rfl, HO.out⟩
    · clear hx
      go_wp2_with fail
      refine (num_any x w1 HX.out).mono ?_
      rintro e w2 ⟨hb2, a2, c2, rfl, hB2, hc2, hm2, _⟩
      have H2 : Hid (Bytes w2 (some a2) 8 (numB x 8) ∧ Below w.heap.size w w2) := Lib.hid ⟨hB2, H1.out.trans (hb2.mono H1.out.size)⟩
      clear hb2 hB2 hc2 hm2 H1
      go_wp2_with fail
      refine (read_any (some a2) 8 c2 (numB x 8) w2 H2.out.1 (by unfold maxLen; omega)).mono ?_
      rintro e w3 ⟨hb3, hr3⟩
      rw [rd_num HX.out] at hr3
      rcases hr3 with ⟨_, rfl⟩ | ⟨hbad, _⟩
      case inr => exact absurd rfl hbad
      have H3 : Hid (Below w.heap.size w w3) := Lib.hid (H2.out.2.trans (hb3.mono H2.out.2.size))
      clear hb3 H2
      go_wp2_with fail
      refine (num_any x w3 HX.out).mono ?_
      rintro e w4 ⟨hb4, a4, c4, rfl, _, _, _, _⟩
      have H4 : Hid (Below w.heap.size w w4) := Lib.hid (H3.out.trans (hb4.mono H3.out.size))
      clear hb4 H3
      go_wp2_with fail
      refine (enc_any oa q cq L G w4 (HLB.out _ H4.out) HQ.out HL3.out).mono ?_
      rintro e w5 ⟨hb5, hr5⟩
      have H5 : Hid (Below w.heap.size w w5) := Lib.hid (H4.out.trans (hb5.mono H4.out.size))
      clear hb5 H4
      rcases hr5 with ⟨h16, hw, o, c, rfl, hB5, hc5, hm5⟩ | ⟨_, rfl⟩
      case inr =>
        go_wp2_with fail
        refine (HDB.out w5 (HBB.out _ H5.out)).mono ?_
        rintro e y1 ⟨hb1, hr1⟩
        have Y1 : Hid (Below w.heap.size w y1) := Lib.hid (H5.out.trans (hb1.mono H5.out.size))
        clear hb1
        rcases hr1 with ⟨hf, o1, c1, rfl, hl1, hno1, hc1, hm1⟩ | ⟨hf, rfl⟩ | ⟨hf, hf2, rfl⟩
        · have HE : Hid (Calls Tryd.prog 8 #[.slice o1 (B 0) c1] y1 fun e w' => ∃ o c, e = .returned (.tuple #[.slice o n c, .nilIface]) ∧ CV w' o n (strF n B) ∧ Below y1.heap.size y1 w') := Lib.hid (by
            have hfl := wf_fl (n := n) (B := B) (fun k hk => (HBB.out _ Y1.out k hk).1) (i := B 0) (Nat.le_of_eq hf.2.2.2)
            rw [hf.2.2.2] at hfl
            refine (enc_any o1 (B 0) c1 (fl B) (dG B) y1 hl1 (by have := hf.2.2.1; unfold maxLen; omega) (fun i hi => by have := hf.at hi; have := hf.2.1; omega)).mono ?_
            rintro e w' ⟨hb, ⟨_, _, o, c, rfl, hB, _, _⟩ | ⟨hbad, _⟩⟩
            · rw [hfl.1] at hB ⊢
              exact ⟨some o, c, rfl, ⟨_, hB, fun e => (by cases e), strF_congr fun i hi => hfl.2 i hi⟩, hb⟩
            · rw [hfl.1] at hbad; have := hf.2.1; have := hf.2.2.1; exfalso; omega)
          clear hf hl1 hno1 hc1 hm1
          go_wp2_with fail
          refine HE.out.mono ?_
          clear HE
          rintro e y2 ⟨o2, c2, rfl, hv2, hb2⟩
          have Y2 : Hid (CV y2 o2 n (strF n B) ∧ Below w.heap.size w y2) := Lib.hid ⟨hv2, Y1.out.trans (hb2.mono Y1.out.size)⟩
          have YB : Hid (CV y2 ob n (strF n B)) := Lib.hid ⟨B, HBB.out _ Y2.out.2, HNO.out, rfl⟩
          clear hv2 hb2 Y1
          generalize strF n B = SB at *
          go_wp2_with (first
            | (refine wpList_valueG (by kernel_rfl) (exec_convO (x := .tmp 128) rfl rfl Y2.out.1.conv) ?_)
            | (refine wpList_valueG (by kernel_rfl) (exec_convO (x := .tmp 130) rfl rfl YB.out.conv) ?_))
          refine (wire_sure y2 (HG.out.later Y2.out.2)).mono ?_
          rintro e y3 ⟨rfl, hb3⟩
          have Y3 : Hid (Below w.heap.size w y3) := Lib.hid (Y2.out.2.trans (hb3.mono Y2.out.2.size))
          clear hb3
          go_wp2_with fail
          go_ret
          exact ⟨rfl, Y3.out⟩
        · clear hf
          go_wp2_with fail
          refine (wire_sure y1 (HG.out.later Y1.out)).mono ?_
          rintro e y3 ⟨rfl, hb3⟩
          have Y3 : Hid (Below w.heap.size w y3) := Lib.hid (Y1.out.trans (hb3.mono Y1.out.size))
          clear hb3
          go_wp2_with fail
          go_ret
          exact ⟨rfl, Y3.out⟩
        · clear hf hf2
          go_wp2_with fail
          refine (wire_sure y1 (HG.out.later Y1.out)).mono ?_
          rintro e y3 ⟨rfl, hb3⟩
          have Y3 : Hid (Below w.heap.size w y3) := Lib.hid (Y1.out.trans (hb3.mono Y1.out.size))
          clear hb3
          go_wp2_with fail
          go_ret
          exact ⟨rfl, Y3.out⟩
      case inl =>
        obtain ⟨r, hr⟩ : ∃ r, wl L q = r := ⟨_, rfl⟩
        obtain ⟨D, hD⟩ : ∃ D, wf q L G q = D := ⟨_, rfl⟩
        have HR : Hid (wl L q = r ∧ 1 ≤ r ∧ r ≤ 1024 ∧ q ≤ 16 ∧ wf q L G q = D ∧ r ≤ c ∧ c ≤ maxLen) := Lib.hid ⟨hr, hr ▸ wl_pos L q, hr ▸ hw, h16, hD, hr ▸ hc5, hm5⟩
        rw [hr, hD] at hB5
        have H6 : Hid (Bytes w5 (some o) r D ∧ Below w.heap.size w w5) := Lib.hid ⟨hB5, H5.out⟩
        rw [hr]
        have hrr : 1 ≤ r ∧ r ≤ 1024 := ⟨hr ▸ wl_pos L q, hr ▸ hw⟩
        obtain ⟨hr1, hr2⟩ := hrr
        have r1 : ¬ (r : Int) = 0 := by omega
        have r2 : ¬ r = 0 := by omega
        clear hr hD hB5 h16 hw hc5 hm5 H5
        go_wp2_with fail
        refine (dec_any (some o) r c D w5 H6.out.1 HR.out.2.2.2.2.2.1 HR.out.2.2.2.2.2.2).mono ?_
        rintro e w6 ⟨hb6, hr6⟩
        have HFD : Hid (Fits r D ∧ D 0 = q) := Lib.hid (by
          obtain ⟨e1, _, e3, e4, e5, _, _⟩ := HR.out
          rw [← e1, ← e5]; exact ⟨fits_wf e4 (by omega), wf_head _ _ _ _⟩)
        rcases hr6 with ⟨_, o6, c6, rfl, hl6, _, hc6, hm6⟩ | ⟨hbad, _⟩ | ⟨_, hbad, _⟩
        case inr.inl => exfalso; have := HR.out.2.2.1; omega
        case inr.inr => exact absurd HFD.out.1 hbad
        have H7 : Hid (Bytes w6 (some o) r D ∧ LBs w6 o6 q L G ∧ Below w.heap.size w w6) := Lib.hid ⟨H6.out.1.later hb6, by
          obtain ⟨e1, _, e3, e4, e5, _, _⟩ := HR.out
          rw [HFD.out.2] at hl6
          have hB' : ∀ k, k < wl L q → D k = wf q L G q k := fun k _ => by rw [e5]
          refine hl6.congr (fun i hi => fl_wf hB' hi) (fun i hi k hk => ?_)
          rw [fl_wf hB' hi] at hk
          show D (ps D i + 2 + k) = _
          rw [ps_wf hB' (by omega), ← e5, wf_at hi hk], H6.out.2.trans (hb6.mono H6.out.2.size)⟩
        rw [HFD.out.2]
        clear hb6 hl6 hc6 hm6 H6
        obtain ⟨m, hm⟩ : ∃ m, x % r = m := ⟨_, rfl⟩
        have HM : Hid (m < r) := Lib.hid (by rw [← hm]; exact Nat.mod_lt _ (by omega))
        have m0 : IntKind.u64.wrap (r : Int) = (r : Int) := IntWalk.u64_in _ (by omega)
        have m1 : (x : Int) % (r : Int) = (m : Int) := by rw [← hm]; exact (Int.natCast_emod x r).symm
        have m2 : (x : Int).tmod (r : Int) = (m : Int) := by rw [Int.tmod_eq_emod_of_nonneg (by omega)]; exact m1
        have m3 : IntKind.u64.wrap (m : Int) = (m : Int) := IntWalk.u64_in _ (by have := HM.out; omega)
        have m4 : IntKind.i64.wrap (m : Int) = (m : Int) := IntWalk.i64_in _ (by have := HM.out; omega)
        have m5 : (0 : Int) ≤ (m : Int) := by omega
        have m6 : (m : Int) ≤ (c : Int) := by have := HM.out; have := HR.out; omega
        have m7 : m ≤ c := by have := HM.out; have := HR.out; omega
        have m8 : ¬ c = 0 := by have := HM.out; have := HR.out; omega
        have m9 : (r : Int) ≤ (c : Int) := by have := HM.out; have := HR.out; omega
        clear hm
        go_wp2_with fail
        have HNF : Hid (¬ Fits m D) := Lib.hid (by
          obtain ⟨e1, _, e3, e4, e5, _, _⟩ := HR.out
          exact not_fits_wf (q := q) (L := L) (G := G) (by have := HM.out; omega) (fun k _ _ => by rw [e5]))
        refine (dec_any (some o) m c D w6 (H7.out.1.mono (by have := HM.out; omega)) m7 HR.out.2.2.2.2.2.2).mono ?_
        rintro e w7 ⟨hb7, hr7⟩
        rcases hr7 with ⟨hbad, _⟩ | ⟨hbad, _⟩ | ⟨_, _, rfl⟩
        case inl => exact absurd hbad HNF.out
        case inr.inl => exfalso; have := HR.out.2.2.1; have := HM.out; omega
        have H8 : Hid (Bytes w7 (some o) r D ∧ LBs w7 o6 q L G ∧ Below w.heap.size w w7) := Lib.hid ⟨H7.out.1.later hb7, H7.out.2.1.later hb7, H7.out.2.2.trans (hb7.mono H7.out.2.2.size)⟩
        clear hb7 H7 m0 m1 m2 m3 m4 m5 m6 m7 m8
        go_wp2_with fail
        refine (lists_any o6 oa q c6 cq L G w7 H8.out.2.1 (HLB.out _ H8.out.2.2) HQ.out).mono ?_
        rintro e w8 ⟨rfl, hb8⟩
        have H9 : Hid (Bytes w8 (some o) r D ∧ Below w.heap.size w w8) := Lib.hid ⟨H8.out.1.later hb8, H8.out.2.2.trans (hb8.mono H8.out.2.2.size)⟩
        clear hb8 H8
        go_wp2_with fail
        refine (num_err 4 w8 (HG.out.later H9.out.2)).mono ?_
        rintro e w9 ⟨rfl, hb9⟩
        have H10 : Hid (Bytes w9 (some o) r D ∧ Below w.heap.size w w9) := Lib.hid ⟨H9.out.1.later hb9, H9.out.2.trans (hb9.mono H9.out.2.size)⟩
        have H11 : Hid (Below w.heap.size w w9) := Lib.hid H10.out.2
        clear hb9 H9
        have hc1 : (r : Int) < 1024 ∨ ¬ (r : Int) < 1024 := by omega
        rcases hc1 with g2 | g2
        case inr =>
          go_wp2_with fail
          refine (HDB.out w9 (HBB.out _ H11.out)).mono ?_
          rintro e y1 ⟨hb1, hr1⟩
          have Y1 : Hid (Below w.heap.size w y1) := Lib.hid (H11.out.trans (hb1.mono H11.out.size))
          clear hb1
          rcases hr1 with ⟨hf, o1, c1, rfl, hl1, hno1, hc1, hm1⟩ | ⟨hf, rfl⟩ | ⟨hf, hf2, rfl⟩
          · have HE : Hid (Calls Tryd.prog 8 #[.slice o1 (B 0) c1] y1 fun e w' => ∃ o c, e = .returned (.tuple #[.slice o n c, .nilIface]) ∧ CV w' o n (strF n B) ∧ Below y1.heap.size y1 w') := Lib.hid (by
              have hfl := wf_fl (n := n) (B := B) (fun k hk => (HBB.out _ Y1.out k hk).1) (i := B 0) (Nat.le_of_eq hf.2.2.2)
              rw [hf.2.2.2] at hfl
              refine (enc_any o1 (B 0) c1 (fl B) (dG B) y1 hl1 (by have := hf.2.2.1; unfold maxLen; omega) (fun i hi => by have := hf.at hi; have := hf.2.1; omega)).mono ?_
              rintro e w' ⟨hb, ⟨_, _, o, c, rfl, hB, _, _⟩ | ⟨hbad, _⟩⟩
              · rw [hfl.1] at hB ⊢
                exact ⟨some o, c, rfl, ⟨_, hB, fun e => (by cases e), strF_congr fun i hi => hfl.2 i hi⟩, hb⟩
              · rw [hfl.1] at hbad; have := hf.2.1; have := hf.2.2.1; exfalso; omega)
            clear hf hl1 hno1 hc1 hm1
            go_wp2_with fail
            refine HE.out.mono ?_
            clear HE
            rintro e y2 ⟨o2, c2, rfl, hv2, hb2⟩
            have Y2 : Hid (CV y2 o2 n (strF n B) ∧ Below w.heap.size w y2) := Lib.hid ⟨hv2, Y1.out.trans (hb2.mono Y1.out.size)⟩
            have YB : Hid (CV y2 ob n (strF n B)) := Lib.hid ⟨B, HBB.out _ Y2.out.2, HNO.out, rfl⟩
            clear hv2 hb2 Y1
            generalize strF n B = SB at *
            go_wp2_with (first
              | (refine wpList_valueG (by kernel_rfl) (exec_convO (x := .tmp 128) rfl rfl Y2.out.1.conv) ?_)
              | (refine wpList_valueG (by kernel_rfl) (exec_convO (x := .tmp 130) rfl rfl YB.out.conv) ?_))
            refine (wire_sure y2 (HG.out.later Y2.out.2)).mono ?_
            rintro e y3 ⟨rfl, hb3⟩
            have Y3 : Hid (Below w.heap.size w y3) := Lib.hid (Y2.out.2.trans (hb3.mono Y2.out.2.size))
            clear hb3
            go_wp2_with fail
            go_ret
            exact ⟨rfl, Y3.out⟩
          · clear hf
            go_wp2_with fail
            refine (wire_sure y1 (HG.out.later Y1.out)).mono ?_
            rintro e y3 ⟨rfl, hb3⟩
            have Y3 : Hid (Below w.heap.size w y3) := Lib.hid (Y1.out.trans (hb3.mono Y1.out.size))
            clear hb3
            go_wp2_with fail
            go_ret
            exact ⟨rfl, Y3.out⟩
          · clear hf hf2
            go_wp2_with fail
            refine (wire_sure y1 (HG.out.later Y1.out)).mono ?_
            rintro e y3 ⟨rfl, hb3⟩
            have Y3 : Hid (Below w.heap.size w y3) := Lib.hid (Y1.out.trans (hb3.mono Y1.out.size))
            clear hb3
            go_wp2_with fail
            go_ret
            exact ⟨rfl, Y3.out⟩
        case inl =>
          obtain ⟨wr, hwr⟩ : ∃ z, w9.alloc (.cells #[] 5) = z := ⟨_, rfl⟩
          have hal : Below w9.heap.size w9 wr := by rw [← hwr]; exact (Below.refl _ _).alloc (Nat.le_refl _) _
          have HAP : Hid (Grow wr w9.heap.size (.slice (some ⟨w9.heap.size, 0, none⟩) 0 0) 0 (fun _ => 0) ∧ Bytes wr (some o) r D ∧ Below w9.heap.size w9 wr) := Lib.hid ⟨Grow.empty (by rw [← hwr]; exact Blk.new _ _ _) (Nat.le_refl _) _, H10.out.1.later hal, hal⟩
          clear hal
          go_wp2_with (first
            | ((try rw [hwr])
               refine wpList_appA rfl (.tmp 96) (.tmp 97) rfl w9.heap.size _ 0 r c o (fun _ => 0) D wr rfl HAP.out.1 rfl HAP.out.2.1 (by omega) HAP.out.2.2.size ?_
               intro va wa hGa hba
               have HA : Hid (Grow wa w9.heap.size va (0 + r) (catF 0 (fun _ => 0) D) ∧ Below w9.heap.size w9 wa) := Lib.hid ⟨hGa, HAP.out.2.2.trans hba⟩
               clear hGa hba)
            | (refine wpList_app8 rfl (.tmp 98) (.tmp 99) rfl w9.heap.size va (0 + r) (catF 0 (fun _ => 0) D) 0 wa rfl HA.out.1 rfl (by omega) HA.out.2.size ?_
               intro vb wb hGb hbb hsb
               have HB9 : Hid (Grow wb w9.heap.size vb (0 + r + 1) (upd (catF 0 (fun _ => 0) D) (0 + r) 0) ∧ Below w9.heap.size w9 wb) := Lib.hid ⟨hGb, HA.out.2.trans hbb⟩
               clear hGb hbb hsb))
          have HDL : Hid (∀ k, k < r → D k < 256) := Lib.hid fun k hk => (H10.out.1 k hk).1
          obtain ⟨ok, cb, rfl, hBb, hcb, _⟩ := HB9.out.1.bytesC (fun i hi => by
            have := HDL.out i
            unfold upd catF
            by_cases e : i = 0 + r
            · rw [if_pos e]; omega
            · rw [if_neg e, if_neg (by omega)]; exact HDL.out _ (by omega))
          have hcb2 : cb ≤ maxLen := by
            rcases HB9.out.1.2 with ⟨h1, _⟩ | ⟨_, _, _, h1, _, _, _, h2, _⟩
            · cases h1
            · cases h1; exact h2
          have H12 : Hid (Below w.heap.size w wb) := Lib.hid (H11.out.trans (HB9.out.2.mono H11.out.size))
          have HNF2 : Hid (¬ Fits (0 + r + 1) (upd (catF 0 (fun _ => 0) D) (0 + r) 0)) := Lib.hid (by
            obtain ⟨e1, _, e3, e4, e5, _, _⟩ := HR.out
            refine not_fits_wf (q := q) (L := L) (G := G) (by omega) (fun k hk _ => ?_)
            unfold upd catF
            rw [if_neg (by omega), if_neg (by omega), Nat.sub_zero, e5])
          refine (dec_any ok (0 + r + 1) cb _ wb hBb hcb hcb2).mono ?_
          rintro e wc ⟨hbc, hrc⟩
          rcases hrc with ⟨hbad, _⟩ | ⟨hbad, _⟩ | ⟨_, _, rfl⟩
          case inl => exact absurd hbad HNF2.out
          case inr.inl => exfalso; omega
          have H13 : Hid (Below w.heap.size w wc) := Lib.hid (H12.out.trans (hbc.mono H12.out.size))
          clear hbc hBb hcb hcb2 HB9 HA HAP hwr
          go_wp2_with fail
          refine (num_err 4 wc (HG.out.later H13.out)).mono ?_
          rintro e wd ⟨rfl, hbd⟩
          have H14 : Hid (Below w.heap.size w wd) := Lib.hid (H13.out.trans (hbd.mono H13.out.size))
          clear hbd
          go_wp2_with fail
          refine (HDB.out wd (HBB.out _ H14.out)).mono ?_
          rintro e y1 ⟨hb1, hr1⟩
          have Y1 : Hid (Below w.heap.size w y1) := Lib.hid (H14.out.trans (hb1.mono H14.out.size))
          clear hb1
          rcases hr1 with ⟨hf, o1, c1, rfl, hl1, hno1, hc1, hm1⟩ | ⟨hf, rfl⟩ | ⟨hf, hf2, rfl⟩
          · have HE : Hid (Calls Tryd.prog 8 #[.slice o1 (B 0) c1] y1 fun e w' => ∃ o c, e = .returned (.tuple #[.slice o n c, .nilIface]) ∧ CV w' o n (strF n B) ∧ Below y1.heap.size y1 w') := Lib.hid (by
              have hfl := wf_fl (n := n) (B := B) (fun k hk => (HBB.out _ Y1.out k hk).1) (i := B 0) (Nat.le_of_eq hf.2.2.2)
              rw [hf.2.2.2] at hfl
              refine (enc_any o1 (B 0) c1 (fl B) (dG B) y1 hl1 (by have := hf.2.2.1; unfold maxLen; omega) (fun i hi => by have := hf.at hi; have := hf.2.1; omega)).mono ?_
              rintro e w' ⟨hb, ⟨_, _, o, c, rfl, hB, _, _⟩ | ⟨hbad, _⟩⟩
              · rw [hfl.1] at hB ⊢
                exact ⟨some o, c, rfl, ⟨_, hB, fun e => (by cases e), strF_congr fun i hi => hfl.2 i hi⟩, hb⟩
              · rw [hfl.1] at hbad; have := hf.2.1; have := hf.2.2.1; exfalso; omega)
            clear hf hl1 hno1 hc1 hm1
            go_wp2_with fail
            refine HE.out.mono ?_
            clear HE
            rintro e y2 ⟨o2, c2, rfl, hv2, hb2⟩
            have Y2 : Hid (CV y2 o2 n (strF n B) ∧ Below w.heap.size w y2) := Lib.hid ⟨hv2, Y1.out.trans (hb2.mono Y1.out.size)⟩
            have YB : Hid (CV y2 ob n (strF n B)) := Lib.hid ⟨B, HBB.out _ Y2.out.2, HNO.out, rfl⟩
            clear hv2 hb2 Y1
            generalize strF n B = SB at *
            go_wp2_with (first
              | (refine wpList_valueG (by kernel_rfl) (exec_convO (x := .tmp 128) rfl rfl Y2.out.1.conv) ?_)
              | (refine wpList_valueG (by kernel_rfl) (exec_convO (x := .tmp 130) rfl rfl YB.out.conv) ?_))
            refine (wire_sure y2 (HG.out.later Y2.out.2)).mono ?_
            rintro e y3 ⟨rfl, hb3⟩
            have Y3 : Hid (Below w.heap.size w y3) := Lib.hid (Y2.out.2.trans (hb3.mono Y2.out.2.size))
            clear hb3
            go_wp2_with fail
            go_ret
            exact ⟨rfl, Y3.out⟩
          · clear hf
            go_wp2_with fail
            refine (wire_sure y1 (HG.out.later Y1.out)).mono ?_
            rintro e y3 ⟨rfl, hb3⟩
            have Y3 : Hid (Below w.heap.size w y3) := Lib.hid (Y1.out.trans (hb3.mono Y1.out.size))
            clear hb3
            go_wp2_with fail
            go_ret
            exact ⟨rfl, Y3.out⟩
          · clear hf hf2
            go_wp2_with fail
            refine (wire_sure y1 (HG.out.later Y1.out)).mono ?_
            rintro e y3 ⟨rfl, hb3⟩
            have Y3 : Hid (Below w.heap.size w y3) := Lib.hid (Y1.out.trans (hb3.mono Y1.out.size))
            clear hb3
            go_wp2_with fail
            go_ret
            exact ⟨rfl, Y3.out⟩
end Go.Proofs.YtcdeamokkbondaaDoor
