/- A lease put ahead of another one where there is room; the first one; both issued. -/
import Derived.Test.YtgfjlgaleddoaaaGreatDoorLeB
namespace Go.Proofs.YtgfjlgaleddoaaaGreatDoor
set_option linter.unusedVariables false
set_option linter.unusedSimpArgs false
open Go.RowKit
set_option maxRecDepth 100000 in
set_option maxHeartbeats 2000000 in
theorem insert_room (g gv base cap : Nat) (x y : LE) (w : World) (cur : Array Value) (hG : Blk w g cur 33) (hY : ∀ j, j < 5 → cur[j]? = (leL y)[j]?) (hV : Blk w gv (leL x).toArray 33) (hb : base ≤ g) (hc2 : 2 ≤ cap) (hcm : cap ≤ maxLen) (hd0 : 10 ≤ cur.size) (hne : gv ≠ g) :
    Calls Tryz.prog 49 #[.slice (some ⟨g, 0, none⟩) 1 cap, .int .i64 0, .slice (some ⟨gv, 0, none⟩) 1 1] w (InsR x y base w) := by
  have hcp : (cap : Int) ≤ 9223372036854775807 := by unfold maxLen at hcm; omega
  have hcq : (2 : Int) ≤ (cap : Int) := by omega
  have hcn : ¬ cap = 1 := by omega
  have hw1 : IntKind.i64.wrap 1 = 1 := by decide
  have hgl := Blk.lt hG
  have hov := run_ol (cap := cap) hV hG hne (by omega)
  have HB0 : Hid (Blk w.drew g cur 33) := Lib.hid hG.drew
  have HZ0 := Lib.hid hd0
  have HSY : Hid (∀ j v, (leL y)[j]? = some v → w.drew.cell? ((⟨g, 0, none⟩ : Addr).add j) = some v) := Lib.hid fun j v hv => by
    have hj : j < 5 := (List.getElem?_eq_some_iff.1 hv).1
    rw [Addr.add_mid, Nat.zero_add, Blk.cell hG.drew, hY j hj]; exact hv
  obtain ⟨D1, hD1⟩ : ∃ D, (cur.toList.take 5 ++ leL y ++ cur.toList.drop (5 + (leL y).length)).toArray = D := ⟨_, rfl⟩
  obtain ⟨W2, hW2⟩ : ∃ y0, w.drew.setRow g D1 = y0 := ⟨_, rfl⟩
  have hO2 : Own g w.drew W2 := by rw [← hW2]; exact Own.setRow _ _
  have hB1 : Blk W2 g D1 33 := by rw [← hW2]; exact Blk.setRow hG.drew _
  have hV2 : Blk W2 gv (leL x).toArray 33 := hO2.blk hV.drew hne
  have hs1 : D1.size = cur.size := by rw [← hD1, spl_size (by simp [leL]; omega)]; simp
  have hc1 : ∀ j, D1[j]? = if j < 5 then cur[j]? else if j < 5 + 5 then (leL y)[j - 5]? else cur[j]? := fun j => by rw [← hD1, spl (by simp [leL]; omega)]; simp [leL]
  have HSX : Hid (∀ j v, (leL x)[j]? = some v → W2.cell? ((⟨gv, 0, none⟩ : Addr).add j) = some v) := Lib.hid fun j v hv => by rw [Addr.add_mid, Nat.zero_add, Blk.cell hV2, List.getElem?_toArray]; exact hv
  have HD1 := Lib.hid hB1
  have HZ1 : Hid (10 ≤ D1.size) := Lib.hid (by omega)
  obtain ⟨D2, hD2⟩ : ∃ D, (D1.toList.take 0 ++ leL x ++ D1.toList.drop (0 + (leL x).length)).toArray = D := ⟨_, rfl⟩
  obtain ⟨W3, hW3⟩ : ∃ y0, W2.setRow g D2 = y0 := ⟨_, rfl⟩
  have hO3 : Own g W2 W3 := by rw [← hW3]; exact Own.setRow _ _
  have hB3 : Blk W3 g D2 33 := by rw [← hW3]; exact Blk.setRow hB1 _
  have hc2' : ∀ j, D2[j]? = if j < 0 then D1[j]? else if j < 0 + 5 then (leL x)[j - 0]? else D1[j]? := fun j => by rw [← hD2, spl (by simp [leL]; omega)]; simp [leL]
  have HFIN : Hid (InsR x y base w (.returned (.slice (some ⟨g, 0, none⟩) 2 cap)) W3) := Lib.hid (by
    refine ⟨g, cap, rfl, ck2 hB3 (fun j hj => ?_) (fun j hj => ?_), ?_, hc2, hcm⟩
    · rw [hc2', if_neg (by omega), if_pos (by omega)]; rfl
    · rw [hc2', if_neg (by omega), if_neg (by omega), hc1, if_neg (by omega), if_pos (by omega)]; congr 1; omega
    · have h1 : Below base w w.drew := (Below.refl _ _).drew
      have h2 : Below base w.drew W2 := hO2.below hb (show base ≤ w.heap.size by omega)
      have h3 : Below base W2 W3 := hO3.below hb (Nat.le_trans (show base ≤ w.heap.size by omega) h2.size)
      exact (h1.trans h2).trans h3)
  clear hG hY hV hb hc2 hcm hd0 hgl hO2 hB1 hV2 hs1 hc1 hO3 hB3 hc2'
  go_enter Tryz.func49, Tryz.ntmps49
  go_upto_region 15 with fail
  refine wp_region_held_drew (S := (fun _ => True)) (by kernel_rfl) ?_ (fun hHeld => ?_)
  · (try dsimp only)
    all_goals trivial
  refine wT 0 ?_ rfl ?_ ?_
  rotate_left
  · intro wS hSw
    (try dsimp only at hSw)
    go_simp
    (try with_reducible rfl)
  (try simp only [Act.put, zS])
  refine wT 1 ?_ rfl ?_ ?_
  rotate_left
  · intro wS hSw
    (try dsimp only at hSw)
    go_simp
    (try with_reducible rfl)
  (try simp only [Act.put, zS])
  refine wT 2 ?_ rfl ?_ ?_
  rotate_left
  · intro wS hSw
    (try dsimp only at hSw)
    go_simp
    (try with_reducible rfl)
  (try simp only [Act.put, zS])
  refine wT 3 (.int .i64 1) rfl ?_ ?_
  · intro wS hSw
    (go_simp; first | done | rfl | decide)
  (try simp only [Act.put, zS])
  refine wT 4 (.slice (some ⟨g, 5, none⟩) 1 (cap - 1)) rfl ?_ ?_
  · intro wS hSw
    (go_simp; first | done | (simp [hw1, hcn]; done) | rfl)
  (try simp only [Act.put, zS])
  refine wT 5 ?_ rfl ?_ ?_
  rotate_left
  · intro wS hSw
    (try dsimp only at hSw)
    go_simp
    (try with_reducible rfl)
  (try simp only [Act.put, zS])
  refine wT 6 ?_ rfl ?_ ?_
  rotate_left
  · intro wS hSw
    (try dsimp only at hSw)
    go_simp
    (try with_reducible rfl)
  (try simp only [Act.put, zS])
  refine wT 7 ?_ rfl ?_ ?_
  rotate_left
  · intro wS hSw
    (try dsimp only at hSw)
    go_simp
    (try with_reducible rfl)
  (try simp only [Act.put, zS])
  refine wR [8] ?_
  refine aN rfl fun K hK => ?_
  (refine step_copyK (k := 5) (q := 1) rfl (.tmp 73) (.tmp 76) 43 43 rfl 33 g 5 1 (cap - 1) ⟨g, 0, none⟩ 2 cap (by first | rfl | go_num) (by first | rfl | go_num) cur 33 (leL y) Tryz.underlying43 info_le HB0.out rfl rfl HSY.out (by have := HZ0.out; simp [leL]; omega) (leL_one _) ?_; skip)
  refine hK.out _ _ ?_ (fun hHeld => ?_)
  · (try dsimp only)
    all_goals trivial
  clear hK K
  (try simp only [Act.put, zS])
  refine wpAnyH_done (by kernel_rfl) ?_ _
  (try rw [hD1, hW2])
  go_wp2_with (first | (refine wpList_copyK (k := 5) (q := 1) rfl (.tmp 80) (.tmp 81) 43 43 rfl 33 g 0 2 cap ⟨gv, 0, none⟩ 1 1 rfl rfl D1 33 (leL x) Tryz.underlying43 info_le HD1.out rfl rfl HSX.out (by have := HZ1.out; simp [leL]; omega) (leL_one _) ?_; rw [hD2, hW3]; (try simp only [Act.put, zS])) | fail)
  go_ret
  exact HFIN.out
set_option maxRecDepth 100000 in
set_option maxHeartbeats 2000000 in
theorem insert_end (gv : Nat) (x : LE) (w : World) (hV : Blk w gv (leL x).toArray 33) :
    Calls Tryz.prog 49 #[.slice none 0 0, .int .i64 0, .slice (some ⟨gv, 0, none⟩) 1 1] w fun e w' => ∃ v, e = .returned v ∧ KO 5 33 w' w.heap.size v 1 (leC fun _ => x) ∧ Below w.heap.size w w' := by
  have HA : Hid (CK 5 w (some ⟨gv, 0, none⟩) 1 (fun _ => leL x)) := Lib.hid (CK.one hV)
  have HK := Lib.hid (KO.nil 5 33 w w.heap.size (fun _ => leL x))
  clear hV
  go_enter Tryz.func49, Tryz.ntmps49
  go_wp2_with (first | (refine app_KB KTp rfl (.tmp 23) (.tmp 24) rfl w.heap.size (.slice none 0 0) 0 1 1 _ (fun _ => leL x) (some ⟨gv, 0, none⟩) w rfl HK.out rfl HA.out ⟨fun _ => rfl, fun _ => leL_one _⟩ (fun e => by cases e) (by unfold maxLen; omega) (by omega) (Nat.le_refl _) ?_; intro v2 w2 hk2 hb2 hg2 ho2; have HK2 := Lib.hid hk2; have HB2 := Lib.hid hb2; clear hk2 hb2 hg2 ho2; (try simp only [Act.put, zS])) | fail)
  go_ret
  exact ⟨v2, rfl, KO.congr HK2.out fun i hi => by unfold catC; rw [if_neg (by omega)]; rfl, HB2.out⟩
theorem KO.mono {k : Nat} {T : TypeId} {w : World} {base b0 n : Nat} {v : Value} {C : Nat → List Value} (h : KO k T w base v n C) (hb : b0 ≤ base) : KO k T w b0 v n C :=
  ⟨h.1, h.2.imp id fun ⟨g, cap, cur, h1, h2, h3⟩ => ⟨g, cap, cur, h1, Nat.le_trans hb h2, h3⟩⟩
theorem insert2_any (v : Value) (gv b0 base : Nat) (x y : LE) (w : World) (hK : KO 5 33 w b0 v 1 (leC fun _ => y)) (hV : Blk w gv (leL x).toArray 33) (hne : ∀ q, v.ownBlock = some q → gv ≠ q) (hb : base ≤ b0) (hbw : base ≤ w.heap.size) :
    Calls Tryz.prog 49 #[v, .int .i64 0, .slice (some ⟨gv, 0, none⟩) 1 1] w (InsR x y base w) := by
  obtain ⟨g, cap, rfl, hg1, hg2⟩ := hK.form (by decide)
  have hne := hne g rfl
  rcases hK.2 with ⟨h1, _⟩ | ⟨g', cap', cur, h1, _, h3, h4, h5, h6, h7⟩
  · cases h1
  · have e1 : g = g' ∧ cap = cap' := by cases h1; exact ⟨rfl, rfl⟩
    obtain ⟨rfl, rfl⟩ := e1
    have hY : ∀ j, j < 5 → cur[j]? = (leL y)[j]? := fun j hj => by
      have h8 := congrArg (fun l : List Value => l[j]?) h7
      rw [rws_succ, rws_zero, List.nil_append] at h8
      simp only [List.getElem?_take] at h8
      rw [if_pos (by omega)] at h8
      rw [← Array.getElem?_toList]; exact h8
    rcases (show cap = 1 ∨ 2 ≤ cap by omega) with rfl | hc
    · exact insert_full g gv base x y w cur h3 hY hV hbw
    · exact insert_room g gv base cap x y w cur h3 hY hV (by omega) hc h5 (by omega) hne
def IsR (x : LE) (w : World) (e : Ending) (w' : World) : Prop := ∃ v, e = .returned (.tuple #[v, .nilIface]) ∧ KO 5 33 w' w.heap.size v 1 (leC fun _ => x) ∧ Below w.heap.size w w'
def Is2 (x y : LE) (w : World) (e : Ending) (w' : World) : Prop := ∃ g' c', e = .returned (.tuple #[.slice (some ⟨g', 0, none⟩) 2 c', .nilIface]) ∧ CK 5 w' (some ⟨g', 0, none⟩) 2 (leC (X2 x y)) ∧ Below w.heap.size w w'
theorem lclone_nil (w : World) : Calls Tryz.prog 50 #[.slice none 0 0] w fun e w' => e = .returned (.slice none 0 0) ∧ w' = w := by
  have heq := Lib.run_eql_slice_nil (P := Tryz.prog) w 43 33 none 0 0 0 0 Tryz.underlying43
  go_enter Tryz.func50, Tryz.ntmps50
  go_wp2_with fail
  go_ret
  exact ⟨rfl, rfl⟩
set_option maxRecDepth 100000 in
set_option maxHeartbeats 2000000 in
theorem issue_first (x : LE) (w : World) (hx : LES x) (hm : mayL x = true) :
    Calls Tryz.prog 18 #[.slice none 0 0, .agg (leL x).toArray] w (IsR x w) := by
  obtain ⟨D, hD⟩ : ∃ D, (leL x).toArray = D := ⟨_, rfl⟩
  obtain ⟨b3, hb3⟩ : ∃ q, w.heap.size = q := ⟨_, rfl⟩
  obtain ⟨w1, hw1⟩ : ∃ y, w.alloc (.cells D 33) = y := ⟨_, rfl⟩
  have hb1 : Below w.heap.size w w1 := by rw [← hw1]; exact (Below.refl _ _).alloc (Nat.le_refl _) _
  have hK : Blk w1 b3 D 33 := by rw [← hw1, ← hb3]; exact Blk.new _ _ _
  have HB1 := Lib.hid hb1
  have HK := Lib.hid hK
  have HDE := Lib.hid hD
  have HB3 := Lib.hid hb3
  have HISD : Hid ((Tryz.prog.info? 33).map (·.size) = some D.size) := Lib.hid (by rw [← hD]; exact info_le)
  have HBS : Hid (∀ w, (Instr.buildSlice 43 1 #[(0, .agg D)]).run Tryz.prog w = .ok (.slice (some ⟨w.heap.size, 0, none⟩) 1 1) (w.alloc (.cells D 33))) := Lib.hid (by rw [← hD]; exact bs_le x)
  have HCK := Lib.hid (check_any none 0 0 (fun _ => x) w1 (CK.nil _ _ _ _) (by unfold maxLen; omega) (fun i hi => absurd hi (by omega)))
  rw [ck_yes (n := 0) (by omega) (fun i hi => absurd hi (by omega)), show EA true = .nilIface from rfl] at HCK
  have HFD := Lib.hid (fun w' (_ : Below w.heap.size w w') => find_any none 0 0 (fun _ => x) x.id w' (CK.nil _ _ _ _) (by omega))
  have HMB := Lib.hid (fun w => maybe_any x w hx)
  rw [hD, hm] at HMB
  rw [hD]
  obtain ⟨ix, hix⟩ : ∃ q, x.id = q := ⟨_, rfl⟩
  have HIX := Lib.hid hix
  have HRD := Lib.hid (Blk.rangeA hK)
  clear hb1 hK hD hx hm
  go_enter Tryz.func18, Tryz.ntmps18
  go_wp2_with fail
  refine HCK.out.mono ?_
  rintro e w2 ⟨rfl, hb2⟩
  have HB2 := Lib.hid (HB1.out.trans (hb2.mono HB1.out.size))
  have HK2 := Lib.hid (Blk.below HK.out hb2 (Blk.lt HK.out))
  have HR2 := Lib.hid (Blk.rangeA HK2.out)
  clear hb2
  go_wp2_with (first | (refine wpList_valueG (by rfl) (exec_loadA (x := .tmp 3) (C := D) rfl rfl HR2.out Tryz.underlying33 rfl HISD.out) ?_) | fail)
  refine (HMB.out _).mono ?_
  rintro e w3 ⟨rfl, hb3'⟩
  have HB3' := Lib.hid (HB2.out.trans (hb3'.mono HB2.out.size))
  have HK3 := Lib.hid (Blk.below HK2.out hb3' (Blk.lt HK2.out))
  have c0 : w3.cell? ⟨b3, 0, none⟩ = some (.string ix) := by rw [← HIX.out]; exact le_cell0 HK3.out HDE.out
  clear hb3'
  go_wp2_with fail
  rw [← HIX.out]
  refine (HFD.out w3 HB3'.out).mono ?_
  rintro e W4 ⟨hb4, r, f, rfl, hr1, hr2, hr3, hr4⟩
  obtain rfl : r = 0 := by omega
  obtain rfl : f = false := by rw [hr4, decide_eq_false (by omega)]; rfl
  have HB4 := Lib.hid (HB3'.out.trans (hb4.mono HB3'.out.size))
  have HK4 := Lib.hid (Blk.below HK3.out hb4 (Blk.lt HK3.out))
  clear hb4 hr1 hr2 hr3 hr4 c0
  go_upto_region 8 with fail
  have hSW0 : Blk W4.drew b3 D 33 := HK4.out.drew
  have hDW0 : Blk W4.drew b3 D 33 := HK4.out.drew
  have hBW0 : Below w.heap.size w W4.drew := HB4.out.drew
  refine wp_region_held_drew (S := (fun X => Blk X b3 D 33)) (by kernel_rfl) ?_ (fun hHeld => ?_)
  · (try dsimp only)
    (first | assumption | (dsimp only; assumption))
  generalize W4.drew = W0 at *
  refine wT 0 ?_ rfl ?_ ?_
  rotate_left
  · intro wS hSw
    (try dsimp only at hSw)
    go_simp
    (try with_reducible rfl)
  (try simp only [Act.put, zS])
  refine wT 2 ?_ rfl ?_ ?_
  rotate_left
  · intro wS hSw
    (try dsimp only at hSw)
    go_simp
    (try with_reducible rfl)
  (try simp only [Act.put, zS])
  refine wT 3 ?_ rfl ?_ ?_
  rotate_left
  · intro wS hSw
    refine exec_loadA (x := .tmp 3) (C := D) ?_ ?_ (Blk.rangeA hSw) Tryz.underlying33 ?_ HISD.out <;> rfl
  (try simp only [Act.put, zS])
  refine wR [1, 4] ?_
  refine aC rfl (fun K hK => ?_) ?_
  · skip
    go_simp
    (refine (lclone_nil W0).mono ?_; rintro e WC ⟨rfl, hwc⟩; rw [hwc]; clear hwc; skip)
    (try go_wp2_with fail)
    refine hK.out _ _ ?_ (fun hHeld => ?_)
    · (try dsimp only)
      (first | assumption | (dsimp only; assumption))
    clear hK K
    (try simp only [Act.put, zS])
    refine wR [4] ?_
    refine aN rfl fun K hK => ?_
    (refine step_bsP 43 33 rfl #[(0, .tmp 33)] #[(0, .agg D)] D rfl (by first | (simp [Act.eval]; done) | (simp; rfl)) HBS.out ?_; obtain ⟨WX, hwx⟩ : ∃ q, W0.alloc (.cells D 33) = q := ⟨_, rfl⟩; rw [hwx]; have hbx : Below W0.heap.size W0 WX := (by rw [← hwx]; exact (Below.refl _ _).alloc (Nat.le_refl _) _); have hVWX : Blk WX W0.heap.size D 33 := (by rw [← hwx]; exact Blk.new _ _ _); have hBWX := hBW0.trans (hbx.mono hBW0.size); have hDWX := Blk.below hDW0 hbx (Blk.lt hDW0); clear hwx; skip)
    refine hK.out _ _ ?_ (fun hHeld => ?_)
    · (try dsimp only)
      (first | assumption | (dsimp only; assumption))
    clear hK K
    (try simp only [Act.put, zS])
    refine wR [5] ?_
    refine aN rfl fun K hK => ?_
    go_simp
    (refine (insert_end W0.heap.size x WX (by rw [HDE.out]; exact hVWX)).mono ?_; rintro e WR ⟨v, rfl, hkr, hbr⟩; have HR := Lib.hid (show IsR x w (.returned (.tuple #[v, .nilIface])) WR from ⟨v, rfl, KO.mono hkr hBWX.size, hBWX.trans (hbr.mono hBWX.size)⟩); have hDWR := Blk.below hDWX hbr (Blk.lt hDWX); skip)
    (try go_wp2_with fail)
    refine hK.out _ _ ?_ (fun hHeld => ?_)
    · (try dsimp only)
      (first | assumption | (dsimp only; assumption))
    clear hK K
    (try simp only [Act.put, zS])
    refine wT 6 ?_ rfl ?_ ?_
    rotate_left
    · intro wS hSw
      (try dsimp only at hSw)
      go_simp
      (try with_reducible rfl)
    (try simp only [Act.put, zS])
    refine wT 7 ?_ rfl ?_ ?_
    rotate_left
    · intro wS hSw
      (try dsimp only at hSw)
      go_simp
      (try with_reducible rfl)
    (try simp only [Act.put, zS])
    refine wpAnyH_done (by kernel_rfl) ?_ _
    go_wp2_with fail
    refine bodyPost_ret (v := .tuple #[v, .nilIface]) (results_tmp2 (fn := Tryz.f18) (t := 4) (u := 5) rfl _ _ _) rfl HR.out
  refine aN rfl fun K hK => ?_
  (refine step_bsP 43 33 rfl #[(0, .tmp 33)] #[(0, .agg D)] D rfl (by first | (simp [Act.eval]; done) | (simp; rfl)) HBS.out ?_; obtain ⟨WX, hwx⟩ : ∃ q, W0.alloc (.cells D 33) = q := ⟨_, rfl⟩; rw [hwx]; have hbx : Below W0.heap.size W0 WX := (by rw [← hwx]; exact (Below.refl _ _).alloc (Nat.le_refl _) _); have hVWX : Blk WX W0.heap.size D 33 := (by rw [← hwx]; exact Blk.new _ _ _); have hBWX := hBW0.trans (hbx.mono hBW0.size); have hDWX := Blk.below hDW0 hbx (Blk.lt hDW0); clear hwx; skip)
  refine hK.out _ _ ?_ (fun hHeld => ?_)
  · (try dsimp only)
    (first | assumption | (dsimp only; assumption))
  clear hK K
  (try simp only [Act.put, zS])
  refine wR [1] ?_
  refine aN rfl fun K hK => ?_
  go_simp
  (refine (lclone_nil WX).mono ?_; rintro e WC ⟨rfl, hwc⟩; rw [hwc]; clear hwc; skip)
  (try go_wp2_with fail)
  refine hK.out _ _ ?_ (fun hHeld => ?_)
  · (try dsimp only)
    (first | assumption | (dsimp only; assumption))
  clear hK K
  (try simp only [Act.put, zS])
  refine wR [5] ?_
  refine aN rfl fun K hK => ?_
  go_simp
  (refine (insert_end W0.heap.size x WX (by rw [HDE.out]; exact hVWX)).mono ?_; rintro e WR ⟨v, rfl, hkr, hbr⟩; have HR := Lib.hid (show IsR x w (.returned (.tuple #[v, .nilIface])) WR from ⟨v, rfl, KO.mono hkr hBWX.size, hBWX.trans (hbr.mono hBWX.size)⟩); have hDWR := Blk.below hDWX hbr (Blk.lt hDWX); skip)
  (try go_wp2_with fail)
  refine hK.out _ _ ?_ (fun hHeld => ?_)
  · (try dsimp only)
    (first | assumption | (dsimp only; assumption))
  clear hK K
  (try simp only [Act.put, zS])
  refine wT 6 ?_ rfl ?_ ?_
  rotate_left
  · intro wS hSw
    (try dsimp only at hSw)
    go_simp
    (try with_reducible rfl)
  (try simp only [Act.put, zS])
  refine wT 7 ?_ rfl ?_ ?_
  rotate_left
  · intro wS hSw
    (try dsimp only at hSw)
    go_simp
    (try with_reducible rfl)
  (try simp only [Act.put, zS])
  refine wpAnyH_done (by kernel_rfl) ?_ _
  go_wp2_with fail
  refine bodyPost_ret (v := .tuple #[v, .nilIface]) (results_tmp2 (fn := Tryz.f18) (t := 4) (u := 5) rfl _ _ _) rfl HR.out
set_option maxRecDepth 100000 in
set_option maxHeartbeats 2000000 in
theorem issue_second (x y : LE) (oa : Option Addr) (c : Nat) (w : World) (hx : LES x) (hm : mayL x = true) (hy : LES y) (hn : mayL y = true) (hcmp : 0 ≤ cmpS y.id x.id ∧ (cmpS y.id x.id == 0) = false) (hY : CK 5 w oa 1 (leC fun _ => y)) :
    Calls Tryz.prog 18 #[.slice oa 1 c, .agg (leL x).toArray] w (Is2 x y w) := by
  obtain ⟨D, hD⟩ : ∃ D, (leL x).toArray = D := ⟨_, rfl⟩
  obtain ⟨b3, hb3⟩ : ∃ q, w.heap.size = q := ⟨_, rfl⟩
  obtain ⟨w1, hw1⟩ : ∃ y, w.alloc (.cells D 33) = y := ⟨_, rfl⟩
  have hb1 : Below w.heap.size w w1 := by rw [← hw1]; exact (Below.refl _ _).alloc (Nat.le_refl _) _
  have hK : Blk w1 b3 D 33 := by rw [← hw1, ← hb3]; exact Blk.new _ _ _
  have HB1 := Lib.hid hb1
  have HK := Lib.hid hK
  have HDE := Lib.hid hD
  have HB3 := Lib.hid hb3
  have HISD : Hid ((Tryz.prog.info? 33).map (·.size) = some D.size) := Lib.hid (by rw [← hD]; exact info_le)
  have HBS : Hid (∀ w, (Instr.buildSlice 43 1 #[(0, .agg D)]).run Tryz.prog w = .ok (.slice (some ⟨w.heap.size, 0, none⟩) 1 1) (w.alloc (.cells D 33))) := Lib.hid (by rw [← hD]; exact bs_le x)
  have hno : oa = none → (1 : Nat) = 0 ∧ c = 0 := fun e => by obtain ⟨b, off, e2, _⟩ := hY 0 (by omega); rw [e] at e2; cases e2
  have HCK := Lib.hid (check_any oa 1 c (fun _ => y) w1 (hY.later hb1) (by unfold maxLen; omega) (fun i _ => hy))
  rw [ck_yes (n := 1) (by omega) (fun i hi => by obtain rfl : i = 0 := by omega
                                                 unfold stepB; rw [hn]; rfl), show EA true = .nilIface from rfl] at HCK
  have HFD := Lib.hid (fun w' (hb : Below w.heap.size w w') => find_any oa 1 c (fun _ => y) x.id w' (hY.later hb) (by omega))
  have HCL := Lib.hid (fun w' (hb : Below w.heap.size w w') => lclone_any oa 1 c (fun _ => y) w' (hY.later hb) hno (by omega))
  have HLT : Hid (0 ≤ cmpS y.id x.id ∧ (cmpS y.id x.id == 0) = false) := Lib.hid hcmp
  have HMB := Lib.hid (fun w => maybe_any x w hx)
  rw [hD, hm] at HMB
  rw [hD]
  obtain ⟨ix, hix⟩ : ∃ q, x.id = q := ⟨_, rfl⟩
  have HIX := Lib.hid hix
  have HRD := Lib.hid (Blk.rangeA hK)
  clear hb1 hK hD hx hm hy hn hY hno hcmp
  go_enter Tryz.func18, Tryz.ntmps18
  go_wp2_with fail
  refine HCK.out.mono ?_
  rintro e w2 ⟨rfl, hb2⟩
  have HB2 := Lib.hid (HB1.out.trans (hb2.mono HB1.out.size))
  have HK2 := Lib.hid (Blk.below HK.out hb2 (Blk.lt HK.out))
  have HR2 := Lib.hid (Blk.rangeA HK2.out)
  clear hb2
  go_wp2_with (first | (refine wpList_valueG (by rfl) (exec_loadA (x := .tmp 3) (C := D) rfl rfl HR2.out Tryz.underlying33 rfl HISD.out) ?_) | fail)
  refine (HMB.out _).mono ?_
  rintro e w3 ⟨rfl, hb3'⟩
  have HB3' := Lib.hid (HB2.out.trans (hb3'.mono HB2.out.size))
  have HK3 := Lib.hid (Blk.below HK2.out hb3' (Blk.lt HK2.out))
  have c0 : w3.cell? ⟨b3, 0, none⟩ = some (.string ix) := by rw [← HIX.out]; exact le_cell0 HK3.out HDE.out
  clear hb3'
  go_wp2_with fail
  rw [← HIX.out]
  refine (HFD.out w3 HB3'.out).mono ?_
  rintro e W4 ⟨hb4, r, f, rfl, hr1, hr2, hr3, hr4⟩
  have hr0 : r = 0 := by
    rcases (show r = 0 ∨ r = 1 by omega) with h | h
    · exact h
    · subst h; exact absurd (show cmpS y.id x.id < 0 from hr2 (by omega)) (by have := HLT.out.1; omega)
  subst hr0
  obtain rfl : f = false := by rw [hr4, HLT.out.2, Bool.and_false]
  have HB4 := Lib.hid (HB3'.out.trans (hb4.mono HB3'.out.size))
  have HK4 := Lib.hid (Blk.below HK3.out hb4 (Blk.lt HK3.out))
  clear hb4 hr1 hr2 hr3 hr4 c0
  go_upto_region 8 with fail
  have hSW0 : Blk W4.drew b3 D 33 := HK4.out.drew
  have hDW0 : Blk W4.drew b3 D 33 := HK4.out.drew
  have hBW0 : Below w.heap.size w W4.drew := HB4.out.drew
  refine wp_region_held_drew (S := (fun X => Blk X b3 D 33)) (by kernel_rfl) ?_ (fun hHeld => ?_)
  · (try dsimp only)
    (first | assumption | (dsimp only; assumption))
  generalize W4.drew = W0 at *
  refine wT 0 ?_ rfl ?_ ?_
  rotate_left
  · intro wS hSw
    (try dsimp only at hSw)
    go_simp
    (try with_reducible rfl)
  (try simp only [Act.put, zS])
  refine wT 2 ?_ rfl ?_ ?_
  rotate_left
  · intro wS hSw
    (try dsimp only at hSw)
    go_simp
    (try with_reducible rfl)
  (try simp only [Act.put, zS])
  refine wT 3 ?_ rfl ?_ ?_
  rotate_left
  · intro wS hSw
    refine exec_loadA (x := .tmp 3) (C := D) ?_ ?_ (Blk.rangeA hSw) Tryz.underlying33 ?_ HISD.out <;> rfl
  (try simp only [Act.put, zS])
  refine wR [1, 4] ?_
  refine aC rfl (fun K hK => ?_) ?_
  · skip
    go_simp
    (refine (HCL.out W0 hBW0).mono ?_; rintro e WC ⟨vc, rfl, hkc, hbc⟩; have hBWC := hBW0.trans (hbc.mono hBW0.size); have hDWC := Blk.below hDW0 hbc (Blk.lt hDW0); skip)
    (try go_wp2_with fail)
    refine hK.out _ _ ?_ (fun hHeld => ?_)
    · (try dsimp only)
      (first | assumption | (dsimp only; assumption))
    clear hK K
    (try simp only [Act.put, zS])
    refine wR [4] ?_
    refine aN rfl fun K hK => ?_
    (refine step_bsP 43 33 rfl #[(0, .tmp 33)] #[(0, .agg D)] D rfl (by first | (simp [Act.eval]; done) | (simp; rfl)) HBS.out ?_; obtain ⟨WX, hwx⟩ : ∃ q, WC.alloc (.cells D 33) = q := ⟨_, rfl⟩; rw [hwx]; have hbx : Below WC.heap.size WC WX := (by rw [← hwx]; exact (Below.refl _ _).alloc (Nat.le_refl _) _); have hVWX : Blk WX WC.heap.size D 33 := (by rw [← hwx]; exact Blk.new _ _ _); have hBWX := hBWC.trans (hbx.mono hBWC.size); have hDWX := Blk.below hDWC hbx (Blk.lt hDWC); have hkx := hkc.later hbx; have hne : ∀ q, vc.ownBlock = some q → WC.heap.size ≠ q := (fun q hq => by have h9 := own_lt hkc hq; omega); have hle : w.heap.size ≤ W0.heap.size := hBW0.size; clear hwx; skip)
    refine hK.out _ _ ?_ (fun hHeld => ?_)
    · (try dsimp only)
      (first | assumption | (dsimp only; assumption))
    clear hK K
    (try simp only [Act.put, zS])
    refine wR [5] ?_
    refine aN rfl fun K hK => ?_
    go_simp
    (refine (insert2_any vc (WC.heap.size) (W0.heap.size) (b3 + 1) x y WX hkx (by rw [HDE.out]; exact hVWX) hne (Blk.lt hDW0) (Blk.lt hDWX)).mono ?_; rintro e WR ⟨g', c', rfl, hck, hbr, -, -⟩; have HR := Lib.hid (show Is2 x y w (.returned (.tuple #[.slice (some ⟨g', 0, none⟩) 2 c', .nilIface])) WR from ⟨g', c', rfl, hck, hBWX.trans (hbr.mono (by have := HB3.out; omega))⟩); have hDWR := Blk.below hDWX hbr (by omega); skip)
    (try go_wp2_with fail)
    refine hK.out _ _ ?_ (fun hHeld => ?_)
    · (try dsimp only)
      (first | assumption | (dsimp only; assumption))
    clear hK K
    (try simp only [Act.put, zS])
    refine wT 6 ?_ rfl ?_ ?_
    rotate_left
    · intro wS hSw
      (try dsimp only at hSw)
      go_simp
      (try with_reducible rfl)
    (try simp only [Act.put, zS])
    refine wT 7 ?_ rfl ?_ ?_
    rotate_left
    · intro wS hSw
      (try dsimp only at hSw)
      go_simp
      (try with_reducible rfl)
    (try simp only [Act.put, zS])
    refine wpAnyH_done (by kernel_rfl) ?_ _
    go_wp2_with fail
    refine bodyPost_ret (v := .tuple #[.slice (some ⟨g', 0, none⟩) 2 c', .nilIface]) (results_tmp2 (fn := Tryz.f18) (t := 4) (u := 5) rfl _ _ _) rfl HR.out
  refine aN rfl fun K hK => ?_
  (refine step_bsP 43 33 rfl #[(0, .tmp 33)] #[(0, .agg D)] D rfl (by first | (simp [Act.eval]; done) | (simp; rfl)) HBS.out ?_; obtain ⟨WX, hwx⟩ : ∃ q, W0.alloc (.cells D 33) = q := ⟨_, rfl⟩; rw [hwx]; have hbx : Below W0.heap.size W0 WX := (by rw [← hwx]; exact (Below.refl _ _).alloc (Nat.le_refl _) _); have hVWX : Blk WX W0.heap.size D 33 := (by rw [← hwx]; exact Blk.new _ _ _); have hBWX := hBW0.trans (hbx.mono hBW0.size); have hDWX := Blk.below hDW0 hbx (Blk.lt hDW0); clear hwx; skip)
  refine hK.out _ _ ?_ (fun hHeld => ?_)
  · (try dsimp only)
    (first | assumption | (dsimp only; assumption))
  clear hK K
  (try simp only [Act.put, zS])
  refine wR [1] ?_
  refine aN rfl fun K hK => ?_
  go_simp
  (refine (HCL.out WX hBWX).mono ?_; rintro e WC ⟨vc, rfl, hkc, hbc⟩; have hBWC := hBWX.trans (hbc.mono hBWX.size); have hDWC := Blk.below hDWX hbc (Blk.lt hDWX); have hVWC := Blk.below hVWX hbc (Blk.lt hVWX); have hne : ∀ q, vc.ownBlock = some q → W0.heap.size ≠ q := (fun q hq => by have h9 := hkc.block q hq; have h8 := Blk.lt hVWX; omega); have hle : w.heap.size ≤ WX.heap.size := hBWX.size; skip)
  (try go_wp2_with fail)
  refine hK.out _ _ ?_ (fun hHeld => ?_)
  · (try dsimp only)
    (first | assumption | (dsimp only; assumption))
  clear hK K
  (try simp only [Act.put, zS])
  refine wR [5] ?_
  refine aN rfl fun K hK => ?_
  go_simp
  (refine (insert2_any vc (W0.heap.size) (WX.heap.size) (b3 + 1) x y WC hkc (by rw [HDE.out]; exact hVWC) hne (Blk.lt hDWX) (Blk.lt hDWC)).mono ?_; rintro e WR ⟨g', c', rfl, hck, hbr, -, -⟩; have HR := Lib.hid (show Is2 x y w (.returned (.tuple #[.slice (some ⟨g', 0, none⟩) 2 c', .nilIface])) WR from ⟨g', c', rfl, hck, hBWC.trans (hbr.mono (by have := HB3.out; omega))⟩); have hDWR := Blk.below hDWC hbr (by omega); skip)
  (try go_wp2_with fail)
  refine hK.out _ _ ?_ (fun hHeld => ?_)
  · (try dsimp only)
    (first | assumption | (dsimp only; assumption))
  clear hK K
  (try simp only [Act.put, zS])
  refine wT 6 ?_ rfl ?_ ?_
  rotate_left
  · intro wS hSw
    (try dsimp only at hSw)
    go_simp
    (try with_reducible rfl)
  (try simp only [Act.put, zS])
  refine wT 7 ?_ rfl ?_ ?_
  rotate_left
  · intro wS hSw
    (try dsimp only at hSw)
    go_simp
    (try with_reducible rfl)
  (try simp only [Act.put, zS])
  refine wpAnyH_done (by kernel_rfl) ?_ _
  go_wp2_with fail
  refine bodyPost_ret (v := .tuple #[.slice (some ⟨g', 0, none⟩) 2 c', .nilIface]) (results_tmp2 (fn := Tryz.f18) (t := 4) (u := 5) rfl _ _ _) rfl HR.out
end Go.Proofs.YtgfjlgaleddoaaaGreatDoor
