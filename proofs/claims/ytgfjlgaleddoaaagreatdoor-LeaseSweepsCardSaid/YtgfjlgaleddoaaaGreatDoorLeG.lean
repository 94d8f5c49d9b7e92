/- Any leases swept: those that ended first go, so many at most. -/
import Derived.Test.YtgfjlgaleddoaaaGreatDoorLeA
import Derived.Test.YtgfjlgaleddoaaaGreatDoorLeF
import Derived.Shelf.SlSortCmp.NoneTotal
namespace Go.Proofs.YtgfjlgaleddoaaaGreatDoor
set_option linter.unusedVariables false
set_option linter.unusedSimpArgs false
open Go.RowKit Go.Sort
theorem map_at (X : Nat → LE) (l : List Nat) (i : Nat) (hi : i < l.length) : ((l.map X).toArray)[i]! = X (l.getD i 0) := by
  rw [getElem!_pos _ i (by simpa using hi), List.getElem_toArray, List.getElem_map, List.getD_eq_getElem?_getD, List.getElem?_eq_getElem hi]; rfl
theorem holdsN {w : World} {base g cap : Nat} {X : Nat → LE} {l : List Nat} (h : KO 5 33 w base (.slice (some ⟨g, 0, none⟩) l.length cap) l.length (leC (ixL X l))) : HoldsK leL 5 w g 0 (l.map X).toArray := fun j hj => by
  have hj : j < l.length * 5 := by simpa using hj
  refine ⟨?_, World.ownsRow.frozenAt h _⟩
  have hi : j / 5 < l.length := by omega
  have h5 : j % 5 < 5 := by omega
  obtain ⟨oa, ca, e0, -, -, -, -, hck⟩ := h.out (fun _ => rfl) (by decide)
  cases e0
  obtain ⟨b, off, e, hr⟩ := hck (j / 5) hi
  cases e
  have h8 := hr (j % 5) (leL (X (l.getD (j / 5) 0)))[j % 5] (List.getElem?_eq_getElem h5)
  rw [show 0 + j / 5 * 5 + j % 5 = 0 + j by omega] at h8
  rw [h8, get_flatK _ _ _ _ (by simpa using hj), map_at X l _ hi]
  exact congrArg some (getElem!_pos (leL (X (l.getD (j / 5) 0))) _ h5).symm
set_option maxRecDepth 100000 in
set_option maxHeartbeats 1000000 in
theorem sort_ko (X : Nat → LE) (l : List Nat) (oa : Option Addr) (cap base : Nat) (w : World) (h : KO 5 33 w base (.slice oa l.length cap) l.length (leC (ixL X l))) (hl : l.length ≤ 32) (hbw : base ≤ w.heap.size) :
    Calls Tryz.prog 58 #[.slice oa l.length cap, .func (.func 59) #[] #[]] w fun e w' => e = .returned (.tuple #[]) ∧ ∃ D : Array LE, PermIn 0 (l.map X).toArray.size (l.map X).toArray D ∧ SortedIn (ltOf cfL) 0 (l.map X).toArray.size D ∧ (∃ g, base ≤ g ∧ Own g w w') ∧ ∀ b W, b < base → Own b w' W → CK 5 W oa l.length (leC fun i => D[i]!) := by
  have hz : (l.map X).toArray.size = l.length := by simp
  rcases Nat.eq_zero_or_pos l.length with h0 | h0
  · rw [h0] at h ⊢
    refine (AnyF.slices_SortFunc_none Tryz.sortL oa cap _ w).mono ?_
    rintro e w' ⟨rfl, rfl⟩
    refine ⟨rfl, (l.map X).toArray, ⟨rfl, fun _ _ => rfl, .refl _⟩, fun i j _ h1 h2 => ?_, ⟨base, Nat.le_refl _, Own.refl _ _⟩, fun b W _ _ i hi => absurd hi (Nat.not_lt_zero _)⟩
    rw [hz, h0] at h2; omega
  · obtain ⟨g, cp, e, hgb, hgl⟩ := h.some h0
    cases e
    have eg : ∀ args w, (callFunc 59 args).run Tryz.prog w = .ok (.enter 59 args) w := enters_of Tryz.func59 (by kernel_rfl) rfl
    have h9 := AnyQ.slices_SortFunc Tryz.sortL 5 Tryz.isAgg33 Tryz.sizeOf33 leL (fun _ => rfl) leL_one cfL swo 59 #[] g 0 cap (l.map X).toArray w eg (fun m os dk _ x y => s1_any x y _) (holdsN h) hgl (by rw [hz]; omega)
    rw [hz] at h9 ⊢
    refine h9.mono ?_
    rintro e w' ⟨rfl, D, n, os, hp, hs, rfl⟩
    have hH := holdsK_sortWorldK_c leL 5 w g 0 _ _ n os (holdsN h) hgl (show D.size = _ from hp.1)
    refine ⟨rfl, D, hp, hs, ⟨g, hgb, own_sort w g n _ os⟩, fun b W hb hO i hi => ?_⟩
    obtain ⟨b', off, e, hr⟩ := ck_holds hH (m := l.length) (by rw [hp.1, hz]; exact Nat.le_refl _) i hi
    cases e
    exact ⟨g, 0, rfl, fun j v hv => hO.cell (hr j v hv) (by show g ≠ b; omega)⟩
/-- While what is over comes. -/
structure OvJ (X : Nat → LE) (w : World) (g8 : Nat) (l : List Nat) (va : Value) (A : World) : Prop where
  row : KO 5 33 A (g8 + 1) va l.length (leC (ixL X l))
  c : Blk A g8 #[va] 43
  o : Below w.heap.size w A
  z : g8 + 1 ≤ A.heap.size
theorem OvJ.later {X : Nat → LE} {w A B : World} {g8 : Nat} {l : List Nat} {va : Value} (h : OvJ X w g8 l va A) (hb : Below A.heap.size A B) : OvJ X w g8 l va B :=
  ⟨h.row.later hb, Blk.below h.c hb (Blk.lt h.c), h.o.trans (hb.mono h.o.size), Nat.le_trans h.z hb.size⟩
/-- What a sweep gives. -/
def SwR (X : Nat → LE) (O : Nat → Bool) (q n : Nat) (w : World) (e : Ending) (w' : World) : Prop := ∃ P, SwP n X O P q ∧ PxR X P n w e w'
set_option maxRecDepth 100000 in
set_option maxHeartbeats 2000000 in
theorem sweep_any (oa : Option Addr) (n c now q : Nat) (most : Int) (X : Nat → LE) (w : World) (hX : CK 5 w oa n (leC X)) (hL : ∀ i, i < n → LES (X i)) (hk : ckB n X = true) (hm0 : -9223372036854775808 ≤ most) (hm1 : most ≤ 9223372036854775807) (hq : max 0 (min most ((fl (fun i => overB now (X i).u) n).length : Int)) = (q : Int)) :
    Calls Tryz.prog 29 #[.slice oa n c, .int .u64 (now : Int), .int .i64 most] w (SwR X (fun i => overB now (X i).u) q n w) := by
  have h32 : n ≤ 32 := (ck_parts hk).1
  obtain ⟨O, hO⟩ : ∃ O, (fun i => overB now (X i).u) = O := ⟨_, rfl⟩
  rw [hO] at hq ⊢
  have hOO : ∀ i, O i = overB now (X i).u := fun i => by rw [← hO]
  obtain ⟨g8, hg8⟩ : ∃ q, w.heap.size = q := ⟨_, rfl⟩
  obtain ⟨w1, hw1⟩ : ∃ y, w.alloc (.cells #[.slice none 0 0] 43) = y := ⟨_, rfl⟩
  have hb1 : Below w.heap.size w w1 := by rw [← hw1]; exact (Below.refl _ _).alloc (Nat.le_refl _) _
  have hI : OvJ X w g8 (fl O 0) (.slice none 0 0) w1 := ⟨KO.nil _ _ _ _ _, by rw [← hw1, ← hg8]; exact Blk.new _ _ _, hb1, by rw [← hw1, ← hg8]; simp⟩
  have HG8 := Lib.hid hg8
  have HI0 := Lib.hid hI
  have HX := Lib.hid hX
  have HOO := Lib.hid hOO
  have HQ := Lib.hid hq
  have H32 := Lib.hid h32
  have HLS := Lib.hid (And.intro hL hk)
  have hn0 : (n : Int) ≤ 32 := by omega
  clear hb1 hI hX hOO hO hq h32 hL hk
  go_enter Tryz.func29, Tryz.ntmps29
  go_wp2_with fail
  go_loopw [13] (fun v wr => ∃ (i : Nat) (va : Value), i ≤ n ∧ v = .int .i64 (i : Int) ∧ OvJ X w g8 (fl O i) va wr) (fun v _ => n - (intOf v).toNat)
  case atStart => exact ⟨0, _, Nat.zero_le _, rfl, HI0.out⟩
  case round =>
    obtain ⟨i, va, hi, rfl, hT⟩ := hrel
    have HT := Lib.hid hT
    clear hT
    by_cases hli : i < n
    · have i1 : (i : Int) < (n : Int) := by omega
      have i0 : (0 : Int) ≤ (i : Int) := by omega
      obtain ⟨j2, hj2⟩ : ∃ z, i + 1 = z := ⟨_, rfl⟩
      have k3 : (i : Int) + 1 = (j2 : Int) := by omega
      have k4 : IntKind.i64.wrap (j2 : Int) = (j2 : Int) := IntWalk.i64_in _ (by omega)
      have HI := Lib.hid (And.intro hli hj2)
      obtain ⟨b9, off, e, hrg⟩ := (HX.out.later HT.out.o) i hli
      subst e
      obtain ⟨C, hC⟩ : ∃ q, (leL (X i)).toArray = q := ⟨_, rfl⟩
      have HCE := Lib.hid hC
      have HSZ : Hid (C.size = 5) := Lib.hid (by rw [← hC]; rfl)
      have HON : Hid (C.all (·.oneCell') = true) := Lib.hid (by rw [← hC]; exact all_oneCell_toArray (leL_one _))
      have HIS : Hid ((Tryz.prog.info? 33).map (·.size) = some C.size) := Lib.hid (by rw [HSZ.out]; exact info_le)
      have HRG : Hid (wr.rangeAt b9 (off + i * 5) C.toList) := Lib.hid (by rw [← hC]; exact hrg)
      have HBS : Hid (∀ w, (Instr.buildSlice 43 1 #[(0, .agg C)]).run Tryz.prog w = .ok (.slice (some ⟨w.heap.size, 0, none⟩) 1 1) (w.alloc (.cells C 33))) := Lib.hid (by rw [← hC]; exact bs_le (X i))
      obtain ⟨b4, hqb4⟩ : ∃ y, wr.heap.size = y := ⟨_, rfl⟩
      obtain ⟨wz4, hwz4⟩ : ∃ y, wr.alloc (.cells zLE 33) = y := ⟨_, rfl⟩
      have hbz : Below wr.heap.size wr wz4 := by rw [← hwz4]; exact (Below.refl _ _).alloc (Nat.le_refl _) _
      have hXz : Blk wz4 b4 zLE 33 := by rw [← hwz4, ← hqb4]; exact Blk.new _ _ _
      have HTZ : Hid (wz4.there b4 0 C.size) := Lib.hid (hXz.there (by rw [HSZ.out]; exact Nat.le_refl _))
      obtain ⟨W5, hw5⟩ : ∃ y, wz4.setCells b4 0 C.toList = y := ⟨_, rfl⟩
      have hOz : Own b4 wz4 W5 := by rw [← hw5]; exact Own.setCells _ _ _
      have hbq : Below wr.heap.size wr W5 := hbz.trans (hOz.below (by omega) hbz.size)
      have HN5 : Hid (Blk W5 b4 C 33) := Lib.hid (by rw [← hw5]; exact Blk.setCells hXz C.toList (by rw [Array.length_toList]; exact HSZ.out))
      have HW5 := Lib.hid hw5
      have HT5 := Lib.hid (HT.out.later hbq)
      have HR5 : Hid (W5.rangeAt b4 0 C.toList) := Lib.hid (Blk.rangeA HN5.out)
      obtain ⟨u, hu⟩ : ∃ u, (X i).u = u := ⟨_, rfl⟩
      have c3 : W5.cell? ⟨b4, 3, none⟩ = some (.int .u64 (u : Int)) := by rw [← hu]; exact le_cell3 HN5.out hC
      have HOU := Lib.hid (over_any now u W5)
      rw [show overB now u = O i by rw [← hu]; exact (HOO.out i).symm] at HOU
      clear hi hli hj2 hrg hC hbz hXz hOz hw5 hbq hu
      go_wp2_with (first | (refine wpList_value rfl (exec_loadA (x := .tmp 15) (C := C) rfl rfl HRG.out Tryz.underlying33 rfl HIS.out) ?_) | (refine wpList_zero rfl rfl zero_le ?_; rw [hwz4, hqb4]; (try simp only [Act.put, zS])) | (refine wpList_store_mid rfl 33 (.tmp 10) (.tmp 16) rfl b4 0 C rfl rfl HTZ.out HIS.out HON.out ?_; rw [HW5.out]))
      refine HOU.out.mono ?_
      rintro e w6 ⟨rfl, hw6⟩
      rw [hw6]
      clear hw6
      cases ho : O i
      · as_aux_lemma =>
        have HOI := Lib.hid ho
        clear ho
        go_wp2_with fail
        go_roundw
        case rel => exact ⟨j2, _, by have := HI.out; omega, by first | rfl | go_num, by
          rw [← HI.out.2, fl_no HOI.out]; exact HT5.out⟩
        case measure => have := HI.out; simp [intOf] <;> omega
      · as_aux_lemma =>
        have HOI := Lib.hid ho
        clear ho
        have c8 : W5.cell? ⟨g8, 0, none⟩ = some va := by rw [Blk.cell HT5.out.c]; rfl
        obtain ⟨wy, hwy⟩ : ∃ y, W5.alloc (.cells C 33) = y := ⟨_, rfl⟩
        obtain ⟨g, hg⟩ : ∃ y, W5.heap.size = y := ⟨_, rfl⟩
        have hby : Below W5.heap.size W5 wy := by rw [← hwy]; exact (Below.refl _ _).alloc (Nat.le_refl _) _
        have HA : Hid (CK 5 wy (some ⟨g, 0, none⟩) 1 (fun _ => leL (X i))) := Lib.hid (CK.one (T := 33) (by rw [HCE.out, ← hwy, ← hg]; exact Blk.new _ _ _))
        have HTY := Lib.hid (HT5.out.later hby)
        have HLN : Hid ((fl O i).length ≤ i) := Lib.hid (fl_len O i)
        clear hby
        go_wp2_with (first | (refine wpList_value rfl (exec_loadA (x := .tmp 10) (C := C) rfl rfl HR5.out Tryz.underlying33 rfl HIS.out) ?_) | (refine wpList_bsK rfl 43 33 (.tmp 22) rfl (.agg C) C rfl HBS.out ?_; rw [hwy, hg]; (try simp only [Act.put, zS])) | (refine app_KB KTp rfl (.tmp 21) (.tmp 23) rfl (g8 + 1) va _ 1 1 _ (fun _ => leL (X i)) (some ⟨g, 0, none⟩) wy rfl HTY.out.row rfl HA.out ⟨fun _ => rfl, fun _ => leL_one _⟩ (fun e => by cases e) (by have := HI.out; have := H32.out; have := HLN.out; unfold maxLen; omega) (by have := HI.out; have := H32.out; have := HLN.out; omega) HTY.out.z ?_; intro v2 w2 hk2 hb2 hg2 ho2; obtain ⟨o2, cp2, hv2, -, -, -, -, -⟩ := hk2.out (PC.cat (leC_pc _) ⟨fun _ => rfl, fun _ => leL_one _⟩).1 (by decide); subst hv2; have HK2 := Lib.hid hk2; have HB2 := Lib.hid hb2; have c2 : w2.cell? ⟨g8, 0, none⟩ = some va := (by rw [Blk.cell (Blk.below HTY.out.c hb2 (by omega))]; rfl); have f2 : w2.frozen? ⟨g8, 0, none⟩ = false := Blk.free (Blk.below HTY.out.c hb2 (by omega)) _; clear hk2 hb2 hg2 ho2; (try simp only [Act.put, zS])))
        go_roundw
        case rel => exact ⟨j2, _, by have := HI.out; omega, by first | rfl | go_num, by
          have hO := (Own.refl g8 w2).set 0 (.slice o2 ((fl O i).length + 1) cp2)
          have hB8 := Blk.below HTY.out.c HB2.out (by omega)
          have hS := HTY.out.o.trans (HB2.out.mono (by have := HG8.out; omega))
          rw [← HI.out.2, fl_yes HOI.out]
          refine ⟨?_, hB8.set 0 (.slice o2 ((fl O i).length + 1) cp2), hS.trans (hO.below (by have := HG8.out; omega) hS.size), ?_⟩
          · rw [List.length_append, List.length_singleton]
            refine KO.own (KO.congr HK2.out fun q hq => ?_) hO (by omega)
            refine Eq.trans ?_ (ixL_app X _ i q hq)
            unfold catC leC catL; split <;> rfl
          · exact Nat.le_trans HTY.out.z (Nat.le_trans HB2.out.size hO.size)⟩
        case measure => have := HI.out; simp [intOf] <;> omega
    · obtain rfl : i = n := by omega
      clear hi hli
      obtain ⟨oc, cap, rfl, hnc, hcm, -, -, -⟩ := HT.out.row.out (fun _ => rfl) (by decide)
      have i1 : ¬ (i : Int) < (i : Int) := by omega
      have hl32 : (fl O i).length ≤ 32 := Nat.le_trans (fl_len O i) H32.out
      obtain ⟨m, hm⟩ : ∃ m, (fl O i).length = m := ⟨_, rfl⟩
      have HSO := Lib.hid (sort_ko X (fl O i) oc cap (g8 + 1) wr HT.out.row hl32 HT.out.z)
      have c8 : wr.cell? ⟨g8, 0, none⟩ = some (.slice oc m cap) := by rw [Blk.cell HT.out.c, hm]; rfl
      have HM := Lib.hid hm
      rw [hm] at HQ HSO hnc hl32
      have m1 := HQ.out
      have hqm : q ≤ m := by omega
      have m2 : (q : Int) ≤ (cap : Int) := by omega
      have m3 : (cap : Int) ≤ 9223372036854775807 := by unfold maxLen at hcm; omega
      have m4 : (m : Int) ≤ 32 := by omega
      have HQM := Lib.hid hqm
      clear hl32 hnc hcm hqm hm
      go_wp2_with fail
      refine HSO.out.mono ?_
      rintro e w3 ⟨rfl, D, hp3, hs3, ⟨g, hgb, ho3⟩, hck3⟩
      have hB3 : Blk w3 g8 #[.slice oc m cap] 43 := by
        have h9 := ho3.blk HT.out.c (by omega)
        rw [HM.out] at h9; exact h9
      have c83 : w3.cell? ⟨g8, 0, none⟩ = some (.slice oc m cap) := by rw [Blk.cell hB3]; rfl
      have f83 : w3.frozen? ⟨g8, 0, none⟩ = false := Blk.free hB3 _
      have hbw3 : Below w.heap.size w w3 := HT.out.o.trans (ho3.below (by have := HG8.out; omega) HT.out.o.size)
      obtain ⟨w4, hw4⟩ : ∃ y, w3.setCell ⟨g8, 0, none⟩ (.slice oc q cap) = y := ⟨_, rfl⟩
      have hO4 : Own g8 w3 w4 := by rw [← hw4]; exact (Own.refl g8 w3).set 0 _
      have hbw4 : Below w.heap.size w w4 := hbw3.trans (hO4.below (by have := HG8.out; omega) hbw3.size)
      have hB4 : Blk w4 g8 #[.slice oc q cap] 43 := by rw [← hw4]; exact hB3.set 0 _
      have hY4 : CK 5 w4 oc q (leC fun j => D[j]!) := fun j hj => hck3 g8 w4 (by omega) hO4 j (by have := HQM.out; omega)
      have hsw := swp_of (n := i) (q := q) (O := O) HLS.out.2 (d := ((fl O i).map X).toArray) (by simp) hp3 hs3 (by rw [HM.out]; exact HQM.out)
      have HSW := Lib.hid hsw
      have HF := Lib.hid (without_sw oa i c g8 X w4 (fun i => inB q (fun j => D[j]!) (X i)) (HX.out.later hbw4) (by have := H32.out; unfold maxLen; omega) HLS.out.1 HLS.out.2 fun w' hb i _ => s2_any (X i) g8 q cap oc (fun j => D[j]!) w' (Nat.lt_of_lt_of_le (Blk.lt hB4) hb.size) (cell_below hb (by rw [Blk.cell hB4]; rfl)) (hY4.later hb) (by have := HQM.out; unfold maxLen; omega))
      have HBW4 := Lib.hid hbw4
      clear hp3 hs3 hgb ho3 hck3 hB3 hbw3 hO4 hbw4 hB4 hY4 hsw
      go_wp2_with fail
      (try rw [hw4])
      refine HF.out.mono ?_
      rintro e w5 ⟨va, vb, rfl, hT⟩
      have HTT := Lib.hid hT
      clear hT
      go_wp2_with fail
      refine bodyPost_ret (v := .tuple #[va, vb]) (results_tmp2 (fn := Tryz.f29) (t := 6) (u := 7) rfl _ _ _) rfl ⟨_, HSW.out, PxR.of HTT.out HBW4.out⟩
end Go.Proofs.YtgfjlgaleddoaaaGreatDoor
