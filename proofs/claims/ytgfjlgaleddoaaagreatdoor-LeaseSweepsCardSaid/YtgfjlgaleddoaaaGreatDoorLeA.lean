/- Two leases swept, the one that ended first. -/
import Derived.Test.YtgfjlgaleddoaaaGreatDoorLe9
import Derived.Test.YtgfjlgaleddoaaaGreatDoorLe6
namespace Go.Proofs.YtgfjlgaleddoaaaGreatDoor
set_option linter.unusedVariables false
set_option linter.unusedSimpArgs false
open Go.RowKit Go.Sort
theorem KO.own {k : Nat} {T : TypeId} {w w' : World} {base b n : Nat} {v : Value} {C : Nat → List Value} (h : KO k T w base v n C) (hO : Own b w w') (hb : b < base) : KO k T w' base v n C := owns_own h hO hb
theorem KO.some {k : Nat} {T : TypeId} {w : World} {base n : Nat} {v : Value} {C : Nat → List Value} (h : KO k T w base v n C) (h0 : 0 < n) : ∃ g cap, v = .slice (some ⟨g, 0, none⟩) n cap ∧ base ≤ g ∧ g < w.heap.size := h.form h0
theorem holds2 {w : World} {base g cap : Nat} {X : Nat → LE} (h : KO 5 33 w base (.slice (some ⟨g, 0, none⟩) 2 cap) 2 (leC X)) : HoldsK leL 5 w g 0 #[X 0, X 1] := fun j hj => by
  have hj : j < 10 := by simpa using hj
  refine ⟨?_, World.ownsRow.frozenAt h _⟩
  rw [Nat.zero_add, World.ownsRow.cellAt h j (by omega)]
  rw [get_flatK _ _ _ _ (by simp; omega), show rws 2 (leC X) = leL (X 0) ++ leL (X 1) from by rw [rws_succ, rws_succ, rws_zero]; rfl]
  rcases (show j = 0 ∨ j = 1 ∨ j = 2 ∨ j = 3 ∨ j = 4 ∨ j = 5 ∨ j = 6 ∨ j = 7 ∨ j = 8 ∨ j = 9 by omega) with rfl | rfl | rfl | rfl | rfl | rfl | rfl | rfl | rfl | rfl <;> first | rfl | (simp [leL]; done)
theorem ck_holds {w : World} {g : Nat} {d : Array LE} {m : Nat} (h : HoldsK leL 5 w g 0 d) (hm : m ≤ d.size) : CK 5 w (some ⟨g, 0, none⟩) m (leC fun i => d[i]!) := fun i hi => ⟨g, 0, rfl, fun j v hv => by
  have hj : j < 5 := (List.getElem?_eq_some_iff.1 hv).1
  have h9 := (HoldsK.cell (h := h) (i := i) (c := j) (by omega) hj).1
  rw [h9]
  unfold leC at hv
  rw [List.getElem!_eq_getElem?_getD, hv]; rfl⟩
/-- While what is over comes. -/
structure OvI (X : Nat → LE) (w : World) (g8 i : Nat) (va : Value) (A : World) : Prop where
  row : KO 5 33 A (g8 + 1) va i (leC X)
  c : Blk A g8 #[va] 43
  o : Below w.heap.size w A
  z : g8 + 1 ≤ A.heap.size
set_option maxRecDepth 100000 in
set_option maxHeartbeats 2000000 in
theorem sweep2 (oa : Option Addr) (c now : Nat) (X : Nat → LE) (w : World) (hX : CK 5 w oa 2 (leC X)) (hL : ∀ i, i < 2 → LES (X i)) (hk : ckB 2 X = true) (ho : ∀ i, i < 2 → overB now (X i).u = true) (hc : cfL (X 1) (X 0) < 0) :
    Calls Tryz.prog 29 #[.slice oa 2 c, .int .u64 (now : Int), .int .i64 1] w (PxR X (fun i => inB 1 (fun _ => X 1) (X i)) 2 w) := by
  obtain ⟨g8, hg8⟩ : ∃ q, w.heap.size = q := ⟨_, rfl⟩
  obtain ⟨w1, hw1⟩ : ∃ y, w.alloc (.cells #[.slice none 0 0] 43) = y := ⟨_, rfl⟩
  have hb1 : Below w.heap.size w w1 := by rw [← hw1]; exact (Below.refl _ _).alloc (Nat.le_refl _) _
  have hI : OvI X w g8 0 (.slice none 0 0) w1 := ⟨KO.nil _ _ _ _ _, by rw [← hw1, ← hg8]; exact Blk.new _ _ _, hb1, by rw [← hw1, ← hg8]; simp⟩
  have HG8 := Lib.hid hg8
  have HI0 := Lib.hid hI
  have HX := Lib.hid hX
  have HOV := Lib.hid ho
  have HCF := Lib.hid hc
  have HLS := Lib.hid (And.intro hL hk)
  clear hb1 hI hX ho hc hL hk
  go_enter Tryz.func29, Tryz.ntmps29
  go_wp2_with fail
  go_loopw [13] (fun v wr => ∃ (i : Nat) (va : Value), i ≤ 2 ∧ v = .int .i64 (i : Int) ∧ OvI X w g8 i va wr) (fun v _ => 2 - (intOf v).toNat)
  case atStart => exact ⟨0, _, by omega, rfl, HI0.out⟩
  case round =>
    obtain ⟨i, va, hi, rfl, hT⟩ := hrel
    have HT := Lib.hid hT
    clear hT
    by_cases hli : i < 2
    · have i1 : (i : Int) < 2 := by omega
      have i0 : (0 : Int) ≤ (i : Int) := by omega
      obtain ⟨j2, hj2⟩ : ∃ z, i + 1 = z := ⟨_, rfl⟩
      have k3 : (i : Int) + 1 = (j2 : Int) := by omega
      have k4 : IntKind.i64.wrap (j2 : Int) = (j2 : Int) := IntWalk.i64_in _ (by omega)
      have HI := Lib.hid (And.intro hli hj2)
      obtain ⟨b9, off, e, hrg⟩ := (HX.out.later HT.out.o) i hli
      subst e
      obtain ⟨C, hC⟩ : ∃ q, (leL (X i)).toArray = q := ⟨_, rfl⟩
      have HCE := Lib.hid hC
      have HSZ : Hid (C.size = 5) := Lib.hid (by rw [← hC]; rfl)
      have HON : Hid (C.all (·.oneCell') = true) := Lib.hid (by rw [← hC]; exact all_oneCell_toArray (leL_one _))
      have HIS : Hid ((Tryz.prog.info? 33).map (·.size) = some C.size) := Lib.hid (by rw [HSZ.out]; exact info_le)
      have HRG : Hid (wr.rangeAt b9 (off + i * 5) C.toList) := Lib.hid (by rw [← hC]; exact hrg)
      have HBS : Hid (∀ w, (Instr.buildSlice 43 1 #[(0, .agg C)]).run Tryz.prog w = .ok (.slice (some ⟨w.heap.size, 0, none⟩) 1 1) (w.alloc (.cells C 33))) := Lib.hid (by rw [← hC]; exact bs_le (X i))
      obtain ⟨b4, hqb4⟩ : ∃ y, wr.heap.size = y := ⟨_, rfl⟩
      obtain ⟨wz4, hwz4⟩ : ∃ y, wr.alloc (.cells zLE 33) = y := ⟨_, rfl⟩
      have hbz : Below wr.heap.size wr wz4 := by rw [← hwz4]; exact (Below.refl _ _).alloc (Nat.le_refl _) _
      have hXz : Blk wz4 b4 zLE 33 := by rw [← hwz4, ← hqb4]; exact Blk.new _ _ _
      have HTZ : Hid (wz4.there b4 0 C.size) := Lib.hid (hXz.there (by rw [HSZ.out]; exact Nat.le_refl _))
      obtain ⟨W5, hw5⟩ : ∃ y, wz4.setCells b4 0 C.toList = y := ⟨_, rfl⟩
      have hOz : Own b4 wz4 W5 := by rw [← hw5]; exact Own.setCells _ _ _
      have hbq : Below wr.heap.size wr W5 := hbz.trans (hOz.below (by omega) hbz.size)
      have HN5 : Hid (Blk W5 b4 C 33) := Lib.hid (by rw [← hw5]; exact Blk.setCells hXz C.toList (by rw [Array.length_toList]; exact HSZ.out))
      have HW5 := Lib.hid hw5
      have HR5 : Hid (W5.rangeAt b4 0 C.toList) := Lib.hid (Blk.rangeA HN5.out)
      obtain ⟨u, hu⟩ : ∃ u, (X i).u = u := ⟨_, rfl⟩
      have c3 : W5.cell? ⟨b4, 3, none⟩ = some (.int .u64 (u : Int)) := by rw [← hu]; exact le_cell3 HN5.out hC
      have c8 : W5.cell? ⟨g8, 0, none⟩ = some va := by rw [Blk.cell (Blk.below HT.out.c hbq (Blk.lt HT.out.c))]; rfl
      have HOU := Lib.hid (over_any now u W5)
      rw [show overB now u = true by rw [← hu]; exact HOV.out i hli] at HOU
      obtain ⟨wy, hwy⟩ : ∃ y, W5.alloc (.cells C 33) = y := ⟨_, rfl⟩
      obtain ⟨g, hg⟩ : ∃ y, W5.heap.size = y := ⟨_, rfl⟩
      have hby : Below W5.heap.size W5 wy := by rw [← hwy]; exact (Below.refl _ _).alloc (Nat.le_refl _) _
      have hb2 : Below wr.heap.size wr wy := hbq.trans (hby.mono hbq.size)
      have HA : Hid (CK 5 wy (some ⟨g, 0, none⟩) 1 (fun _ => leL (X i))) := Lib.hid (CK.one (T := 33) (by rw [hC, ← hwy, ← hg]; exact Blk.new _ _ _))
      have HTY : Hid (OvI X w g8 i va wy) := Lib.hid ⟨HT.out.row.later hb2, Blk.below HT.out.c hb2 (Blk.lt HT.out.c), HT.out.o.trans (hb2.mono HT.out.o.size), Nat.le_trans HT.out.z hb2.size⟩
      clear hi hli hj2 hrg hC hbz hXz hOz hw5 hbq hu hby hb2
      go_wp2_with (first | (refine wpList_value rfl (exec_loadA (x := .tmp 15) (C := C) rfl rfl HRG.out Tryz.underlying33 rfl HIS.out) ?_) | (refine wpList_zero rfl rfl zero_le ?_; rw [hwz4, hqb4]; (try simp only [Act.put, zS])) | (refine wpList_store_mid rfl 33 (.tmp 10) (.tmp 16) rfl b4 0 C rfl rfl HTZ.out HIS.out HON.out ?_; rw [HW5.out]))
      refine HOU.out.mono ?_
      rintro e w6 ⟨rfl, hw6⟩
      rw [hw6]
      clear hw6
      go_wp2_with (first | (refine wpList_value rfl (exec_loadA (x := .tmp 10) (C := C) rfl rfl HR5.out Tryz.underlying33 rfl HIS.out) ?_) | (refine wpList_bsK rfl 43 33 (.tmp 22) rfl (.agg C) C rfl HBS.out ?_; rw [hwy, hg]; (try simp only [Act.put, zS])) | (refine app_KB KTp rfl (.tmp 21) (.tmp 23) rfl (g8 + 1) va i 1 1 _ (fun _ => leL (X i)) (some ⟨g, 0, none⟩) wy rfl HTY.out.row rfl HA.out ⟨fun _ => rfl, fun _ => leL_one _⟩ (fun e => by cases e) (by have := HI.out; unfold maxLen; omega) (by have := HI.out; omega) HTY.out.z ?_; intro v2 w2 hk2 hb2 hg2 ho2; obtain ⟨o2, cp2, hv2, -, -, -, -, -⟩ := hk2.out (PC.cat (leC_pc X) ⟨fun _ => rfl, fun _ => leL_one _⟩).1 (by decide); subst hv2; have HK2 := Lib.hid hk2; have HB2 := Lib.hid hb2; have c2 : w2.cell? ⟨g8, 0, none⟩ = some va := (by rw [Blk.cell (Blk.below HTY.out.c hb2 (by omega))]; rfl); have f2 : w2.frozen? ⟨g8, 0, none⟩ = false := Blk.free (Blk.below HTY.out.c hb2 (by omega)) _; clear hk2 hb2 hg2 ho2; (try simp only [Act.put, zS])))
      go_roundw
      case rel => exact ⟨j2, _, by have := HI.out; omega, by first | rfl | go_num, by
        have hO := (Own.refl g8 w2).set 0 (.slice o2 (i + 1) cp2)
        have hB8 := Blk.below HTY.out.c HB2.out (by omega)
        have hS := HTY.out.o.trans (HB2.out.mono (by have := HG8.out; omega))
        refine ⟨?_, hB8.set 0 (.slice o2 (i + 1) cp2), hS.trans (hO.below (by have := HG8.out; omega) hS.size), ?_⟩
        · rw [← HI.out.2]
          refine KO.own (KO.congr HK2.out fun q hq => ?_) hO (by omega)
          unfold catC
          by_cases e : q < i
          · rw [if_pos e]
          · rw [if_neg e]; obtain rfl : q = i := by omega
            rfl
        · exact Nat.le_trans HTY.out.z (Nat.le_trans HB2.out.size hO.size)⟩
      case measure => have := HI.out; simp [intOf] <;> omega
    · obtain rfl : i = 2 := by omega
      clear hi hli
      obtain ⟨o', c', hv', hnc, hcm, -, -, -⟩ := HT.out.row.out (fun _ => rfl) (by decide)
      obtain ⟨g, cap, rfl, hgb, hgl⟩ := HT.out.row.some (by decide)
      have hcc : c' = cap := by cases hv'; rfl
      rw [hcc] at hnc hcm
      clear hv' hcc
      have m1 : max (0 : Int) (min 1 2) = 1 := by decide
      have m2 : (1 : Int) ≤ (cap : Int) := by omega
      have m3 : (cap : Int) ≤ 9223372036854775807 := by unfold maxLen at hcm; omega
      have c8 : wr.cell? ⟨g8, 0, none⟩ = some (.slice (some ⟨g, 0, none⟩) 2 cap) := by rw [Blk.cell HT.out.c]; rfl
      have HGB := Lib.hid hgb
      have HSO := Lib.hid (sort_any g cap (X 0) (X 1) wr (holds2 HT.out.row) hgl HCF.out)
      clear hgb hgl
      go_wp2_with fail
      refine HSO.out.mono ?_
      rintro e w3 ⟨rfl, hh3, ho3⟩
      have hB3 : Blk w3 g8 #[.slice (some ⟨g, 0, none⟩) 2 cap] 43 := ho3.blk HT.out.c (by have := HGB.out; omega)
      have c83 : w3.cell? ⟨g8, 0, none⟩ = some (.slice (some ⟨g, 0, none⟩) 2 cap) := by rw [Blk.cell hB3]; rfl
      have f83 : w3.frozen? ⟨g8, 0, none⟩ = false := Blk.free hB3 _
      have hbw3 : Below w.heap.size w w3 := HT.out.o.trans (ho3.below (by have := HGB.out; have := HG8.out; omega) HT.out.o.size)
      obtain ⟨w4, hw4⟩ : ∃ y, w3.setCell ⟨g8, 0, none⟩ (.slice (some ⟨g, 0, none⟩) 1 cap) = y := ⟨_, rfl⟩
      have hO4 : Own g8 w3 w4 := by rw [← hw4]; exact (Own.refl g8 w3).set 0 _
      have hbw4 : Below w.heap.size w w4 := hbw3.trans (hO4.below (by have := HG8.out; omega) hbw3.size)
      have hB4 : Blk w4 g8 #[.slice (some ⟨g, 0, none⟩) 1 cap] 43 := by rw [← hw4]; exact hB3.set 0 _
      have hY4 : CK 5 w4 (some ⟨g, 0, none⟩) 1 (leC fun _ => X 1) := fun i hi => by
        obtain rfl : i = 0 := by omega
        obtain ⟨b, off, e, hr⟩ := ck_holds hh3 (m := 1) (by simp) 0 (by omega)
        cases e
        refine ⟨g, 0, rfl, fun j v hv => ?_⟩
        exact hO4.cell (hr j v hv) (by have := HGB.out; show g ≠ g8; omega)
      have HF := Lib.hid (without_sw oa 2 c g8 X w4 (fun i => inB 1 (fun _ => X 1) (X i)) (HX.out.later hbw4) (by unfold maxLen; omega) HLS.out.1 HLS.out.2 fun w' hb i _ => s2_any (X i) g8 1 cap (some ⟨g, 0, none⟩) (fun _ => X 1) w' (Nat.lt_of_lt_of_le (Blk.lt hB4) hb.size) (cell_below hb (by rw [Blk.cell hB4]; rfl)) (hY4.later hb) (by unfold maxLen; omega))
      have HBW4 := Lib.hid hbw4
      clear hh3 ho3 hB3 hbw3 hO4 hbw4 hB4 hY4
      go_wp2_with fail
      (try rw [hw4])
      refine HF.out.mono ?_
      rintro e w5 ⟨va, vb, rfl, hT⟩
      have HTT := Lib.hid hT
      clear hT
      go_wp2_with fail
      refine bodyPost_ret (v := .tuple #[va, vb]) (results_tmp2 (fn := Tryz.f29) (t := 6) (u := 7) rfl _ _ _) rfl (PxR.of HTT.out HBW4.out)
end Go.Proofs.YtgfjlgaleddoaaaGreatDoor
