/- Leases that are too many or too long; leases without some. -/
import Derived.Test.YtgfjlgaleddoaaaGreatDoorLe4
namespace Go.Proofs.YtgfjlgaleddoaaaGreatDoor
set_option linter.unusedVariables false
set_option linter.unusedSimpArgs false
open Go.RowKit
def BigR (w : World) (e : Ending) (w' : World) : Prop := (∃ r, e = .returned (.bool r)) ∧ w' = w
set_option maxRecDepth 100000 in
set_option maxHeartbeats 2000000 in
theorem big_any (oa : Option Addr) (n c : Nat) (X : Nat → LE) (w : World) (hX : CK 5 w oa n (leC X)) (hn : n * 64 ≤ 140737488355328) (hL : ∀ i, i < n → LES (X i)) :
    Calls Tryz.prog 7 #[.slice oa n c] w (BigR w) := by
  have HX := Lib.hid hX
  have HN := Lib.hid hn
  have HL := Lib.hid hL
  have hn0 : (n : Int) ≤ 9223372036854775807 := by omega
  clear hX hn hL
  go_enter Tryz.func7, Tryz.ntmps7
  go_wp2_with fail
  go_loopw [3] (fun y wr => ∃ i : Nat, i ≤ n ∧ y = .int .i64 (i : Int) ∧ wr = w) (fun y _ => n - (intOf y).toNat)
  case atStart => exact ⟨0, Nat.zero_le _, rfl, rfl⟩
  case round =>
    obtain ⟨i, hi, rfl, hw⟩ := hrel
    subst wr
    by_cases hli : i < n
    · have i1 : (i : Int) < (n : Int) := by omega
      have i0 : (0 : Int) ≤ (i : Int) := by omega
      by_cases h40 : i < 40
      · have i2 : (i : Int) < 40 := by omega
        obtain ⟨j2, hj2⟩ : ∃ z, i + 1 = z := ⟨_, rfl⟩
        have k3 : (i : Int) + 1 = (j2 : Int) := by omega
        have k4 : IntKind.i64.wrap (j2 : Int) = (j2 : Int) := IntWalk.i64_in _ (by omega)
        have HI := Lib.hid (And.intro hli hj2)
        obtain ⟨b, off, e, hrg⟩ := HX.out i hli
        subst e
        obtain ⟨s0, h0⟩ : ∃ s, (X i).id = s := ⟨_, rfl⟩
        obtain ⟨s1, h1⟩ : ∃ s, (X i).tok = s := ⟨_, rfl⟩
        obtain ⟨s2, h2⟩ : ∃ s, (X i).pth = s := ⟨_, rfl⟩
        have c0 : w.cell? ⟨b, off + i * 5, none⟩ = some (.string s0) := by have := hrg 0 (.string (X i).id) rfl; rw [← h0]; exact this
        have c1 : w.cell? ⟨b, off + i * 5 + 1, none⟩ = some (.string s1) := by have := hrg 1 (.string (X i).tok) rfl; rw [← h1]; exact this
        have c2 : w.cell? ⟨b, off + i * 5 + 2, none⟩ = some (.string s2) := by have := hrg 2 (.string (X i).pth) rfl; rw [← h2]; exact this
        have b0 : (s0.size : Int) ≤ 9223372036854775807 := by have := (HL.out i hli).1; rw [h0] at this; unfold maxLen at this; omega
        have b1 : (s1.size : Int) ≤ 9223372036854775807 := by have := (HL.out i hli).2.1; rw [h1] at this; unfold maxLen at this; omega
        have b2 : (s2.size : Int) ≤ 9223372036854775807 := by have := (HL.out i hli).2.2.1; rw [h2] at this; unfold maxLen at this; omega
        clear hi hli hj2 hrg h0 h1 h2 h40
        rcases (show (200 : Int) < (s0.size : Int) ∨ ¬ (200 : Int) < (s0.size : Int) by omega) with g0 | g0
        · go_wp2_with fail
          go_ret
          exact ⟨⟨_, rfl⟩, rfl⟩
        · skip
          rcases (show (200 : Int) < (s1.size : Int) ∨ ¬ (200 : Int) < (s1.size : Int) by omega) with g1 | g1
          · go_wp2_with fail
            go_ret
            exact ⟨⟨_, rfl⟩, rfl⟩
          · skip
            rcases (show (200 : Int) < (s2.size : Int) ∨ ¬ (200 : Int) < (s2.size : Int) by omega) with g2 | g2
            · go_wp2_with fail
              go_ret
              exact ⟨⟨_, rfl⟩, rfl⟩
            · skip
              go_wp2_with fail
              go_roundw
              case rel => exact ⟨j2, by have := HI.out; omega, by first | rfl | go_num, by first | trivial | rfl⟩
              case measure => have := HI.out; simp [intOf] <;> omega
      · have i2 : ¬ (i : Int) < 40 := by omega
        have j0 : (40 : Int) < (n : Int) ∨ ¬ (40 : Int) < (n : Int) := by omega
        clear hi hli h40
        go_wp2_with fail
        go_ret
        exact ⟨⟨_, rfl⟩, rfl⟩
    · obtain rfl : i = n := by omega
      have i1 : ¬ (i : Int) < (i : Int) := by omega
      clear hi hli
      go_wp2_with fail
      go_ret
      exact ⟨⟨_, rfl⟩, rfl⟩
def fl (P : Nat → Bool) (i : Nat) : List Nat := (List.range i).filter P
theorem fl_yes {P : Nat → Bool} {i : Nat} (h : P i = true) : fl P (i + 1) = fl P i ++ [i] := by unfold fl; rw [List.range_succ, List.filter_append]; simp [h]
theorem fl_no {P : Nat → Bool} {i : Nat} (h : P i = false) : fl P (i + 1) = fl P i := by unfold fl; rw [List.range_succ, List.filter_append]; simp [h]
theorem fl_len (P : Nat → Bool) (i : Nat) : (fl P i).length ≤ i := by unfold fl; have := List.length_filter_le P (List.range i); rw [List.length_range] at this; exact this
def nt (P : Nat → Bool) : Nat → Bool := fun j => !P j
theorem nt_t {P : Nat → Bool} {i : Nat} (h : P i = true) : nt P i = false := by unfold nt; rw [h]; rfl
theorem nt_f {P : Nat → Bool} {i : Nat} (h : P i = false) : nt P i = true := by unfold nt; rw [h]; rfl
def WoR (X : Nat → LE) (P : Nat → Bool) (n : Nat) (w : World) (e : Ending) (w' : World) : Prop := ∃ va vb, e = .returned (.tuple #[va, vb]) ∧ TR X w (fl (nt P) n) (fl P n) va vb w'
theorem KO.atS {w : World} {g : Nat} {C : Array Value} (h : Blk w g C 33) {x : LE} (hc : (leL x).toArray = C) : w.cell? ⟨g, 0, none⟩ = some (.string x.id) := by rw [Blk.cell h, ← hc]; rfl
set_option maxRecDepth 100000 in
set_option maxHeartbeats 4000000 in
theorem without_px (oa : Option Addr) (n c b : Nat) (X : Nat → LE) (w : World) (P : Nat → Bool) (hX : CK 5 w oa n (leC X)) (hn : n ≤ maxLen) (hL : ∀ i, i < n → LES (X i)) (hc : ckB n X = true)
    (hP : ∀ w', Below w.heap.size w w' → ∀ i, i < n → Calls Tryz.prog 44 #[.agg (leL (X i)).toArray, .pointer (some ⟨b, 0, none⟩)] w' fun e w'' => e = .returned (.bool (P i)) ∧ Below w'.heap.size w' w'') :
    Calls Tryz.prog 43 #[.slice oa n c, .func (.func 44) #[] #[.pointer (some ⟨b, 0, none⟩)]] w (WoR X P n w) := by
  have HC := Lib.hid (fun w' (hb : Below w.heap.size w w') => check_any oa n c X w' (hX.later hb) hn hL)
  rw [hc] at HC
  rw [show EA true = .nilIface from rfl] at HC
  have h32 : n ≤ 32 := by unfold ckB at hc; simp at hc; exact hc.1
  have hn0 : (n : Int) ≤ 32 := by omega
  have HX := Lib.hid hX
  have HPP := Lib.hid hP
  have H32 := Lib.hid h32
  clear hX hn hL hc hP h32
  go_enter Tryz.func43, Tryz.ntmps43
  go_wp2_with fail
  refine (HC.out w (Below.refl _ _)).mono ?_
  rintro e w1 ⟨rfl, hb⟩
  have HB1 := Lib.hid hb
  clear hb
  go_wp2_with fail
  go_loopw [6, 7, 17] (fun s t y wr => ∃ (i : Nat) (va vb : Value), i ≤ n ∧ y = .int .i64 (i : Int) ∧ va = s ∧ vb = t ∧ TR X w (fl (nt P) i) (fl P i) va vb wr) (fun _ _ y _ => n - (intOf y).toNat)
  case atStart => exact ⟨0, _, _, Nat.zero_le _, rfl, rfl, rfl, KO.nil _ _ _ _ _, KO.nil _ _ _ _ _, fun q hq => (by cases hq), HB1.out⟩
  case round =>
    obtain ⟨i, va, vb, hi, rfl, h1, h2, hT⟩ := hrel
    rw [← h1, ← h2]
    clear h1 h2
    have HT := Lib.hid hT
    clear hT
    by_cases hli : i < n
    · have i1 : (i : Int) < (n : Int) := by omega
      have i0 : (0 : Int) ≤ (i : Int) := by omega
      obtain ⟨j2, hj2⟩ : ∃ z, i + 1 = z := ⟨_, rfl⟩
      have k3 : (i : Int) + 1 = (j2 : Int) := by omega
      have k4 : IntKind.i64.wrap (j2 : Int) = (j2 : Int) := IntWalk.i64_in _ (by omega)
      have HI := Lib.hid (And.intro hli hj2)
      obtain ⟨b9, off, e, hrg⟩ := (HX.out.later HT.out.o) i hli
      subst e
      obtain ⟨C, hC⟩ : ∃ q, (leL (X i)).toArray = q := ⟨_, rfl⟩
      have HCE := Lib.hid hC
      have HSZ : Hid (C.size = 5) := Lib.hid (by rw [← hC]; rfl)
      have HON : Hid (C.all (·.oneCell') = true) := Lib.hid (by rw [← hC]; exact all_oneCell_toArray (leL_one _))
      have HIS : Hid ((Tryz.prog.info? 33).map (·.size) = some C.size) := Lib.hid (by rw [HSZ.out]; exact info_le)
      have HRG : Hid (wr.rangeAt b9 (off + i * 5) C.toList) := Lib.hid (by rw [← hC]; exact hrg)
      have HBS : Hid (∀ w, (Instr.buildSlice 43 1 #[(0, .agg C)]).run Tryz.prog w = .ok (.slice (some ⟨w.heap.size, 0, none⟩) 1 1) (w.alloc (.cells C 33))) := Lib.hid (by rw [← hC]; exact bs_le (X i))
      obtain ⟨b4, hqb4⟩ : ∃ y, wr.heap.size = y := ⟨_, rfl⟩
      obtain ⟨wz4, hwz4⟩ : ∃ y, wr.alloc (.cells zLE 33) = y := ⟨_, rfl⟩
      have hbz : Below wr.heap.size wr wz4 := by rw [← hwz4]; exact (Below.refl _ _).alloc (Nat.le_refl _) _
      have hXz : Blk wz4 b4 zLE 33 := by rw [← hwz4, ← hqb4]; exact Blk.new _ _ _
      have HTZ : Hid (wz4.there b4 0 C.size) := Lib.hid (hXz.there (by rw [HSZ.out]; exact Nat.le_refl _))
      obtain ⟨W5, hw5⟩ : ∃ y, wz4.setCells b4 0 C.toList = y := ⟨_, rfl⟩
      have hOz : Own b4 wz4 W5 := by rw [← hw5]; exact Own.setCells _ _ _
      have hbq : Below wr.heap.size wr W5 := hbz.trans (hOz.below (by omega) hbz.size)
      have HN5 : Hid (Blk W5 b4 C 33) := Lib.hid (by rw [← hw5]; exact Blk.setCells hXz C.toList (by rw [Array.length_toList]; exact HSZ.out))
      have HW5 := Lib.hid hw5
      have HBQ := Lib.hid hbq
      have HR5 : Hid (W5.rangeAt b4 0 C.toList) := Lib.hid (Blk.rangeA HN5.out)
      have HQ := Lib.hid (HPP.out W5 (HT.out.o.trans (hbq.mono HT.out.o.size)) i hli)
      rw [hC] at HQ
      clear hi hli hj2 hrg hC hbz hXz hOz hw5 hbq
      go_wp2_with (first | (refine wpList_value rfl (exec_loadA (x := .tmp 19) (C := C) rfl rfl HRG.out Tryz.underlying33 rfl HIS.out) ?_) | (refine wpList_zero rfl rfl zero_le ?_; rw [hwz4, hqb4]; (try simp only [Act.put, zS])) | (refine wpList_store_mid rfl 33 (.tmp 9) (.tmp 20) rfl b4 0 C rfl rfl HTZ.out HIS.out HON.out ?_; rw [HW5.out]) | (refine wpList_value rfl (exec_loadA (x := .tmp 9) (C := C) rfl rfl HR5.out Tryz.underlying33 rfl HIS.out) ?_))
      refine HQ.out.mono ?_
      rintro e w6 ⟨rfl, hb6⟩
      have HT6 := Lib.hid (HT.out.later (HBQ.out.trans (hb6.mono HBQ.out.size)))
      have HN6 := Lib.hid (Blk.below HN5.out hb6 (Blk.lt HN5.out))
      have HR6 := Lib.hid (Blk.rangeA HN6.out)
      clear hb6
      cases hp : P i
      · as_aux_lemma =>
        have HPI := Lib.hid hp
        clear hp
        obtain ⟨wy, hwy⟩ : ∃ y, w6.alloc (.cells C 33) = y := ⟨_, rfl⟩
        obtain ⟨g, hg⟩ : ∃ y, w6.heap.size = y := ⟨_, rfl⟩
        have hby : Below w6.heap.size w6 wy := by rw [← hwy]; exact (Below.refl _ _).alloc (Nat.le_refl _) _
        have HA : Hid (CK 5 wy (some ⟨g, 0, none⟩) 1 (fun _ => leL (X i))) := Lib.hid (CK.one (T := 33) (by rw [HCE.out, ← hwy, ← hg]; exact Blk.new _ _ _))
        have HTY := Lib.hid (HT6.out.later hby)
        clear hby
        go_wp2_with (first | (refine wpList_value rfl (exec_loadA (x := .tmp 9) (C := C) rfl rfl HR6.out Tryz.underlying33 rfl HIS.out) ?_) | (refine wpList_bsK rfl 43 33 (.tmp 30) rfl (.agg C) C rfl HBS.out ?_; rw [hwy, hg]; (try simp only [Act.put, zS])) | (refine app_KB KTp rfl (.tmp 29) (.tmp 31) rfl w.heap.size va _ 1 1 _ (fun _ => leL (X i)) (some ⟨g, 0, none⟩) wy rfl HTY.out.l rfl HA.out ⟨fun _ => rfl, fun _ => leL_one _⟩ (fun e => by cases e) (by have := HI.out; have := H32.out; have := fl_len (nt P) i; unfold maxLen; omega) (by have := HI.out; have := H32.out; have := fl_len (nt P) i; omega) HTY.out.o.size ?_; intro v2 w2 hk2 hb2 hg2 ho2; (try simp only [Act.put, zS])))
        go_roundw
        case rel => exact ⟨j2, _, _, by have := HI.out; omega, by first | rfl | go_num, rfl, rfl, by
          rw [← HI.out.2, fl_yes (nt_f HPI.out), fl_no HPI.out]
          exact HTY.out.growL hk2 hb2 hg2 ho2⟩
        case measure => have := HI.out; simp [intOf] <;> omega
      · as_aux_lemma =>
        have HPI := Lib.hid hp
        clear hp
        obtain ⟨s, hs⟩ : ∃ s, (X i).id = s := ⟨_, rfl⟩
        have HS := Lib.hid hs
        have c0 : w6.cell? ⟨b4, 0, none⟩ = some (.string s) := by rw [← hs]; exact KO.atS HN6.out HCE.out
        obtain ⟨wy, hwy⟩ : ∃ y, w6.alloc (.cells #[.string s] 9) = y := ⟨_, rfl⟩
        obtain ⟨g, hg⟩ : ∃ y, w6.heap.size = y := ⟨_, rfl⟩
        have hby : Below w6.heap.size w6 wy := by rw [← hwy]; exact (Below.refl _ _).alloc (Nat.le_refl _) _
        have HA : Hid (CK 1 wy (some ⟨g, 0, none⟩) 1 (fun _ => [.string (X i).id])) := Lib.hid (CK.one (T := 9) (by rw [hs, ← hwy, ← hg]; exact Blk.new _ _ _))
        have HTY := Lib.hid (HT6.out.later hby)
        clear hby hs
        go_wp2_with (first | (refine wpList_bsK rfl 42 9 (.tmp 26) rfl (.string s) #[.string s] rfl (bs_st s) ?_; rw [hwy, hg]; (try simp only [Act.put, zS])) | (refine app_KB KTs rfl (.tmp 24) (.tmp 27) rfl w.heap.size vb _ 1 1 _ (fun _ => [.string (X i).id]) (some ⟨g, 0, none⟩) wy rfl HTY.out.g rfl HA.out (stC_pc fun _ => (X i).id) (fun e => by cases e) (by have := HI.out; have := H32.out; have := fl_len P i; unfold maxLen; omega) (by have := HI.out; have := H32.out; have := fl_len P i; omega) HTY.out.o.size ?_; intro v2 w2 hk2 hb2 hg2 ho2; (try simp only [Act.put, zS])))
        go_roundw
        case rel => exact ⟨j2, _, _, by have := HI.out; omega, by first | rfl | go_num, rfl, rfl, by
          rw [← HI.out.2, fl_no (nt_t HPI.out), fl_yes HPI.out]
          exact HTY.out.growG hk2 hb2 hg2 ho2⟩
        case measure => have := HI.out; simp [intOf] <;> omega
    · obtain rfl : i = n := by omega
      have i1 : ¬ (i : Int) < (i : Int) := by omega
      clear hi hli
      go_wp2_with fail
      refine bodyPost_ret (v := .tuple #[va, vb]) (results_tmp2 (fn := Tryz.f43) (t := 4) (u := 5) rfl _ _ _) rfl ⟨va, vb, rfl, HT.out⟩
set_option maxRecDepth 100000 in
set_option maxHeartbeats 4000000 in
theorem without_of (oa : Option Addr) (n c b : Nat) (X : Nat → LE) (w : World) (P : Nat → Bool) (hX : CK 5 w oa n (leC X)) (hn : n ≤ maxLen) (hL : ∀ i, i < n → LES (X i)) (hc : ckB n X = true)
    (hP : ∀ w', Below w.heap.size w w' → ∀ i, i < n → Calls Tryz.prog 46 #[.agg (leL (X i)).toArray, .pointer (some ⟨b, 0, none⟩)] w' fun e w'' => e = .returned (.bool (P i)) ∧ Below w'.heap.size w' w'') :
    Calls Tryz.prog 43 #[.slice oa n c, .func (.func 46) #[] #[.pointer (some ⟨b, 0, none⟩)]] w (WoR X P n w) := by
  have HC := Lib.hid (fun w' (hb : Below w.heap.size w w') => check_any oa n c X w' (hX.later hb) hn hL)
  rw [hc] at HC
  rw [show EA true = .nilIface from rfl] at HC
  have h32 : n ≤ 32 := by unfold ckB at hc; simp at hc; exact hc.1
  have hn0 : (n : Int) ≤ 32 := by omega
  have HX := Lib.hid hX
  have HPP := Lib.hid hP
  have H32 := Lib.hid h32
  clear hX hn hL hc hP h32
  go_enter Tryz.func43, Tryz.ntmps43
  go_wp2_with fail
  refine (HC.out w (Below.refl _ _)).mono ?_
  rintro e w1 ⟨rfl, hb⟩
  have HB1 := Lib.hid hb
  clear hb
  go_wp2_with fail
  go_loopw [6, 7, 17] (fun s t y wr => ∃ (i : Nat) (va vb : Value), i ≤ n ∧ y = .int .i64 (i : Int) ∧ va = s ∧ vb = t ∧ TR X w (fl (nt P) i) (fl P i) va vb wr) (fun _ _ y _ => n - (intOf y).toNat)
  case atStart => exact ⟨0, _, _, Nat.zero_le _, rfl, rfl, rfl, KO.nil _ _ _ _ _, KO.nil _ _ _ _ _, fun q hq => (by cases hq), HB1.out⟩
  case round =>
    obtain ⟨i, va, vb, hi, rfl, h1, h2, hT⟩ := hrel
    rw [← h1, ← h2]
    clear h1 h2
    have HT := Lib.hid hT
    clear hT
    by_cases hli : i < n
    · have i1 : (i : Int) < (n : Int) := by omega
      have i0 : (0 : Int) ≤ (i : Int) := by omega
      obtain ⟨j2, hj2⟩ : ∃ z, i + 1 = z := ⟨_, rfl⟩
      have k3 : (i : Int) + 1 = (j2 : Int) := by omega
      have k4 : IntKind.i64.wrap (j2 : Int) = (j2 : Int) := IntWalk.i64_in _ (by omega)
      have HI := Lib.hid (And.intro hli hj2)
      obtain ⟨b9, off, e, hrg⟩ := (HX.out.later HT.out.o) i hli
      subst e
      obtain ⟨C, hC⟩ : ∃ q, (leL (X i)).toArray = q := ⟨_, rfl⟩
      have HCE := Lib.hid hC
      have HSZ : Hid (C.size = 5) := Lib.hid (by rw [← hC]; rfl)
      have HON : Hid (C.all (·.oneCell') = true) := Lib.hid (by rw [← hC]; exact all_oneCell_toArray (leL_one _))
      have HIS : Hid ((Tryz.prog.info? 33).map (·.size) = some C.size) := Lib.hid (by rw [HSZ.out]; exact info_le)
      have HRG : Hid (wr.rangeAt b9 (off + i * 5) C.toList) := Lib.hid (by rw [← hC]; exact hrg)
      have HBS : Hid (∀ w, (Instr.buildSlice 43 1 #[(0, .agg C)]).run Tryz.prog w = .ok (.slice (some ⟨w.heap.size, 0, none⟩) 1 1) (w.alloc (.cells C 33))) := Lib.hid (by rw [← hC]; exact bs_le (X i))
      obtain ⟨b4, hqb4⟩ : ∃ y, wr.heap.size = y := ⟨_, rfl⟩
      obtain ⟨wz4, hwz4⟩ : ∃ y, wr.alloc (.cells zLE 33) = y := ⟨_, rfl⟩
      have hbz : Below wr.heap.size wr wz4 := by rw [← hwz4]; exact (Below.refl _ _).alloc (Nat.le_refl _) _
      have hXz : Blk wz4 b4 zLE 33 := by rw [← hwz4, ← hqb4]; exact Blk.new _ _ _
      have HTZ : Hid (wz4.there b4 0 C.size) := Lib.hid (hXz.there (by rw [HSZ.out]; exact Nat.le_refl _))
      obtain ⟨W5, hw5⟩ : ∃ y, wz4.setCells b4 0 C.toList = y := ⟨_, rfl⟩
      have hOz : Own b4 wz4 W5 := by rw [← hw5]; exact Own.setCells _ _ _
      have hbq : Below wr.heap.size wr W5 := hbz.trans (hOz.below (by omega) hbz.size)
      have HN5 : Hid (Blk W5 b4 C 33) := Lib.hid (by rw [← hw5]; exact Blk.setCells hXz C.toList (by rw [Array.length_toList]; exact HSZ.out))
      have HW5 := Lib.hid hw5
      have HBQ := Lib.hid hbq
      have HR5 : Hid (W5.rangeAt b4 0 C.toList) := Lib.hid (Blk.rangeA HN5.out)
      have HQ := Lib.hid (HPP.out W5 (HT.out.o.trans (hbq.mono HT.out.o.size)) i hli)
      rw [hC] at HQ
      clear hi hli hj2 hrg hC hbz hXz hOz hw5 hbq
      go_wp2_with (first | (refine wpList_value rfl (exec_loadA (x := .tmp 19) (C := C) rfl rfl HRG.out Tryz.underlying33 rfl HIS.out) ?_) | (refine wpList_zero rfl rfl zero_le ?_; rw [hwz4, hqb4]; (try simp only [Act.put, zS])) | (refine wpList_store_mid rfl 33 (.tmp 9) (.tmp 20) rfl b4 0 C rfl rfl HTZ.out HIS.out HON.out ?_; rw [HW5.out]) | (refine wpList_value rfl (exec_loadA (x := .tmp 9) (C := C) rfl rfl HR5.out Tryz.underlying33 rfl HIS.out) ?_))
      refine HQ.out.mono ?_
      rintro e w6 ⟨rfl, hb6⟩
      have HT6 := Lib.hid (HT.out.later (HBQ.out.trans (hb6.mono HBQ.out.size)))
      have HN6 := Lib.hid (Blk.below HN5.out hb6 (Blk.lt HN5.out))
      have HR6 := Lib.hid (Blk.rangeA HN6.out)
      clear hb6
      cases hp : P i
      · as_aux_lemma =>
        have HPI := Lib.hid hp
        clear hp
        obtain ⟨wy, hwy⟩ : ∃ y, w6.alloc (.cells C 33) = y := ⟨_, rfl⟩
        obtain ⟨g, hg⟩ : ∃ y, w6.heap.size = y := ⟨_, rfl⟩
        have hby : Below w6.heap.size w6 wy := by rw [← hwy]; exact (Below.refl _ _).alloc (Nat.le_refl _) _
        have HA : Hid (CK 5 wy (some ⟨g, 0, none⟩) 1 (fun _ => leL (X i))) := Lib.hid (CK.one (T := 33) (by rw [HCE.out, ← hwy, ← hg]; exact Blk.new _ _ _))
        have HTY := Lib.hid (HT6.out.later hby)
        clear hby
        go_wp2_with (first | (refine wpList_value rfl (exec_loadA (x := .tmp 9) (C := C) rfl rfl HR6.out Tryz.underlying33 rfl HIS.out) ?_) | (refine wpList_bsK rfl 43 33 (.tmp 30) rfl (.agg C) C rfl HBS.out ?_; rw [hwy, hg]; (try simp only [Act.put, zS])) | (refine app_KB KTp rfl (.tmp 29) (.tmp 31) rfl w.heap.size va _ 1 1 _ (fun _ => leL (X i)) (some ⟨g, 0, none⟩) wy rfl HTY.out.l rfl HA.out ⟨fun _ => rfl, fun _ => leL_one _⟩ (fun e => by cases e) (by have := HI.out; have := H32.out; have := fl_len (nt P) i; unfold maxLen; omega) (by have := HI.out; have := H32.out; have := fl_len (nt P) i; omega) HTY.out.o.size ?_; intro v2 w2 hk2 hb2 hg2 ho2; (try simp only [Act.put, zS])))
        go_roundw
        case rel => exact ⟨j2, _, _, by have := HI.out; omega, by first | rfl | go_num, rfl, rfl, by
          rw [← HI.out.2, fl_yes (nt_f HPI.out), fl_no HPI.out]
          exact HTY.out.growL hk2 hb2 hg2 ho2⟩
        case measure => have := HI.out; simp [intOf] <;> omega
      · as_aux_lemma =>
        have HPI := Lib.hid hp
        clear hp
        obtain ⟨s, hs⟩ : ∃ s, (X i).id = s := ⟨_, rfl⟩
        have HS := Lib.hid hs
        have c0 : w6.cell? ⟨b4, 0, none⟩ = some (.string s) := by rw [← hs]; exact KO.atS HN6.out HCE.out
        obtain ⟨wy, hwy⟩ : ∃ y, w6.alloc (.cells #[.string s] 9) = y := ⟨_, rfl⟩
        obtain ⟨g, hg⟩ : ∃ y, w6.heap.size = y := ⟨_, rfl⟩
        have hby : Below w6.heap.size w6 wy := by rw [← hwy]; exact (Below.refl _ _).alloc (Nat.le_refl _) _
        have HA : Hid (CK 1 wy (some ⟨g, 0, none⟩) 1 (fun _ => [.string (X i).id])) := Lib.hid (CK.one (T := 9) (by rw [hs, ← hwy, ← hg]; exact Blk.new _ _ _))
        have HTY := Lib.hid (HT6.out.later hby)
        clear hby hs
        go_wp2_with (first | (refine wpList_bsK rfl 42 9 (.tmp 26) rfl (.string s) #[.string s] rfl (bs_st s) ?_; rw [hwy, hg]; (try simp only [Act.put, zS])) | (refine app_KB KTs rfl (.tmp 24) (.tmp 27) rfl w.heap.size vb _ 1 1 _ (fun _ => [.string (X i).id]) (some ⟨g, 0, none⟩) wy rfl HTY.out.g rfl HA.out (stC_pc fun _ => (X i).id) (fun e => by cases e) (by have := HI.out; have := H32.out; have := fl_len P i; unfold maxLen; omega) (by have := HI.out; have := H32.out; have := fl_len P i; omega) HTY.out.o.size ?_; intro v2 w2 hk2 hb2 hg2 ho2; (try simp only [Act.put, zS])))
        go_roundw
        case rel => exact ⟨j2, _, _, by have := HI.out; omega, by first | rfl | go_num, rfl, rfl, by
          rw [← HI.out.2, fl_no (nt_t HPI.out), fl_yes HPI.out]
          exact HTY.out.growG hk2 hb2 hg2 ho2⟩
        case measure => have := HI.out; simp [intOf] <;> omega
    · obtain rfl : i = n := by omega
      have i1 : ¬ (i : Int) < (i : Int) := by omega
      clear hi hli
      go_wp2_with fail
      refine bodyPost_ret (v := .tuple #[va, vb]) (results_tmp2 (fn := Tryz.f43) (t := 4) (u := 5) rfl _ _ _) rfl ⟨va, vb, rfl, HT.out⟩
set_option maxRecDepth 100000 in
set_option maxHeartbeats 4000000 in
theorem without_sw (oa : Option Addr) (n c b : Nat) (X : Nat → LE) (w : World) (P : Nat → Bool) (hX : CK 5 w oa n (leC X)) (hn : n ≤ maxLen) (hL : ∀ i, i < n → LES (X i)) (hc : ckB n X = true)
    (hP : ∀ w', Below w.heap.size w w' → ∀ i, i < n → Calls Tryz.prog 63 #[.agg (leL (X i)).toArray, .pointer (some ⟨b, 0, none⟩)] w' fun e w'' => e = .returned (.bool (P i)) ∧ Below w'.heap.size w' w'') :
    Calls Tryz.prog 43 #[.slice oa n c, .func (.func 63) #[] #[.pointer (some ⟨b, 0, none⟩)]] w (WoR X P n w) := by
  have HC := Lib.hid (fun w' (hb : Below w.heap.size w w') => check_any oa n c X w' (hX.later hb) hn hL)
  rw [hc] at HC
  rw [show EA true = .nilIface from rfl] at HC
  have h32 : n ≤ 32 := by unfold ckB at hc; simp at hc; exact hc.1
  have hn0 : (n : Int) ≤ 32 := by omega
  have HX := Lib.hid hX
  have HPP := Lib.hid hP
  have H32 := Lib.hid h32
  clear hX hn hL hc hP h32
  go_enter Tryz.func43, Tryz.ntmps43
  go_wp2_with fail
  refine (HC.out w (Below.refl _ _)).mono ?_
  rintro e w1 ⟨rfl, hb⟩
  have HB1 := Lib.hid hb
  clear hb
  go_wp2_with fail
  go_loopw [6, 7, 17] (fun s t y wr => ∃ (i : Nat) (va vb : Value), i ≤ n ∧ y = .int .i64 (i : Int) ∧ va = s ∧ vb = t ∧ TR X w (fl (nt P) i) (fl P i) va vb wr) (fun _ _ y _ => n - (intOf y).toNat)
  case atStart => exact ⟨0, _, _, Nat.zero_le _, rfl, rfl, rfl, KO.nil _ _ _ _ _, KO.nil _ _ _ _ _, fun q hq => (by cases hq), HB1.out⟩
  case round =>
    obtain ⟨i, va, vb, hi, rfl, h1, h2, hT⟩ := hrel
    rw [← h1, ← h2]
    clear h1 h2
    have HT := Lib.hid hT
    clear hT
    by_cases hli : i < n
    · have i1 : (i : Int) < (n : Int) := by omega
      have i0 : (0 : Int) ≤ (i : Int) := by omega
      obtain ⟨j2, hj2⟩ : ∃ z, i + 1 = z := ⟨_, rfl⟩
      have k3 : (i : Int) + 1 = (j2 : Int) := by omega
      have k4 : IntKind.i64.wrap (j2 : Int) = (j2 : Int) := IntWalk.i64_in _ (by omega)
      have HI := Lib.hid (And.intro hli hj2)
      obtain ⟨b9, off, e, hrg⟩ := (HX.out.later HT.out.o) i hli
      subst e
      obtain ⟨C, hC⟩ : ∃ q, (leL (X i)).toArray = q := ⟨_, rfl⟩
      have HCE := Lib.hid hC
      have HSZ : Hid (C.size = 5) := Lib.hid (by rw [← hC]; rfl)
      have HON : Hid (C.all (·.oneCell') = true) := Lib.hid (by rw [← hC]; exact all_oneCell_toArray (leL_one _))
      have HIS : Hid ((Tryz.prog.info? 33).map (·.size) = some C.size) := Lib.hid (by rw [HSZ.out]; exact info_le)
      have HRG : Hid (wr.rangeAt b9 (off + i * 5) C.toList) := Lib.hid (by rw [← hC]; exact hrg)
      have HBS : Hid (∀ w, (Instr.buildSlice 43 1 #[(0, .agg C)]).run Tryz.prog w = .ok (.slice (some ⟨w.heap.size, 0, none⟩) 1 1) (w.alloc (.cells C 33))) := Lib.hid (by rw [← hC]; exact bs_le (X i))
      obtain ⟨b4, hqb4⟩ : ∃ y, wr.heap.size = y := ⟨_, rfl⟩
      obtain ⟨wz4, hwz4⟩ : ∃ y, wr.alloc (.cells zLE 33) = y := ⟨_, rfl⟩
      have hbz : Below wr.heap.size wr wz4 := by rw [← hwz4]; exact (Below.refl _ _).alloc (Nat.le_refl _) _
      have hXz : Blk wz4 b4 zLE 33 := by rw [← hwz4, ← hqb4]; exact Blk.new _ _ _
      have HTZ : Hid (wz4.there b4 0 C.size) := Lib.hid (hXz.there (by rw [HSZ.out]; exact Nat.le_refl _))
      obtain ⟨W5, hw5⟩ : ∃ y, wz4.setCells b4 0 C.toList = y := ⟨_, rfl⟩
      have hOz : Own b4 wz4 W5 := by rw [← hw5]; exact Own.setCells _ _ _
      have hbq : Below wr.heap.size wr W5 := hbz.trans (hOz.below (by omega) hbz.size)
      have HN5 : Hid (Blk W5 b4 C 33) := Lib.hid (by rw [← hw5]; exact Blk.setCells hXz C.toList (by rw [Array.length_toList]; exact HSZ.out))
      have HW5 := Lib.hid hw5
      have HBQ := Lib.hid hbq
      have HR5 : Hid (W5.rangeAt b4 0 C.toList) := Lib.hid (Blk.rangeA HN5.out)
      have HQ := Lib.hid (HPP.out W5 (HT.out.o.trans (hbq.mono HT.out.o.size)) i hli)
      rw [hC] at HQ
      clear hi hli hj2 hrg hC hbz hXz hOz hw5 hbq
      go_wp2_with (first | (refine wpList_value rfl (exec_loadA (x := .tmp 19) (C := C) rfl rfl HRG.out Tryz.underlying33 rfl HIS.out) ?_) | (refine wpList_zero rfl rfl zero_le ?_; rw [hwz4, hqb4]; (try simp only [Act.put, zS])) | (refine wpList_store_mid rfl 33 (.tmp 9) (.tmp 20) rfl b4 0 C rfl rfl HTZ.out HIS.out HON.out ?_; rw [HW5.out]) | (refine wpList_value rfl (exec_loadA (x := .tmp 9) (C := C) rfl rfl HR5.out Tryz.underlying33 rfl HIS.out) ?_))
      refine HQ.out.mono ?_
      rintro e w6 ⟨rfl, hb6⟩
      have HT6 := Lib.hid (HT.out.later (HBQ.out.trans (hb6.mono HBQ.out.size)))
      have HN6 := Lib.hid (Blk.below HN5.out hb6 (Blk.lt HN5.out))
      have HR6 := Lib.hid (Blk.rangeA HN6.out)
      clear hb6
      cases hp : P i
      · as_aux_lemma =>
        have HPI := Lib.hid hp
        clear hp
        obtain ⟨wy, hwy⟩ : ∃ y, w6.alloc (.cells C 33) = y := ⟨_, rfl⟩
        obtain ⟨g, hg⟩ : ∃ y, w6.heap.size = y := ⟨_, rfl⟩
        have hby : Below w6.heap.size w6 wy := by rw [← hwy]; exact (Below.refl _ _).alloc (Nat.le_refl _) _
        have HA : Hid (CK 5 wy (some ⟨g, 0, none⟩) 1 (fun _ => leL (X i))) := Lib.hid (CK.one (T := 33) (by rw [HCE.out, ← hwy, ← hg]; exact Blk.new _ _ _))
        have HTY := Lib.hid (HT6.out.later hby)
        clear hby
        go_wp2_with (first | (refine wpList_value rfl (exec_loadA (x := .tmp 9) (C := C) rfl rfl HR6.out Tryz.underlying33 rfl HIS.out) ?_) | (refine wpList_bsK rfl 43 33 (.tmp 30) rfl (.agg C) C rfl HBS.out ?_; rw [hwy, hg]; (try simp only [Act.put, zS])) | (refine app_KB KTp rfl (.tmp 29) (.tmp 31) rfl w.heap.size va _ 1 1 _ (fun _ => leL (X i)) (some ⟨g, 0, none⟩) wy rfl HTY.out.l rfl HA.out ⟨fun _ => rfl, fun _ => leL_one _⟩ (fun e => by cases e) (by have := HI.out; have := H32.out; have := fl_len (nt P) i; unfold maxLen; omega) (by have := HI.out; have := H32.out; have := fl_len (nt P) i; omega) HTY.out.o.size ?_; intro v2 w2 hk2 hb2 hg2 ho2; (try simp only [Act.put, zS])))
        go_roundw
        case rel => exact ⟨j2, _, _, by have := HI.out; omega, by first | rfl | go_num, rfl, rfl, by
          rw [← HI.out.2, fl_yes (nt_f HPI.out), fl_no HPI.out]
          exact HTY.out.growL hk2 hb2 hg2 ho2⟩
        case measure => have := HI.out; simp [intOf] <;> omega
      · as_aux_lemma =>
        have HPI := Lib.hid hp
        clear hp
        obtain ⟨s, hs⟩ : ∃ s, (X i).id = s := ⟨_, rfl⟩
        have HS := Lib.hid hs
        have c0 : w6.cell? ⟨b4, 0, none⟩ = some (.string s) := by rw [← hs]; exact KO.atS HN6.out HCE.out
        obtain ⟨wy, hwy⟩ : ∃ y, w6.alloc (.cells #[.string s] 9) = y := ⟨_, rfl⟩
        obtain ⟨g, hg⟩ : ∃ y, w6.heap.size = y := ⟨_, rfl⟩
        have hby : Below w6.heap.size w6 wy := by rw [← hwy]; exact (Below.refl _ _).alloc (Nat.le_refl _) _
        have HA : Hid (CK 1 wy (some ⟨g, 0, none⟩) 1 (fun _ => [.string (X i).id])) := Lib.hid (CK.one (T := 9) (by rw [hs, ← hwy, ← hg]; exact Blk.new _ _ _))
        have HTY := Lib.hid (HT6.out.later hby)
        clear hby hs
        go_wp2_with (first | (refine wpList_bsK rfl 42 9 (.tmp 26) rfl (.string s) #[.string s] rfl (bs_st s) ?_; rw [hwy, hg]; (try simp only [Act.put, zS])) | (refine app_KB KTs rfl (.tmp 24) (.tmp 27) rfl w.heap.size vb _ 1 1 _ (fun _ => [.string (X i).id]) (some ⟨g, 0, none⟩) wy rfl HTY.out.g rfl HA.out (stC_pc fun _ => (X i).id) (fun e => by cases e) (by have := HI.out; have := H32.out; have := fl_len P i; unfold maxLen; omega) (by have := HI.out; have := H32.out; have := fl_len P i; omega) HTY.out.o.size ?_; intro v2 w2 hk2 hb2 hg2 ho2; (try simp only [Act.put, zS])))
        go_roundw
        case rel => exact ⟨j2, _, _, by have := HI.out; omega, by first | rfl | go_num, rfl, rfl, by
          rw [← HI.out.2, fl_no (nt_t HPI.out), fl_yes HPI.out]
          exact HTY.out.growG hk2 hb2 hg2 ho2⟩
        case measure => have := HI.out; simp [intOf] <;> omega
    · obtain rfl : i = n := by omega
      have i1 : ¬ (i : Int) < (i : Int) := by omega
      clear hi hli
      go_wp2_with fail
      refine bodyPost_ret (v := .tuple #[va, vb]) (results_tmp2 (fn := Tryz.f43) (t := 4) (u := 5) rfl _ _ _) rfl ⟨va, vb, rfl, HT.out⟩
end Go.Proofs.YtgfjlgaleddoaaaGreatDoor
