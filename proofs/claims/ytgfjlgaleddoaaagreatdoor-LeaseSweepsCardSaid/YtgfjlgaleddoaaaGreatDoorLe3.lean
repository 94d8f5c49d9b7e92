/- Whether leases may be. -/
import Derived.Test.YtgfjlgaleddoaaaGreatDoorStp
import Derived.Test.YtgfjlgaleddoaaaGreatDoorLe2
import Derived.Test.YtgfjlgaleddoaaaGreatDoorGz
import Derived.Test.YtgfjlgaleddoaaaGreatDoorWrp
import Derived.Laws.Cover1
import Derived.Deep.RegionHeld
namespace Go.Proofs.YtgfjlgaleddoaaaGreatDoor
set_option linter.unusedVariables false
set_option linter.unusedSimpArgs false
open Go.RowKit
theorem exec_loadA {o : Oper} {a : Act} {w : World} {ty : TypeId} {x : Operand} {b f : Nat} {C : Array Value} {d : TypeDesc} (ho : o.op = .load ty x) (hx : a.eval x = .pointer (some ⟨b, f, none⟩)) (hc : w.rangeAt b f C.toList)
    (hu : Tryz.prog.underlying ty = some d) (hd : d.isRow = true) (hi : (Tryz.prog.info? ty).map (·.size) = some C.size) : (execOp a.eval o).run Tryz.prog w = .ok (.value (.agg C)) w :=
  exec_loadM (cs := C.toList) ho hx hc hu hd (by rw [hi]; simp)
theorem Blk.rangeA {w : World} {b : Nat} {C : Array Value} {t : TypeId} (h : Blk w b C t) : w.rangeAt b 0 C.toList := fun j v hv => by
  rw [Nat.zero_add, Blk.cell h j]; simpa using hv
def zLE : Array Value := #[.string ⟨#[]⟩, .string ⟨#[]⟩, .string ⟨#[]⟩, .int .u64 0, .int .u64 0]
theorem zero_le (w : World) : (zeroValue 33).run Tryz.prog w = .ok (.agg zLE) w := by kernel_rfl
theorem info_le : (Tryz.prog.info? 33).map (·.size) = some 5 := by kernel_rfl
def ltS (a b : ByteArray) : Bool := Op.bytesLess a.toList b.toList
def stepB (X : Nat → LE) (i : Nat) : Bool := mayL (X i) && (decide (i = 0) || ltS (X (i - 1)).id (X i).id)
def ckB (n : Nat) (X : Nat → LE) : Bool := decide (n ≤ 32) && (List.range n).all (stepB X)
def EA (b : Bool) : Value := if b then .nilIface else .iface 70 (.int .i64 1)
theorem ck_no {n i : Nat} {X : Nat → LE} (hi : i < n) (h : stepB X i = false) : ckB n X = false := by
  unfold ckB
  cases e : (List.range n).all (stepB X) with
  | false => simp
  | true => have := List.all_eq_true.1 e i (List.mem_range.2 hi); rw [h] at this; cases this
theorem ck_yes {n : Nat} {X : Nat → LE} (hn : n ≤ 32) (h : ∀ i, i < n → stepB X i = true) : ckB n X = true := by
  unfold ckB
  rw [decide_eq_true hn, List.all_eq_true.2 fun i hi => h i (List.mem_range.1 hi)]; rfl
theorem ck_big {n : Nat} {X : Nat → LE} (hn : 32 < n) : ckB n X = false := by unfold ckB; rw [decide_eq_false (by omega)]; rfl
set_option maxRecDepth 100000 in
set_option maxHeartbeats 600000 in
theorem check_any (oa : Option Addr) (n c : Nat) (X : Nat → LE) (w : World) (hX : CK 5 w oa n (leC X)) (hn : n ≤ maxLen) (hL : ∀ i, i < n → LES (X i)) :
    Calls Tryz.prog 15 #[.slice oa n c] w fun e w' => e = .returned (EA (ckB n X)) ∧ Below w.heap.size w w' := by
  unfold maxLen at hn
  have hn0 : (n : Int) ≤ 9223372036854775807 := by omega
  have HX := Lib.hid hX
  have HLS := Lib.hid hL
  clear hX hL
  by_cases h32 : n ≤ 32
  · have j1 : ¬ (32 : Int) < (n : Int) := by omega
    have H32 := Lib.hid h32
    clear h32 hn
    go_enter Tryz.func15, Tryz.ntmps15
    go_wp2_with fail
    go_loopw [11] (fun v wr => ∃ i : Nat, i ≤ n ∧ v = .int .i64 (i : Int) ∧ (∀ j, j < i → stepB X j = true) ∧ Below w.heap.size w wr) (fun v _ => n - (intOf v).toNat)
    case atStart => exact ⟨0, Nat.zero_le _, rfl, fun j hj => absurd hj (Nat.not_lt_zero _), Below.refl _ _⟩
    case round =>
      obtain ⟨i, hi, rfl, hJ, hbw⟩ := hrel
      have HJ := Lib.hid hJ
      have HBW := Lib.hid hbw
      clear hJ hbw
      by_cases hli : i < n
      · have i1 : (i : Int) < (n : Int) := by omega
        have i0 : (0 : Int) ≤ (i : Int) := by omega
        obtain ⟨j2, hj2⟩ : ∃ z, i + 1 = z := ⟨_, rfl⟩
        have k3 : (i : Int) + 1 = (j2 : Int) := by omega
        have k4 : IntKind.i64.wrap (j2 : Int) = (j2 : Int) := IntWalk.i64_in _ (by have := H32.out; omega)
        have HI := Lib.hid (And.intro hli hj2)
        obtain ⟨b, off, e, hrg⟩ := (HX.out.later HBW.out) i hli
        subst e
        obtain ⟨C, hC⟩ : ∃ q, (leL (X i)).toArray = q := ⟨_, rfl⟩
        have HCE := Lib.hid hC
        have HSZ : Hid (C.size = 5) := Lib.hid (by rw [← hC]; rfl)
        have HON : Hid (C.all (·.oneCell') = true) := Lib.hid (by rw [← hC]; exact all_oneCell_toArray (leL_one _))
        have HIS : Hid ((Tryz.prog.info? 33).map (·.size) = some C.size) := Lib.hid (by rw [HSZ.out]; exact info_le)
        have HRG : Hid (wr.rangeAt b (off + i * 5) C.toList) := Lib.hid (by rw [← hC]; exact hrg)
        obtain ⟨b4, hqb4⟩ : ∃ y, wr.heap.size = y := ⟨_, rfl⟩
        obtain ⟨wz4, hwz4⟩ : ∃ y, wr.alloc (.cells zLE 33) = y := ⟨_, rfl⟩
        have hbz : Below wr.heap.size wr wz4 := by rw [← hwz4]; exact (Below.refl _ _).alloc (Nat.le_refl _) _
        have hXz : Blk wz4 b4 zLE 33 := by rw [← hwz4, ← hqb4]; exact Blk.new _ _ _
        have HTZ : Hid (wz4.there b4 0 C.size) := Lib.hid (hXz.there (by rw [HSZ.out]; exact Nat.le_refl _))
        obtain ⟨W5, hw5⟩ : ∃ y, wz4.setCells b4 0 C.toList = y := ⟨_, rfl⟩
        have hOz : Own b4 wz4 W5 := by rw [← hw5]; exact Own.setCells _ _ _
        have hbq : Below wr.heap.size wr W5 := hbz.trans (hOz.below (by omega) hbz.size)
        have HN5 : Hid (Blk W5 b4 C 33) := Lib.hid (by rw [← hw5]; exact Blk.setCells hXz C.toList (by rw [Array.length_toList]; exact HSZ.out))
        have HW5 := Lib.hid hw5
        have HB5 := Lib.hid (HBW.out.trans (hbq.mono HBW.out.size))
        have HBQ := Lib.hid hbq
        have HM := Lib.hid (fun w => maybe_any (X i) w (HLS.out i hli))
        rw [show leL (X i) = C.toList by rw [← hC]] at HM
        rw [Array.toArray_toList] at HM
        clear hbz hXz hOz hw5 hbq hrg hC hi hli hj2
        cases hmb : mayL (X i)
        · as_aux_lemma =>
            have HMB := Lib.hid hmb
            simp only [hmb] at HM
            clear hmb
            go_wp2_with (first | (refine wpList_value rfl (exec_loadA (x := .tmp 14) (C := C) rfl rfl HRG.out Tryz.underlying33 rfl HIS.out) ?_) | (refine wpList_zero rfl rfl zero_le ?_; rw [hwz4, hqb4]; (try simp only [Act.put, zS])) | (refine wpList_store_mid rfl 33 (.tmp 4) (.tmp 15) rfl b4 0 C rfl rfl HTZ.out HIS.out HON.out ?_; rw [HW5.out]))
            have hSW0 : Blk W5.drew b4 C 33 := HN5.out.drew
            have HB0 := Lib.hid (HB5.out.drew)
            refine wp_region_held_drew (S := (fun X => Blk X b4 C 33)) (by kernel_rfl) ?_ (fun hHeld => ?_)
            · (try dsimp only)
              (first | assumption | (dsimp only; assumption))
            generalize W5.drew = W0 at *
            refine wT 0 ?_ rfl ?_ ?_
            rotate_left
            · intro wS hSw
              refine exec_loadA (x := .tmp 4) (C := C) ?_ ?_ (Blk.rangeA hSw) Tryz.underlying33 ?_ HIS.out <;> rfl
            (try simp only [Act.put, zS])
            refine wR [1] ?_
            refine aN rfl fun K hK => ?_
            go_simp
            (refine (HM.out W0).mono ?_; rintro e w6 ⟨rfl, hb6⟩; have HB6 := Lib.hid (HB0.out.trans (hb6.mono HB0.out.size)); have hSW6 : Blk w6 b4 C 33 := Blk.below hSW0 hb6 (Blk.lt hSW0); clear hb6 hSW0; skip)
            (try go_wp2_with fail)
            refine hK.out _ _ ?_ (fun hHeld => ?_)
            · (try dsimp only)
              (first | assumption | (dsimp only; assumption))
            clear hK K
            (try simp only [Act.put, zS])
            refine wT 2 ?_ rfl ?_ ?_
            rotate_left
            · intro wS hSw
              (try dsimp only at hSw)
              go_simp
              (try with_reducible rfl)
            (try simp only [Act.put, zS])
            refine wT 3 ?_ rfl ?_ ?_
            rotate_left
            · intro wS hSw
              (try dsimp only at hSw)
              go_simp
              (try with_reducible rfl)
            (try simp only [Act.put, zS])
            refine wU 4 rfl ?_
            (try simp only [Act.put, zS])
            refine wU 5 rfl ?_
            (try simp only [Act.put, zS])
            refine wU 6 rfl ?_
            (try simp only [Act.put, zS])
            refine wU 7 rfl ?_
            (try simp only [Act.put, zS])
            refine wU 8 rfl ?_
            (try simp only [Act.put, zS])
            refine wU 9 rfl ?_
            (try simp only [Act.put, zS])
            refine wU 10 rfl ?_
            (try simp only [Act.put, zS])
            refine wU 11 rfl ?_
            (try simp only [Act.put, zS])
            refine wU 12 rfl ?_
            (try simp only [Act.put, zS])
            refine wU 13 rfl ?_
            (try simp only [Act.put, zS])
            refine wU 14 rfl ?_
            (try simp only [Act.put, zS])
            refine wU 15 rfl ?_
            (try simp only [Act.put, zS])
            refine wU 16 rfl ?_
            (try simp only [Act.put, zS])
            refine wT 17 ?_ rfl ?_ ?_
            rotate_left
            · intro wS hSw
              (try dsimp only at hSw)
              go_simp
              (try with_reducible rfl)
            (try simp only [Act.put, zS])
            refine wpAnyH_done (by kernel_rfl) ?_ _
            go_wp2_with fail
            go_ret
            refine ⟨?_, HB6.out⟩
            rw [ck_no HI.out.1 (by unfold stepB; rw [HMB.out]; rfl)]; rfl
        · have HMB := Lib.hid hmb
          simp only [hmb] at HM
          clear hmb
          rcases Nat.eq_zero_or_pos i with h0 | h0
          · as_aux_lemma =>
            have i2 : ¬ (0 : Int) < (i : Int) := by omega
            have HZ := Lib.hid h0
            clear h0
            go_wp2_with (first | (refine wpList_value rfl (exec_loadA (x := .tmp 14) (C := C) rfl rfl HRG.out Tryz.underlying33 rfl HIS.out) ?_) | (refine wpList_zero rfl rfl zero_le ?_; rw [hwz4, hqb4]; (try simp only [Act.put, zS])) | (refine wpList_store_mid rfl 33 (.tmp 4) (.tmp 15) rfl b4 0 C rfl rfl HTZ.out HIS.out HON.out ?_; rw [HW5.out]))
            have hSW0 : Blk W5.drew b4 C 33 := HN5.out.drew
            have HB0 := Lib.hid (HB5.out.drew)
            refine wp_region_held_drew (S := (fun X => Blk X b4 C 33)) (by kernel_rfl) ?_ (fun hHeld => ?_)
            · (try dsimp only)
              (first | assumption | (dsimp only; assumption))
            generalize W5.drew = W0 at *
            refine wT 0 ?_ rfl ?_ ?_
            rotate_left
            · intro wS hSw
              refine exec_loadA (x := .tmp 4) (C := C) ?_ ?_ (Blk.rangeA hSw) Tryz.underlying33 ?_ HIS.out <;> rfl
            (try simp only [Act.put, zS])
            refine wR [1] ?_
            refine aN rfl fun K hK => ?_
            go_simp
            (refine (HM.out W0).mono ?_; rintro e w6 ⟨rfl, hb6⟩; have HB6 := Lib.hid (HB0.out.trans (hb6.mono HB0.out.size)); have hSW6 : Blk w6 b4 C 33 := Blk.below hSW0 hb6 (Blk.lt hSW0); clear hb6 hSW0; skip)
            (try go_wp2_with fail)
            refine hK.out _ _ ?_ (fun hHeld => ?_)
            · (try dsimp only)
              (first | assumption | (dsimp only; assumption))
            clear hK K
            (try simp only [Act.put, zS])
            refine wT 2 ?_ rfl ?_ ?_
            rotate_left
            · intro wS hSw
              (try dsimp only at hSw)
              go_simp
              (try with_reducible rfl)
            (try simp only [Act.put, zS])
            refine wT 3 ?_ rfl ?_ ?_
            rotate_left
            · intro wS hSw
              (try dsimp only at hSw)
              go_simp
              (try with_reducible rfl)
            (try simp only [Act.put, zS])
            refine wT 4 ?_ rfl ?_ ?_
            rotate_left
            · intro wS hSw
              (try dsimp only at hSw)
              go_simp
              (try with_reducible rfl)
            (try simp only [Act.put, zS])
            refine wT 5 (.bool false) rfl ?_ ?_
            · intro wS hSw
              (go_simp; first | done | (simp [i2]; done) | (exact HZ.out) | omega | (simp; omega) | (rw [decide_eq_false (by omega)]))
            (try simp only [Act.put, zS])
            refine wT 6 ?_ rfl ?_ ?_
            rotate_left
            · intro wS hSw
              (try dsimp only at hSw)
              go_simp
              (try with_reducible rfl)
            (try simp only [Act.put, zS])
            refine wU 7 rfl ?_
            (try simp only [Act.put, zS])
            refine wU 8 rfl ?_
            (try simp only [Act.put, zS])
            refine wU 9 rfl ?_
            (try simp only [Act.put, zS])
            refine wU 10 rfl ?_
            (try simp only [Act.put, zS])
            refine wU 11 rfl ?_
            (try simp only [Act.put, zS])
            refine wU 12 rfl ?_
            (try simp only [Act.put, zS])
            refine wU 13 rfl ?_
            (try simp only [Act.put, zS])
            refine wU 14 rfl ?_
            (try simp only [Act.put, zS])
            refine wU 15 rfl ?_
            (try simp only [Act.put, zS])
            refine wT 16 ?_ rfl ?_ ?_
            rotate_left
            · intro wS hSw
              (try dsimp only at hSw)
              go_simp
              (try with_reducible rfl)
            (try simp only [Act.put, zS])
            refine wT 17 ?_ rfl ?_ ?_
            rotate_left
            · intro wS hSw
              (try dsimp only at hSw)
              go_simp
              (try with_reducible rfl)
            (try simp only [Act.put, zS])
            refine wpAnyH_done (by kernel_rfl) ?_ _
            go_wp2_with fail
            go_roundw
            case rel => exact ⟨j2, by have := HI.out; omega, by first | rfl | go_num, fun j hj => by
              have h9 := HI.out
              have h8 := HZ.out
              obtain rfl : j = i := by omega
              unfold stepB; rw [HMB.out, HZ.out]; rfl, HB6.out⟩
            case measure => have := HI.out; simp [intOf] <;> omega
          · obtain ⟨p, hp⟩ : ∃ p, i = p + 1 := ⟨i - 1, by omega⟩
            have i2 : (0 : Int) < (i : Int) := by omega
            have i3 : (i : Int) - 1 = (p : Int) := by omega
            have i4 : IntKind.i64.wrap (p : Int) = (p : Int) := IntWalk.i64_in _ (by have := H32.out; have := HI.out; omega)
            have i5 : (0 : Int) ≤ (p : Int) := by omega
            have i6 : (p : Int) < (n : Int) := by omega
            obtain ⟨pid, hpid⟩ : ∃ q, (X p).id = q := ⟨_, rfl⟩
            obtain ⟨cid, hcid⟩ : ∃ q, (X i).id = q := ⟨_, rfl⟩
            have HCI := Lib.hid hcid
            have HPI := Lib.hid hpid
            have HI7 := Lib.hid hp
            have HPC : Hid (W5.cell? ⟨b, off + p * 5, none⟩ = some (.string pid)) := Lib.hid (by
              obtain ⟨b', off', e, hr⟩ := (HX.out.later HBW.out) p (by have := HI.out; omega)
              cases e
              have h9 := hr 0 (.string (X p).id) rfl
              rw [Nat.add_zero, hpid] at h9
              exact cell_below HBQ.out h9)
            clear h0 hpid hcid hp
            cases hl : ltS pid cid
            · as_aux_lemma =>
              have HLT := Lib.hid hl
              have hl2 : Op.bytesLess pid.toList cid.toList = false := hl
              clear hl
              go_wp2_with (first | (refine wpList_value rfl (exec_loadA (x := .tmp 14) (C := C) rfl rfl HRG.out Tryz.underlying33 rfl HIS.out) ?_) | (refine wpList_zero rfl rfl zero_le ?_; rw [hwz4, hqb4]; (try simp only [Act.put, zS])) | (refine wpList_store_mid rfl 33 (.tmp 4) (.tmp 15) rfl b4 0 C rfl rfl HTZ.out HIS.out HON.out ?_; rw [HW5.out]))
              have hSW0 : (Blk W5.drew b4 C 33 ∧ W5.drew.cell? ⟨b, off + p * 5, none⟩ = some (.string pid)) := ⟨HN5.out.drew, by simpa using HPC.out⟩
              have HB0 := Lib.hid (HB5.out.drew)
              refine wp_region_held_drew (S := (fun X => Blk X b4 C 33 ∧ X.cell? ⟨b, off + p * 5, none⟩ = some (.string pid))) (by kernel_rfl) ?_ (fun hHeld => ?_)
              · (try dsimp only)
                (first | assumption | (dsimp only; assumption))
              generalize W5.drew = W0 at *
              refine wT 0 ?_ rfl ?_ ?_
              rotate_left
              · intro wS hSw
                refine exec_loadA (x := .tmp 4) (C := C) ?_ ?_ (Blk.rangeA hSw.1) Tryz.underlying33 ?_ HIS.out <;> rfl
              (try simp only [Act.put, zS])
              refine wR [1] ?_
              refine aN rfl fun K hK => ?_
              go_simp
              (refine (HM.out W0).mono ?_; rintro e w6 ⟨rfl, hb6⟩; have HB6 := Lib.hid (HB0.out.trans (hb6.mono HB0.out.size)); have hSW6 : (Blk w6 b4 C 33 ∧ w6.cell? ⟨b, off + p * 5, none⟩ = some (.string pid)) := ⟨Blk.below hSW0.1 hb6 (Blk.lt hSW0.1), cell_below hb6 hSW0.2⟩; clear hb6 hSW0; skip)
              (try go_wp2_with fail)
              refine hK.out _ _ ?_ (fun hHeld => ?_)
              · (try dsimp only)
                (first | assumption | (dsimp only; assumption))
              clear hK K
              (try simp only [Act.put, zS])
              refine wT 2 ?_ rfl ?_ ?_
              rotate_left
              · intro wS hSw
                (try dsimp only at hSw)
                go_simp
                (try with_reducible rfl)
              (try simp only [Act.put, zS])
              refine wT 3 ?_ rfl ?_ ?_
              rotate_left
              · intro wS hSw
                (try dsimp only at hSw)
                go_simp
                (try with_reducible rfl)
              (try simp only [Act.put, zS])
              refine wT 4 ?_ rfl ?_ ?_
              rotate_left
              · intro wS hSw
                (try dsimp only at hSw)
                go_simp
                (try with_reducible rfl)
              (try simp only [Act.put, zS])
              refine wT 5 (.bool true) rfl ?_ ?_
              · intro wS hSw
                (go_simp; first | done | (simp [i2]; done) | (exact HZ.out) | omega | (simp; omega) | (rw [decide_eq_true (by omega)]))
              (try simp only [Act.put, zS])
              refine wT 6 ?_ rfl ?_ ?_
              rotate_left
              · intro wS hSw
                (try dsimp only at hSw)
                go_simp
                (try with_reducible rfl)
              (try simp only [Act.put, zS])
              refine wT 7 ?_ rfl ?_ ?_
              rotate_left
              · intro wS hSw
                (try dsimp only at hSw)
                go_simp
                (try with_reducible rfl)
              (try simp only [Act.put, zS])
              refine wT 8 ?_ rfl ?_ ?_
              rotate_left
              · intro wS hSw
                (try dsimp only at hSw)
                go_simp
                (try with_reducible rfl)
              (try simp only [Act.put, zS])
              refine wT 9 ?_ rfl ?_ ?_
              rotate_left
              · intro wS hSw
                (try dsimp only at hSw)
                go_simp
                (try with_reducible rfl)
              (try simp only [Act.put, zS])
              refine wT 10 ?_ rfl ?_ ?_
              rotate_left
              · intro wS hSw
                (try dsimp only at hSw)
                go_simp
                (try with_reducible rfl)
              (try simp only [Act.put, zS])
              refine wT 11 ?_ rfl ?_ ?_
              rotate_left
              · intro wS hSw
                (try dsimp only at hSw)
                go_simp
                (try with_reducible rfl)
              (try simp only [Act.put, zS])
              refine wT 12 ?_ rfl ?_ ?_
              rotate_left
              · intro wS hSw
                (have c := hSw.2; go_simp; (try with_reducible rfl))
              (try simp only [Act.put, zS])
              refine wT 13 ?_ rfl ?_ ?_
              rotate_left
              · intro wS hSw
                (try dsimp only at hSw)
                go_simp
                (try with_reducible rfl)
              (try simp only [Act.put, zS])
              refine wT 14 ?_ rfl ?_ ?_
              rotate_left
              · intro wS hSw
                (have c : wS.cell? ⟨b4, 0, none⟩ = some (.string cid) := (by rw [Blk.cell hSw.1, ← HCE.out, ← HCI.out]; rfl); go_simp; (try with_reducible rfl))
              (try simp only [Act.put, zS])
              refine wT 15 ?_ rfl ?_ ?_
              rotate_left
              · intro wS hSw
                (try dsimp only at hSw)
                go_simp
                (try with_reducible rfl)
              (try simp only [Act.put, zS])
              refine wT 16 ?_ rfl ?_ ?_
              rotate_left
              · intro wS hSw
                (try dsimp only at hSw)
                go_simp
                (try with_reducible rfl)
              (try simp only [Act.put, zS])
              refine wT 17 ?_ rfl ?_ ?_
              rotate_left
              · intro wS hSw
                (try dsimp only at hSw)
                go_simp
                (try with_reducible rfl)
              (try simp only [Act.put, zS])
              refine wpAnyH_done (by kernel_rfl) ?_ _
              go_wp2_with fail
              go_ret
              refine ⟨?_, HB6.out⟩
              rw [ck_no HI.out.1 (by unfold stepB; have h9 := HI7.out; rw [show i - 1 = p by omega, HMB.out, HPI.out, HCI.out, HLT.out, decide_eq_false (by omega)]; rfl)]; rfl
            · as_aux_lemma =>
              have HLT := Lib.hid hl
              have hl2 : Op.bytesLess pid.toList cid.toList = true := hl
              clear hl
              go_wp2_with (first | (refine wpList_value rfl (exec_loadA (x := .tmp 14) (C := C) rfl rfl HRG.out Tryz.underlying33 rfl HIS.out) ?_) | (refine wpList_zero rfl rfl zero_le ?_; rw [hwz4, hqb4]; (try simp only [Act.put, zS])) | (refine wpList_store_mid rfl 33 (.tmp 4) (.tmp 15) rfl b4 0 C rfl rfl HTZ.out HIS.out HON.out ?_; rw [HW5.out]))
              have hSW0 : (Blk W5.drew b4 C 33 ∧ W5.drew.cell? ⟨b, off + p * 5, none⟩ = some (.string pid)) := ⟨HN5.out.drew, by simpa using HPC.out⟩
              have HB0 := Lib.hid (HB5.out.drew)
              refine wp_region_held_drew (S := (fun X => Blk X b4 C 33 ∧ X.cell? ⟨b, off + p * 5, none⟩ = some (.string pid))) (by kernel_rfl) ?_ (fun hHeld => ?_)
              · (try dsimp only)
                (first | assumption | (dsimp only; assumption))
              generalize W5.drew = W0 at *
              refine wT 0 ?_ rfl ?_ ?_
              rotate_left
              · intro wS hSw
                refine exec_loadA (x := .tmp 4) (C := C) ?_ ?_ (Blk.rangeA hSw.1) Tryz.underlying33 ?_ HIS.out <;> rfl
              (try simp only [Act.put, zS])
              refine wR [1] ?_
              refine aN rfl fun K hK => ?_
              go_simp
              (refine (HM.out W0).mono ?_; rintro e w6 ⟨rfl, hb6⟩; have HB6 := Lib.hid (HB0.out.trans (hb6.mono HB0.out.size)); have hSW6 : (Blk w6 b4 C 33 ∧ w6.cell? ⟨b, off + p * 5, none⟩ = some (.string pid)) := ⟨Blk.below hSW0.1 hb6 (Blk.lt hSW0.1), cell_below hb6 hSW0.2⟩; clear hb6 hSW0; skip)
              (try go_wp2_with fail)
              refine hK.out _ _ ?_ (fun hHeld => ?_)
              · (try dsimp only)
                (first | assumption | (dsimp only; assumption))
              clear hK K
              (try simp only [Act.put, zS])
              refine wT 2 ?_ rfl ?_ ?_
              rotate_left
              · intro wS hSw
                (try dsimp only at hSw)
                go_simp
                (try with_reducible rfl)
              (try simp only [Act.put, zS])
              refine wT 3 ?_ rfl ?_ ?_
              rotate_left
              · intro wS hSw
                (try dsimp only at hSw)
                go_simp
                (try with_reducible rfl)
              (try simp only [Act.put, zS])
              refine wT 4 ?_ rfl ?_ ?_
              rotate_left
              · intro wS hSw
                (try dsimp only at hSw)
                go_simp
                (try with_reducible rfl)
              (try simp only [Act.put, zS])
              refine wT 5 (.bool true) rfl ?_ ?_
              · intro wS hSw
                (go_simp; first | done | (simp [i2]; done) | (exact HZ.out) | omega | (simp; omega) | (rw [decide_eq_true (by omega)]))
              (try simp only [Act.put, zS])
              refine wT 6 ?_ rfl ?_ ?_
              rotate_left
              · intro wS hSw
                (try dsimp only at hSw)
                go_simp
                (try with_reducible rfl)
              (try simp only [Act.put, zS])
              refine wT 7 ?_ rfl ?_ ?_
              rotate_left
              · intro wS hSw
                (try dsimp only at hSw)
                go_simp
                (try with_reducible rfl)
              (try simp only [Act.put, zS])
              refine wT 8 ?_ rfl ?_ ?_
              rotate_left
              · intro wS hSw
                (try dsimp only at hSw)
                go_simp
                (try with_reducible rfl)
              (try simp only [Act.put, zS])
              refine wT 9 ?_ rfl ?_ ?_
              rotate_left
              · intro wS hSw
                (try dsimp only at hSw)
                go_simp
                (try with_reducible rfl)
              (try simp only [Act.put, zS])
              refine wT 10 ?_ rfl ?_ ?_
              rotate_left
              · intro wS hSw
                (try dsimp only at hSw)
                go_simp
                (try with_reducible rfl)
              (try simp only [Act.put, zS])
              refine wT 11 ?_ rfl ?_ ?_
              rotate_left
              · intro wS hSw
                (try dsimp only at hSw)
                go_simp
                (try with_reducible rfl)
              (try simp only [Act.put, zS])
              refine wT 12 ?_ rfl ?_ ?_
              rotate_left
              · intro wS hSw
                (have c := hSw.2; go_simp; (try with_reducible rfl))
              (try simp only [Act.put, zS])
              refine wT 13 ?_ rfl ?_ ?_
              rotate_left
              · intro wS hSw
                (try dsimp only at hSw)
                go_simp
                (try with_reducible rfl)
              (try simp only [Act.put, zS])
              refine wT 14 ?_ rfl ?_ ?_
              rotate_left
              · intro wS hSw
                (have c : wS.cell? ⟨b4, 0, none⟩ = some (.string cid) := (by rw [Blk.cell hSw.1, ← HCE.out, ← HCI.out]; rfl); go_simp; (try with_reducible rfl))
              (try simp only [Act.put, zS])
              refine wT 15 ?_ rfl ?_ ?_
              rotate_left
              · intro wS hSw
                (try dsimp only at hSw)
                go_simp
                (try with_reducible rfl)
              (try simp only [Act.put, zS])
              refine wT 16 ?_ rfl ?_ ?_
              rotate_left
              · intro wS hSw
                (try dsimp only at hSw)
                go_simp
                (try with_reducible rfl)
              (try simp only [Act.put, zS])
              refine wT 17 ?_ rfl ?_ ?_
              rotate_left
              · intro wS hSw
                (try dsimp only at hSw)
                go_simp
                (try with_reducible rfl)
              (try simp only [Act.put, zS])
              refine wpAnyH_done (by kernel_rfl) ?_ _
              go_wp2_with fail
              go_roundw
              case rel => exact ⟨j2, by have := HI.out; omega, by first | rfl | go_num, fun j hj => by
                have h9 := HI.out
                by_cases e : j < i
                · exact HJ.out j e
                · obtain rfl : j = i := by omega
                  unfold stepB; have h8 := HI7.out; rw [show j - 1 = p by omega, HMB.out, HPI.out, HCI.out, HLT.out]; simp, HB6.out⟩
              case measure => have := HI.out; simp [intOf] <;> omega
      · obtain rfl : i = n := by omega
        have i1 : ¬ (i : Int) < (i : Int) := by omega
        clear hi hli
        go_wp2_with fail
        go_ret
        refine ⟨?_, HBW.out⟩
        rw [ck_yes H32.out HJ.out]; rfl
  · have j1 : (32 : Int) < (n : Int) := by omega
    have H32 := Lib.hid h32
    clear h32 hn
    go_enter Tryz.func15, Tryz.ntmps15
    go_wp2_with fail
    go_ret
    refine ⟨?_, Below.refl _ _⟩
    rw [ck_big (by have := H32.out; omega)]; rfl
end Go.Proofs.YtgfjlgaleddoaaaGreatDoor
