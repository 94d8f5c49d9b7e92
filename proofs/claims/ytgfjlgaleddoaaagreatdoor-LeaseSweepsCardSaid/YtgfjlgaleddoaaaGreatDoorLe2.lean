/- Split, Check of a path; whether a lease may be. -/
import Derived.Test.YtgfjlgaleddoaaaGreatDoorLe1
import Derived.WalkKit
namespace Go.Proofs.YtgfjlgaleddoaaaGreatDoor
set_option linter.unusedVariables false
set_option linter.unusedSimpArgs false
open Go.RowKit
def pathB (s : ByteArray) : Bool := decide (s.size ≤ 64) && decide (((cutN s + 1 : Nat) : Int) ≤ 6) && (cutL s).all nameB
def SplR (w : World) (s : ByteArray) (e : Ending) (w' : World) : Prop := Below w.heap.size w w' ∧
  ((pathB s = true ∧ Blk w' w.heap.size (cutB s) 9 ∧ e = .returned (.tuple #[.slice (some ⟨w.heap.size, 0, none⟩) (cutN s + 1) (cutN s + 1), .nilIface])) ∨ (pathB s = false ∧ e = .returned (.tuple #[.slice none 0 0, .iface 70 (.int .i64 4)])))
theorem cut_le (s : ByteArray) : cutN s ≤ s.size := Lib.countB_le sepS (by decide) s.size s (Nat.le_refl _)
set_option maxRecDepth 100000 in
set_option maxHeartbeats 8000000 in
theorem split_any (s : ByteArray) (w : World) (hm : s.size ≤ maxLen) : Calls Tryz.prog 89 #[.string s] w (SplR w s) := by
  have HC := Lib.hid (cut_any s w hm)
  have HS := Lib.hid hm
  go_enter Tryz.func89, Tryz.ntmps89
  go_wp2_with fail
  refine HC.out.mono ?_
  rintro e w1 (⟨h64, rfl, hw⟩ | ⟨h64, rfl, hw⟩)
  · rw [hw]
    obtain ⟨W, hW⟩ : ∃ W, w.alloc (.cells (cutB s) 9) = W := ⟨_, rfl⟩
    obtain ⟨g0, hg0⟩ : ∃ g, w.heap.size = g := ⟨_, rfl⟩
    have HB := Lib.hid (show Below w.heap.size w W from by rw [← hW]; exact (Below.refl _ _).alloc (Nat.le_refl _) _)
    have HK := Lib.hid (show Blk W g0 (cutB s) 9 from by rw [← hW, ← hg0]; exact Blk.new _ _ _)
    obtain ⟨k, hk⟩ : ∃ k, cutN s + 1 = k := ⟨_, rfl⟩
    have hk2 : k ≤ 65 := by have := cut_le s; omega
    have HKE := Lib.hid hk
    have H64 := Lib.hid h64
    rw [hW, hg0, hk]
    clear hw h64
    by_cases g : (k : Int) ≤ 6
    · have HG := Lib.hid g
      have hd : decide ((k : Int) ≤ 6) = true := decide_eq_true g
      rw [hd]
      clear hd hk
      go_wp2_with fail
      go_loopw [18] (fun v wr => ∃ i : Nat, i ≤ k ∧ v = .int .i64 (i : Int) ∧ (∀ j, j < i → nameB (pieceS s j) = true) ∧ wr = W) (fun v _ => k - (intOf v).toNat)
      case atStart => exact ⟨0, Nat.zero_le _, rfl, fun j hj => absurd hj (Nat.not_lt_zero _), rfl⟩
      case round =>
        obtain ⟨i, hi, rfl, hJ, hwr⟩ := hrel
        subst wr
        have HJ := Lib.hid hJ
        by_cases hli : i < k
        · have i1 : (i : Int) < (k : Int) := by omega
          obtain ⟨j2, hj2⟩ : ∃ z, i + 1 = z := ⟨_, rfl⟩
          have k3 : (i : Int) + 1 = (j2 : Int) := by omega
          have k4 : IntKind.i64.wrap (j2 : Int) = (j2 : Int) := IntWalk.i64_in _ (by omega)
          have HI := Lib.hid (And.intro hli hj2)
          obtain ⟨p, hp⟩ : ∃ p, pieceS s i = p := ⟨_, rfl⟩
          have HP := Lib.hid hp
          have c0 : W.cell? ⟨g0, i, none⟩ = some (.string p) := by
            rw [Blk.cell HK.out]; unfold cutB; rw [List.getElem?_toArray, piece_at s (by have := HKE.out; omega), hp]
          have hps : p.size ≤ 64 := by have h1 := piece_size s (i := i) (by have := HKE.out; omega); have := H64.out; rw [hp] at h1; omega
          have HN := Lib.hid (isname_any p W hps)
          clear hi hJ hli hj2 hp hps
          cases hb : nameB p
          · have HBn := Lib.hid hb
            rw [hb] at HN
            clear hb
            go_wp2_with (first | (refine HN.out.mono ?_; rintro e w2 ⟨rfl, hw2⟩; rw [hw2]; clear hw2) | fail)
            refine bodyPost_ret (v := .tuple #[.slice none 0 0, .iface 70 (.int .i64 4)]) (results_tmp2 (fn := Tryz.f89) (t := 2) (u := 3) rfl _ _ _) rfl ⟨HB.out, Or.inr ⟨?_, rfl⟩⟩
            unfold pathB
            cases ha : (cutL s).all nameB with
            | false => simp
            | true => have h9 := all_piece.1 ha i (by have := HI.out; have := HKE.out; omega); rw [HP.out, HBn.out] at h9; cases h9
          · have HBn := Lib.hid hb
            rw [hb] at HN
            clear hb
            go_wp2_with (first | (refine HN.out.mono ?_; rintro e w2 ⟨rfl, hw2⟩; rw [hw2]; clear hw2) | fail)
            go_roundw
            case rel => exact ⟨j2, by have := HI.out; omega, by first | rfl | go_num, fun j hj => by
              have h9 := HI.out
              by_cases e : j < i
              · exact HJ.out j e
              · obtain rfl : j = i := by omega
                rw [HP.out]; exact HBn.out, by first | trivial | rfl⟩
            case measure => have := HI.out; simp [intOf] <;> omega
        · obtain rfl : i = k := by omega
          have i1 : ¬ (i : Int) < (i : Int) := by omega
          clear hi hJ hli
          go_wp2_with fail
          refine bodyPost_ret (v := .tuple #[.slice (some ⟨g0, 0, none⟩) i i, .nilIface]) (results_tmp2 (fn := Tryz.f89) (t := 2) (u := 3) rfl _ _ _) rfl ⟨HB.out, Or.inl ⟨?_, by rw [hg0]; exact HK.out, by rw [hg0, HKE.out]⟩⟩
          unfold pathB
          rw [HKE.out, decide_eq_true H64.out, decide_eq_true HG.out, all_piece.2 fun j hj => HJ.out j (by rw [← HKE.out]; exact hj)]; rfl
    · have HG := Lib.hid g
      have hd : decide ((k : Int) ≤ 6) = false := decide_eq_false g
      rw [hd]
      clear hd hk
      go_wp2_with fail
      refine bodyPost_ret (v := .tuple #[.slice none 0 0, .iface 70 (.int .i64 4)]) (results_tmp2 (fn := Tryz.f89) (t := 2) (u := 3) rfl _ _ _) rfl ⟨HB.out, Or.inr ⟨?_, rfl⟩⟩
      unfold pathB
      rw [HKE.out, show decide ((k : Int) ≤ 6) = false from decide_eq_false (by have := HG.out; omega)]; simp
  · rw [hw]
    have HH := Lib.hid h64
    clear h64 hw
    go_wp2_with fail
    refine bodyPost_ret (v := .tuple #[.slice none 0 0, .iface 70 (.int .i64 4)]) (results_tmp2 (fn := Tryz.f89) (t := 2) (u := 3) rfl _ _ _) rfl ⟨Below.refl _ _, Or.inr ⟨?_, rfl⟩⟩
    unfold pathB
    rw [decide_eq_false (by have := HH.out; omega)]; rfl
def oneB (s : ByteArray) : Bool := pathB s && decide (cutN s = 0)
set_option maxRecDepth 100000 in
set_option maxHeartbeats 4000000 in
theorem lname_any (s : ByteArray) (w : World) (hm : s.size ≤ maxLen) : Calls Tryz.prog 65 #[.string s] w fun e w' => e = .returned (.bool (oneB s)) ∧ Below w.heap.size w w' := by
  have HC := Lib.hid (split_any s w hm)
  go_enter Tryz.func65, Tryz.ntmps65
  go_wp2_with fail
  refine HC.out.mono ?_
  rintro e w1 ⟨hb, (⟨hp, hk, rfl⟩ | ⟨hp, rfl⟩)⟩
  · have HB := Lib.hid (And.intro hb hp)
    obtain ⟨k, hk⟩ : ∃ k, cutN s + 1 = k := ⟨_, rfl⟩
    have HKE := Lib.hid hk
    rw [hk]
    clear hb hp hk
    go_wp2_with fail
    go_ret
    refine ⟨?_, HB.out.1⟩
    unfold oneB
    rw [HB.out.2]
    have h9 := HKE.out
    by_cases g : k = 1
    · rw [g, decide_eq_true (show cutN s = 0 by omega)]; rfl
    · rw [decide_eq_false (show ¬ cutN s = 0 by omega)]
      simp [show ¬ (k : Int) = 1 by omega, g]
  · have HB := Lib.hid (And.intro hb hp)
    clear hb hp
    go_wp2_with fail
    go_ret
    refine ⟨?_, HB.out.1⟩
    unfold oneB
    rw [HB.out.2]; rfl
def EB (b : Bool) : Value := if b then .nilIface else .iface 70 (.int .i64 4)
set_option maxRecDepth 100000 in
set_option maxHeartbeats 4000000 in
theorem pcheck_any (s : ByteArray) (w : World) (hm : s.size ≤ maxLen) : Calls Tryz.prog 66 #[.string s] w fun e w' => e = .returned (EB (pathB s)) ∧ Below w.heap.size w w' := by
  have HC := Lib.hid (split_any s w hm)
  go_enter Tryz.func66, Tryz.ntmps66
  go_wp2_with fail
  refine HC.out.mono ?_
  rintro e w1 ⟨hb, (⟨hp, hk, rfl⟩ | ⟨hp, rfl⟩)⟩ <;> (
    have HB := Lib.hid (And.intro hb hp)
    clear hb hp
    go_wp2_with fail
    go_ret
    refine ⟨?_, HB.out.1⟩
    unfold EB
    rw [HB.out.2]; rfl)
/-- Whether a lease may be. -/
def mayL (x : LE) : Bool := oneB x.id && oneB x.tok && pathB x.pth && decide (x.u ≤ x.m)
def LES (x : LE) : Prop := x.id.size ≤ maxLen ∧ x.tok.size ≤ maxLen ∧ x.pth.size ≤ maxLen ∧ x.u < 18446744073709551616 ∧ x.m < 18446744073709551616
theorem EBt : EB true = .nilIface := rfl
theorem EBf : EB false = .iface 70 (.int .i64 4) := rfl
theorem le_blk {w w' : World} {x : LE} {T : TypeId} (hb : Below (w.alloc (.cells (leL x).toArray T)).heap.size (w.alloc (.cells (leL x).toArray T)) w') : Blk w' w.heap.size (leL x).toArray T :=
  Blk.below (Blk.new _ _ _) hb (by simp)
theorem le_bel {w w' : World} {o : Obj} (hb : Below (w.alloc o).heap.size (w.alloc o) w') : Below w.heap.size w w' :=
  ((Below.refl _ _).alloc (Nat.le_refl _) _).trans (hb.mono (by simp))
set_option maxRecDepth 100000 in
set_option maxHeartbeats 8000000 in
theorem maybe_any (x : LE) (w : World) (hx : LES x) : Calls Tryz.prog 31 #[.agg (leL x).toArray] w fun e w' => e = .returned (.bool (mayL x)) ∧ Below w.heap.size w w' := by
  have HL := Lib.hid hx
  clear hx
  unfold leL
  go_enter Tryz.func31, Tryz.ntmps31
  cases hb0 : oneB x.id
  · have HB0 := Lib.hid hb0
    have HC0 := Lib.hid (fun w => lname_any x.id w HL.out.1)
    simp only [hb0] at HC0
    clear hb0
    go_wp2_with fail
    refine (HC0.out _).mono ?_
    rintro e w1 ⟨rfl, hb⟩
    have HV := Lib.hid (le_bel hb)
    have HK := Lib.hid (le_blk (x := x) hb)
    clear hb
    have c1 : w1.cell? ⟨w.heap.size, 1, none⟩ = some (.string x.tok) := by rw [Blk.cell HK.out]; rfl
    have c2 : w1.cell? ⟨w.heap.size, 2, none⟩ = some (.string x.pth) := by rw [Blk.cell HK.out]; rfl
    have c3 : w1.cell? ⟨w.heap.size, 3, none⟩ = some (.int .u64 (x.u : Int)) := by rw [Blk.cell HK.out]; rfl
    have c4 : w1.cell? ⟨w.heap.size, 4, none⟩ = some (.int .u64 (x.m : Int)) := by rw [Blk.cell HK.out]; rfl
    go_wp2_with fail
    go_ret
    exact ⟨by unfold mayL; rw [HB0.out]; first | rfl | simp, HV.out⟩
  · have HB0 := Lib.hid hb0
    have HC0 := Lib.hid (fun w => lname_any x.id w HL.out.1)
    simp only [hb0] at HC0
    clear hb0
    go_wp2_with fail
    refine (HC0.out _).mono ?_
    rintro e w1 ⟨rfl, hb⟩
    have HV := Lib.hid (le_bel hb)
    have HK := Lib.hid (le_blk (x := x) hb)
    clear hb
    have c1 : w1.cell? ⟨w.heap.size, 1, none⟩ = some (.string x.tok) := by rw [Blk.cell HK.out]; rfl
    have c2 : w1.cell? ⟨w.heap.size, 2, none⟩ = some (.string x.pth) := by rw [Blk.cell HK.out]; rfl
    have c3 : w1.cell? ⟨w.heap.size, 3, none⟩ = some (.int .u64 (x.u : Int)) := by rw [Blk.cell HK.out]; rfl
    have c4 : w1.cell? ⟨w.heap.size, 4, none⟩ = some (.int .u64 (x.m : Int)) := by rw [Blk.cell HK.out]; rfl
    cases hb1 : oneB x.tok
    · have HB1 := Lib.hid hb1
      have HC1 := Lib.hid (fun w => lname_any x.tok w HL.out.2.1)
      simp only [hb1] at HC1
      clear hb1
      go_wp2_with fail
      refine (HC1.out _).mono ?_
      rintro e w2 ⟨rfl, hb⟩
      replace HV := Lib.hid (HV.out.trans (hb.mono HV.out.size))
      replace HK := Lib.hid (Blk.below HK.out hb (Blk.lt HK.out))
      clear hb c1 c2 c3 c4
      have c1 : w2.cell? ⟨w.heap.size, 1, none⟩ = some (.string x.tok) := by rw [Blk.cell HK.out]; rfl
      have c2 : w2.cell? ⟨w.heap.size, 2, none⟩ = some (.string x.pth) := by rw [Blk.cell HK.out]; rfl
      have c3 : w2.cell? ⟨w.heap.size, 3, none⟩ = some (.int .u64 (x.u : Int)) := by rw [Blk.cell HK.out]; rfl
      have c4 : w2.cell? ⟨w.heap.size, 4, none⟩ = some (.int .u64 (x.m : Int)) := by rw [Blk.cell HK.out]; rfl
      go_wp2_with fail
      go_ret
      exact ⟨by unfold mayL; rw [HB0.out, HB1.out]; first | rfl | simp, HV.out⟩
    · have HB1 := Lib.hid hb1
      have HC1 := Lib.hid (fun w => lname_any x.tok w HL.out.2.1)
      simp only [hb1] at HC1
      clear hb1
      go_wp2_with fail
      refine (HC1.out _).mono ?_
      rintro e w2 ⟨rfl, hb⟩
      replace HV := Lib.hid (HV.out.trans (hb.mono HV.out.size))
      replace HK := Lib.hid (Blk.below HK.out hb (Blk.lt HK.out))
      clear hb c1 c2 c3 c4
      have c1 : w2.cell? ⟨w.heap.size, 1, none⟩ = some (.string x.tok) := by rw [Blk.cell HK.out]; rfl
      have c2 : w2.cell? ⟨w.heap.size, 2, none⟩ = some (.string x.pth) := by rw [Blk.cell HK.out]; rfl
      have c3 : w2.cell? ⟨w.heap.size, 3, none⟩ = some (.int .u64 (x.u : Int)) := by rw [Blk.cell HK.out]; rfl
      have c4 : w2.cell? ⟨w.heap.size, 4, none⟩ = some (.int .u64 (x.m : Int)) := by rw [Blk.cell HK.out]; rfl
      cases hb2 : pathB x.pth
      · have HB2 := Lib.hid hb2
        have HC2 := Lib.hid (fun w => pcheck_any x.pth w HL.out.2.2.1)
        simp only [hb2, EBt, EBf] at HC2
        clear hb2
        go_wp2_with fail
        refine (HC2.out _).mono ?_
        rintro e w3 ⟨rfl, hb⟩
        replace HV := Lib.hid (HV.out.trans (hb.mono HV.out.size))
        replace HK := Lib.hid (Blk.below HK.out hb (Blk.lt HK.out))
        clear hb c1 c2 c3 c4
        have c1 : w3.cell? ⟨w.heap.size, 1, none⟩ = some (.string x.tok) := by rw [Blk.cell HK.out]; rfl
        have c2 : w3.cell? ⟨w.heap.size, 2, none⟩ = some (.string x.pth) := by rw [Blk.cell HK.out]; rfl
        have c3 : w3.cell? ⟨w.heap.size, 3, none⟩ = some (.int .u64 (x.u : Int)) := by rw [Blk.cell HK.out]; rfl
        have c4 : w3.cell? ⟨w.heap.size, 4, none⟩ = some (.int .u64 (x.m : Int)) := by rw [Blk.cell HK.out]; rfl
        go_wp2_with fail
        go_ret
        exact ⟨by unfold mayL; rw [HB0.out, HB1.out, HB2.out]; first | rfl | simp, HV.out⟩
      · have HB2 := Lib.hid hb2
        have HC2 := Lib.hid (fun w => pcheck_any x.pth w HL.out.2.2.1)
        simp only [hb2, EBt, EBf] at HC2
        clear hb2
        go_wp2_with fail
        refine (HC2.out _).mono ?_
        rintro e w3 ⟨rfl, hb⟩
        replace HV := Lib.hid (HV.out.trans (hb.mono HV.out.size))
        replace HK := Lib.hid (Blk.below HK.out hb (Blk.lt HK.out))
        clear hb c1 c2 c3 c4
        have c1 : w3.cell? ⟨w.heap.size, 1, none⟩ = some (.string x.tok) := by rw [Blk.cell HK.out]; rfl
        have c2 : w3.cell? ⟨w.heap.size, 2, none⟩ = some (.string x.pth) := by rw [Blk.cell HK.out]; rfl
        have c3 : w3.cell? ⟨w.heap.size, 3, none⟩ = some (.int .u64 (x.u : Int)) := by rw [Blk.cell HK.out]; rfl
        have c4 : w3.cell? ⟨w.heap.size, 4, none⟩ = some (.int .u64 (x.m : Int)) := by rw [Blk.cell HK.out]; rfl
        go_wp2_with fail
        go_ret
        refine ⟨?_, HV.out⟩
        unfold mayL; rw [HB0.out, HB1.out, HB2.out]
        first | rfl | simp
end Go.Proofs.YtgfjlgaleddoaaaGreatDoor
