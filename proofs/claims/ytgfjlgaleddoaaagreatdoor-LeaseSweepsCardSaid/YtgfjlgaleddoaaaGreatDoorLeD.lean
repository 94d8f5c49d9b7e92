/- What must come whatever the leases are. -/
import Derived.Test.YtgfjlgaleddoaaaGreatDoorLeA
import Derived.Test.YtgfjlgaleddoaaaGreatDoorLeC
import Derived.Test.YtgfjlgaleddoaaaGreatDoorNum29
namespace Go.Proofs.YtgfjlgaleddoaaaGreatDoor
set_option linter.unusedVariables false
set_option linter.unusedSimpArgs false
open Go.RowKit
set_option maxRecDepth 100000 in
set_option maxHeartbeats 2000000 in
theorem texts_same (oa ob : Option Addr) (n ca cb : Nat) (S : Nat → ByteArray) (w : World) (hA : CK 1 w oa n (stC S)) (hB : CK 1 w ob n (stC S)) (hn : n ≤ maxLen) :
    Calls Tryz.prog 26 #[.slice oa n ca, .slice ob n cb] w fun e w' => e = .returned (.bool true) ∧ Below w.heap.size w w' := by
  have HA := Lib.hid hA
  have HB := Lib.hid hB
  have hn0 : (n : Int) ≤ 9223372036854775807 := by unfold maxLen at hn; omega
  clear hA hB hn
  go_enter Tryz.func26, Tryz.ntmps26
  go_wp2_with fail
  go_loopw [5] (fun v wr => ∃ i : Nat, i ≤ n ∧ v = .int .i64 (i : Int) ∧ Below w.heap.size w wr) (fun v _ => n - (intOf v).toNat)
  case atStart => exact ⟨0, Nat.zero_le _, rfl, Below.refl _ _⟩
  case round =>
    obtain ⟨i, hi, rfl, hbw⟩ := hrel
    have HBW := Lib.hid hbw
    clear hbw
    by_cases hli : i < n
    · have i1 : (i : Int) < (n : Int) := by omega
      have i0 : (0 : Int) ≤ (i : Int) := by omega
      obtain ⟨j2, hj2⟩ : ∃ z, i + 1 = z := ⟨_, rfl⟩
      have k3 : (i : Int) + 1 = (j2 : Int) := by omega
      have k4 : IntKind.i64.wrap (j2 : Int) = (j2 : Int) := IntWalk.i64_in _ (by omega)
      have HI := Lib.hid (And.intro hli hj2)
      obtain ⟨b, off, e, hrg⟩ := (HA.out.later HBW.out) i hli
      subst e
      obtain ⟨b2, off2, e, hrg2⟩ := (HB.out.later HBW.out) i hli
      subst e
      obtain ⟨s, hs⟩ : ∃ s, S i = s := ⟨_, rfl⟩
      have c1 := hrg 0 (.string (S i)) rfl
      have c2 := hrg2 0 (.string (S i)) rfl
      rw [Nat.mul_one, Nat.add_zero, hs] at c1 c2
      have hSW0 : wr.drew.cell? ⟨b, off + i, none⟩ = some (.string s) ∧ wr.drew.cell? ⟨b2, off2 + i, none⟩ = some (.string s) := ⟨by simpa using c1, by simpa using c2⟩
      have HBD := Lib.hid HBW.out.drew
      clear hi hli hj2 hrg hrg2 hs c1 c2
      go_upto_region 6 with fail
      refine wp_region_held_drew (S := (fun X => X.cell? ⟨b, off + i, none⟩ = some (.string s) ∧ X.cell? ⟨b2, off2 + i, none⟩ = some (.string s))) (by kernel_rfl) ?_ (fun hHeld => ?_)
      · (try dsimp only)
        (first | assumption | (dsimp only; assumption))
      refine wT 0 ?_ rfl ?_ ?_
      rotate_left
      · intro wS hSw
        (try dsimp only at hSw)
        go_simp
        (try with_reducible rfl)
      (try simp only [Act.put, zS])
      refine wT 1 ?_ rfl ?_ ?_
      rotate_left
      · intro wS hSw
        (try dsimp only at hSw)
        go_simp
        (try with_reducible rfl)
      (try simp only [Act.put, zS])
      refine wT 2 ?_ rfl ?_ ?_
      rotate_left
      · intro wS hSw
        (try dsimp only at hSw)
        go_simp
        (try with_reducible rfl)
      (try simp only [Act.put, zS])
      refine wT 3 ?_ rfl ?_ ?_
      rotate_left
      · intro wS hSw
        (have c := hSw.1; go_simp; (try with_reducible rfl))
      (try simp only [Act.put, zS])
      refine wT 4 ?_ rfl ?_ ?_
      rotate_left
      · intro wS hSw
        (try dsimp only at hSw)
        go_simp
        (try with_reducible rfl)
      (try simp only [Act.put, zS])
      refine wT 5 ?_ rfl ?_ ?_
      rotate_left
      · intro wS hSw
        (try dsimp only at hSw)
        go_simp
        (try with_reducible rfl)
      (try simp only [Act.put, zS])
      refine wT 6 ?_ rfl ?_ ?_
      rotate_left
      · intro wS hSw
        (try dsimp only at hSw)
        go_simp
        (try with_reducible rfl)
      (try simp only [Act.put, zS])
      refine wT 7 ?_ rfl ?_ ?_
      rotate_left
      · intro wS hSw
        (have c := hSw.2; go_simp; (try with_reducible rfl))
      (try simp only [Act.put, zS])
      refine wT 8 ?_ rfl ?_ ?_
      rotate_left
      · intro wS hSw
        (try dsimp only at hSw)
        go_simp
        (try with_reducible rfl)
      (try simp only [Act.put, zS])
      refine wpAnyH_done (by kernel_rfl) ?_ _
      go_wp2_with fail
      go_roundw
      case rel => exact ⟨j2, by have := HI.out; omega, by first | rfl | go_num, HBD.out⟩
      case measure => have := HI.out; simp [intOf] <;> omega
    · obtain rfl : i = n := by omega
      have i1 : ¬ (i : Int) < (i : Int) := by omega
      clear hi hli
      go_wp2_with fail
      go_ret
      exact ⟨rfl, HBW.out⟩
set_option maxRecDepth 100000 in
set_option maxHeartbeats 2000000 in
theorem renew_gone (oa : Option Addr) (c now ttl : Nat) (X : Nat → LE) (s : ByteArray) (w : World) (hX : CK 5 w oa 2 (leC X)) (hL : ∀ i, i < 2 → LES (X i)) (hk : ckB 2 X = true) (h0 : cmpS (X 0).id s < 0) (h1 : cmpS (X 1).id s = 0) (ho : overB now (X 1).u = true) :
    Calls Tryz.prog 20 #[.slice oa 2 c, .string s, .int .u64 (now : Int), .int .u64 (ttl : Int)] w fun e w' => e = .returned (.tuple #[.slice none 0 0, .iface 70 (.int .i64 21)]) ∧ Below w.heap.size w w' := by
  have HCK := Lib.hid (check_any oa 2 c X w hX (by unfold maxLen; omega) hL)
  rw [hk, show EA true = .nilIface from rfl] at HCK
  have HFD := Lib.hid (fun w' (hb : Below w.heap.size w w') => find_any oa 2 c X s w' (hX.later hb) (by omega))
  have HX := Lib.hid hX
  have HH := Lib.hid (And.intro h0 (And.intro h1 ho))
  clear hX hL hk h0 h1 ho
  go_enter Tryz.func20, Tryz.ntmps20
  go_wp2_with fail
  refine HCK.out.mono ?_
  rintro e w1 ⟨rfl, hb1⟩
  have HB1 := Lib.hid hb1
  clear hb1
  go_wp2_with fail
  refine (HFD.out w1 HB1.out).mono ?_
  rintro e w2 ⟨hb2, r, f, rfl, hr1, hr2, hr3, hr4⟩
  have hr0 : r = 1 := by
    rcases (show r = 0 ∨ r = 1 ∨ r = 2 by omega) with h | h | h
    · subst h; exact absurd (hr3 (by omega)) (by have := HH.out.1; omega)
    · exact h
    · subst h; exact absurd (show cmpS (X 1).id s < 0 from hr2 (by omega)) (by have := HH.out.2.1; omega)
  subst hr0
  obtain rfl : f = true := by rw [hr4, HH.out.2.1]; rfl
  have HB2 := Lib.hid (HB1.out.trans (hb2.mono HB1.out.size))
  clear hb2 hr1 hr2 hr3 hr4
  obtain ⟨b, off, e, hrg⟩ := (HX.out.later HB2.out) 1 (by omega)
  subst e
  obtain ⟨u, hu⟩ : ∃ u, (X 1).u = u := ⟨_, rfl⟩
  have c3 : w2.cell? ⟨b, off + 5 + 3, none⟩ = some (.int .u64 (u : Int)) := by have := hrg 3 (.int .u64 ((X 1).u : Int)) rfl; rw [← hu]; simpa using this
  have HOV := Lib.hid (over_any now u w2)
  rw [show overB now u = true by rw [← hu]; exact HH.out.2.2] at HOV
  clear hrg hu
  go_wp2_with fail
  refine HOV.out.mono ?_
  rintro e w3 ⟨rfl, hw3⟩
  rw [hw3]
  clear hw3
  go_wp2_with fail
  refine bodyPost_ret (v := .tuple #[.slice none 0 0, .iface 70 (.int .i64 21)]) (results_tmp2 (fn := Tryz.f20) (t := 8) (u := 9) rfl _ _ _) rfl ⟨rfl, HB2.out⟩
def xB : LE := ⟨⟨#[98]⟩, ⟨#[116]⟩, ⟨#[107, 118, 47, 120]⟩, 3, 9⟩
def xA : LE := ⟨⟨#[97]⟩, ⟨#[116]⟩, ⟨#[107, 118, 47, 121]⟩, 5, 9⟩
theorem may_B : mayL xB = true := by kernel_rfl
theorem may_A : mayL xA = true := by kernel_rfl
theorem les_B : LES xB := by unfold LES xB maxLen; simp [ByteArray.size]
theorem les_A : LES xA := by unfold LES xA maxLen; simp [ByteArray.size]
theorem cmp_BA : cmpS xB.id xA.id = 1 := by unfold cmpS; rw [ByteArray.toList_eq, ByteArray.toList_eq]; decide
theorem cmp_AB : cmpS xA.id ⟨#[98]⟩ = -1 := by unfold cmpS; rw [ByteArray.toList_eq, ByteArray.toList_eq]; decide
theorem cmp_BB : cmpS xB.id ⟨#[98]⟩ = 0 := by unfold cmpS; rw [ByteArray.toList_eq, ByteArray.toList_eq]; decide
theorem lt_AB : ltS xA.id xB.id = true := by unfold ltS; rw [ByteArray.toList_eq, ByteArray.toList_eq]; decide
theorem ck_AB : ckB 2 (X2 xA xB) = true := ck_yes (by omega) fun i hi => by
  rcases (show i = 0 ∨ i = 1 by omega) with rfl | rfl
  · unfold stepB; rw [show X2 xA xB 0 = xA from rfl, may_A]; rfl
  · unfold stepB; rw [show X2 xA xB 1 = xB from rfl, show X2 xA xB (1 - 1) = xA from rfl, may_B, lt_AB]; rfl
theorem eq_AB : eqLE xA xB = false := by unfold eqLE; rw [ByteArray.toList_eq, ByteArray.toList_eq]; rfl
theorem px_A : pxB ⟨#[107, 118, 47]⟩ xA = true := by kernel_rfl
theorem px_B : pxB ⟨#[107, 118, 47]⟩ xB = true := by kernel_rfl
def XX : Nat → LE := X2 xA xB
theorem les_XX : ∀ i, i < 2 → LES (XX i) := fun i hi => by
  rcases (show i = 0 ∨ i = 1 by omega) with rfl | rfl
  · exact les_A
  · exact les_B
theorem sweep_sure (oa : Option Addr) (c : Nat) (w : World) (hX : CK 5 w oa 2 (leC XX)) :
    Calls Tryz.prog 29 #[.slice oa 2 c, .int .u64 9, .int .i64 1] w fun e w' => ∃ oa ca ob cb, e = .returned (.tuple #[.slice oa 1 ca, .slice ob 1 cb]) ∧ CK 1 w' ob 1 (stC fun _ => ⟨#[98]⟩) ∧ Below w.heap.size w w' := by
  have hp0 : (fun i => inB 1 (fun _ => XX 1) (XX i)) 0 = false := in_no fun i _ => eq_AB
  have hp1 : (fun i => inB 1 (fun _ => XX 1) (XX i)) 1 = true := in_yes (i := 0) (by omega) (eqLE_self _)
  have h1 : fl (fun i => inB 1 (fun _ => XX 1) (XX i)) 2 = [1] := by rw [fl_yes hp1, fl_no hp0]; rfl
  have h2 : fl (nt fun i => inB 1 (fun _ => XX 1) (XX i)) 2 = [0] := by rw [fl_no (nt_t hp1), fl_yes (nt_f hp0)]; rfl
  refine (sweep2 oa c 9 XX w hX les_XX ck_AB (fun i hi => ?_) ?_).mono ?_
  · rcases (show i = 0 ∨ i = 1 by omega) with rfl | rfl <;> rfl
  · show orI (cmpU 3 5) (cmpS xB.id xA.id) < 0
    rw [cmp_BA]; decide
  · rintro e w' ⟨oa, ca, ob, cb, he, h3, h4, h5⟩
    rw [h1, h2] at *
    exact ⟨oa, ca, ob, cb, he, h4.congr fun i hi => by obtain rfl : i = 0 := (by simpa using hi); rfl, h5⟩
theorem prefix_sure (oa : Option Addr) (c : Nat) (w : World) (hX : CK 5 w oa 2 (leC XX)) :
    Calls Tryz.prog 16 #[.slice oa 2 c, .string ⟨#[107, 118, 47]⟩] w fun e w' => ∃ v ob cb, e = .returned (.tuple #[v, .slice ob 2 cb]) ∧ CK 1 w' ob 2 (stC fun i => if i = 0 then ⟨#[97]⟩ else ⟨#[98]⟩) ∧ Below w.heap.size w w' := by
  have hp0 : (fun i => pxB ⟨#[107, 118, 47]⟩ (XX i)) 0 = true := px_A
  have hp1 : (fun i => pxB ⟨#[107, 118, 47]⟩ (XX i)) 1 = true := px_B
  have h1 : fl (fun i => pxB ⟨#[107, 118, 47]⟩ (XX i)) 2 = [0, 1] := by rw [fl_yes hp1, fl_yes hp0]; rfl
  refine (prefix_any oa 2 c XX ⟨#[107, 118, 47]⟩ w hX (by unfold maxLen; omega) les_XX ck_AB).mono ?_
  rintro e w' ⟨oa, ca, ob, cb, he, h3, h4, h5⟩
  rw [h1] at he h4
  refine ⟨_, ob, cb, he, h4.congr fun i hi => ?_, h5⟩
  have hi : i < 2 := by simpa using hi
  rcases (show i = 0 ∨ i = 1 by omega) with rfl | rfl <;> rfl
theorem renew_sure (oa : Option Addr) (c : Nat) (w : World) (hX : CK 5 w oa 2 (leC XX)) :
    Calls Tryz.prog 20 #[.slice oa 2 c, .string ⟨#[98]⟩, .int .u64 3, .int .u64 1] w fun e w' => e = .returned (.tuple #[.slice none 0 0, .iface 70 (.int .i64 21)]) ∧ Below w.heap.size w w' :=
  renew_gone oa c 3 1 XX ⟨#[98]⟩ w hX les_XX ck_AB (by show cmpS xA.id ⟨#[98]⟩ < 0; rw [cmp_AB]; decide) cmp_BB rfl
set_option maxRecDepth 100000 in
set_option maxHeartbeats 2000000 in
theorem sure_any (w : World) (hg : Handle w) : Calls Tryz.prog 8 #[] w fun e w' => e = .returned (.bool true) ∧ Below w.heap.size w w' := by
  have H1 := Lib.hid (issue_first xB w les_B may_B)
  have HG := Lib.hid hg
  clear hg
  go_enter Tryz.func8, Tryz.ntmps8
  go_wp2_with fail
  refine H1.out.mono ?_
  rintro e w1 ⟨v, rfl, hk1, hb1⟩
  obtain ⟨oa, c, rfl, -, -, -, -, hc1⟩ := hk1.out (fun _ => rfl) (by decide)
  have HB1 := Lib.hid hb1
  have H2 := Lib.hid (issue_second xA xB oa c w1 les_A may_A les_B may_B (by rw [cmp_BA]; decide) hc1)
  clear hk1 hb1 hc1
  go_wp2_with fail
  refine H2.out.mono ?_
  rintro e w2 ⟨g, c2, rfl, hc2, hb2⟩
  have HB2 := Lib.hid (HB1.out.trans (hb2.mono HB1.out.size))
  have HC := Lib.hid hc2
  have H3 := Lib.hid (sweep_sure (some ⟨g, 0, none⟩) c2 w2 hc2)
  clear hb2 hc2
  go_wp2_with fail
  refine H3.out.mono ?_
  rintro e w3 ⟨o3, k3, o4, k4, rfl, hs3, hb3⟩
  have HB3 := Lib.hid (HB2.out.trans (hb3.mono HB2.out.size))
  have HC3 := Lib.hid (HC.out.later hb3)
  have HS3 := Lib.hid hs3
  have H4 := Lib.hid (renew_sure (some ⟨g, 0, none⟩) c2 w3 HC3.out)
  clear hb3 hs3
  go_wp2_with fail
  refine H4.out.mono ?_
  rintro e w4 ⟨rfl, hb4⟩
  have HB4 := Lib.hid (HB3.out.trans (hb4.mono HB3.out.size))
  have HC4 := Lib.hid (HC3.out.later hb4)
  have HS4 := Lib.hid (HS3.out.later hb4)
  have H5 := Lib.hid (prefix_sure (some ⟨g, 0, none⟩) c2 w4 HC4.out)
  clear hb4
  go_wp2_with fail
  refine H5.out.mono ?_
  rintro e w5 ⟨v5, o5, k5, rfl, hs5, hb5⟩
  have HB5 := Lib.hid (HB4.out.trans (hb5.mono HB4.out.size))
  have hS45 := HS4.out.later hb5
  have HS5 := Lib.hid hs5
  have hB6 : Blk (w5.alloc (.cells #[.string ⟨#[98]⟩] 9)) w5.heap.size #[.string ⟨#[98]⟩] 9 := Blk.new _ _ _
  have hb6 : Below w5.heap.size w5 (w5.alloc (.cells #[.string ⟨#[98]⟩] 9)) := (Below.refl _ _).alloc (Nat.le_refl _) _
  have H6 := Lib.hid (texts_same o4 (some ⟨w5.heap.size, 0, none⟩) 1 k4 1 (fun _ => ⟨#[98]⟩) (w5.alloc (.cells #[.string ⟨#[98]⟩] 9)) (hS45.later hb6) (CK.one hB6) (by unfold maxLen; omega))
  have HB6 := Lib.hid hb6
  clear hb5 hs5 hB6 hb6 hS45
  go_wp2_with fail
  refine H6.out.mono ?_
  rintro e w6 ⟨rfl, hb7⟩
  have HB57 := Lib.hid (HB6.out.trans (hb7.mono HB6.out.size))
  have HB7 := Lib.hid (HB5.out.trans (HB57.out.mono HB5.out.size))
  have HS7 := Lib.hid (HS5.out.later HB57.out)
  have H7 := Lib.hid (num_err 21 w6 (HG.out.later HB7.out))
  clear hb7
  go_wp2_with fail
  refine H7.out.mono ?_
  rintro e w7 ⟨rfl, hb8⟩
  have HB8 := Lib.hid (HB7.out.trans (hb8.mono HB7.out.size))
  have hS8 := HS7.out.later hb8
  have hB9 : Blk (w7.alloc (.cells #[.string ⟨#[97]⟩, .string ⟨#[98]⟩] 9)) w7.heap.size #[.string ⟨#[97]⟩, .string ⟨#[98]⟩] 9 := Blk.new _ _ _
  have hb9 : Below w7.heap.size w7 (w7.alloc (.cells #[.string ⟨#[97]⟩, .string ⟨#[98]⟩] 9)) := (Below.refl _ _).alloc (Nat.le_refl _) _
  have hC9 : CK 1 (w7.alloc (.cells #[.string ⟨#[97]⟩, .string ⟨#[98]⟩] 9)) (some ⟨w7.heap.size, 0, none⟩) 2 (stC fun i => if i = 0 then ⟨#[97]⟩ else ⟨#[98]⟩) := fun i hi => ⟨w7.heap.size, 0, rfl, fun j v hv => by
    have hj : j = 0 := by have := (List.getElem?_eq_some_iff.1 hv).1; simp [stC] at this; exact this
    subst hj
    rw [Blk.cell hB9]
    rcases (show i = 0 ∨ i = 1 by omega) with rfl | rfl <;> exact hv⟩
  have H8 := Lib.hid (texts_same o5 (some ⟨w7.heap.size, 0, none⟩) 2 k5 2 (fun i => if i = 0 then ⟨#[97]⟩ else ⟨#[98]⟩) (w7.alloc (.cells #[.string ⟨#[97]⟩, .string ⟨#[98]⟩] 9)) (hS8.later hb9) hC9 (by unfold maxLen; omega))
  have HB9 := Lib.hid (HB8.out.trans (hb9.mono HB8.out.size))
  clear hb8 hS8 hB9 hb9 hC9
  go_wp2_with fail
  refine H8.out.mono ?_
  rintro e w8 ⟨rfl, hb10⟩
  have HB10 := Lib.hid (HB9.out.trans (hb10.mono HB9.out.size))
  clear hb10
  go_wp2_with fail
  go_ret
  exact ⟨rfl, HB10.out⟩
end Go.Proofs.YtgfjlgaleddoaaaGreatDoor
