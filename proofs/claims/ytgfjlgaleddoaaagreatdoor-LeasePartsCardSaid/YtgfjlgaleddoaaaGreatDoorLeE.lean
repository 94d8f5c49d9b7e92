/- LeaseParts: just the others are left, as they were. -/
import Derived.Test.YtgfjlgaleddoaaaGreatDoorLeD
namespace Go.Proofs.YtgfjlgaleddoaaaGreatDoor
set_option linter.unusedVariables false
set_option linter.unusedSimpArgs false
open Go.RowKit
theorem fl_sum (P : Nat → Bool) (k : Nat) : (fl (nt P) k).length + (fl P k).length = k := by
  induction k with
  | zero => rfl
  | succ k ih =>
    cases h : P k
    · rw [fl_no h, fl_yes (nt_f h), List.length_append, List.length_singleton]; omega
    · rw [fl_yes h, fl_no (nt_t h), List.length_append, List.length_singleton]; omega
theorem fl_pre {P : Nat → Bool} {k : Nat} (h : P k = true) : ∀ d, ∃ r, fl P (k + 1 + d) = fl P k ++ k :: r := by
  intro d
  induction d with
  | zero => exact ⟨[], fl_yes h⟩
  | succ d ih =>
    obtain ⟨r, hr⟩ := ih
    cases h2 : P (k + 1 + d)
    · exact ⟨r, by rw [← Nat.add_assoc, fl_no h2, hr]⟩
    · exact ⟨r ++ [k + 1 + d], by rw [← Nat.add_assoc, fl_yes h2, hr]; simp⟩
theorem fl_at {P : Nat → Bool} {k n : Nat} (h : P k = true) (hk : k < n) : (fl P k).length < (fl P n).length ∧ (fl P n).getD (fl P k).length 0 = k := by
  obtain ⟨r, hr⟩ := fl_pre h (n - (k + 1))
  rw [show k + 1 + (n - (k + 1)) = n by omega] at hr
  rw [hr]
  refine ⟨by simp, ?_⟩
  rw [List.getD_eq_getElem?_getD]; simp
theorem px_ext {s p : ByteArray} (h : p.size ≤ s.size) : ((s.extract 0 p.size).toList == p.toList) = Lib.hasPrefix s.data.toList p.data.toList := by
  rw [ByteArray.toList_eq, ByteArray.toList_eq]
  have e1 : (s.extract 0 p.size).data.toList = s.data.toList.take p.data.toList.length := by
    rw [ByteArray.data_extract, Array.toList_extract]; simp only [List.extract_eq_take_drop, List.drop_zero, Nat.sub_zero]; rfl
  rw [e1]
  unfold Lib.hasPrefix
  rw [Bool.eq_iff_iff, beq_iff_eq, List.isPrefixOf_iff_prefix, List.prefix_iff_eq_take]
  exact eq_comm
theorem px_short {s p : ByteArray} (h : s.size < p.size) : Lib.hasPrefix s.data.toList p.data.toList = false := by
  unfold Lib.hasPrefix
  cases e : p.data.toList.isPrefixOf s.data.toList with
  | false => rfl
  | true =>
    have h9 := (List.isPrefixOf_iff_prefix.1 e).length_le
    have : p.data.toList.length = p.size := rfl
    have : s.data.toList.length = s.size := rfl
    omega
def tokB (S : Nat → ByteArray) (t : ByteArray) (q : Nat) : Bool := (List.range q).any fun r => (S r).toList == t.toList
theorem tok_succ (S : Nat → ByteArray) (t : ByteArray) (q : Nat) : tokB S t (q + 1) = (tokB S t q || ((S q).toList == t.toList)) := by unfold tokB; rw [List.range_succ, List.any_append]; simp
theorem tok_all (S : Nat → ByteArray) (t : ByteArray) (m : Nat) : tokB S t m = Lib.containsS ((List.range m).map S) t := by
  rw [Bool.eq_iff_iff, Lib.containsS_iff]
  unfold tokB
  rw [List.any_eq_true]
  constructor
  · rintro ⟨r, hr, h⟩
    have h9 := beq_iff_eq.1 h
    rw [ByteArray.toList_eq, ByteArray.toList_eq] at h9
    refine List.mem_map.2 ⟨r, hr, ?_⟩
    have h8 : (S r).data = t.data := Array.ext' h9
    exact ByteArray.ext h8
  · intro h
    obtain ⟨r, hr, e⟩ := List.mem_map.1 h
    exact ⟨r, hr, by rw [e]; simp⟩
set_option maxRecDepth 100000 in
set_option maxHeartbeats 4000000 in
theorem parts_any (oa ob : Option Addr) (n c m d : Nat) (X : Nat → LE) (S : Nat → ByteArray) (p : ByteArray) (w : World) (hg : Handle w) (hX : CK 5 w oa n (leC X)) (hn : n * 64 ≤ 140737488355328) (hL : ∀ i, i < n → LES (X i)) (hp : p.size ≤ maxLen) (hS : CK 1 w ob m (stC S)) (hm : m ≤ maxLen) :
    Calls Tryz.prog 4 #[.slice oa n c, .string p, .slice ob m d] w fun e w' => e = .returned (.bool true) ∧ Below w.heap.size w w' := by
  have H1 := Lib.hid (give_any oa n c X w hX hn)
  have HG := Lib.hid hg
  have HX0 := Lib.hid hX
  have HS0 := Lib.hid hS
  have HL := Lib.hid hL
  have HN := Lib.hid (And.intro hn hm)
  have hp0 : (p.size : Int) ≤ 9223372036854775807 := by unfold maxLen at hp; omega
  have hm0 : (m : Int) ≤ 9223372036854775807 := by unfold maxLen at hm; omega
  have hn0 : (n : Int) ≤ 9223372036854775807 := by omega
  clear hg hX hS hL hn hm hp
  go_enter Tryz.func4, Tryz.ntmps4
  go_wp2_with fail
  refine H1.out.mono ?_
  rintro e w1 ⟨v, rfl, hk1, hb1⟩
  obtain ⟨ox, cx, rfl, -, -, -, -, hc1⟩ := hk1.out (fun _ => rfl) (by decide)
  have HB1 := Lib.hid hb1
  have HX1 := Lib.hid hc1
  have H2 := Lib.hid (big_any oa n c X w1 (HX0.out.later hb1) HN.out.1 HL.out)
  clear hk1 hb1 hc1
  go_wp2_with fail
  refine H2.out.mono ?_
  rintro e w2 ⟨⟨r, rfl⟩, hw2⟩
  rw [hw2]
  clear hw2
  cases r
  · have H3 := Lib.hid (check_any ox n cx X w1 HX1.out (by have := HN.out.1; unfold maxLen; omega) HL.out)
    cases hck : ckB n X
    · rw [hck, show EA false = .iface 70 (.int .i64 1) from rfl] at H3
      go_wp2_with fail
      refine H3.out.mono ?_
      rintro e w3 ⟨rfl, hb3⟩
      have HB3 := Lib.hid (HB1.out.trans (hb3.mono HB1.out.size))
      clear hb3
      go_wp2_with fail
      refine (sure_any w3 (HG.out.later HB3.out)).mono ?_
      rintro e wz ⟨rfl, hbz⟩
      have HBZ := Lib.hid (HB3.out.trans (hbz.mono HB3.out.size))
      clear hbz
      go_wp2_with fail
      go_ret
      exact ⟨rfl, HBZ.out⟩
    · rw [hck, show EA true = .nilIface from rfl] at H3
      have HCK := Lib.hid hck
      clear hck
      go_wp2_with fail
      refine H3.out.mono ?_
      rintro e w3 ⟨rfl, hb3⟩
      have HB3 := Lib.hid (HB1.out.trans (hb3.mono HB1.out.size))
      have HX3 := Lib.hid (HX1.out.later hb3)
      clear hb3
      by_cases h100 : (100 : Int) < (p.size : Int)
      · go_wp2_with fail
        refine (sure_any w3 (HG.out.later HB3.out)).mono ?_
        rintro e wz ⟨rfl, hbz⟩
        have HBZ := Lib.hid (HB3.out.trans (hbz.mono HB3.out.size))
        clear hbz
        go_wp2_with fail
        go_ret
        exact ⟨rfl, HBZ.out⟩
      · by_cases h20 : (20 : Int) < (m : Int)
        · go_wp2_with fail
          refine (sure_any w3 (HG.out.later HB3.out)).mono ?_
          rintro e wz ⟨rfl, hbz⟩
          have HBZ := Lib.hid (HB3.out.trans (hbz.mono HB3.out.size))
          clear hbz
          go_wp2_with fail
          go_ret
          exact ⟨rfl, HBZ.out⟩
        · have h32 : n ≤ 32 := by have h9 := HCK.out; unfold ckB at h9; simp at h9; exact h9.1
          have hn1 : (n : Int) ≤ 32 := by omega
          have H32 := Lib.hid h32
          obtain ⟨P, hP⟩ : ∃ P, (fun i => pxB p (X i)) = P := ⟨_, rfl⟩
          obtain ⟨Q, hQ⟩ : ∃ Q, (fun i => ofB m S (X i)) = Q := ⟨_, rfl⟩
          have HP := Lib.hid hP
          have HQ := Lib.hid hQ
          have H4 := Lib.hid (prefix_any ox n cx X p w3 HX3.out (by unfold maxLen; omega) HL.out HCK.out)
          rw [hP] at H4
          clear h32 hP hn0
          go_wp2_with fail
          refine H4.out.mono ?_
          rintro e w4 ⟨oy, cy, og, cg, rfl, hy4, hg4, hb4⟩
          have HB4 := Lib.hid (HB3.out.trans (hb4.mono HB3.out.size))
          have HX4 := Lib.hid (HX3.out.later hb4)
          have HY4 := Lib.hid hy4
          have HG4 := Lib.hid hg4
          have H5 := Lib.hid (lof_any ox ob n cx m d X S w4 HX4.out (by have := H32.out; unfold maxLen; omega) HL.out HCK.out (HS0.out.later HB4.out) HN.out.2)
          rw [hQ] at H5
          clear hy4 hg4 hb4 hQ
          go_wp2_with fail
          refine H5.out.mono ?_
          rintro e w5 ⟨oz, cz, oh, ch, rfl, hz5, hh5, hb5⟩
          have HB5 := Lib.hid (HB4.out.trans (hb5.mono HB4.out.size))
          have HX5 := Lib.hid (HX4.out.later hb5)
          have HS5 := Lib.hid (HS0.out.later HB5.out)
          have HY5 := Lib.hid (HY4.out.later hb5)
          have HG5 := Lib.hid (HG4.out.later hb5)
          have HZ5 := Lib.hid hz5
          have HH5 := Lib.hid hh5
          clear hz5 hh5 hb5
          obtain ⟨yl, hyl⟩ : ∃ q, (fl (nt P) n).length = q := ⟨_, rfl⟩
          obtain ⟨gl, hgl⟩ : ∃ q, (fl P n).length = q := ⟨_, rfl⟩
          obtain ⟨zl, hzl⟩ : ∃ q, (fl (nt Q) n).length = q := ⟨_, rfl⟩
          obtain ⟨wl, hwl⟩ : ∃ q, (fl Q n).length = q := ⟨_, rfl⟩
          have HLN := Lib.hid (And.intro (And.intro hyl hgl) (And.intro hzl hwl))
          have hs1 : yl + gl = n := by rw [← hyl, ← hgl]; exact fl_sum P n
          have hs2 : zl + wl = n := by rw [← hzl, ← hwl]; exact fl_sum Q n
          have HSM := Lib.hid (And.intro hs1 hs2)
          rw [hyl] at HY5
          rw [hgl] at HG5
          rw [hzl] at HZ5
          rw [hwl] at HH5
          rw [hyl, hgl, hzl, hwl]
          clear hyl hgl hzl hwl
          have hy0 : (yl : Int) ≤ 32 := by omega
          have hg0 : (gl : Int) ≤ 32 := by omega
          have hz0 : (zl : Int) ≤ 32 := by omega
          have hw0 : (wl : Int) ≤ 32 := by omega
          clear hs1 hs2
          go_wp2_with fail
          go_loopw [12, 13, 14] (fun x y z wr => ∃ k : Nat, k ≤ n ∧ z = .int .i64 (k : Int) ∧ x = .int .i64 ((fl (nt P) k).length : Int) ∧ y = .int .i64 ((fl (nt Q) k).length : Int) ∧ Below w5.heap.size w5 wr) (fun _ _ z _ => n - (intOf z).toNat)
          case atStart => exact ⟨0, Nat.zero_le _, rfl, rfl, rfl, Below.refl _ _⟩
          case round =>
            obtain ⟨k, hk, rfl, rfl, rfl, hbw⟩ := hrel
            have HBW := Lib.hid hbw
            clear hbw
            by_cases hkn : k < n
            · have k1 : (k : Int) < (n : Int) := by omega
              have k0 : (0 : Int) ≤ (k : Int) := by omega
              obtain ⟨i, hi⟩ : ∃ i, (fl (nt P) k).length = i := ⟨_, rfl⟩
              obtain ⟨j, hj⟩ : ∃ i, (fl (nt Q) k).length = i := ⟨_, rfl⟩
              obtain ⟨e1, he1⟩ : ∃ i, (fl P k).length = i := ⟨_, rfl⟩
              obtain ⟨e2, he2⟩ : ∃ i, (fl Q k).length = i := ⟨_, rfl⟩
              have HE := Lib.hid (And.intro (And.intro hi he1) (And.intro hj he2))
              have HSE : Hid (i + e1 = k ∧ j + e2 = k) := Lib.hid ⟨by rw [← hi, ← he1]; exact fl_sum P k, by rw [← hj, ← he2]; exact fl_sum Q k⟩
              rw [hi, hj]
              obtain ⟨k2, hk2⟩ : ∃ q, k + 1 = q := ⟨_, rfl⟩
              have k3 : (k : Int) + 1 = (k2 : Int) := by omega
              have k4 : IntKind.i64.wrap (k2 : Int) = (k2 : Int) := IntWalk.i64_in _ (by have := H32.out; omega)
              have i3 : (i : Int) + 1 = ((i + 1 : Nat) : Int) := by omega
              have i4 : IntKind.i64.wrap ((i : Int) + 1) = (i : Int) + 1 := IntWalk.i64_in _ (by have := H32.out; have := HSE.out; omega)
              have j4 : IntKind.i64.wrap ((j : Int) + 1) = (j : Int) + 1 := IntWalk.i64_in _ (by have := H32.out; have := HSE.out; omega)
              have HK := Lib.hid hkn
              have HK2 := Lib.hid hk2
              clear i3
              obtain ⟨bx, ofx, ex, hrx⟩ := (HX5.out.later HBW.out) k hkn
              subst ex
              have HXL : Hid (∀ A, Below w5.heap.size w5 A → A.rangeAt bx (ofx + k * 5) (leL (X k))) := Lib.hid fun A hA => by
                obtain ⟨b9, o9, e9, h9⟩ := (HX5.out.later hA) k HK.out
                cases e9
                exact h9
              obtain ⟨tk, htk⟩ : ∃ q, (X k).tok = q := ⟨_, rfl⟩
              obtain ⟨pk, hpk⟩ : ∃ q, (X k).pth = q := ⟨_, rfl⟩
              obtain ⟨ik, hik⟩ : ∃ q, (X k).id = q := ⟨_, rfl⟩
              have HTK := Lib.hid htk
              have HPT := Lib.hid hpk
              have HIK := Lib.hid hik
              obtain ⟨CX, hCX⟩ : ∃ q, (leL (X k)).toArray = q := ⟨_, rfl⟩
              have HCX := Lib.hid hCX
              have HIS : Hid ((Tryz.prog.info? 33).map (·.size) = some CX.size) := Lib.hid (by rw [← hCX]; exact info_le)
              have HEQ : Hid (∀ w, (Op.equalIn 10000 33 (.agg CX) (.agg CX)).run Tryz.prog w = .ok true w) := Lib.hid (by rw [← hCX]; intro w; rw [eqLE_run, eqLE_self])
              clear hi hj he1 he2 hk hkn hk2 hrx htk hpk hik hCX
              go_wp2_with fail
              go_loopw [15, 16] (fun x y wr => ∃ q : Nat, q ≤ m ∧ y = .int .i64 (q : Int) ∧ x = .bool (tokB S tk q) ∧ Below w5.heap.size w5 wr) (fun _ y _ => m - (intOf y).toNat)
              case atStart => exact ⟨0, Nat.zero_le _, rfl, rfl, HBW.out⟩
              case round =>
                obtain ⟨q, hq, rfl, rfl, hbw2⟩ := hrel
                have HBW2 := Lib.hid hbw2
                have HRX := Lib.hid (HXL.out wr hbw2)
                clear hbw2
                by_cases hqm : q < m
                · have q1 : (q : Int) < (m : Int) := by omega
                  have q0 : (0 : Int) ≤ (q : Int) := by omega
                  obtain ⟨q2, hq2⟩ : ∃ z, q + 1 = z := ⟨_, rfl⟩
                  have q3 : (q : Int) + 1 = (q2 : Int) := by omega
                  have q4 : IntKind.i64.wrap (q2 : Int) = (q2 : Int) := IntWalk.i64_in _ (by omega)
                  have HQ1 := Lib.hid (And.intro hqm hq2)
                  obtain ⟨bt, ot, et, hrt⟩ := (HS5.out.later HBW2.out) q hqm
                  subst et
                  obtain ⟨st, hst⟩ : ∃ s, S q = s := ⟨_, rfl⟩
                  have HST := Lib.hid hst
                  have hSW0 : wr.drew.cell? ⟨bt, ot + q, none⟩ = some (.string st) ∧ wr.drew.cell? ⟨bx, ofx + k * 5 + 1, none⟩ = some (.string tk) := by
                    have h8 := hrt 0 (.string (S q)) rfl
                    rw [hst, Nat.mul_one, Nat.add_zero] at h8
                    have h9 := HRX.out 1 (.string (X k).tok) rfl
                    rw [HTK.out] at h9
                    exact ⟨by simpa using h8, by simpa using h9⟩
                  clear hq hqm hq2 hrt hst
                  cases htq : tokB S tk q
                  · as_aux_lemma =>
                    have HTQ := Lib.hid htq
                    clear htq
                    go_upto_region 14 with fail
                    refine wp_region_held_drew (S := (fun X => X.cell? ⟨bt, ot + q, none⟩ = some (.string st) ∧ X.cell? ⟨bx, ofx + k * 5 + 1, none⟩ = some (.string tk))) (by kernel_rfl) ?_ (fun hHeld => ?_)
                    · (try dsimp only)
                      (first | assumption | (dsimp only; assumption))
                    refine wT 0 ?_ rfl ?_ ?_
                    rotate_left
                    · intro wS hSw
                      (try dsimp only at hSw)
                      go_simp
                      (try with_reducible rfl)
                    (try simp only [Act.put, zS])
                    refine wT 1 ?_ rfl ?_ ?_
                    rotate_left
                    · intro wS hSw
                      (try dsimp only at hSw)
                      go_simp
                      (try with_reducible rfl)
                    (try simp only [Act.put, zS])
                    refine wT 2 ?_ rfl ?_ ?_
                    rotate_left
                    · intro wS hSw
                      (try dsimp only at hSw)
                      go_simp
                      (try with_reducible rfl)
                    (try simp only [Act.put, zS])
                    refine wT 3 ?_ rfl ?_ ?_
                    rotate_left
                    · intro wS hSw
                      (try dsimp only at hSw)
                      go_simp
                      (try with_reducible rfl)
                    (try simp only [Act.put, zS])
                    refine wT 4 ?_ rfl ?_ ?_
                    rotate_left
                    · intro wS hSw
                      (try dsimp only at hSw)
                      go_simp
                      (try with_reducible rfl)
                    (try simp only [Act.put, zS])
                    refine wT 5 ?_ rfl ?_ ?_
                    rotate_left
                    · intro wS hSw
                      (have c := hSw.1; go_simp; (try with_reducible rfl))
                    (try simp only [Act.put, zS])
                    refine wT 6 ?_ rfl ?_ ?_
                    rotate_left
                    · intro wS hSw
                      (try dsimp only at hSw)
                      go_simp
                      (try with_reducible rfl)
                    (try simp only [Act.put, zS])
                    refine wT 7 ?_ rfl ?_ ?_
                    rotate_left
                    · intro wS hSw
                      (try dsimp only at hSw)
                      go_simp
                      (try with_reducible rfl)
                    (try simp only [Act.put, zS])
                    refine wT 8 ?_ rfl ?_ ?_
                    rotate_left
                    · intro wS hSw
                      (try dsimp only at hSw)
                      go_simp
                      (try with_reducible rfl)
                    (try simp only [Act.put, zS])
                    refine wT 9 ?_ rfl ?_ ?_
                    rotate_left
                    · intro wS hSw
                      (try dsimp only at hSw)
                      go_simp
                      (try with_reducible rfl)
                    (try simp only [Act.put, zS])
                    refine wT 10 ?_ rfl ?_ ?_
                    rotate_left
                    · intro wS hSw
                      (have c := hSw.2; go_simp; (try with_reducible rfl))
                    (try simp only [Act.put, zS])
                    refine wT 11 ?_ rfl ?_ ?_
                    rotate_left
                    · intro wS hSw
                      (try dsimp only at hSw)
                      go_simp
                      (try with_reducible rfl)
                    (try simp only [Act.put, zS])
                    refine wT 12 ?_ rfl ?_ ?_
                    rotate_left
                    · intro wS hSw
                      (try dsimp only at hSw)
                      go_simp
                      (try with_reducible rfl)
                    (try simp only [Act.put, zS])
                    refine wT 13 ?_ rfl ?_ ?_
                    rotate_left
                    · intro wS hSw
                      (try dsimp only at hSw)
                      go_simp
                      (try with_reducible rfl)
                    (try simp only [Act.put, zS])
                    refine wpAnyH_done (by kernel_rfl) ?_ _
                    go_wp2_with fail
                    go_roundw
                    case rel => exact ⟨q2, by have := HQ1.out; omega, by first | rfl | go_num, by rw [← HQ1.out.2, tok_succ, HTQ.out, HST.out]; first | rfl | simp, HBW2.out.drew⟩
                    case measure => have := HQ1.out; simp [intOf] <;> omega
                  · as_aux_lemma =>
                    have HTQ := Lib.hid htq
                    clear htq hSW0
                    go_upto_region 14 with fail
                    refine wp_region_held_drew (S := (fun _ => True)) (by kernel_rfl) ?_ (fun hHeld => ?_)
                    · (try dsimp only)
                      all_goals trivial
                    refine wT 0 ?_ rfl ?_ ?_
                    rotate_left
                    · intro wS hSw
                      (try dsimp only at hSw)
                      go_simp
                      (try with_reducible rfl)
                    (try simp only [Act.put, zS])
                    refine wT 1 ?_ rfl ?_ ?_
                    rotate_left
                    · intro wS hSw
                      (try dsimp only at hSw)
                      go_simp
                      (try with_reducible rfl)
                    (try simp only [Act.put, zS])
                    refine wU 2 rfl ?_
                    (try simp only [Act.put, zS])
                    refine wU 3 rfl ?_
                    (try simp only [Act.put, zS])
                    refine wU 4 rfl ?_
                    (try simp only [Act.put, zS])
                    refine wU 5 rfl ?_
                    (try simp only [Act.put, zS])
                    refine wU 6 rfl ?_
                    (try simp only [Act.put, zS])
                    refine wU 7 rfl ?_
                    (try simp only [Act.put, zS])
                    refine wU 8 rfl ?_
                    (try simp only [Act.put, zS])
                    refine wU 9 rfl ?_
                    (try simp only [Act.put, zS])
                    refine wU 10 rfl ?_
                    (try simp only [Act.put, zS])
                    refine wU 11 rfl ?_
                    (try simp only [Act.put, zS])
                    refine wT 12 ?_ rfl ?_ ?_
                    rotate_left
                    · intro wS hSw
                      (try dsimp only at hSw)
                      go_simp
                      (try with_reducible rfl)
                    (try simp only [Act.put, zS])
                    refine wT 13 ?_ rfl ?_ ?_
                    rotate_left
                    · intro wS hSw
                      (try dsimp only at hSw)
                      go_simp
                      (try with_reducible rfl)
                    (try simp only [Act.put, zS])
                    refine wpAnyH_done (by kernel_rfl) ?_ _
                    go_wp2_with fail
                    go_roundw
                    case rel => exact ⟨q2, by have := HQ1.out; omega, by first | rfl | go_num, by rw [← HQ1.out.2, tok_succ, HTQ.out]; first | rfl | simp, HBW2.out.drew⟩
                    case measure => have := HQ1.out; simp [intOf] <;> omega
                · obtain rfl : q = m := by omega
                  have q1 : ¬ (q : Int) < (q : Int) := by omega
                  rw [show tokB S tk q = Q k by rw [tok_all, ← HTK.out, ← HQ.out]; rfl]
                  have c2 : wr.cell? ⟨bx, ofx + k * 5 + 2, none⟩ = some (.string pk) := by
                    have h9 := HRX.out 2 (.string (X k).pth) rfl
                    rw [HPT.out] at h9; exact h9
                  have HC0 : Hid (wr.cell? ⟨bx, ofx + k * 5, none⟩ = some (.string ik)) := Lib.hid (by
                    have h9 := HRX.out 0 (.string (X k).id) rfl
                    rw [HIK.out] at h9; exact h9)
                  have hPk : P k = Lib.hasPrefix pk.data.toList p.data.toList := by rw [← HP.out, ← HPT.out]; rfl
                  have pk0 : (pk.size : Int) ≤ 9223372036854775807 := by have h9 := (HL.out k HK.out).2.2.1; rw [HPT.out] at h9; unfold maxLen at h9; omega
                  clear hq hqm
                  rcases Nat.lt_or_ge pk.size p.size with hsz | hsz
                  · have f1 : ¬ (p.size : Int) ≤ (pk.size : Int) := by omega
                    rw [px_short hsz] at hPk
                    have HPK := Lib.hid hPk
                    clear hPk hsz
                    cases hqk : Q k
                    · as_aux_lemma =>
                      have HQK := Lib.hid hqk
                      clear hqk
                      have haty := fl_at (nt_f HPK.out) HK.out
                      rw [HE.out.1.1, HLN.out.1.1] at haty
                      obtain ⟨bg, fg, eqy, hry⟩ := (HY5.out.later HBW2.out) i haty.1
                      subst eqy
                      have ny1 : (i : Int) < (yl : Int) := by have := haty.1; omega
                      have ny2 : ¬ (yl : Int) ≤ (i : Int) := by omega
                      have ny3 : (0 : Int) ≤ (i : Int) := by omega
                      have hSW0 : wr.drew.rangeAt bg (fg + i * 5) CX.toList ∧ wr.drew.rangeAt bx (ofx + k * 5) CX.toList := by
                        have h8 : wr.rangeAt bg (fg + i * 5) (leL (X ((fl (nt P) n).getD i 0))) := hry
                        rw [haty.2] at h8
                        exact ⟨by rw [← HCX.out]; exact h8, by rw [← HCX.out]; exact HRX.out⟩
                      clear haty hry
                      go_upto_region 20 with fail
                      refine wp_region_held_drew (S := (fun X => X.rangeAt bg (fg + i * 5) CX.toList ∧ X.rangeAt bx (ofx + k * 5) CX.toList)) (by kernel_rfl) ?_ (fun hHeld => ?_)
                      · (try dsimp only)
                        (first | assumption | (dsimp only; assumption))
                      refine wT 0 ?_ rfl ?_ ?_
                      rotate_left
                      · intro wS hSw
                        (try dsimp only at hSw)
                        go_simp
                        (try with_reducible rfl)
                      (try simp only [Act.put, zS])
                      refine wT 1 ?_ rfl ?_ ?_
                      rotate_left
                      · intro wS hSw
                        (try dsimp only at hSw)
                        go_simp
                        (try with_reducible rfl)
                      (try simp only [Act.put, zS])
                      refine wT 2 ?_ rfl ?_ ?_
                      rotate_left
                      · intro wS hSw
                        (try dsimp only at hSw)
                        go_simp
                        (try with_reducible rfl)
                      (try simp only [Act.put, zS])
                      refine wT 3 (.bool false) rfl ?_ ?_
                      · intro wS hSw
                        (go_simp; first | done | omega | (simp; omega))
                      (try simp only [Act.put, zS])
                      refine wT 4 ?_ rfl ?_ ?_
                      rotate_left
                      · intro wS hSw
                        (try dsimp only at hSw)
                        go_simp
                        (try with_reducible rfl)
                      (try simp only [Act.put, zS])
                      refine wT 5 ?_ rfl ?_ ?_
                      rotate_left
                      · intro wS hSw
                        (try dsimp only at hSw)
                        go_simp
                        (try with_reducible rfl)
                      (try simp only [Act.put, zS])
                      refine wT 6 ?_ rfl ?_ ?_
                      rotate_left
                      · intro wS hSw
                        (try dsimp only at hSw)
                        go_simp
                        (try with_reducible rfl)
                      (try simp only [Act.put, zS])
                      refine wT 7 ?_ rfl ?_ ?_
                      rotate_left
                      · intro wS hSw
                        (try dsimp only at hSw)
                        go_simp
                        (try with_reducible rfl)
                      (try simp only [Act.put, zS])
                      refine wT 8 ?_ rfl ?_ ?_
                      rotate_left
                      · intro wS hSw
                        refine exec_loadA (x := .tmp 122) (C := CX) ?_ ?_ hSw.1 Tryz.underlying33 ?_ HIS.out <;> rfl
                      (try simp only [Act.put, zS])
                      refine wT 9 ?_ rfl ?_ ?_
                      rotate_left
                      · intro wS hSw
                        (try dsimp only at hSw)
                        go_simp
                        (try with_reducible rfl)
                      (try simp only [Act.put, zS])
                      refine wT 10 ?_ rfl ?_ ?_
                      rotate_left
                      · intro wS hSw
                        (try dsimp only at hSw)
                        go_simp
                        (try with_reducible rfl)
                      (try simp only [Act.put, zS])
                      refine wT 11 ?_ rfl ?_ ?_
                      rotate_left
                      · intro wS hSw
                        (try dsimp only at hSw)
                        go_simp
                        (try with_reducible rfl)
                      (try simp only [Act.put, zS])
                      refine wT 12 ?_ rfl ?_ ?_
                      rotate_left
                      · intro wS hSw
                        refine exec_loadA (x := .tmp 126) (C := CX) ?_ ?_ hSw.2 Tryz.underlying33 ?_ HIS.out <;> rfl
                      (try simp only [Act.put, zS])
                      refine wT 13 (.bool false) rfl ?_ ?_
                      · intro wS hSw
                        refine exec_neqL (x := .tmp 123) (y := .tmp 127) (r := 33) (C := CX) (D := CX) (b := true) ?_ ?_ ?_ HEQ.out <;> rfl
                      (try simp only [Act.put, zS])
                      refine wT 14 ?_ rfl ?_ ?_
                      rotate_left
                      · intro wS hSw
                        (try dsimp only at hSw)
                        go_simp
                        (try with_reducible rfl)
                      (try simp only [Act.put, zS])
                      refine wpAnyH_done (by kernel_rfl) ?_ _
                      have hatz := fl_at (nt_f HQK.out) HK.out
                      rw [HE.out.2.1, HLN.out.2.1] at hatz
                      obtain ⟨bh, fh, eqz, hrz⟩ := (HZ5.out.later HBW2.out) j hatz.1
                      subst eqz
                      have nz1 : (j : Int) < (zl : Int) := by have := hatz.1; omega
                      have nz2 : ¬ (zl : Int) ≤ (j : Int) := by omega
                      have nz3 : (0 : Int) ≤ (j : Int) := by omega
                      have hSW1 : wr.drew.drew.rangeAt bh (fh + j * 5) CX.toList ∧ wr.drew.drew.rangeAt bx (ofx + k * 5) CX.toList := by
                        have h8 : wr.rangeAt bh (fh + j * 5) (leL (X ((fl (nt Q) n).getD j 0))) := hrz
                        rw [hatz.2] at h8
                        exact ⟨by rw [← HCX.out]; exact h8, by rw [← HCX.out]; exact HRX.out⟩
                      clear hatz hrz
                      go_upto_region 26 with fail
                      refine wp_region_held_drew (S := (fun X => X.rangeAt bh (fh + j * 5) CX.toList ∧ X.rangeAt bx (ofx + k * 5) CX.toList)) (by kernel_rfl) ?_ (fun hHeld => ?_)
                      · (try dsimp only)
                        (first | assumption | (dsimp only; assumption))
                      refine wT 0 ?_ rfl ?_ ?_
                      rotate_left
                      · intro wS hSw
                        (try dsimp only at hSw)
                        go_simp
                        (try with_reducible rfl)
                      (try simp only [Act.put, zS])
                      refine wT 1 ?_ rfl ?_ ?_
                      rotate_left
                      · intro wS hSw
                        (try dsimp only at hSw)
                        go_simp
                        (try with_reducible rfl)
                      (try simp only [Act.put, zS])
                      refine wT 2 ?_ rfl ?_ ?_
                      rotate_left
                      · intro wS hSw
                        (try dsimp only at hSw)
                        go_simp
                        (try with_reducible rfl)
                      (try simp only [Act.put, zS])
                      refine wT 3 (.bool false) rfl ?_ ?_
                      · intro wS hSw
                        (go_simp; first | done | omega | (simp; omega))
                      (try simp only [Act.put, zS])
                      refine wT 4 ?_ rfl ?_ ?_
                      rotate_left
                      · intro wS hSw
                        (try dsimp only at hSw)
                        go_simp
                        (try with_reducible rfl)
                      (try simp only [Act.put, zS])
                      refine wT 5 ?_ rfl ?_ ?_
                      rotate_left
                      · intro wS hSw
                        (try dsimp only at hSw)
                        go_simp
                        (try with_reducible rfl)
                      (try simp only [Act.put, zS])
                      refine wT 6 ?_ rfl ?_ ?_
                      rotate_left
                      · intro wS hSw
                        (try dsimp only at hSw)
                        go_simp
                        (try with_reducible rfl)
                      (try simp only [Act.put, zS])
                      refine wT 7 ?_ rfl ?_ ?_
                      rotate_left
                      · intro wS hSw
                        (try dsimp only at hSw)
                        go_simp
                        (try with_reducible rfl)
                      (try simp only [Act.put, zS])
                      refine wT 8 ?_ rfl ?_ ?_
                      rotate_left
                      · intro wS hSw
                        refine exec_loadA (x := .tmp 160) (C := CX) ?_ ?_ hSw.1 Tryz.underlying33 ?_ HIS.out <;> rfl
                      (try simp only [Act.put, zS])
                      refine wT 9 ?_ rfl ?_ ?_
                      rotate_left
                      · intro wS hSw
                        (try dsimp only at hSw)
                        go_simp
                        (try with_reducible rfl)
                      (try simp only [Act.put, zS])
                      refine wT 10 ?_ rfl ?_ ?_
                      rotate_left
                      · intro wS hSw
                        (try dsimp only at hSw)
                        go_simp
                        (try with_reducible rfl)
                      (try simp only [Act.put, zS])
                      refine wT 11 ?_ rfl ?_ ?_
                      rotate_left
                      · intro wS hSw
                        (try dsimp only at hSw)
                        go_simp
                        (try with_reducible rfl)
                      (try simp only [Act.put, zS])
                      refine wT 12 ?_ rfl ?_ ?_
                      rotate_left
                      · intro wS hSw
                        refine exec_loadA (x := .tmp 164) (C := CX) ?_ ?_ hSw.2 Tryz.underlying33 ?_ HIS.out <;> rfl
                      (try simp only [Act.put, zS])
                      refine wT 13 (.bool false) rfl ?_ ?_
                      · intro wS hSw
                        refine exec_neqL (x := .tmp 161) (y := .tmp 165) (r := 33) (C := CX) (D := CX) (b := true) ?_ ?_ ?_ HEQ.out <;> rfl
                      (try simp only [Act.put, zS])
                      refine wT 14 ?_ rfl ?_ ?_
                      rotate_left
                      · intro wS hSw
                        (try dsimp only at hSw)
                        go_simp
                        (try with_reducible rfl)
                      (try simp only [Act.put, zS])
                      refine wpAnyH_done (by kernel_rfl) ?_ _
                      go_wp2_with fail
                      go_roundw
                      case rel => exact ⟨k2, by have := HK.out; have := HK2.out; omega, by first | rfl | go_num, by rw [← HK2.out, fl_yes (nt_f HPK.out), List.length_append, List.length_singleton, HE.out.1.1] <;> first | rfl | (push_cast; rfl) | go_num, by rw [← HK2.out, fl_yes (nt_f HQK.out), List.length_append, List.length_singleton, HE.out.2.1] <;> first | rfl | (push_cast; rfl) | go_num, HBW2.out.drew.drew⟩
                      case measure => have := HK.out; have := HK2.out; simp [intOf] <;> omega
                    · as_aux_lemma =>
                      have HQK := Lib.hid hqk
                      clear hqk
                      have haty := fl_at (nt_f HPK.out) HK.out
                      rw [HE.out.1.1, HLN.out.1.1] at haty
                      obtain ⟨bg, fg, eqy, hry⟩ := (HY5.out.later HBW2.out) i haty.1
                      subst eqy
                      have ny1 : (i : Int) < (yl : Int) := by have := haty.1; omega
                      have ny2 : ¬ (yl : Int) ≤ (i : Int) := by omega
                      have ny3 : (0 : Int) ≤ (i : Int) := by omega
                      have hSW0 : wr.drew.rangeAt bg (fg + i * 5) CX.toList ∧ wr.drew.rangeAt bx (ofx + k * 5) CX.toList := by
                        have h8 : wr.rangeAt bg (fg + i * 5) (leL (X ((fl (nt P) n).getD i 0))) := hry
                        rw [haty.2] at h8
                        exact ⟨by rw [← HCX.out]; exact h8, by rw [← HCX.out]; exact HRX.out⟩
                      clear haty hry
                      go_upto_region 20 with fail
                      refine wp_region_held_drew (S := (fun X => X.rangeAt bg (fg + i * 5) CX.toList ∧ X.rangeAt bx (ofx + k * 5) CX.toList)) (by kernel_rfl) ?_ (fun hHeld => ?_)
                      · (try dsimp only)
                        (first | assumption | (dsimp only; assumption))
                      refine wT 0 ?_ rfl ?_ ?_
                      rotate_left
                      · intro wS hSw
                        (try dsimp only at hSw)
                        go_simp
                        (try with_reducible rfl)
                      (try simp only [Act.put, zS])
                      refine wT 1 ?_ rfl ?_ ?_
                      rotate_left
                      · intro wS hSw
                        (try dsimp only at hSw)
                        go_simp
                        (try with_reducible rfl)
                      (try simp only [Act.put, zS])
                      refine wT 2 ?_ rfl ?_ ?_
                      rotate_left
                      · intro wS hSw
                        (try dsimp only at hSw)
                        go_simp
                        (try with_reducible rfl)
                      (try simp only [Act.put, zS])
                      refine wT 3 (.bool false) rfl ?_ ?_
                      · intro wS hSw
                        (go_simp; first | done | omega | (simp; omega))
                      (try simp only [Act.put, zS])
                      refine wT 4 ?_ rfl ?_ ?_
                      rotate_left
                      · intro wS hSw
                        (try dsimp only at hSw)
                        go_simp
                        (try with_reducible rfl)
                      (try simp only [Act.put, zS])
                      refine wT 5 ?_ rfl ?_ ?_
                      rotate_left
                      · intro wS hSw
                        (try dsimp only at hSw)
                        go_simp
                        (try with_reducible rfl)
                      (try simp only [Act.put, zS])
                      refine wT 6 ?_ rfl ?_ ?_
                      rotate_left
                      · intro wS hSw
                        (try dsimp only at hSw)
                        go_simp
                        (try with_reducible rfl)
                      (try simp only [Act.put, zS])
                      refine wT 7 ?_ rfl ?_ ?_
                      rotate_left
                      · intro wS hSw
                        (try dsimp only at hSw)
                        go_simp
                        (try with_reducible rfl)
                      (try simp only [Act.put, zS])
                      refine wT 8 ?_ rfl ?_ ?_
                      rotate_left
                      · intro wS hSw
                        refine exec_loadA (x := .tmp 122) (C := CX) ?_ ?_ hSw.1 Tryz.underlying33 ?_ HIS.out <;> rfl
                      (try simp only [Act.put, zS])
                      refine wT 9 ?_ rfl ?_ ?_
                      rotate_left
                      · intro wS hSw
                        (try dsimp only at hSw)
                        go_simp
                        (try with_reducible rfl)
                      (try simp only [Act.put, zS])
                      refine wT 10 ?_ rfl ?_ ?_
                      rotate_left
                      · intro wS hSw
                        (try dsimp only at hSw)
                        go_simp
                        (try with_reducible rfl)
                      (try simp only [Act.put, zS])
                      refine wT 11 ?_ rfl ?_ ?_
                      rotate_left
                      · intro wS hSw
                        (try dsimp only at hSw)
                        go_simp
                        (try with_reducible rfl)
                      (try simp only [Act.put, zS])
                      refine wT 12 ?_ rfl ?_ ?_
                      rotate_left
                      · intro wS hSw
                        refine exec_loadA (x := .tmp 126) (C := CX) ?_ ?_ hSw.2 Tryz.underlying33 ?_ HIS.out <;> rfl
                      (try simp only [Act.put, zS])
                      refine wT 13 (.bool false) rfl ?_ ?_
                      · intro wS hSw
                        refine exec_neqL (x := .tmp 123) (y := .tmp 127) (r := 33) (C := CX) (D := CX) (b := true) ?_ ?_ ?_ HEQ.out <;> rfl
                      (try simp only [Act.put, zS])
                      refine wT 14 ?_ rfl ?_ ?_
                      rotate_left
                      · intro wS hSw
                        (try dsimp only at hSw)
                        go_simp
                        (try with_reducible rfl)
                      (try simp only [Act.put, zS])
                      refine wpAnyH_done (by kernel_rfl) ?_ _
                      have hath := fl_at (HQK.out) HK.out
                      rw [HE.out.2.2, HLN.out.2.2] at hath
                      obtain ⟨bh, fh, eqh, hrh⟩ := (HH5.out.later HBW2.out) e2 hath.1
                      subst eqh
                      have nh1 : (e2 : Int) < (wl : Int) := by have := hath.1; omega
                      have nh2 : ¬ (wl : Int) ≤ (e2 : Int) := by omega
                      have nh3 : (0 : Int) ≤ (e2 : Int) := by omega
                      have nh4 : (k : Int) - (j : Int) = (e2 : Int) := by have := HSE.out; omega
                      have nh5 : IntKind.i64.wrap (e2 : Int) = (e2 : Int) := IntWalk.i64_in _ (by omega)
                      have hSW1 : wr.drew.drew.cell? ⟨bh, fh + e2, none⟩ = some (.string ik) ∧ wr.drew.drew.cell? ⟨bx, ofx + k * 5, none⟩ = some (.string ik) := by
                        have h8 := hrh 0 (.string (X ((fl (Q) n).getD e2 0)).id) rfl
                        rw [hath.2, HIK.out, Nat.mul_one, Nat.add_zero] at h8
                        exact ⟨by simpa using h8, by simpa using HC0.out⟩
                      clear hath hrh
                      go_upto_region 24 with fail
                      refine wp_region_held_drew (S := (fun X => X.cell? ⟨bh, fh + e2, none⟩ = some (.string ik) ∧ X.cell? ⟨bx, ofx + k * 5, none⟩ = some (.string ik))) (by kernel_rfl) ?_ (fun hHeld => ?_)
                      · (try dsimp only)
                        (first | assumption | (dsimp only; assumption))
                      refine wT 0 ?_ rfl ?_ ?_
                      rotate_left
                      · intro wS hSw
                        (try dsimp only at hSw)
                        go_simp
                        (try with_reducible rfl)
                      (try simp only [Act.put, zS])
                      refine wT 1 ?_ rfl ?_ ?_
                      rotate_left
                      · intro wS hSw
                        (try dsimp only at hSw)
                        go_simp
                        (try with_reducible rfl)
                      (try simp only [Act.put, zS])
                      refine wT 2 ?_ rfl ?_ ?_
                      rotate_left
                      · intro wS hSw
                        (try dsimp only at hSw)
                        go_simp
                        (try with_reducible rfl)
                      (try simp only [Act.put, zS])
                      refine wT 3 ?_ rfl ?_ ?_
                      rotate_left
                      · intro wS hSw
                        (try dsimp only at hSw)
                        go_simp
                        (try with_reducible rfl)
                      (try simp only [Act.put, zS])
                      refine wT 4 ?_ rfl ?_ ?_
                      rotate_left
                      · intro wS hSw
                        (try dsimp only at hSw)
                        go_simp
                        (try with_reducible rfl)
                      (try simp only [Act.put, zS])
                      refine wT 5 (.bool false) rfl ?_ ?_
                      · intro wS hSw
                        (go_simp; first | done | omega | (simp; omega))
                      (try simp only [Act.put, zS])
                      refine wT 6 ?_ rfl ?_ ?_
                      rotate_left
                      · intro wS hSw
                        (try dsimp only at hSw)
                        go_simp
                        (try with_reducible rfl)
                      (try simp only [Act.put, zS])
                      refine wT 7 ?_ rfl ?_ ?_
                      rotate_left
                      · intro wS hSw
                        (try dsimp only at hSw)
                        go_simp
                        (try with_reducible rfl)
                      (try simp only [Act.put, zS])
                      refine wT 8 ?_ rfl ?_ ?_
                      rotate_left
                      · intro wS hSw
                        (try dsimp only at hSw)
                        go_simp
                        (try with_reducible rfl)
                      (try simp only [Act.put, zS])
                      refine wT 9 ?_ rfl ?_ ?_
                      rotate_left
                      · intro wS hSw
                        (try dsimp only at hSw)
                        go_simp
                        (try with_reducible rfl)
                      (try simp only [Act.put, zS])
                      refine wT 10 ?_ rfl ?_ ?_
                      rotate_left
                      · intro wS hSw
                        (try dsimp only at hSw)
                        go_simp
                        (try with_reducible rfl)
                      (try simp only [Act.put, zS])
                      refine wT 11 ?_ rfl ?_ ?_
                      rotate_left
                      · intro wS hSw
                        (try dsimp only at hSw)
                        go_simp
                        (try with_reducible rfl)
                      (try simp only [Act.put, zS])
                      refine wT 12 ?_ rfl ?_ ?_
                      rotate_left
                      · intro wS hSw
                        (have c := hSw.1; go_simp; (try with_reducible rfl))
                      (try simp only [Act.put, zS])
                      refine wT 13 ?_ rfl ?_ ?_
                      rotate_left
                      · intro wS hSw
                        (try dsimp only at hSw)
                        go_simp
                        (try with_reducible rfl)
                      (try simp only [Act.put, zS])
                      refine wT 14 ?_ rfl ?_ ?_
                      rotate_left
                      · intro wS hSw
                        (try dsimp only at hSw)
                        go_simp
                        (try with_reducible rfl)
                      (try simp only [Act.put, zS])
                      refine wT 15 ?_ rfl ?_ ?_
                      rotate_left
                      · intro wS hSw
                        (try dsimp only at hSw)
                        go_simp
                        (try with_reducible rfl)
                      (try simp only [Act.put, zS])
                      refine wT 16 ?_ rfl ?_ ?_
                      rotate_left
                      · intro wS hSw
                        (try dsimp only at hSw)
                        go_simp
                        (try with_reducible rfl)
                      (try simp only [Act.put, zS])
                      refine wT 17 ?_ rfl ?_ ?_
                      rotate_left
                      · intro wS hSw
                        (have c := hSw.2; go_simp; (try with_reducible rfl))
                      (try simp only [Act.put, zS])
                      refine wT 18 (.bool false) rfl ?_ ?_
                      · intro wS hSw
                        (go_simp; first | done | simp)
                      (try simp only [Act.put, zS])
                      refine wT 19 ?_ rfl ?_ ?_
                      rotate_left
                      · intro wS hSw
                        (try dsimp only at hSw)
                        go_simp
                        (try with_reducible rfl)
                      (try simp only [Act.put, zS])
                      refine wpAnyH_done (by kernel_rfl) ?_ _
                      go_wp2_with fail
                      go_roundw
                      case rel => exact ⟨k2, by have := HK.out; have := HK2.out; omega, by first | rfl | go_num, by rw [← HK2.out, fl_yes (nt_f HPK.out), List.length_append, List.length_singleton, HE.out.1.1] <;> first | rfl | (push_cast; rfl) | go_num, by rw [← HK2.out, fl_no (nt_t HQK.out), HE.out.2.1] <;> first | rfl | (push_cast; rfl) | go_num, HBW2.out.drew.drew⟩
                      case measure => have := HK.out; have := HK2.out; simp [intOf] <;> omega
                  · have f1 : (p.size : Int) ≤ (pk.size : Int) := by omega
                    have f2 := px_ext hsz
                    rw [← hPk] at f2
                    clear hsz
                    cases hpp : P k
                    · rw [hpp] at f2
                      have HPK := Lib.hid hpp
                      clear hPk hpp
                      cases hqk : Q k
                      · as_aux_lemma =>
                        have HQK := Lib.hid hqk
                        clear hqk
                        have haty := fl_at (nt_f HPK.out) HK.out
                        rw [HE.out.1.1, HLN.out.1.1] at haty
                        obtain ⟨bg, fg, eqy, hry⟩ := (HY5.out.later HBW2.out) i haty.1
                        subst eqy
                        have ny1 : (i : Int) < (yl : Int) := by have := haty.1; omega
                        have ny2 : ¬ (yl : Int) ≤ (i : Int) := by omega
                        have ny3 : (0 : Int) ≤ (i : Int) := by omega
                        have hSW0 : wr.drew.rangeAt bg (fg + i * 5) CX.toList ∧ wr.drew.rangeAt bx (ofx + k * 5) CX.toList := by
                          have h8 : wr.rangeAt bg (fg + i * 5) (leL (X ((fl (nt P) n).getD i 0))) := hry
                          rw [haty.2] at h8
                          exact ⟨by rw [← HCX.out]; exact h8, by rw [← HCX.out]; exact HRX.out⟩
                        clear haty hry
                        go_upto_region 20 with fail
                        refine wp_region_held_drew (S := (fun X => X.rangeAt bg (fg + i * 5) CX.toList ∧ X.rangeAt bx (ofx + k * 5) CX.toList)) (by kernel_rfl) ?_ (fun hHeld => ?_)
                        · (try dsimp only)
                          (first | assumption | (dsimp only; assumption))
                        refine wT 0 ?_ rfl ?_ ?_
                        rotate_left
                        · intro wS hSw
                          (try dsimp only at hSw)
                          go_simp
                          (try with_reducible rfl)
                        (try simp only [Act.put, zS])
                        refine wT 1 ?_ rfl ?_ ?_
                        rotate_left
                        · intro wS hSw
                          (try dsimp only at hSw)
                          go_simp
                          (try with_reducible rfl)
                        (try simp only [Act.put, zS])
                        refine wT 2 ?_ rfl ?_ ?_
                        rotate_left
                        · intro wS hSw
                          (try dsimp only at hSw)
                          go_simp
                          (try with_reducible rfl)
                        (try simp only [Act.put, zS])
                        refine wT 3 (.bool false) rfl ?_ ?_
                        · intro wS hSw
                          (go_simp; first | done | omega | (simp; omega))
                        (try simp only [Act.put, zS])
                        refine wT 4 ?_ rfl ?_ ?_
                        rotate_left
                        · intro wS hSw
                          (try dsimp only at hSw)
                          go_simp
                          (try with_reducible rfl)
                        (try simp only [Act.put, zS])
                        refine wT 5 ?_ rfl ?_ ?_
                        rotate_left
                        · intro wS hSw
                          (try dsimp only at hSw)
                          go_simp
                          (try with_reducible rfl)
                        (try simp only [Act.put, zS])
                        refine wT 6 ?_ rfl ?_ ?_
                        rotate_left
                        · intro wS hSw
                          (try dsimp only at hSw)
                          go_simp
                          (try with_reducible rfl)
                        (try simp only [Act.put, zS])
                        refine wT 7 ?_ rfl ?_ ?_
                        rotate_left
                        · intro wS hSw
                          (try dsimp only at hSw)
                          go_simp
                          (try with_reducible rfl)
                        (try simp only [Act.put, zS])
                        refine wT 8 ?_ rfl ?_ ?_
                        rotate_left
                        · intro wS hSw
                          refine exec_loadA (x := .tmp 122) (C := CX) ?_ ?_ hSw.1 Tryz.underlying33 ?_ HIS.out <;> rfl
                        (try simp only [Act.put, zS])
                        refine wT 9 ?_ rfl ?_ ?_
                        rotate_left
                        · intro wS hSw
                          (try dsimp only at hSw)
                          go_simp
                          (try with_reducible rfl)
                        (try simp only [Act.put, zS])
                        refine wT 10 ?_ rfl ?_ ?_
                        rotate_left
                        · intro wS hSw
                          (try dsimp only at hSw)
                          go_simp
                          (try with_reducible rfl)
                        (try simp only [Act.put, zS])
                        refine wT 11 ?_ rfl ?_ ?_
                        rotate_left
                        · intro wS hSw
                          (try dsimp only at hSw)
                          go_simp
                          (try with_reducible rfl)
                        (try simp only [Act.put, zS])
                        refine wT 12 ?_ rfl ?_ ?_
                        rotate_left
                        · intro wS hSw
                          refine exec_loadA (x := .tmp 126) (C := CX) ?_ ?_ hSw.2 Tryz.underlying33 ?_ HIS.out <;> rfl
                        (try simp only [Act.put, zS])
                        refine wT 13 (.bool false) rfl ?_ ?_
                        · intro wS hSw
                          refine exec_neqL (x := .tmp 123) (y := .tmp 127) (r := 33) (C := CX) (D := CX) (b := true) ?_ ?_ ?_ HEQ.out <;> rfl
                        (try simp only [Act.put, zS])
                        refine wT 14 ?_ rfl ?_ ?_
                        rotate_left
                        · intro wS hSw
                          (try dsimp only at hSw)
                          go_simp
                          (try with_reducible rfl)
                        (try simp only [Act.put, zS])
                        refine wpAnyH_done (by kernel_rfl) ?_ _
                        have hatz := fl_at (nt_f HQK.out) HK.out
                        rw [HE.out.2.1, HLN.out.2.1] at hatz
                        obtain ⟨bh, fh, eqz, hrz⟩ := (HZ5.out.later HBW2.out) j hatz.1
                        subst eqz
                        have nz1 : (j : Int) < (zl : Int) := by have := hatz.1; omega
                        have nz2 : ¬ (zl : Int) ≤ (j : Int) := by omega
                        have nz3 : (0 : Int) ≤ (j : Int) := by omega
                        have hSW1 : wr.drew.drew.rangeAt bh (fh + j * 5) CX.toList ∧ wr.drew.drew.rangeAt bx (ofx + k * 5) CX.toList := by
                          have h8 : wr.rangeAt bh (fh + j * 5) (leL (X ((fl (nt Q) n).getD j 0))) := hrz
                          rw [hatz.2] at h8
                          exact ⟨by rw [← HCX.out]; exact h8, by rw [← HCX.out]; exact HRX.out⟩
                        clear hatz hrz
                        go_upto_region 26 with fail
                        refine wp_region_held_drew (S := (fun X => X.rangeAt bh (fh + j * 5) CX.toList ∧ X.rangeAt bx (ofx + k * 5) CX.toList)) (by kernel_rfl) ?_ (fun hHeld => ?_)
                        · (try dsimp only)
                          (first | assumption | (dsimp only; assumption))
                        refine wT 0 ?_ rfl ?_ ?_
                        rotate_left
                        · intro wS hSw
                          (try dsimp only at hSw)
                          go_simp
                          (try with_reducible rfl)
                        (try simp only [Act.put, zS])
                        refine wT 1 ?_ rfl ?_ ?_
                        rotate_left
                        · intro wS hSw
                          (try dsimp only at hSw)
                          go_simp
                          (try with_reducible rfl)
                        (try simp only [Act.put, zS])
                        refine wT 2 ?_ rfl ?_ ?_
                        rotate_left
                        · intro wS hSw
                          (try dsimp only at hSw)
                          go_simp
                          (try with_reducible rfl)
                        (try simp only [Act.put, zS])
                        refine wT 3 (.bool false) rfl ?_ ?_
                        · intro wS hSw
                          (go_simp; first | done | omega | (simp; omega))
                        (try simp only [Act.put, zS])
                        refine wT 4 ?_ rfl ?_ ?_
                        rotate_left
                        · intro wS hSw
                          (try dsimp only at hSw)
                          go_simp
                          (try with_reducible rfl)
                        (try simp only [Act.put, zS])
                        refine wT 5 ?_ rfl ?_ ?_
                        rotate_left
                        · intro wS hSw
                          (try dsimp only at hSw)
                          go_simp
                          (try with_reducible rfl)
                        (try simp only [Act.put, zS])
                        refine wT 6 ?_ rfl ?_ ?_
                        rotate_left
                        · intro wS hSw
                          (try dsimp only at hSw)
                          go_simp
                          (try with_reducible rfl)
                        (try simp only [Act.put, zS])
                        refine wT 7 ?_ rfl ?_ ?_
                        rotate_left
                        · intro wS hSw
                          (try dsimp only at hSw)
                          go_simp
                          (try with_reducible rfl)
                        (try simp only [Act.put, zS])
                        refine wT 8 ?_ rfl ?_ ?_
                        rotate_left
                        · intro wS hSw
                          refine exec_loadA (x := .tmp 160) (C := CX) ?_ ?_ hSw.1 Tryz.underlying33 ?_ HIS.out <;> rfl
                        (try simp only [Act.put, zS])
                        refine wT 9 ?_ rfl ?_ ?_
                        rotate_left
                        · intro wS hSw
                          (try dsimp only at hSw)
                          go_simp
                          (try with_reducible rfl)
                        (try simp only [Act.put, zS])
                        refine wT 10 ?_ rfl ?_ ?_
                        rotate_left
                        · intro wS hSw
                          (try dsimp only at hSw)
                          go_simp
                          (try with_reducible rfl)
                        (try simp only [Act.put, zS])
                        refine wT 11 ?_ rfl ?_ ?_
                        rotate_left
                        · intro wS hSw
                          (try dsimp only at hSw)
                          go_simp
                          (try with_reducible rfl)
                        (try simp only [Act.put, zS])
                        refine wT 12 ?_ rfl ?_ ?_
                        rotate_left
                        · intro wS hSw
                          refine exec_loadA (x := .tmp 164) (C := CX) ?_ ?_ hSw.2 Tryz.underlying33 ?_ HIS.out <;> rfl
                        (try simp only [Act.put, zS])
                        refine wT 13 (.bool false) rfl ?_ ?_
                        · intro wS hSw
                          refine exec_neqL (x := .tmp 161) (y := .tmp 165) (r := 33) (C := CX) (D := CX) (b := true) ?_ ?_ ?_ HEQ.out <;> rfl
                        (try simp only [Act.put, zS])
                        refine wT 14 ?_ rfl ?_ ?_
                        rotate_left
                        · intro wS hSw
                          (try dsimp only at hSw)
                          go_simp
                          (try with_reducible rfl)
                        (try simp only [Act.put, zS])
                        refine wpAnyH_done (by kernel_rfl) ?_ _
                        go_wp2_with fail
                        go_roundw
                        case rel => exact ⟨k2, by have := HK.out; have := HK2.out; omega, by first | rfl | go_num, by rw [← HK2.out, fl_yes (nt_f HPK.out), List.length_append, List.length_singleton, HE.out.1.1] <;> first | rfl | (push_cast; rfl) | go_num, by rw [← HK2.out, fl_yes (nt_f HQK.out), List.length_append, List.length_singleton, HE.out.2.1] <;> first | rfl | (push_cast; rfl) | go_num, HBW2.out.drew.drew⟩
                        case measure => have := HK.out; have := HK2.out; simp [intOf] <;> omega
                      · as_aux_lemma =>
                        have HQK := Lib.hid hqk
                        clear hqk
                        have haty := fl_at (nt_f HPK.out) HK.out
                        rw [HE.out.1.1, HLN.out.1.1] at haty
                        obtain ⟨bg, fg, eqy, hry⟩ := (HY5.out.later HBW2.out) i haty.1
                        subst eqy
                        have ny1 : (i : Int) < (yl : Int) := by have := haty.1; omega
                        have ny2 : ¬ (yl : Int) ≤ (i : Int) := by omega
                        have ny3 : (0 : Int) ≤ (i : Int) := by omega
                        have hSW0 : wr.drew.rangeAt bg (fg + i * 5) CX.toList ∧ wr.drew.rangeAt bx (ofx + k * 5) CX.toList := by
                          have h8 : wr.rangeAt bg (fg + i * 5) (leL (X ((fl (nt P) n).getD i 0))) := hry
                          rw [haty.2] at h8
                          exact ⟨by rw [← HCX.out]; exact h8, by rw [← HCX.out]; exact HRX.out⟩
                        clear haty hry
                        go_upto_region 20 with fail
                        refine wp_region_held_drew (S := (fun X => X.rangeAt bg (fg + i * 5) CX.toList ∧ X.rangeAt bx (ofx + k * 5) CX.toList)) (by kernel_rfl) ?_ (fun hHeld => ?_)
                        · (try dsimp only)
                          (first | assumption | (dsimp only; assumption))
                        refine wT 0 ?_ rfl ?_ ?_
                        rotate_left
                        · intro wS hSw
                          (try dsimp only at hSw)
                          go_simp
                          (try with_reducible rfl)
                        (try simp only [Act.put, zS])
                        refine wT 1 ?_ rfl ?_ ?_
                        rotate_left
                        · intro wS hSw
                          (try dsimp only at hSw)
                          go_simp
                          (try with_reducible rfl)
                        (try simp only [Act.put, zS])
                        refine wT 2 ?_ rfl ?_ ?_
                        rotate_left
                        · intro wS hSw
                          (try dsimp only at hSw)
                          go_simp
                          (try with_reducible rfl)
                        (try simp only [Act.put, zS])
                        refine wT 3 (.bool false) rfl ?_ ?_
                        · intro wS hSw
                          (go_simp; first | done | omega | (simp; omega))
                        (try simp only [Act.put, zS])
                        refine wT 4 ?_ rfl ?_ ?_
                        rotate_left
                        · intro wS hSw
                          (try dsimp only at hSw)
                          go_simp
                          (try with_reducible rfl)
                        (try simp only [Act.put, zS])
                        refine wT 5 ?_ rfl ?_ ?_
                        rotate_left
                        · intro wS hSw
                          (try dsimp only at hSw)
                          go_simp
                          (try with_reducible rfl)
                        (try simp only [Act.put, zS])
                        refine wT 6 ?_ rfl ?_ ?_
                        rotate_left
                        · intro wS hSw
                          (try dsimp only at hSw)
                          go_simp
                          (try with_reducible rfl)
                        (try simp only [Act.put, zS])
                        refine wT 7 ?_ rfl ?_ ?_
                        rotate_left
                        · intro wS hSw
                          (try dsimp only at hSw)
                          go_simp
                          (try with_reducible rfl)
                        (try simp only [Act.put, zS])
                        refine wT 8 ?_ rfl ?_ ?_
                        rotate_left
                        · intro wS hSw
                          refine exec_loadA (x := .tmp 122) (C := CX) ?_ ?_ hSw.1 Tryz.underlying33 ?_ HIS.out <;> rfl
                        (try simp only [Act.put, zS])
                        refine wT 9 ?_ rfl ?_ ?_
                        rotate_left
                        · intro wS hSw
                          (try dsimp only at hSw)
                          go_simp
                          (try with_reducible rfl)
                        (try simp only [Act.put, zS])
                        refine wT 10 ?_ rfl ?_ ?_
                        rotate_left
                        · intro wS hSw
                          (try dsimp only at hSw)
                          go_simp
                          (try with_reducible rfl)
                        (try simp only [Act.put, zS])
                        refine wT 11 ?_ rfl ?_ ?_
                        rotate_left
                        · intro wS hSw
                          (try dsimp only at hSw)
                          go_simp
                          (try with_reducible rfl)
                        (try simp only [Act.put, zS])
                        refine wT 12 ?_ rfl ?_ ?_
                        rotate_left
                        · intro wS hSw
                          refine exec_loadA (x := .tmp 126) (C := CX) ?_ ?_ hSw.2 Tryz.underlying33 ?_ HIS.out <;> rfl
                        (try simp only [Act.put, zS])
                        refine wT 13 (.bool false) rfl ?_ ?_
                        · intro wS hSw
                          refine exec_neqL (x := .tmp 123) (y := .tmp 127) (r := 33) (C := CX) (D := CX) (b := true) ?_ ?_ ?_ HEQ.out <;> rfl
                        (try simp only [Act.put, zS])
                        refine wT 14 ?_ rfl ?_ ?_
                        rotate_left
                        · intro wS hSw
                          (try dsimp only at hSw)
                          go_simp
                          (try with_reducible rfl)
                        (try simp only [Act.put, zS])
                        refine wpAnyH_done (by kernel_rfl) ?_ _
                        have hath := fl_at (HQK.out) HK.out
                        rw [HE.out.2.2, HLN.out.2.2] at hath
                        obtain ⟨bh, fh, eqh, hrh⟩ := (HH5.out.later HBW2.out) e2 hath.1
                        subst eqh
                        have nh1 : (e2 : Int) < (wl : Int) := by have := hath.1; omega
                        have nh2 : ¬ (wl : Int) ≤ (e2 : Int) := by omega
                        have nh3 : (0 : Int) ≤ (e2 : Int) := by omega
                        have nh4 : (k : Int) - (j : Int) = (e2 : Int) := by have := HSE.out; omega
                        have nh5 : IntKind.i64.wrap (e2 : Int) = (e2 : Int) := IntWalk.i64_in _ (by omega)
                        have hSW1 : wr.drew.drew.cell? ⟨bh, fh + e2, none⟩ = some (.string ik) ∧ wr.drew.drew.cell? ⟨bx, ofx + k * 5, none⟩ = some (.string ik) := by
                          have h8 := hrh 0 (.string (X ((fl (Q) n).getD e2 0)).id) rfl
                          rw [hath.2, HIK.out, Nat.mul_one, Nat.add_zero] at h8
                          exact ⟨by simpa using h8, by simpa using HC0.out⟩
                        clear hath hrh
                        go_upto_region 24 with fail
                        refine wp_region_held_drew (S := (fun X => X.cell? ⟨bh, fh + e2, none⟩ = some (.string ik) ∧ X.cell? ⟨bx, ofx + k * 5, none⟩ = some (.string ik))) (by kernel_rfl) ?_ (fun hHeld => ?_)
                        · (try dsimp only)
                          (first | assumption | (dsimp only; assumption))
                        refine wT 0 ?_ rfl ?_ ?_
                        rotate_left
                        · intro wS hSw
                          (try dsimp only at hSw)
                          go_simp
                          (try with_reducible rfl)
                        (try simp only [Act.put, zS])
                        refine wT 1 ?_ rfl ?_ ?_
                        rotate_left
                        · intro wS hSw
                          (try dsimp only at hSw)
                          go_simp
                          (try with_reducible rfl)
                        (try simp only [Act.put, zS])
                        refine wT 2 ?_ rfl ?_ ?_
                        rotate_left
                        · intro wS hSw
                          (try dsimp only at hSw)
                          go_simp
                          (try with_reducible rfl)
                        (try simp only [Act.put, zS])
                        refine wT 3 ?_ rfl ?_ ?_
                        rotate_left
                        · intro wS hSw
                          (try dsimp only at hSw)
                          go_simp
                          (try with_reducible rfl)
                        (try simp only [Act.put, zS])
                        refine wT 4 ?_ rfl ?_ ?_
                        rotate_left
                        · intro wS hSw
                          (try dsimp only at hSw)
                          go_simp
                          (try with_reducible rfl)
                        (try simp only [Act.put, zS])
                        refine wT 5 (.bool false) rfl ?_ ?_
                        · intro wS hSw
                          (go_simp; first | done | omega | (simp; omega))
                        (try simp only [Act.put, zS])
                        refine wT 6 ?_ rfl ?_ ?_
                        rotate_left
                        · intro wS hSw
                          (try dsimp only at hSw)
                          go_simp
                          (try with_reducible rfl)
                        (try simp only [Act.put, zS])
                        refine wT 7 ?_ rfl ?_ ?_
                        rotate_left
                        · intro wS hSw
                          (try dsimp only at hSw)
                          go_simp
                          (try with_reducible rfl)
                        (try simp only [Act.put, zS])
                        refine wT 8 ?_ rfl ?_ ?_
                        rotate_left
                        · intro wS hSw
                          (try dsimp only at hSw)
                          go_simp
                          (try with_reducible rfl)
                        (try simp only [Act.put, zS])
                        refine wT 9 ?_ rfl ?_ ?_
                        rotate_left
                        · intro wS hSw
                          (try dsimp only at hSw)
                          go_simp
                          (try with_reducible rfl)
                        (try simp only [Act.put, zS])
                        refine wT 10 ?_ rfl ?_ ?_
                        rotate_left
                        · intro wS hSw
                          (try dsimp only at hSw)
                          go_simp
                          (try with_reducible rfl)
                        (try simp only [Act.put, zS])
                        refine wT 11 ?_ rfl ?_ ?_
                        rotate_left
                        · intro wS hSw
                          (try dsimp only at hSw)
                          go_simp
                          (try with_reducible rfl)
                        (try simp only [Act.put, zS])
                        refine wT 12 ?_ rfl ?_ ?_
                        rotate_left
                        · intro wS hSw
                          (have c := hSw.1; go_simp; (try with_reducible rfl))
                        (try simp only [Act.put, zS])
                        refine wT 13 ?_ rfl ?_ ?_
                        rotate_left
                        · intro wS hSw
                          (try dsimp only at hSw)
                          go_simp
                          (try with_reducible rfl)
                        (try simp only [Act.put, zS])
                        refine wT 14 ?_ rfl ?_ ?_
                        rotate_left
                        · intro wS hSw
                          (try dsimp only at hSw)
                          go_simp
                          (try with_reducible rfl)
                        (try simp only [Act.put, zS])
                        refine wT 15 ?_ rfl ?_ ?_
                        rotate_left
                        · intro wS hSw
                          (try dsimp only at hSw)
                          go_simp
                          (try with_reducible rfl)
                        (try simp only [Act.put, zS])
                        refine wT 16 ?_ rfl ?_ ?_
                        rotate_left
                        · intro wS hSw
                          (try dsimp only at hSw)
                          go_simp
                          (try with_reducible rfl)
                        (try simp only [Act.put, zS])
                        refine wT 17 ?_ rfl ?_ ?_
                        rotate_left
                        · intro wS hSw
                          (have c := hSw.2; go_simp; (try with_reducible rfl))
                        (try simp only [Act.put, zS])
                        refine wT 18 (.bool false) rfl ?_ ?_
                        · intro wS hSw
                          (go_simp; first | done | simp)
                        (try simp only [Act.put, zS])
                        refine wT 19 ?_ rfl ?_ ?_
                        rotate_left
                        · intro wS hSw
                          (try dsimp only at hSw)
                          go_simp
                          (try with_reducible rfl)
                        (try simp only [Act.put, zS])
                        refine wpAnyH_done (by kernel_rfl) ?_ _
                        go_wp2_with fail
                        go_roundw
                        case rel => exact ⟨k2, by have := HK.out; have := HK2.out; omega, by first | rfl | go_num, by rw [← HK2.out, fl_yes (nt_f HPK.out), List.length_append, List.length_singleton, HE.out.1.1] <;> first | rfl | (push_cast; rfl) | go_num, by rw [← HK2.out, fl_no (nt_t HQK.out), HE.out.2.1] <;> first | rfl | (push_cast; rfl) | go_num, HBW2.out.drew.drew⟩
                        case measure => have := HK.out; have := HK2.out; simp [intOf] <;> omega
                    · rw [hpp] at f2
                      have HPK := Lib.hid hpp
                      clear hPk hpp
                      cases hqk : Q k
                      · as_aux_lemma =>
                        have HQK := Lib.hid hqk
                        clear hqk
                        have hatg := fl_at (HPK.out) HK.out
                        rw [HE.out.1.2, HLN.out.1.2] at hatg
                        obtain ⟨bg, fg, eqg, hrg⟩ := (HG5.out.later HBW2.out) e1 hatg.1
                        subst eqg
                        have ng1 : (e1 : Int) < (gl : Int) := by have := hatg.1; omega
                        have ng2 : ¬ (gl : Int) ≤ (e1 : Int) := by omega
                        have ng3 : (0 : Int) ≤ (e1 : Int) := by omega
                        have ng4 : (k : Int) - (i : Int) = (e1 : Int) := by have := HSE.out; omega
                        have ng5 : IntKind.i64.wrap (e1 : Int) = (e1 : Int) := IntWalk.i64_in _ (by omega)
                        have hSW0 : wr.drew.cell? ⟨bg, fg + e1, none⟩ = some (.string ik) ∧ wr.drew.cell? ⟨bx, ofx + k * 5, none⟩ = some (.string ik) := by
                          have h8 := hrg 0 (.string (X ((fl (P) n).getD e1 0)).id) rfl
                          rw [hatg.2, HIK.out, Nat.mul_one, Nat.add_zero] at h8
                          exact ⟨by simpa using h8, by simpa using HC0.out⟩
                        clear hatg hrg
                        go_upto_region 18 with fail
                        refine wp_region_held_drew (S := (fun X => X.cell? ⟨bg, fg + e1, none⟩ = some (.string ik) ∧ X.cell? ⟨bx, ofx + k * 5, none⟩ = some (.string ik))) (by kernel_rfl) ?_ (fun hHeld => ?_)
                        · (try dsimp only)
                          (first | assumption | (dsimp only; assumption))
                        refine wT 0 ?_ rfl ?_ ?_
                        rotate_left
                        · intro wS hSw
                          (try dsimp only at hSw)
                          go_simp
                          (try with_reducible rfl)
                        (try simp only [Act.put, zS])
                        refine wT 1 ?_ rfl ?_ ?_
                        rotate_left
                        · intro wS hSw
                          (try dsimp only at hSw)
                          go_simp
                          (try with_reducible rfl)
                        (try simp only [Act.put, zS])
                        refine wT 2 ?_ rfl ?_ ?_
                        rotate_left
                        · intro wS hSw
                          (try dsimp only at hSw)
                          go_simp
                          (try with_reducible rfl)
                        (try simp only [Act.put, zS])
                        refine wT 3 ?_ rfl ?_ ?_
                        rotate_left
                        · intro wS hSw
                          (try dsimp only at hSw)
                          go_simp
                          (try with_reducible rfl)
                        (try simp only [Act.put, zS])
                        refine wT 4 ?_ rfl ?_ ?_
                        rotate_left
                        · intro wS hSw
                          (try dsimp only at hSw)
                          go_simp
                          (try with_reducible rfl)
                        (try simp only [Act.put, zS])
                        refine wT 5 (.bool false) rfl ?_ ?_
                        · intro wS hSw
                          (go_simp; first | done | omega | (simp; omega))
                        (try simp only [Act.put, zS])
                        refine wT 6 ?_ rfl ?_ ?_
                        rotate_left
                        · intro wS hSw
                          (try dsimp only at hSw)
                          go_simp
                          (try with_reducible rfl)
                        (try simp only [Act.put, zS])
                        refine wT 7 ?_ rfl ?_ ?_
                        rotate_left
                        · intro wS hSw
                          (try dsimp only at hSw)
                          go_simp
                          (try with_reducible rfl)
                        (try simp only [Act.put, zS])
                        refine wT 8 ?_ rfl ?_ ?_
                        rotate_left
                        · intro wS hSw
                          (try dsimp only at hSw)
                          go_simp
                          (try with_reducible rfl)
                        (try simp only [Act.put, zS])
                        refine wT 9 ?_ rfl ?_ ?_
                        rotate_left
                        · intro wS hSw
                          (try dsimp only at hSw)
                          go_simp
                          (try with_reducible rfl)
                        (try simp only [Act.put, zS])
                        refine wT 10 ?_ rfl ?_ ?_
                        rotate_left
                        · intro wS hSw
                          (try dsimp only at hSw)
                          go_simp
                          (try with_reducible rfl)
                        (try simp only [Act.put, zS])
                        refine wT 11 ?_ rfl ?_ ?_
                        rotate_left
                        · intro wS hSw
                          (try dsimp only at hSw)
                          go_simp
                          (try with_reducible rfl)
                        (try simp only [Act.put, zS])
                        refine wT 12 ?_ rfl ?_ ?_
                        rotate_left
                        · intro wS hSw
                          (have c := hSw.1; go_simp; (try with_reducible rfl))
                        (try simp only [Act.put, zS])
                        refine wT 13 ?_ rfl ?_ ?_
                        rotate_left
                        · intro wS hSw
                          (try dsimp only at hSw)
                          go_simp
                          (try with_reducible rfl)
                        (try simp only [Act.put, zS])
                        refine wT 14 ?_ rfl ?_ ?_
                        rotate_left
                        · intro wS hSw
                          (try dsimp only at hSw)
                          go_simp
                          (try with_reducible rfl)
                        (try simp only [Act.put, zS])
                        refine wT 15 ?_ rfl ?_ ?_
                        rotate_left
                        · intro wS hSw
                          (try dsimp only at hSw)
                          go_simp
                          (try with_reducible rfl)
                        (try simp only [Act.put, zS])
                        refine wT 16 ?_ rfl ?_ ?_
                        rotate_left
                        · intro wS hSw
                          (try dsimp only at hSw)
                          go_simp
                          (try with_reducible rfl)
                        (try simp only [Act.put, zS])
                        refine wT 17 ?_ rfl ?_ ?_
                        rotate_left
                        · intro wS hSw
                          (have c := hSw.2; go_simp; (try with_reducible rfl))
                        (try simp only [Act.put, zS])
                        refine wT 18 (.bool false) rfl ?_ ?_
                        · intro wS hSw
                          (go_simp; first | done | simp)
                        (try simp only [Act.put, zS])
                        refine wT 19 ?_ rfl ?_ ?_
                        rotate_left
                        · intro wS hSw
                          (try dsimp only at hSw)
                          go_simp
                          (try with_reducible rfl)
                        (try simp only [Act.put, zS])
                        refine wpAnyH_done (by kernel_rfl) ?_ _
                        have hatz := fl_at (nt_f HQK.out) HK.out
                        rw [HE.out.2.1, HLN.out.2.1] at hatz
                        obtain ⟨bh, fh, eqz, hrz⟩ := (HZ5.out.later HBW2.out) j hatz.1
                        subst eqz
                        have nz1 : (j : Int) < (zl : Int) := by have := hatz.1; omega
                        have nz2 : ¬ (zl : Int) ≤ (j : Int) := by omega
                        have nz3 : (0 : Int) ≤ (j : Int) := by omega
                        have hSW1 : wr.drew.drew.rangeAt bh (fh + j * 5) CX.toList ∧ wr.drew.drew.rangeAt bx (ofx + k * 5) CX.toList := by
                          have h8 : wr.rangeAt bh (fh + j * 5) (leL (X ((fl (nt Q) n).getD j 0))) := hrz
                          rw [hatz.2] at h8
                          exact ⟨by rw [← HCX.out]; exact h8, by rw [← HCX.out]; exact HRX.out⟩
                        clear hatz hrz
                        go_upto_region 26 with fail
                        refine wp_region_held_drew (S := (fun X => X.rangeAt bh (fh + j * 5) CX.toList ∧ X.rangeAt bx (ofx + k * 5) CX.toList)) (by kernel_rfl) ?_ (fun hHeld => ?_)
                        · (try dsimp only)
                          (first | assumption | (dsimp only; assumption))
                        refine wT 0 ?_ rfl ?_ ?_
                        rotate_left
                        · intro wS hSw
                          (try dsimp only at hSw)
                          go_simp
                          (try with_reducible rfl)
                        (try simp only [Act.put, zS])
                        refine wT 1 ?_ rfl ?_ ?_
                        rotate_left
                        · intro wS hSw
                          (try dsimp only at hSw)
                          go_simp
                          (try with_reducible rfl)
                        (try simp only [Act.put, zS])
                        refine wT 2 ?_ rfl ?_ ?_
                        rotate_left
                        · intro wS hSw
                          (try dsimp only at hSw)
                          go_simp
                          (try with_reducible rfl)
                        (try simp only [Act.put, zS])
                        refine wT 3 (.bool false) rfl ?_ ?_
                        · intro wS hSw
                          (go_simp; first | done | omega | (simp; omega))
                        (try simp only [Act.put, zS])
                        refine wT 4 ?_ rfl ?_ ?_
                        rotate_left
                        · intro wS hSw
                          (try dsimp only at hSw)
                          go_simp
                          (try with_reducible rfl)
                        (try simp only [Act.put, zS])
                        refine wT 5 ?_ rfl ?_ ?_
                        rotate_left
                        · intro wS hSw
                          (try dsimp only at hSw)
                          go_simp
                          (try with_reducible rfl)
                        (try simp only [Act.put, zS])
                        refine wT 6 ?_ rfl ?_ ?_
                        rotate_left
                        · intro wS hSw
                          (try dsimp only at hSw)
                          go_simp
                          (try with_reducible rfl)
                        (try simp only [Act.put, zS])
                        refine wT 7 ?_ rfl ?_ ?_
                        rotate_left
                        · intro wS hSw
                          (try dsimp only at hSw)
                          go_simp
                          (try with_reducible rfl)
                        (try simp only [Act.put, zS])
                        refine wT 8 ?_ rfl ?_ ?_
                        rotate_left
                        · intro wS hSw
                          refine exec_loadA (x := .tmp 160) (C := CX) ?_ ?_ hSw.1 Tryz.underlying33 ?_ HIS.out <;> rfl
                        (try simp only [Act.put, zS])
                        refine wT 9 ?_ rfl ?_ ?_
                        rotate_left
                        · intro wS hSw
                          (try dsimp only at hSw)
                          go_simp
                          (try with_reducible rfl)
                        (try simp only [Act.put, zS])
                        refine wT 10 ?_ rfl ?_ ?_
                        rotate_left
                        · intro wS hSw
                          (try dsimp only at hSw)
                          go_simp
                          (try with_reducible rfl)
                        (try simp only [Act.put, zS])
                        refine wT 11 ?_ rfl ?_ ?_
                        rotate_left
                        · intro wS hSw
                          (try dsimp only at hSw)
                          go_simp
                          (try with_reducible rfl)
                        (try simp only [Act.put, zS])
                        refine wT 12 ?_ rfl ?_ ?_
                        rotate_left
                        · intro wS hSw
                          refine exec_loadA (x := .tmp 164) (C := CX) ?_ ?_ hSw.2 Tryz.underlying33 ?_ HIS.out <;> rfl
                        (try simp only [Act.put, zS])
                        refine wT 13 (.bool false) rfl ?_ ?_
                        · intro wS hSw
                          refine exec_neqL (x := .tmp 161) (y := .tmp 165) (r := 33) (C := CX) (D := CX) (b := true) ?_ ?_ ?_ HEQ.out <;> rfl
                        (try simp only [Act.put, zS])
                        refine wT 14 ?_ rfl ?_ ?_
                        rotate_left
                        · intro wS hSw
                          (try dsimp only at hSw)
                          go_simp
                          (try with_reducible rfl)
                        (try simp only [Act.put, zS])
                        refine wpAnyH_done (by kernel_rfl) ?_ _
                        go_wp2_with fail
                        go_roundw
                        case rel => exact ⟨k2, by have := HK.out; have := HK2.out; omega, by first | rfl | go_num, by rw [← HK2.out, fl_no (nt_t HPK.out), HE.out.1.1] <;> first | rfl | (push_cast; rfl) | go_num, by rw [← HK2.out, fl_yes (nt_f HQK.out), List.length_append, List.length_singleton, HE.out.2.1] <;> first | rfl | (push_cast; rfl) | go_num, HBW2.out.drew.drew⟩
                        case measure => have := HK.out; have := HK2.out; simp [intOf] <;> omega
                      · as_aux_lemma =>
                        have HQK := Lib.hid hqk
                        clear hqk
                        have hatg := fl_at (HPK.out) HK.out
                        rw [HE.out.1.2, HLN.out.1.2] at hatg
                        obtain ⟨bg, fg, eqg, hrg⟩ := (HG5.out.later HBW2.out) e1 hatg.1
                        subst eqg
                        have ng1 : (e1 : Int) < (gl : Int) := by have := hatg.1; omega
                        have ng2 : ¬ (gl : Int) ≤ (e1 : Int) := by omega
                        have ng3 : (0 : Int) ≤ (e1 : Int) := by omega
                        have ng4 : (k : Int) - (i : Int) = (e1 : Int) := by have := HSE.out; omega
                        have ng5 : IntKind.i64.wrap (e1 : Int) = (e1 : Int) := IntWalk.i64_in _ (by omega)
                        have hSW0 : wr.drew.cell? ⟨bg, fg + e1, none⟩ = some (.string ik) ∧ wr.drew.cell? ⟨bx, ofx + k * 5, none⟩ = some (.string ik) := by
                          have h8 := hrg 0 (.string (X ((fl (P) n).getD e1 0)).id) rfl
                          rw [hatg.2, HIK.out, Nat.mul_one, Nat.add_zero] at h8
                          exact ⟨by simpa using h8, by simpa using HC0.out⟩
                        clear hatg hrg
                        go_upto_region 18 with fail
                        refine wp_region_held_drew (S := (fun X => X.cell? ⟨bg, fg + e1, none⟩ = some (.string ik) ∧ X.cell? ⟨bx, ofx + k * 5, none⟩ = some (.string ik))) (by kernel_rfl) ?_ (fun hHeld => ?_)
                        · (try dsimp only)
                          (first | assumption | (dsimp only; assumption))
                        refine wT 0 ?_ rfl ?_ ?_
                        rotate_left
                        · intro wS hSw
                          (try dsimp only at hSw)
                          go_simp
                          (try with_reducible rfl)
                        (try simp only [Act.put, zS])
                        refine wT 1 ?_ rfl ?_ ?_
                        rotate_left
                        · intro wS hSw
                          (try dsimp only at hSw)
                          go_simp
                          (try with_reducible rfl)
                        (try simp only [Act.put, zS])
                        refine wT 2 ?_ rfl ?_ ?_
                        rotate_left
                        · intro wS hSw
                          (try dsimp only at hSw)
                          go_simp
                          (try with_reducible rfl)
                        (try simp only [Act.put, zS])
                        refine wT 3 ?_ rfl ?_ ?_
                        rotate_left
                        · intro wS hSw
                          (try dsimp only at hSw)
                          go_simp
                          (try with_reducible rfl)
                        (try simp only [Act.put, zS])
                        refine wT 4 ?_ rfl ?_ ?_
                        rotate_left
                        · intro wS hSw
                          (try dsimp only at hSw)
                          go_simp
                          (try with_reducible rfl)
                        (try simp only [Act.put, zS])
                        refine wT 5 (.bool false) rfl ?_ ?_
                        · intro wS hSw
                          (go_simp; first | done | omega | (simp; omega))
                        (try simp only [Act.put, zS])
                        refine wT 6 ?_ rfl ?_ ?_
                        rotate_left
                        · intro wS hSw
                          (try dsimp only at hSw)
                          go_simp
                          (try with_reducible rfl)
                        (try simp only [Act.put, zS])
                        refine wT 7 ?_ rfl ?_ ?_
                        rotate_left
                        · intro wS hSw
                          (try dsimp only at hSw)
                          go_simp
                          (try with_reducible rfl)
                        (try simp only [Act.put, zS])
                        refine wT 8 ?_ rfl ?_ ?_
                        rotate_left
                        · intro wS hSw
                          (try dsimp only at hSw)
                          go_simp
                          (try with_reducible rfl)
                        (try simp only [Act.put, zS])
                        refine wT 9 ?_ rfl ?_ ?_
                        rotate_left
                        · intro wS hSw
                          (try dsimp only at hSw)
                          go_simp
                          (try with_reducible rfl)
                        (try simp only [Act.put, zS])
                        refine wT 10 ?_ rfl ?_ ?_
                        rotate_left
                        · intro wS hSw
                          (try dsimp only at hSw)
                          go_simp
                          (try with_reducible rfl)
                        (try simp only [Act.put, zS])
                        refine wT 11 ?_ rfl ?_ ?_
                        rotate_left
                        · intro wS hSw
                          (try dsimp only at hSw)
                          go_simp
                          (try with_reducible rfl)
                        (try simp only [Act.put, zS])
                        refine wT 12 ?_ rfl ?_ ?_
                        rotate_left
                        · intro wS hSw
                          (have c := hSw.1; go_simp; (try with_reducible rfl))
                        (try simp only [Act.put, zS])
                        refine wT 13 ?_ rfl ?_ ?_
                        rotate_left
                        · intro wS hSw
                          (try dsimp only at hSw)
                          go_simp
                          (try with_reducible rfl)
                        (try simp only [Act.put, zS])
                        refine wT 14 ?_ rfl ?_ ?_
                        rotate_left
                        · intro wS hSw
                          (try dsimp only at hSw)
                          go_simp
                          (try with_reducible rfl)
                        (try simp only [Act.put, zS])
                        refine wT 15 ?_ rfl ?_ ?_
                        rotate_left
                        · intro wS hSw
                          (try dsimp only at hSw)
                          go_simp
                          (try with_reducible rfl)
                        (try simp only [Act.put, zS])
                        refine wT 16 ?_ rfl ?_ ?_
                        rotate_left
                        · intro wS hSw
                          (try dsimp only at hSw)
                          go_simp
                          (try with_reducible rfl)
                        (try simp only [Act.put, zS])
                        refine wT 17 ?_ rfl ?_ ?_
                        rotate_left
                        · intro wS hSw
                          (have c := hSw.2; go_simp; (try with_reducible rfl))
                        (try simp only [Act.put, zS])
                        refine wT 18 (.bool false) rfl ?_ ?_
                        · intro wS hSw
                          (go_simp; first | done | simp)
                        (try simp only [Act.put, zS])
                        refine wT 19 ?_ rfl ?_ ?_
                        rotate_left
                        · intro wS hSw
                          (try dsimp only at hSw)
                          go_simp
                          (try with_reducible rfl)
                        (try simp only [Act.put, zS])
                        refine wpAnyH_done (by kernel_rfl) ?_ _
                        have hath := fl_at (HQK.out) HK.out
                        rw [HE.out.2.2, HLN.out.2.2] at hath
                        obtain ⟨bh, fh, eqh, hrh⟩ := (HH5.out.later HBW2.out) e2 hath.1
                        subst eqh
                        have nh1 : (e2 : Int) < (wl : Int) := by have := hath.1; omega
                        have nh2 : ¬ (wl : Int) ≤ (e2 : Int) := by omega
                        have nh3 : (0 : Int) ≤ (e2 : Int) := by omega
                        have nh4 : (k : Int) - (j : Int) = (e2 : Int) := by have := HSE.out; omega
                        have nh5 : IntKind.i64.wrap (e2 : Int) = (e2 : Int) := IntWalk.i64_in _ (by omega)
                        have hSW1 : wr.drew.drew.cell? ⟨bh, fh + e2, none⟩ = some (.string ik) ∧ wr.drew.drew.cell? ⟨bx, ofx + k * 5, none⟩ = some (.string ik) := by
                          have h8 := hrh 0 (.string (X ((fl (Q) n).getD e2 0)).id) rfl
                          rw [hath.2, HIK.out, Nat.mul_one, Nat.add_zero] at h8
                          exact ⟨by simpa using h8, by simpa using HC0.out⟩
                        clear hath hrh
                        go_upto_region 24 with fail
                        refine wp_region_held_drew (S := (fun X => X.cell? ⟨bh, fh + e2, none⟩ = some (.string ik) ∧ X.cell? ⟨bx, ofx + k * 5, none⟩ = some (.string ik))) (by kernel_rfl) ?_ (fun hHeld => ?_)
                        · (try dsimp only)
                          (first | assumption | (dsimp only; assumption))
                        refine wT 0 ?_ rfl ?_ ?_
                        rotate_left
                        · intro wS hSw
                          (try dsimp only at hSw)
                          go_simp
                          (try with_reducible rfl)
                        (try simp only [Act.put, zS])
                        refine wT 1 ?_ rfl ?_ ?_
                        rotate_left
                        · intro wS hSw
                          (try dsimp only at hSw)
                          go_simp
                          (try with_reducible rfl)
                        (try simp only [Act.put, zS])
                        refine wT 2 ?_ rfl ?_ ?_
                        rotate_left
                        · intro wS hSw
                          (try dsimp only at hSw)
                          go_simp
                          (try with_reducible rfl)
                        (try simp only [Act.put, zS])
                        refine wT 3 ?_ rfl ?_ ?_
                        rotate_left
                        · intro wS hSw
                          (try dsimp only at hSw)
                          go_simp
                          (try with_reducible rfl)
                        (try simp only [Act.put, zS])
                        refine wT 4 ?_ rfl ?_ ?_
                        rotate_left
                        · intro wS hSw
                          (try dsimp only at hSw)
                          go_simp
                          (try with_reducible rfl)
                        (try simp only [Act.put, zS])
                        refine wT 5 (.bool false) rfl ?_ ?_
                        · intro wS hSw
                          (go_simp; first | done | omega | (simp; omega))
                        (try simp only [Act.put, zS])
                        refine wT 6 ?_ rfl ?_ ?_
                        rotate_left
                        · intro wS hSw
                          (try dsimp only at hSw)
                          go_simp
                          (try with_reducible rfl)
                        (try simp only [Act.put, zS])
                        refine wT 7 ?_ rfl ?_ ?_
                        rotate_left
                        · intro wS hSw
                          (try dsimp only at hSw)
                          go_simp
                          (try with_reducible rfl)
                        (try simp only [Act.put, zS])
                        refine wT 8 ?_ rfl ?_ ?_
                        rotate_left
                        · intro wS hSw
                          (try dsimp only at hSw)
                          go_simp
                          (try with_reducible rfl)
                        (try simp only [Act.put, zS])
                        refine wT 9 ?_ rfl ?_ ?_
                        rotate_left
                        · intro wS hSw
                          (try dsimp only at hSw)
                          go_simp
                          (try with_reducible rfl)
                        (try simp only [Act.put, zS])
                        refine wT 10 ?_ rfl ?_ ?_
                        rotate_left
                        · intro wS hSw
                          (try dsimp only at hSw)
                          go_simp
                          (try with_reducible rfl)
                        (try simp only [Act.put, zS])
                        refine wT 11 ?_ rfl ?_ ?_
                        rotate_left
                        · intro wS hSw
                          (try dsimp only at hSw)
                          go_simp
                          (try with_reducible rfl)
                        (try simp only [Act.put, zS])
                        refine wT 12 ?_ rfl ?_ ?_
                        rotate_left
                        · intro wS hSw
                          (have c := hSw.1; go_simp; (try with_reducible rfl))
                        (try simp only [Act.put, zS])
                        refine wT 13 ?_ rfl ?_ ?_
                        rotate_left
                        · intro wS hSw
                          (try dsimp only at hSw)
                          go_simp
                          (try with_reducible rfl)
                        (try simp only [Act.put, zS])
                        refine wT 14 ?_ rfl ?_ ?_
                        rotate_left
                        · intro wS hSw
                          (try dsimp only at hSw)
                          go_simp
                          (try with_reducible rfl)
                        (try simp only [Act.put, zS])
                        refine wT 15 ?_ rfl ?_ ?_
                        rotate_left
                        · intro wS hSw
                          (try dsimp only at hSw)
                          go_simp
                          (try with_reducible rfl)
                        (try simp only [Act.put, zS])
                        refine wT 16 ?_ rfl ?_ ?_
                        rotate_left
                        · intro wS hSw
                          (try dsimp only at hSw)
                          go_simp
                          (try with_reducible rfl)
                        (try simp only [Act.put, zS])
                        refine wT 17 ?_ rfl ?_ ?_
                        rotate_left
                        · intro wS hSw
                          (have c := hSw.2; go_simp; (try with_reducible rfl))
                        (try simp only [Act.put, zS])
                        refine wT 18 (.bool false) rfl ?_ ?_
                        · intro wS hSw
                          (go_simp; first | done | simp)
                        (try simp only [Act.put, zS])
                        refine wT 19 ?_ rfl ?_ ?_
                        rotate_left
                        · intro wS hSw
                          (try dsimp only at hSw)
                          go_simp
                          (try with_reducible rfl)
                        (try simp only [Act.put, zS])
                        refine wpAnyH_done (by kernel_rfl) ?_ _
                        go_wp2_with fail
                        go_roundw
                        case rel => exact ⟨k2, by have := HK.out; have := HK2.out; omega, by first | rfl | go_num, by rw [← HK2.out, fl_no (nt_t HPK.out), HE.out.1.1] <;> first | rfl | (push_cast; rfl) | go_num, by rw [← HK2.out, fl_no (nt_t HQK.out), HE.out.2.1] <;> first | rfl | (push_cast; rfl) | go_num, HBW2.out.drew.drew⟩
                        case measure => have := HK.out; have := HK2.out; simp [intOf] <;> omega
            · obtain rfl : k = n := by omega
              have k1 : ¬ (k : Int) < (k : Int) := by omega
              rw [HLN.out.1.1, HLN.out.2.1]
              have l1 : (yl : Int) + (gl : Int) = (k : Int) := by have := HSM.out; omega
              have l2 : (zl : Int) + (wl : Int) = (k : Int) := by have := HSM.out; omega
              have l3 : IntKind.i64.wrap ((yl : Int) + (gl : Int)) = (yl : Int) + (gl : Int) := IntWalk.i64_in _ (by omega)
              have l4 : IntKind.i64.wrap ((zl : Int) + (wl : Int)) = (zl : Int) + (wl : Int) := IntWalk.i64_in _ (by omega)
              have HBX := Lib.hid (HB5.out.trans (HBW.out.mono HB5.out.size))
              clear hk hkn
              go_wp2_with fail
              refine (sure_any wr (HG.out.later HBX.out)).mono ?_
              rintro e wz ⟨rfl, hbz⟩
              have HBZ := Lib.hid (HBX.out.trans (hbz.mono HBX.out.size))
              clear hbz
              go_wp2_with fail
              go_ret
              exact ⟨rfl, HBZ.out⟩
  · go_wp2_with fail
    refine (sure_any w1 (HG.out.later HB1.out)).mono ?_
    rintro e wz ⟨rfl, hbz⟩
    have HBZ := Lib.hid (HB1.out.trans (hbz.mono HB1.out.size))
    clear hbz
    go_wp2_with fail
    go_ret
    exact ⟨rfl, HBZ.out⟩
end Go.Proofs.YtgfjlgaleddoaaaGreatDoor
