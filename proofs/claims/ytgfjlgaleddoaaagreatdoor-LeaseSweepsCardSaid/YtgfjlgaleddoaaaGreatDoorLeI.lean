/- LeaseSweeps: swept again and again, what is over goes, what ended first first. -/
import Derived.Test.YtgfjlgaleddoaaaGreatDoorLeD
import Derived.Test.YtgfjlgaleddoaaaGreatDoorLeG
import Derived.Test.YtgfjlgaleddoaaaGreatDoorLeH
namespace Go.Proofs.YtgfjlgaleddoaaaGreatDoor
set_option linter.unusedVariables false
set_option linter.unusedSimpArgs false
open Go.RowKit
set_option maxRecDepth 100000 in
set_option maxHeartbeats 4000000 in
theorem sweeps_any (oa : Option Addr) (n c now b : Nat) (X : Nat → LE) (w : World) (hg : Handle w) (hX : CK 5 w oa n (leC X)) (hn : n * 64 ≤ 140737488355328) (hL : ∀ i, i < n → LES (X i)) (hw : now < 18446744073709551616) (hb8 : b < 256) :
    Calls Tryz.prog 6 #[.slice oa n c, .int .u64 (now : Int), .int .u8 (b : Int)] w fun e w' => e = .returned (.bool true) ∧ Below w.heap.size w w' := by
  have H1 := Lib.hid (give_any oa n c X w hX hn)
  have HG := Lib.hid hg
  have HX0 := Lib.hid hX
  have HL := Lib.hid hL
  have HN := Lib.hid hn
  have HB8 := Lib.hid hb8
  have hn0 : (n : Int) ≤ 9223372036854775807 := by omega
  clear hg hX hL hn hb8
  go_enter Tryz.func6, Tryz.ntmps6
  go_wp2_with fail
  refine H1.out.mono ?_
  rintro e w1 ⟨v, rfl, hk1, hb1⟩
  obtain ⟨ox, cx, rfl, -, -, -, -, hc1⟩ := hk1.out (fun _ => rfl) (by decide)
  have HB1 := Lib.hid hb1
  have HX1 := Lib.hid hc1
  have H2 := Lib.hid (big_any oa n c X w1 (HX0.out.later hb1) HN.out HL.out)
  clear hk1 hb1 hc1
  go_wp2_with fail
  refine H2.out.mono ?_
  rintro e w2 ⟨⟨r, rfl⟩, hw2⟩
  rw [hw2]
  clear hw2
  cases r
  · have H3 := Lib.hid (check_any ox n cx X w1 HX1.out (by have := HN.out; unfold maxLen; omega) HL.out)
    cases hck : ckB n X
    · rw [hck, show EA false = .iface 70 (.int .i64 1) from rfl] at H3
      go_wp2_with fail
      refine H3.out.mono ?_
      rintro e w3 ⟨rfl, hb3⟩
      have HB3 := Lib.hid (HB1.out.trans (hb3.mono HB1.out.size))
      clear hb3
      go_wp2_with fail
      refine (sure_any w3 (HG.out.later HB3.out)).mono ?_
      rintro e wz ⟨rfl, hbz⟩
      have HBZ := Lib.hid (HB3.out.trans (hbz.mono HB3.out.size))
      clear hbz
      go_wp2_with fail
      go_ret
      exact ⟨rfl, HBZ.out⟩
    · rw [hck, show EA true = .nilIface from rfl] at H3
      have HCK := Lib.hid hck
      have h32 : n ≤ 32 := (ck_parts hck).1
      have H32 := Lib.hid h32
      have hn1 : (n : Int) ≤ 32 := by omega
      clear hck hn0 h32
      obtain ⟨nn, hnn⟩ : ∃ q, 1 + b % 5 = q := ⟨_, rfl⟩
      have t1 : IntKind.i64.wrap (b : Int) = (b : Int) := IntWalk.i64_in _ (by have := HB8.out; omega)
      have t2 : (b : Int).tmod 5 = ((b % 5 : Nat) : Int) := by rw [Int.tmod_eq_emod_of_nonneg (by omega)]; omega
      have t3 : IntKind.i64.wrap ((b % 5 : Nat) : Int) = ((b % 5 : Nat) : Int) := IntWalk.i64_in _ (by omega)
      have t4 : 1 + (b : Int) % 5 = (nn : Int) := by omega
      have t5 : IntKind.i64.wrap (nn : Int) = (nn : Int) := IntWalk.i64_in _ (by omega)
      have HNN : Hid (1 ≤ nn ∧ nn ≤ 5) := Lib.hid (by omega)
      clear hnn
      go_wp2_with fail
      refine H3.out.mono ?_
      rintro e w3 ⟨rfl, hb3⟩
      have HB3 := Lib.hid (HB1.out.trans (hb3.mono HB1.out.size))
      have HX3 := Lib.hid (HX1.out.later hb3)
      clear hb3
      go_wp2_with fail
      obtain ⟨O, hO⟩ : ∃ O, (fun i => overB now (X i).u) = O := ⟨_, rfl⟩
      have HOO : Hid (∀ i, O i = overB now (X i).u) := Lib.hid fun i => by rw [← hO]
      have HOE := Lib.hid hO
      clear hO
      go_loopw [9, 10] (fun x y wr => ∃ i : Nat, i ≤ n ∧ y = .int .i64 (i : Int) ∧ x = .int .i64 ((fl O i).length : Int) ∧ wr = w3) (fun _ y _ => n - (intOf y).toNat)
      case atStart => exact ⟨0, Nat.zero_le _, rfl, rfl, rfl⟩
      case round =>
        obtain ⟨i, hi, rfl, rfl, hwr⟩ := hrel
        subst wr
        by_cases hli : i < n
        · have i1 : (i : Int) < (n : Int) := by omega
          have i0 : (0 : Int) ≤ (i : Int) := by omega
          obtain ⟨j2, hj2⟩ : ∃ z, i + 1 = z := ⟨_, rfl⟩
          have k3 : (i : Int) + 1 = (j2 : Int) := by omega
          have k4 : IntKind.i64.wrap (j2 : Int) = (j2 : Int) := IntWalk.i64_in _ (by omega)
          have HI := Lib.hid (And.intro hli hj2)
          obtain ⟨b9, off, e, hrg⟩ := HX3.out i hli
          subst e
          obtain ⟨u, hu⟩ : ∃ u, (X i).u = u := ⟨_, rfl⟩
          have c3 : w3.cell? ⟨b9, off + i * 5 + 3, none⟩ = some (.int .u64 (u : Int)) := by have := hrg 3 (.int .u64 ((X i).u : Int)) rfl; rw [← hu]; exact this
          have hoi : O i = overB now u := by rw [← hu]; exact HOO.out i
          obtain ⟨m, hm⟩ : ∃ m, (fl O i).length = m := ⟨_, rfl⟩
          have hml : m ≤ i := by rw [← hm]; exact fl_len O i
          obtain ⟨m2, hm2⟩ : ∃ z, m + 1 = z := ⟨_, rfl⟩
          have l3 : (m : Int) + 1 = (m2 : Int) := by omega
          have l4 : IntKind.i64.wrap (m2 : Int) = (m2 : Int) := IntWalk.i64_in _ (by omega)
          have HM := Lib.hid (And.intro hm hm2)
          rw [hm]
          clear hi hli hj2 hrg hu hm hm2 hml
          rcases (show (u ≤ now ∧ u ≠ 18446744073709551615) ∨ (u ≤ now ∧ u = 18446744073709551615) ∨ now < u by omega) with h | h | h
          · have h1 : (u : Int) ≤ (now : Int) := by omega
            have h2 : ((u : Int) == 18446744073709551615) = false := beq_eq_false_iff_ne.2 (by omega)
            have h3 : ¬ (u : Int) = 18446744073709551615 := by omega
            have HOI : Hid (O i = true) := Lib.hid (by rw [hoi]; unfold overB; rw [decide_eq_true h.1, decide_eq_true h.2]; rfl)
            clear h hoi
            go_wp2_with fail
            go_roundw
            case rel => exact ⟨j2, by have := HI.out; omega, by first | rfl | go_num, by rw [← HI.out.2, fl_yes HOI.out, List.length_append, List.length_singleton, HM.out.1, HM.out.2] <;> first | rfl | go_num, by first | trivial | rfl⟩
            case measure => have := HI.out; simp [intOf] <;> omega
          · have h1 : (18446744073709551615 : Int) ≤ (now : Int) := by omega
            have HOI : Hid (O i = false) := Lib.hid (by rw [hoi]; unfold overB; rw [decide_eq_false (p := u ≠ _) (by omega), Bool.and_false])
            obtain ⟨h0, rfl⟩ := h
            clear h0 hoi
            go_wp2_with fail
            go_roundw
            case rel => exact ⟨j2, by have := HI.out; omega, by first | rfl | go_num, by rw [← HI.out.2, fl_no HOI.out, HM.out.1] <;> first | rfl | go_num, by first | trivial | rfl⟩
            case measure => have := HI.out; simp [intOf] <;> omega
          · have h1 : ¬ (u : Int) ≤ (now : Int) := by omega
            have HOI : Hid (O i = false) := Lib.hid (by rw [hoi]; unfold overB; rw [decide_eq_false (by omega)]; rfl)
            clear h hoi
            go_wp2_with fail
            go_roundw
            case rel => exact ⟨j2, by have := HI.out; omega, by first | rfl | go_num, by rw [← HI.out.2, fl_no HOI.out, HM.out.1] <;> first | rfl | go_num, by first | trivial | rfl⟩
            case measure => have := HI.out; simp [intOf] <;> omega
        · obtain rfl : i = n := by omega
          have i1 : ¬ (i : Int) < (i : Int) := by omega
          obtain ⟨ov, hov⟩ : ∃ m, (fl O i).length = m := ⟨_, rfl⟩
          have hSI : SI now i ov 0 0 X := ⟨HCK.out, HL.out, by rw [HOE.out]; exact hov, by have := fl_len O i; have := H32.out; omega, fun _ _ => Nat.zero_le _, by omega⟩
          have HSI := Lib.hid hSI
          rw [hov]
          clear hi hli hov hSI
          go_wp2_with fail
          go_loopw [7, 9, 11, 12] (fun x o la y wr => ∃ (k N Ov La : Nat) (ox : Option Addr) (cx : Nat) (X : Nat → LE), x = .slice ox N cx ∧ o = .int .i64 (Ov : Int) ∧ la = .int .u64 (La : Int) ∧ y = .int .i64 (k : Int) ∧ SI now N Ov La k X ∧ CK 5 wr ox N (leC X) ∧ Below w.heap.size w wr) (fun _ _ _ y _ => 40 - (intOf y).toNat)
          case atStart => exact ⟨0, _, _, 0, _, _, X, rfl, rfl, rfl, rfl, HSI.out, HX3.out, HB3.out⟩
          case round =>
            clear HSI HX3 HB3 HX1 HB1 HX0 HL HOO HOE HCK H2 H3 H32 HN H1 hn1 i1 HB8 t1 t2 t3 t4 t5
            obtain ⟨k, N, Ov, La, ox, cx, X, rfl, rfl, rfl, rfl, hSI, hX, hbw⟩ := hrel
            have HSI := Lib.hid hSI
            have HX := Lib.hid hX
            have HBW := Lib.hid hbw
            have hN32 : N ≤ 32 := (ck_parts hSI.ck).1
            have hN : (N : Int) ≤ 32 := by omega
            have H32 := Lib.hid hN32
            have hkk := hSI.kk
            clear hSI hX hbw hN32
            by_cases hgo : k < 40 ∧ 0 < Ov
            · have k1 : (k : Int) < 40 := by omega
              have k0 : (0 : Int) < (Ov : Int) := by omega
              obtain ⟨q, hq⟩ : ∃ q, min nn Ov = q := ⟨_, rfl⟩
              have q1 : min (nn : Int) (Ov : Int) = (q : Int) := by omega
              have HQ : Hid (1 ≤ q ∧ q ≤ Ov ∧ Ov ≤ 40 ∧ k < 40) := Lib.hid (by have := HNN.out; omega)
              have hmq : max 0 (min (nn : Int) (((fl (fun i => overB now (X i).u) N).length : Nat) : Int)) = (q : Int) := by rw [HSI.out.ov, q1]; omega
              have HSW := Lib.hid (sweep_any ox N cx now q (nn : Int) X wr HX.out HSI.out.les HSI.out.ck (by omega) (by have := HNN.out; omega) hmq)
              clear hgo hkk hq hmq
              go_wp2_with fail
              refine HSW.out.mono ?_
              rintro e w4 ⟨P, hP, oy, cy, og, cg, rfl, hy4, hg4, hb4⟩
              obtain ⟨M, hM⟩ : ∃ M, (fl (nt P) N).length = M := ⟨_, rfl⟩
              have hsum : M + q = N := by rw [← hM, ← hP.len]; exact flz_sum P N
              obtain ⟨Y, hY⟩ : ∃ Y, ixL X (fl (nt P) N) = Y := ⟨_, rfl⟩
              obtain ⟨G, hG⟩ : ∃ G, ixS X (fl P N) = G := ⟨_, rfl⟩
              have HNX := Lib.hid (HSI.out.next hP HQ.out.1)
              have HEY : Hid (∀ j, j < M → endF La X P N ≤ (Y j).u) := Lib.hid (by rw [← hM, ← hY]; exact fun j hj => HSI.out.endy hP hj)
              have HEB : Hid (∀ j, j ≤ N → endF La X P j < 18446744073709551616) := Lib.hid fun j hj => HSI.out.endb hj
              have HID : Hid (∀ j, j < N → idB G (X j).id q = P j) := Lib.hid (by rw [← hG, ← hP.len]; exact fun j hj => id_all HSI.out.ck hj)
              have HP := Lib.hid hP
              rw [hP.len] at hg4 ⊢
              rw [hM, hY] at hy4 HNX
              rw [hM]
              rw [hG] at hg4
              have HY4 := Lib.hid hy4
              have HG4 := Lib.hid hg4
              have HX4 := Lib.hid (HX.out.later hb4)
              have HB4 := Lib.hid (HBW.out.trans (hb4.mono HBW.out.size))
              have HCY := Lib.hid (check_any oy M cy Y w4 hy4 (by unfold maxLen; omega) HNX.out.les)
              rw [HNX.out.ck, show EA true = .nilIface from rfl] at HCY
              have HSM := Lib.hid hsum
              have s1 : (N : Int) - (q : Int) = (M : Int) := by omega
              have s2 : IntKind.i64.wrap (M : Int) = (M : Int) := IntWalk.i64_in _ (by omega)
              have s3 : (M : Int) ≤ 32 := by omega
              have s4 : (q : Int) ≤ 32 := by omega
              have HMS := Lib.hid (And.intro hM hG)
              clear hP hM hsum hY hG hy4 hg4 hb4
              go_wp2_with fail
              refine HCY.out.mono ?_
              rintro e w5 ⟨rfl, hb5⟩
              have HB5 := Lib.hid (HB4.out.trans (hb5.mono HB4.out.size))
              have HX5 := Lib.hid (HX4.out.later hb5)
              have HY5 := Lib.hid (HY4.out.later hb5)
              have HG5 := Lib.hid (HG4.out.later hb5)
              clear hb5 HCY HY4 HG4 HX4 HB4 HX HBW HSW
              go_wp2_with fail
              go_loopw [15, 16] (fun x y wr => ∃ j : Nat, j ≤ N ∧ y = .int .i64 (j : Int) ∧ x = .int .u64 (endF La X P j : Int) ∧ Below w5.heap.size w5 wr) (fun _ y _ => N - (intOf y).toNat)
              case atStart => exact ⟨0, Nat.zero_le _, rfl, rfl, Below.refl _ _⟩
              case round =>
                obtain ⟨j, hj, rfl, rfl, hbw1⟩ := hrel
                have HBW1 := Lib.hid hbw1
                clear hbw1
                by_cases hjn : j < N
                · have j1 : (j : Int) < (N : Int) := by omega
                  have j0 : (0 : Int) ≤ (j : Int) := by omega
                  obtain ⟨j2, hj2⟩ : ∃ z, j + 1 = z := ⟨_, rfl⟩
                  have j3 : (j : Int) + 1 = (j2 : Int) := by omega
                  have j4 : IntKind.i64.wrap (j2 : Int) = (j2 : Int) := IntWalk.i64_in _ (by have := H32.out; omega)
                  have HJ := Lib.hid (And.intro hjn hj2)
                  obtain ⟨tk, htk⟩ : ∃ s, (X j).id = s := ⟨_, rfl⟩
                  obtain ⟨u, hu⟩ : ∃ s, (X j).u = s := ⟨_, rfl⟩
                  obtain ⟨bx, ofx, ex, hrx⟩ := (HX5.out.later HBW1.out) j hjn
                  subst ex
                  have HCX : Hid (∀ A, Below w5.heap.size w5 A → A.cell? ⟨bx, ofx + j * 5, none⟩ = some (.string tk) ∧ A.cell? ⟨bx, ofx + j * 5 + 3, none⟩ = some (.int .u64 (u : Int))) := Lib.hid fun A hA => by
                    obtain ⟨b9, o9, e9, h9⟩ := (HX5.out.later hA) j hjn
                    cases e9
                    have h7 := h9 0 (.string (X j).id) rfl
                    have h8 := h9 3 (.int .u64 ((X j).u : Int)) rfl
                    rw [htk] at h7
                    rw [hu] at h8
                    exact ⟨by simpa using h7, h8⟩
                  have HPJ : Hid (idB G tk q = P j) := Lib.hid (by rw [← htk]; exact HID.out j hjn)
                  have HUJ := Lib.hid (And.intro hu htk)
                  obtain ⟨e1, he1⟩ : ∃ s, endF La X P j = s := ⟨_, rfl⟩
                  have he1b : e1 < 18446744073709551616 := by rw [← he1]; exact HEB.out j hj
                  have HE1 := Lib.hid (And.intro he1 he1b)
                  rw [he1]
                  clear hj hjn hj2 htk hu hrx he1 he1b
                  go_wp2_with fail
                  go_loopw [17, 18] (fun x y wr => ∃ r : Nat, r ≤ q ∧ y = .int .i64 (r : Int) ∧ x = .bool (idB G tk r) ∧ Below w5.heap.size w5 wr) (fun _ y _ => q - (intOf y).toNat)
                  case atStart => exact ⟨0, Nat.zero_le _, rfl, rfl, HBW1.out⟩
                  case round =>
                    obtain ⟨r, hr, rfl, rfl, hbw2⟩ := hrel
                    have HBW2 := Lib.hid hbw2
                    clear hbw2
                    by_cases hrq : r < q
                    · have r1 : (r : Int) < (q : Int) := by omega
                      have r0 : (0 : Int) ≤ (r : Int) := by omega
                      obtain ⟨r2, hr2⟩ : ∃ z, r + 1 = z := ⟨_, rfl⟩
                      have r3 : (r : Int) + 1 = (r2 : Int) := by omega
                      have r4 : IntKind.i64.wrap (r2 : Int) = (r2 : Int) := IntWalk.i64_in _ (by omega)
                      have HR := Lib.hid (And.intro hrq hr2)
                      obtain ⟨bt, ot, et, hrt⟩ := (HG5.out.later HBW2.out) r hrq
                      subst et
                      obtain ⟨st, hst⟩ : ∃ s, G r = s := ⟨_, rfl⟩
                      have HST := Lib.hid hst
                      have hSW0 : wr.drew.cell? ⟨bt, ot + r, none⟩ = some (.string st) ∧ wr.drew.cell? ⟨bx, ofx + j * 5, none⟩ = some (.string tk) := by
                        have h8 := hrt 0 (.string (G r)) rfl
                        rw [hst, Nat.mul_one, Nat.add_zero] at h8
                        have h9 := (HCX.out wr HBW2.out).1
                        exact ⟨by simpa using h8, by simpa using h9⟩
                      clear hr hrq hr2 hrt hst
                      cases htq : idB G tk r
                      · as_aux_lemma =>
                        have HTQ := Lib.hid htq
                        clear htq
                        go_upto_region 26 with fail
                        refine wp_region_held_drew (S := (fun X => X.cell? ⟨bt, ot + r, none⟩ = some (.string st) ∧ X.cell? ⟨bx, ofx + j * 5, none⟩ = some (.string tk))) (by kernel_rfl) ?_ (fun hHeld => ?_)
                        · (try dsimp only)
                          (first | assumption | (dsimp only; assumption))
                        refine wT 0 ?_ rfl ?_ ?_
                        rotate_left
                        · intro wS hSw
                          (try dsimp only at hSw)
                          go_simp
                          (try with_reducible rfl)
                        (try simp only [Act.put, zS])
                        refine wT 1 ?_ rfl ?_ ?_
                        rotate_left
                        · intro wS hSw
                          (try dsimp only at hSw)
                          go_simp
                          (try with_reducible rfl)
                        (try simp only [Act.put, zS])
                        refine wT 2 ?_ rfl ?_ ?_
                        rotate_left
                        · intro wS hSw
                          (try dsimp only at hSw)
                          go_simp
                          (try with_reducible rfl)
                        (try simp only [Act.put, zS])
                        refine wT 3 ?_ rfl ?_ ?_
                        rotate_left
                        · intro wS hSw
                          (try dsimp only at hSw)
                          go_simp
                          (try with_reducible rfl)
                        (try simp only [Act.put, zS])
                        refine wT 4 ?_ rfl ?_ ?_
                        rotate_left
                        · intro wS hSw
                          (try dsimp only at hSw)
                          go_simp
                          (try with_reducible rfl)
                        (try simp only [Act.put, zS])
                        refine wT 5 ?_ rfl ?_ ?_
                        rotate_left
                        · intro wS hSw
                          (have c := hSw.1; go_simp; (try with_reducible rfl))
                        (try simp only [Act.put, zS])
                        refine wT 6 ?_ rfl ?_ ?_
                        rotate_left
                        · intro wS hSw
                          (try dsimp only at hSw)
                          go_simp
                          (try with_reducible rfl)
                        (try simp only [Act.put, zS])
                        refine wT 7 ?_ rfl ?_ ?_
                        rotate_left
                        · intro wS hSw
                          (try dsimp only at hSw)
                          go_simp
                          (try with_reducible rfl)
                        (try simp only [Act.put, zS])
                        refine wT 8 ?_ rfl ?_ ?_
                        rotate_left
                        · intro wS hSw
                          (try dsimp only at hSw)
                          go_simp
                          (try with_reducible rfl)
                        (try simp only [Act.put, zS])
                        refine wT 9 ?_ rfl ?_ ?_
                        rotate_left
                        · intro wS hSw
                          (try dsimp only at hSw)
                          go_simp
                          (try with_reducible rfl)
                        (try simp only [Act.put, zS])
                        refine wT 10 ?_ rfl ?_ ?_
                        rotate_left
                        · intro wS hSw
                          (have c := hSw.2; go_simp; (try with_reducible rfl))
                        (try simp only [Act.put, zS])
                        refine wT 11 ?_ rfl ?_ ?_
                        rotate_left
                        · intro wS hSw
                          (try dsimp only at hSw)
                          go_simp
                          (try with_reducible rfl)
                        (try simp only [Act.put, zS])
                        refine wT 12 ?_ rfl ?_ ?_
                        rotate_left
                        · intro wS hSw
                          (try dsimp only at hSw)
                          go_simp
                          (try with_reducible rfl)
                        (try simp only [Act.put, zS])
                        refine wT 13 ?_ rfl ?_ ?_
                        rotate_left
                        · intro wS hSw
                          (try dsimp only at hSw)
                          go_simp
                          (try with_reducible rfl)
                        (try simp only [Act.put, zS])
                        refine wpAnyH_done (by kernel_rfl) ?_ _
                        go_wp2_with fail
                        go_roundw
                        case rel => exact ⟨r2, by have := HR.out; omega, by first | rfl | go_num, by rw [← HR.out.2, id_succ, HTQ.out, HST.out]; first | rfl | simp, HBW2.out.drew⟩
                        case measure => have := HR.out; simp [intOf] <;> omega
                      · as_aux_lemma =>
                        have HTQ := Lib.hid htq
                        clear htq hSW0
                        go_upto_region 26 with fail
                        refine wp_region_held_drew (S := (fun _ => True)) (by kernel_rfl) ?_ (fun hHeld => ?_)
                        · (try dsimp only)
                          all_goals trivial
                        refine wT 0 ?_ rfl ?_ ?_
                        rotate_left
                        · intro wS hSw
                          (try dsimp only at hSw)
                          go_simp
                          (try with_reducible rfl)
                        (try simp only [Act.put, zS])
                        refine wT 1 ?_ rfl ?_ ?_
                        rotate_left
                        · intro wS hSw
                          (try dsimp only at hSw)
                          go_simp
                          (try with_reducible rfl)
                        (try simp only [Act.put, zS])
                        refine wU 2 rfl ?_
                        (try simp only [Act.put, zS])
                        refine wU 3 rfl ?_
                        (try simp only [Act.put, zS])
                        refine wU 4 rfl ?_
                        (try simp only [Act.put, zS])
                        refine wU 5 rfl ?_
                        (try simp only [Act.put, zS])
                        refine wU 6 rfl ?_
                        (try simp only [Act.put, zS])
                        refine wU 7 rfl ?_
                        (try simp only [Act.put, zS])
                        refine wU 8 rfl ?_
                        (try simp only [Act.put, zS])
                        refine wU 9 rfl ?_
                        (try simp only [Act.put, zS])
                        refine wU 10 rfl ?_
                        (try simp only [Act.put, zS])
                        refine wU 11 rfl ?_
                        (try simp only [Act.put, zS])
                        refine wT 12 ?_ rfl ?_ ?_
                        rotate_left
                        · intro wS hSw
                          (try dsimp only at hSw)
                          go_simp
                          (try with_reducible rfl)
                        (try simp only [Act.put, zS])
                        refine wT 13 ?_ rfl ?_ ?_
                        rotate_left
                        · intro wS hSw
                          (try dsimp only at hSw)
                          go_simp
                          (try with_reducible rfl)
                        (try simp only [Act.put, zS])
                        refine wpAnyH_done (by kernel_rfl) ?_ _
                        go_wp2_with fail
                        go_roundw
                        case rel => exact ⟨r2, by have := HR.out; omega, by first | rfl | go_num, by rw [← HR.out.2, id_succ, HTQ.out]; first | rfl | simp, HBW2.out.drew⟩
                        case measure => have := HR.out; simp [intOf] <;> omega
                    · obtain rfl : r = q := by omega
                      have r1 : ¬ (r : Int) < (r : Int) := by omega
                      rw [HPJ.out]
                      have c3 := (HCX.out wr HBW2.out).2
                      clear hr hrq
                      cases hpj : P j
                      · as_aux_lemma =>
                        have HPP := Lib.hid hpj
                        clear hpj
                        go_wp2_with fail
                        go_roundw
                        case rel => exact ⟨j2, by have := HJ.out; omega, by first | rfl | go_num, by rw [← HJ.out.2, end_no HPP.out, HE1.out.1] <;> first | rfl | go_num, HBW2.out⟩
                        case measure => have := HJ.out; simp [intOf] <;> omega
                      · as_aux_lemma =>
                        have HPP := Lib.hid hpj
                        have hov := over_t (HP.out.over j HJ.out.1 hpj)
                        have hla := HSI.out.las j HJ.out.1
                        rw [HUJ.out.1] at hov hla
                        have u1 : ¬ (now : Int) < (u : Int) := by omega
                        have u2 : ¬ (u : Int) < (La : Int) := by omega
                        obtain ⟨e2, he2⟩ : ∃ s, max e1 u = s := ⟨_, rfl⟩
                        have u3 : max (e1 : Int) (u : Int) = (e2 : Int) := by omega
                        have HE2 := Lib.hid he2
                        clear hpj hov hla he2
                        go_wp2_with fail
                        go_roundw
                        case rel => exact ⟨j2, by have := HJ.out; omega, by first | rfl | go_num, by rw [← HJ.out.2, end_yes HPP.out, HE1.out.1, HUJ.out.1, HE2.out] <;> first | rfl | go_num, HBW2.out⟩
                        case measure => have := HJ.out; simp [intOf] <;> omega
                · obtain rfl : j = N := by omega
                  have j1 : ¬ (j : Int) < (j : Int) := by omega
                  obtain ⟨e1, he1⟩ : ∃ s, endF La X P j = s := ⟨_, rfl⟩
                  have HE1 := Lib.hid he1
                  rw [he1]
                  rw [he1] at HNX HEY
                  have HY6 := Lib.hid (HY5.out.later HBW1.out)
                  obtain ⟨ov2, ho2⟩ : ∃ s, Ov - q = s := ⟨_, rfl⟩
                  have o3 : (Ov : Int) - (q : Int) = (ov2 : Int) := by have := HQ.out; omega
                  have o4 : IntKind.i64.wrap (ov2 : Int) = (ov2 : Int) := IntWalk.i64_in _ (by have := HQ.out; omega)
                  obtain ⟨k2, hk2⟩ : ∃ s, k + 1 = s := ⟨_, rfl⟩
                  have o5 : (k : Int) + 1 = (k2 : Int) := by omega
                  have o6 : IntKind.i64.wrap (k2 : Int) = (k2 : Int) := IntWalk.i64_in _ (by have := HQ.out; omega)
                  have HK2 := Lib.hid (And.intro hk2 HQ.out.2.2.2)
                  rw [ho2, hk2] at HNX
                  clear hj hjn he1 ho2 hk2
                  go_wp2_with fail
                  go_loopw [19] (fun y wr' => ∃ t : Nat, t ≤ M ∧ y = .int .i64 (t : Int) ∧ wr' = wr) (fun y _ => M - (intOf y).toNat)
                  case atStart => exact ⟨0, Nat.zero_le _, rfl, rfl⟩
                  case round =>
                    obtain ⟨t, ht, rfl, hwr⟩ := hrel
                    subst hwr
                    by_cases htm : t < M
                    · have t1 : (t : Int) < (M : Int) := by omega
                      have t0 : (0 : Int) ≤ (t : Int) := by omega
                      obtain ⟨t2, ht2⟩ : ∃ z, t + 1 = z := ⟨_, rfl⟩
                      have t3 : (t : Int) + 1 = (t2 : Int) := by omega
                      have t4 : IntKind.i64.wrap (t2 : Int) = (t2 : Int) := IntWalk.i64_in _ (by omega)
                      obtain ⟨u, hu⟩ : ∃ s, (Y t).u = s := ⟨_, rfl⟩
                      obtain ⟨by9, ofy, ey, hry⟩ := HY6.out t htm
                      subst ey
                      have c3 : wr.cell? ⟨by9, ofy + t * 5 + 3, none⟩ = some (Value.int .u64 (u : Int)) := by have := hry 3 (.int .u64 ((Y t).u : Int)) rfl; rw [hu] at this; exact this
                      have hey := HEY.out t htm
                      rw [hu] at hey
                      have u1 : ¬ (u : Int) < (e1 : Int) := by omega
                      have HT := Lib.hid (And.intro htm ht2)
                      clear ht htm ht2 hu hry hey
                      go_wp2_with fail
                      go_roundw
                      case rel => exact ⟨t2, by have := HT.out; omega, by first | rfl | go_num, by first | trivial | rfl⟩
                      case measure => have := HT.out; simp [intOf] <;> omega
                    · obtain rfl : t = M := by omega
                      have t1 : ¬ (t : Int) < (t : Int) := by omega
                      clear ht htm
                      go_wp2_with fail
                      go_roundw
                      case rel => exact ⟨k2, _, _, _, _, _, _, rfl, by first | rfl | go_num, by first | rfl | go_num, by first | rfl | go_num, HNX.out, HY6.out, HB5.out.trans (HBW1.out.mono HB5.out.size)⟩
                      case measure => have := HK2.out; simp [intOf] <;> omega
            · obtain rfl : Ov = 0 := by omega
              have hmq : max 0 (min (nn : Int) (((fl (fun i => overB now (X i).u) N).length : Nat) : Int)) = ((0 : Nat) : Int) := by rw [HSI.out.ov]; omega
              have HSW := Lib.hid (sweep_any ox N cx now 0 (nn : Int) X wr HX.out HSI.out.les HSI.out.ck (by omega) (by have := HNN.out; omega) hmq)
              clear hmq
              by_cases hk40 : k < 40
              · have k1 : (k : Int) < 40 := by omega
                clear hgo hkk hk40
                go_wp2_with fail
                refine HSW.out.mono ?_
                rintro e w4 ⟨P, hP, oy, cy, og, cg, rfl, hy4, hg4, hb4⟩
                have hsum := flz_sum P N
                rw [hP.len] at hsum ⊢
                have hM : (fl (nt P) N).length = N := by omega
                rw [hM]
                have HB4 := Lib.hid (HBW.out.trans (hb4.mono HBW.out.size))
                clear hP hsum hM hy4 hg4 hb4
                go_wp2_with fail
                refine (sure_any w4 (HG.out.later HB4.out)).mono ?_
                rintro e wz ⟨rfl, hbz⟩
                have HBZ := Lib.hid (HB4.out.trans (hbz.mono HB4.out.size))
                clear hbz
                go_wp2_with fail
                go_ret
                exact ⟨rfl, HBZ.out⟩
              · have k1 : ¬ (k : Int) < 40 := by omega
                clear hgo hkk hk40
                go_wp2_with fail
                refine HSW.out.mono ?_
                rintro e w4 ⟨P, hP, oy, cy, og, cg, rfl, hy4, hg4, hb4⟩
                have hsum := flz_sum P N
                rw [hP.len] at hsum ⊢
                have hM : (fl (nt P) N).length = N := by omega
                rw [hM]
                have HB4 := Lib.hid (HBW.out.trans (hb4.mono HBW.out.size))
                clear hP hsum hM hy4 hg4 hb4
                go_wp2_with fail
                refine (sure_any w4 (HG.out.later HB4.out)).mono ?_
                rintro e wz ⟨rfl, hbz⟩
                have HBZ := Lib.hid (HB4.out.trans (hbz.mono HB4.out.size))
                clear hbz
                go_wp2_with fail
                go_ret
                exact ⟨rfl, HBZ.out⟩
  · go_wp2_with fail
    refine (sure_any w1 (HG.out.later HB1.out)).mono ?_
    rintro e wz ⟨rfl, hbz⟩
    have HBZ := Lib.hid (HB1.out.trans (hbz.mono HB1.out.size))
    clear hbz
    go_wp2_with fail
    go_ret
    exact ⟨rfl, HBZ.out⟩
end Go.Proofs.YtgfjlgaleddoaaaGreatDoor
