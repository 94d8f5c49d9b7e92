/- RequestNames walked. -/
import Derived.Test.YtmabhjifldafaaaDoorRqB
import Derived.Test.YtmabhjifldafaaaDoorWst
namespace Go.Proofs.YtmabhjifldafaaaDoor
set_option linter.unusedVariables false
set_option linter.unusedSimpArgs false
open Go.RowKit

theorem AL.at {w : World} {g k : Nat} (h : AL w g) (hk : k < 30) : w.cell? ⟨g, k * 4, none⟩ = some (.string (nmF k)) ∧ w.cell? ⟨g, k * 4 + 1, none⟩ = some (.int .i64 (arF k : Nat)) ∧ w.cell? ⟨g, k * 4 + 2, none⟩ = some (.bool (opF k)) ∧ w.cell? ⟨g, k * 4 + 3, none⟩ = some (.int .i64 (scF k)) := by
  rw [Nat.mul_comm]; exact h k hk
set_option maxRecDepth 100000 in
set_option maxHeartbeats 8000000 in
theorem reqnames_any (z i : Int) (S : ByteArray) (w : World) (h1 : -9223372036854775808 ≤ z) (h2 : z ≤ 9223372036854775807) (h3 : -9223372036854775808 ≤ i) (h4 : i ≤ 9223372036854775807) (hS : S.size ≤ maxLen) (hg : HNV w) :
    Calls Tryd.prog 3 #[.int .i64 z, .int .i64 i, .string S] w fun e w' => e = .returned (.bool true) ∧ Below w.heap.size w w' := by
  obtain ⟨n, hn⟩ := fn_ex S
  have HF := Lib.hid hn
  have HG := Lib.hid hg
  have HZ : Hid ((-9223372036854775808 ≤ z ∧ z ≤ 9223372036854775807) ∧ -9223372036854775808 ≤ i ∧ i ≤ 9223372036854775807) := Lib.hid ⟨⟨h1, h2⟩, h3, h4⟩
  clear hn hg h1 h2 h3 h4
  go_enter Tryd.func3, Tryd.ntmps3
  go_wp2_with fail
  refine (all_any w).mono ?_
  rintro e w1 ⟨rfl, hA, hb⟩
  have HA : Hid (AL w1 w.heap.size ∧ HNV w1) := Lib.hid ⟨hA, HG.out.later hb⟩
  have HBL : Hid (Below w.heap.size w w1) := Lib.hid hb
  obtain ⟨g, hgd⟩ : ∃ x, w.heap.size = x := ⟨_, rfl⟩
  rw [hgd] at HA ⊢
  have HGD := Lib.hid hgd
  clear hA hb hgd
  go_wp2_with fail
  go_loopw [8, 9] (fun c v wr => ∃ k m : Nat, 1 ≤ k ∧ k ≤ 30 ∧ v = .int .i64 (k : Int) ∧ c = .int .i64 (m : Int) ∧ ((n < k ∧ m = n) ∨ (k ≤ n ∧ m = 0)) ∧ w1 = wr) (fun _ v _ => 30 - (intOf v).toNat)
  case atStart => exact ⟨1, 0, by omega, by omega, rfl, rfl, by omega, rfl⟩
  case round =>
    obtain ⟨k, m, hk1, hk, rfl, rfl, hm, rfl⟩ := hrel
    by_cases hlt : k < 30
    · as_aux_lemma =>
      have a1 : (k : Int) < 30 := by omega
      have a0 : (0 : Int) ≤ (k : Int) := by omega
      obtain ⟨X, hX⟩ : ∃ X, nmF k = X := ⟨_, rfl⟩
      obtain ⟨c1, -, -, -⟩ := HA.out.1.at hlt
      rw [hX] at c1
      obtain ⟨k2, hk2⟩ : ∃ z, k + 1 = z := ⟨_, rfl⟩
      have iw : IntKind.i64.wrap ((k : Int) + 1) = (k2 : Int) := by rw [IntWalk.i64_in _ (by omega)]; omega
      have HK : Hid (1 ≤ k ∧ k < 30 ∧ k + 1 = k2 ∧ ((n < k ∧ m = n) ∨ (k ≤ n ∧ m = 0))) := Lib.hid ⟨hk1, hlt, hk2, hm⟩
      by_cases hc : k = n
      · have e : X = S := by rw [← hX, hc]; exact HF.out.eq (by omega)
        subst e
        have HC : Hid (k = n) := Lib.hid hc
        clear hk1 hk hlt hk2 hm hX hc
        go_wp2_with fail
        go_roundw
        case rel => exact ⟨k2, k, by have := HK.out; omega, by have := HK.out; omega, by first | rfl | go_num, rfl, by have := HK.out; have := HC.out; omega, by first | rfl | trivial⟩
        case measure => have := HK.out; simp [intOf] <;> omega
      · have e : X ≠ S := by rw [← hX]; exact HF.out.ne hk1 hlt hc
        have n1 := str_ne e
        have n2 : (X.toList == S.toList) = false := by simpa using n1
        have HC : Hid (k ≠ n) := Lib.hid hc
        clear hk1 hk hlt hk2 hm hX hc e
        go_wp2_with fail
        go_roundw
        case rel => exact ⟨k2, m, by have := HK.out; omega, by have := HK.out; omega, by first | rfl | go_num, rfl, by have := HK.out; have := HC.out; omega, by first | rfl | trivial⟩
        case measure => have := HK.out; simp [intOf] <;> omega
    · obtain rfl : k = 30 := by omega
      obtain rfl : n = m := by have := HF.out.lt; omega
      clear hk1 hk hlt hm
      have hfind := find_any S n w1 HF.out HA.out.2.2
      go_wp2_with fail
      refine hfind.mono ?_
      rintro e w2 ⟨rfl, rfl⟩
      clear hfind
      by_cases hz : z < 1 ∨ 29 < z
      · have hcs : z < 1 ∨ (¬ z < 1 ∧ 29 < z) := by omega
        have c1 := Lib.hid (name_out z w1 hz HZ.out.1.1 HZ.out.1.2)
        have c2 := Lib.hid (args_out z w1 hz)
        have c3 := Lib.hid (open_out z w1 hz)
        have c4 := Lib.hid (secret_out z i w1 hz)
        clear hz
        rcases hcs with g1 | ⟨g1, g2⟩
        all_goals
          go_wp2_with fail
          refine c1.out.mono ?_
          rintro e w2 ⟨rfl, rfl⟩
          go_wp2_with fail
          refine c2.out.mono ?_
          rintro e w2 ⟨rfl, rfl⟩
          go_wp2_with fail
          refine c3.out.mono ?_
          rintro e w2 ⟨rfl, rfl⟩
          go_wp2_with fail
          refine c4.out.mono ?_
          rintro e w2 ⟨rfl, rfl⟩
          go_wp2_with fail
          refine (req_sure _ HA.out.2).mono ?_
          rintro e w3 ⟨rfl, hb⟩
          have HB := Lib.hid (HBL.out.trans (hb.mono HBL.out.size))
          clear hb
          go_wp2_with fail
          go_ret
          exact ⟨rfl, HB.out⟩
      · obtain ⟨k, rfl⟩ : ∃ k : Nat, z = (k : Int) := ⟨z.toNat, by omega⟩
        have k1 : 1 ≤ k := by omega
        have k2 : k < 30 := by omega
        have e1 : ¬ (k : Int) < 1 := by omega
        have e2 : ¬ 29 < (k : Int) := by omega
        have e5 : (0 : Int) ≤ (k : Int) := by omega
        have e6 : (k : Int) < 30 := by omega
        obtain ⟨p, hp⟩ : ∃ p, k * 4 = p := ⟨_, rfl⟩
        obtain ⟨c0, c1, c2, c3⟩ := HA.out.1.at k2
        rw [hp] at c0 c1 c2 c3
        have HK : Hid (1 ≤ k ∧ k < 30) := Lib.hid ⟨k1, k2⟩
        have hz0 := zeroA_run
        obtain ⟨X, hX⟩ : ∃ X, nmF k = X := ⟨_, rfl⟩
        obtain ⟨Y, hY⟩ : ∃ Y, arF k = Y := ⟨_, rfl⟩
        obtain ⟨Z, hZ⟩ : ∃ Z, opF k = Z := ⟨_, rfl⟩
        obtain ⟨V, hV⟩ : ∃ V, scF k = V := ⟨_, rfl⟩
        rw [hX] at c0
        rw [hY] at c1
        rw [hZ] at c2
        rw [hV] at c3
        have HXY : Hid (nmF k = X ∧ arF k = Y ∧ opF k = Z ∧ scF k = V) := Lib.hid ⟨hX, hY, hZ, hV⟩
        clear hX hY hZ hV k1 k2 hz
        have hl := laidS w1 zeroA #[.string X, .int .i64 (Y : Int), .bool Z, .int .i64 V] 25 rfl
        obtain ⟨w3, hn⟩ : ∃ x, (w1.alloc (.cells zeroA 25)).setCells w1.heap.size 0 (#[.string X, .int .i64 (Y : Int), .bool Z, .int .i64 V] : Array Value).toList = x := ⟨_, rfl⟩
        rw [hn] at hl
        have HTH := Lib.hid hl.2.2
        have HI : Hid ((Tryd.prog.info? 25).map (·.size) = some 4) := Lib.hid (by kernel_rfl)
        have HH : Hid (Below w.heap.size w w3 ∧ HNV w3) := Lib.hid ⟨HBL.out.trans (hl.2.1.mono HBL.out.size), HA.out.2.later hl.2.1⟩
        have HBK := Lib.hid hl.1
        have d0 : w3.cell? ⟨w1.heap.size, 0, none⟩ = some (.string X) := by rw [Blk.cell HBK.out]; rfl
        have d1 : w3.cell? ⟨w1.heap.size, 1, none⟩ = some (.int .i64 (Y : Int)) := by rw [Blk.cell HBK.out]; rfl
        have d2 : w3.cell? ⟨w1.heap.size, 2, none⟩ = some (.bool Z) := by rw [Blk.cell HBK.out]; rfl
        have d3 : w3.cell? ⟨w1.heap.size, 3, none⟩ = some (.int .i64 V) := by rw [Blk.cell HBK.out]; rfl
        clear hl
        have HN := Lib.hid hn
        have HO1 : Hid ((#[.string X, .int .i64 (Y : Int), .bool Z, .int .i64 V] : Array Value).all (·.oneCell') = true) := Lib.hid (by simp [Value.oneCell'])
        clear hn
        go_wp2_with (refine wpList_store_mid rfl 25 (.tmp 10) (.tmp 61) rfl w1.heap.size 0 #[.string X, .int .i64 (Y : Int), .bool Z, .int .i64 V] rfl rfl HTH.out HI.out HO1.out ?_; rw [HN.out])
        have HW : Hid (NV w3.drew) := Lib.hid (HH.out.2.2.later (Below.refl _ w3).drew)
        have HWH : Hid (HNV w3.drew ∧ Below w.heap.size w w3.drew) := Lib.hid ⟨HH.out.2.later (Below.refl _ w3).drew, HH.out.1.drew⟩
        have d0 : w3.drew.cell? ⟨w1.heap.size, 0, none⟩ = some (.string X) := d0
        have d1 : w3.drew.cell? ⟨w1.heap.size, 1, none⟩ = some (.int .i64 (Y : Int)) := d1
        have d2 : w3.drew.cell? ⟨w1.heap.size, 2, none⟩ = some (.bool Z) := d2
        have d3 : w3.drew.cell? ⟨w1.heap.size, 3, none⟩ = some (.int .i64 V) := d3
        have HN1 : Hid (∀ w', NV w' → Calls Tryd.prog 16 #[.int .i64 (k : Int)] w' fun e w'' => e = .returned (.string X) ∧ w'' = w') := Lib.hid fun w' h => by
          have := name_any k w' HK.out.1 HK.out.2 h; rw [HXY.out.1] at this; exact quiet this
        have HN2 : Hid (∀ w', Calls Tryd.prog 17 #[.int .i64 (k : Int)] w' fun e w'' => e = .returned (.int .i64 (Y : Int)) ∧ w'' = w') := Lib.hid fun w' => by
          have := args_any k w' HK.out.1 HK.out.2; rw [HXY.out.2.1] at this; exact quiet this
        have HN3 : Hid (∀ w', Calls Tryd.prog 18 #[.int .i64 (k : Int)] w' fun e w'' => e = .returned (.bool Z) ∧ w'' = w') := Lib.hid fun w' => by
          have := open_any k w' HK.out.1 HK.out.2; rw [HXY.out.2.2.1] at this; exact quiet this
        have HN5 : Hid (∀ w', NV w' → Calls Tryd.prog 15 #[.string X] w' fun e w'' => e = .returned (.int .i64 (k : Int)) ∧ w'' = w') := Lib.hid fun w' h => by
          have h0 := fn_nm k HK.out.1 HK.out.2; rw [HXY.out.1] at h0; exact quiet (find_any X k w' h0 h)
        clear HH c0 c1 c2 c3 HBK
        have hv3 : (0 ≤ V ∧ V = i) ∨ (0 ≤ V ∧ ¬ V = i) ∨ V < 0 := by omega
        rcases hv3 with ⟨v1, rfl⟩ | ⟨v1, v2⟩ | v1
        · skip
          have HN4 : Hid (∀ w', Calls Tryd.prog 19 #[.int .i64 (k : Int), .int .i64 V] w' fun e w'' => e = .returned (.bool true) ∧ w'' = w') := Lib.hid fun w' => by
            have h9 := secret_any k V w' HK.out.1 HK.out.2
            rw [HXY.out.2.2.2, show decide (V = V ∧ 0 ≤ V) = true from by simp <;> omega] at h9; exact quiet h9
          refine WS.tail 42 (by kernel_rfl) (by kernel_rfl) ?_
          simp only [List.take_succ_cons, List.take_zero, List.drop_succ_cons, List.drop_zero]
          generalize w3.drew = W0 at *
          refine WS.val (v := ?_) (by kernel_rfl) ?_ ?_
          rotate_left
          · go_simp
            (try with_reducible rfl)
          (try simp only [Act.put, List.setIfInBounds_toArray, List.set_cons_zero, List.set_cons_succ])
          refine WS.step (by kernel_rfl) (fun K hK => ?_)
          go_simp
          with_reducible refine ⟨_, HN1.out _ HW.out, hK _ ?_⟩
          clear hK K
          (try simp only [Act.put, List.setIfInBounds_toArray, List.set_cons_zero, List.set_cons_succ])
          refine WS.val (v := ?_) (by kernel_rfl) ?_ ?_
          rotate_left
          · go_simp
            (try with_reducible rfl)
          (try simp only [Act.put, List.setIfInBounds_toArray, List.set_cons_zero, List.set_cons_succ])
          refine WS.val (v := ?_) (by kernel_rfl) ?_ ?_
          rotate_left
          · go_simp
            (try with_reducible rfl)
          (try simp only [Act.put, List.setIfInBounds_toArray, List.set_cons_zero, List.set_cons_succ])
          refine WS.val (v := ?_) (by kernel_rfl) ?_ ?_
          rotate_left
          · go_simp
            (try with_reducible rfl)
          (try simp only [Act.put, List.setIfInBounds_toArray, List.set_cons_zero, List.set_cons_succ])
          refine WS.val (v := ?_) (by kernel_rfl) ?_ ?_
          rotate_left
          · go_simp
            (try with_reducible rfl)
          (try simp only [Act.put, List.setIfInBounds_toArray, List.set_cons_zero, List.set_cons_succ])
          refine WS.val (v := ?_) (by kernel_rfl) ?_ ?_
          rotate_left
          · go_simp
            (try with_reducible rfl)
          (try simp only [Act.put, List.setIfInBounds_toArray, List.set_cons_zero, List.set_cons_succ])
          refine WS.step (by kernel_rfl) (fun K hK => ?_)
          go_simp
          with_reducible refine ⟨_, HN2.out _, hK _ ?_⟩
          clear hK K
          (try simp only [Act.put, List.setIfInBounds_toArray, List.set_cons_zero, List.set_cons_succ])
          refine WS.val (v := ?_) (by kernel_rfl) ?_ ?_
          rotate_left
          · go_simp
            (try with_reducible rfl)
          (try simp only [Act.put, List.setIfInBounds_toArray, List.set_cons_zero, List.set_cons_succ])
          refine WS.val (v := ?_) (by kernel_rfl) ?_ ?_
          rotate_left
          · go_simp
            (try with_reducible rfl)
          (try simp only [Act.put, List.setIfInBounds_toArray, List.set_cons_zero, List.set_cons_succ])
          refine WS.val (v := ?_) (by kernel_rfl) ?_ ?_
          rotate_left
          · go_simp
            (try with_reducible rfl)
          (try simp only [Act.put, List.setIfInBounds_toArray, List.set_cons_zero, List.set_cons_succ])
          refine WS.val (v := ?_) (by kernel_rfl) ?_ ?_
          rotate_left
          · go_simp
            (try with_reducible rfl)
          (try simp only [Act.put, List.setIfInBounds_toArray, List.set_cons_zero, List.set_cons_succ])
          refine WS.val (v := ?_) (by kernel_rfl) ?_ ?_
          rotate_left
          · go_simp
            (try with_reducible rfl)
          (try simp only [Act.put, List.setIfInBounds_toArray, List.set_cons_zero, List.set_cons_succ])
          refine WS.val (v := ?_) (by kernel_rfl) ?_ ?_
          rotate_left
          · go_simp
            (try with_reducible rfl)
          (try simp only [Act.put, List.setIfInBounds_toArray, List.set_cons_zero, List.set_cons_succ])
          refine WS.step (by kernel_rfl) (fun K hK => ?_)
          go_simp
          with_reducible refine ⟨_, HN3.out _, hK _ ?_⟩
          clear hK K
          (try simp only [Act.put, List.setIfInBounds_toArray, List.set_cons_zero, List.set_cons_succ])
          refine WS.val (v := ?_) (by kernel_rfl) ?_ ?_
          rotate_left
          · go_simp
            (try with_reducible rfl)
          (try simp only [Act.put, List.setIfInBounds_toArray, List.set_cons_zero, List.set_cons_succ])
          refine WS.val (v := ?_) (by kernel_rfl) ?_ ?_
          rotate_left
          · go_simp
            (try with_reducible rfl)
          (try simp only [Act.put, List.setIfInBounds_toArray, List.set_cons_zero, List.set_cons_succ])
          refine WS.val (v := ?_) (by kernel_rfl) ?_ ?_
          rotate_left
          · go_simp
            (try with_reducible rfl)
          (try simp only [Act.put, List.setIfInBounds_toArray, List.set_cons_zero, List.set_cons_succ])
          refine WS.val (v := ?_) (by kernel_rfl) ?_ ?_
          rotate_left
          · go_simp
            (try with_reducible rfl)
          (try simp only [Act.put, List.setIfInBounds_toArray, List.set_cons_zero, List.set_cons_succ])
          refine WS.val (v := ?_) (by kernel_rfl) ?_ ?_
          rotate_left
          · go_simp
            (try with_reducible rfl)
          (try simp only [Act.put, List.setIfInBounds_toArray, List.set_cons_zero, List.set_cons_succ])
          refine WS.val (v := ?_) (by kernel_rfl) ?_ ?_
          rotate_left
          · go_simp
            (try with_reducible rfl)
          (try simp only [Act.put, List.setIfInBounds_toArray, List.set_cons_zero, List.set_cons_succ])
          refine WS.val (v := ?_) (by kernel_rfl) ?_ ?_
          rotate_left
          · go_simp
            (try with_reducible rfl)
          (try simp only [Act.put, List.setIfInBounds_toArray, List.set_cons_zero, List.set_cons_succ])
          refine WS.step (by kernel_rfl) (fun K hK => ?_)
          go_simp
          with_reducible refine ⟨_, HN4.out _, hK _ ?_⟩
          clear hK K
          (try simp only [Act.put, List.setIfInBounds_toArray, List.set_cons_zero, List.set_cons_succ])
          refine WS.val (v := ?_) (by kernel_rfl) ?_ ?_
          rotate_left
          · go_simp
            (try with_reducible rfl)
          (try simp only [Act.put, List.setIfInBounds_toArray, List.set_cons_zero, List.set_cons_succ])
          refine WS.val (v := ?_) (by kernel_rfl) ?_ ?_
          rotate_left
          · go_simp
            (try with_reducible rfl)
          (try simp only [Act.put, List.setIfInBounds_toArray, List.set_cons_zero, List.set_cons_succ])
          refine WS.val (v := ?_) (by kernel_rfl) ?_ ?_
          rotate_left
          · go_simp
            (try with_reducible rfl)
          (try simp only [Act.put, List.setIfInBounds_toArray, List.set_cons_zero, List.set_cons_succ])
          refine WS.val (v := ?_) (by kernel_rfl) ?_ ?_
          rotate_left
          · go_simp
            (try with_reducible rfl)
          (try simp only [Act.put, List.setIfInBounds_toArray, List.set_cons_zero, List.set_cons_succ])
          refine WS.val (v := ?_) (by kernel_rfl) ?_ ?_
          rotate_left
          · go_simp
            (try with_reducible rfl)
          (try simp only [Act.put, List.setIfInBounds_toArray, List.set_cons_zero, List.set_cons_succ])
          refine WS.val (v := ?_) (by kernel_rfl) ?_ ?_
          rotate_left
          · go_simp
            (try with_reducible rfl)
          (try simp only [Act.put, List.setIfInBounds_toArray, List.set_cons_zero, List.set_cons_succ])
          refine WS.val (v := ?_) (by kernel_rfl) ?_ ?_
          rotate_left
          · go_simp
            (try with_reducible rfl)
          (try simp only [Act.put, List.setIfInBounds_toArray, List.set_cons_zero, List.set_cons_succ])
          refine WS.val (v := ?_) (by kernel_rfl) ?_ ?_
          rotate_left
          · go_simp
            (try with_reducible rfl)
          (try simp only [Act.put, List.setIfInBounds_toArray, List.set_cons_zero, List.set_cons_succ])
          refine WS.val (v := ?_) (by kernel_rfl) ?_ ?_
          rotate_left
          · go_simp
            (try with_reducible rfl)
          (try simp only [Act.put, List.setIfInBounds_toArray, List.set_cons_zero, List.set_cons_succ])
          refine WS.val (v := ?_) (by kernel_rfl) ?_ ?_
          rotate_left
          · go_simp
            (try with_reducible rfl)
          (try simp only [Act.put, List.setIfInBounds_toArray, List.set_cons_zero, List.set_cons_succ])
          refine WS.val (v := ?_) (by kernel_rfl) ?_ ?_
          rotate_left
          · go_simp
            (try with_reducible rfl)
          (try simp only [Act.put, List.setIfInBounds_toArray, List.set_cons_zero, List.set_cons_succ])
          refine WS.val (v := ?_) (by kernel_rfl) ?_ ?_
          rotate_left
          · go_simp
            (try with_reducible rfl)
          (try simp only [Act.put, List.setIfInBounds_toArray, List.set_cons_zero, List.set_cons_succ])
          refine WS.val (v := ?_) (by kernel_rfl) ?_ ?_
          rotate_left
          · go_simp
            (try with_reducible rfl)
          (try simp only [Act.put, List.setIfInBounds_toArray, List.set_cons_zero, List.set_cons_succ])
          refine WS.val (v := ?_) (by kernel_rfl) ?_ ?_
          rotate_left
          · go_simp
            (try with_reducible rfl)
          (try simp only [Act.put, List.setIfInBounds_toArray, List.set_cons_zero, List.set_cons_succ])
          refine WS.step (by kernel_rfl) (fun K hK => ?_)
          go_simp
          with_reducible refine ⟨_, HN5.out _ HW.out, hK _ ?_⟩
          clear hK K
          (try simp only [Act.put, List.setIfInBounds_toArray, List.set_cons_zero, List.set_cons_succ])
          refine WS.val (v := ?_) (by kernel_rfl) ?_ ?_
          rotate_left
          · go_simp
            (try with_reducible rfl)
          (try simp only [Act.put, List.setIfInBounds_toArray, List.set_cons_zero, List.set_cons_succ])
          refine WS.val (v := ?_) (by kernel_rfl) ?_ ?_
          rotate_left
          · go_simp
            (try with_reducible rfl)
          (try simp only [Act.put, List.setIfInBounds_toArray, List.set_cons_zero, List.set_cons_succ])
          refine WS.val (v := ?_) (by kernel_rfl) ?_ ?_
          rotate_left
          · go_simp
            (try with_reducible rfl)
          (try simp only [Act.put, List.setIfInBounds_toArray, List.set_cons_zero, List.set_cons_succ])
          refine WS.val (v := ?_) (by kernel_rfl) ?_ ?_
          rotate_left
          · go_simp
            (try with_reducible rfl)
          (try simp only [Act.put, List.setIfInBounds_toArray, List.set_cons_zero, List.set_cons_succ])
          refine WS.nil ?_
          go_wp2_with fail
          refine (req_sure _ HWH.out.1).mono ?_
          rintro e w4 ⟨rfl, hb⟩
          have HB := Lib.hid (HWH.out.2.trans (hb.mono HWH.out.2.size))
          clear hb
          go_wp2_with fail
          go_ret
          exact ⟨by first | rfl | (simp [v2]; done), HB.out⟩
        · have v3 : (V == i) = false := by simpa using v2
          have HN4 : Hid (∀ w', Calls Tryd.prog 19 #[.int .i64 (k : Int), .int .i64 i] w' fun e w'' => e = .returned (.bool false) ∧ w'' = w') := Lib.hid fun w' => by
            have h9 := secret_any k i w' HK.out.1 HK.out.2
            rw [HXY.out.2.2.2, show decide (V = i ∧ 0 ≤ V) = false from by simp <;> omega] at h9; exact quiet h9
          refine WS.tail 42 (by kernel_rfl) (by kernel_rfl) ?_
          simp only [List.take_succ_cons, List.take_zero, List.drop_succ_cons, List.drop_zero]
          generalize w3.drew = W0 at *
          refine WS.val (v := ?_) (by kernel_rfl) ?_ ?_
          rotate_left
          · go_simp
            (try with_reducible rfl)
          (try simp only [Act.put, List.setIfInBounds_toArray, List.set_cons_zero, List.set_cons_succ])
          refine WS.step (by kernel_rfl) (fun K hK => ?_)
          go_simp
          with_reducible refine ⟨_, HN1.out _ HW.out, hK _ ?_⟩
          clear hK K
          (try simp only [Act.put, List.setIfInBounds_toArray, List.set_cons_zero, List.set_cons_succ])
          refine WS.val (v := ?_) (by kernel_rfl) ?_ ?_
          rotate_left
          · go_simp
            (try with_reducible rfl)
          (try simp only [Act.put, List.setIfInBounds_toArray, List.set_cons_zero, List.set_cons_succ])
          refine WS.val (v := ?_) (by kernel_rfl) ?_ ?_
          rotate_left
          · go_simp
            (try with_reducible rfl)
          (try simp only [Act.put, List.setIfInBounds_toArray, List.set_cons_zero, List.set_cons_succ])
          refine WS.val (v := ?_) (by kernel_rfl) ?_ ?_
          rotate_left
          · go_simp
            (try with_reducible rfl)
          (try simp only [Act.put, List.setIfInBounds_toArray, List.set_cons_zero, List.set_cons_succ])
          refine WS.val (v := ?_) (by kernel_rfl) ?_ ?_
          rotate_left
          · go_simp
            (try with_reducible rfl)
          (try simp only [Act.put, List.setIfInBounds_toArray, List.set_cons_zero, List.set_cons_succ])
          refine WS.val (v := ?_) (by kernel_rfl) ?_ ?_
          rotate_left
          · go_simp
            (try with_reducible rfl)
          (try simp only [Act.put, List.setIfInBounds_toArray, List.set_cons_zero, List.set_cons_succ])
          refine WS.step (by kernel_rfl) (fun K hK => ?_)
          go_simp
          with_reducible refine ⟨_, HN2.out _, hK _ ?_⟩
          clear hK K
          (try simp only [Act.put, List.setIfInBounds_toArray, List.set_cons_zero, List.set_cons_succ])
          refine WS.val (v := ?_) (by kernel_rfl) ?_ ?_
          rotate_left
          · go_simp
            (try with_reducible rfl)
          (try simp only [Act.put, List.setIfInBounds_toArray, List.set_cons_zero, List.set_cons_succ])
          refine WS.val (v := ?_) (by kernel_rfl) ?_ ?_
          rotate_left
          · go_simp
            (try with_reducible rfl)
          (try simp only [Act.put, List.setIfInBounds_toArray, List.set_cons_zero, List.set_cons_succ])
          refine WS.val (v := ?_) (by kernel_rfl) ?_ ?_
          rotate_left
          · go_simp
            (try with_reducible rfl)
          (try simp only [Act.put, List.setIfInBounds_toArray, List.set_cons_zero, List.set_cons_succ])
          refine WS.val (v := ?_) (by kernel_rfl) ?_ ?_
          rotate_left
          · go_simp
            (try with_reducible rfl)
          (try simp only [Act.put, List.setIfInBounds_toArray, List.set_cons_zero, List.set_cons_succ])
          refine WS.val (v := ?_) (by kernel_rfl) ?_ ?_
          rotate_left
          · go_simp
            (try with_reducible rfl)
          (try simp only [Act.put, List.setIfInBounds_toArray, List.set_cons_zero, List.set_cons_succ])
          refine WS.val (v := ?_) (by kernel_rfl) ?_ ?_
          rotate_left
          · go_simp
            (try with_reducible rfl)
          (try simp only [Act.put, List.setIfInBounds_toArray, List.set_cons_zero, List.set_cons_succ])
          refine WS.step (by kernel_rfl) (fun K hK => ?_)
          go_simp
          with_reducible refine ⟨_, HN3.out _, hK _ ?_⟩
          clear hK K
          (try simp only [Act.put, List.setIfInBounds_toArray, List.set_cons_zero, List.set_cons_succ])
          refine WS.val (v := ?_) (by kernel_rfl) ?_ ?_
          rotate_left
          · go_simp
            (try with_reducible rfl)
          (try simp only [Act.put, List.setIfInBounds_toArray, List.set_cons_zero, List.set_cons_succ])
          refine WS.val (v := ?_) (by kernel_rfl) ?_ ?_
          rotate_left
          · go_simp
            (try with_reducible rfl)
          (try simp only [Act.put, List.setIfInBounds_toArray, List.set_cons_zero, List.set_cons_succ])
          refine WS.val (v := ?_) (by kernel_rfl) ?_ ?_
          rotate_left
          · go_simp
            (try with_reducible rfl)
          (try simp only [Act.put, List.setIfInBounds_toArray, List.set_cons_zero, List.set_cons_succ])
          refine WS.val (v := ?_) (by kernel_rfl) ?_ ?_
          rotate_left
          · go_simp
            (try with_reducible rfl)
          (try simp only [Act.put, List.setIfInBounds_toArray, List.set_cons_zero, List.set_cons_succ])
          refine WS.val (v := ?_) (by kernel_rfl) ?_ ?_
          rotate_left
          · go_simp
            (try with_reducible rfl)
          (try simp only [Act.put, List.setIfInBounds_toArray, List.set_cons_zero, List.set_cons_succ])
          refine WS.val (v := ?_) (by kernel_rfl) ?_ ?_
          rotate_left
          · go_simp
            (try with_reducible rfl)
          (try simp only [Act.put, List.setIfInBounds_toArray, List.set_cons_zero, List.set_cons_succ])
          refine WS.val (v := ?_) (by kernel_rfl) ?_ ?_
          rotate_left
          · go_simp
            (try with_reducible rfl)
          (try simp only [Act.put, List.setIfInBounds_toArray, List.set_cons_zero, List.set_cons_succ])
          refine WS.step (by kernel_rfl) (fun K hK => ?_)
          go_simp
          with_reducible refine ⟨_, HN4.out _, hK _ ?_⟩
          clear hK K
          (try simp only [Act.put, List.setIfInBounds_toArray, List.set_cons_zero, List.set_cons_succ])
          refine WS.val (v := ?_) (by kernel_rfl) ?_ ?_
          rotate_left
          · go_simp
            (try with_reducible rfl)
          (try simp only [Act.put, List.setIfInBounds_toArray, List.set_cons_zero, List.set_cons_succ])
          refine WS.val (v := ?_) (by kernel_rfl) ?_ ?_
          rotate_left
          · go_simp
            (try with_reducible rfl)
          (try simp only [Act.put, List.setIfInBounds_toArray, List.set_cons_zero, List.set_cons_succ])
          refine WS.val (v := ?_) (by kernel_rfl) ?_ ?_
          rotate_left
          · go_simp
            (try with_reducible rfl)
          (try simp only [Act.put, List.setIfInBounds_toArray, List.set_cons_zero, List.set_cons_succ])
          refine WS.val (v := ?_) (by kernel_rfl) ?_ ?_
          rotate_left
          · go_simp
            (try with_reducible rfl)
          (try simp only [Act.put, List.setIfInBounds_toArray, List.set_cons_zero, List.set_cons_succ])
          refine WS.val (v := ?_) (by kernel_rfl) ?_ ?_
          rotate_left
          · go_simp
            (try with_reducible rfl)
          (try simp only [Act.put, List.setIfInBounds_toArray, List.set_cons_zero, List.set_cons_succ])
          refine WS.val (v := ?_) (by kernel_rfl) ?_ ?_
          rotate_left
          · go_simp
            (try with_reducible rfl)
          (try simp only [Act.put, List.setIfInBounds_toArray, List.set_cons_zero, List.set_cons_succ])
          refine WS.val (v := ?_) (by kernel_rfl) ?_ ?_
          rotate_left
          · go_simp
            (try with_reducible rfl)
          (try simp only [Act.put, List.setIfInBounds_toArray, List.set_cons_zero, List.set_cons_succ])
          refine WS.val (v := ?_) (by kernel_rfl) ?_ ?_
          rotate_left
          · go_simp
            (try with_reducible rfl)
          (try simp only [Act.put, List.setIfInBounds_toArray, List.set_cons_zero, List.set_cons_succ])
          refine WS.val (v := ?_) (by kernel_rfl) ?_ ?_
          rotate_left
          · go_simp
            (try with_reducible rfl)
          (try simp only [Act.put, List.setIfInBounds_toArray, List.set_cons_zero, List.set_cons_succ])
          refine WS.val (v := ?_) (by kernel_rfl) ?_ ?_
          rotate_left
          · go_simp
            (try with_reducible rfl)
          (try simp only [Act.put, List.setIfInBounds_toArray, List.set_cons_zero, List.set_cons_succ])
          refine WS.val (v := ?_) (by kernel_rfl) ?_ ?_
          rotate_left
          · go_simp
            (try with_reducible rfl)
          (try simp only [Act.put, List.setIfInBounds_toArray, List.set_cons_zero, List.set_cons_succ])
          refine WS.val (v := ?_) (by kernel_rfl) ?_ ?_
          rotate_left
          · go_simp
            (try with_reducible rfl)
          (try simp only [Act.put, List.setIfInBounds_toArray, List.set_cons_zero, List.set_cons_succ])
          refine WS.val (v := ?_) (by kernel_rfl) ?_ ?_
          rotate_left
          · go_simp
            (try with_reducible rfl)
          (try simp only [Act.put, List.setIfInBounds_toArray, List.set_cons_zero, List.set_cons_succ])
          refine WS.val (v := ?_) (by kernel_rfl) ?_ ?_
          rotate_left
          · go_simp
            (try with_reducible rfl)
          (try simp only [Act.put, List.setIfInBounds_toArray, List.set_cons_zero, List.set_cons_succ])
          refine WS.step (by kernel_rfl) (fun K hK => ?_)
          go_simp
          with_reducible refine ⟨_, HN5.out _ HW.out, hK _ ?_⟩
          clear hK K
          (try simp only [Act.put, List.setIfInBounds_toArray, List.set_cons_zero, List.set_cons_succ])
          refine WS.val (v := ?_) (by kernel_rfl) ?_ ?_
          rotate_left
          · go_simp
            (try with_reducible rfl)
          (try simp only [Act.put, List.setIfInBounds_toArray, List.set_cons_zero, List.set_cons_succ])
          refine WS.val (v := ?_) (by kernel_rfl) ?_ ?_
          rotate_left
          · go_simp
            (try with_reducible rfl)
          (try simp only [Act.put, List.setIfInBounds_toArray, List.set_cons_zero, List.set_cons_succ])
          refine WS.val (v := ?_) (by kernel_rfl) ?_ ?_
          rotate_left
          · go_simp
            (try with_reducible rfl)
          (try simp only [Act.put, List.setIfInBounds_toArray, List.set_cons_zero, List.set_cons_succ])
          refine WS.val (v := ?_) (by kernel_rfl) ?_ ?_
          rotate_left
          · go_simp
            (try with_reducible rfl)
          (try simp only [Act.put, List.setIfInBounds_toArray, List.set_cons_zero, List.set_cons_succ])
          refine WS.nil ?_
          go_wp2_with fail
          refine (req_sure _ HWH.out.1).mono ?_
          rintro e w4 ⟨rfl, hb⟩
          have HB := Lib.hid (HWH.out.2.trans (hb.mono HWH.out.2.size))
          clear hb
          go_wp2_with fail
          go_ret
          exact ⟨by first | rfl | (simp [v2]; done), HB.out⟩
        · have v2 : ¬ 0 ≤ V := by omega
          have HN4 : Hid (∀ w', Calls Tryd.prog 19 #[.int .i64 (k : Int), .int .i64 i] w' fun e w'' => e = .returned (.bool false) ∧ w'' = w') := Lib.hid fun w' => by
            have h9 := secret_any k i w' HK.out.1 HK.out.2
            rw [HXY.out.2.2.2, show decide (V = i ∧ 0 ≤ V) = false from by simp <;> omega] at h9; exact quiet h9
          refine WS.tail 42 (by kernel_rfl) (by kernel_rfl) ?_
          simp only [List.take_succ_cons, List.take_zero, List.drop_succ_cons, List.drop_zero]
          generalize w3.drew = W0 at *
          refine WS.val (v := ?_) (by kernel_rfl) ?_ ?_
          rotate_left
          · go_simp
            (try with_reducible rfl)
          (try simp only [Act.put, List.setIfInBounds_toArray, List.set_cons_zero, List.set_cons_succ])
          refine WS.step (by kernel_rfl) (fun K hK => ?_)
          go_simp
          with_reducible refine ⟨_, HN1.out _ HW.out, hK _ ?_⟩
          clear hK K
          (try simp only [Act.put, List.setIfInBounds_toArray, List.set_cons_zero, List.set_cons_succ])
          refine WS.val (v := ?_) (by kernel_rfl) ?_ ?_
          rotate_left
          · go_simp
            (try with_reducible rfl)
          (try simp only [Act.put, List.setIfInBounds_toArray, List.set_cons_zero, List.set_cons_succ])
          refine WS.val (v := ?_) (by kernel_rfl) ?_ ?_
          rotate_left
          · go_simp
            (try with_reducible rfl)
          (try simp only [Act.put, List.setIfInBounds_toArray, List.set_cons_zero, List.set_cons_succ])
          refine WS.val (v := ?_) (by kernel_rfl) ?_ ?_
          rotate_left
          · go_simp
            (try with_reducible rfl)
          (try simp only [Act.put, List.setIfInBounds_toArray, List.set_cons_zero, List.set_cons_succ])
          refine WS.val (v := ?_) (by kernel_rfl) ?_ ?_
          rotate_left
          · go_simp
            (try with_reducible rfl)
          (try simp only [Act.put, List.setIfInBounds_toArray, List.set_cons_zero, List.set_cons_succ])
          refine WS.val (v := ?_) (by kernel_rfl) ?_ ?_
          rotate_left
          · go_simp
            (try with_reducible rfl)
          (try simp only [Act.put, List.setIfInBounds_toArray, List.set_cons_zero, List.set_cons_succ])
          refine WS.step (by kernel_rfl) (fun K hK => ?_)
          go_simp
          with_reducible refine ⟨_, HN2.out _, hK _ ?_⟩
          clear hK K
          (try simp only [Act.put, List.setIfInBounds_toArray, List.set_cons_zero, List.set_cons_succ])
          refine WS.val (v := ?_) (by kernel_rfl) ?_ ?_
          rotate_left
          · go_simp
            (try with_reducible rfl)
          (try simp only [Act.put, List.setIfInBounds_toArray, List.set_cons_zero, List.set_cons_succ])
          refine WS.val (v := ?_) (by kernel_rfl) ?_ ?_
          rotate_left
          · go_simp
            (try with_reducible rfl)
          (try simp only [Act.put, List.setIfInBounds_toArray, List.set_cons_zero, List.set_cons_succ])
          refine WS.val (v := ?_) (by kernel_rfl) ?_ ?_
          rotate_left
          · go_simp
            (try with_reducible rfl)
          (try simp only [Act.put, List.setIfInBounds_toArray, List.set_cons_zero, List.set_cons_succ])
          refine WS.val (v := ?_) (by kernel_rfl) ?_ ?_
          rotate_left
          · go_simp
            (try with_reducible rfl)
          (try simp only [Act.put, List.setIfInBounds_toArray, List.set_cons_zero, List.set_cons_succ])
          refine WS.val (v := ?_) (by kernel_rfl) ?_ ?_
          rotate_left
          · go_simp
            (try with_reducible rfl)
          (try simp only [Act.put, List.setIfInBounds_toArray, List.set_cons_zero, List.set_cons_succ])
          refine WS.val (v := ?_) (by kernel_rfl) ?_ ?_
          rotate_left
          · go_simp
            (try with_reducible rfl)
          (try simp only [Act.put, List.setIfInBounds_toArray, List.set_cons_zero, List.set_cons_succ])
          refine WS.step (by kernel_rfl) (fun K hK => ?_)
          go_simp
          with_reducible refine ⟨_, HN3.out _, hK _ ?_⟩
          clear hK K
          (try simp only [Act.put, List.setIfInBounds_toArray, List.set_cons_zero, List.set_cons_succ])
          refine WS.val (v := ?_) (by kernel_rfl) ?_ ?_
          rotate_left
          · go_simp
            (try with_reducible rfl)
          (try simp only [Act.put, List.setIfInBounds_toArray, List.set_cons_zero, List.set_cons_succ])
          refine WS.val (v := ?_) (by kernel_rfl) ?_ ?_
          rotate_left
          · go_simp
            (try with_reducible rfl)
          (try simp only [Act.put, List.setIfInBounds_toArray, List.set_cons_zero, List.set_cons_succ])
          refine WS.val (v := ?_) (by kernel_rfl) ?_ ?_
          rotate_left
          · go_simp
            (try with_reducible rfl)
          (try simp only [Act.put, List.setIfInBounds_toArray, List.set_cons_zero, List.set_cons_succ])
          refine WS.val (v := ?_) (by kernel_rfl) ?_ ?_
          rotate_left
          · go_simp
            (try with_reducible rfl)
          (try simp only [Act.put, List.setIfInBounds_toArray, List.set_cons_zero, List.set_cons_succ])
          refine WS.val (v := ?_) (by kernel_rfl) ?_ ?_
          rotate_left
          · go_simp
            (try with_reducible rfl)
          (try simp only [Act.put, List.setIfInBounds_toArray, List.set_cons_zero, List.set_cons_succ])
          refine WS.val (v := ?_) (by kernel_rfl) ?_ ?_
          rotate_left
          · go_simp
            (try with_reducible rfl)
          (try simp only [Act.put, List.setIfInBounds_toArray, List.set_cons_zero, List.set_cons_succ])
          refine WS.val (v := ?_) (by kernel_rfl) ?_ ?_
          rotate_left
          · go_simp
            (try with_reducible rfl)
          (try simp only [Act.put, List.setIfInBounds_toArray, List.set_cons_zero, List.set_cons_succ])
          refine WS.step (by kernel_rfl) (fun K hK => ?_)
          go_simp
          with_reducible refine ⟨_, HN4.out _, hK _ ?_⟩
          clear hK K
          (try simp only [Act.put, List.setIfInBounds_toArray, List.set_cons_zero, List.set_cons_succ])
          refine WS.val (v := ?_) (by kernel_rfl) ?_ ?_
          rotate_left
          · go_simp
            (try with_reducible rfl)
          (try simp only [Act.put, List.setIfInBounds_toArray, List.set_cons_zero, List.set_cons_succ])
          refine WS.val (v := ?_) (by kernel_rfl) ?_ ?_
          rotate_left
          · go_simp
            (try with_reducible rfl)
          (try simp only [Act.put, List.setIfInBounds_toArray, List.set_cons_zero, List.set_cons_succ])
          refine WS.val (v := ?_) (by kernel_rfl) ?_ ?_
          rotate_left
          · go_simp
            (try with_reducible rfl)
          (try simp only [Act.put, List.setIfInBounds_toArray, List.set_cons_zero, List.set_cons_succ])
          refine WS.val (v := ?_) (by kernel_rfl) ?_ ?_
          rotate_left
          · go_simp
            (try with_reducible rfl)
          (try simp only [Act.put, List.setIfInBounds_toArray, List.set_cons_zero, List.set_cons_succ])
          refine WS.skip (by kernel_rfl) ?_
          (try simp only [Act.put, List.setIfInBounds_toArray, List.set_cons_zero, List.set_cons_succ])
          refine WS.skip (by kernel_rfl) ?_
          (try simp only [Act.put, List.setIfInBounds_toArray, List.set_cons_zero, List.set_cons_succ])
          refine WS.skip (by kernel_rfl) ?_
          (try simp only [Act.put, List.setIfInBounds_toArray, List.set_cons_zero, List.set_cons_succ])
          refine WS.skip (by kernel_rfl) ?_
          (try simp only [Act.put, List.setIfInBounds_toArray, List.set_cons_zero, List.set_cons_succ])
          refine WS.val (v := ?_) (by kernel_rfl) ?_ ?_
          rotate_left
          · go_simp
            (try with_reducible rfl)
          (try simp only [Act.put, List.setIfInBounds_toArray, List.set_cons_zero, List.set_cons_succ])
          refine WS.val (v := ?_) (by kernel_rfl) ?_ ?_
          rotate_left
          · go_simp
            (try with_reducible rfl)
          (try simp only [Act.put, List.setIfInBounds_toArray, List.set_cons_zero, List.set_cons_succ])
          refine WS.val (v := ?_) (by kernel_rfl) ?_ ?_
          rotate_left
          · go_simp
            (try with_reducible rfl)
          (try simp only [Act.put, List.setIfInBounds_toArray, List.set_cons_zero, List.set_cons_succ])
          refine WS.val (v := ?_) (by kernel_rfl) ?_ ?_
          rotate_left
          · go_simp
            (try with_reducible rfl)
          (try simp only [Act.put, List.setIfInBounds_toArray, List.set_cons_zero, List.set_cons_succ])
          refine WS.val (v := ?_) (by kernel_rfl) ?_ ?_
          rotate_left
          · go_simp
            (try with_reducible rfl)
          (try simp only [Act.put, List.setIfInBounds_toArray, List.set_cons_zero, List.set_cons_succ])
          refine WS.val (v := ?_) (by kernel_rfl) ?_ ?_
          rotate_left
          · go_simp
            (try with_reducible rfl)
          (try simp only [Act.put, List.setIfInBounds_toArray, List.set_cons_zero, List.set_cons_succ])
          refine WS.step (by kernel_rfl) (fun K hK => ?_)
          go_simp
          with_reducible refine ⟨_, HN5.out _ HW.out, hK _ ?_⟩
          clear hK K
          (try simp only [Act.put, List.setIfInBounds_toArray, List.set_cons_zero, List.set_cons_succ])
          refine WS.val (v := ?_) (by kernel_rfl) ?_ ?_
          rotate_left
          · go_simp
            (try with_reducible rfl)
          (try simp only [Act.put, List.setIfInBounds_toArray, List.set_cons_zero, List.set_cons_succ])
          refine WS.val (v := ?_) (by kernel_rfl) ?_ ?_
          rotate_left
          · go_simp
            (try with_reducible rfl)
          (try simp only [Act.put, List.setIfInBounds_toArray, List.set_cons_zero, List.set_cons_succ])
          refine WS.val (v := ?_) (by kernel_rfl) ?_ ?_
          rotate_left
          · go_simp
            (try with_reducible rfl)
          (try simp only [Act.put, List.setIfInBounds_toArray, List.set_cons_zero, List.set_cons_succ])
          refine WS.val (v := ?_) (by kernel_rfl) ?_ ?_
          rotate_left
          · go_simp
            (try with_reducible rfl)
          (try simp only [Act.put, List.setIfInBounds_toArray, List.set_cons_zero, List.set_cons_succ])
          refine WS.nil ?_
          go_wp2_with fail
          refine (req_sure _ HWH.out.1).mono ?_
          rintro e w4 ⟨rfl, hb⟩
          have HB := Lib.hid (HWH.out.2.trans (hb.mono HWH.out.2.size))
          clear hb
          go_wp2_with fail
          go_ret
          exact ⟨by first | rfl | (simp [v2]; done), HB.out⟩
end Go.Proofs.YtmabhjifldafaaaDoor
