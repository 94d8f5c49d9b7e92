/- Fields of bytes, as the document reads them. -/
import Derived.Test.YtmabhjifldafaaaDoorCv
import Derived.Test.YtmabhjifldafaaaDoorWi4
namespace Go.Proofs.YtmabhjifldafaaaDoor
set_option linter.unusedVariables false
set_option linter.unusedSimpArgs false
open Go.RowKit

/-- While fields are taken. -/
structure ES (w0 : World) (n : Nat) (B : Nat → Nat) (i : Nat) (vb : Value) (wr : World) : Prop where
  l : RL wr w0.heap.size vb i (fl B) (dG B)
  o : Below w0.heap.size w0 wr
  n : ps B i ≤ n
set_option maxRecDepth 100000 in
set_option maxHeartbeats 8000000 in
theorem rdec_any (ob : Option Addr) (n cap : Nat) (B : Nat → Nat) (w : World) (hB : Bytes w ob n B) (hc : n ≤ cap) (hm : cap ≤ maxLen) :
    Calls Tryd.prog 71 #[.slice ob n cap] w (DecA n B (.int .i64 0) (.int .i64 3) (.int .i64 4) w) := by
  unfold maxLen at hm
  have hn0 : (n : Int) ≤ 9223372036854775807 := by omega
  go_enter Tryd.func71, Tryd.ntmps71
  by_cases h10 : 1024 < n
  · have h1 : (1024 : Int) < (n : Int) := by omega
    have H10 := Lib.hid h10
    clear h10
    go_wp2_with fail
    go_ret2
    exact ⟨Below.refl _ _, .inr (.inl ⟨H10.out, rfl⟩)⟩
  · have h1 : ¬ (1024 : Int) < (n : Int) := by omega
    have H10 : Hid (n ≤ 1024) := Lib.hid (by omega)
    by_cases hn1 : n < 1
    · have h2 : (n : Int) < 1 := by omega
      have HN1 := Lib.hid hn1
      clear hn1 h10
      go_wp2_with fail
      go_ret2
      exact ⟨Below.refl _ _, .inr (.inr ⟨H10.out, fun h => by have := h.1; have := HN1.out; omega, rfl⟩)⟩
    · have h2 : ¬ (n : Int) < 1 := by omega
      obtain ⟨hx8, b, off, rfl, hc0⟩ := hB 0 (by omega)
      obtain ⟨m, hmE⟩ : ∃ m, B 0 = m := ⟨_, rfl⟩
      rw [hmE] at hc0 hx8
      have c0 : w.cell? ⟨b, off, none⟩ = some (.int .u8 (m : Nat)) := hc0
      have r5 : 0 < n := by omega
      have r6 : (0 : Int) < (n : Int) := by omega
      have HM : Hid (B 0 = m) := Lib.hid hmE
      have HNC : Hid (1 ≤ n ∧ n ≤ cap ∧ cap ≤ 9223372036854775807) := Lib.hid (by omega)
      have HB := Lib.hid hB
      have HC0 := Lib.hid c0
      have HLT : Hid (b < w.heap.size) := Lib.hid (hB.lt _ rfl (by omega))
      clear hB hc0 hmE h10 hn1
      by_cases h16 : 16 < m
      · have h3 : (16 : Int) < (m : Int) := by omega
        have H16 := Lib.hid h16
        clear h16
        go_wp2_with fail
        go_ret2
        exact ⟨Below.refl _ _, .inr (.inr ⟨H10.out, fun h => by have := h.2.2.1; have := H16.out; have := HM.out; omega, rfl⟩)⟩
      · have h3 : ¬ (16 : Int) < (m : Int) := by omega
        have H16 : Hid (m ≤ 16) := Lib.hid (by omega)
        have H1 : Hid (ES w n B 0 (.slice none 0 0) w) := Lib.hid ⟨RL.nil _ _ _ _, Below.refl _ _, by show 1 ≤ n; omega⟩
        clear h16 hc hm
        go_wp2_with fail
        clear c0
        go_loopw [4, 5, 6] (fun x y v wr => ∃ (i p : Nat) (vb : Value), i ≤ m ∧ v = .int .i64 (i : Int) ∧ vb = x ∧ y = .int .i64 (p : Int) ∧ ps B i = p ∧ ES w n B i vb wr) (fun _ _ v _ => m - (intOf v).toNat)
        case atStart => exact ⟨0, 1, _, Nat.zero_le _, rfl, rfl, rfl, rfl, H1.out⟩
        case round =>
          clear H1
          obtain ⟨i, p, vb, hi, rfl, rfl, rfl, hp, hX⟩ := hrel
          have HX := Lib.hid hX
          have HP := Lib.hid hp
          have cm : wr.cell? ⟨b, off, none⟩ = some (.int .u8 (m : Nat)) := by rw [hX.o.cell HLT.out]; exact HC0.out
          have m4 : IntKind.i64.wrap (m : Int) = (m : Int) := IntWalk.i64_in _ (by omega)
          clear hX hp
          by_cases hli : i < m
          · as_aux_lemma =>
            have i1 : (i : Int) < (m : Int) := by omega
            have HI : Hid (i < m ∧ m ≤ 16) := Lib.hid ⟨hli, H16.out⟩
            obtain ⟨i2, hi2⟩ : ∃ x, i + 1 = x := ⟨_, rfl⟩
            have iw : IntKind.i64.wrap ((i : Int) + 1) = (i2 : Int) := by have := H16.out; rw [IntWalk.i64_in _ (by omega)]; omega
            have HI2 := Lib.hid hi2
            obtain ⟨d, hd⟩ : ∃ d, n - p = d := ⟨_, rfl⟩
            have HD : Hid (p + d = n ∧ n ≤ 1024) := Lib.hid (by have := HX.out.n; have := HP.out; have := H10.out; omega)
            have d1 : (n : Int) - (p : Int) = (d : Int) := by have := HD.out; omega
            have d2 : IntKind.i64.wrap (d : Int) = (d : Int) := IntWalk.i64_in _ (by have := HD.out; omega)
            have H0 : Hid (ES w n B i vb wr.drew) := Lib.hid ⟨HX.out.l.later (Below.refl _ _).drew, HX.out.o.drew, HX.out.n⟩
            clear hi hli hi2 hd
            by_cases hd2 : d < 2
            · have g1 : (d : Int) < 2 := by omega
              have HBD := Lib.hid hd2
              clear hd2
              go_wp2_with fail
              refine WS.lit (by kernel_rfl) (by kernel_rfl) ?_
              generalize wr.drew = W0 at *
              refine WS.val (v := ?_) (by kernel_rfl) ?_ ?_
              rotate_left
              · go_simp
                (try with_reducible rfl)
              (try simp only [Act.put, List.setIfInBounds_toArray, List.set_cons_zero, List.set_cons_succ])
              refine WS.val (v := ?_) (by kernel_rfl) ?_ ?_
              rotate_left
              · go_simp
                (try with_reducible rfl)
              (try simp only [Act.put, List.setIfInBounds_toArray, List.set_cons_zero, List.set_cons_succ])
              refine WS.val (v := ?_) (by kernel_rfl) ?_ ?_
              rotate_left
              · go_simp
                (try with_reducible rfl)
              (try simp only [Act.put, List.setIfInBounds_toArray, List.set_cons_zero, List.set_cons_succ])
              refine WS.val (v := ?_) (by kernel_rfl) ?_ ?_
              rotate_left
              · go_simp
                (try with_reducible rfl)
              (try simp only [Act.put, List.setIfInBounds_toArray, List.set_cons_zero, List.set_cons_succ])
              refine WS.val (v := ?_) (by kernel_rfl) ?_ ?_
              rotate_left
              · go_simp
                (try with_reducible rfl)
              (try simp only [Act.put, List.setIfInBounds_toArray, List.set_cons_zero, List.set_cons_succ])
              refine WS.val (v := ?_) (by kernel_rfl) ?_ ?_
              rotate_left
              · go_simp
                (try with_reducible rfl)
              (try simp only [Act.put, List.setIfInBounds_toArray, List.set_cons_zero, List.set_cons_succ])
              refine WS.skip (by kernel_rfl) ?_
              (try simp only [Act.put, List.setIfInBounds_toArray, List.set_cons_zero, List.set_cons_succ])
              refine WS.skip (by kernel_rfl) ?_
              (try simp only [Act.put, List.setIfInBounds_toArray, List.set_cons_zero, List.set_cons_succ])
              refine WS.skip (by kernel_rfl) ?_
              (try simp only [Act.put, List.setIfInBounds_toArray, List.set_cons_zero, List.set_cons_succ])
              refine WS.skip (by kernel_rfl) ?_
              (try simp only [Act.put, List.setIfInBounds_toArray, List.set_cons_zero, List.set_cons_succ])
              refine WS.skip (by kernel_rfl) ?_
              (try simp only [Act.put, List.setIfInBounds_toArray, List.set_cons_zero, List.set_cons_succ])
              refine WS.skip (by kernel_rfl) ?_
              (try simp only [Act.put, List.setIfInBounds_toArray, List.set_cons_zero, List.set_cons_succ])
              refine WS.skip (by kernel_rfl) ?_
              (try simp only [Act.put, List.setIfInBounds_toArray, List.set_cons_zero, List.set_cons_succ])
              refine WS.skip (by kernel_rfl) ?_
              (try simp only [Act.put, List.setIfInBounds_toArray, List.set_cons_zero, List.set_cons_succ])
              refine WS.skip (by kernel_rfl) ?_
              (try simp only [Act.put, List.setIfInBounds_toArray, List.set_cons_zero, List.set_cons_succ])
              refine WS.skip (by kernel_rfl) ?_
              (try simp only [Act.put, List.setIfInBounds_toArray, List.set_cons_zero, List.set_cons_succ])
              refine WS.skip (by kernel_rfl) ?_
              (try simp only [Act.put, List.setIfInBounds_toArray, List.set_cons_zero, List.set_cons_succ])
              refine WS.skip (by kernel_rfl) ?_
              (try simp only [Act.put, List.setIfInBounds_toArray, List.set_cons_zero, List.set_cons_succ])
              refine WS.skip (by kernel_rfl) ?_
              (try simp only [Act.put, List.setIfInBounds_toArray, List.set_cons_zero, List.set_cons_succ])
              refine WS.skip (by kernel_rfl) ?_
              (try simp only [Act.put, List.setIfInBounds_toArray, List.set_cons_zero, List.set_cons_succ])
              refine WS.skip (by kernel_rfl) ?_
              (try simp only [Act.put, List.setIfInBounds_toArray, List.set_cons_zero, List.set_cons_succ])
              refine WS.skip (by kernel_rfl) ?_
              (try simp only [Act.put, List.setIfInBounds_toArray, List.set_cons_zero, List.set_cons_succ])
              refine WS.skip (by kernel_rfl) ?_
              (try simp only [Act.put, List.setIfInBounds_toArray, List.set_cons_zero, List.set_cons_succ])
              refine WS.skip (by kernel_rfl) ?_
              (try simp only [Act.put, List.setIfInBounds_toArray, List.set_cons_zero, List.set_cons_succ])
              refine WS.skip (by kernel_rfl) ?_
              (try simp only [Act.put, List.setIfInBounds_toArray, List.set_cons_zero, List.set_cons_succ])
              refine WS.val (v := ?_) (by kernel_rfl) ?_ ?_
              rotate_left
              · go_simp
                (try with_reducible rfl)
              (try simp only [Act.put, List.setIfInBounds_toArray, List.set_cons_zero, List.set_cons_succ])
              refine WS.nil ?_
              go_wp2_with fail
              go_ret2
              exact ⟨H0.out.o, .inr (.inr ⟨H10.out, not_fits (by rw [HM.out]; exact HI.out.1) (by rw [ps_succ, HP.out]; have := HBD.out; have := HD.out; omega), rfl⟩)⟩
            · have g1 : ¬ (d : Int) < 2 := by omega
              have g1' : decide ((d : Int) < 2) = false := decide_eq_false g1
              have HBD : Hid (2 ≤ d) := Lib.hid (by omega)
              have HBB : Bytes wr (some ⟨b, off, none⟩) n B := HB.out.later HX.out.o
              obtain ⟨hx8', b', off', e0, hcx⟩ := HBB p (by have := HD.out; omega)
              cases e0
              obtain ⟨hy8, _, _, e0, hcy⟩ := HBB (p + 1) (by have := HD.out; omega)
              cases e0
              obtain ⟨x, hx⟩ : ∃ x, B p = x := ⟨_, rfl⟩
              obtain ⟨y, hy⟩ : ∃ x, B (p + 1) = x := ⟨_, rfl⟩
              rw [hx] at hcx hx8'
              rw [hy] at hcy hy8
              obtain ⟨p1, hp1⟩ : ∃ z, p + 1 = z := ⟨_, rfl⟩
              rw [hp1] at hcy
              obtain ⟨q, hq⟩ : ∃ q, 256 * x = q := ⟨_, rfl⟩
              obtain ⟨s, hs⟩ : ∃ s, q + y = s := ⟨_, rfl⟩
              obtain ⟨d3, hd3⟩ : ∃ z, d - 2 = z := ⟨_, rfl⟩
              have HS : Hid (fl B i = s ∧ s < 65536 ∧ d3 + 2 = d) := Lib.hid ⟨by unfold fl; rw [HP.out, hx, hy]; omega, by omega, by omega⟩
              have cx : wr.drew.cell? ⟨b, off + p, none⟩ = some (.int .u8 (x : Nat)) := hcx
              have cy : wr.drew.cell? ⟨b, off + p1, none⟩ = some (.int .u8 (y : Nat)) := hcy
              have s1 : (256 : Int) * (x : Int) = (q : Int) := by omega
              have s2 : IntKind.i64.wrap (q : Int) = (q : Int) := IntWalk.i64_in _ (by omega)
              have s3 : (q : Int) + (y : Int) = (s : Int) := by omega
              have s4 : IntKind.i64.wrap (x : Int) = (x : Int) := IntWalk.i64_in _ (by omega)
              have s5 : IntKind.i64.wrap (y : Int) = (y : Int) := IntWalk.i64_in _ (by omega)
              have s6 : IntKind.i64.wrap (s : Int) = (s : Int) := IntWalk.i64_in _ (by omega)
              have s7 : (p : Int) + 1 = (p1 : Int) := by omega
              have s8 : IntKind.i64.wrap (p1 : Int) = (p1 : Int) := IntWalk.i64_in _ (by have := HD.out; omega)
              have s9 : (d : Int) - 2 = (d3 : Int) := by omega
              have s10 : IntKind.i64.wrap (d3 : Int) = (d3 : Int) := IntWalk.i64_in _ (by have := HD.out; omega)
              have x1 : (0 : Int) ≤ (p : Int) := by omega
              have x2 : (p : Int) < (n : Int) := by have := HD.out; omega
              have x3 : p < n := by have := HD.out; omega
              have x4 : (0 : Int) ≤ (p1 : Int) := by omega
              have x5 : (p1 : Int) < (n : Int) := by have := HD.out; omega
              have x6 : p1 < n := by have := HD.out; omega
              clear HBB hx8' hcx hy8 hcy hx hy hp1 hq hs hd3 hd2
              by_cases hds : d3 < s
              · have g2 : (d3 : Int) < (s : Int) := by omega
                have HDS := Lib.hid hds
                clear hds
                go_wp2_with fail
                refine WS.lit (by kernel_rfl) (by kernel_rfl) ?_
                generalize wr.drew = W0 at *
                refine WS.val (v := ?_) (by kernel_rfl) ?_ ?_
                rotate_left
                · go_simp
                  (try with_reducible rfl)
                (try simp only [Act.put, List.setIfInBounds_toArray, List.set_cons_zero, List.set_cons_succ])
                refine WS.val (v := ?_) (by kernel_rfl) ?_ ?_
                rotate_left
                · go_simp
                  (try with_reducible rfl)
                (try simp only [Act.put, List.setIfInBounds_toArray, List.set_cons_zero, List.set_cons_succ])
                refine WS.val (v := ?_) (by kernel_rfl) ?_ ?_
                rotate_left
                · go_simp
                  (try with_reducible rfl)
                (try simp only [Act.put, List.setIfInBounds_toArray, List.set_cons_zero, List.set_cons_succ])
                refine WS.val (v := ?_) (by kernel_rfl) ?_ ?_
                rotate_left
                · go_simp
                  (try with_reducible rfl)
                (try simp only [Act.put, List.setIfInBounds_toArray, List.set_cons_zero, List.set_cons_succ])
                refine WS.val (v := ?_) (by kernel_rfl) ?_ ?_
                rotate_left
                · go_simp
                  (try with_reducible rfl)
                (try simp only [Act.put, List.setIfInBounds_toArray, List.set_cons_zero, List.set_cons_succ])
                refine WS.val (v := ?_) (by kernel_rfl) ?_ ?_
                rotate_left
                · go_simp
                  (try with_reducible rfl)
                (try simp only [Act.put, List.setIfInBounds_toArray, List.set_cons_zero, List.set_cons_succ])
                refine WS.val (v := ?_) (by kernel_rfl) ?_ ?_
                rotate_left
                · go_simp
                  (try with_reducible rfl)
                (try simp only [Act.put, List.setIfInBounds_toArray, List.set_cons_zero, List.set_cons_succ])
                refine WS.val (v := ?_) (by kernel_rfl) ?_ ?_
                rotate_left
                · go_simp
                  (try with_reducible rfl)
                (try simp only [Act.put, List.setIfInBounds_toArray, List.set_cons_zero, List.set_cons_succ])
                refine WS.val (v := ?_) (by kernel_rfl) ?_ ?_
                rotate_left
                · go_simp
                  (try with_reducible rfl)
                (try simp only [Act.put, List.setIfInBounds_toArray, List.set_cons_zero, List.set_cons_succ])
                refine WS.val (v := ?_) (by kernel_rfl) ?_ ?_
                rotate_left
                · go_simp
                  (try with_reducible rfl)
                (try simp only [Act.put, List.setIfInBounds_toArray, List.set_cons_zero, List.set_cons_succ])
                refine WS.val (v := ?_) (by kernel_rfl) ?_ ?_
                rotate_left
                · go_simp
                  (try with_reducible rfl)
                (try simp only [Act.put, List.setIfInBounds_toArray, List.set_cons_zero, List.set_cons_succ])
                refine WS.val (v := ?_) (by kernel_rfl) ?_ ?_
                rotate_left
                · go_simp
                  (try with_reducible rfl)
                (try simp only [Act.put, List.setIfInBounds_toArray, List.set_cons_zero, List.set_cons_succ])
                refine WS.val (v := ?_) (by kernel_rfl) ?_ ?_
                rotate_left
                · go_simp
                  (try with_reducible rfl)
                (try simp only [Act.put, List.setIfInBounds_toArray, List.set_cons_zero, List.set_cons_succ])
                refine WS.val (v := ?_) (by kernel_rfl) ?_ ?_
                rotate_left
                · go_simp
                  (try with_reducible rfl)
                (try simp only [Act.put, List.setIfInBounds_toArray, List.set_cons_zero, List.set_cons_succ])
                refine WS.val (v := ?_) (by kernel_rfl) ?_ ?_
                rotate_left
                · go_simp
                  (try with_reducible rfl)
                (try simp only [Act.put, List.setIfInBounds_toArray, List.set_cons_zero, List.set_cons_succ])
                refine WS.val (v := ?_) (by kernel_rfl) ?_ ?_
                rotate_left
                · go_simp
                  (try with_reducible rfl)
                (try simp only [Act.put, List.setIfInBounds_toArray, List.set_cons_zero, List.set_cons_succ])
                refine WS.val (v := ?_) (by kernel_rfl) ?_ ?_
                rotate_left
                · go_simp
                  (try with_reducible rfl)
                (try simp only [Act.put, List.setIfInBounds_toArray, List.set_cons_zero, List.set_cons_succ])
                refine WS.val (v := ?_) (by kernel_rfl) ?_ ?_
                rotate_left
                · go_simp
                  (try with_reducible rfl)
                (try simp only [Act.put, List.setIfInBounds_toArray, List.set_cons_zero, List.set_cons_succ])
                refine WS.val (v := ?_) (by kernel_rfl) ?_ ?_
                rotate_left
                · go_simp
                  (try with_reducible rfl)
                (try simp only [Act.put, List.setIfInBounds_toArray, List.set_cons_zero, List.set_cons_succ])
                refine WS.val (v := ?_) (by kernel_rfl) ?_ ?_
                rotate_left
                · go_simp
                  (try with_reducible rfl)
                (try simp only [Act.put, List.setIfInBounds_toArray, List.set_cons_zero, List.set_cons_succ])
                refine WS.val (v := ?_) (by kernel_rfl) ?_ ?_
                rotate_left
                · go_simp
                  (try with_reducible rfl)
                (try simp only [Act.put, List.setIfInBounds_toArray, List.set_cons_zero, List.set_cons_succ])
                refine WS.val (v := ?_) (by kernel_rfl) ?_ ?_
                rotate_left
                · go_simp
                  (try with_reducible rfl)
                (try simp only [Act.put, List.setIfInBounds_toArray, List.set_cons_zero, List.set_cons_succ])
                refine WS.val (v := ?_) (by kernel_rfl) ?_ ?_
                rotate_left
                · go_simp
                  (try with_reducible rfl)
                (try simp only [Act.put, List.setIfInBounds_toArray, List.set_cons_zero, List.set_cons_succ])
                refine WS.val (v := ?_) (by kernel_rfl) ?_ ?_
                rotate_left
                · go_simp
                  (try with_reducible rfl)
                (try simp only [Act.put, List.setIfInBounds_toArray, List.set_cons_zero, List.set_cons_succ])
                refine WS.val (v := ?_) (by kernel_rfl) ?_ ?_
                rotate_left
                · go_simp
                  (try with_reducible rfl)
                (try simp only [Act.put, List.setIfInBounds_toArray, List.set_cons_zero, List.set_cons_succ])
                refine WS.val (v := ?_) (by kernel_rfl) ?_ ?_
                rotate_left
                · go_simp
                  (try with_reducible rfl)
                (try simp only [Act.put, List.setIfInBounds_toArray, List.set_cons_zero, List.set_cons_succ])
                refine WS.nil ?_
                go_wp2_with fail
                go_ret2
                exact ⟨H0.out.o, .inr (.inr ⟨H10.out, not_fits (by rw [HM.out]; exact HI.out.1) (by rw [ps_succ, HP.out, HS.out.1]; have := HS.out; have := HDS.out; have := HD.out; omega), rfl⟩)⟩
              · have g2 : ¬ (d3 : Int) < (s : Int) := by omega
                have g2' : decide ((d3 : Int) < (s : Int)) = false := decide_eq_false g2
                have HDS : Hid (s ≤ d3) := Lib.hid (by omega)
                clear hds
                go_wp2_with fail
                refine WS.lit (by kernel_rfl) (by kernel_rfl) ?_
                generalize wr.drew = W0 at *
                refine WS.val (v := ?_) (by kernel_rfl) ?_ ?_
                rotate_left
                · go_simp
                  (try with_reducible rfl)
                (try simp only [Act.put, List.setIfInBounds_toArray, List.set_cons_zero, List.set_cons_succ])
                refine WS.val (v := ?_) (by kernel_rfl) ?_ ?_
                rotate_left
                · go_simp
                  (try with_reducible rfl)
                (try simp only [Act.put, List.setIfInBounds_toArray, List.set_cons_zero, List.set_cons_succ])
                refine WS.val (v := ?_) (by kernel_rfl) ?_ ?_
                rotate_left
                · go_simp
                  (try with_reducible rfl)
                (try simp only [Act.put, List.setIfInBounds_toArray, List.set_cons_zero, List.set_cons_succ])
                refine WS.val (v := ?_) (by kernel_rfl) ?_ ?_
                rotate_left
                · go_simp
                  (try with_reducible rfl)
                (try simp only [Act.put, List.setIfInBounds_toArray, List.set_cons_zero, List.set_cons_succ])
                refine WS.val (v := ?_) (by kernel_rfl) ?_ ?_
                rotate_left
                · go_simp
                  (try with_reducible rfl)
                (try simp only [Act.put, List.setIfInBounds_toArray, List.set_cons_zero, List.set_cons_succ])
                refine WS.val (v := ?_) (by kernel_rfl) ?_ ?_
                rotate_left
                · go_simp
                  (try with_reducible rfl)
                (try simp only [Act.put, List.setIfInBounds_toArray, List.set_cons_zero, List.set_cons_succ])
                refine WS.val (v := ?_) (by kernel_rfl) ?_ ?_
                rotate_left
                · go_simp
                  (try with_reducible rfl)
                (try simp only [Act.put, List.setIfInBounds_toArray, List.set_cons_zero, List.set_cons_succ])
                refine WS.val (v := ?_) (by kernel_rfl) ?_ ?_
                rotate_left
                · go_simp
                  (try with_reducible rfl)
                (try simp only [Act.put, List.setIfInBounds_toArray, List.set_cons_zero, List.set_cons_succ])
                refine WS.val (v := ?_) (by kernel_rfl) ?_ ?_
                rotate_left
                · go_simp
                  (try with_reducible rfl)
                (try simp only [Act.put, List.setIfInBounds_toArray, List.set_cons_zero, List.set_cons_succ])
                refine WS.val (v := ?_) (by kernel_rfl) ?_ ?_
                rotate_left
                · go_simp
                  (try with_reducible rfl)
                (try simp only [Act.put, List.setIfInBounds_toArray, List.set_cons_zero, List.set_cons_succ])
                refine WS.val (v := ?_) (by kernel_rfl) ?_ ?_
                rotate_left
                · go_simp
                  (try with_reducible rfl)
                (try simp only [Act.put, List.setIfInBounds_toArray, List.set_cons_zero, List.set_cons_succ])
                refine WS.val (v := ?_) (by kernel_rfl) ?_ ?_
                rotate_left
                · go_simp
                  (try with_reducible rfl)
                (try simp only [Act.put, List.setIfInBounds_toArray, List.set_cons_zero, List.set_cons_succ])
                refine WS.val (v := ?_) (by kernel_rfl) ?_ ?_
                rotate_left
                · go_simp
                  (try with_reducible rfl)
                (try simp only [Act.put, List.setIfInBounds_toArray, List.set_cons_zero, List.set_cons_succ])
                refine WS.val (v := ?_) (by kernel_rfl) ?_ ?_
                rotate_left
                · go_simp
                  (try with_reducible rfl)
                (try simp only [Act.put, List.setIfInBounds_toArray, List.set_cons_zero, List.set_cons_succ])
                refine WS.val (v := ?_) (by kernel_rfl) ?_ ?_
                rotate_left
                · go_simp
                  (try with_reducible rfl)
                (try simp only [Act.put, List.setIfInBounds_toArray, List.set_cons_zero, List.set_cons_succ])
                refine WS.val (v := ?_) (by kernel_rfl) ?_ ?_
                rotate_left
                · go_simp
                  (try with_reducible rfl)
                (try simp only [Act.put, List.setIfInBounds_toArray, List.set_cons_zero, List.set_cons_succ])
                refine WS.val (v := ?_) (by kernel_rfl) ?_ ?_
                rotate_left
                · go_simp
                  (try with_reducible rfl)
                (try simp only [Act.put, List.setIfInBounds_toArray, List.set_cons_zero, List.set_cons_succ])
                refine WS.val (v := ?_) (by kernel_rfl) ?_ ?_
                rotate_left
                · go_simp
                  (try with_reducible rfl)
                (try simp only [Act.put, List.setIfInBounds_toArray, List.set_cons_zero, List.set_cons_succ])
                refine WS.val (v := ?_) (by kernel_rfl) ?_ ?_
                rotate_left
                · go_simp
                  (try with_reducible rfl)
                (try simp only [Act.put, List.setIfInBounds_toArray, List.set_cons_zero, List.set_cons_succ])
                refine WS.val (v := ?_) (by kernel_rfl) ?_ ?_
                rotate_left
                · go_simp
                  (try with_reducible rfl)
                (try simp only [Act.put, List.setIfInBounds_toArray, List.set_cons_zero, List.set_cons_succ])
                refine WS.val (v := ?_) (by kernel_rfl) ?_ ?_
                rotate_left
                · go_simp
                  (try with_reducible rfl)
                (try simp only [Act.put, List.setIfInBounds_toArray, List.set_cons_zero, List.set_cons_succ])
                refine WS.val (v := ?_) (by kernel_rfl) ?_ ?_
                rotate_left
                · go_simp
                  (try with_reducible rfl)
                (try simp only [Act.put, List.setIfInBounds_toArray, List.set_cons_zero, List.set_cons_succ])
                refine WS.val (v := ?_) (by kernel_rfl) ?_ ?_
                rotate_left
                · go_simp
                  (try with_reducible rfl)
                (try simp only [Act.put, List.setIfInBounds_toArray, List.set_cons_zero, List.set_cons_succ])
                refine WS.val (v := ?_) (by kernel_rfl) ?_ ?_
                rotate_left
                · go_simp
                  (try with_reducible rfl)
                (try simp only [Act.put, List.setIfInBounds_toArray, List.set_cons_zero, List.set_cons_succ])
                refine WS.val (v := ?_) (by kernel_rfl) ?_ ?_
                rotate_left
                · go_simp
                  (try with_reducible rfl)
                (try simp only [Act.put, List.setIfInBounds_toArray, List.set_cons_zero, List.set_cons_succ])
                refine WS.val (v := ?_) (by kernel_rfl) ?_ ?_
                rotate_left
                · go_simp
                  (try with_reducible rfl)
                (try simp only [Act.put, List.setIfInBounds_toArray, List.set_cons_zero, List.set_cons_succ])
                refine WS.nil ?_
                go_wp2_with fail
                have H1 : Hid (ES w n B i vb W0.drew) := Lib.hid ⟨H0.out.l.later (Below.refl _ _).drew, H0.out.o.drew, H0.out.n⟩
                have cx2 : W0.drew.cell? ⟨b, off + p, none⟩ = some (.int .u8 (x : Nat)) := cx
                have cy2 : W0.drew.cell? ⟨b, off + p1, none⟩ = some (.int .u8 (y : Nat)) := cy
                clear cx cy
                refine WS.lit (by kernel_rfl) (by kernel_rfl) ?_
                generalize W0.drew = W1 at *
                refine WS.val (v := ?_) (by kernel_rfl) ?_ ?_
                rotate_left
                · go_simp
                  (try with_reducible rfl)
                (try simp only [Act.put, List.setIfInBounds_toArray, List.set_cons_zero, List.set_cons_succ])
                refine WS.val (v := ?_) (by kernel_rfl) ?_ ?_
                rotate_left
                · go_simp
                  (try with_reducible rfl)
                (try simp only [Act.put, List.setIfInBounds_toArray, List.set_cons_zero, List.set_cons_succ])
                refine WS.val (v := ?_) (by kernel_rfl) ?_ ?_
                rotate_left
                · go_simp
                  (try with_reducible rfl)
                (try simp only [Act.put, List.setIfInBounds_toArray, List.set_cons_zero, List.set_cons_succ])
                refine WS.val (v := ?_) (by kernel_rfl) ?_ ?_
                rotate_left
                · go_simp
                  (try with_reducible rfl)
                (try simp only [Act.put, List.setIfInBounds_toArray, List.set_cons_zero, List.set_cons_succ])
                refine WS.val (v := ?_) (by kernel_rfl) ?_ ?_
                rotate_left
                · go_simp
                  (try with_reducible rfl)
                (try simp only [Act.put, List.setIfInBounds_toArray, List.set_cons_zero, List.set_cons_succ])
                refine WS.val (v := ?_) (by kernel_rfl) ?_ ?_
                rotate_left
                · go_simp
                  (try with_reducible rfl)
                (try simp only [Act.put, List.setIfInBounds_toArray, List.set_cons_zero, List.set_cons_succ])
                refine WS.val (v := ?_) (by kernel_rfl) ?_ ?_
                rotate_left
                · go_simp
                  (try with_reducible rfl)
                (try simp only [Act.put, List.setIfInBounds_toArray, List.set_cons_zero, List.set_cons_succ])
                refine WS.val (v := ?_) (by kernel_rfl) ?_ ?_
                rotate_left
                · go_simp
                  (try with_reducible rfl)
                (try simp only [Act.put, List.setIfInBounds_toArray, List.set_cons_zero, List.set_cons_succ])
                refine WS.val (v := ?_) (by kernel_rfl) ?_ ?_
                rotate_left
                · go_simp
                  (try with_reducible rfl)
                (try simp only [Act.put, List.setIfInBounds_toArray, List.set_cons_zero, List.set_cons_succ])
                refine WS.val (v := ?_) (by kernel_rfl) ?_ ?_
                rotate_left
                · go_simp
                  (try with_reducible rfl)
                (try simp only [Act.put, List.setIfInBounds_toArray, List.set_cons_zero, List.set_cons_succ])
                refine WS.val (v := ?_) (by kernel_rfl) ?_ ?_
                rotate_left
                · go_simp
                  (try with_reducible rfl)
                (try simp only [Act.put, List.setIfInBounds_toArray, List.set_cons_zero, List.set_cons_succ])
                refine WS.val (v := ?_) (by kernel_rfl) ?_ ?_
                rotate_left
                · go_simp
                  (try with_reducible rfl)
                (try simp only [Act.put, List.setIfInBounds_toArray, List.set_cons_zero, List.set_cons_succ])
                refine WS.val (v := ?_) (by kernel_rfl) ?_ ?_
                rotate_left
                · go_simp
                  (try with_reducible rfl)
                (try simp only [Act.put, List.setIfInBounds_toArray, List.set_cons_zero, List.set_cons_succ])
                refine WS.val (v := ?_) (by kernel_rfl) ?_ ?_
                rotate_left
                · go_simp
                  (try with_reducible rfl)
                (try simp only [Act.put, List.setIfInBounds_toArray, List.set_cons_zero, List.set_cons_succ])
                refine WS.nil ?_
                clear cx2 cy2 s1 s2 s3 s4 s5 s6 s7 s8 s9 s10 x1 x2 x3 x4 x5 x6
                obtain ⟨a, ha⟩ : ∃ z, p + 2 = z := ⟨_, rfl⟩
                obtain ⟨z, hz⟩ : ∃ z, a + s = z := ⟨_, rfl⟩
                have HA : Hid (p + 2 = a ∧ p + 2 + s = z ∧ z ≤ n ∧ n ≤ 1024) := Lib.hid (by have := HD.out; have := HDS.out; have := HS.out; omega)
                have s1 : (p : Int) + 2 = (a : Int) := by omega
                have s2 : IntKind.i64.wrap (a : Int) = (a : Int) := IntWalk.i64_in _ (by have := HA.out; omega)
                have s3 : (a : Int) + (s : Int) = (z : Int) := by omega
                have s4 : IntKind.i64.wrap (z : Int) = (z : Int) := IntWalk.i64_in _ (by have := HA.out; omega)
                have x1 : (0 : Int) ≤ (a : Int) := by omega
                have x2 : (a : Int) ≤ (z : Int) := by omega
                have x3 : a ≤ z := by omega
                have x4 : (z : Int) ≤ (cap : Int) := by have := HA.out; have := HNC.out; omega
                have x5 : z ≤ cap := by have := HA.out; have := HNC.out; omega
                have x6 : z - a = s := by omega
                have x7 : (z : Int) - (a : Int) = (s : Int) := by omega
                have x8 : a ≤ cap := by omega
                have x9 : (a : Int) ≤ (cap : Int) := by omega
                have x10 : (n : Int) ≤ (cap : Int) := by have := HNC.out; omega
                have HBW : Hid (Bytes W1 (some ⟨b, off, none⟩) n B) := Lib.hid (HB.out.later H1.out.o)
                by_cases ec : cap = a
                · have HEC := Lib.hid ec
                  have es : s = 0 := by omega
                  subst es
                  have ez : z = a := by omega
                  subst ez
                  subst ec
                  clear ha hz HEC
                  have HC : Hid (Bytes W1 (some ⟨b, off, none⟩) 0 (fun t => B (p + 2 + t)) ∧ 0 ≤ 0 ∧ 0 ≤ maxLen) := Lib.hid ⟨fun k hk => absurd hk (Nat.not_lt_zero _), by have := HA.out; have := HNC.out; omega, by have := HA.out; have := HNC.out; unfold maxLen; omega⟩
                  go_wp2_with (first
                    | (refine wpList_appR rfl (.tmp 67) (.tmp 76) rfl w.heap.size vb i (fl B) (dG B) 0 (fun t => B (p + 2 + t)) (some ⟨b, off, none⟩) (0) W1 rfl H1.out.l rfl HC.out.1 HC.out.2.1 HC.out.2.2 (fun e => by cases e) (fun ad ha _ e => by cases ha; have h8 := HLT.out; have h9 := (H1.out.l.lt _ e).1; exact absurd h8 (by show ¬ b < _; have : w.heap.size ≤ b := h9; omega)) HS.out.1 (fun t _ => by show B (ps B i + 2 + t) = _; rw [HP.out]) (by have := HI.out; omega) H1.out.o.size ?_; intro v9 w9 hR9 hb9; have H9 : Hid (RL w9 w.heap.size v9 (i + 1) (fl B) (dG B) ∧ Below w.heap.size W1 w9) := Lib.hid ⟨hR9, hb9⟩; clear hR9 hb9))
                  go_roundw
                  case rel => exact ⟨i2, cap, _, by have := HI.out; have := HI2.out; omega, by first | rfl | go_num, rfl, by first | rfl | go_num, by rw [← HI2.out, ps_succ, HP.out, HS.out.1]; exact HA.out.2.1, by
                    rw [← HI2.out]
                    exact ⟨H9.out.1, H1.out.o.trans H9.out.2, by rw [ps_succ, HP.out, HS.out.1]; have := HA.out; omega⟩⟩
                  case measure => have := HI.out; have := HI2.out; simp [intOf] <;> omega
                · have HEC : Hid (a < cap) := Lib.hid (by omega)
                  have HPA : Hid (∀ t, B (p + 2 + t) = B (a + t)) := Lib.hid (fun t => by rw [ha])
                  have HOF : Hid (∀ t, off + a + t = off + (a + t)) := Lib.hid fun t => by omega
                  clear ha hz
                  have HC : Hid (Bytes W1 (some ⟨b, off + a, none⟩) s (fun t => B (p + 2 + t)) ∧ s ≤ cap - a ∧ cap - a ≤ maxLen) := Lib.hid ⟨by
                      intro t ht
                      obtain ⟨a1, b', off', a2, a3⟩ := HBW.out (a + t) (by have := HA.out; omega)
                      cases a2
                      refine ⟨by show B (p + 2 + t) < 256; rw [HPA.out]; exact a1, b, off + a, rfl, ?_⟩
                      show W1.cell? ⟨b, off + a + t, none⟩ = some (.int .u8 (B (p + 2 + t) : Nat))
                      rw [HOF.out, HPA.out]; exact a3, by have := HA.out; have := HNC.out; omega, by have := HA.out; have := HNC.out; unfold maxLen; omega⟩
                  go_wp2_with (first
                    | (refine wpList_appR rfl (.tmp 67) (.tmp 76) rfl w.heap.size vb i (fl B) (dG B) s (fun t => B (p + 2 + t)) (some ⟨b, off + a, none⟩) (cap - a) W1 rfl H1.out.l rfl HC.out.1 HC.out.2.1 HC.out.2.2 (fun e => by cases e) (fun ad ha _ e => by cases ha; have h8 := HLT.out; have h9 := (H1.out.l.lt _ e).1; exact absurd h8 (by show ¬ b < _; have : w.heap.size ≤ b := h9; omega)) HS.out.1 (fun t _ => by show B (ps B i + 2 + t) = _; rw [HP.out]) (by have := HI.out; omega) H1.out.o.size ?_; intro v9 w9 hR9 hb9; have H9 : Hid (RL w9 w.heap.size v9 (i + 1) (fl B) (dG B) ∧ Below w.heap.size W1 w9) := Lib.hid ⟨hR9, hb9⟩; clear hR9 hb9))
                  go_roundw
                  case rel => exact ⟨i2, z, _, by have := HI.out; have := HI2.out; omega, by first | rfl | go_num, rfl, by first | rfl | go_num, by rw [← HI2.out, ps_succ, HP.out, HS.out.1]; exact HA.out.2.1, by
                    rw [← HI2.out]
                    exact ⟨H9.out.1, H1.out.o.trans H9.out.2, by rw [ps_succ, HP.out, HS.out.1]; have := HA.out; omega⟩⟩
                  case measure => have := HI.out; have := HI2.out; simp [intOf] <;> omega
          · skip
            obtain rfl : i = m := by omega
            obtain ⟨oa, ca, hva, hca, hma, hla, hna⟩ := HX.out.l.lbs
            subst hva
            have HL : Hid (LBs wr oa i (fl B) (dG B) ∧ (oa = none → i = 0) ∧ i ≤ ca ∧ ca ≤ maxLen) := Lib.hid ⟨hla, hna, hca, hma⟩
            have HO := Lib.hid HX.out.o
            clear hi hli hla hna hca hma HX
            by_cases hr0 : p = n
            · have HPN : Hid (ps B i = n) := Lib.hid (HP.out.trans hr0)
              have k1 : (p : Int) = (n : Int) := by omega
              clear hr0
              go_wp2_with fail
              go_ret2
              unfold DecA
              refine ⟨HO.out, .inl ⟨⟨by have := HNC.out; omega, H10.out, by rw [HM.out]; exact H16.out, by rw [HM.out]; exact HPN.out⟩, ?_⟩⟩
              rw [HM.out]
              exact ⟨oa, ca, rfl, HL.out.1, HL.out.2.1, HL.out.2.2.1, HL.out.2.2.2⟩
            · have HR0 := Lib.hid hr0
              have k1 : ¬ (p : Int) = (n : Int) := by omega
              clear hr0
              go_wp2_with fail
              go_ret2
              exact ⟨HO.out, .inr (.inr ⟨H10.out, fun h => by have h4 := h.2.2.2; rw [HM.out, HP.out] at h4; exact HR0.out h4, rfl⟩)⟩
end Go.Proofs.YtmabhjifldafaaaDoor
