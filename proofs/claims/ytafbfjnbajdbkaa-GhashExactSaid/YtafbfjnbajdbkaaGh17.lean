/- The document's products of blocks. -/
import Derived.Test.YtafbfjnbajdbkaaGh16
import Derived.Test.YtafbfjnbajdbkaaGh14
namespace Go.Proofs.Ytafbfjnbajdbkaa
set_option linter.unusedVariables false
set_option linter.unusedSimpArgs false
open Go.RowKit

/-- Behind i bits of the document's product. -/
def RM (w0 : World) (g4 : Nat) (x y : Nat → Nat) (k : Nat) (wr : World) : Prop := A16 wr w0.heap.size x ∧ A16 wr (w0.heap.size + 1 + 1) (fun _ => 0) ∧ A16 wr (w0.heap.size + 1 + 1 + 1) (zB x y k) ∧ A16 wr g4 (vB y k) ∧ Below w0.heap.size w0 wr
/-- While a number is moved: places above k are moved. -/
def mvF (v : Nat → Nat) (k : Nat) : Nat → Nat := fun i => if k < i then shF v i else v i
def RV (w0 : World) (g4 : Nat) (x : Nat → Nat) (z v : Nat → Nat) (j : Value) (wr : World) : Prop := ((∃ k : Nat, k < 16 ∧ j = .int .i64 (k : Int) ∧ A16 wr g4 (mvF v k)) ∨ (j = .int .i64 (-1) ∧ A16 wr g4 (shF v))) ∧ A16 wr w0.heap.size x ∧ A16 wr (w0.heap.size + 1 + 1) (fun _ => 0) ∧ A16 wr (w0.heap.size + 1 + 1 + 1) z ∧ Below w0.heap.size w0 wr
set_option maxRecDepth 100000 in
set_option maxHeartbeats 8000000 in
theorem rmul_any (x y : Nat → Nat) (w : World) (hx : ∀ i, i < 16 → x i < 256) (hy : ∀ i, i < 16 → y i < 256) :
    Calls Try.prog 10 #[.agg (rowC 16 x).toArray, .agg (rowC 16 y).toArray] w fun e w' => e = .returned (.agg (rowC 16 (mulF x y)).toArray) ∧ Below w.heap.size w w' := by
  have hz := zero16a_run
  obtain ⟨X, hX⟩ : ∃ C, (rowC 16 x).toArray = C := ⟨_, rfl⟩
  obtain ⟨Y, hY⟩ : ∃ C, (rowC 16 y).toArray = C := ⟨_, rfl⟩
  have HCY : Hid (∃ f, Y = (rowC 16 f).toArray) := Lib.hid ⟨_, hY.symm⟩
  have HC0 : Hid (∃ f, zero16 = (rowC 16 f).toArray) := Lib.hid ⟨_, rfl⟩
  obtain ⟨w0, hw0⟩ : ∃ q, (((w.alloc (.cells X 22)).alloc (.cells Y 22)).alloc (.cells zero16 22)).alloc (.cells zero16 22) = q := ⟨_, rfl⟩
  have s1 : (w.alloc (.cells X 22)).heap.size = w.heap.size + 1 := by simp
  have s2 : ((w.alloc (.cells X 22)).alloc (.cells Y 22)).heap.size = w.heap.size + 1 + 1 := by simp
  have s3 : (((w.alloc (.cells X 22)).alloc (.cells Y 22)).alloc (.cells zero16 22)).heap.size = w.heap.size + 1 + 1 + 1 := by simp
  have s4 : w0.heap.size = w.heap.size + 1 + 1 + 1 + 1 := by rw [← hw0]; simp
  obtain ⟨w1, hw1'⟩ : ∃ q, w0.alloc (.cells zero16 22) = q := ⟨_, rfl⟩
  obtain ⟨g4, hg4⟩ : ∃ g, w0.heap.size = g := ⟨_, rfl⟩
  have p0 : Blk w0 w.heap.size X 22 := by rw [← hw0]; exact (((Blk.new w _ _).alloc _).alloc _).alloc _
  have p1 : Blk w0 (w.heap.size + 1) Y 22 := by rw [← hw0, ← s1]; exact ((Blk.new _ _ _).alloc _).alloc _
  have p2 : Blk w0 (w.heap.size + 1 + 1) zero16 22 := by rw [← hw0, ← s2]; exact (Blk.new _ _ _).alloc _
  have p3 : Blk w0 (w.heap.size + 1 + 1 + 1) zero16 22 := by rw [← hw0, ← s3]; exact Blk.new _ _ _
  have pO : Below w.heap.size w w0 := by rw [← hw0]; exact ((((Below.refl _ _).alloc (Nat.le_refl _) _).alloc (by simp) _).alloc (by simp; omega) _).alloc (by simp; omega) _
  have q0 : Blk w1 w.heap.size X 22 := by rw [← hw1']; exact p0.alloc _
  have q1 : Blk w1 (w.heap.size + 1) Y 22 := by rw [← hw1']; exact p1.alloc _
  have q2 : Blk w1 (w.heap.size + 1 + 1) zero16 22 := by rw [← hw1']; exact p2.alloc _
  have q3 : Blk w1 (w.heap.size + 1 + 1 + 1) zero16 22 := by rw [← hw1']; exact p3.alloc _
  have q4 : Blk w1 g4 zero16 22 := by rw [← hw1', ← hg4]; exact Blk.new _ _ _
  have hg : w.heap.size + 1 + 1 + 1 < g4 := by rw [← hg4, s4]; omega
  have qO : Below w.heap.size w w1 := by rw [← hw1']; exact pO.alloc pO.size _
  obtain ⟨w2, hw2⟩ : ∃ q, w1.setCells g4 0 Y.toList = q := ⟨_, rfl⟩
  have HT : Hid (RM w g4 x y 0 w2) := Lib.hid (by
    rw [← hw2]
    have hO := Own.setCells (b := g4) Y.toList 0 w1
    refine ⟨?_, hO.blk q2 (by omega), hO.blk q3 (by omega), ?_, Below.set16 (g := g4) qO (by omega) qO.size _⟩
    · have := hO.blk q0 (by omega); rw [← hX] at this; exact this
    · have := Blk.store16a q4 HCY.out HC0.out; rw [← hY] at this ⊢; exact this)
  have P1 : Hid (Blk w0 (w.heap.size + 1) Y 22) := Lib.hid p1
  have Q4 := Lib.hid q4
  have HG4 := Lib.hid hg
  clear hg
  have HX0 := Lib.hid hx
  have HY0 := Lib.hid hy
  rw [hX, hY]
  clear hx hy hX hY s1 s2 s3 s4 p0 p1 p2 p3 pO q0 q1 q2 q3 q4 qO
  go_enter Try.func10, Try.ntmps10
  go_wp2_with (first
    | (refine wpList_load16a rfl (.tmp 3) rfl (w.heap.size + 1) rfl Y P1.out HCY.out ?_)
    | (refine wpList_store16a rfl (.tmp 6) (.tmp 10) rfl g4 rfl Y zero16 rfl Q4.out HCY.out HC0.out ?_))
  clear hw0 hw1' hg4 hz P1 Q4
  go_loopw [7] (fun i wr => ∃ k : Nat, k ≤ 128 ∧ i = .int .i64 (k : Int) ∧ RM w g4 x y k wr) (fun i _ => 128 - (intOf i).toNat)
  case atStart => exact ⟨0, Nat.zero_le _, rfl, hw2 ▸ HT.out⟩
  case round =>
    clear hw2 HT
    obtain ⟨k, hk, rfl, hX, hR, hZ, hV, hO⟩ := hrel
    have hgg := HG4.out
    by_cases hlt : k < 128
    · have k0 : (0 : Int) ≤ (k : Int) := by omega
      have k1 : (k : Int) < 128 := by omega
      have hzk : zB x y (k + 1) = if hB x k then addF (zB x y k) (vB y k) else zB x y k := rfl
      have hvk : vB y (k + 1) = nxF (vB y k) := rfl
      have hxk := HX0.out (k / 8) (by omega)
      have hvl : ∀ i, i < 16 → vB y k i < 256 := vB_lt HY0.out k
      have hzl : ∀ i, i < 16 → zB x y k i < 256 := zB_lt HY0.out k
      have cx : wr.cell? ⟨w.heap.size, k / 8, none⟩ = some (.int .u8 (x (k / 8) : Nat)) := hX.cell (by omega)
      have hbk : hB x k = decide (128 ≤ x (k / 8) * 2 ^ (k % 8) % 256) := rfl
      generalize vB y k = v at *
      generalize zB x y k = z at *
      generalize x (k / 8) = p at *
      have HZL := Lib.hid hzl
      have HVL := Lib.hid hvl
      have HZK := Lib.hid hzk
      have HVK := Lib.hid hvk
      have c15 : wr.cell? ⟨g4, 15, none⟩ = some (.int .u8 (v 15 : Nat)) := hV.cell (by omega)
      have h15 := hvl 15 (by omega)
      obtain ⟨b15, e15⟩ : ∃ b, ((v 15 : Int) % 2 == 1) = b := ⟨_, rfl⟩
      have H15 : Hid ((v 15 % 2 = 1) ↔ b15 = true) := Lib.hid (by rw [← e15, beq_iff_eq]; omega)
      clear hzl hvl hzk hvk
      by_cases hb : hB x k = true
      · have h128 : (128 : Int) ≤ (p : Int) * 2 ^ (k % 8) % 256 := by
          rw [hbk] at hb
          have h1 := of_decide_eq_true hb
          have e : (((p * 2 ^ (k % 8) % 256 : Nat)) : Int) = (p : Int) * 2 ^ (k % 8) % 256 := by push_cast; rfl
          rw [← e]; omega
        obtain ⟨Z, hZe⟩ : ∃ C, (rowC 16 z).toArray = C := ⟨_, rfl⟩
        obtain ⟨V, hVe⟩ : ∃ C, (rowC 16 v).toArray = C := ⟨_, rfl⟩
        obtain ⟨S, hSe⟩ : ∃ C, (rowC 16 (addF z v)).toArray = C := ⟨_, rfl⟩
        have HADD : Hid (∀ w, Calls Try.prog 8 #[.agg Z, .agg V] w fun e w' => e = .returned (.agg S) ∧ Below w.heap.size w w') := Lib.hid fun w => by
          rw [← hZe, ← hVe, ← hSe]; exact radd_any z v w HZL.out HVL.out
        have HCZ : Hid (∃ f, Z = (rowC 16 f).toArray) := Lib.hid ⟨_, hZe.symm⟩
        have HCV : Hid (∃ f, V = (rowC 16 f).toArray) := Lib.hid ⟨_, hVe.symm⟩
        have HCS : Hid (∃ f, S = (rowC 16 f).toArray) := Lib.hid ⟨_, hSe.symm⟩
        have HZB : Hid (Blk wr (w.heap.size + 1 + 1 + 1) Z 22) := Lib.hid (hZe ▸ hZ)
        have HVB : Hid (Blk wr g4 V 22) := Lib.hid (hVe ▸ hV)
        have HSe := Lib.hid hSe
        have HXw := Lib.hid hX
        have HRw := Lib.hid hR
        have HVw := Lib.hid hV
        have HOw := Lib.hid hO
        have HB := Lib.hid (HZK.out.trans (if_pos hb))
        clear hX hR hZ hV hO hb hbk hZe hVe hSe HZK c15
        go_wp2_with (first
          | (refine wpList_load16a rfl (.tmp 5) rfl (w.heap.size + 1 + 1 + 1) rfl Z HZB.out HCZ.out ?_)
          | (refine wpList_load16a rfl (.tmp 6) rfl g4 rfl V HVB.out HCV.out ?_))
        refine (HADD.out _).mono ?_
        rintro e w4 ⟨rfl, hbw⟩
        obtain ⟨w5, hw5⟩ : ∃ q, w4.setCells (w.heap.size + 1 + 1 + 1) 0 S.toList = q := ⟨_, rfl⟩
        have hZ4 : Blk w4 (w.heap.size + 1 + 1 + 1) Z 22 := Blk.below HZB.out hbw (Blk.lt HZB.out)
        have HZ4 := Lib.hid hZ4
        have hX : A16 w5 w.heap.size x := by rw [← hw5]; exact (Own.setCells _ _ _).blk (Blk.below HXw.out hbw (Blk.lt HXw.out)) (by omega)
        have hR : A16 w5 (w.heap.size + 1 + 1) (fun _ => 0) := by rw [← hw5]; exact (Own.setCells _ _ _).blk (Blk.below HRw.out hbw (Blk.lt HRw.out)) (by omega)
        have hV : A16 w5 g4 v := by rw [← hw5]; exact (Own.setCells _ _ _).blk (Blk.below HVw.out hbw (Blk.lt HVw.out)) (by omega)
        have hO : Below w.heap.size w w5 := by
          have h4 := HOw.out.trans (hbw.mono HOw.out.size)
          rw [← hw5]; exact Below.set16 (g := w.heap.size + 1 + 1 + 1) h4 (by omega) h4.size _
        have hZ : A16 w5 (w.heap.size + 1 + 1 + 1) (addF z v) := by
          have := Blk.store16a hZ4 HCS.out HCZ.out
          rw [hw5, ← HSe.out] at this; exact this
        have c15 : w5.cell? ⟨g4, 15, none⟩ = some (.int .u8 (v 15 : Nat)) := hV.cell (by omega)
        have HX5 := Lib.hid hX
        have HR5 := Lib.hid hR
        have HZ5 := Lib.hid hZ
        have HV5 := Lib.hid hV
        have HO5 := Lib.hid hO
        generalize addF z v = z5 at *
        clear hX hR hZ hV hO hbw hZ4 HZB HVB HXw HRw HVw HOw HADD HZL
        go_wp2_with (first
          | (refine wpList_store16a rfl (.tmp 5) (.tmp 26) rfl (w.heap.size + 1 + 1 + 1) rfl S Z rfl HZ4.out HCS.out HCZ.out ?_))
        clear HZ4 hw5
        clear c15 cx
        go_loopw [9] (fun j wi => RV w g4 x z5 v j wi) (fun j _ => (intOf j + 1).toNat)
        case atStart => exact ⟨Or.inl ⟨15, by omega, rfl, HV5.out.congr fun i hi => (if_neg (show ¬ 15 < i by omega)).symm⟩, HX5.out, HR5.out, HZ5.out, HO5.out⟩
        case round =>
          obtain ⟨hj, hX, hR, hZ, hO⟩ := hrel
          rcases hj with ⟨j, hj, rfl, hV⟩ | ⟨rfl, hV⟩
          · rcases Nat.eq_zero_or_pos j with rfl | hjp
            · have hp0 := HVL.out 0 (by omega)
              have cv : wr.cell? ⟨g4, 0, none⟩ = some (.int .u8 (v 0 : Nat)) := hV.cell (by omega)
              have fv : wr.frozen? ⟨g4, 0, none⟩ = false := Blk.free hV 0
              have HN := Lib.hid (show RV w g4 x z5 v (.int .i64 (-1)) (wr.setCell ⟨g4, 0, none⟩ (.int .u8 ((v 0 : Int) / 2))) by
                refine ⟨Or.inr ⟨rfl, ?_⟩, Blk.set_other hX (by simp; omega) _, Blk.set_other hR (by simp; omega) _, Blk.set_other hZ (by simp; omega) _, hO.setCell (by simp; omega) _⟩
                have := hV.set 0 (v 0 / 2)
                rw [show ((v 0 / 2 : Nat) : Int) = (v 0 : Int) / 2 by omega] at this
                refine this.congr fun i hi => ?_
                unfold upd mvF
                by_cases e : i = 0
                · subst e; rw [if_pos rfl]; show v 0 / 2 = v 0 / 2 + 0; rfl
                · rw [if_neg e, if_pos (by omega)])
              clear hX hR hZ hO hV
              generalize v 0 = q0 at *
              go_wp2_with fail
              go_roundw
              case rel => exact HN.out
              case measure => simp [intOf]
            · have hpj := HVL.out j hj
              have hpm := HVL.out (j - 1) (by omega)
              have cv : wr.cell? ⟨g4, j, none⟩ = some (.int .u8 (v j : Nat)) := by
                have := hV.cell hj; unfold mvF at this; rw [if_neg (by omega)] at this; exact this
              have cm : wr.cell? ⟨g4, j - 1, none⟩ = some (.int .u8 (v (j - 1) : Nat)) := by
                have := hV.cell (show j - 1 < 16 by omega); unfold mvF at this; rw [if_neg (by omega)] at this; exact this
              have fv : wr.frozen? ⟨g4, j, none⟩ = false := Blk.free hV j
              have j0 : (0 : Int) < (j : Int) := by omega
              have j1 : (j : Int) < 16 := by omega
              have key : ∀ (ww : World) (F : Nat → Nat) (r : Nat), r = shF v j → A16 ww g4 F → (∀ i, i < 16 → i ≠ j → F i = mvF v j i) → A16 ww w.heap.size x → A16 ww (w.heap.size + 1 + 1) (fun _ => 0) → A16 ww (w.heap.size + 1 + 1 + 1) z5 → Below w.heap.size w ww →
                  RV w g4 x z5 v (.int .i64 ((j : Int) - 1)) (ww.setCell ⟨g4, j, none⟩ (.int .u8 (r : Int))) := by
                intro ww F r hr hV hF hX hR hZ hO
                refine ⟨Or.inl ⟨j - 1, by omega, by rw [show ((j - 1 : Nat) : Int) = (j : Int) - 1 by omega], ?_⟩, Blk.set_other hX (by simp; omega) _, Blk.set_other hR (by simp; omega) _, Blk.set_other hZ (by simp; omega) _, hO.setCell (by simp; omega) _⟩
                refine (hV.set j r).congr fun i hi => ?_
                unfold upd
                by_cases e : i = j
                · subst e; rw [if_pos rfl]; unfold mvF; rw [if_pos (by omega)]; exact hr
                · rw [if_neg e, hF i hi e]; unfold mvF
                  by_cases h5 : j < i
                  · rw [if_pos h5, if_pos (by omega)]
                  · rw [if_neg h5, if_neg (by omega)]
              have hsj : shF v j = v j / 2 + v (j - 1) % 2 * 128 := by unfold shF; rw [if_pos hjp]
              by_cases hq : v (j - 1) % 2 = 1
              · have eq1 : ((v (j - 1) : Int) % 2 == 1) = true := by rw [beq_iff_eq]; omega
                have HN := Lib.hid (key (wr.setCell ⟨g4, j, none⟩ (.int .u8 ((v j / 2 : Nat) : Int))) (upd (mvF v j) j (v j / 2)) (v j / 2 + 128) (by rw [hsj, hq]) (hV.set j _) (fun i _ h => if_neg h) (Blk.set_other hX (by simp; omega) _) (Blk.set_other hR (by simp; omega) _) (Blk.set_other hZ (by simp; omega) _) (hO.setCell (by simp; omega) _))
                rw [show ((v j / 2 + 128 : Nat) : Int) = (v j : Int) / 2 + 128 by omega, show ((v j / 2 : Nat) : Int) = (v j : Int) / 2 by omega] at HN
                clear hX hR hZ hO hV key hsj hq
                generalize v (j - 1) = qm at *
                generalize v j = qj at *
                go_wp2_with fail
                go_roundw
                case rel => exact HN.out
                case measure => first | (simp [intOf]; done) | (simp [intOf]; omega)
              · have eq1 : ((v (j - 1) : Int) % 2 == 1) = false := by rw [beq_eq_false_iff_ne]; omega
                have HN := Lib.hid (key wr (mvF v j) (v j / 2) (by rw [hsj, show v (j - 1) % 2 = 0 by omega, Nat.zero_mul, Nat.add_zero]) hV (fun i _ _ => rfl) hX hR hZ hO)
                rw [show ((v j / 2 : Nat) : Int) = (v j : Int) / 2 by omega] at HN
                clear hX hR hZ hO hV key hsj hq
                generalize v (j - 1) = qm at *
                generalize v j = qj at *
                go_wp2_with fail
                go_roundw
                case rel => exact HN.out
                case measure => first | (simp [intOf]; done) | (simp [intOf]; omega)
          · have hs0 := shF_lt HVL.out 0 (by omega)
            have cv : wr.cell? ⟨g4, 0, none⟩ = some (.int .u8 (shF v 0 : Nat)) := hV.cell (by omega)
            have fv : wr.frozen? ⟨g4, 0, none⟩ = false := Blk.free hV 0
            have ex : bits .xor .u8 ((shF v 0 : Nat) : Int) 225 = ((shF v 0 ^^^ 225 : Nat) : Int) := u8_xor_nat _ 225 hs0 (by decide)
            cases b15
            · have HN := Lib.hid (show RM w g4 x y (k + 1) wr by
                refine ⟨hX, hR, ?_, ?_, hO⟩
                · rw [HB.out]; exact hZ
                · rw [HVK.out]; exact hV.congr fun i hi => (if_neg (fun h => absurd (H15.out.1 h.2) (by decide))).symm)
              clear hX hR hZ hO hV hs0
              go_wp2_with fail
              go_roundw
              case rel => exact ⟨k + 1, by omega, by go_num, HN.out⟩
              case measure => simp [intOf]; omega
            · have HN := Lib.hid (show RM w g4 x y (k + 1) (wr.setCell ⟨g4, 0, none⟩ (.int .u8 ((shF v 0 ^^^ 225 : Nat) : Int))) by
                refine ⟨Blk.set_other hX (by simp; omega) _, Blk.set_other hR (by simp; omega) _, ?_, ?_, hO.setCell (by simp; omega) _⟩
                · rw [HB.out]; exact Blk.set_other hZ (by simp; omega) _
                · rw [HVK.out]
                  refine (hV.set 0 (shF v 0 ^^^ 225)).congr fun i hi => ?_
                  unfold upd nxF
                  by_cases e : i = 0
                  · rw [if_pos e, if_pos ⟨e, H15.out.2 rfl⟩]
                  · rw [if_neg e, if_neg (fun h => e h.1)])
              clear hX hR hZ hO hV
              generalize shF v 0 ^^^ 225 = r2 at *
              generalize shF v 0 = r1 at *
              go_wp2_with fail
              go_roundw
              case rel => exact ⟨k + 1, by omega, by go_num, HN.out⟩
              case measure => simp [intOf]; omega
      · have h128 : ¬ (128 : Int) ≤ (p : Int) * 2 ^ (k % 8) % 256 := by
          rw [hbk] at hb
          have h1 : ¬ 128 ≤ p * 2 ^ (k % 8) % 256 := fun h => hb (decide_eq_true h)
          have e : (((p * 2 ^ (k % 8) % 256 : Nat)) : Int) = (p : Int) * 2 ^ (k % 8) % 256 := by push_cast; rfl
          rw [← e]; omega
        have HB := Lib.hid (HZK.out.trans (if_neg hb))
        obtain ⟨z5, hz5⟩ : ∃ q, z = q := ⟨_, rfl⟩
        rw [hz5] at HB hZ
        obtain ⟨w5, hw5⟩ : ∃ q, wr = q := ⟨_, rfl⟩
        rw [hw5] at hX hR hZ hV hO c15 cx ⊢
        have HX5 := Lib.hid hX
        have HR5 := Lib.hid hR
        have HZ5 := Lib.hid hZ
        have HV5 := Lib.hid hV
        have HO5 := Lib.hid hO
        clear hX hR hZ hV hO hb hbk hz5 hw5 HZK HZL
        go_wp2_with fail
        clear c15 cx
        go_loopw [9] (fun j wi => RV w g4 x z5 v j wi) (fun j _ => (intOf j + 1).toNat)
        case atStart => exact ⟨Or.inl ⟨15, by omega, rfl, HV5.out.congr fun i hi => (if_neg (show ¬ 15 < i by omega)).symm⟩, HX5.out, HR5.out, HZ5.out, HO5.out⟩
        case round =>
          obtain ⟨hj, hX, hR, hZ, hO⟩ := hrel
          rcases hj with ⟨j, hj, rfl, hV⟩ | ⟨rfl, hV⟩
          · rcases Nat.eq_zero_or_pos j with rfl | hjp
            · have hp0 := HVL.out 0 (by omega)
              have cv : wr.cell? ⟨g4, 0, none⟩ = some (.int .u8 (v 0 : Nat)) := hV.cell (by omega)
              have fv : wr.frozen? ⟨g4, 0, none⟩ = false := Blk.free hV 0
              have HN := Lib.hid (show RV w g4 x z5 v (.int .i64 (-1)) (wr.setCell ⟨g4, 0, none⟩ (.int .u8 ((v 0 : Int) / 2))) by
                refine ⟨Or.inr ⟨rfl, ?_⟩, Blk.set_other hX (by simp; omega) _, Blk.set_other hR (by simp; omega) _, Blk.set_other hZ (by simp; omega) _, hO.setCell (by simp; omega) _⟩
                have := hV.set 0 (v 0 / 2)
                rw [show ((v 0 / 2 : Nat) : Int) = (v 0 : Int) / 2 by omega] at this
                refine this.congr fun i hi => ?_
                unfold upd mvF
                by_cases e : i = 0
                · subst e; rw [if_pos rfl]; show v 0 / 2 = v 0 / 2 + 0; rfl
                · rw [if_neg e, if_pos (by omega)])
              clear hX hR hZ hO hV
              generalize v 0 = q0 at *
              go_wp2_with fail
              go_roundw
              case rel => exact HN.out
              case measure => simp [intOf]
            · have hpj := HVL.out j hj
              have hpm := HVL.out (j - 1) (by omega)
              have cv : wr.cell? ⟨g4, j, none⟩ = some (.int .u8 (v j : Nat)) := by
                have := hV.cell hj; unfold mvF at this; rw [if_neg (by omega)] at this; exact this
              have cm : wr.cell? ⟨g4, j - 1, none⟩ = some (.int .u8 (v (j - 1) : Nat)) := by
                have := hV.cell (show j - 1 < 16 by omega); unfold mvF at this; rw [if_neg (by omega)] at this; exact this
              have fv : wr.frozen? ⟨g4, j, none⟩ = false := Blk.free hV j
              have j0 : (0 : Int) < (j : Int) := by omega
              have j1 : (j : Int) < 16 := by omega
              have key : ∀ (ww : World) (F : Nat → Nat) (r : Nat), r = shF v j → A16 ww g4 F → (∀ i, i < 16 → i ≠ j → F i = mvF v j i) → A16 ww w.heap.size x → A16 ww (w.heap.size + 1 + 1) (fun _ => 0) → A16 ww (w.heap.size + 1 + 1 + 1) z5 → Below w.heap.size w ww →
                  RV w g4 x z5 v (.int .i64 ((j : Int) - 1)) (ww.setCell ⟨g4, j, none⟩ (.int .u8 (r : Int))) := by
                intro ww F r hr hV hF hX hR hZ hO
                refine ⟨Or.inl ⟨j - 1, by omega, by rw [show ((j - 1 : Nat) : Int) = (j : Int) - 1 by omega], ?_⟩, Blk.set_other hX (by simp; omega) _, Blk.set_other hR (by simp; omega) _, Blk.set_other hZ (by simp; omega) _, hO.setCell (by simp; omega) _⟩
                refine (hV.set j r).congr fun i hi => ?_
                unfold upd
                by_cases e : i = j
                · subst e; rw [if_pos rfl]; unfold mvF; rw [if_pos (by omega)]; exact hr
                · rw [if_neg e, hF i hi e]; unfold mvF
                  by_cases h5 : j < i
                  · rw [if_pos h5, if_pos (by omega)]
                  · rw [if_neg h5, if_neg (by omega)]
              have hsj : shF v j = v j / 2 + v (j - 1) % 2 * 128 := by unfold shF; rw [if_pos hjp]
              by_cases hq : v (j - 1) % 2 = 1
              · have eq1 : ((v (j - 1) : Int) % 2 == 1) = true := by rw [beq_iff_eq]; omega
                have HN := Lib.hid (key (wr.setCell ⟨g4, j, none⟩ (.int .u8 ((v j / 2 : Nat) : Int))) (upd (mvF v j) j (v j / 2)) (v j / 2 + 128) (by rw [hsj, hq]) (hV.set j _) (fun i _ h => if_neg h) (Blk.set_other hX (by simp; omega) _) (Blk.set_other hR (by simp; omega) _) (Blk.set_other hZ (by simp; omega) _) (hO.setCell (by simp; omega) _))
                rw [show ((v j / 2 + 128 : Nat) : Int) = (v j : Int) / 2 + 128 by omega, show ((v j / 2 : Nat) : Int) = (v j : Int) / 2 by omega] at HN
                clear hX hR hZ hO hV key hsj hq
                generalize v (j - 1) = qm at *
                generalize v j = qj at *
                go_wp2_with fail
                go_roundw
                case rel => exact HN.out
                case measure => first | (simp [intOf]; done) | (simp [intOf]; omega)
              · have eq1 : ((v (j - 1) : Int) % 2 == 1) = false := by rw [beq_eq_false_iff_ne]; omega
                have HN := Lib.hid (key wr (mvF v j) (v j / 2) (by rw [hsj, show v (j - 1) % 2 = 0 by omega, Nat.zero_mul, Nat.add_zero]) hV (fun i _ _ => rfl) hX hR hZ hO)
                rw [show ((v j / 2 : Nat) : Int) = (v j : Int) / 2 by omega] at HN
                clear hX hR hZ hO hV key hsj hq
                generalize v (j - 1) = qm at *
                generalize v j = qj at *
                go_wp2_with fail
                go_roundw
                case rel => exact HN.out
                case measure => first | (simp [intOf]; done) | (simp [intOf]; omega)
          · have hs0 := shF_lt HVL.out 0 (by omega)
            have cv : wr.cell? ⟨g4, 0, none⟩ = some (.int .u8 (shF v 0 : Nat)) := hV.cell (by omega)
            have fv : wr.frozen? ⟨g4, 0, none⟩ = false := Blk.free hV 0
            have ex : bits .xor .u8 ((shF v 0 : Nat) : Int) 225 = ((shF v 0 ^^^ 225 : Nat) : Int) := u8_xor_nat _ 225 hs0 (by decide)
            cases b15
            · have HN := Lib.hid (show RM w g4 x y (k + 1) wr by
                refine ⟨hX, hR, ?_, ?_, hO⟩
                · rw [HB.out]; exact hZ
                · rw [HVK.out]; exact hV.congr fun i hi => (if_neg (fun h => absurd (H15.out.1 h.2) (by decide))).symm)
              clear hX hR hZ hO hV hs0
              go_wp2_with fail
              go_roundw
              case rel => exact ⟨k + 1, by omega, by go_num, HN.out⟩
              case measure => simp [intOf]; omega
            · have HN := Lib.hid (show RM w g4 x y (k + 1) (wr.setCell ⟨g4, 0, none⟩ (.int .u8 ((shF v 0 ^^^ 225 : Nat) : Int))) by
                refine ⟨Blk.set_other hX (by simp; omega) _, Blk.set_other hR (by simp; omega) _, ?_, ?_, hO.setCell (by simp; omega) _⟩
                · rw [HB.out]; exact Blk.set_other hZ (by simp; omega) _
                · rw [HVK.out]
                  refine (hV.set 0 (shF v 0 ^^^ 225)).congr fun i hi => ?_
                  unfold upd nxF
                  by_cases e : i = 0
                  · rw [if_pos e, if_pos ⟨e, H15.out.2 rfl⟩]
                  · rw [if_neg e, if_neg (fun h => e h.1)])
              clear hX hR hZ hO hV
              generalize shF v 0 ^^^ 225 = r2 at *
              generalize shF v 0 = r1 at *
              go_wp2_with fail
              go_roundw
              case rel => exact ⟨k + 1, by omega, by go_num, HN.out⟩
              case measure => simp [intOf]; omega
    · obtain rfl : k = 128 := by omega
      obtain ⟨M, hM⟩ : ∃ C, (rowC 16 (mulF x y)).toArray = C := ⟨_, rfl⟩
      have HCM : Hid (∃ f, M = (rowC 16 f).toArray) := Lib.hid ⟨_, hM.symm⟩
      have HCZ : Hid (∃ f, zero16 = (rowC 16 f).toArray) := Lib.hid ⟨_, rfl⟩
      have HZ5 : Hid (Blk wr (w.heap.size + 1 + 1 + 1) M 22) := Lib.hid (by
        have := hZ.congr (zB_mul HX0.out HY0.out)
        unfold A16 at this; rw [hM] at this; exact this)
      have HR5 : Hid (Blk wr (w.heap.size + 1 + 1) zero16 22) := Lib.hid hR
      have HN : Hid (Blk (wr.setCells (w.heap.size + 1 + 1) 0 M.toList) (w.heap.size + 1 + 1) M 22) := Lib.hid (Blk.store16a HR5.out HCM.out HCZ.out)
      have HO5 : Hid (Below w.heap.size w (wr.setCells (w.heap.size + 1 + 1) 0 M.toList)) := Lib.hid (Below.set16 (g := w.heap.size + 1 + 1) hO (by omega) hO.size _)
      have HM := Lib.hid hM
      clear hX hR hZ hV hO hM hlt hk
      go_wp2_with (first
        | (refine wpList_load16a rfl (.tmp 5) rfl (w.heap.size + 1 + 1 + 1) rfl M HZ5.out HCM.out ?_)
        | (refine wpList_store16a rfl (.tmp 4) (.tmp 62) rfl (w.heap.size + 1 + 1) rfl M zero16 rfl HR5.out HCM.out HCZ.out ?_))
      refine bodyPost_ret (v := .agg M) ?_ rfl ⟨by rw [HM.out], HO5.out⟩
      exact res16a Try.results10 _ _ (w.heap.size + 1 + 1) M rfl HN.out HCM.out
end Go.Proofs.Ytafbfjnbajdbkaa
