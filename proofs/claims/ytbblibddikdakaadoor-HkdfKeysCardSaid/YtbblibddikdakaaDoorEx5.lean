/- HkdfMore walked. -/
import Derived.Test.YtbblibddikdakaaDoorEx4
import Derived.Lib.BufferRead
namespace Go.Proofs.YtbblibddikdakaaDoor
set_option linter.unusedVariables false
set_option linter.unusedSimpArgs false
open Go.RowKit

theorem conv_any {w : World} {oa : Option Addr} {n cap : Nat} {f : Nat → Nat} (h : Bytes w oa n f) (hno : oa = none → n = 0) : (convert 25 9 (.slice oa n cap)).run Tryd.prog w = .ok (.string (strF n f)) w := by
  by_cases h0 : n = 0
  · subst h0
    have e : strF 0 f = ⟨#[]⟩ := rfl
    rw [e]
    cases oa with
    | none => exact Lib.run_convert_nil_bytes w 25 9 5 cap Tryd.underlying25 Tryd.underlying5 Tryd.underlying9
    | some ad => exact run_convert_bytes_back w 25 9 5 ad cap [] Tryd.underlying25 Tryd.underlying5 Tryd.underlying9 (fun j hj => absurd hj (Nat.not_lt_zero _))
  · obtain ⟨_, b, off, rfl, _⟩ := h 0 (by omega)
    exact h.conv
theorem exec_convO {o : Oper} {a : Act} {w : World} {x : Operand} {oa : Option Addr} {n cap : Nat} {S : ByteArray} (ho : o.op = .convert 25 9 x) (hx : a.eval x = .slice oa n cap) (h : (convert 25 9 (.slice oa n cap)).run Tryd.prog w = .ok (.string S) w) : (execOp a.eval o).run Tryd.prog w = .ok (.value (.string S)) w := by
  unfold execOp
  simp only [ho, hx, h, Sem.run_bind, Result.andThen_ok]
  rfl
theorem wpStill_valueG {ops : Array Oper} {rest : List Oper} {o : Oper} {a : Act} {w : World} {Q : Act → Prop} {v : Value} (hw : Region.wanted o (yielded ops a.tmps) = true) (he : (execOp a.eval o).run Tryd.prog w = .ok (.value v) w)
    (hk : wpStill Tryd.prog ops w Q rest (a.put o.dst v)) : wpStill Tryd.prog ops w Q (o :: rest) a := by
  refine wpStill_step fun K hK => ?_
  rw [if_pos hw]
  unfold Oper.still
  rw [he, Oper.stillUpon_value]
  exact hK _ hk
set_option maxRecDepth 100000 in
set_option maxHeartbeats 8000000 in
theorem hmore_any (oa oi : Option Addr) (n cn p ci : Nat) (K I : Nat → Nat) (x0 x1 : Nat) (w : World) (hb : Bytes w oa n K) (hnc : n ≤ cn) (hno : oa = none → n = 0) (hcn : cn ≤ maxLen) (hb2 : Bytes w oi p I) (hpc : p ≤ ci) (hci : ci ≤ maxLen) (hx0 : x0 < 65536) (hx1 : x1 < 65536) (hg : GH w) :
    Calls Tryd.prog 8 #[.slice oa n cn, .slice oi p ci, .agg #[.int .u16 (x0 : Nat), .int .u16 (x1 : Nat)]] w fun e w' => e = .returned (.bool true) ∧ Below w.heap.size w w' := by
  unfold maxLen at hcn hci
  have HG := Lib.hid hg
  have HKB : Hid (∀ w', Below w.heap.size w w' → Bytes w' oa n K) := Lib.hid fun w' h => hb.later h
  have HIB : Hid (∀ w', Below w.heap.size w w' → Bytes w' oi p I) := Lib.hid fun w' h => hb2.later h
  have HNC : Hid (n ≤ cn ∧ p ≤ ci) := Lib.hid ⟨hnc, hpc⟩
  have HNO := Lib.hid hno
  have hn0 : (n : Int) ≤ 9223372036854775807 := by omega
  have hp0 : (p : Int) ≤ 9223372036854775807 := by omega
  have hba : Below w.heap.size w (w.alloc (.cells #[.int .u16 (x0 : Nat), .int .u16 (x1 : Nat)] 39)) := (Below.refl _ _).alloc (Nat.le_refl _) _
  have hB2 : Blk (w.alloc (.cells #[.int .u16 (x0 : Nat), .int .u16 (x1 : Nat)] 39)) w.heap.size #[.int .u16 (x0 : Nat), .int .u16 (x1 : Nat)] 39 := Blk.new w _ _
  have H0 : Hid (Below w.heap.size w (w.alloc (.cells #[.int .u16 (x0 : Nat), .int .u16 (x1 : Nat)] 39)).drew) := Lib.hid hba.drew
  have c0 : (w.alloc (.cells #[.int .u16 (x0 : Nat), .int .u16 (x1 : Nat)] 39)).drew.cell? ⟨w.heap.size, 0, none⟩ = some (.int .u16 (x0 : Nat)) := by rw [show (w.alloc (.cells #[.int .u16 (x0 : Nat), .int .u16 (x1 : Nat)] 39)).drew.cell? ⟨w.heap.size, 0, none⟩ = (w.alloc (.cells #[.int .u16 (x0 : Nat), .int .u16 (x1 : Nat)] 39)).cell? ⟨w.heap.size, 0, none⟩ from rfl, Blk.cell hB2]; rfl
  have c1 : (w.alloc (.cells #[.int .u16 (x0 : Nat), .int .u16 (x1 : Nat)] 39)).drew.cell? ⟨w.heap.size, 1, none⟩ = some (.int .u16 (x1 : Nat)) := by rw [show (w.alloc (.cells #[.int .u16 (x0 : Nat), .int .u16 (x1 : Nat)] 39)).drew.cell? ⟨w.heap.size, 1, none⟩ = (w.alloc (.cells #[.int .u16 (x0 : Nat), .int .u16 (x1 : Nat)] 39)).cell? ⟨w.heap.size, 1, none⟩ from rfl, Blk.cell hB2]; rfl
  clear hb hnc hno hb2 hpc hg hba hB2
  go_enter Tryd.func8, Tryd.ntmps8
  go_wp2_with fail
  refine still_lit (by kernel_rfl) (by kernel_rfl) ?_
  generalize (w.alloc (.cells #[.int .u16 (x0 : Nat), .int .u16 (x1 : Nat)] 39)).drew = W0 at *
  repeat still_step
  refine wpStill_nil ?_
  clear c0 c1
  have hcs : (300 : Int) < (n : Int) ∨ (¬ (300 : Int) < (n : Int) ∧ (300 : Int) < (p : Int)) ∨ (¬ (300 : Int) < (n : Int) ∧ ¬ (300 : Int) < (p : Int)) := by omega
  rcases hcs with h1 | ⟨h1, h2⟩ | ⟨h1, h2⟩
  · have h0 : True := trivial
    go_wp2_with fail
    refine (hkdf_sure _ (HG.out.later H0.out)).mono ?_
    rintro e w5 ⟨rfl, hb5⟩
    have HO := Lib.hid (H0.out.trans (hb5.mono H0.out.size))
    clear hb5
    go_wp2_with fail
    go_ret
    exact ⟨rfl, HO.out⟩
  · have h0 : True := trivial
    go_wp2_with fail
    refine (hkdf_sure _ (HG.out.later H0.out)).mono ?_
    rintro e w5 ⟨rfl, hb5⟩
    have HO := Lib.hid (H0.out.trans (hb5.mono H0.out.size))
    clear hb5
    go_wp2_with fail
    go_ret
    exact ⟨rfl, HO.out⟩
  · have HN : Hid (n ≤ 300 ∧ p ≤ 300) := Lib.hid (by omega)
    obtain ⟨x, hx⟩ : ∃ x, x0 % 500 = x := ⟨_, rfl⟩
    obtain ⟨y, hy⟩ : ∃ y, x1 % 500 = y := ⟨_, rfl⟩
    have tx : (x0 : Int).tmod 500 = (x : Int) := tmk rfl hx
    have ty : (x1 : Int).tmod 500 = (y : Int) := tmk rfl hy
    have tx2 : (x0 : Int) % 500 = (x : Int) := by omega
    have ty2 : (x1 : Int) % 500 = (y : Int) := by omega
    have wx : IntKind.i64.wrap (x0 : Int) = (x0 : Int) := IntWalk.i64_in _ (by omega)
    have wy : IntKind.i64.wrap (x1 : Int) = (x1 : Int) := IntWalk.i64_in _ (by omega)
    have HXY : Hid (x < 500 ∧ y < 500) := Lib.hid (by omega)
    clear hx hy hx0 hx1
    rcases (by omega : x < y ∨ x = y ∨ y < x) with m1 | m1 | m1
    · have m2 : ¬ y < x := by omega
      have m3 : (x : Int) < (y : Int) := by omega
      have m4 : ¬ (y : Int) < (x : Int) := by omega
      have m5 : (x : Int) ≤ (y : Int) := by omega
      have m6 : ¬ (y : Int) ≤ (x : Int) := by omega
      have l0 : (0 : Int) ≤ (x : Int) := by omega
      have l1 : (x : Int) ≤ (y : Int) := by omega
      have l2 : (x : Int) ≤ 9223372036854775807 := by have := HXY.out; omega
      have HLH : Hid (x ≤ y ∧ y < 500) := Lib.hid (by have := HXY.out; omega)
      obtain ⟨F, hF⟩ : ∃ F, exF n K p I = F := ⟨_, rfl⟩
      obtain ⟨S, hS⟩ : ∃ S, strF x F = S := ⟨_, rfl⟩
      have HS := Lib.hid hS
      have HE : Hid (∀ z w', z < 500 → Below w.heap.size w w' → Calls Tryd.prog 27 #[.slice oa n cn, .slice oi p ci, .int .i64 (z : Nat)] w' fun e w'' => ∃ o, e = .returned (.tuple #[.slice o z z, .nilIface]) ∧ Bytes w'' o z F ∧ (o = none → z = 0) ∧ Below w'.heap.size w' w'') := Lib.hid fun z w' hz h => by
        rw [← hF]; exact expand_any oa oi n cn p ci K I z w' (HKB.out _ h) HNC.out.1 HNO.out (by have := HN.out; omega) (HIB.out _ h) HNC.out.2 (by have := HN.out; omega) (by omega) (HG.out.later h).1
      clear hF hS
      go_wp2_with fail
      clear tx ty tx2 ty2 wx wy h1 h2
      refine (HE.out x _ (by have := HLH.out; omega) H0.out).mono ?_
      rintro e w1 ⟨o1, rfl, hB1, hn1, hb1⟩
      have H1 : Hid (Bytes w1 o1 x F ∧ (o1 = none → x = 0) ∧ Below w.heap.size w w1) := Lib.hid ⟨hB1, hn1, H0.out.trans (hb1.mono H0.out.size)⟩
      clear hB1 hn1 hb1 H0
      go_wp2_with fail
      refine (HE.out y _ HLH.out.2 H1.out.2.2).mono ?_
      rintro e w2 ⟨o2, rfl, hB2, hn2, hb2⟩
      have H2 : Hid (Below w.heap.size w w2.drew) := Lib.hid (H1.out.2.2.trans (hb2.mono H1.out.2.2.size)).drew
      have HC1 : Hid ((convert 25 9 (.slice o1 x x)).run Tryd.prog w2.drew = .ok (.string S) w2.drew) := Lib.hid (by rw [← HS.out]; exact conv_any (w := w2.drew) (H1.out.1.later hb2.drew) H1.out.2.1)
      have HC2 : Hid ((convert 25 9 (.slice o2 x y)).run Tryd.prog w2.drew = .ok (.string S) w2.drew) := Lib.hid (by rw [← HS.out]; exact conv_any (w := w2.drew) (hB2.mono (by have := HLH.out; omega)) (fun e => by have := hn2 e; have := HLH.out; omega))
      clear hB2 hn2 hb2 H1 HE HS
      go_wp2_with fail
      refine still_tail 33 (by kernel_rfl) (by kernel_rfl) ?_
      simp only [List.take_succ_cons, List.take_zero, List.drop_succ_cons, List.drop_zero]
      generalize w2.drew = W2 at *
      repeat still_step
      refine wpStill_valueG (by rfl) (exec_convO rfl rfl HC2.out) ?_
      (try simp only [Act.put, List.setIfInBounds_toArray, List.set_cons_zero, List.set_cons_succ])
      repeat still_step
      refine wpStill_valueG (by rfl) (exec_convO rfl rfl HC1.out) ?_
      (try simp only [Act.put, List.setIfInBounds_toArray, List.set_cons_zero, List.set_cons_succ])
      repeat still_step
      refine wpStill_nil ?_
      clear HC1 HC2 l0 l1 l2
      go_wp2_with fail
      refine (hkdf_sure _ (HG.out.later H2.out)).mono ?_
      rintro e w5 ⟨rfl, hb5⟩
      have HO := Lib.hid (H2.out.trans (hb5.mono H2.out.size))
      clear hb5 H2
      go_wp2_with fail
      go_ret
      exact ⟨rfl, HO.out⟩
    · subst m1
      have l0 : (0 : Int) ≤ (x : Int) := by omega
      have l1 : (x : Int) ≤ (x : Int) := by omega
      have l2 : (x : Int) ≤ 9223372036854775807 := by have := HXY.out; omega
      have HLH : Hid (x ≤ x ∧ x < 500) := Lib.hid (by have := HXY.out; omega)
      obtain ⟨F, hF⟩ : ∃ F, exF n K p I = F := ⟨_, rfl⟩
      obtain ⟨S, hS⟩ : ∃ S, strF x F = S := ⟨_, rfl⟩
      have HS := Lib.hid hS
      have HE : Hid (∀ z w', z < 500 → Below w.heap.size w w' → Calls Tryd.prog 27 #[.slice oa n cn, .slice oi p ci, .int .i64 (z : Nat)] w' fun e w'' => ∃ o, e = .returned (.tuple #[.slice o z z, .nilIface]) ∧ Bytes w'' o z F ∧ (o = none → z = 0) ∧ Below w'.heap.size w' w'') := Lib.hid fun z w' hz h => by
        rw [← hF]; exact expand_any oa oi n cn p ci K I z w' (HKB.out _ h) HNC.out.1 HNO.out (by have := HN.out; omega) (HIB.out _ h) HNC.out.2 (by have := HN.out; omega) (by omega) (HG.out.later h).1
      clear hF hS
      go_wp2_with fail
      clear tx ty tx2 ty2 wx wy h1 h2
      refine (HE.out x _ (by have := HLH.out; omega) H0.out).mono ?_
      rintro e w1 ⟨o1, rfl, hB1, hn1, hb1⟩
      have H1 : Hid (Bytes w1 o1 x F ∧ (o1 = none → x = 0) ∧ Below w.heap.size w w1) := Lib.hid ⟨hB1, hn1, H0.out.trans (hb1.mono H0.out.size)⟩
      clear hB1 hn1 hb1 H0
      go_wp2_with fail
      refine (HE.out x _ HLH.out.2 H1.out.2.2).mono ?_
      rintro e w2 ⟨o2, rfl, hB2, hn2, hb2⟩
      have H2 : Hid (Below w.heap.size w w2.drew) := Lib.hid (H1.out.2.2.trans (hb2.mono H1.out.2.2.size)).drew
      have HC1 : Hid ((convert 25 9 (.slice o1 x x)).run Tryd.prog w2.drew = .ok (.string S) w2.drew) := Lib.hid (by rw [← HS.out]; exact conv_any (w := w2.drew) (H1.out.1.later hb2.drew) H1.out.2.1)
      have HC2 : Hid ((convert 25 9 (.slice o2 x x)).run Tryd.prog w2.drew = .ok (.string S) w2.drew) := Lib.hid (by rw [← HS.out]; exact conv_any (w := w2.drew) (hB2.mono (by have := HLH.out; omega)) (fun e => by have := hn2 e; have := HLH.out; omega))
      clear hB2 hn2 hb2 H1 HE HS
      go_wp2_with fail
      refine still_tail 33 (by kernel_rfl) (by kernel_rfl) ?_
      simp only [List.take_succ_cons, List.take_zero, List.drop_succ_cons, List.drop_zero]
      generalize w2.drew = W2 at *
      repeat still_step
      refine wpStill_valueG (by rfl) (exec_convO rfl rfl HC2.out) ?_
      (try simp only [Act.put, List.setIfInBounds_toArray, List.set_cons_zero, List.set_cons_succ])
      repeat still_step
      refine wpStill_valueG (by rfl) (exec_convO rfl rfl HC1.out) ?_
      (try simp only [Act.put, List.setIfInBounds_toArray, List.set_cons_zero, List.set_cons_succ])
      repeat still_step
      refine wpStill_nil ?_
      clear HC1 HC2 l0 l1 l2
      go_wp2_with fail
      refine (hkdf_sure _ (HG.out.later H2.out)).mono ?_
      rintro e w5 ⟨rfl, hb5⟩
      have HO := Lib.hid (H2.out.trans (hb5.mono H2.out.size))
      clear hb5 H2
      go_wp2_with fail
      go_ret
      exact ⟨rfl, HO.out⟩
    · have m2 : ¬ x < y := by omega
      have m3 : (y : Int) < (x : Int) := by omega
      have m4 : ¬ (x : Int) < (y : Int) := by omega
      have m5 : (y : Int) ≤ (x : Int) := by omega
      have m6 : ¬ (x : Int) ≤ (y : Int) := by omega
      have l0 : (0 : Int) ≤ (y : Int) := by omega
      have l1 : (y : Int) ≤ (x : Int) := by omega
      have l2 : (y : Int) ≤ 9223372036854775807 := by have := HXY.out; omega
      have HLH : Hid (y ≤ x ∧ x < 500) := Lib.hid (by have := HXY.out; omega)
      obtain ⟨F, hF⟩ : ∃ F, exF n K p I = F := ⟨_, rfl⟩
      obtain ⟨S, hS⟩ : ∃ S, strF y F = S := ⟨_, rfl⟩
      have HS := Lib.hid hS
      have HE : Hid (∀ z w', z < 500 → Below w.heap.size w w' → Calls Tryd.prog 27 #[.slice oa n cn, .slice oi p ci, .int .i64 (z : Nat)] w' fun e w'' => ∃ o, e = .returned (.tuple #[.slice o z z, .nilIface]) ∧ Bytes w'' o z F ∧ (o = none → z = 0) ∧ Below w'.heap.size w' w'') := Lib.hid fun z w' hz h => by
        rw [← hF]; exact expand_any oa oi n cn p ci K I z w' (HKB.out _ h) HNC.out.1 HNO.out (by have := HN.out; omega) (HIB.out _ h) HNC.out.2 (by have := HN.out; omega) (by omega) (HG.out.later h).1
      clear hF hS
      go_wp2_with fail
      clear tx ty tx2 ty2 wx wy h1 h2
      refine (HE.out y _ (by have := HLH.out; omega) H0.out).mono ?_
      rintro e w1 ⟨o1, rfl, hB1, hn1, hb1⟩
      have H1 : Hid (Bytes w1 o1 y F ∧ (o1 = none → y = 0) ∧ Below w.heap.size w w1) := Lib.hid ⟨hB1, hn1, H0.out.trans (hb1.mono H0.out.size)⟩
      clear hB1 hn1 hb1 H0
      go_wp2_with fail
      refine (HE.out x _ HLH.out.2 H1.out.2.2).mono ?_
      rintro e w2 ⟨o2, rfl, hB2, hn2, hb2⟩
      have H2 : Hid (Below w.heap.size w w2.drew) := Lib.hid (H1.out.2.2.trans (hb2.mono H1.out.2.2.size)).drew
      have HC1 : Hid ((convert 25 9 (.slice o1 y y)).run Tryd.prog w2.drew = .ok (.string S) w2.drew) := Lib.hid (by rw [← HS.out]; exact conv_any (w := w2.drew) (H1.out.1.later hb2.drew) H1.out.2.1)
      have HC2 : Hid ((convert 25 9 (.slice o2 y x)).run Tryd.prog w2.drew = .ok (.string S) w2.drew) := Lib.hid (by rw [← HS.out]; exact conv_any (w := w2.drew) (hB2.mono (by have := HLH.out; omega)) (fun e => by have := hn2 e; have := HLH.out; omega))
      clear hB2 hn2 hb2 H1 HE HS
      go_wp2_with fail
      refine still_tail 33 (by kernel_rfl) (by kernel_rfl) ?_
      simp only [List.take_succ_cons, List.take_zero, List.drop_succ_cons, List.drop_zero]
      generalize w2.drew = W2 at *
      repeat still_step
      refine wpStill_valueG (by rfl) (exec_convO rfl rfl HC2.out) ?_
      (try simp only [Act.put, List.setIfInBounds_toArray, List.set_cons_zero, List.set_cons_succ])
      repeat still_step
      refine wpStill_valueG (by rfl) (exec_convO rfl rfl HC1.out) ?_
      (try simp only [Act.put, List.setIfInBounds_toArray, List.set_cons_zero, List.set_cons_succ])
      repeat still_step
      refine wpStill_nil ?_
      clear HC1 HC2 l0 l1 l2
      go_wp2_with fail
      refine (hkdf_sure _ (HG.out.later H2.out)).mono ?_
      rintro e w5 ⟨rfl, hb5⟩
      have HO := Lib.hid (H2.out.trans (hb5.mono H2.out.size))
      clear hb5 H2
      go_wp2_with fail
      go_ret
      exact ⟨rfl, HO.out⟩
end Go.Proofs.YtbblibddikdakaaDoor
