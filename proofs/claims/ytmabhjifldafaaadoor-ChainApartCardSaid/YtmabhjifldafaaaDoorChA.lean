/- Two lists held apart; lists held against one another. -/
import Derived.Test.YtmabhjifldafaaaDoorCh2
import Derived.OwnWalk
namespace Go.Proofs.YtmabhjifldafaaaDoor
set_option linter.unusedVariables false
set_option linter.unusedSimpArgs false
open Go.RowKit

theorem hmN_congr2 {n m : Nat} {K G G' : Nat → Nat} (h : ∀ k, k < m → G k = G' k) : hmN n K m G = hmN n K m G' := by
  unfold hmN hmK
  have e : shaN (64 + m) (catF 64 (xoK (whK n K) 54) G) = shaN (64 + m) (catF 64 (xoK (whK n K) 54) G') := shaN_congr fun k hk => by
    unfold catF
    by_cases e : k < 64
    · rw [if_pos e, if_pos e]
    · rw [if_neg e, if_neg e]; exact h _ (by omega)
  rw [e]
/-- The same lists. -/
def Same (qa qb : Nat) (LA LB : Nat → Nat) (GA GB : Nat → Nat → Nat) : Prop := qa = qb ∧ ∀ i, i < qa → LA i = LB i ∧ ∀ k, k < LA i → GA i k = GB i k
theorem same_refl (q : Nat) (L : Nat → Nat) (G : Nat → Nat → Nat) : Same q q L L G G := ⟨rfl, fun _ _ => ⟨rfl, fun _ _ => rfl⟩⟩
/-- A text that is summed. -/
def tx (n : Nat) (K : Nat → Nat) (L : Nat → Nat) (G : Nat → Nat → Nat) (i : Nat) : ByteArray := strF (32 + L i) (catF 32 (hs n K L G i) (G i))
theorem hs_congr {n : Nat} {K : Nat → Nat} {LA LB : Nat → Nat} {GA GB : Nat → Nat → Nat} {q : Nat} (h : ∀ i, i < q → LA i = LB i ∧ ∀ k, k < LA i → GA i k = GB i k) : ∀ i, i ≤ q → hs n K LA GA i = hs n K LB GB i
  | 0, _ => rfl
  | i + 1, hi => by
    show hmN n K (32 + LA i) (catF 32 (hs n K LA GA i) (GA i)) = hmN n K (32 + LB i) (catF 32 (hs n K LB GB i) (GB i))
    obtain ⟨h1, h2⟩ := h i (by omega)
    rw [hs_congr h i (by omega), h1]
    exact hmN_congr2 fun k hk => by
      unfold catF
      by_cases e : k < 32
      · rw [if_pos e, if_pos e]
      · rw [if_neg e, if_neg e]; exact h2 _ (by omega)
theorem tx_congr {n : Nat} {K : Nat → Nat} {LA LB : Nat → Nat} {GA GB : Nat → Nat → Nat} {q i : Nat} (h : ∀ i, i < q → LA i = LB i ∧ ∀ k, k < LA i → GA i k = GB i k) (hi : i < q) : tx n K LA GA i = tx n K LB GB i := by
  unfold tx
  obtain ⟨h1, h2⟩ := h i hi
  rw [hs_congr h i (by omega), ← h1]
  exact strF_congr fun k hk => by
    unfold catF
    by_cases e : k < 32
    · rw [if_pos e, if_pos e]
    · rw [if_neg e, if_neg e]; exact h2 _ (by omega)
theorem tx_inj {n : Nat} {K : Nat → Nat} {LA LB : Nat → Nat} {GA GB : Nat → Nat → Nat} {i : Nat} (hA : ∀ k, k < LA i → GA i k < 256) (hB : ∀ k, k < LB i → GB i k < 256) (h : tx n K LA GA i = tx n K LB GB i) :
    eqS (hs n K LA GA i) (hs n K LB GB i) = true ∧ LA i = LB i ∧ ∀ k, k < LA i → GA i k = GB i k := by
  obtain ⟨e1, e2⟩ := strF_inj (catF_b (fun k _ => hs_lt _ _ _ _ _ _) hA) (catF_b (fun k _ => hs_lt _ _ _ _ _ _) hB) h
  refine ⟨eqS_iff.2 fun k hk => ?_, by omega, fun k hk => ?_⟩
  · have := e2 k (by omega); unfold catF at this; rwa [if_pos hk, if_pos hk] at this
  · have := e2 (32 + k) (by omega); unfold catF at this; rw [if_neg (by omega), if_neg (by omega), show 32 + k - 32 = k by omega] at this; exact this
set_option maxRecDepth 100000 in
set_option maxHeartbeats 2000000 in
theorem bequal_any (oa ob : Option Addr) (n cn m cm : Nat) (A B : ByteArray) (w : World) (h1 : CV w oa n A) (h2 : CV w ob m B) :
    Calls Tryd.prog 76 #[.slice oa n cn, .slice ob m cm] w fun e w' => e = .returned (.bool (decide (A = B))) ∧ w = w' := by
  have hc1 := h1.conv (c := cn)
  have hc2 := h2.conv (c := cm)
  by_cases e : A = B
  · subst e
    go_enter Tryd.func76, Tryd.ntmps76
    go_wp2_with fail
    go_ret
    simp
  · have n1 := str_ne e
    have n2 : (A.toList == B.toList) = false := by simpa using n1
    have n3 : decide (A = B) = false := decide_eq_false e
    rw [n3]
    go_enter Tryd.func76, Tryd.ntmps76
    go_wp2_with fail
    go_ret
    exact ⟨rfl, rfl⟩
/-- What two lists are told apart by. -/
def ApA (n : Nat) (K : Nat → Nat) (qa : Nat) (LA : Nat → Nat) (GA : Nat → Nat → Nat) (qb : Nat) (LB : Nat → Nat) (GB : Nat → Nat → Nat) (w0 : World) (e : Ending) (w' : World) : Prop :=
  Below w0.heap.size w0 w' ∧ ((∃ i o1 c1 o2 c2, i < qa ∧ e = .returned (.tuple #[.slice o1 (32 + LA i) c1, .slice o2 (32 + LB i) c2, .bool true]) ∧ Bytes w' o1 (32 + LA i) (catF 32 (hs n K LA GA i) (GA i)) ∧ Bytes w' o2 (32 + LB i) (catF 32 (hs n K LB GB i) (GB i)) ∧ 32 + LA i ≤ c1 ∧ 32 + LB i ≤ c2 ∧ tx n K LA GA i ≠ tx n K LB GB i ∧ qa = qb ∧ eqS (hs n K LA GA qa) (hs n K LB GB qb) = true ∧ eqS (hs n K LA GA (i + 1)) (hs n K LB GB (i + 1)) = true)
    ∨ (e = .returned (.tuple #[.slice none 0 0, .slice none 0 0, .bool false]) ∧ (¬ (qa = qb ∧ eqS (hs n K LA GA qa) (hs n K LB GB qb) = true) ∨ Same qa qb LA LB GA GB)))
set_option maxRecDepth 100000 in
set_option maxHeartbeats 8000000 in
theorem apart_any (oa : Option Addr) (n cn : Nat) (K : Nat → Nat) (op : Option Addr) (qa ca : Nat) (LA : Nat → Nat) (GA : Nat → Nat → Nat) (oq : Option Addr) (qb cb : Nat) (LB : Nat → Nat) (GB : Nat → Nat → Nat) (w : World) (hK : Bytes w oa n K) (hnc : n ≤ cn) (hno : oa = none → n = 0) (hn : n < 100000000) (hA : LBs w op qa LA GA) (hqa : qa ≤ 100) (hla : ∀ i, i < qa → LA i ≤ 100000) (hB : LBs w oq qb LB GB) (hqb : qb ≤ 100) (hlb : ∀ i, i < qb → LB i ≤ 100000) (hg : GV w) :
    Calls Tryd.prog 38 #[.slice oa n cn, .slice op qa ca, .slice oq qb cb] w (ApA n K qa LA GA qb LB GB w) := by
  have HKB : Hid (∀ w', Below w.heap.size w w' → Bytes w' oa n K) := Lib.hid fun w' h => hK.later h
  have HAB : Hid (∀ w', Below w.heap.size w w' → LBs w' op qa LA GA) := Lib.hid fun w' h => hA.later h
  have HBB : Hid (∀ w', Below w.heap.size w w' → LBs w' oq qb LB GB) := Lib.hid fun w' h => hB.later h
  have HNM : Hid (n ≤ cn ∧ n < 100000000 ∧ (oa = none → n = 0) ∧ qa ≤ 100 ∧ qb ≤ 100 ∧ (∀ i, i < qa → LA i ≤ 100000) ∧ ∀ i, i < qb → LB i ≤ 100000) := Lib.hid ⟨hnc, hn, hno, hqa, hqb, hla, hlb⟩
  have hc1 := heads_any oa n cn K op qa ca LA GA w hK hnc hno hn hA hqa hla hg
  have HG := Lib.hid hg
  have q0 : (qa : Int) ≤ 9223372036854775807 := by omega
  have q1 : (qb : Int) ≤ 9223372036854775807 := by omega
  clear hK hnc hno hn hA hqa hla hB hqb hlb hg
  go_enter Tryd.func38, Tryd.ntmps38
  go_wp2_with fail
  refine hc1.mono ?_
  clear hc1
  rintro e w1 ⟨b1, c1, rfl, hc1, hR1, hb1⟩
  have hc2 := heads_any oa n cn K oq qb cb LB GB w1 (HKB.out _ hb1) HNM.out.1 HNM.out.2.2.1 HNM.out.2.1 (HBB.out _ hb1) HNM.out.2.2.2.2.1 HNM.out.2.2.2.2.2.2 (HG.out.later hb1)
  have HR1 := Lib.hid hR1
  have HC1 := Lib.hid hc1
  have HO1 := Lib.hid hb1
  clear hR1 hc1 hb1
  go_wp2_with fail
  refine hc2.mono ?_
  clear hc2
  rintro e w2 ⟨b2, c2, rfl, hc2, hR2, hb2⟩
  have H2 : Hid (HR w2 b1 qa (hs n K LA GA) ∧ HR w2 b2 qb (hs n K LB GB) ∧ Below w.heap.size w w2 ∧ qa + 1 ≤ c1 ∧ qb + 1 ≤ c2) := Lib.hid ⟨HR1.out.later hb2, hR2, HO1.out.trans (hb2.mono HO1.out.size), HC1.out, hc2⟩
  clear hR2 hb2 hc2 HR1 HC1 HO1
  obtain ⟨CA, hCA⟩ : ∃ C, (hdL qa (hs n K LA GA qa)).toArray = C := ⟨_, rfl⟩
  obtain ⟨CB, hCB⟩ : ∃ C, (hdL qb (hs n K LB GB qb)).toArray = C := ⟨_, rfl⟩
  obtain ⟨r, hr⟩ : ∃ r, (decide (qa = qb) && eqS (hs n K LA GA qa) (hs n K LB GB qb)) = r := ⟨_, rfl⟩
  have HIA : Hid ((Tryd.prog.info? 65).map (·.size) = some (hdL qa (hs n K LA GA qa)).length) := Lib.hid (by rw [hdL_len]; exact info_h1)
  have HIB : Hid ((Tryd.prog.info? 65).map (·.size) = some (hdL qb (hs n K LB GB qb)).length) := Lib.hid (by rw [hdL_len]; exact info_h1)
  have HEQ : Hid (∀ w, (Op.equalIn 10000 65 (.agg CA) (.agg CB)).run Tryd.prog w = .ok r w) := Lib.hid fun w => by rw [← hCA, ← hCB, ← hr]; exact eq_h1 _ _ _ _ w
  have HCA := Lib.hid hCA
  have HCB := Lib.hid hCB
  have HRR := Lib.hid hr
  have HLA : Hid (∀ (a : Act) (o : Oper), o.op = .load 65 (.tmp 23) → a.eval (.tmp 23) = .pointer (some ⟨b1, qa * 33, none⟩) → (execOp a.eval o).run Tryd.prog w2.drew = .ok (.value (.agg CA)) w2.drew) := Lib.hid fun a o h1 h2 => by
    have h := exec_loadM (cs := hdL qa (hs n K LA GA qa)) h1 h2 (show w2.drew.rangeAt b1 (qa * 33) _ from H2.out.1 qa (Nat.le_refl _)) Tryd.underlying65 rfl HIA.out
    rw [HCA.out] at h; exact h
  have HLB : Hid (∀ (a : Act) (o : Oper), o.op = .load 65 (.tmp 28) → a.eval (.tmp 28) = .pointer (some ⟨b2, qb * 33, none⟩) → (execOp a.eval o).run Tryd.prog w2.drew = .ok (.value (.agg CB)) w2.drew) := Lib.hid fun a o h1 h2 => by
    have h := exec_loadM (cs := hdL qb (hs n K LB GB qb)) h1 h2 (show w2.drew.rangeAt b2 (qb * 33) _ from H2.out.2.1 qb (Nat.le_refl _)) Tryd.underlying65 rfl HIB.out
    rw [HCB.out] at h; exact h
  have i1 : (0 : Int) ≤ (qa : Int) := by omega
  have i2 : (qa : Int) < (qa : Int) + 1 := by omega
  have i3 : (0 : Int) ≤ (qb : Int) := by omega
  have i4 : (qb : Int) < (qb : Int) + 1 := by omega
  have i5 : (qa : Int) < ((qa + 1 : Nat) : Int) := by omega
  have i6 : (qb : Int) < ((qb + 1 : Nat) : Int) := by omega
  have HD : Hid (HR w2.drew b1 qa (hs n K LA GA) ∧ HR w2.drew b2 qb (hs n K LB GB) ∧ Below w.heap.size w w2.drew) := Lib.hid ⟨H2.out.1, H2.out.2.1, H2.out.2.2.1.drew⟩
  have HCC : Hid (qa + 1 ≤ c1 ∧ qb + 1 ≤ c2) := Lib.hid H2.out.2.2.2
  clear hCA hCB hr H2
  cases r with
  | false =>
    go_wp2_with fail
    refine WS.lit (by kernel_rfl) (by kernel_rfl) ?_
    generalize w2.drew = W0 at *
    refine WS.val (v := ?_) (by kernel_rfl) ?_ ?_
    rotate_left
    · go_simp
      (try with_reducible rfl)
    (try simp only [Act.put, List.setIfInBounds_toArray, List.set_cons_zero, List.set_cons_succ])
    refine WS.val (v := ?_) (by kernel_rfl) ?_ ?_
    rotate_left
    · go_simp
      (try with_reducible rfl)
    (try simp only [Act.put, List.setIfInBounds_toArray, List.set_cons_zero, List.set_cons_succ])
    refine WS.val (v := ?_) (by kernel_rfl) ?_ ?_
    rotate_left
    · go_simp
      (try with_reducible rfl)
    (try simp only [Act.put, List.setIfInBounds_toArray, List.set_cons_zero, List.set_cons_succ])
    refine WS.val (v := ?_) (by kernel_rfl) ?_ ?_
    rotate_left
    · go_simp
      (try with_reducible rfl)
    (try simp only [Act.put, List.setIfInBounds_toArray, List.set_cons_zero, List.set_cons_succ])
    refine WS.val (by kernel_rfl) (HLA.out _ _ rfl rfl) ?_
    (try simp only [Act.put, List.setIfInBounds_toArray, List.set_cons_zero, List.set_cons_succ])
    refine WS.val (v := ?_) (by kernel_rfl) ?_ ?_
    rotate_left
    · go_simp
      (try with_reducible rfl)
    (try simp only [Act.put, List.setIfInBounds_toArray, List.set_cons_zero, List.set_cons_succ])
    refine WS.val (v := ?_) (by kernel_rfl) ?_ ?_
    rotate_left
    · go_simp
      (try with_reducible rfl)
    (try simp only [Act.put, List.setIfInBounds_toArray, List.set_cons_zero, List.set_cons_succ])
    refine WS.val (v := ?_) (by kernel_rfl) ?_ ?_
    rotate_left
    · go_simp
      (try with_reducible rfl)
    (try simp only [Act.put, List.setIfInBounds_toArray, List.set_cons_zero, List.set_cons_succ])
    refine WS.val (v := ?_) (by kernel_rfl) ?_ ?_
    rotate_left
    · go_simp
      (try with_reducible rfl)
    (try simp only [Act.put, List.setIfInBounds_toArray, List.set_cons_zero, List.set_cons_succ])
    refine WS.val (by kernel_rfl) (HLB.out _ _ rfl rfl) ?_
    (try simp only [Act.put, List.setIfInBounds_toArray, List.set_cons_zero, List.set_cons_succ])
    refine WS.val (by kernel_rfl) (exec_neqM (r := 65) (x := .tmp 24) (y := .tmp 29) guard_h1 rfl rfl rfl HEQ.out) ?_
    (try simp only [Act.put, List.setIfInBounds_toArray, List.set_cons_zero, List.set_cons_succ])
    refine WS.nil ?_
    go_wp2_with fail
    go_ret3
    refine ⟨HD.out.2.2, .inr ⟨rfl, .inl fun h => ?_⟩⟩
    have := HRR.out
    rw [h.2, show decide (qa = qb) = true from decide_eq_true h.1] at this
    cases this
  | true =>
    go_wp2_with fail
    refine WS.lit (by kernel_rfl) (by kernel_rfl) ?_
    generalize w2.drew = W0 at *
    refine WS.val (v := ?_) (by kernel_rfl) ?_ ?_
    rotate_left
    · go_simp
      (try with_reducible rfl)
    (try simp only [Act.put, List.setIfInBounds_toArray, List.set_cons_zero, List.set_cons_succ])
    refine WS.val (v := ?_) (by kernel_rfl) ?_ ?_
    rotate_left
    · go_simp
      (try with_reducible rfl)
    (try simp only [Act.put, List.setIfInBounds_toArray, List.set_cons_zero, List.set_cons_succ])
    refine WS.val (v := ?_) (by kernel_rfl) ?_ ?_
    rotate_left
    · go_simp
      (try with_reducible rfl)
    (try simp only [Act.put, List.setIfInBounds_toArray, List.set_cons_zero, List.set_cons_succ])
    refine WS.val (v := ?_) (by kernel_rfl) ?_ ?_
    rotate_left
    · go_simp
      (try with_reducible rfl)
    (try simp only [Act.put, List.setIfInBounds_toArray, List.set_cons_zero, List.set_cons_succ])
    refine WS.val (by kernel_rfl) (HLA.out _ _ rfl rfl) ?_
    (try simp only [Act.put, List.setIfInBounds_toArray, List.set_cons_zero, List.set_cons_succ])
    refine WS.val (v := ?_) (by kernel_rfl) ?_ ?_
    rotate_left
    · go_simp
      (try with_reducible rfl)
    (try simp only [Act.put, List.setIfInBounds_toArray, List.set_cons_zero, List.set_cons_succ])
    refine WS.val (v := ?_) (by kernel_rfl) ?_ ?_
    rotate_left
    · go_simp
      (try with_reducible rfl)
    (try simp only [Act.put, List.setIfInBounds_toArray, List.set_cons_zero, List.set_cons_succ])
    refine WS.val (v := ?_) (by kernel_rfl) ?_ ?_
    rotate_left
    · go_simp
      (try with_reducible rfl)
    (try simp only [Act.put, List.setIfInBounds_toArray, List.set_cons_zero, List.set_cons_succ])
    refine WS.val (v := ?_) (by kernel_rfl) ?_ ?_
    rotate_left
    · go_simp
      (try with_reducible rfl)
    (try simp only [Act.put, List.setIfInBounds_toArray, List.set_cons_zero, List.set_cons_succ])
    refine WS.val (by kernel_rfl) (HLB.out _ _ rfl rfl) ?_
    (try simp only [Act.put, List.setIfInBounds_toArray, List.set_cons_zero, List.set_cons_succ])
    refine WS.val (by kernel_rfl) (exec_neqM (r := 65) (x := .tmp 24) (y := .tmp 29) guard_h1 rfl rfl rfl HEQ.out) ?_
    (try simp only [Act.put, List.setIfInBounds_toArray, List.set_cons_zero, List.set_cons_succ])
    refine WS.nil ?_
    have hR := HRR.out
    rw [Bool.and_eq_true] at hR
    obtain ⟨hqq, hee⟩ := hR
    obtain rfl : qa = qb := of_decide_eq_true hqq
    have q2 : IntKind.i64.wrap ((qa : Int) - 1) = (qa : Int) - 1 := IntWalk.i64_in _ (by have := HNM.out; omega)
    have HE := Lib.hid hee
    clear hqq hee i1 i2 i3 i4 i5 i6
    go_wp2_with fail
    go_loopw [11] (fun x wr => ∃ k : Nat, k ≤ qa ∧ x = .int .i64 ((k : Int) - 1) ∧ eqS (hs n K LA GA k) (hs n K LB GB k) = true ∧ (∀ t, k ≤ t → t < qa → LA t = LB t ∧ ∀ j, j < LA t → GA t j = GB t j) ∧ HR wr b1 qa (hs n K LA GA) ∧ HR wr b2 qa (hs n K LB GB) ∧ Below w.heap.size w wr) (fun x _ => (intOf x + 1).toNat)
    case atStart => exact ⟨qa, Nat.le_refl _, rfl, HE.out, fun t h1 h2 => absurd h1 (Nat.not_le.2 h2), HD.out⟩
    case round =>
      obtain ⟨k, hk, rfl, hek, hsm, hX⟩ := hrel
      have HX := Lib.hid hX
      have HS := Lib.hid hsm
      have HEK := Lib.hid hek
      clear hX hsm hek
      rcases Nat.eq_zero_or_pos k with rfl | hk0
      · have e1 : ((0 : Nat) : Int) - 1 = -1 := by omega
        rw [e1]
        go_wp2_with fail
        go_ret3
        exact ⟨HX.out.2.2, .inr ⟨rfl, .inr ⟨rfl, fun i hi => HS.out i (Nat.zero_le _) hi⟩⟩⟩
      · obtain ⟨d, rfl⟩ : ∃ d, k = d + 1 := ⟨k - 1, by omega⟩
        as_aux_lemma =>
        have e1 : ((d + 1 : Nat) : Int) - 1 = (d : Int) := by omega
        rw [e1]
        have HDQ : Hid (d < qa) := Lib.hid (by omega)
        have i1 : (0 : Int) ≤ (d : Int) := by omega
        have i2 : (d : Int) < (qa : Int) + 1 := by omega
        have i3 : (d : Int) < (qa : Int) := by omega
        have i5 : (d : Int) < ((qa + 1 : Nat) : Int) := by omega
        have q3 : IntKind.i64.wrap ((d : Int) - 1) = (d : Int) - 1 := IntWalk.i64_in _ (by have := HNM.out; omega)
        obtain ⟨xb, xo, od1, cp1, rfl, hcA, hlA, hbA, hoA, _⟩ := HAB.out w (Below.refl _ _) d HDQ.out
        obtain ⟨yb, yo, od2, cp2, rfl, hcB, hlB, hbB, hoB, _⟩ := HBB.out w (Below.refl _ _) d HDQ.out
        have HA1 : Hid (∀ w', Below w.heap.size w w' → w'.cell? ⟨xb, xo + d, none⟩ = some (.slice od1 (LA d) cp1) ∧ Bytes w' od1 (LA d) (GA d)) := Lib.hid fun w' h => ⟨cell_below h hcA, hbA.later h⟩
        have HB1 : Hid (∀ w', Below w.heap.size w w' → w'.cell? ⟨yb, yo + d, none⟩ = some (.slice od2 (LB d) cp2) ∧ Bytes w' od2 (LB d) (GB d)) := Lib.hid fun w' h => ⟨cell_below h hcB, hbB.later h⟩
        have HLL : Hid (LA d ≤ cp1 ∧ LB d ≤ cp2 ∧ (od1 = none → LA d = 0) ∧ (od2 = none → LB d = 0) ∧ LA d ≤ 100000 ∧ LB d ≤ 100000 ∧ (∀ k, k < LA d → GA d k < 256) ∧ ∀ k, k < LB d → GB d k < 256) := Lib.hid ⟨hlA, hlB, hoA, hoB, HNM.out.2.2.2.2.2.1 d HDQ.out, HNM.out.2.2.2.2.2.2 d HDQ.out, fun k hk => (hbA k hk).1, fun k hk => (hbB k hk).1⟩
        obtain ⟨m1, hm1⟩ : ∃ x, LA d = x := ⟨_, rfl⟩
        obtain ⟨m2, hm2⟩ : ∃ x, LB d = x := ⟨_, rfl⟩
        obtain ⟨M1, hM1⟩ : ∃ x, GA d = x := ⟨_, rfl⟩
        obtain ⟨M2, hM2⟩ : ∃ x, GB d = x := ⟨_, rfl⟩
        obtain ⟨Z1, hZ1⟩ : ∃ x, hs n K LA GA d = x := ⟨_, rfl⟩
        obtain ⟨Z2, hZ2⟩ : ∃ x, hs n K LB GB d = x := ⟨_, rfl⟩
        obtain ⟨C1, hC1⟩ : ∃ C, (hdL d Z1).toArray = C := ⟨_, rfl⟩
        obtain ⟨C2, hC2⟩ : ∃ C, (hdL d Z2).toArray = C := ⟨_, rfl⟩
        rw [hm1, hM1] at HA1
        rw [hm2, hM2] at HB1
        have HMM : Hid (LA d = m1 ∧ LB d = m2 ∧ GA d = M1 ∧ GB d = M2 ∧ hs n K LA GA d = Z1 ∧ hs n K LB GB d = Z2) := Lib.hid ⟨hm1, hm2, hM1, hM2, hZ1, hZ2⟩
        have HBO : Hid (∀ w', Below wr.heap.size wr w' → Below w.heap.size w w') := Lib.hid fun w' h => HX.out.2.2.trans (h.mono HX.out.2.2.size)
        have HL1 : Hid (∀ (a : Act) (o : Oper) (w' : World), Below wr.heap.size wr w' → o.op = .load 65 (.tmp 40) → a.eval (.tmp 40) = .pointer (some ⟨b1, d * 33, none⟩) → (execOp a.eval o).run Tryd.prog w' = .ok (.value (.agg C1)) w') := Lib.hid fun a o w' h0 h1 h2 => by
          have hr := HX.out.1.later h0 d (Nat.le_of_lt HDQ.out)
          rw [hZ1] at hr
          have h := exec_loadM (cs := hdL d Z1) h1 h2 hr Tryd.underlying65 rfl (by rw [hdL_len]; exact info_h1)
          rw [hC1] at h; exact h
        have HL2 : Hid (∀ (a : Act) (o : Oper) (w' : World), Below wr.heap.size wr w' → o.op = .load 65 (.tmp 49) → a.eval (.tmp 49) = .pointer (some ⟨b2, d * 33, none⟩) → (execOp a.eval o).run Tryd.prog w' = .ok (.value (.agg C2)) w') := Lib.hid fun a o w' h0 h1 h2 => by
          have hr := HX.out.2.1.later h0 d (Nat.le_of_lt HDQ.out)
          rw [hZ2] at hr
          have h := exec_loadM (cs := hdL d Z2) h1 h2 hr Tryd.underlying65 rfl (by rw [hdL_len]; exact info_h1)
          rw [hC2] at h; exact h
        have HS1 : Hid (∀ w', Below wr.heap.size wr w' → Calls Tryd.prog 74 #[.agg C1, .slice od1 m1 cp1] w' fun e w'' => ∃ o c, e = .returned (.slice o (32 + m1) c) ∧ Bytes w'' o (32 + m1) (catF 32 Z1 M1) ∧ 32 + m1 ≤ c ∧ o ≠ none ∧ Below w'.heap.size w' w'') := Lib.hid fun w' h => by
          rw [← hC1]; exact summed_any d Z1 od1 m1 cp1 M1 w' (fun i _ => by rw [← hZ1]; exact hs_lt _ _ _ _ _ _) (HA1.out _ (HBO.out _ h)).2 (by rw [← hm1]; exact HLL.out.2.2.1) (by have := HLL.out; omega)
        have HS2 : Hid (∀ w', Below wr.heap.size wr w' → Calls Tryd.prog 74 #[.agg C2, .slice od2 m2 cp2] w' fun e w'' => ∃ o c, e = .returned (.slice o (32 + m2) c) ∧ Bytes w'' o (32 + m2) (catF 32 Z2 M2) ∧ 32 + m2 ≤ c ∧ o ≠ none ∧ Below w'.heap.size w' w'') := Lib.hid fun w' h => by
          rw [← hC2]; exact summed_any d Z2 od2 m2 cp2 M2 w' (fun i _ => by rw [← hZ2]; exact hs_lt _ _ _ _ _ _) (HB1.out _ (HBO.out _ h)).2 (by rw [← hm2]; exact HLL.out.2.2.2.1) (by have := HLL.out; omega)
        have hS_0 : Below wr.heap.size wr wr.drew := (Below.refl _ _).drew
        clear hk hk0 hcA hlA hbA hoA hcB hlB hbB hoB hm1 hm2 hM1 hM2 hZ1 hZ2 hC1 hC2 e1 q2
        go_wp2_with fail
        refine wp_region_held_drew (S := (Below wr.heap.size wr)) (by kernel_rfl) ?_ (fun hHeld => ?_)
        · (try dsimp only)
          exact hS_0
        generalize wr.drew = W0 at *
        refine wpAnyH_take (i := 0) (oi := { dst := some 38, op := Go.Op.move (Go.Operand.tmp 9), type := 129, pos := "chain.go:62", after := #[], guard := none }) (v := ?_) rfl (by kernel_rfl) (by kernel_rfl) (by kernel_rfl) (fun _ _ _ h => h) (Or.inl ⟨by rfl, ?_⟩) (hS_0) ?_
        rotate_left
        · intro wS hSw
          (try dsimp only at hSw)
          go_simp
          (try with_reducible rfl)
        (try simp only [Act.put, List.setIfInBounds_toArray, List.set_cons_zero, List.set_cons_succ])
        refine wpAnyH_take (i := 1) (oi := { dst := some 39, op := Go.Op.move (Go.Operand.tmp 11), type := 3, pos := "chain.go:62", after := #[], guard := none }) (v := ?_) rfl (by kernel_rfl) (by kernel_rfl) (by kernel_rfl) (fun _ _ _ h => h) (Or.inl ⟨by rfl, ?_⟩) (hS_0) ?_
        rotate_left
        · intro wS hSw
          (try dsimp only at hSw)
          go_simp
          (try with_reducible rfl)
        (try simp only [Act.put, List.setIfInBounds_toArray, List.set_cons_zero, List.set_cons_succ])
        refine wpAnyH_take (i := 2) (oi := { dst := some 40, op := Go.Op.indexAddr 129 (Go.Operand.tmp 38) (Go.Operand.tmp 39), type := 0, pos := "chain.go:62", after := #[{ on := 0, ground := Go.Ground.data }, { on := 1, ground := Go.Ground.data }], guard := none }) (v := ?_) rfl (by kernel_rfl) (by kernel_rfl) (by kernel_rfl) (fun _ _ _ h => h) (Or.inl ⟨by rfl, ?_⟩) (hS_0) ?_
        rotate_left
        · intro wS hSw
          (try dsimp only at hSw)
          go_simp
          (try with_reducible rfl)
        (try simp only [Act.put, List.setIfInBounds_toArray, List.set_cons_zero, List.set_cons_succ])
        refine wpAnyH_take (i := 3) (oi := { dst := some 41, op := Go.Op.load 65 (Go.Operand.tmp 40), type := 65, pos := "chain.go:62", after := #[{ on := 2, ground := Go.Ground.data }], guard := none }) (v := ?_) rfl (by kernel_rfl) (by kernel_rfl) (by kernel_rfl) (fun _ _ _ h => h) (Or.inl ⟨by rfl, ?_⟩) (hS_0) ?_
        rotate_left
        · intro wS hSw
          refine HL1.out _ _ _ hSw ?_ ?_ <;> rfl
        (try simp only [Act.put, List.setIfInBounds_toArray, List.set_cons_zero, List.set_cons_succ])
        refine wpAnyH_take (i := 4) (oi := { dst := some 42, op := Go.Op.move (Go.Operand.tmp 1), type := 34, pos := "chain.go:62", after := #[], guard := none }) (v := ?_) rfl (by kernel_rfl) (by kernel_rfl) (by kernel_rfl) (fun _ _ _ h => h) (Or.inl ⟨by rfl, ?_⟩) (hS_0) ?_
        rotate_left
        · intro wS hSw
          (try dsimp only at hSw)
          go_simp
          (try with_reducible rfl)
        (try simp only [Act.put, List.setIfInBounds_toArray, List.set_cons_zero, List.set_cons_succ])
        refine wpAnyH_take (i := 5) (oi := { dst := some 43, op := Go.Op.move (Go.Operand.tmp 11), type := 3, pos := "chain.go:62", after := #[], guard := none }) (v := ?_) rfl (by kernel_rfl) (by kernel_rfl) (by kernel_rfl) (fun _ _ _ h => h) (Or.inl ⟨by rfl, ?_⟩) (hS_0) ?_
        rotate_left
        · intro wS hSw
          (try dsimp only at hSw)
          go_simp
          (try with_reducible rfl)
        (try simp only [Act.put, List.setIfInBounds_toArray, List.set_cons_zero, List.set_cons_succ])
        refine wpAnyH_take (i := 6) (oi := { dst := some 44, op := Go.Op.indexAddr 34 (Go.Operand.tmp 42) (Go.Operand.tmp 43), type := 0, pos := "chain.go:62", after := #[{ on := 4, ground := Go.Ground.data }, { on := 5, ground := Go.Ground.data }], guard := none }) (v := ?_) rfl (by kernel_rfl) (by kernel_rfl) (by kernel_rfl) (fun _ _ _ h => h) (Or.inl ⟨by rfl, ?_⟩) (hS_0) ?_
        rotate_left
        · intro wS hSw
          (try dsimp only at hSw)
          go_simp
          (try with_reducible rfl)
        (try simp only [Act.put, List.setIfInBounds_toArray, List.set_cons_zero, List.set_cons_succ])
        refine wpAnyH_take (i := 7) (oi := { dst := some 45, op := Go.Op.load 33 (Go.Operand.tmp 44), type := 33, pos := "chain.go:62", after := #[{ on := 6, ground := Go.Ground.data }], guard := none }) (v := ?_) rfl (by kernel_rfl) (by kernel_rfl) (by kernel_rfl) (fun _ _ _ h => h) (Or.inl ⟨by rfl, ?_⟩) (hS_0) ?_
        rotate_left
        · intro wS hSw
          (have h0 := (HA1.out _ (HBO.out _ hSw)).1; go_simp; (try with_reducible rfl))
        (try simp only [Act.put, List.setIfInBounds_toArray, List.set_cons_zero, List.set_cons_succ])
        refine wpAnyH_take (i := 9) (oi := { dst := some 47, op := Go.Op.move (Go.Operand.tmp 10), type := 129, pos := "chain.go:62", after := #[], guard := none }) (v := ?_) rfl (by kernel_rfl) (by kernel_rfl) (by kernel_rfl) (fun _ _ _ h => h) (Or.inl ⟨by rfl, ?_⟩) (hS_0) ?_
        rotate_left
        · intro wS hSw
          (try dsimp only at hSw)
          go_simp
          (try with_reducible rfl)
        (try simp only [Act.put, List.setIfInBounds_toArray, List.set_cons_zero, List.set_cons_succ])
        refine wpAnyH_take (i := 10) (oi := { dst := some 48, op := Go.Op.move (Go.Operand.tmp 11), type := 3, pos := "chain.go:62", after := #[], guard := none }) (v := ?_) rfl (by kernel_rfl) (by kernel_rfl) (by kernel_rfl) (fun _ _ _ h => h) (Or.inl ⟨by rfl, ?_⟩) (hS_0) ?_
        rotate_left
        · intro wS hSw
          (try dsimp only at hSw)
          go_simp
          (try with_reducible rfl)
        (try simp only [Act.put, List.setIfInBounds_toArray, List.set_cons_zero, List.set_cons_succ])
        refine wpAnyH_take (i := 11) (oi := { dst := some 49, op := Go.Op.indexAddr 129 (Go.Operand.tmp 47) (Go.Operand.tmp 48), type := 0, pos := "chain.go:62", after := #[{ on := 9, ground := Go.Ground.data }, { on := 10, ground := Go.Ground.data }], guard := none }) (v := ?_) rfl (by kernel_rfl) (by kernel_rfl) (by kernel_rfl) (fun _ _ _ h => h) (Or.inl ⟨by rfl, ?_⟩) (hS_0) ?_
        rotate_left
        · intro wS hSw
          (try dsimp only at hSw)
          go_simp
          (try with_reducible rfl)
        (try simp only [Act.put, List.setIfInBounds_toArray, List.set_cons_zero, List.set_cons_succ])
        refine wpAnyH_take (i := 12) (oi := { dst := some 50, op := Go.Op.load 65 (Go.Operand.tmp 49), type := 65, pos := "chain.go:62", after := #[{ on := 11, ground := Go.Ground.data }], guard := none }) (v := ?_) rfl (by kernel_rfl) (by kernel_rfl) (by kernel_rfl) (fun _ _ _ h => h) (Or.inl ⟨by rfl, ?_⟩) (hS_0) ?_
        rotate_left
        · intro wS hSw
          refine HL2.out _ _ _ hSw ?_ ?_ <;> rfl
        (try simp only [Act.put, List.setIfInBounds_toArray, List.set_cons_zero, List.set_cons_succ])
        refine wpAnyH_take (i := 13) (oi := { dst := some 51, op := Go.Op.move (Go.Operand.tmp 2), type := 34, pos := "chain.go:62", after := #[], guard := none }) (v := ?_) rfl (by kernel_rfl) (by kernel_rfl) (by kernel_rfl) (fun _ _ _ h => h) (Or.inl ⟨by rfl, ?_⟩) (hS_0) ?_
        rotate_left
        · intro wS hSw
          (try dsimp only at hSw)
          go_simp
          (try with_reducible rfl)
        (try simp only [Act.put, List.setIfInBounds_toArray, List.set_cons_zero, List.set_cons_succ])
        refine wpAnyH_take (i := 14) (oi := { dst := some 52, op := Go.Op.move (Go.Operand.tmp 11), type := 3, pos := "chain.go:62", after := #[], guard := none }) (v := ?_) rfl (by kernel_rfl) (by kernel_rfl) (by kernel_rfl) (fun _ _ _ h => h) (Or.inl ⟨by rfl, ?_⟩) (hS_0) ?_
        rotate_left
        · intro wS hSw
          (try dsimp only at hSw)
          go_simp
          (try with_reducible rfl)
        (try simp only [Act.put, List.setIfInBounds_toArray, List.set_cons_zero, List.set_cons_succ])
        refine wpAnyH_take (i := 15) (oi := { dst := some 53, op := Go.Op.indexAddr 34 (Go.Operand.tmp 51) (Go.Operand.tmp 52), type := 0, pos := "chain.go:62", after := #[{ on := 13, ground := Go.Ground.data }, { on := 14, ground := Go.Ground.data }], guard := none }) (v := ?_) rfl (by kernel_rfl) (by kernel_rfl) (by kernel_rfl) (fun _ _ _ h => h) (Or.inl ⟨by rfl, ?_⟩) (hS_0) ?_
        rotate_left
        · intro wS hSw
          (try dsimp only at hSw)
          go_simp
          (try with_reducible rfl)
        (try simp only [Act.put, List.setIfInBounds_toArray, List.set_cons_zero, List.set_cons_succ])
        refine wpAnyH_take (i := 16) (oi := { dst := some 54, op := Go.Op.load 33 (Go.Operand.tmp 53), type := 33, pos := "chain.go:62", after := #[{ on := 15, ground := Go.Ground.data }], guard := none }) (v := ?_) rfl (by kernel_rfl) (by kernel_rfl) (by kernel_rfl) (fun _ _ _ h => h) (Or.inl ⟨by rfl, ?_⟩) (hS_0) ?_
        rotate_left
        · intro wS hSw
          (have h0 := (HB1.out _ (HBO.out _ hSw)).1; go_simp; (try with_reducible rfl))
        (try simp only [Act.put, List.setIfInBounds_toArray, List.set_cons_zero, List.set_cons_succ])
        refine wpAnyH_ready (rs := [8]) (by kernel_rfl) (by simp) ?_
        refine AllReadyH.cons (o := { dst := some 46, op := Go.Op.call { callee := Go.Callee.value (Go.Operand.func 74), args := #[Go.Operand.tmp 41, Go.Operand.tmp 45], argTypes := #[65, 33] }, type := 33, pos := "chain.go:62", after := #[{ on := 3, ground := Go.Ground.data }, { on := 7, ground := Go.Ground.data }], guard := none }) rfl (fun K hK => ?_) AllReadyH.nil
        go_simp
        (refine (HS1.out _ hS_0).mono ?_; rintro e v_1 ⟨o1, k1, rfl, hB1, hk1, ho1, hb⟩; have hS_1 := hS_0.trans (hb.mono hS_0.size); clear hb hS_0; skip)
        (try go_wp2_with fail)
        refine hK.out _ _ ?_ (fun hHeld => ?_)
        · (try dsimp only)
          exact hS_1
        clear hK K
        (try simp only [Act.put, List.setIfInBounds_toArray, List.set_cons_zero, List.set_cons_succ])
        refine wpAnyH_ready (rs := [17]) (by kernel_rfl) (by simp) ?_
        refine AllReadyH.cons (o := { dst := some 55, op := Go.Op.call { callee := Go.Callee.value (Go.Operand.func 74), args := #[Go.Operand.tmp 50, Go.Operand.tmp 54], argTypes := #[65, 33] }, type := 33, pos := "chain.go:62", after := #[{ on := 12, ground := Go.Ground.data }, { on := 16, ground := Go.Ground.data }, { on := 8, ground := Go.Ground.chain }], guard := none }) rfl (fun K hK => ?_) AllReadyH.nil
        go_simp
        (refine (HS2.out _ hS_1).mono ?_; rintro e v_2 ⟨o2, k2, rfl, hB2, hk2, ho2, hb⟩; have hS_2 := hS_1.trans (hb.mono hS_1.size); have hB1 := hB1.later hb; clear hb hS_1; skip)
        (try go_wp2_with fail)
        refine hK.out _ _ ?_ (fun hHeld => ?_)
        · (try dsimp only)
          exact hS_2
        clear hK K
        (try simp only [Act.put, List.setIfInBounds_toArray, List.set_cons_zero, List.set_cons_succ])
        refine wpAnyH_take (i := 18) (oi := { dst := some 12, op := Go.Op.assign (Go.Operand.tmp 46), type := 33, pos := "chain.go:62", after := #[{ on := 8, ground := Go.Ground.data }, { on := 17, ground := Go.Ground.chain }, { on := 0, ground := Go.Ground.phase }, { on := 1, ground := Go.Ground.phase }, { on := 2, ground := Go.Ground.phase }, { on := 3, ground := Go.Ground.phase }, { on := 4, ground := Go.Ground.phase }, { on := 5, ground := Go.Ground.phase }, { on := 6, ground := Go.Ground.phase }, { on := 7, ground := Go.Ground.phase }, { on := 8, ground := Go.Ground.phase }, { on := 9, ground := Go.Ground.textOnly Go.Departure.lateStores }, { on := 10, ground := Go.Ground.textOnly Go.Departure.lateStores }, { on := 11, ground := Go.Ground.textOnly Go.Departure.lateStores }, { on := 12, ground := Go.Ground.textOnly Go.Departure.lateStores }, { on := 13, ground := Go.Ground.textOnly Go.Departure.lateStores }, { on := 14, ground := Go.Ground.textOnly Go.Departure.lateStores }, { on := 15, ground := Go.Ground.textOnly Go.Departure.lateStores }, { on := 16, ground := Go.Ground.textOnly Go.Departure.lateStores }, { on := 17, ground := Go.Ground.textOnly Go.Departure.lateStoresUnsure }], guard := none }) (v := ?_) rfl (by kernel_rfl) (by kernel_rfl) (by kernel_rfl) (fun _ _ _ h => h) (Or.inl ⟨by rfl, ?_⟩) (hS_2) ?_
        rotate_left
        · intro wS hSw
          (try dsimp only at hSw)
          go_simp
          (try with_reducible rfl)
        (try simp only [Act.put, List.setIfInBounds_toArray, List.set_cons_zero, List.set_cons_succ])
        refine wpAnyH_take (i := 19) (oi := { dst := some 13, op := Go.Op.assign (Go.Operand.tmp 55), type := 33, pos := "chain.go:62", after := #[{ on := 17, ground := Go.Ground.data }, { on := 18, ground := Go.Ground.chain }, { on := 0, ground := Go.Ground.phase }, { on := 1, ground := Go.Ground.phase }, { on := 2, ground := Go.Ground.phase }, { on := 3, ground := Go.Ground.phase }, { on := 4, ground := Go.Ground.phase }, { on := 5, ground := Go.Ground.phase }, { on := 6, ground := Go.Ground.phase }, { on := 7, ground := Go.Ground.phase }, { on := 8, ground := Go.Ground.phase }, { on := 9, ground := Go.Ground.phase }, { on := 10, ground := Go.Ground.phase }, { on := 11, ground := Go.Ground.phase }, { on := 12, ground := Go.Ground.phase }, { on := 13, ground := Go.Ground.phase }, { on := 14, ground := Go.Ground.phase }, { on := 15, ground := Go.Ground.phase }, { on := 16, ground := Go.Ground.phase }, { on := 17, ground := Go.Ground.phase }, { on := 18, ground := Go.Ground.phase }], guard := none }) (v := ?_) rfl (by kernel_rfl) (by kernel_rfl) (by kernel_rfl) (fun _ _ _ h => h) (Or.inl ⟨by rfl, ?_⟩) (hS_2) ?_
        rotate_left
        · intro wS hSw
          (try dsimp only at hSw)
          go_simp
          (try with_reducible rfl)
        (try simp only [Act.put, List.setIfInBounds_toArray, List.set_cons_zero, List.set_cons_succ])
        refine wpAnyH_done (by kernel_rfl) ?_ _
        have H9 : Hid (Bytes v_2 o1 (32 + m1) (catF 32 Z1 M1) ∧ Bytes v_2 o2 (32 + m2) (catF 32 Z2 M2) ∧ 32 + m1 ≤ k1 ∧ 32 + m2 ≤ k2 ∧ o1 ≠ none ∧ o2 ≠ none) := Lib.hid ⟨hB1, hB2, hk1, hk2, ho1, ho2⟩
        have HS9 := Lib.hid hS_2
        obtain ⟨A, hA⟩ : ∃ x, strF (32 + m1) (catF 32 Z1 M1) = x := ⟨_, rfl⟩
        obtain ⟨B, hB⟩ : ∃ x, strF (32 + m2) (catF 32 Z2 M2) = x := ⟨_, rfl⟩
        have HTX : Hid (tx n K LA GA d = A ∧ tx n K LB GB d = B) := Lib.hid (by unfold tx; rw [HMM.out.1, HMM.out.2.1, HMM.out.2.2.1, HMM.out.2.2.2.1, HMM.out.2.2.2.2.1, HMM.out.2.2.2.2.2]; exact ⟨hA, hB⟩)
        have hq := bequal_any o1 o2 (32 + m1) k1 (32 + m2) k2 A B v_2 ⟨_, hB1, fun e => absurd e ho1, hA⟩ ⟨_, hB2, fun e => absurd e ho2, hB⟩
        clear hB1 hB2 hk1 hk2 ho1 ho2 hS_2 hA hB
        by_cases hAB : A = B
        · rw [decide_eq_true hAB] at hq
          have HQ2 := Lib.hid hq
          have HAB := Lib.hid hAB
          clear hq hAB
          go_wp2_with fail
          refine HQ2.out.mono ?_
          rintro e v_3 ⟨rfl, rfl⟩
          go_wp2_with fail
          go_roundw
          case rel =>
            obtain ⟨t1, t2, t3⟩ := tx_inj HLL.out.2.2.2.2.2.2.1 HLL.out.2.2.2.2.2.2.2 (by rw [HTX.out.1, HTX.out.2, HAB.out] : tx n K LA GA d = tx n K LB GB d)
            refine ⟨d, Nat.le_of_lt HDQ.out, by first | rfl | go_num, t1, fun t h1 h2 => ?_, HX.out.1.later HS9.out, HX.out.2.1.later HS9.out, HBO.out _ HS9.out⟩
            by_cases e : t = d
            · subst e; exact ⟨t2, t3⟩
            · exact HS.out t (by omega) h2
          case measure => simp [intOf] <;> omega
        · rw [decide_eq_false hAB] at hq
          have HQ2 := Lib.hid hq
          have HAB := Lib.hid hAB
          clear hq hAB
          go_wp2_with fail
          refine HQ2.out.mono ?_
          rintro e v_3 ⟨rfl, rfl⟩
          go_wp2_with fail
          go_ret3
          refine ⟨HBO.out _ HS9.out, .inl ⟨d, o1, k1, o2, k2, HDQ.out, ?_, ?_, ?_, ?_, ?_, ?_, rfl, HE.out, HEK.out⟩⟩
          · rw [HMM.out.1, HMM.out.2.1]; rfl
          · rw [HMM.out.1, HMM.out.2.2.1, HMM.out.2.2.2.2.1]; exact H9.out.1
          · rw [HMM.out.2.1, HMM.out.2.2.2.1, HMM.out.2.2.2.2.2]; exact H9.out.2.1
          · rw [HMM.out.1]; exact H9.out.2.2.1
          · rw [HMM.out.2.1]; exact H9.out.2.2.2.1
          · rw [HTX.out.1, HTX.out.2]; exact HAB.out
end Go.Proofs.YtmabhjifldafaaaDoor
