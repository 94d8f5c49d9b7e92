/- A secret's bytes: what is read of them. -/
import Derived.Test.YtkaddilgegimjaaDoorEm0
import Derived.Test.YtkaddilgegimjaaDoorEd1
namespace Go.Proofs.YtkaddilgegimjaaDoor
set_option linter.unusedVariables false
set_option linter.unusedSimpArgs false
open Go.RowKit

/-- What is read where enough is there. -/
theorem vl_in {F : Nat → Nat} {N p k : Nat} (h : p + k ≤ N) : vl F N p k = beX F p k := by
  have e : gotF F N p k = fun i => F (p + i) := by funext i; unfold gotF; rw [if_pos (by omega)]
  unfold vl; rw [e]; exact beX_from k
theorem vl_one {F : Nat → Nat} {N p : Nat} (h : p + 1 ≤ N) : vl F N p 1 = F p := by
  rw [vl_in h]; show 0 * 256 + F (p + 0) = F p; simp
theorem nxt_in {N p k : Nat} (h : p + k ≤ N) : nxt N p k = p + k := if_pos (by omega)
theorem bd_in {N p k : Nat} {bad : Bool} (h : p + k ≤ N) : bd N p k bad = bad := if_pos (by omega)
theorem bd_out {N p k : Nat} {bad : Bool} (h : N - p < k) : bd N p k bad = true := if_neg (by omega)
theorem bd_true {N p k : Nat} : bd N p k true = true := by unfold bd; split <;> rfl
theorem nxt_le {N p k : Nat} (h : p ≤ N) : nxt N p k ≤ N := by unfold nxt; split <;> omega
theorem dcN_in {F : Nat → Nat} {N p k : Nat} {bad : Bool} (h : p + k ≤ N) : dcN F N ⟨p, bad⟩ k = ⟨p + k, bad⟩ := by
  unfold dcN; simp only [nxt_in h, bd_in h]
theorem dcN_bad {F : Nat → Nat} {N k : Nat} {d : Dec} (h : d.bad = true) : (dcN F N d k).bad = true := by
  unfold dcN; simp only [h, bd_true]
theorem dcN_out {F : Nat → Nat} {N k : Nat} {d : Dec} (h : N - d.p < k) : (dcN F N d k).bad = true := by
  unfold dcN; simp only [bd_out h]
theorem dB_bad {F : Nat → Nat} {N : Nat} {d : Dec} (h : d.bad = true) : (dB F N d).bad = true := dcN_bad (dcN_bad (dcN_bad (dcN_bad h)))
/-- A number comes back from its bytes. -/
theorem beX_num {F : Nat → Nat} {p x k : Nat} (hF : ∀ i, i < k → F (p + i) = numB x k i) (hx : x < 256 ^ k) : beX F p k = x := by
  have h : ∀ j, j ≤ k → beX F p j = x / 256 ^ (k - j) := by
    intro j
    induction j with
    | zero => intro _; rw [Nat.sub_zero, Nat.div_eq_of_lt hx]; rfl
    | succ j ih =>
      intro hj
      show beX F p j * 256 + F (p + j) = _
      rw [ih (by omega), hF j (by omega)]
      unfold numB
      have e : k - j = (k - 1 - j) + 1 := by omega
      rw [e, Nat.pow_succ, ← Nat.div_div_eq_div_mul, show k - (j + 1) = k - 1 - j by omega]
      omega
  have := h k (Nat.le_refl _)
  rw [this, Nat.sub_self, Nat.pow_zero, Nat.div_one]

/-- Behind a version that is there whole; behind one that is not. -/
theorem dS_in {F : Nat → Nat} {N p : Nat} (h : p + 10 ≤ N) : dS F N ⟨p, false⟩ = ⟨p + 9, false⟩ := by
  unfold dS dA; rw [dcN_in (p := p) (k := 8) (by omega), dcN_in (p := p + 8) (k := 1) (by omega)]
theorem dL_in {F : Nat → Nat} {N p : Nat} (h : p + 10 ≤ N) : dL F N ⟨p, false⟩ = F (p + 9) := by
  unfold dL; rw [dS_in h]; exact vl_one (by show p + 9 + 1 ≤ N; omega)
theorem dB_in {F : Nat → Nat} {N p : Nat} (h : p + 10 ≤ N) (hl : F (p + 9) ≤ N - p - 10) : dB F N ⟨p, false⟩ = ⟨p + 10 + F (p + 9), false⟩ := by
  unfold dB; rw [dL_in h, dS_in h, dcN_in (p := p + 9) (k := 1) (by omega), dcN_in (p := p + 9 + 1) (by omega)]
theorem dB_short {F : Nat → Nat} {N p : Nat} (h : N - p < 10) : (dB F N ⟨p, false⟩).bad = true := by
  unfold dB
  refine dcN_bad ?_
  by_cases h8 : p + 8 ≤ N
  · by_cases h9 : p + 9 ≤ N
    · have e : dS F N ⟨p, false⟩ = ⟨p + 9, false⟩ := by unfold dS dA; rw [dcN_in h8, dcN_in (p := p + 8) (k := 1) (by omega)]
      rw [e]; exact dcN_out (by show N - (p + 9) < 1; omega)
    · refine dcN_bad ?_
      unfold dS dA; rw [dcN_in h8]; exact dcN_out (by show N - (p + 8) < 1; omega)
  · refine dcN_bad (dcN_bad ?_)
    exact dcN_out (by show N - p < 8; omega)
theorem dB_long {F : Nat → Nat} {N p : Nat} (h : p + 10 ≤ N) (hl : N - p - 10 < F (p + 9)) : (dB F N ⟨p, false⟩).bad = true := by
  unfold dB; rw [dL_in h, dS_in h, dcN_in (p := p + 9) (k := 1) (by omega)]; exact dcN_out (by show N - (p + 9 + 1) < _; omega)
theorem dK_bad {F : Nat → Nat} {N : Nat} {b : Bool} {j : Nat} (h : (dK F N b j).bad = true) : ∀ {k : Nat}, j ≤ k → (dK F N b k).bad = true
  | 0, hk => by obtain rfl : j = 0 := by omega
                exact h
  | k + 1, hk => by
    rcases Nat.lt_or_ge k j with h1 | h1
    · obtain rfl : j = k + 1 := by omega
      exact h
    · exact dB_bad (dK_bad h h1)
theorem not_ok_of_bad {F : Nat → Nat} {N : Nat} {b : Bool} {j : Nat} (h : (dK F N b j).bad = true) (hj : j ≤ dCnt F N b) : ¬ DecOk F N b := fun hd => by
  have h1 := hd.1
  rw [dK_bad h hj] at h1
  exact Bool.false_ne_true h1
theorem d4_in {F : Nat → Nat} {N : Nat} (h : 8 ≤ N) : d1 F N true = ⟨2, false⟩ ∧ d2 F N true = ⟨3, false⟩ ∧ d3 F N true = ⟨7, false⟩ ∧ d4 F N true = ⟨8, false⟩ := by
  have e1 : d1 F N true = ⟨2, false⟩ := by unfold d1; rw [nxt_in (by omega), bd_in (by omega)]; rfl
  have e2 : d2 F N true = ⟨3, false⟩ := by unfold d2; rw [e1, dcN_in (by omega)]
  have e3 : d3 F N true = ⟨7, false⟩ := by unfold d3; rw [e2, dcN_in (by omega)]
  exact ⟨e1, e2, e3, by unfold d4; rw [e3, dcN_in (by omega)]⟩
theorem head_in {F : Nat → Nat} {N : Nat} (h : 8 ≤ N) : dMax F N true = F 2 ∧ dLast F N true = beX F 3 4 ∧ dCnt F N true = F 7 := by
  obtain ⟨e1, e2, e3, _⟩ := d4_in (F := F) h
  exact ⟨by unfold dMax; rw [e1]; exact vl_one (by show 2 + 1 ≤ N; omega), by unfold dLast; rw [e2]; exact vl_in (by show 3 + 4 ≤ N; omega), by unfold dCnt; rw [e3]; exact vl_one (by show 7 + 1 ≤ N; omega)⟩
theorem not_ok_mark {F : Nat → Nat} {N : Nat} : ¬ DecOk F N false := by
  refine not_ok_of_bad (j := 0) ?_ (Nat.zero_le _)
  refine dcN_bad (F := F) (dcN_bad (F := F) (dcN_bad (F := F) ?_))
  simp [d1]
theorem not_ok_short {F : Nat → Nat} {N : Nat} {b : Bool} (h : N < 8) : ¬ DecOk F N b := by
  refine not_ok_of_bad (j := 0) ?_ (Nat.zero_le _)
  show (d4 F N b).bad = true
  unfold d4 d3 d2
  by_cases h2 : 2 ≤ N
  · have p1 : (d1 F N b).p = 2 := nxt_in (by omega)
    by_cases h3 : 3 ≤ N
    · have p2 : (dcN F N (d1 F N b) 1).p = 3 := by show nxt N (d1 F N b).p 1 = 3; rw [p1]; exact nxt_in (by omega)
      by_cases h7 : 7 ≤ N
      · have p3 : (dcN F N (dcN F N (d1 F N b) 1) 4).p = 7 := by show nxt N (dcN F N (d1 F N b) 1).p 4 = 7; rw [p2]; exact nxt_in (by omega)
        exact dcN_out (by rw [p3]; omega)
      · exact dcN_bad (dcN_out (by rw [p2]; omega))
    · exact dcN_bad (dcN_bad (dcN_out (by rw [p1]; omega)))
  · refine dcN_bad (dcN_bad (dcN_bad ?_))
    unfold d1; rw [bd_out (by omega)]; rfl
/-- A version that is there whole, as it is read. -/
theorem dV_in {F : Nat → Nat} {N k p : Nat} {b : Bool} (e : dK F N b k = ⟨p, false⟩) (h : p + 10 ≤ N) (hl : F (p + 9) ≤ N - p - 10) :
    dV F N b k = ⟨(dLast F N b + 4294967296 - dCnt F N b + 1 + k) % 4294967296, F (p + 9), fun i => F (p + 10 + i), beX F p 8, (F (p + 8) : Nat)⟩ := by
  show (⟨_, dL F N (dK F N b k), gotF F N (nxt N (dS F N (dK F N b k)).p 1) (dL F N (dK F N b k)), vl F N (dK F N b k).p 8, (vl F N (dA F N (dK F N b k)).p 1 : Nat)⟩ : Ver) = _
  have e1 : gotF F N (nxt N (p + 9) 1) (F (p + 9)) = fun i => F (p + 10 + i) := by
    funext i
    rw [nxt_in (by omega)]
    unfold gotF; rw [if_pos (by omega)]
  have e2 : vl F N p 8 = beX F p 8 := vl_in (by omega)
  have e3 : vl F N (dA F N ⟨p, false⟩).p 1 = F (p + 8) := by
    unfold dA; rw [dcN_in (p := p) (k := 8) (by omega)]; exact vl_one (by show p + 8 + 1 ≤ N; omega)
  rw [e, dL_in h, dS_in h]
  show (⟨_, F (p + 9), gotF F N (nxt N (p + 9) 1) (F (p + 9)), vl F N p 8, (vl F N (dA F N ⟨p, false⟩).p 1 : Nat)⟩ : Ver) = _
  rw [e1, e2, e3]

/-- A secret's bytes, read: whatever stands behind them. -/
theorem enc_read {F : Nat → Nat} {N n last max : Nat} {V : Nat → Ver} (hS : SecOk n last (max : Int) V) (hl : last < 4294967296) (hN : encL V n ≤ N) (hF : ∀ i, i < encL V n → F i = encF n last max V n i) (ht : ∀ i, i < n → (V i).t < 18446744073709551616) :
    dMax F N true = max ∧ dLast F N true = last ∧ dCnt F N true = n ∧ (∀ k, k ≤ n → dK F N true k = ⟨encL V k, false⟩) ∧ ∀ k, k < n → (dV F N true k).n = (V k).n ∧ (dV F N true k).len = (V k).len ∧ (∀ i, i < (V k).len → (dV F N true k).f i = (V k).f i) ∧ (dV F N true k).t = (V k).t ∧ (dV F N true k).st = (V k).st := by
  have h8 : 8 ≤ encL V n := encL_ge
  obtain ⟨a1, a2, a3⟩ := head_in (F := F) (N := N) (by omega)
  have hh : ∀ i, i < 8 → F i = headF n last max i := fun i hi => by rw [hF i (by omega), encF_head hi]
  have b1 : F 2 = max := hh 2 (by omega)
  have b3 : F 7 = n := hh 7 (by omega)
  have b2 : beX F 3 4 = last := beX_num (fun i hi => by
    rw [hh (3 + i) (by omega)]; unfold headF
    rw [if_neg (by omega), if_neg (by omega), if_neg (by omega), if_pos (by omega), Nat.add_sub_cancel_left]) (by omega)
  have hv : ∀ k, k < n → ∀ i, i < 10 + (V k).len → F (encL V k + i) = verF (V k) i := fun k hk i hi => by
    have := encL_mono (V := V) (show k + 1 ≤ n from hk)
    have e : encL V (k + 1) = encL V k + (10 + (V k).len) := rfl
    rw [hF _ (by omega), encF_ver hk hi]
  have hroom : ∀ k, k < n → encL V k + (10 + (V k).len) ≤ N := fun k hk => by
    have := encL_mono (V := V) (show k + 1 ≤ n from hk)
    have e : encL V (k + 1) = encL V k + (10 + (V k).len) := rfl
    omega
  have h9 : ∀ k, k < n → F (encL V k + 9) = (V k).len := fun k hk => by rw [hv k hk 9 (by omega)]; rfl
  have hK : ∀ k, k ≤ n → dK F N true k = ⟨encL V k, false⟩ := by
    intro k
    induction k with
    | zero => intro _; exact (d4_in (by omega)).2.2.2
    | succ k ih =>
      intro hk
      have h9' := h9 k (by omega)
      have hr := hroom k (by omega)
      show dB F N (dK F N true k) = _
      rw [ih (by omega), dB_in (by omega) (by omega), h9']
      show _ = (⟨encL V k + (10 + (V k).len), false⟩ : Dec)
      rw [Nat.add_assoc]
  refine ⟨by rw [a1, b1], by rw [a2, b2], by rw [a3, b3], hK, fun k hk => ?_⟩
  have h9' := h9 k hk
  have hr := hroom k hk
  have hS2 := (hS.2 k hk).1
  have hst := (hS.2 k hk).2.2.1
  have hnl := hS.1.2.2.2.2
  have h8' : F (encL V k + 8) = (V k).st.toNat := by rw [hv k hk 8 (by omega)]; rfl
  rw [dV_in (hK k (by omega)) (by omega) (by omega), a2, b2, a3, b3]
  refine ⟨by show (last + 4294967296 - n + 1 + k) % 4294967296 = _; omega, h9', fun i hi => ?_, ?_, ?_⟩
  · show F (encL V k + 10 + i) = _
    rw [Nat.add_assoc, hv k hk (10 + i) (by omega)]
    unfold verF; rw [if_neg (by omega), if_neg (by omega), if_neg (by omega), Nat.add_sub_cancel_left]
  · refine beX_num (fun i hi => ?_) (by have := ht k hk; omega)
    rw [hv k hk i (by omega)]; unfold verF; rw [if_pos hi]
  · show ((F (encL V k + 8) : Nat) : Int) = _
    rw [h8']; omega
theorem enc_ok {F : Nat → Nat} {n last max : Nat} {V : Nat → Ver} (hS : SecOk n last (max : Int) V) (hl : last < 4294967296) (hF : ∀ i, i < encL V n → F i = encF n last max V n i) (ht : ∀ i, i < n → (V i).t < 18446744073709551616) : DecOk F (encL V n) true := by
  obtain ⟨a1, a2, a3, a4, a5⟩ := enc_read hS hl (Nat.le_refl _) hF ht
  refine ⟨by rw [a3, a4 n (Nat.le_refl _)]; simp, ?_⟩
  rw [a1, a2, a3]
  refine ⟨hS.1, fun i hi => ?_⟩
  obtain ⟨c1, c2, _, _, c5⟩ := a5 i hi
  have := hS.2 i hi
  unfold VerOk at this ⊢
  rw [c1, c2, c5]; exact this
theorem enc_more {F : Nat → Nat} {n last max : Nat} {V : Nat → Ver} (hS : SecOk n last (max : Int) V) (hl : last < 4294967296) (hF : ∀ i, i < encL V n → F i = encF n last max V n i) (ht : ∀ i, i < n → (V i).t < 18446744073709551616) : ¬ DecOk F (encL V n + 1) true := fun hd => by
  obtain ⟨_, _, a3, a4, _⟩ := enc_read (N := encL V n + 1) hS hl (by omega) hF ht
  have h1 := hd.1
  rw [a3, a4 n (Nat.le_refl _)] at h1
  simp at h1
end Go.Proofs.YtkaddilgegimjaaDoor
