/- What is swept, round by round (plain mathematics). -/
import Derived.Test.YtgfjlgaleddoaaaGreatDoorLeF
namespace Go.Proofs.YtgfjlgaleddoaaaGreatDoor
set_option linter.unusedVariables false
set_option linter.unusedSimpArgs false
open Go.RowKit Go.Sort
theorem sub_lt {P : Nat → Bool} {n i : Nat} (hi : i < (fl P n).length) : (fl P n).getD i 0 < n ∧ P ((fl P n).getD i 0) = true := by
  have e : (fl P n).getD i 0 = (fl P n)[i] := by rw [List.getD_eq_getElem?_getD, List.getElem?_eq_getElem hi]; rfl
  rw [e]; exact fl_mem.1 (List.getElem_mem hi)
theorem fl_asc {P : Nat → Bool} {n i j : Nat} (h : i < j) (hj : j < (fl P n).length) : (fl P n).getD i 0 < (fl P n).getD j 0 := by
  have hp : (fl P n).Pairwise (· < ·) := List.Pairwise.filter _ List.pairwise_lt_range
  have h9 := List.pairwise_iff_getElem.1 hp i j (by omega) hj h
  rw [List.getD_eq_getElem?_getD, List.getD_eq_getElem?_getD, List.getElem?_eq_getElem (by omega), List.getElem?_eq_getElem hj]; exact h9
theorem ck_sub {n : Nat} {X : Nat → LE} (h : ckB n X = true) (P : Nat → Bool) : ckB (fl P n).length (ixL X (fl P n)) = true :=
  ck_yes (Nat.le_trans (fl_len P n) (ck_parts h).1) fun i hi => by
    have h1 := sub_lt hi
    have h2 := (ck_parts h).2 _ h1.1
    unfold stepB at h2 ⊢
    rw [Bool.and_eq_true] at h2 ⊢
    refine ⟨h2.1, ?_⟩
    rcases Nat.eq_zero_or_pos i with e | e
    · rw [decide_eq_true e]; rfl
    · have h3 := asc h _ _ (fl_asc (P := P) (n := n) (i := i - 1) (j := i) (by omega) hi) h1.1
      rw [show ltS (ixL X (fl P n) (i - 1)).id (ixL X (fl P n) i).id = true from h3, Bool.or_true]
theorem flz_sum (P : Nat → Bool) (k : Nat) : (fl (nt P) k).length + (fl P k).length = k := by
  induction k with
  | zero => rfl
  | succ k ih =>
    cases h : P k
    · rw [fl_no h, fl_yes (nt_f h), List.length_append, List.length_singleton]; omega
    · rw [fl_yes h, fl_no (nt_t h), List.length_append, List.length_singleton]; omega
theorem flz_at {P : Nat → Bool} {k n : Nat} (h : P k = true) (hk : k < n) : ∃ r, r < (fl P n).length ∧ (fl P n).getD r 0 = k := by
  obtain ⟨r, hr, e⟩ := List.mem_iff_getElem.1 (fl_mem.2 ⟨hk, h⟩)
  exact ⟨r, hr, by rw [List.getD_eq_getElem?_getD, List.getElem?_eq_getElem hr]; exact e⟩
theorem ov_half {n : Nat} {O P : Nat → Bool} : ∀ m, m ≤ n → (∀ i, i < n → P i = true → O i = true) → ((fl (nt P) m).filter O).length + (fl P m).length = (fl O m).length := by
  intro m
  induction m with
  | zero => intro _ _; rfl
  | succ m ih =>
    intro hm h
    have ih := ih (by omega) h
    cases hp : P m
    · rw [fl_yes (nt_f hp), fl_no hp, List.filter_append, List.length_append]
      cases ho : O m
      · rw [fl_no ho]; simp [ho]; omega
      · rw [fl_yes ho, List.length_append]; simp [ho]; omega
    · rw [fl_no (nt_t hp), fl_yes hp, fl_yes (h m (by omega) hp), List.length_append, List.length_append, List.length_singleton]; omega
theorem rg_count (l : List Nat) (O : Nat → Bool) : (fl (fun i => O (l.getD i 0)) l.length).length = (l.filter O).length := by
  have e : (List.range l.length).map (fun i => l.getD i 0) = l := by
    refine List.ext_getElem (by simp) fun i h1 h2 => ?_
    rw [List.getElem_map, List.getElem_range, List.getD_eq_getElem?_getD, List.getElem?_eq_getElem h2]; rfl
  have h9 : (((List.range l.length).map (fun i => l.getD i 0)).filter O).length = (l.filter O).length := by rw [e]
  rw [List.filter_map, List.length_map] at h9
  exact h9
def endF (La : Nat) (X : Nat → LE) (P : Nat → Bool) : Nat → Nat
  | 0 => La
  | k + 1 => if P k then max (endF La X P k) (X k).u else endF La X P k
theorem end_le {La n b : Nat} {X : Nat → LE} {P : Nat → Bool} (hL : La ≤ b) (h : ∀ k, k < n → P k = true → (X k).u ≤ b) : ∀ k, k ≤ n → endF La X P k ≤ b := by
  intro k
  induction k with
  | zero => intro _; exact hL
  | succ k ih =>
    intro hk
    have ih := ih (by omega)
    unfold endF
    split
    · next hp => have := h k (by omega) hp; omega
    · exact ih
theorem end_yes {La k : Nat} {X : Nat → LE} {P : Nat → Bool} (h : P k = true) : endF La X P (k + 1) = max (endF La X P k) (X k).u := by rw [endF, if_pos h]
theorem end_no {La k : Nat} {X : Nat → LE} {P : Nat → Bool} (h : P k = false) : endF La X P (k + 1) = endF La X P k := by rw [endF, h]; rfl
def idB (S : Nat → ByteArray) (t : ByteArray) (q : Nat) : Bool := (List.range q).any fun r => (S r).toList == t.toList
theorem id_succ (S : Nat → ByteArray) (t : ByteArray) (q : Nat) : idB S t (q + 1) = (idB S t q || ((S q).toList == t.toList)) := by unfold idB; rw [List.range_succ, List.any_append]; simp
theorem id_all {n k : Nat} {X : Nat → LE} {P : Nat → Bool} (h : ckB n X = true) (hk : k < n) : idB (ixS X (fl P n)) (X k).id (fl P n).length = P k := by
  rw [Bool.eq_iff_iff]
  unfold idB
  rw [List.any_eq_true]
  constructor
  · rintro ⟨r, hr, e⟩
    have hr := List.mem_range.1 hr
    have h1 := sub_lt hr
    have h2 := inj h h1.1 hk (ba_eq e)
    rw [← h2]; exact h1.2
  · intro hp
    obtain ⟨r, hr, e⟩ := flz_at hp hk
    refine ⟨r, List.mem_range.2 hr, ?_⟩
    unfold ixS; rw [e]; simp
theorem over_t {now u : Nat} (h : overB now u = true) : u ≤ now ∧ u ≠ 18446744073709551615 := by
  unfold overB at h; simpa using h
theorem over_f {now u : Nat} (h : overB now u = false) : now < u ∨ u = 18446744073709551615 := by
  unfold overB at h; simp at h; omega
/-- While it is swept. -/
structure SI (now N Ov La k : Nat) (X : Nat → LE) : Prop where
  ck : ckB N X = true
  les : ∀ i, i < N → LES (X i)
  ov : (fl (fun i => overB now (X i).u) N).length = Ov
  kk : Ov + k ≤ 40
  las : ∀ j, j < N → La ≤ (X j).u
  lb : La < 18446744073709551616
theorem SI.endy {now N Ov La k q : Nat} {X : Nat → LE} {P : Nat → Bool} (h : SI now N Ov La k X) (hs : SwP N X (fun i => overB now (X i).u) P q) {j : Nat} (hj : j < (fl (nt P) N).length) : endF La X P N ≤ (ixL X (fl (nt P) N) j).u := by
  have h1 := sub_lt hj
  have h2 : P ((fl (nt P) N).getD j 0) = false := by
    have h3 : (!P ((fl (nt P) N).getD j 0)) = true := h1.2
    simpa using h3
  unfold ixL
  refine end_le (h.las _ h1.1) (fun i hi hp => ?_) N (Nat.le_refl _)
  cases ho : overB now (X ((fl (nt P) N).getD j 0)).u
  · have h3 := over_t (hs.over i hi hp)
    have h4 := over_f ho
    have h5 := (h.les i hi).2.2.2.1
    omega
  · exact hs.u hi h1.1 hp ho h2
theorem SI.endb {now N Ov La k : Nat} {X : Nat → LE} {P : Nat → Bool} (h : SI now N Ov La k X) {j : Nat} (hj : j ≤ N) : endF La X P j < 18446744073709551616 := by
  have := end_le (La := La) (n := N) (b := 18446744073709551615) (X := X) (P := P) (by have := h.lb; omega) (fun i hi _ => by have := (h.les i hi).2.2.2.1; omega) j hj
  omega
theorem SI.next {now N Ov La k q : Nat} {X : Nat → LE} {P : Nat → Bool} (h : SI now N Ov La k X) (hs : SwP N X (fun i => overB now (X i).u) P q) (hq : 1 ≤ q) : SI now (fl (nt P) N).length (Ov - q) (endF La X P N) (k + 1) (ixL X (fl (nt P) N)) := by
  have h1 := ov_half (O := fun i => overB now (X i).u) (P := P) N (Nat.le_refl _) hs.over
  rw [hs.len, h.ov, ← rg_count] at h1
  refine ⟨ck_sub h.ck _, fun i hi => h.les _ (sub_lt hi).1, ?_, ?_, fun j hj => h.endy hs hj, h.endb (Nat.le_refl _)⟩
  · rw [← h1, Nat.add_sub_cancel]; rfl
  · have := h.kk; omega
end Go.Proofs.YtgfjlgaleddoaaaGreatDoor
