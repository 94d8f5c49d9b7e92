/- What is swept: the first so many of those that are over, by their ends. -/
import Derived.Test.YtgfjlgaleddoaaaGreatDoorLe9
import Derived.Test.YtgfjlgaleddoaaaGreatDoorLe6
import Derived.Shelf.SlSortCmp.WholeK
namespace Go.Proofs.YtgfjlgaleddoaaaGreatDoor
set_option linter.unusedVariables false
set_option linter.unusedSimpArgs false
open Go.RowKit Go.Sort
theorem bl_irr : ∀ x : List UInt8, Op.bytesLess x x = false
  | [] => rfl
  | a :: x => by unfold Op.bytesLess; rw [bl_irr x]; simp
theorem bl_tr : ∀ x y z : List UInt8, Op.bytesLess x y = true → Op.bytesLess y z = true → Op.bytesLess x z = true
  | _, [], _ => fun h => by simp [Op.bytesLess] at h
  | _, _ :: _, [] => fun _ h => by simp [Op.bytesLess] at h
  | [], _ :: _, _ :: _ => fun _ _ => rfl
  | a :: x, b :: y, c :: z => fun h1 h2 => by
    unfold Op.bytesLess at h1 h2 ⊢
    simp only [Bool.or_eq_true, Bool.and_eq_true, decide_eq_true_eq, beq_iff_eq] at h1 h2 ⊢
    rcases h1 with h1 | ⟨rfl, h1⟩
    · rcases h2 with h2 | ⟨rfl, h2⟩
      · exact .inl (UInt8.lt_trans h1 h2)
      · exact .inl h1
    · rcases h2 with h2 | ⟨rfl, h2⟩
      · exact .inl h2
      · exact .inr ⟨rfl, bl_tr x y z h1 h2⟩
theorem bl_tot : ∀ x y : List UInt8, Op.bytesLess x y = false → Op.bytesLess y x = false → x = y
  | [], [] => fun _ _ => rfl
  | [], _ :: _ => fun h _ => by simp [Op.bytesLess] at h
  | _ :: _, [] => fun _ h => by simp [Op.bytesLess] at h
  | a :: x, b :: y => fun h1 h2 => by
    unfold Op.bytesLess at h1 h2
    simp only [Bool.or_eq_false_iff, Bool.and_eq_false_iff, decide_eq_false_iff_not, beq_eq_false_iff_ne, ne_eq] at h1 h2
    have e : a = b := UInt8.le_antisymm (UInt8.not_lt.1 h2.1) (UInt8.not_lt.1 h1.1)
    subst e
    rw [bl_tot x y (h1.2.resolve_left fun h => h rfl) (h2.2.resolve_left fun h => h rfl)]
theorem cf_lt (x y : LE) : cfL x y < 0 ↔ x.u < y.u ∨ (x.u = y.u ∧ Op.bytesLess x.id.toList y.id.toList = true) := by
  unfold cfL orI cmpU cmpS
  rcases Nat.lt_trichotomy x.u y.u with h | h | h
  · rw [if_pos h]; simp [h]
  · have h1 : ¬ x.u < y.u := by omega
    have h2 : ¬ y.u < x.u := by omega
    rw [if_neg h1, if_neg h2, if_pos rfl]
    cases e : Op.bytesLess x.id.toList y.id.toList
    · rw [if_neg (by simp)]; constructor
      · intro h2; split at h2 <;> omega
      · rintro (h2 | ⟨_, h2⟩)
        · omega
        · cases h2
    · rw [if_pos rfl]; simp [h]
  · have h1 : ¬ x.u < y.u := by omega
    rw [if_neg h1, if_pos h]; constructor
    · intro h2; rw [if_neg (by decide)] at h2; omega
    · rintro (h2 | ⟨h2, _⟩) <;> omega
theorem swo : SWO (ltOf cfL) := by
  refine ⟨fun x => ?_, fun x y z h1 h2 => ?_, fun x y z h1 h2 => ?_⟩
  · refine decide_eq_false fun h => ?_
    rcases (cf_lt x x).1 h with h | ⟨_, h⟩
    · omega
    · rw [bl_irr] at h; cases h
  · have h1 := (cf_lt x y).1 (of_decide_eq_true h1)
    have h2 := (cf_lt y z).1 (of_decide_eq_true h2)
    refine decide_eq_true ((cf_lt x z).2 ?_)
    rcases h1 with h1 | ⟨h1, k1⟩ <;> rcases h2 with h2 | ⟨h2, k2⟩
    · exact .inl (by omega)
    · exact .inl (by omega)
    · exact .inl (by omega)
    · exact .inr ⟨by omega, bl_tr _ _ _ k1 k2⟩
  · have h1 : ¬ _ := fun h => of_decide_eq_false h1 ((cf_lt x y).2 h)
    have h2 : ¬ _ := fun h => of_decide_eq_false h2 ((cf_lt y z).2 h)
    refine decide_eq_false fun h => ?_
    rcases (cf_lt x z).1 h with h | ⟨h, k⟩
    · have a1 : ¬ x.u < y.u := fun h => h1 (.inl h)
      have a2 : ¬ y.u < z.u := fun h => h2 (.inl h)
      omega
    · have a1 : ¬ x.u < y.u := fun h => h1 (.inl h)
      have a2 : ¬ y.u < z.u := fun h => h2 (.inl h)
      have e1 : x.u = y.u := by omega
      have e2 : y.u = z.u := by omega
      have b1 : Op.bytesLess x.id.toList y.id.toList = false := by
        cases e : Op.bytesLess x.id.toList y.id.toList with
        | false => rfl
        | true => exact absurd (.inr ⟨e1, e⟩) h1
      have b2 : Op.bytesLess y.id.toList z.id.toList = false := by
        cases e : Op.bytesLess y.id.toList z.id.toList with
        | false => rfl
        | true => exact absurd (.inr ⟨e2, e⟩) h2
      cases e : Op.bytesLess y.id.toList x.id.toList
      · have := bl_tot _ _ b1 e
        rw [this, b2] at k; cases k
      · rw [bl_tr _ _ _ e k] at b2; cases b2
theorem ba_eq {a b : ByteArray} (h : (a.toList == b.toList) = true) : a = b := by
  have h9 := beq_iff_eq.1 h
  rw [ByteArray.toList_eq, ByteArray.toList_eq] at h9
  exact ByteArray.ext (Array.ext' h9)
theorem eqLE_iff {x y : LE} : eqLE x y = true ↔ x = y := by
  constructor
  · intro h
    unfold eqLE at h
    simp only [Bool.and_eq_true] at h
    obtain ⟨h1, h2, h3, h4, h5⟩ := h
    have e1 := ba_eq h1
    have e2 := ba_eq h2
    have e3 := ba_eq h3
    have e4 : x.u = y.u := by have := beq_iff_eq.1 h4; omega
    have e5 : x.m = y.m := by have := beq_iff_eq.1 h5; omega
    cases x; cases y
    simp only at e1 e2 e3 e4 e5
    subst e1 e2 e3 e4 e5
    rfl
  · rintro rfl; exact eqLE_self _
theorem ck_parts {n : Nat} {X : Nat → LE} (h : ckB n X = true) : n ≤ 32 ∧ ∀ i, i < n → stepB X i = true := by
  unfold ckB at h
  simp only [Bool.and_eq_true, decide_eq_true_eq, List.all_eq_true] at h
  exact ⟨h.1, fun i hi => h.2 i (List.mem_range.2 hi)⟩
theorem asc {n : Nat} {X : Nat → LE} (h : ckB n X = true) : ∀ i j, i < j → j < n → ltS (X i).id (X j).id = true := by
  have hs := (ck_parts h).2
  intro i j
  induction j with
  | zero => intro h1; omega
  | succ j ih =>
    intro h1 h2
    have h3 := hs (j + 1) h2
    unfold stepB at h3
    rw [decide_eq_false (by omega), Bool.false_or, Bool.and_eq_true] at h3
    have h4 : ltS (X j).id (X (j + 1)).id = true := h3.2
    rcases Nat.lt_or_ge i j with h5 | h5
    · exact bl_tr _ _ _ (ih h5 (by omega)) h4
    · obtain rfl : i = j := by omega
      exact h4
theorem inj {n : Nat} {X : Nat → LE} (h : ckB n X = true) {i j : Nat} (hi : i < n) (hj : j < n) (e : (X i).id = (X j).id) : i = j := by
  rcases Nat.lt_trichotomy i j with h1 | h1 | h1
  · have := asc h i j h1 hj
    rw [e] at this; unfold ltS at this; rw [bl_irr] at this; cases this
  · exact h1
  · have := asc h j i h1 hi
    rw [e] at this; unfold ltS at this; rw [bl_irr] at this; cases this
theorem fl_mem {P : Nat → Bool} {n i : Nat} : i ∈ fl P n ↔ i < n ∧ P i = true := by unfold fl; rw [List.mem_filter, List.mem_range]
theorem fl_nodup (P : Nat → Bool) (n : Nat) : (fl P n).Nodup := List.Pairwise.filter _ List.nodup_range
theorem map_nodup {n : Nat} {X : Nat → LE} (h : ckB n X = true) (P : Nat → Bool) : ((fl P n).map X).Nodup := by
  rw [List.nodup_iff_pairwise_ne, List.pairwise_map]
  have h9 := List.nodup_iff_pairwise_ne.1 (fl_nodup P n)
  refine List.Pairwise.imp_of_mem (fun {a b} ha hb hne e => hne ?_) h9
  exact inj h (fl_mem.1 ha).1 (fl_mem.1 hb).1 (by rw [e])
/-- What a sweep takes. -/
structure SwP (n : Nat) (X : Nat → LE) (O P : Nat → Bool) (q : Nat) : Prop where
  len : (fl P n).length = q
  over : ∀ i, i < n → P i = true → O i = true
  ends : ∀ i j, i < n → j < n → P i = true → O j = true → P j = false → ¬ cfL (X j) (X i) < 0
theorem SwP.u {n q : Nat} {X : Nat → LE} {O P : Nat → Bool} (h : SwP n X O P q) {i j : Nat} (hi : i < n) (hj : j < n) (h1 : P i = true) (h2 : O j = true) (h3 : P j = false) : (X i).u ≤ (X j).u := by
  have h8 := h.ends i j hi hj h1 h2 h3
  have h7 : ¬ (X j).u < (X i).u := fun h => h8 ((cf_lt _ _).2 (.inl h))
  omega
theorem swp_of {n q : Nat} {X : Nat → LE} {O : Nat → Bool} {d D : Array LE} (hk : ckB n X = true) (hd : d.toList = (fl O n).map X) (hp : PermIn 0 d.size d D) (hs : SortedIn (ltOf cfL) 0 d.size D) (hq : q ≤ (fl O n).length) :
    SwP n X O (fun i => inB q (fun j => D[j]!) (X i)) q := by
  have hsz : d.size = (fl O n).length := by rw [← Array.length_toList, hd, List.length_map]
  have hDs : D.size = d.size := hp.1
  have hperm : D.toList.Perm ((fl O n).map X) := by
    have h9 := hp.2.2
    rw [Array.extract_eq_self_of_le (by omega), Array.extract_eq_self_of_le (Nat.le_refl _), hd] at h9
    exact h9
  have hDn : D.toList.Nodup := (hperm.nodup_iff).2 (map_nodup hk O)
  have hin : ∀ x, inB q (fun j => D[j]!) x = true ↔ x ∈ D.toList.take q := fun x => by
    unfold inB
    rw [List.any_eq_true]
    constructor
    · rintro ⟨j, hj, e⟩
      have hj := List.mem_range.1 hj
      have e := eqLE_iff.1 e
      rw [e, List.mem_take_iff_getElem]
      refine ⟨j, by rw [Array.length_toList]; omega, ?_⟩
      show _ = D[j]!
      rw [Array.getElem_toList, getElem!_pos D j (by omega)]
    · intro h
      obtain ⟨j, hj, e⟩ := List.mem_take_iff_getElem.1 h
      rw [Array.length_toList] at hj
      refine ⟨j, List.mem_range.2 (by omega), eqLE_iff.2 ?_⟩
      show _ = D[j]!
      rw [← e, Array.getElem_toList, getElem!_pos D j (by omega)]
  have hmemD : ∀ x, x ∈ D.toList ↔ ∃ i, i < n ∧ O i = true ∧ X i = x := fun x => by
    rw [hperm.mem_iff, List.mem_map]
    exact ⟨fun ⟨i, hi, e⟩ => ⟨i, (fl_mem.1 hi).1, (fl_mem.1 hi).2, e⟩, fun ⟨i, hi, ho, e⟩ => ⟨i, fl_mem.2 ⟨hi, ho⟩, e⟩⟩
  have hover : ∀ i, i < n → inB q (fun j => D[j]!) (X i) = true → O i = true := fun i hi h => by
    obtain ⟨j, hj, ho, e⟩ := (hmemD _).1 (List.mem_of_mem_take ((hin _).1 h))
    rw [← inj hk hj hi (by rw [e])]; exact ho
  refine ⟨?_, hover, fun i j hi hj h1 h2 h3 => ?_⟩
  · have hpm : ((fl (fun i => inB q (fun j => D[j]!) (X i)) n).map X).Perm (D.toList.take q) := by
      rw [List.perm_ext_iff_of_nodup (map_nodup hk _) (hDn.sublist (List.take_sublist _ _))]
      intro x
      rw [List.mem_map]
      constructor
      · rintro ⟨i, hi, rfl⟩
        exact (hin _).1 (fl_mem.1 hi).2
      · intro h
        obtain ⟨i, hi, ho, e⟩ := (hmemD x).1 (List.mem_of_mem_take h)
        exact ⟨i, fl_mem.2 ⟨hi, by show inB q _ (X i) = true; rw [e]; exact (hin x).2 h⟩, e⟩
    have h9 := hpm.length_eq
    rw [List.length_map, List.length_take, Array.length_toList (xs := D), hDs, hsz] at h9
    refine h9.trans ?_
    omega
  · obtain ⟨a, ha, ea⟩ := List.mem_take_iff_getElem.1 ((hin _).1 h1)
    obtain ⟨b, hb, eb⟩ := List.mem_iff_getElem.1 ((hmemD (X j)).2 ⟨j, hj, h2, rfl⟩)
    rw [Array.length_toList] at ha hb
    have hbq : q ≤ b := by
      rcases Nat.lt_or_ge b q with h | h
      · have : inB q (fun j => D[j]!) (X j) = true := (hin _).2 (List.mem_take_iff_getElem.2 ⟨b, by rw [Array.length_toList]; omega, eb⟩)
        rw [this] at h3; cases h3
      · exact h
    have h9 := hs a b (by omega) (by omega) (by omega)
    rw [getElem!_pos D b (by omega), getElem!_pos D a (by omega)] at h9
    rw [Array.getElem_toList] at ea eb
    rw [ea, eb] at h9
    exact of_decide_eq_false h9
end Go.Proofs.YtgfjlgaleddoaaaGreatDoor
