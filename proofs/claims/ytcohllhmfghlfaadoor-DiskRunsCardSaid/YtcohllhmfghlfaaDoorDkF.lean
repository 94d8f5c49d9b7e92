/- A disk: the writes of one sector, taken out. -/
import Derived.Test.YtcohllhmfghlfaaDoorDkE
namespace Go.Proofs.YtcohllhmfghlfaaDoor
set_option linter.unusedVariables false
set_option linter.unusedSimpArgs false
open Go.RowKit

/-- What is kept of the first j, and where it then lies. -/
def flI (A : Nat → Nat) (i : Nat) : Nat → Nat × (Nat → Nat)
  | 0 => (0, fun t => t)
  | j + 1 => if A j = i then flI A i j else ((flI A i j).1 + 1, fun t => if t = (flI A i j).1 then j else (flI A i j).2 t)
theorem flI_hit {A : Nat → Nat} {i j : Nat} (h : A j = i) : flI A i (j + 1) = flI A i j := if_pos h
theorem flI_miss {A : Nat → Nat} {i j : Nat} (h : A j ≠ i) : flI A i (j + 1) = ((flI A i j).1 + 1, fun t => if t = (flI A i j).1 then j else (flI A i j).2 t) := if_neg h
theorem flI_le {A : Nat → Nat} {i : Nat} : ∀ (j : Nat), (flI A i j).1 ≤ j
  | 0 => Nat.le_refl _
  | j + 1 => by
    have := flI_le (A := A) (i := i) j
    by_cases h : A j = i
    · rw [flI_hit h]; omega
    · rw [flI_miss h]; show (flI A i j).1 + 1 ≤ j + 1; omega
theorem flI_id {A : Nat → Nat} {i : Nat} : ∀ (j t : Nat), j ≤ t → (flI A i j).2 t = t
  | 0, _, _ => rfl
  | j + 1, t, ht => by
    have h1 := flI_id (A := A) (i := i) j t (by omega)
    by_cases h : A j = i
    · rw [flI_hit h]; exact h1
    · rw [flI_miss h]
      show (if t = (flI A i j).1 then j else (flI A i j).2 t) = t
      have := flI_le (A := A) (i := i) j
      rw [if_neg (by omega)]; exact h1
theorem flI_lt {A : Nat → Nat} {i n : Nat} : ∀ (j t : Nat), j ≤ n → t < n → (flI A i j).2 t < n
  | 0, _, _, ht => ht
  | j + 1, t, hj, ht => by
    have h1 := flI_lt (A := A) (i := i) j t (by omega) ht
    by_cases h : A j = i
    · rw [flI_hit h]; exact h1
    · rw [flI_miss h]
      show (if t = (flI A i j).1 then j else (flI A i j).2 t) < n
      split <;> omega
theorem flI_none {A : Nat → Nat} {i : Nat} : ∀ (j : Nat), (∀ t, t < j → A t ≠ i) → flI A i j = (j, fun t => t)
  | 0, _ => rfl
  | j + 1, h => by
    rw [flI_miss (h j (Nat.lt_succ_self _)), flI_none j (fun t ht => h t (by omega))]
    refine Prod.ext rfl (funext fun t => ?_)
    show (if t = j then j else t) = t
    split <;> omega
theorem rws_put {n a k : Nat} {C : Nat → List Value} {D : List Value} (hk : ∀ i, (C i).length = k) (hD : D.length = k) (h0 : 0 < k) (ha : a < n) : splice (rws n C) (a * k) D = rws n fun i => if i = a then D else C i := by
  have hC2 : ∀ i, ((fun i => if i = a then D else C i) i).length = k := fun i => by
    show (if i = a then D else C i).length = k
    split
    · exact hD
    · exact hk i
  have hak : a * k + k ≤ n * k := by
    have : (a + 1) * k ≤ n * k := Nat.mul_le_mul_right k ha
    rw [Nat.succ_mul] at this; exact this
  have hl : (rws n C).length = n * k := rws_len (k := k) fun i _ => hk i
  have hl2 : (rws n fun i => if i = a then D else C i).length = n * k := rws_len (k := k) fun i _ => hC2 i
  refine List.ext_getElem? fun t => ?_
  rw [splice_get (by rw [hD, hl]; exact hak), hD]
  by_cases ht : t < n * k
  · have hq : t / k < n := Nat.div_lt_of_lt_mul (by rw [Nat.mul_comm]; exact ht)
    have hr : t % k < k := Nat.mod_lt _ h0
    have et : t / k * k + t % k = t := by rw [Nat.mul_comm]; exact Nat.div_add_mod t k
    have e1 : (rws n C)[t]? = (C (t / k))[t % k]? := by
      have := rws_get (k := k) (C := C) (n := n) (fun i _ => hk i) (i := t / k) (j := t % k) hq hr
      rw [et] at this; exact this
    have e2 : (rws n fun i => if i = a then D else C i)[t]? = (if t / k = a then D else C (t / k))[t % k]? := by
      have := rws_get (k := k) (C := fun i => if i = a then D else C i) (n := n) (fun i _ => hC2 i) (i := t / k) (j := t % k) hq hr
      rw [et] at this; exact this
    rw [e1, e2]
    by_cases h1 : t / k = a
    · have ea : a * k + t % k = t := by rw [← h1]; exact et
      rw [if_neg (by omega), if_pos (by omega), if_pos h1, show t - a * k = t % k by omega]
    · rw [if_neg h1]
      by_cases h2 : t < a * k
      · rw [if_pos h2]
      · rw [if_neg h2, if_neg]
        intro h3
        have h4 : a ≤ t / k := (Nat.le_div_iff_mul_le h0).2 (by omega)
        have h5 : t / k < a + 1 := Nat.div_lt_of_lt_mul (by rw [Nat.mul_comm, Nat.succ_mul]; exact h3)
        omega
  · rw [if_neg (by omega), if_neg (by omega), List.getElem?_eq_none (by rw [hl]; omega), List.getElem?_eq_none (by rw [hl2]; omega)]
theorem zc_run (b o n c : Nat) (w : World) (ty : TypeId) (hn : 0 < n) (hc : ∀ j, j < n * 65 → (w.cell? ⟨b, o + j, none⟩).isSome = true) (hf : ∀ j, w.frozen? ⟨b, j, none⟩ = false) :
    ∃ Z : List Value, Z.length = n * 65 ∧ (Builtin.clear_ #[62] ty #[.slice (some ⟨b, o, none⟩) n c]).run Tryd.prog w = .ok (.tuple #[]) (w.setCells b o Z) := by
  have h65 : (Value.agg zW).cells.size = 65 := zW_size
  have hsz : (Builtin.zeroCells (Value.agg zW).cells n).toList.length = n * 65 := by
    simp [Builtin.zeroCells, h65, Nat.mul_comm]
  have hone : ∀ v ∈ (Builtin.zeroCells (Value.agg zW).cells n).toList, v.oneCell' = true := by
    intro v hv
    simp only [Builtin.zeroCells, Array.toList_map, List.mem_map] at hv
    obtain ⟨q, _, rfl⟩ := hv
    have h1 : q % (Value.agg zW).cells.size < (Value.agg zW).cells.size := Nat.mod_lt _ (by rw [h65]; decide)
    rw [getElem!_pos (Value.agg zW).cells _ h1]
    have h2 : (Value.agg zW).cells[q % (Value.agg zW).cells.size] ∈ zW := Array.getElem_mem h1
    refine wtC_one 0 (fun _ => 0) _ ?_
    have h3 := Array.mem_toList_iff.2 h2
    unfold zW at h3
    exact h3
  have hst := run_storeCells_cells (P := Tryd.prog) b o (Builtin.zeroCells (Value.agg zW).cells n).toList 0 w (by rw [hsz]; simpa using hc) (fun j _ => hf _) hone
  simp only [Nat.add_zero] at hst
  refine ⟨_, hsz, ?_⟩
  obtain ⟨m, rfl⟩ : ∃ m, n = m + 1 := ⟨n - 1, by omega⟩
  have ez : Tryd.zeroCells70 = zW := by kernel_rfl
  simp [Builtin.clear_, run_underlying Tryd.underlying62, zW_run, hst]
  rw [ez, hst]; rfl
end Go.Proofs.YtcohllhmfghlfaaDoor
