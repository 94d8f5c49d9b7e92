/- Rows of structs of the call's own, some cells each. -/
import Derived.Test.YtgfjlgaleddoaaaGreatDoorBlk
import Derived.WalkKit
import Derived.Laws.OwnMore
import Derived.OwnWalk
import Derived.Maps.AppendAt
namespace Go.Proofs.YtgfjlgaleddoaaaGreatDoor
set_option linter.unusedVariables false
set_option linter.unusedSimpArgs false
open Go.RowKit

/-- The cells of n structs, one behind the other. -/
def rws (n : Nat) (C : Nat → List Value) : List Value := (List.range n).flatMap C
theorem rws_zero (C : Nat → List Value) : rws 0 C = [] := rfl
theorem rws_succ (n : Nat) (C : Nat → List Value) : rws (n + 1) C = rws n C ++ C n := by unfold rws; rw [List.range_succ, List.flatMap_append]; simp
theorem rws_len {k : Nat} {C : Nat → List Value} : ∀ {n : Nat}, (∀ i, i < n → (C i).length = k) → (rws n C).length = n * k
  | 0, _ => by simp [rws_zero]
  | n + 1, h => by rw [rws_succ, List.length_append, rws_len fun i hi => h i (by omega), h n (by omega), Nat.succ_mul]
theorem rws_get {k : Nat} {C : Nat → List Value} : ∀ {n : Nat}, (∀ i, i < n → (C i).length = k) → ∀ {i j : Nat}, i < n → j < k → (rws n C)[i * k + j]? = (C i)[j]?
  | 0, _, i, _, hi, _ => absurd hi (Nat.not_lt_zero _)
  | n + 1, h, i, j, hi, hj => by
    have hl : (rws n C).length = n * k := rws_len fun i hi => h i (by omega)
    rw [rws_succ]
    rcases Nat.lt_or_ge i n with h1 | h1
    · have hlt : i * k + j < n * k := Nat.lt_of_lt_of_le (by omega) (show i * k + k ≤ n * k by rw [← Nat.succ_mul]; exact Nat.mul_le_mul_right k h1)
      rw [List.getElem?_append_left (by rw [hl]; exact hlt)]
      exact rws_get (fun i hi => h i (by omega)) h1 hj
    · obtain rfl : i = n := by omega
      rw [List.getElem?_append_right (by rw [hl]; omega), hl]
      congr 1; omega
theorem rws_congr {n : Nat} {C D : Nat → List Value} (h : ∀ i, i < n → C i = D i) : rws n C = rws n D := by
  induction n with
  | zero => rfl
  | succ n ih => rw [rws_succ, rws_succ, ih fun i hi => h i (by omega), h n (by omega)]
theorem rws_set {k : Nat} {C : Nat → List Value} : ∀ {n : Nat}, (∀ i, i < n → (C i).length = k) → ∀ {i j : Nat} {v : Value}, i < n → j < k → (rws n C).set (i * k + j) v = rws n (fun q => if q = i then (C i).set j v else C q)
  | 0, _, i, _, _, hi, _ => absurd hi (Nat.not_lt_zero _)
  | n + 1, h, i, j, v, hi, hj => by
    have hl : (rws n C).length = n * k := rws_len fun i hi => h i (by omega)
    rw [rws_succ, rws_succ]
    rcases Nat.lt_or_ge i n with h1 | h1
    · have hlt : i * k + j < n * k := Nat.lt_of_lt_of_le (by omega) (show i * k + k ≤ n * k by rw [← Nat.succ_mul]; exact Nat.mul_le_mul_right k h1)
      rw [List.set_append_left _ _ (by rw [hl]; exact hlt), rws_set (fun i hi => h i (by omega)) h1 hj, if_neg (by omega)]
    · obtain rfl : i = n := by omega
      rw [List.set_append_right _ _ (by rw [hl]; omega), hl, if_pos rfl, show i * k + j - i * k = j from by omega]
      congr 1
      exact rws_congr fun q hq => by rw [if_neg (by omega)]
/-- The cells, one more behind them. -/
def addC (C : Nat → List Value) (n : Nat) (c : List Value) : Nat → List Value := fun i => if i = n then c else C i
theorem rws_add (n : Nat) (C : Nat → List Value) (c : List Value) : rws (n + 1) (addC C n c) = rws n C ++ c := by
  rw [rws_succ, rws_congr (D := C) fun i hi => by unfold addC; rw [if_neg (by omega)]]
  unfold addC; rw [if_pos rfl]
/-- The structs of an owned row, cell by cell. -/
theorem rws_cells {w : World} {base : Nat} {e : TypeId} {k : Nat} {v : Value} {n : Nat} {C : Nat → List Value} (h : w.ownsRow base e k v n (rws n C)) (hk : ∀ i, i < n → (C i).length = k) :
    ∃ oa cap, v = .slice oa n cap ∧ n ≤ cap ∧ cap ≤ maxLen ∧ (∀ a, oa = some a → ∃ g, a = ⟨g, 0, none⟩ ∧ base ≤ g ∧ g < w.heap.size) ∧ ∀ i j, i < n → j < k → ∃ b off, oa = some ⟨b, off, none⟩ ∧ off = 0 ∧ w.cell? ⟨b, off + i * k + j, none⟩ = (C i)[j]? := by
  rcases h.2 with ⟨rfl, h0⟩ | ⟨g, cap, cur, rfl, hb, hh, hnc, hm, hsz, hcur⟩
  · subst h0
    exact ⟨none, 0, rfl, Nat.le_refl _, by unfold maxLen; omega, (fun a h => by cases h), fun i j hi => absurd hi (Nat.not_lt_zero _)⟩
  · refine ⟨_, cap, rfl, hnc, hm, (fun a h => by cases h; exact ⟨g, rfl, hb, lt_of_block hh⟩), fun i j hi hj => ⟨g, 0, rfl, rfl, ?_⟩⟩
    have h1 : w.cell? ⟨g, 0 + i * k + j, none⟩ = cur[0 + i * k + j]? := by simp [World.cell?, hh]
    have hlt : i * k + j < n * k := Nat.lt_of_lt_of_le (by omega) (show i * k + k ≤ n * k by rw [← Nat.succ_mul]; exact Nat.mul_le_mul_right k hi)
    rw [h1, Nat.zero_add, ← Array.getElem?_toList, ← List.getElem?_take_of_lt hlt, hcur]
    exact rws_get hk hi hj
theorem owns_later {w w' : World} {base : Nat} {e : TypeId} {k : Nat} {v : Value} {n : Nat} {xs : List Value} (h : w.ownsRow base e k v n xs) (hb : Below w.heap.size w w') : w'.ownsRow base e k v n xs := by
  refine ⟨h.1, ?_⟩
  rcases h.2 with h2 | ⟨g, cap, cur, hv, hg, hh, r⟩
  · exact .inl h2
  · exact .inr ⟨g, cap, cur, hv, hg, by rw [hb.block g (lt_of_block hh)]; exact hh, r⟩
theorem owns_own {w w' : World} {base b : Nat} {e : TypeId} {k : Nat} {v : Value} {n : Nat} {xs : List Value} (h : w.ownsRow base e k v n xs) (hO : Own b w w') (hb : b < base) : w'.ownsRow base e k v n xs := by
  refine ⟨h.1, ?_⟩
  rcases h.2 with h2 | ⟨g, cap, cur, hv, hg, hh, r⟩
  · exact .inl h2
  · exact .inr ⟨g, cap, cur, hv, hg, by rw [hO.block g (lt_of_block hh) (by omega)]; exact hh, r⟩
theorem owns_block {w : World} {base : Nat} {e : TypeId} {k : Nat} {v : Value} {n : Nat} {xs : List Value} (h : w.ownsRow base e k v n xs) : ∀ q, v.ownBlock = some q → base ≤ q := by
  intro q hq
  rcases h.2 with ⟨rfl, _⟩ | ⟨g, cap, cur, rfl, hb, _⟩
  · simp [Value.ownBlock] at hq
  · simp [Value.ownBlock] at hq; omega
theorem news_lit {w : World} {l : List Value} {t : TypeId} : ∀ j u, l[j]? = some u → (w.alloc (.cells l.toArray t)).cell? ((⟨w.heap.size, 0, none⟩ : Addr).add j) = some u := by
  intro j u h
  have h1 : (w.alloc (.cells l.toArray t)).cell? ⟨w.heap.size, j, none⟩ = l.toArray[j]? := World.cell?_alloc_mark w l.toArray t (0, 0) j
  have ha : (Addr.mk w.heap.size 0 none).add j = ⟨w.heap.size, j, none⟩ := by
    unfold Addr.add; split
    · rename_i hk0; subst hk0; rfl
    · simp
  rw [ha, h1]; simpa using h
end Go.Proofs.YtgfjlgaleddoaaaGreatDoor
