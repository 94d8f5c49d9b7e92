/- Numbers of eight bits: the arithmetic of the field, by powers of 3. Blocks known whole, and what may have changed of what was there. The field's table: sync.Once, the powers and the logarithms; contracts of package gf's functions. The table is reckoned when it is asked for first: contracts of triple, reckon, the Once, and ready. Contracts of sync.Once's roads, of ready, and of the table's operations. Contracts of the table's operations. A new table: a block of its own. The field's operations over integers, and their contracts. -/
import Derived.WalkKit
import Derived.OneCell
import Derived.Laws.NewBlocks
import Derived.Test.YtgiffaeckhhmpaaDoorProg
import Derived.WalkSpells
import Derived.WalkLawsBesides
import Derived.Defers
import Derived.Laws.LoneSync
import Derived.RegionTactic
import Derived.RegionCalls
import Derived.ChangeAlike
import Derived.Deep.QuietTactic
import Derived.BigQuiet
import Derived.Outline
import Derived.Lib.Hide
namespace Go.Proofs.YtgiffaeckhhmpaaDoor
set_option linter.unusedVariables false
set_option linter.unusedSimpArgs false
/-- A number times 3. -/
def trip (a : Nat) : Nat := (if a < 128 then 2 * a else (2 * a - 256) ^^^ 27) ^^^ a
/-- The powers of 3. -/
def expN : Nat → Nat | 0 => 1 | n + 1 => trip (expN n)
/-- To what power 3 is a number. -/
def logN (a : Nat) : Nat := ((List.range 255).find? (fun i => expN i == a)).getD 0

theorem trip_lt {a : Nat} (h : a < 256) : trip a < 256 := by
  unfold trip
  refine Nat.xor_lt_two_pow (n := 8) ?_ h
  split
  · show 2 * a < 256; omega
  · exact Nat.xor_lt_two_pow (n := 8) (by omega) (by decide)
theorem expN_lt : ∀ n, expN n < 256
  | 0 => by decide
  | n + 1 => trip_lt (expN_lt n)
theorem trip_xor {x y : Nat} (hx : x < 256) (hy : y < 256) : trip (x ^^^ y) = trip x ^^^ trip y := by
  have h : (List.range 256).all (fun x => (List.range 256).all (fun y => trip (x ^^^ y) == (trip x ^^^ trip y))) = true := by decide +kernel
  exact beq_iff_eq.1 (List.all_eq_true.1 (List.all_eq_true.1 h x (List.mem_range.2 hx)) y (List.mem_range.2 hy))
theorem exp_pos {i : Nat} (h : i < 255) : 0 < expN i := by
  have k : (List.range 255).all (fun i => decide (0 < expN i)) = true := by decide +kernel
  exact of_decide_eq_true (List.all_eq_true.1 k i (List.mem_range.2 h))
theorem exp_255 : expN 255 = 1 := by decide +kernel
theorem log_exp {i : Nat} (h : i < 255) : logN (expN i) = i := by
  have k : (List.range 255).all (fun i => logN (expN i) == i) = true := by decide +kernel
  exact beq_iff_eq.1 (List.all_eq_true.1 k i (List.mem_range.2 h))
theorem log_lt {a : Nat} (h : a < 256) : logN a < 255 := by
  have k : (List.range 256).all (fun a => decide (logN a < 255)) = true := by decide +kernel
  exact of_decide_eq_true (List.all_eq_true.1 k a (List.mem_range.2 h))
theorem exp_log {a : Nat} (h0 : 0 < a) (h : a < 256) : expN (logN a) = a := by
  have k : (List.range 256).all (fun a => a == 0 || expN (logN a) == a) = true := by decide +kernel
  have := List.all_eq_true.1 k a (List.mem_range.2 h)
  simp at this
  rcases this with h1 | h1
  · omega
  · exact h1
theorem exp_mod (n : Nat) : expN (n % 255) = expN n := by
  induction n with
  | zero => rfl
  | succ n ih =>
    by_cases h : n % 255 = 254
    · have h1 : (n + 1) % 255 = 0 := by omega
      rw [h1]
      show 1 = trip (expN n)
      rw [← ih, h]
      show 1 = expN 255
      exact exp_255.symm
    · have h1 : (n + 1) % 255 = n % 255 + 1 := by omega
      rw [h1]
      show trip (expN (n % 255)) = trip (expN n)
      rw [ih]
/-- A product. -/
def mulN (a b : Nat) : Nat := if a = 0 ∨ b = 0 then 0 else expN ((logN a + logN b) % 255)
/-- A quotient. -/
def divN (a b : Nat) : Nat := if a = 0 then 0 else expN ((logN a + 255 - logN b) % 255)
/-- So often triple. -/
def tripI : Nat → Nat → Nat | 0, x => x | n + 1, x => trip (tripI n x)

theorem mulN_lt (a b : Nat) : mulN a b < 256 := by
  unfold mulN; split
  · decide
  · exact expN_lt _
theorem divN_lt (a b : Nat) : divN a b < 256 := by
  unfold divN; split
  · decide
  · exact expN_lt _
theorem mulN_comm (a b : Nat) : mulN a b = mulN b a := by
  unfold mulN; rw [Nat.add_comm (logN a)]; simp only [Or.comm]
theorem mulN_pos {a b : Nat} (ha : a ≠ 0) (hb : b ≠ 0) : mulN a b = expN ((logN a + logN b) % 255) := if_neg (by omega)
theorem mulN_zero_left (b : Nat) : mulN 0 b = 0 := if_pos (.inl rfl)
theorem mulN_zero_right (a : Nat) : mulN a 0 = 0 := if_pos (.inr rfl)
theorem mod_lt (n : Nat) : n % 255 < 255 := Nat.mod_lt _ (by decide)
theorem mulN_ne {a b : Nat} (ha : a ≠ 0) (hb : b ≠ 0) : mulN a b ≠ 0 := by
  rw [mulN_pos ha hb]; have := exp_pos (mod_lt (logN a + logN b)); omega
theorem mulN_eq_zero {a b : Nat} : mulN a b = 0 ↔ a = 0 ∨ b = 0 := by
  constructor
  · intro h
    rcases Nat.eq_zero_or_pos a with h1 | h1
    · exact .inl h1
    · rcases Nat.eq_zero_or_pos b with h2 | h2
      · exact .inr h2
      · exact absurd h (mulN_ne (by omega) (by omega))
  · intro h; exact if_pos h
theorem log_mul {a b : Nat} (ha : a ≠ 0) (hb : b ≠ 0) : logN (mulN a b) = (logN a + logN b) % 255 := by
  rw [mulN_pos ha hb, log_exp (mod_lt _)]
theorem mulN_assoc (a b c : Nat) : mulN a (mulN b c) = mulN (mulN a b) c := by
  by_cases ha : a = 0
  · subst ha; rw [mulN_zero_left, mulN_zero_left, mulN_zero_left]
  by_cases hb : b = 0
  · subst hb; rw [mulN_zero_left, mulN_zero_right, mulN_zero_left]
  by_cases hc : c = 0
  · subst hc; rw [mulN_zero_right, mulN_zero_right, mulN_zero_right]
  rw [mulN_pos ha (mulN_ne hb hc), mulN_pos (mulN_ne ha hb) hc, log_mul hb hc, log_mul ha hb]
  congr 1; omega
theorem mulN_one {a : Nat} (h : a < 256) : mulN a 1 = a := by
  by_cases ha : a = 0
  · subst ha; exact mulN_zero_left 1
  · have l1 : logN 1 = 0 := by decide +kernel
    have := log_lt h
    rw [mulN_pos ha (by decide), l1, Nat.add_zero, Nat.mod_eq_of_lt this, exp_log (by omega) h]
theorem tripI_zero : ∀ n, tripI n 0 = 0
  | 0 => rfl
  | n + 1 => by show trip (tripI n 0) = 0; rw [tripI_zero n]; rfl
theorem tripI_lt {x : Nat} (h : x < 256) : ∀ n, tripI n x < 256
  | 0 => h
  | n + 1 => trip_lt (tripI_lt h n)
theorem tripI_exp (n m : Nat) : tripI n (expN m) = expN (n + m) := by
  induction n with
  | zero => show expN m = expN (0 + m); rw [Nat.zero_add]
  | succ n ih => show trip (tripI n (expN m)) = _; rw [ih, Nat.add_right_comm]; rfl
theorem tripI_xor {x y : Nat} (hx : x < 256) (hy : y < 256) (n : Nat) : tripI n (x ^^^ y) = tripI n x ^^^ tripI n y := by
  induction n with
  | zero => rfl
  | succ n ih => show trip _ = trip _ ^^^ trip _; rw [ih, trip_xor (tripI_lt hx n) (tripI_lt hy n)]
theorem mulN_tripI {a b : Nat} (ha : a ≠ 0) (hb : b < 256) : mulN a b = tripI (logN a) b := by
  by_cases h : b = 0
  · subst h; rw [mulN_zero_right, tripI_zero]
  · have e := exp_log (a := b) (by omega) hb
    rw [mulN_pos ha h, exp_mod]
    conv => rhs; rw [← e]
    rw [tripI_exp]
theorem xor_lt {a b : Nat} (ha : a < 256) (hb : b < 256) : a ^^^ b < 256 := Nat.xor_lt_two_pow (n := 8) ha hb
theorem mulN_xor (a : Nat) {b c : Nat} (hb : b < 256) (hc : c < 256) : mulN a (b ^^^ c) = mulN a b ^^^ mulN a c := by
  by_cases ha : a = 0
  · subst ha; rw [mulN_zero_left, mulN_zero_left, mulN_zero_left]; rfl
  · rw [mulN_tripI ha (xor_lt hb hc), mulN_tripI ha hb, mulN_tripI ha hc, tripI_xor hb hc]
theorem div_mul {a b : Nat} (ha : a < 256) (hb0 : b ≠ 0) (hb : b < 256) : mulN (divN a b) b = a := by
  by_cases h : a = 0
  · subst h; unfold divN; rw [if_pos rfl, mulN_zero_left]
  · have l1 := log_lt ha
    have l2 := log_lt hb
    have e : divN a b = expN ((logN a + 255 - logN b) % 255) := if_neg h
    have ne : divN a b ≠ 0 := by rw [e]; have := exp_pos (mod_lt (logN a + 255 - logN b)); omega
    rw [mulN_pos ne hb0, e, log_exp (mod_lt _)]
    have : ((logN a + 255 - logN b) % 255 + logN b) % 255 = logN a := by omega
    rw [this, exp_log (by omega) ha]
/-- A power. -/
def powN (a n : Nat) : Nat := if n = 0 then 1 else if a = 0 then 0 else expN (logN a * (n % 255) % 255)
theorem powN_lt (a n : Nat) : powN a n < 256 := by
  unfold powN; split
  · decide
  · split
    · decide
    · exact expN_lt _
theorem mul_mod_add (l m n : Nat) : (l * (m % 255) % 255 + l * (n % 255) % 255) % 255 = l * ((m + n) % 255) % 255 := by
  have h1 : l * (m % 255) % 255 = l * m % 255 := by rw [Nat.mul_mod, Nat.mod_mod, ← Nat.mul_mod]
  have h2 : l * (n % 255) % 255 = l * n % 255 := by rw [Nat.mul_mod, Nat.mod_mod, ← Nat.mul_mod]
  have h3 : l * ((m + n) % 255) % 255 = l * (m + n) % 255 := by rw [Nat.mul_mod, Nat.mod_mod, ← Nat.mul_mod]
  rw [h1, h2, h3, Nat.mul_add, ← Nat.add_mod]
theorem powN_add {a : Nat} (h : a < 256) (m n : Nat) : mulN (powN a m) (powN a n) = powN a (m + n) := by
  by_cases hm : m = 0
  · subst hm
    have e1 : powN a 0 = 1 := rfl
    rw [Nat.zero_add, e1, mulN_comm, mulN_one (powN_lt a n)]
  by_cases hn : n = 0
  · subst hn
    have e1 : powN a 0 = 1 := rfl
    rw [Nat.add_zero, e1, mulN_one (powN_lt a m)]
  by_cases ha : a = 0
  · subst ha
    have e1 : powN 0 m = 0 := by unfold powN; rw [if_neg hm, if_pos rfl]
    have e2 : powN 0 (m + n) = 0 := by unfold powN; rw [if_neg (by omega), if_pos rfl]
    rw [e1, e2, mulN_zero_left]
  have e : ∀ k, k ≠ 0 → powN a k = expN (logN a * (k % 255) % 255) := fun k hk => by unfold powN; rw [if_neg hk, if_neg ha]
  have ne : ∀ k, k ≠ 0 → powN a k ≠ 0 := fun k hk => by rw [e k hk]; have := exp_pos (mod_lt (logN a * (k % 255))); omega
  rw [mulN_pos (ne m hm) (ne n hn), e m hm, e n hn, e (m + n) (by omega), log_exp (mod_lt _), log_exp (mod_lt _), mul_mod_add]
theorem powN_one {a : Nat} (h : a < 256) : powN a 1 = a := by
  by_cases ha : a = 0
  · subst ha; rfl
  · have := log_lt h
    unfold powN; rw [if_neg (by decide), if_neg ha, show (1 : Nat) % 255 = 1 from rfl, Nat.mul_one, Nat.mod_eq_of_lt this, exp_log (by omega) h]
theorem powN_two {a : Nat} (h : a < 256) : powN a 2 = mulN a a := by
  rw [← powN_add h 1 1, powN_one h]
theorem powN_255 {a : Nat} (ha : a ≠ 0) : powN a 255 = 1 := by
  unfold powN; rw [if_neg (by decide), if_neg ha]; rfl
theorem powN_256 {a : Nat} (h : a < 256) : powN a 256 = a := by
  by_cases ha : a = 0
  · subst ha; rfl
  · have := log_lt h
    unfold powN; rw [if_neg (by decide), if_neg ha, show (256 : Nat) % 255 = 1 from rfl, Nat.mul_one, Nat.mod_eq_of_lt this, exp_log (by omega) h]
theorem xor_self_mul {a b : Nat} (ha : a < 256) (hb : b < 256) : mulN (a ^^^ b) (a ^^^ b) = mulN a a ^^^ mulN b b := by
  rw [mulN_xor _ ha hb, mulN_comm (a ^^^ b) a, mulN_comm (a ^^^ b) b, mulN_xor _ ha hb, mulN_xor _ ha hb, mulN_comm b a]
  rw [Nat.xor_assoc, ← Nat.xor_assoc (mulN a b) (mulN a b), Nat.xor_self, Nat.zero_xor]
theorem powN_three_log {a : Nat} (ha : a ≠ 0) (h : a < 256) : powN 3 (logN a) = a := by
  have l3 : logN 3 = 1 := by decide +kernel
  have := log_lt h
  unfold powN
  split
  · rename_i h0
    have := exp_log (a := a) (by omega) h
    rw [h0] at this; exact this
  · rw [if_neg (by decide), l3, Nat.one_mul, Nat.mod_mod, Nat.mod_eq_of_lt this, exp_log (by omega) h]
theorem div_one_div {a : Nat} (ha : a ≠ 0) (h : a < 256) : divN 1 (divN 1 a) = a := by
  have l1 : logN 1 = 0 := by decide +kernel
  have l2 := log_lt h
  have e : ∀ b, divN 1 b = expN ((logN 1 + 255 - logN b) % 255) := fun b => if_neg (by decide)
  rw [e, e, l1, log_exp (mod_lt _)]
  have : (0 + 255 - (0 + 255 - logN a) % 255) % 255 = logN a := by omega
  rw [this, exp_log (by omega) h]
theorem mul_div_one {a : Nat} (ha : a ≠ 0) (h : a < 256) : mulN a (divN 1 a) = 1 := by
  rw [mulN_comm]; exact div_mul (by decide) ha h
end Go.Proofs.YtgiffaeckhhmpaaDoor
namespace Go.Proofs.YtgiffaeckhhmpaaDoor
set_option linter.unusedVariables false
set_option linter.unusedSimpArgs false
open Go.RowKit

/-- A block of cells, known whole; none of it is frozen. -/
def Blk (w : World) (b : Nat) (C : Array Value) (t : TypeId) : Prop := w.heap[b]? = some (.cells C t (0, 0))

theorem Blk.lt {w : World} {b : Nat} {C : Array Value} {t : TypeId} (h : Blk w b C t) : b < w.heap.size := lt_of_block h
theorem Blk.cell {w : World} {b : Nat} {C : Array Value} {t : TypeId} (h : Blk w b C t) (k : Nat) : w.cell? ⟨b, k, none⟩ = C[k]? := by
  unfold Blk at h; simp [World.cell?, h]
theorem Blk.free {w : World} {b : Nat} {C : Array Value} {t : TypeId} (h : Blk w b C t) (k : Nat) : w.frozen? ⟨b, k, none⟩ = false := by
  unfold Blk at h; simp [World.frozen?, h]
theorem Blk.set {w : World} {b : Nat} {C : Array Value} {t : TypeId} (h : Blk w b C t) (k : Nat) (v : Value) : Blk (w.setCell ⟨b, k, none⟩ v) b (C.setIfInBounds k v) t := by
  have hlt := h.lt
  unfold Blk at h ⊢
  have h' : w.heap[b] = .cells C t (0, 0) := by simpa [Array.getElem?_eq_getElem hlt] using h
  show (w.heap.modify b _)[b]? = _
  rw [Array.getElem?_eq_getElem (by simpa using hlt), Array.getElem_modify_self, h']
  rfl
theorem Blk.set_other {w : World} {b : Nat} {C : Array Value} {t : TypeId} (h : Blk w b C t) {a : Addr} (ha : b ≠ a.block) (v : Value) : Blk (w.setCell a v) b C t := by
  unfold Blk at h ⊢; rw [Below.heap_setCell _ _ _ _ ha]; exact h
theorem Blk.alloc {w : World} {b : Nat} {C : Array Value} {t : TypeId} (h : Blk w b C t) (o : Obj) : Blk (w.alloc o) b C t := by
  have hlt := h.lt
  unfold Blk at h ⊢; rw [Below.heap_alloc _ _ _ hlt]; exact h
theorem Blk.drew {w : World} {b : Nat} {C : Array Value} {t : TypeId} (h : Blk w b C t) : Blk w.drew b C t := h
theorem Blk.new (w : World) (C : Array Value) (t : TypeId) : Blk (w.alloc (.cells C t)) w.heap.size C t := by
  show (w.heap.push _)[w.heap.size]? = _
  simp
theorem Blk.below {w w' : World} {b B : Nat} {C : Array Value} {t : TypeId} (h : Blk w b C t) (hb : Below B w w') (hB : b < B) : Blk w' b C t := by
  unfold Blk at h ⊢; rw [hb.block b hB]; exact h

/-- Of what was there only block b may have changed. -/
structure Own (b : Nat) (w w' : World) : Prop where
  os : w'.os = w.os
  tape : w'.tape = w.tape
  output : w'.output = w.output
  size : w.heap.size ≤ w'.heap.size
  block : ∀ k, k < w.heap.size → k ≠ b → w'.heap[k]? = w.heap[k]?

theorem Own.refl (b : Nat) (w : World) : Own b w w := ⟨rfl, rfl, rfl, Nat.le_refl _, fun _ _ _ => rfl⟩
theorem Own.trans {b : Nat} {w w1 w2 : World} (h : Own b w w1) (k : Own b w1 w2) : Own b w w2 :=
  ⟨k.os.trans h.os, k.tape.trans h.tape, k.output.trans h.output, Nat.le_trans h.size k.size, fun i hi hn => (k.block i (Nat.lt_of_lt_of_le hi h.size) hn).trans (h.block i hi hn)⟩
theorem Own.of_below {b : Nat} {w w' : World} (h : Below w.heap.size w w') : Own b w w' := ⟨h.os, h.tape, h.output, h.size, fun k hk _ => h.block k hk⟩
theorem Own.set {b : Nat} {w w1 : World} (h : Own b w w1) (k : Nat) (v : Value) : Own b w (w1.setCell ⟨b, k, none⟩ v) :=
  h.trans ⟨rfl, rfl, rfl, by simp [World.setCell], fun i _ hn => Below.heap_setCell _ _ _ _ hn⟩
theorem Own.alloc {b : Nat} {w w1 : World} (h : Own b w w1) (o : Obj) : Own b w (w1.alloc o) :=
  h.trans ⟨rfl, rfl, rfl, by simp, fun i hi _ => Below.heap_alloc _ _ _ hi⟩
theorem Own.drew {b : Nat} {w w1 : World} (h : Own b w w1) : Own b w w1.drew := ⟨h.os, h.tape, h.output, h.size, h.block⟩
theorem Own.below {b B : Nat} {w w' : World} (h : Own b w w') (hb : B ≤ b) (hs : B ≤ w.heap.size) : Below B w w' :=
  ⟨h.os, h.tape, h.output, h.size, fun k hk => h.block k (by omega) (by omega)⟩
theorem Own.blk {b c : Nat} {w w' : World} {C : Array Value} {t : TypeId} (h : Own b w w') (hc : Blk w c C t) (hn : c ≠ b) : Blk w' c C t := by
  have hlt := hc.lt
  unfold Blk at hc ⊢; rw [h.block c hlt hn]; exact hc
theorem Own.cell {b : Nat} {w w' : World} (h : Own b w w') {a : Addr} {v : Value} (hc : w.cell? a = some v) (hn : a.block ≠ b) : w'.cell? a = some v := by
  have hlt : a.block < w.heap.size := by
    rcases Nat.lt_or_ge a.block w.heap.size with h' | h'
    · exact h'
    · simp [World.cell?, Array.getElem?_eq_none h'] at hc
  rw [← hc]; simp only [World.cell?, h.block a.block hlt hn]
theorem cell_below {w w' : World} (h : Below w.heap.size w w') {a : Addr} {v : Value} (hc : w.cell? a = some v) : w'.cell? a = some v := by
  have hlt : a.block < w.heap.size := by
    rcases Nat.lt_or_ge a.block w.heap.size with h' | h'
    · exact h'
    · simp [World.cell?, Array.getElem?_eq_none h'] at hc
  rw [h.cell hlt]; exact hc
theorem cell_belowB {w w' : World} {B : Nat} (h : Below B w w') {a : Addr} {v : Value} (hB : a.block < B) (hc : w.cell? a = some v) : w'.cell? a = some v := by
  rw [h.cell hB]; exact hc

end Go.Proofs.YtgiffaeckhhmpaaDoor
namespace Go.Proofs.YtgiffaeckhhmpaaDoor
set_option linter.unusedVariables false
set_option linter.unusedSimpArgs false
open Go.RowKit

/-! ### The cells of a table -/
def tabCells (d s : Int) (P L : List Nat) : List Value := [.int .u32 d, .int .i32 s, .int .u32 0] ++ (P.map (fun x : Nat => Value.int .u8 (x : Int)) ++ L.map (fun x : Nat => Value.int .i64 (x : Int)))
theorem tab_0 (d s : Int) (P L : List Nat) : (tabCells d s P L)[0]? = some (.int .u32 d) := rfl
theorem tab_1 (d s : Int) (P L : List Nat) : (tabCells d s P L)[1]? = some (.int .i32 s) := rfl
theorem tab_2 (d s : Int) (P L : List Nat) : (tabCells d s P L)[2]? = some (.int .u32 0) := rfl
theorem tab_p (d s : Int) {P : List Nat} (L : List Nat) {i x : Nat} (hi : P[i]? = some x) : (tabCells d s P L)[3 + i]? = some (.int .u8 (x : Int)) := by
  have hl : i < P.length := by
    rcases Nat.lt_or_ge i P.length with h | h
    · exact h
    · rw [List.getElem?_eq_none h] at hi; cases hi
  unfold tabCells
  rw [List.getElem?_append_right (by simp), show 3 + i - [Value.int .u32 d, .int .i32 s, .int .u32 0].length = i from by simp,
    List.getElem?_append_left (by simpa using hl), List.getElem?_map, hi]
  rfl
theorem tab_l (d s : Int) {P L : List Nat} (hP : P.length = 255) {i x : Nat} (hi : L[i]? = some x) : (tabCells d s P L)[258 + i]? = some (.int .i64 (x : Int)) := by
  unfold tabCells
  rw [List.getElem?_append_right (by simp; omega), show 258 + i - [Value.int .u32 d, .int .i32 s, .int .u32 0].length = 255 + i from by simp; omega,
    List.getElem?_append_right (by simp [hP]), show 255 + i - (P.map (fun x : Nat => Value.int .u8 (x : Int))).length = i from by simp [hP], List.getElem?_map, hi]
  rfl
theorem tab_set_d (d d' s : Int) (P L : List Nat) : (tabCells d s P L).set 0 (.int .u32 d') = tabCells d' s P L := rfl
theorem tab_set_s (d s s' : Int) (P L : List Nat) : (tabCells d s P L).set 1 (.int .i32 s') = tabCells d s' P L := rfl
theorem tab_set_p (d s : Int) (P L : List Nat) (i x : Nat) (hi : i < P.length) : (tabCells d s P L).set (3 + i) (.int .u8 (x : Int)) = tabCells d s (P.set i x) L := by
  unfold tabCells
  rw [List.set_append_right _ _ (by simp), show 3 + i - [Value.int .u32 d, .int .i32 s, .int .u32 0].length = i from by simp, List.set_append_left _ _ (by simpa using hi), List.map_set]
theorem tab_set_l (d s : Int) (P L : List Nat) (hP : P.length = 255) (i x : Nat) : (tabCells d s P L).set (258 + i) (.int .i64 (x : Int)) = tabCells d s P (L.set i x) := by
  unfold tabCells
  rw [List.set_append_right _ _ (by simp; omega), show 258 + i - [Value.int .u32 d, .int .i32 s, .int .u32 0].length = 255 + i from by simp; omega, List.set_append_right _ _ (by simp [hP]),
    show 255 + i - (P.map (fun x : Nat => Value.int .u8 (x : Int))).length = i from by simp [hP], List.map_set]
theorem set_toArray (xs : List Value) (k : Nat) (v : Value) : xs.toArray.setIfInBounds k v = (xs.set k v).toArray := by simp

/-! ### The lock, and the Once's flag -/
theorem disable (w : World) : (callFunc 76 #[]).run Tryd.prog w = .ok (.value (.tuple #[])) w := run_call_mark0 Tryd.func76 (by kernel_rfl) (by kernel_rfl) (by kernel_rfl) .disable (by kernel_rfl) w
theorem enable (w : World) : (callFunc 78 #[]).run Tryd.prog w = .ok (.value (.tuple #[])) w := run_call_mark0 Tryd.func78 (by kernel_rfl) (by kernel_rfl) (by kernel_rfl) .enable (by kernel_rfl) w
theorem acquire (a : Addr) (w : World) : (callFunc 79 #[.pointer (some a)]).run Tryd.prog w = .ok (.value (.tuple #[])) w := run_call_marked Tryd.func79 (by kernel_rfl) (by kernel_rfl) (by kernel_rfl) .acquire (by kernel_rfl) a w
theorem releaseMerge (a : Addr) (w : World) : (callFunc 81 #[.pointer (some a)]).run Tryd.prog w = .ok (.value (.tuple #[])) w := run_call_marked Tryd.func81 (by kernel_rfl) (by kernel_rfl) (by kernel_rfl) .releaseMerge (by kernel_rfl) a w

set_option maxRecDepth 100000 in
theorem flag_deferred (a : Addr) (x : Value) (u : FrameMode) (w : World) (hc : w.cell? a = some x) (hz : w.frozen? a = false) :
    CallsD Tryd.prog 71 #[.pointer (some a), .bool true] u w fun e u' w' => u' = u ∧ (e = .returned (.tuple #[]) ∧ w' = w.drew.setCell a (.int .u32 1)) := by
  have hc' : w.drew.cell? a = some x := by go_simp
  have hz' : w.drew.frozen? a = false := by go_simp
  have hst := run_call_store (P := Tryd.prog) Tryd.func74 (by kernel_rfl) (by kernel_rfl) (by kernel_rfl) (by kernel_rfl) (k := .u32) (y := 1) hc' hz'
  go_enter_d Tryd.func71, Tryd.ntmps71
  go_wp2
  go_region_calls
  all_goals (go_end0; exact ⟨rfl, rfl⟩)

set_option maxRecDepth 100000 in
theorem unlock_deferred (a : Addr) (u : FrameMode) (w : World) (hc : w.cell? a = some (.int .i32 1)) (hz : w.frozen? a = false) :
    CallsD Tryd.prog 70 #[.pointer (some a)] u w fun e u' w' => u' = u ∧ (e = .returned (.tuple #[]) ∧ w' = w.setCell a (.int .i32 0)) := by
  have hd := disable
  have he := enable
  have hr := releaseMerge
  have hadd := run_call_add (P := Tryd.prog) Tryd.func82 (by kernel_rfl) (by kernel_rfl) (by kernel_rfl) .i32 (by kernel_rfl) (y := -1) (s := 0) hc hz (by simp [go_sem]; rfl)
  have hcv := run_convert_to_unsafe (P := Tryd.prog) (src := 151) (dst := 99) Tryd.underlying151 Tryd.underlying99 (by kernel_rfl) hc
  go_enter_d Tryd.func70, Tryd.ntmps70
  go_wp2
  go_end0
  go_wp2
  go_end0
  exact ⟨rfl, rfl⟩

set_option maxRecDepth 100000 in
theorem lock_free (a : Addr) (w : World) (hc : w.cell? a = some (.int .i32 0)) (hz : w.frozen? a = false) :
    Calls Tryd.prog 69 #[.pointer (some a)] w fun e w' => e = .returned (.tuple #[]) ∧ w' = w.setCell a (.int .i32 1) := by
  have hd := disable
  have he := enable
  have ha := acquire
  have hcas := run_call_cas_hit (P := Tryd.prog) Tryd.func77 (by kernel_rfl) (by kernel_rfl) (by kernel_rfl) .i32 (by kernel_rfl) (y := 1) hc hz
  have hc' : (w.setCell a (.int .i32 1)).cell? a = some (.int .i32 1) := World.cell?_setCell_same w a _ hc
  have hcv := run_convert_to_unsafe (P := Tryd.prog) (src := 151) (dst := 99) Tryd.underlying151 Tryd.underlying99 (by kernel_rfl) hc'
  go_enter Tryd.func69, Tryd.ntmps69
  go_wp2
  first | go_end0 | (simp only [Exit.inBlock, Exit.then]; refine bodyPost_ret (results_none rfl _ _ _) rfl ?_) | refine bodyPost_ret (results_none rfl _ _ _) rfl ?_
  go_wp2
  go_end0
  exact ⟨rfl, rfl⟩

set_option maxRecDepth 100000 in
theorem flag_load (a : Addr) (d : Int) (t : Bool) (w : World) (h0 : w.cell? a = some (.int .u32 d)) (ht : (d != 0) = t) :
    Calls Tryd.prog 64 #[.pointer (some a)] w fun e w' => e = .returned (.bool t) ∧ w = w' := by
  have hl := run_call_load (P := Tryd.prog) Tryd.func68 (by kernel_rfl) (by kernel_rfl) (by kernel_rfl) .u32 (by kernel_rfl) h0
  have Ht : Hid _ := ht
  clear ht
  go_enter Tryd.func64, Tryd.ntmps64
  go_wp2
  go_ret
  exact ⟨by rw [← Ht.out]; rfl, rfl⟩

/-! ### Triples, and the reckoning -/
theorem trip_hi {a : Nat} (h : 128 ≤ a) (h2 : a < 256) : trip a = ((2 * a - 256) ^^^ 27) ^^^ a := by unfold trip; rw [if_neg (by omega)]
theorem trip_lo {a : Nat} (h : a < 128) : trip a = (2 * a) ^^^ a := by unfold trip; rw [if_pos h]

end Go.Proofs.YtgiffaeckhhmpaaDoor
namespace Go.Proofs.YtgiffaeckhhmpaaDoor
set_option linter.unusedVariables false
set_option linter.unusedSimpArgs false
open Go.RowKit

set_option maxHeartbeats 400000 in
theorem triple_any (a : Nat) (w : World) (h : a < 256) :
    Calls Tryd.prog 66 #[.int .u8 a] w fun e w' => e = .returned (.int .u8 (trip a)) ∧ w = w' := by
  by_cases h1 : a < 128
  · have e1 : bits .and .u8 (a : Int) 128 = 0 := by
      have := u8_and_nat a 128 h (by decide)
      rw [show ((128 : Nat) : Int) = 128 from rfl] at this
      rw [this, show (128 : Nat) = 2 ^ 7 from rfl, nat_bit 7 a]; simp; omega
    have e2 : bits .xor .u8 ((a : Int) * 2) (a : Int) = (trip a : Int) := by
      rw [trip_lo h1, show ((a : Int) * 2) = ((2 * a : Nat) : Int) from by omega, u8_xor_nat (2 * a) a (by omega) h]
    go_enter Tryd.func66, Tryd.ntmps66
    go_wp2
    go_ret
    exact ⟨rfl, rfl⟩
  · have e1 : bits .and .u8 (a : Int) 128 = 128 := by
      have := u8_and_nat a 128 h (by decide)
      rw [show ((128 : Nat) : Int) = 128 from rfl] at this
      rw [this, show (128 : Nat) = 2 ^ 7 from rfl, nat_bit 7 a]; simp; omega
    have e0 : IntKind.u8.wrap ((a : Int) * 2) = ((2 * a - 256 : Nat) : Int) := by rw [IntKind.wrap_u8]; omega
    have e3 : bits .xor .u8 ((2 * a - 256 : Nat) : Int) 27 = (((2 * a - 256) ^^^ 27 : Nat) : Int) := u8_xor_nat (2 * a - 256) 27 (by omega) (by decide)
    have e2 : bits .xor .u8 (((2 * a - 256) ^^^ 27 : Nat) : Int) (a : Int) = (trip a : Int) := by
      rw [trip_hi (by omega) h, u8_xor_nat _ a (xor_lt (by omega) (by decide)) h]
    generalize 2 * a - 256 = q at *
    generalize q ^^^ 27 = r at *
    go_enter Tryd.func66, Tryd.ntmps66
    go_wp2
    go_ret
    exact ⟨rfl, rfl⟩

/-- The powers, and the logarithms, behind k rounds. -/
def Pk (k : Nat) : List Nat := (List.range k).foldl (fun l j => l.set j (expN j)) (List.replicate 255 0)
def Lk (k : Nat) : List Nat := (List.range k).foldl (fun l j => l.set (expN j) j) (List.replicate 256 0)
theorem Pk_succ (k : Nat) : Pk (k + 1) = (Pk k).set k (expN k) := by unfold Pk; rw [List.range_succ, List.foldl_append]; rfl
theorem Lk_succ (k : Nat) : Lk (k + 1) = (Lk k).set (expN k) k := by unfold Lk; rw [List.range_succ, List.foldl_append]; rfl
theorem Pk_len : ∀ k, (Pk k).length = 255
  | 0 => List.length_replicate
  | k + 1 => by rw [Pk_succ, List.length_set, Pk_len k]
theorem Lk_len : ∀ k, (Lk k).length = 256
  | 0 => List.length_replicate
  | k + 1 => by rw [Lk_succ, List.length_set, Lk_len k]
theorem P_at {i : Nat} (h : i < 255) : (Pk 255)[i]? = some (expN i) := by
  have k : (List.range 255).all (fun i => (Pk 255)[i]? == some (expN i)) = true := by decide +kernel
  exact beq_iff_eq.1 (List.all_eq_true.1 k i (List.mem_range.2 h))
theorem L_at {a : Nat} (h : a < 256) : (Lk 255)[a]? = some (logN a) := by
  have k : (List.range 256).all (fun a => (Lk 255)[a]? == some (logN a)) = true := by decide +kernel
  exact beq_iff_eq.1 (List.all_eq_true.1 k a (List.mem_range.2 h))

/-- A table in a block of its own: the flag, the lock, the powers, the logarithms. -/
def Tab (w : World) (b : Nat) (d s : Int) (P L : List Nat) : Prop := Blk w b (tabCells d s P L).toArray 79 ∧ P.length = 255 ∧ L.length = 256

theorem Tab.cell {w : World} {b : Nat} {d s : Int} {P L : List Nat} (h : Tab w b d s P L) (k : Nat) : w.cell? ⟨b, k, none⟩ = (tabCells d s P L)[k]? := by
  rw [Blk.cell h.1 k]; simp
theorem Tab.some {w : World} {b : Nat} {d s : Int} {P L : List Nat} (h : Tab w b d s P L) {k : Nat} (hk : k < 514) : ∃ v, w.cell? ⟨b, k, none⟩ = some v := by
  have hl : (tabCells d s P L).length = 514 := by unfold tabCells; simp [h.2.1, h.2.2]
  rw [h.cell k, List.getElem?_eq_getElem (by omega)]; exact ⟨_, rfl⟩
theorem Tab.set_p {w : World} {b : Nat} {d s : Int} {P L : List Nat} (h : Tab w b d s P L) (i x : Nat) (hi : i < 255) : Tab (w.setCell ⟨b, 3 + i, none⟩ (.int .u8 (x : Int))) b d s (P.set i x) L := by
  refine ⟨?_, by rw [List.length_set]; exact h.2.1, h.2.2⟩
  have := Blk.set h.1 (3 + i) (.int .u8 (x : Int))
  rw [set_toArray, tab_set_p d s P L i x (by rw [h.2.1]; exact hi)] at this; exact this
theorem Tab.set_l {w : World} {b : Nat} {d s : Int} {P L : List Nat} (h : Tab w b d s P L) (i x : Nat) : Tab (w.setCell ⟨b, 258 + i, none⟩ (.int .i64 (x : Int))) b d s P (L.set i x) := by
  refine ⟨?_, h.2.1, by rw [List.length_set]; exact h.2.2⟩
  have := Blk.set h.1 (258 + i) (.int .i64 (x : Int))
  rw [set_toArray, tab_set_l d s P L h.2.1 i x] at this; exact this
theorem Tab.set_s {w : World} {b : Nat} {d s : Int} {P L : List Nat} (h : Tab w b d s P L) (s' : Int) : Tab (w.setCell ⟨b, 1, none⟩ (.int .i32 s')) b d s' P L := by
  refine ⟨?_, h.2⟩
  have := Blk.set h.1 1 (.int .i32 s')
  rw [set_toArray, tab_set_s] at this; exact this
theorem Tab.set_d {w : World} {b : Nat} {d s : Int} {P L : List Nat} (h : Tab w b d s P L) (d' : Int) : Tab (w.setCell ⟨b, 0, none⟩ (.int .u32 d')) b d' s P L := by
  refine ⟨?_, h.2⟩
  have := Blk.set h.1 0 (.int .u32 d')
  rw [set_toArray, tab_set_d] at this; exact this

/-- At the head of each round. -/
def RInv (b : Nat) (w0 : World) (d s : Int) (p i : Value) (wr : World) : Prop :=
  ∃ k : Nat, k ≤ 255 ∧ i = .int .i64 k ∧ p = .int .u8 (expN k) ∧ Tab wr b d s (Pk k) (Lk k) ∧ Own b w0 wr

set_option maxRecDepth 100000 in
set_option maxHeartbeats 1000000 in
theorem reckon_any (b : Nat) (d s : Int) (w : World) (h : Tab w b d s (Pk 0) (Lk 0)) :
    Calls Tryd.prog 59 #[.pointer (some ⟨b, 0, none⟩)] w fun e w' => e = .returned (.tuple #[]) ∧ Tab w' b d s (Pk 255) (Lk 255) ∧ Own b w w' := by
  go_enter Tryd.func59, Tryd.ntmps59
  go_wp2_with fail
  go_loopw [2, 4] (fun p i wr => RInv b w d s p i wr) (fun _ i _ => 255 - (intOf i).toNat)
  case atStart => exact ⟨0, by omega, rfl, rfl, h, Own.refl _ _⟩
  case round =>
    obtain ⟨k, hk, rfl, rfl, hT, hO⟩ := hrel
    by_cases hlt : k < 255
    · have hx := expN_lt k
      obtain ⟨v1, c1⟩ := hT.some (k := 3 + k) (by omega)
      have f1 : wr.frozen? ⟨b, 3 + k, none⟩ = false := Blk.free hT.1 (3 + k)
      have hT1 := hT.set_p k (expN k) hlt
      obtain ⟨v2, c2⟩ := hT1.some (k := 258 + expN k) (by omega)
      have f2 : (wr.setCell ⟨b, 3 + k, none⟩ (.int .u8 (expN k))).frozen? ⟨b, 258 + expN k, none⟩ = false := Blk.free hT1.1 (258 + expN k)
      have hT2 := hT1.set_l (expN k) k
      rw [← Pk_succ, ← Lk_succ] at hT2
      go_wp2_with fail
      refine (triple_any _ _ hx).mono ?_
      rintro e w' ⟨rfl, rfl⟩
      go_wp2_with fail
      go_roundw
      case rel => exact ⟨k + 1, by omega, by go_num, rfl, hT2, (hO.set _ _).set _ _⟩
      case measure => simp [intOf]; omega
    · obtain rfl : k = 255 := by omega
      go_wp2_with fail
      go_end0
      exact ⟨rfl, hT, hO⟩

end Go.Proofs.YtgiffaeckhhmpaaDoor
namespace Go.Proofs.YtgiffaeckhhmpaaDoor
set_option linter.unusedVariables false
set_option linter.unusedSimpArgs false
open Go.RowKit

set_option maxRecDepth 100000 in
set_option maxHeartbeats 1600000 in
theorem slow_any (b : Nat) (w : World) (h : Tab w b 0 0 (Pk 0) (Lk 0)) :
    Calls Tryd.prog 65 #[.pointer (some ⟨b, 0, none⟩), .func (.func 59) #[.pointer (some ⟨b, 0, none⟩)] #[]] w fun e w' => e = .returned (.tuple #[]) ∧ Tab w' b 1 0 (Pk 255) (Lk 255) ∧ Own b w w' := by
  have c1 : w.cell? ⟨b, 1, none⟩ = some (.int .i32 0) := h.cell 1
  have f1 : w.frozen? ⟨b, 1, none⟩ = false := Blk.free h.1 1
  have h1 := h.set_s 1
  have c0 : (w.setCell ⟨b, 1, none⟩ (.int .i32 1)).cell? ⟨b, 0, none⟩ = some (.int .u32 0) := h1.cell 0
  have hnot : ∀ (x : Bool) (w : World), (Op.unary .not (.bool x)).run Tryd.prog w = .ok (.bool (!x)) w := fun _ _ => rfl
  go_enter_defers Tryd.func65, Tryd.ntmps65
  go_wp2_with fail
  refine (lock_free ⟨b, 1, none⟩ _ c1 f1).mono ?_
  rintro e w' ⟨rfl, rfl⟩
  go_wp2_with fail
  refine (flag_load _ 0 false _ c0 rfl).mono ?_
  rintro e w' ⟨rfl, rfl⟩
  go_wp2_with fail
  refine (reckon_any b 0 1 _ h1).mono ?_
  rintro e w2 ⟨rfl, hT2, hO2⟩
  go_wp2_with fail
  refine leaves_cons (f := 71) (args := #[.pointer (some ⟨b, 0, none⟩), .bool true]) (by simp) (by simp [go_sem]) ?_
  refine (flag_deferred ⟨b, 0, none⟩ (.int .u32 0) .returning _ (hT2.cell 0) (Blk.free hT2.1 0)).mono ?_
  rintro e u' w'' ⟨rfl, rfl, rfl⟩
  have hT3 : Tab (w2.drew.setCell ⟨b, 0, none⟩ (.int .u32 1)) b 1 1 (Pk 255) (Lk 255) := Tab.set_d (w := w2.drew) hT2 1
  refine leaves_cons (f := 70) (args := #[.pointer (some ⟨b, 1, none⟩)]) (by simp [settle]) (by simp [go_sem]) ?_
  refine (unlock_deferred ⟨b, 1, none⟩ _ _ (hT3.cell 1) (Blk.free hT3.1 1)).mono ?_
  rintro e u' w'' ⟨rfl, rfl, rfl⟩
  simp [Leaves, settle, results, Tryd.results65]
  exact ⟨hT3.set_s 0, ((((Own.refl b w).set 1 _).trans hO2).drew.set 0 _).set 1 _⟩

/-- A table that was not asked yet, or is reckoned. -/
def TabIn (w : World) (b : Nat) : Prop := Tab w b 0 0 (Pk 0) (Lk 0) ∨ Tab w b 1 0 (Pk 255) (Lk 255)
theorem TabIn.own {w w' : World} {b c : Nat} (h : TabIn w b) (hO : Own c w w') (hn : b ≠ c) : TabIn w' b :=
  h.elim (fun t => .inl ⟨hO.blk t.1 hn, t.2⟩) (fun t => .inr ⟨hO.blk t.1 hn, t.2⟩)
theorem TabIn.lt {w : World} {b : Nat} (h : TabIn w b) : b < w.heap.size := h.elim (fun t => Blk.lt t.1) (fun t => Blk.lt t.1)
theorem TabIn.below {w w' : World} {b : Nat} (h : TabIn w b) (hO : Below w.heap.size w w') : TabIn w' b :=
  h.elim (fun t => .inl ⟨Blk.below t.1 hO (Blk.lt t.1), t.2⟩) (fun t => .inr ⟨Blk.below t.1 hO (Blk.lt t.1), t.2⟩)

set_option maxRecDepth 100000 in
set_option maxHeartbeats 1600000 in
theorem do_first (b : Nat) (w : World) (h : Tab w b 0 0 (Pk 0) (Lk 0)) :
    Calls Tryd.prog 58 #[.pointer (some ⟨b, 0, none⟩), .func (.func 59) #[.pointer (some ⟨b, 0, none⟩)] #[]] w fun e w' => e = .returned (.tuple #[]) ∧ Tab w' b 1 0 (Pk 255) (Lk 255) ∧ Own b w w' := by
  have hnot : ∀ (x : Bool) (w : World), (Op.unary .not (.bool x)).run Tryd.prog w = .ok (.bool (!x)) w := fun _ _ => rfl
  go_enter Tryd.func58, Tryd.ntmps58
  go_wp2_with fail
  refine (flag_load _ 0 false _ (h.cell 0) rfl).mono ?_
  rintro e w' ⟨rfl, rfl⟩
  go_wp2_with fail
  refine (slow_any b _ h).mono ?_
  rintro e w2 ⟨rfl, hT, hO⟩
  go_wp2_with fail
  go_end0
  exact ⟨rfl, hT, hO⟩

set_option maxHeartbeats 800000 in
theorem do_done (b : Nat) (f : Value) (w : World) (h : Tab w b 1 0 (Pk 255) (Lk 255)) :
    Calls Tryd.prog 58 #[.pointer (some ⟨b, 0, none⟩), f] w fun e w' => e = .returned (.tuple #[]) ∧ w = w' := by
  have hnot : ∀ (x : Bool) (w : World), (Op.unary .not (.bool x)).run Tryd.prog w = .ok (.bool (!x)) w := fun _ _ => rfl
  go_enter Tryd.func58, Tryd.ntmps58
  go_wp2_with fail
  refine (flag_load _ 1 true _ (h.cell 0) rfl).mono ?_
  rintro e w' ⟨rfl, rfl⟩
  go_wp2_with fail
  go_end0
  exact ⟨rfl, rfl⟩

set_option maxRecDepth 100000 in
set_option maxHeartbeats 800000 in
theorem ready_any (b : Nat) (w : World) (h : TabIn w b) :
    Calls Tryd.prog 47 #[.pointer (some ⟨b, 0, none⟩)] w fun e w' => e = .returned (.tuple #[]) ∧ Tab w' b 1 0 (Pk 255) (Lk 255) ∧ Own b w w' := by
  have hmf : ∀ (fn : Fn) (first cap : Array Value) (w : World), (Instr.makeFunc fn first cap).run Tryd.prog w = .ok (.func fn first cap) w := fun _ _ _ _ => rfl
  rcases h with h | h
  · obtain ⟨v0, c0⟩ := h.some (k := 0) (by omega)
    go_enter Tryd.func47, Tryd.ntmps47
    go_wp2_with fail
    refine (do_first b _ h).mono ?_
    rintro e w2 ⟨rfl, hT, hO⟩
    go_wp2_with fail
    go_end0
    exact ⟨rfl, hT, hO⟩
  · go_enter Tryd.func47, Tryd.ntmps47
    go_wp2_with fail
    refine (do_done b _ _ h).mono ?_
    rintro e w2 ⟨rfl, rfl⟩
    go_wp2_with fail
    go_end0
    exact ⟨rfl, h, Own.refl _ _⟩

end Go.Proofs.YtgiffaeckhhmpaaDoor
namespace Go.Proofs.YtgiffaeckhhmpaaDoor
set_option linter.unusedVariables false
set_option linter.unusedSimpArgs false
open Go.RowKit

theorem Own.drewN {b : Nat} {w w1 : World} (h : Own b w w1) (n : Nat) : Own b w (w1.drewN n) := ⟨h.os, h.tape, h.output, h.size, h.block⟩

/-- What an operation leaves: a table that is there still, nothing else turned. -/
def Left (b : Nat) (w w' : World) : Prop := TabIn w' b ∧ Own b w w'

set_option maxHeartbeats 400000 in
theorem add_any (a c : Nat) (w : World) (ha : a < 256) (hc : c < 256) :
    Calls Tryd.prog 34 #[.int .u8 a, .int .u8 c] w fun e w' => e = .returned (.int .u8 (a ^^^ c : Nat)) ∧ w = w' := by
  have e1 : bits .xor .u8 (a : Int) (c : Int) = ((a ^^^ c : Nat) : Int) := u8_xor_nat a c ha hc
  go_enter Tryd.func34, Tryd.ntmps34
  go_wp2
  go_ret
  exact ⟨rfl, rfl⟩

set_option maxHeartbeats 400000 in
theorem mul_zero_left (b : Nat) (c : Nat) (w : World) :
    Calls Tryd.prog 35 #[.pointer (some ⟨b, 0, none⟩), .int .u8 0, .int .u8 c] w fun e w' => e = .returned (.int .u8 0) ∧ w = w' := by
  go_enter Tryd.func35, Tryd.ntmps35
  go_wp2_with fail
  go_ret
  exact ⟨rfl, rfl⟩

set_option maxHeartbeats 400000 in
theorem mul_zero_right (b : Nat) (a : Nat) (w : World) :
    Calls Tryd.prog 35 #[.pointer (some ⟨b, 0, none⟩), .int .u8 a, .int .u8 0] w fun e w' => e = .returned (.int .u8 0) ∧ w = w' := by
  by_cases h : a = 0
  · subst h; exact mul_zero_left b 0 w
  · have h1 : ((a : Int) == 0) = false := by rw [beq_eq_false_iff_ne]; omega
    clear h
    go_enter Tryd.func35, Tryd.ntmps35
    go_wp2_with fail
    go_ret
    exact ⟨rfl, rfl⟩

set_option maxRecDepth 100000 in
set_option maxHeartbeats 1600000 in
theorem mul_pos (b : Nat) (a c : Nat) (w : World) (h : TabIn w b) (ha : a < 256) (hc : c < 256) (ha0 : a ≠ 0) (hc0 : c ≠ 0) :
    Calls Tryd.prog 35 #[.pointer (some ⟨b, 0, none⟩), .int .u8 a, .int .u8 c] w fun e w' => e = .returned (.int .u8 (mulN a c)) ∧ Left b w w' := by
  have h1 : ((a : Int) == 0) = false := by rw [beq_eq_false_iff_ne]; omega
  have h2 : ((c : Int) == 0) = false := by rw [beq_eq_false_iff_ne]; omega
  rw [mulN_pos ha0 hc0]
  clear ha0 hc0
  go_enter Tryd.func35, Tryd.ntmps35
  go_wp2_with fail
  refine (ready_any b _ h).mono ?_
  rintro e w2 ⟨rfl, hT, hO⟩
  have l1 := log_lt ha
  have l2 := log_lt hc
  have c1 : w2.cell? ⟨b, 258 + a, none⟩ = some (.int .i64 (logN a)) := (hT.cell (258 + a)).trans (tab_l 1 0 hT.2.1 (L_at ha))
  have c2 : w2.cell? ⟨b, 258 + c, none⟩ = some (.int .i64 (logN c)) := (hT.cell (258 + c)).trans (tab_l 1 0 hT.2.1 (L_at hc))
  have c3 : w2.cell? ⟨b, 3 + (logN a + logN c) % 255, none⟩ = some (.int .u8 (expN ((logN a + logN c) % 255))) := (hT.cell _).trans (tab_p 1 0 _ (P_at (mod_lt _)))
  go_wp2_with fail
  go_quiet (fail)
  go_wp2_with fail
  go_ret
  exact ⟨rfl, .inr hT, hO.drewN _⟩

theorem mul_any (b : Nat) (a c : Nat) (w : World) (h : TabIn w b) (ha : a < 256) (hc : c < 256) :
    Calls Tryd.prog 35 #[.pointer (some ⟨b, 0, none⟩), .int .u8 a, .int .u8 c] w fun e w' => e = .returned (.int .u8 (mulN a c)) ∧ Left b w w' := by
  by_cases ha0 : a = 0
  · subst ha0; rw [mulN_zero_left]
    exact (mul_zero_left b c w).mono fun e w' ⟨he, hw⟩ => by subst hw; exact ⟨he, h, Own.refl _ _⟩
  · by_cases hc0 : c = 0
    · subst hc0; rw [mulN_zero_right]
      exact (mul_zero_right b a w).mono fun e w' ⟨he, hw⟩ => by subst hw; exact ⟨he, h, Own.refl _ _⟩
    · exact mul_pos b a c w h ha hc ha0 hc0

theorem mul_is {b a c x : Nat} (w : World) (h : TabIn w b) (ha : a < 256) (hc : c < 256) (hx : mulN a c = x) :
    Calls Tryd.prog 35 #[.pointer (some ⟨b, 0, none⟩), .int .u8 a, .int .u8 c] w fun e w' => e = .returned (.int .u8 x) ∧ Left b w w' := by
  subst hx; exact mul_any b a c w h ha hc

set_option maxHeartbeats 400000 in
theorem div_zero (b : Nat) (a : Nat) (w : World) :
    Calls Tryd.prog 67 #[.pointer (some ⟨b, 0, none⟩), .int .u8 a, .int .u8 0] w fun e w' => e = .returned (.tuple #[.int .u8 0, .iface 83 (.int .i64 1)]) ∧ w = w' := by
  go_enter Tryd.func67, Tryd.ntmps67
  go_wp2_with fail
  go_ret2
  exact ⟨rfl, rfl⟩

set_option maxHeartbeats 400000 in
theorem div_none (b : Nat) (c : Nat) (w : World) (hc0 : c ≠ 0) :
    Calls Tryd.prog 67 #[.pointer (some ⟨b, 0, none⟩), .int .u8 0, .int .u8 c] w fun e w' => e = .returned (.tuple #[.int .u8 0, .nilIface]) ∧ w = w' := by
  have h2 : ((c : Int) == 0) = false := by rw [beq_eq_false_iff_ne]; omega
  clear hc0
  go_enter Tryd.func67, Tryd.ntmps67
  go_wp2_with fail
  go_ret2
  exact ⟨rfl, rfl⟩

set_option maxRecDepth 100000 in
set_option maxHeartbeats 1600000 in
theorem div_pos (b : Nat) (a c : Nat) (w : World) (h : TabIn w b) (ha : a < 256) (hc : c < 256) (ha0 : a ≠ 0) (hc0 : c ≠ 0) :
    Calls Tryd.prog 67 #[.pointer (some ⟨b, 0, none⟩), .int .u8 a, .int .u8 c] w fun e w' => e = .returned (.tuple #[.int .u8 (divN a c), .nilIface]) ∧ Left b w w' := by
  have h1 : ((a : Int) == 0) = false := by rw [beq_eq_false_iff_ne]; omega
  have h2 : ((c : Int) == 0) = false := by rw [beq_eq_false_iff_ne]; omega
  rw [show divN a c = expN ((logN a + 255 - logN c) % 255) from if_neg ha0]
  clear ha0 hc0
  go_enter Tryd.func67, Tryd.ntmps67
  go_wp2_with fail
  refine (ready_any b _ h).mono ?_
  rintro e w2 ⟨rfl, hT, hO⟩
  have l1 := log_lt ha
  have l2 := log_lt hc
  have c1 : w2.cell? ⟨b, 258 + a, none⟩ = some (.int .i64 (logN a)) := (hT.cell (258 + a)).trans (tab_l 1 0 hT.2.1 (L_at ha))
  have c2 : w2.cell? ⟨b, 258 + c, none⟩ = some (.int .i64 (logN c)) := (hT.cell (258 + c)).trans (tab_l 1 0 hT.2.1 (L_at hc))
  have c3 : w2.cell? ⟨b, 3 + (logN a + 255 - logN c) % 255, none⟩ = some (.int .u8 (expN ((logN a + 255 - logN c) % 255))) := (hT.cell _).trans (tab_p 1 0 _ (P_at (mod_lt _)))
  go_wp2_with fail
  go_quiet (fail)
  go_wp2_with fail
  go_ret2
  exact ⟨rfl, .inr hT, hO.drewN _⟩

theorem div_any (b : Nat) (a c : Nat) (w : World) (h : TabIn w b) (ha : a < 256) (hc : c < 256) (hc0 : c ≠ 0) :
    Calls Tryd.prog 67 #[.pointer (some ⟨b, 0, none⟩), .int .u8 a, .int .u8 c] w fun e w' => e = .returned (.tuple #[.int .u8 (divN a c), .nilIface]) ∧ Left b w w' := by
  by_cases ha0 : a = 0
  · subst ha0; rw [show divN 0 c = 0 from if_pos rfl]
    exact (div_none b c w hc0).mono fun e w' ⟨he, hw⟩ => by subst hw; exact ⟨he, h, Own.refl _ _⟩
  · exact div_pos b a c w h ha hc ha0 hc0

end Go.Proofs.YtgiffaeckhhmpaaDoor
namespace Go.Proofs.YtgiffaeckhhmpaaDoor
set_option linter.unusedVariables false
set_option linter.unusedSimpArgs false
open Go.RowKit

/-- The cells of a new table. -/
def zeroT : Array Value := (tabCells 0 0 (Pk 0) (Lk 0)).toArray
theorem zero_run (w : World) : (zeroValue 79).run Tryd.prog w = .ok (.agg zeroT) w := by kernel_rfl

set_option maxRecDepth 100000 in
set_option maxHeartbeats 1600000 in
theorem gfnew_any (w : World) :
    Calls Tryd.prog 6 #[] w fun e w' => e = .returned (.pointer (some ⟨w.heap.size, 0, none⟩)) ∧ TabIn w' w.heap.size ∧ Below w.heap.size w w' := by
  have hz := zero_run
  go_enter Tryd.func6, Tryd.ntmps6
  go_wp2_with fail
  go_ret
  exact ⟨rfl, .inl ⟨Blk.new _ _ _, Pk_len 0, Lk_len 0⟩, (Below.refl _ _).alloc (Nat.le_refl _) _⟩
end Go.Proofs.YtgiffaeckhhmpaaDoor
namespace Go.Proofs.YtgiffaeckhhmpaaDoor
set_option linter.unusedVariables false
set_option linter.unusedSimpArgs false
open Go.RowKit

/-- A byte. -/
def B8 (a : Int) : Prop := 0 ≤ a ∧ a < 256
def mulI (a c : Int) : Int := (mulN a.toNat c.toNat : Nat)
def xorI (a c : Int) : Int := (a.toNat ^^^ c.toNat : Nat)
def divI (a c : Int) : Int := (divN a.toNat c.toNat : Nat)
def powI (a n : Int) : Int := (powN a.toNat n.toNat : Nat)
def logI (a : Int) : Int := (logN a.toNat : Nat)

theorem B8.nat {a : Int} (h : B8 a) : ∃ n : Nat, n < 256 ∧ a = n := ⟨a.toNat, by unfold B8 at h; omega, by unfold B8 at h; omega⟩
theorem B8.lt {a : Int} (h : B8 a) : a.toNat < 256 := by unfold B8 at h; omega
theorem B8_nat {n : Nat} (h : n < 256) : B8 (n : Int) := by unfold B8; omega
theorem B8_mul (a c : Int) : B8 (mulI a c) := B8_nat (mulN_lt _ _)
theorem B8_xor {a c : Int} (ha : B8 a) (hc : B8 c) : B8 (xorI a c) := B8_nat (xor_lt ha.lt hc.lt)
theorem B8_div (a c : Int) : B8 (divI a c) := B8_nat (divN_lt _ _)
theorem B8_pow (a n : Int) : B8 (powI a n) := B8_nat (powN_lt _ _)
theorem logI_bd {a : Int} (h : B8 a) : 0 ≤ logI a ∧ logI a < 255 := by have := log_lt h.lt; unfold logI; omega
theorem B8_lit (n : Nat) (h : n < 256) : B8 (n : Int) := B8_nat h
theorem toNat_ne {a : Int} (h : B8 a) (h0 : a ≠ 0) : a.toNat ≠ 0 := by unfold B8 at h; omega

theorem mulI_comm (a c : Int) : mulI a c = mulI c a := by unfold mulI; rw [mulN_comm]
theorem mulI_assoc (a b c : Int) : mulI a (mulI b c) = mulI (mulI a b) c := by unfold mulI; rw [Int.toNat_natCast, Int.toNat_natCast, mulN_assoc]
theorem mulI_one {a : Int} (h : B8 a) : mulI a 1 = a := by unfold mulI; rw [show (1 : Int).toNat = 1 from rfl, mulN_one h.lt]; unfold B8 at h; omega
theorem mulI_xor (a : Int) {b c : Int} (hb : B8 b) (hc : B8 c) : mulI a (xorI b c) = xorI (mulI a b) (mulI a c) := by
  unfold mulI xorI; rw [Int.toNat_natCast, Int.toNat_natCast, Int.toNat_natCast, mulN_xor _ hb.lt hc.lt]
theorem mulI_zero_left (c : Int) : mulI 0 c = 0 := by unfold mulI; rw [show (0 : Int).toNat = 0 from rfl, mulN_zero_left]; rfl
theorem mulI_zero_right (a : Int) : mulI a 0 = 0 := by rw [mulI_comm]; exact mulI_zero_left a
theorem mulI_ne {a c : Int} (ha : B8 a) (hc : B8 c) (ha0 : a ≠ 0) (hc0 : c ≠ 0) : mulI a c ≠ 0 := by
  have := mulN_ne (toNat_ne ha ha0) (toNat_ne hc hc0); unfold mulI; omega
theorem xorI_self (a : Int) : xorI a a = 0 := by unfold xorI; rw [Nat.xor_self]; rfl
theorem xorI_zero {a : Int} (h : B8 a) : xorI a 0 = a := by unfold xorI; rw [show (0 : Int).toNat = 0 from rfl, Nat.xor_zero]; unfold B8 at h; omega
theorem xorI_comm (a c : Int) : xorI a c = xorI c a := by unfold xorI; rw [Nat.xor_comm]
theorem xorI_assoc (a b c : Int) : xorI a (xorI b c) = xorI (xorI a b) c := by unfold xorI; rw [Int.toNat_natCast, Int.toNat_natCast, Nat.xor_assoc]
theorem div_mulI {a b : Int} (ha : B8 a) (hb : B8 b) (hb0 : b ≠ 0) : mulI (divI a b) b = a := by
  unfold mulI divI; rw [Int.toNat_natCast, div_mul ha.lt (toNat_ne hb hb0) hb.lt]; unfold B8 at ha; omega
theorem divI_zero (c : Int) : divI 0 c = 0 := by unfold divI; rw [show (0 : Int).toNat = 0 from rfl, show divN 0 c.toNat = 0 from if_pos rfl]; rfl

theorem add_i {a c x : Int} (w : World) (ha : B8 a) (hc : B8 c) (hx : xorI a c = x) :
    Calls Tryd.prog 34 #[.int .u8 a, .int .u8 c] w fun e w' => e = .returned (.int .u8 x) ∧ w = w' := by
  subst hx
  obtain ⟨n, hn, rfl⟩ := ha.nat
  obtain ⟨m, hm, rfl⟩ := hc.nat
  have := add_any n m w hn hm
  unfold xorI; rw [Int.toNat_natCast, Int.toNat_natCast]; exact this
theorem mul_i {b : Nat} {a c x : Int} (w : World) (h : TabIn w b) (ha : B8 a) (hc : B8 c) (hx : mulI a c = x) :
    Calls Tryd.prog 35 #[.pointer (some ⟨b, 0, none⟩), .int .u8 a, .int .u8 c] w fun e w' => e = .returned (.int .u8 x) ∧ Left b w w' := by
  subst hx
  obtain ⟨n, hn, rfl⟩ := ha.nat
  obtain ⟨m, hm, rfl⟩ := hc.nat
  have := mul_any b n m w h hn hm
  unfold mulI; rw [Int.toNat_natCast, Int.toNat_natCast]; exact this
theorem div_i {b : Nat} {a c x : Int} (w : World) (h : TabIn w b) (ha : B8 a) (hc : B8 c) (hc0 : c ≠ 0) (hx : divI a c = x) :
    Calls Tryd.prog 67 #[.pointer (some ⟨b, 0, none⟩), .int .u8 a, .int .u8 c] w fun e w' => e = .returned (.tuple #[.int .u8 x, .nilIface]) ∧ Left b w w' := by
  subst hx
  obtain ⟨n, hn, rfl⟩ := ha.nat
  obtain ⟨m, hm, rfl⟩ := hc.nat
  have := div_any b n m w h hn hm (by omega)
  unfold divI; rw [Int.toNat_natCast, Int.toNat_natCast]; exact this
theorem div_0 {b : Nat} {a : Int} (w : World) (ha : B8 a) :
    Calls Tryd.prog 67 #[.pointer (some ⟨b, 0, none⟩), .int .u8 a, .int .u8 0] w fun e w' => e = .returned (.tuple #[.int .u8 0, .iface 83 (.int .i64 1)]) ∧ w = w' := by
  obtain ⟨n, hn, rfl⟩ := ha.nat
  exact div_zero b n w
end Go.Proofs.YtgiffaeckhhmpaaDoor
