/- AES: the words of a key: what is needed. -/
import Derived.Test.YtcpcaekkdgogmaaAe7
namespace Go.Proofs.Ytcpcaekkdgogmaa
set_option linter.unusedVariables false
set_option linter.unusedSimpArgs false
open Go.RowKit

def exS (f : Nat → Nat) (n : Nat) : Nat := if n < 8 then kwN f n else exK f n (n - 8) ^^^ lastN (exK f n) n
theorem exK_keep (f : Nat → Nat) {i : Nat} : ∀ n, i < n → exK f n i = exS f i
  | 0, h => by omega
  | n + 1, h => by
    show upd (exK f n) n (exS f n) i = _
    by_cases e : i = n
    · rw [e]; exact if_pos rfl
    · exact (if_neg e).trans (exK_keep f n (by omega))
theorem exK_lo (f : Nat → Nat) {i : Nat} (h : i < 8) : exK f 60 i = kwN f i := (exK_keep f 60 (by omega)).trans (if_pos h)
theorem exK_hi (f : Nat → Nat) {i : Nat} (h8 : 8 ≤ i) (h : i < 60) (h4 : i % 4 ≠ 0) : exK f 60 i = exK f 60 (i - 8) ^^^ exK f 60 (i - 1) := by
  rw [exK_keep f 60 h, exK_keep f 60 (show i - 8 < 60 by omega), exK_keep f 60 (show i - 1 < 60 by omega)]
  have e : exS f i = exK f i (i - 8) ^^^ lastN (exK f i) i := if_neg (by omega)
  rw [e, exK_keep f i (show i - 8 < i by omega)]
  have e2 : lastN (exK f i) i = exK f i (i - 1) := by
    unfold lastN
    rw [if_neg (by omega), if_neg (by omega)]
  rw [e2, exK_keep f i (show i - 1 < i by omega)]
theorem kw_ne {f : Nat → Nat} {m : Nat} (h : ∀ k, k < 4 → f (4 * m + k) < 256) : kwN (upd f (4 * m) (f (4 * m) ^^^ 1)) m ≠ kwN f m := by
  have h0 := h 0 (by decide); rw [Nat.add_zero] at h0
  have e0 : upd f (4 * m) (f (4 * m) ^^^ 1) (4 * m) = f (4 * m) ^^^ 1 := if_pos rfl
  have e1 : upd f (4 * m) (f (4 * m) ^^^ 1) (4 * m + 1) = f (4 * m + 1) := if_neg (by omega)
  have e2 : upd f (4 * m) (f (4 * m) ^^^ 1) (4 * m + 2) = f (4 * m + 2) := if_neg (by omega)
  have e3 : upd f (4 * m) (f (4 * m) ^^^ 1) (4 * m + 3) = f (4 * m + 3) := if_neg (by omega)
  have hx : f (4 * m) ^^^ 1 ≠ f (4 * m) := fun e => by
    have h1 : f (4 * m) ^^^ (f (4 * m) ^^^ 1) = f (4 * m) ^^^ f (4 * m) := by rw [e]
    rw [xor_self_left, Nat.xor_self] at h1; exact absurd h1 (by decide)
  unfold kwN
  rw [e0, e1, e2, e3]
  generalize f (4 * m) ^^^ 1 = y at *
  omega
set_option maxRecDepth 100000 in
set_option maxHeartbeats 1000000 in
theorem kword_neg (kb : Nat) (w : World) :
    Calls Try.prog 8 #[.pointer (some ⟨kb, 0, none⟩), .int .i64 (-1)] w fun e w' => e = .returned (.int .u32 0) ∧ Below w.heap.size w w' := by
  go_enter Try.func8, Try.ntmps8
  go_wp2_with fail
  go_ret
  exact ⟨rfl, Below.refl _ _⟩
/-- A block of 32 bytes. -/
def B32 (w : World) (g : Nat) (f : Nat → Nat) : Prop := Blk w g (rowC 32 f).toArray 22
theorem B32.cell {w : World} {g : Nat} {f : Nat → Nat} (h : B32 w g f) {i : Nat} (hi : i < 32) : w.cell? ⟨g, i, none⟩ = some (.int .u8 (f i : Nat)) := by
  rw [Blk.cell h i]; simpa using rowC_get f hi
theorem B32.set {w : World} {g : Nat} {f : Nat → Nat} (h : B32 w g f) (k x : Nat) : B32 (w.setCell ⟨g, k, none⟩ (.int .u8 (x : Nat))) g (upd f k x) := by
  have := Blk.set h k (.int .u8 (x : Nat))
  rw [List.setIfInBounds_toArray, rowC_set] at this; exact this
theorem B32.bytes {w : World} {g : Nat} {f : Nat → Nat} (h : B32 w g f) (hf : ∀ i, i < 32 → f i < 256) : Bytes w (some ⟨g, 0, none⟩) 32 f := fun k hk =>
  ⟨hf k hk, g, 0, rfl, by rw [Nat.zero_add]; exact B32.cell h hk⟩
def zero32 : Array Value := (rowC 32 (fun _ => 0)).toArray
theorem zero32_run (w : World) : (zeroValue 22).run Try.prog w = .ok (.agg zero32) w := by kernel_rfl
theorem size32 : (Try.prog.info? 22).map (·.size) = some 32 := by kernel_rfl
theorem size_row32 (f : Nat → Nat) : (rowC 32 f).toArray.size = 32 := by rw [List.size_toArray, rowC_len]
theorem info32 (f : Nat → Nat) : (Try.prog.info? 22).map (·.size) = some (rowC 32 f).toArray.size := by rw [size_row32]; exact size32
theorem one32 (f : Nat → Nat) : (rowC 32 f).toArray.all (·.oneCell') = true := all_oneCell_toArray (rowC_one _ _)
theorem wpList_load32 {ops : Array Oper} {rest : List Oper} {o : Oper} {a : Act} {w : World} {Q : Exit → Act → World → Prop} (hgd : o.guard = none) (x : Operand) (ho : o.op = .load 22 x) (g : Nat) (hx : a.eval x = .pointer (some ⟨g, 0, none⟩)) (C : Array Value) (hB : Blk w g C 22) (hC : ∃ f, C = (rowC 32 f).toArray)
    (h : wpList Try.prog ops Q rest (a.put o.dst (.agg C)) w) : wpList Try.prog ops Q (o :: rest) a w := by
  obtain ⟨f, rfl⟩ := hC
  exact wpList_load_row hgd 22 x ho g hx 22 _ (0, 0) _ hB Try.underlying22 rfl (info32 f) h
theorem wpList_store32 {ops : Array Oper} {rest : List Oper} {o : Oper} {a : Act} {w : World} {Q : Exit → Act → World → Prop} (hgd : o.guard = none) (x y : Operand) (ho : o.op = .store 22 x y) (g : Nat) (hx : a.eval x = .pointer (some ⟨g, 0, none⟩)) (C D : Array Value) (hy : a.eval y = .agg C) (hB : Blk w g D 22) (hC : ∃ f, C = (rowC 32 f).toArray) (hD : ∃ f, D = (rowC 32 f).toArray)
    (h : wpList Try.prog ops Q rest (a.put o.dst undef) (w.setCells g 0 C.toList)) : wpList Try.prog ops Q (o :: rest) a w := by
  obtain ⟨f, rfl⟩ := hC
  obtain ⟨f', rfl⟩ := hD
  exact wpList_store_mid hgd 22 x y ho g 0 _ hx hy (by rw [size_row32]; exact Blk.there hB (by rw [size_row32]; exact Nat.le_refl _)) (info32 f) (one32 f) h
theorem Blk.store32 {w : World} {g : Nat} {C D : Array Value} (hB : Blk w g D 22) (hC : ∃ f, C = (rowC 32 f).toArray) (hD : ∃ f, D = (rowC 32 f).toArray) : Blk (w.setCells g 0 C.toList) g C 22 := by
  obtain ⟨f, rfl⟩ := hC
  obtain ⟨f', rfl⟩ := hD
  exact Blk.setCells hB (rowC 32 f) (by rw [size_row32, rowC_len])
/-- While words are asked: a key, and the bytes it was made of. -/
structure AW (w0 : World) (kb bx : Nat) (W : Nat → Nat) (F : Array Value) (wr : World) : Prop where
  k : KeyB wr kb W bx
  a : Blk wr w0.heap.size F 22
  o : Below w0.heap.size w0 wr
  n : w0.heap.size < bx ∧ bx < kb
theorem AW.below {w0 wr w' : World} {kb bx : Nat} {W : Nat → Nat} {F : Array Value} (h : AW w0 kb bx W F wr) (hb : Below wr.heap.size wr w') : AW w0 kb bx W F w' :=
  ⟨Blk.below h.k hb (Blk.lt h.k), Blk.below h.a hb (Blk.lt h.a), h.o.trans (hb.mono h.o.size), h.n⟩
end Go.Proofs.Ytcpcaekkdgogmaa
