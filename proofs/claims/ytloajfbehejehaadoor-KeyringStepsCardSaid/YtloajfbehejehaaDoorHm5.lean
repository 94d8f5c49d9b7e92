/- A sum with a key of some parts. -/
import Derived.Test.YtloajfbehejehaaDoorHm3
import Derived.Test.YtloajfbehejehaaDoorShL
namespace Go.Proofs.YtloajfbehejehaaDoor
set_option linter.unusedVariables false
set_option linter.unusedSimpArgs false
open Go.RowKit

/-- Parts, each told with its length, one behind the other. -/
def jlen (L : Nat → Nat) : Nat → Nat
  | 0 => 0
  | i + 1 => jlen L i + 4 + L i
def jfun (L : Nat → Nat) (G : Nat → Nat → Nat) : Nat → Nat → Nat
  | 0 => fun _ => 0
  | i + 1 => catF (jlen L i + 4) (catF (jlen L i) (jfun L G i) (numB (L i) 4)) (G i)
theorem jlen_mono (L : Nat → Nat) : ∀ {n i : Nat}, i ≤ n → jlen L i ≤ jlen L n := by
  intro n
  induction n with
  | zero => intro i h; obtain rfl : i = 0 := by omega
            exact Nat.le_refl _
  | succ n ih =>
    intro i h
    by_cases e : i = n + 1
    · subst e; exact Nat.le_refl _
    · exact Nat.le_trans (ih (by omega)) (by show _ ≤ jlen L n + 4 + L n; omega)
structure PS (w0 : World) (k gi go : Nat) (W : Nat → Nat) (m : Nat) (G : Nat → Nat) (wr : World) : Prop where
  h : KH wr k gi go W m G
  o : Below w0.heap.size w0 wr
  v : GV wr
  r : RB 22 32 w0.heap.size (fun _ => 0) wr
  n : w0.heap.size < gi
theorem PS.later {w0 : World} {k gi go m : Nat} {W G : Nat → Nat} {wr w' : World} (h : PS w0 k gi go W m G wr) (hb : Below wr.heap.size wr w') : PS w0 k gi go W m G w' :=
  ⟨h.h.later hb, h.o.trans (hb.mono h.o.size), h.v.later hb, Blk.below h.r hb (Blk.lt h.r), h.n⟩
theorem PS.wrote {w0 : World} {k gi go m l : Nat} {W G E : Nat → Nat} {wr w' : World} (h : PS w0 k gi go W m G wr) (hK : KH w' k gi go W l E) (hO : Own gi wr w') : PS w0 k gi go W l E w' :=
  ⟨hK, h.o.trans (hO.below (by have := h.n; omega) h.o.size), h.v.own hO h.h.hi.1.1 h.h.hi.1.2, hO.blk h.r (by have := h.n; omega), h.n⟩
theorem four_bytes {w : World} {l b0 b1 b2 b3 : Nat} (h0 : numB l 4 0 = b0) (h1 : numB l 4 1 = b1) (h2 : numB l 4 2 = b2) (h3 : numB l 4 3 = b3) : Bytes (w.alloc (.cells #[.int .u8 (b0 : Nat), .int .u8 (b1 : Nat), .int .u8 (b2 : Nat), .int .u8 (b3 : Nat)] 5)) (some ⟨w.heap.size, 0, none⟩) 4 (numB l 4) := fun k hk => by
  rcases (by omega : k = 0 ∨ k = 1 ∨ k = 2 ∨ k = 3) with rfl | rfl | rfl | rfl
  · exact ⟨numB_lt _ _ _, w.heap.size, 0, rfl, by rw [h0]; exact World.cell?_alloc_mark w #[.int .u8 (b0 : Int), .int .u8 (b1 : Int), .int .u8 (b2 : Int), .int .u8 (b3 : Int)] 5 (0, 0) 0⟩
  · exact ⟨numB_lt _ _ _, w.heap.size, 0, rfl, by rw [h1]; exact World.cell?_alloc_mark w #[.int .u8 (b0 : Int), .int .u8 (b1 : Int), .int .u8 (b2 : Int), .int .u8 (b3 : Int)] 5 (0, 0) 1⟩
  · exact ⟨numB_lt _ _ _, w.heap.size, 0, rfl, by rw [h2]; exact World.cell?_alloc_mark w #[.int .u8 (b0 : Int), .int .u8 (b1 : Int), .int .u8 (b2 : Int), .int .u8 (b3 : Int)] 5 (0, 0) 2⟩
  · exact ⟨numB_lt _ _ _, w.heap.size, 0, rfl, by rw [h3]; exact World.cell?_alloc_mark w #[.int .u8 (b0 : Int), .int .u8 (b1 : Int), .int .u8 (b2 : Int), .int .u8 (b3 : Int)] 5 (0, 0) 3⟩
end Go.Proofs.YtloajfbehejehaaDoor
