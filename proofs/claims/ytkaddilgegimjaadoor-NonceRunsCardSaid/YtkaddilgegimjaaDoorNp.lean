/- Contracts of nonce.Parse and of the document's own functions of layer 18. -/
import Derived.Test.YtkaddilgegimjaaDoorNb
import Derived.Test.YtkaddilgegimjaaDoorApq
import Derived.Laws.BitsLemmas
import Derived.Laws.BitsAllLaws
namespace Go.Proofs.YtkaddilgegimjaaDoor
set_option linter.unusedVariables false
set_option linter.unusedSimpArgs false
open Go.RowKit

/-- A term and a number as twelve bytes. -/
def nbF (t n : Nat) (i : Nat) : Nat := [t / 16777216, t / 65536 % 256, t / 256 % 256, t % 256, n / 72057594037927936, n / 281474976710656 % 256, n / 1099511627776 % 256, n / 4294967296 % 256, n / 16777216 % 256, n / 65536 % 256, n / 256 % 256, n % 256].getD i 0
theorem nbL_row (t n : Nat) : nbL t n = rowC 12 (nbF t n) := rfl
theorem nbF_lt {t n : Nat} (ht : t < 4294967296) (hn : n < 18446744073709551616) : ∀ i, i < 12 → nbF t n i < 256 := fun i hi => by
  match i, hi with
  | 0, _ => show t / 16777216 < 256; omega
  | 1, _ => show t / 65536 % 256 < 256; omega
  | 2, _ => show t / 256 % 256 < 256; omega
  | 3, _ => show t % 256 < 256; omega
  | 4, _ => show n / 72057594037927936 < 256; omega
  | 5, _ => show n / 281474976710656 % 256 < 256; omega
  | 6, _ => show n / 1099511627776 % 256 < 256; omega
  | 7, _ => show n / 4294967296 % 256 < 256; omega
  | 8, _ => show n / 16777216 % 256 < 256; omega
  | 9, _ => show n / 65536 % 256 < 256; omega
  | 10, _ => show n / 256 % 256 < 256; omega
  | 11, _ => show n % 256 < 256; omega
theorem nb_grow {t n : Nat} (w : World) (ht : t < 4294967296) (hn : n < 18446744073709551616) :
    Calls Tryd.prog 20 #[.int .u32 t, .int .u64 n] w fun e w' => ∃ v, e = .returned v ∧ Grow w' w.heap.size v 12 (nbF t n) ∧ Below w.heap.size w w' :=
  (nb_any t n w (by omega) (by omega)).mono fun e w' ⟨v, he, hown, hb⟩ => ⟨v, he, by rw [nbL_row] at hown; exact hown, hb⟩
/-- A number out of bytes, the highest first. -/
def beN (f : Nat → Nat) (a : Nat) : Nat → Nat | 0 => 0 | k + 1 => beN f a k * 256 + f (a + k)
theorem beN_lt {f : Nat → Nat} {a : Nat} : ∀ k, (∀ i, i < k → f (a + i) < 256) → beN f a k < 256 ^ k
  | 0, _ => by show (0 : Nat) < 1; decide
  | k + 1, h => by
    have h1 := beN_lt k fun i hi => h i (by omega)
    have h2 := h k (by omega)
    show beN f a k * 256 + f (a + k) < 256 ^ (k + 1)
    rw [Nat.pow_succ]; omega
theorem nbF_be {f : Nat → Nat} (hf : ∀ i, i < 12 → f i < 256) : ∀ i, i < 12 → nbF (beN f 0 4) (beN f 4 8) i = f i := fun i hi => by
  have h0 := hf 0 (by omega)
  have h1 := hf 1 (by omega)
  have h2 := hf 2 (by omega)
  have h3 := hf 3 (by omega)
  have h4 := hf 4 (by omega)
  have h5 := hf 5 (by omega)
  have h6 := hf 6 (by omega)
  have h7 := hf 7 (by omega)
  have h8 := hf 8 (by omega)
  have h9 := hf 9 (by omega)
  have h10 := hf 10 (by omega)
  have h11 := hf 11 (by omega)
  have eT : beN f 0 4 = (((0 * 256 + f 0) * 256 + f 1) * 256 + f 2) * 256 + f 3 := rfl
  have eN : beN f 4 8 = (((((((0 * 256 + f 4) * 256 + f 5) * 256 + f 6) * 256 + f 7) * 256 + f 8) * 256 + f 9) * 256 + f 10) * 256 + f 11 := rfl
  generalize beN f 0 4 = t at *
  generalize beN f 4 8 = n at *
  match i, hi with
  | 0, _ => show t / 16777216 = _; omega
  | 1, _ => show t / 65536 % 256 = _; omega
  | 2, _ => show t / 256 % 256 = _; omega
  | 3, _ => show t % 256 = _; omega
  | 4, _ => show n / 72057594037927936 = _; omega
  | 5, _ => show n / 281474976710656 % 256 = _; omega
  | 6, _ => show n / 1099511627776 % 256 = _; omega
  | 7, _ => show n / 4294967296 % 256 = _; omega
  | 8, _ => show n / 16777216 % 256 = _; omega
  | 9, _ => show n / 65536 % 256 = _; omega
  | 10, _ => show n / 256 % 256 = _; omega
  | 11, _ => show n % 256 = _; omega
/-- Two nonces are the same just if both are. -/
theorem nbF_inj {t n t' n' : Nat} (ht : t < 4294967296) (hn : n < 18446744073709551616) (ht' : t' < 4294967296) (hn' : n' < 18446744073709551616) (h : strF 12 (nbF t n) = strF 12 (nbF t' n')) : t = t' ∧ n = n' := by
  have h2 := (strF_inj (nbF_lt ht hn) (nbF_lt ht' hn') h).2
  have h0 : t / 16777216 = t' / 16777216 := h2 0 (by omega)
  have h1 : t / 65536 % 256 = t' / 65536 % 256 := h2 1 (by omega)
  have h3 : t / 256 % 256 = t' / 256 % 256 := h2 2 (by omega)
  have h4 : t % 256 = t' % 256 := h2 3 (by omega)
  have k0 : n / 72057594037927936 = n' / 72057594037927936 := h2 4 (by omega)
  have k1 : n / 281474976710656 % 256 = n' / 281474976710656 % 256 := h2 5 (by omega)
  have k2 : n / 1099511627776 % 256 = n' / 1099511627776 % 256 := h2 6 (by omega)
  have k3 : n / 4294967296 % 256 = n' / 4294967296 % 256 := h2 7 (by omega)
  have k4 : n / 16777216 % 256 = n' / 16777216 % 256 := h2 8 (by omega)
  have k5 : n / 65536 % 256 = n' / 65536 % 256 := h2 9 (by omega)
  have k6 : n / 256 % 256 = n' / 256 % 256 := h2 10 (by omega)
  have k7 : n % 256 = n' % 256 := h2 11 (by omega)
  constructor
  · clear h h2 k0 k1 k2 k3 k4 k5 k6 k7; omega
  · clear h h2 h0 h1 h3 h4; omega
theorem u32_or8 (x y : Nat) (hx : x < 16777216) (hy : y < 256) : bits .or .u32 ((x : Int) * 256) (y : Int) = (x : Int) * 256 + (y : Int) :=
  bits_join .u32 32 (by decide) (fun n h0 h1 => by rw [IntKind.wrap_u32]; omega) 8 _ _ (by omega) (by omega) (by omega) (by omega) (by omega) (by omega)
theorem u64_or8 (x y : Nat) (hx : x < 72057594037927936) (hy : y < 256) : bits .or .u64 ((x : Int) * 256) (y : Int) = (x : Int) * 256 + (y : Int) :=
  bits_join .u64 64 (by decide) (fun n h0 h1 => by simp [IntKind.wrap, IntKind.bits, IntKind.signed]; omega) 8 _ _ (by omega) (by omega) (by omega) (by omega) (by omega) (by omega)
end Go.Proofs.YtkaddilgegimjaaDoor
