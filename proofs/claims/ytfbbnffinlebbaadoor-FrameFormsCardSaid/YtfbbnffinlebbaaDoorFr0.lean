/- Records over sectors, in plain numbers. -/
import Derived.Test.YtfbbnffinlebbaaDoorGen
namespace Go.Proofs.YtfbbnffinlebbaaDoor
set_option linter.unusedVariables false
set_option linter.unusedSimpArgs false
/-- How many sectors a record of n bytes has. -/
def secN (n : Nat) : Nat := max 1 ((n + 55) / 56)
/-- Byte k of sector i of a record. -/
def frF (s n : Nat) (B : Nat → Nat) (i k : Nat) : Nat :=
  if k < 4 then numB s 4 k else if k = 4 then i else if k = 5 then secN n else if k = 6 then n / 256 else if k = 7 then n % 256
  else if 56 * i + (k - 8) < n then B (56 * i + (k - 8)) else 0
def bodyF (G : Nat → Nat → Nat) : Nat → Nat := fun j => G (j / 56) (8 + j % 56)
def seqF (f : Nat → Nat) : Nat := f 0 * 16777216 + f 1 * 65536 + f 2 * 256 + f 3
def szF (f : Nat → Nat) : Nat := f 6 * 256 + f 7
/-- Sectors that begin with a record. -/
structure JoinP (q : Nat) (L : Nat → Nat) (G : Nat → Nat → Nat) : Prop where
  some : 0 < q
  len0 : L 0 = 64
  size : szF (G 0) ≤ 14280
  count : G 0 5 = secN (szF (G 0))
  enough : G 0 5 ≤ q
  lens : ∀ i, i < G 0 5 → L i = 64
  seq : seqF (G 0) ≠ 0
  all : ∀ i, i < G 0 5 → ∀ k, k < 64 → G i k = frF (seqF (G 0)) (szF (G 0)) (bodyF G) i k
theorem secN_pos (n : Nat) : 1 ≤ secN n := by unfold secN; omega
theorem secN_le {n : Nat} (h : n ≤ 14280) : secN n ≤ 255 := by unfold secN; omega
theorem secN_room (n : Nat) : n ≤ 56 * secN n := by unfold secN; omega
theorem frF_at4 (s n : Nat) (B : Nat → Nat) (i : Nat) : frF s n B i 4 = i := by unfold frF; simp
theorem frF_at5 (s n : Nat) (B : Nat → Nat) (i : Nat) : frF s n B i 5 = secN n := by unfold frF; simp
theorem frF_at6 (s n : Nat) (B : Nat → Nat) (i : Nat) : frF s n B i 6 = n / 256 := by unfold frF; simp
theorem frF_at7 (s n : Nat) (B : Nat → Nat) (i : Nat) : frF s n B i 7 = n % 256 := by unfold frF; simp
theorem frF_low (s n : Nat) (B : Nat → Nat) (i k : Nat) (h : k < 4) : frF s n B i k = numB s 4 k := by unfold frF; rw [if_pos h]
theorem frF_hi (s n : Nat) (B : Nat → Nat) (i k : Nat) (h : 8 ≤ k) : frF s n B i k = if 56 * i + (k - 8) < n then B (56 * i + (k - 8)) else 0 := by
  unfold frF; rw [if_neg (by omega), if_neg (by omega), if_neg (by omega), if_neg (by omega), if_neg (by omega)]
theorem frF_lt {s n : Nat} {B : Nat → Nat} {i k : Nat} (hn : n ≤ 14280) (hi : i < secN n) (hB : ∀ j, j < n → B j < 256) : frF s n B i k < 256 := by
  have := secN_le hn
  unfold frF
  split
  · exact Nat.mod_lt _ (by decide)
  split
  · omega
  split
  · omega
  split
  · omega
  split
  · omega
  split
  · exact hB _ (by assumption)
  · omega
theorem frF_congr {s n : Nat} {B C : Nat → Nat} (h : ∀ j, j < n → B j = C j) (i k : Nat) : frF s n B i k = frF s n C i k := by
  unfold frF
  split
  · rfl
  split
  · rfl
  split
  · rfl
  split
  · rfl
  split
  · rfl
  split
  · exact h _ (by assumption)
  · rfl
theorem numB4_sum {s : Nat} (h : s < 4294967296) : numB s 4 0 * 16777216 + numB s 4 1 * 65536 + numB s 4 2 * 256 + numB s 4 3 = s := by
  unfold numB
  show s / 16777216 % 256 * 16777216 + s / 65536 % 256 * 65536 + s / 256 % 256 * 256 + s / 1 % 256 = s
  have h1 : s / 65536 = s / 256 / 256 := by rw [Nat.div_div_eq_div_mul]
  have h2 : s / 16777216 = s / 256 / 256 / 256 := by rw [Nat.div_div_eq_div_mul, Nat.div_div_eq_div_mul]
  rw [h1, h2, Nat.div_one]
  omega
theorem numB4_of {a b c d : Nat} (ha : a < 256) (hb : b < 256) (hc : c < 256) (hd : d < 256) :
    numB (a * 16777216 + b * 65536 + c * 256 + d) 4 0 = a ∧ numB (a * 16777216 + b * 65536 + c * 256 + d) 4 1 = b ∧ numB (a * 16777216 + b * 65536 + c * 256 + d) 4 2 = c ∧ numB (a * 16777216 + b * 65536 + c * 256 + d) 4 3 = d := by
  unfold numB
  refine ⟨?_, ?_, ?_, ?_⟩
  · show _ / 16777216 % 256 = a
    omega
  · show _ / 65536 % 256 = b
    omega
  · show _ / 256 % 256 = c
    omega
  · show _ / 1 % 256 = d
    omega
theorem seqF_lt {f : Nat → Nat} (h : ∀ k, k < 4 → f k < 256) : seqF f < 4294967296 := by
  have := h 0 (by decide); have := h 1 (by decide); have := h 2 (by decide); have := h 3 (by decide)
  unfold seqF; omega
theorem seqF_byte {f : Nat → Nat} (h : ∀ k, k < 4 → f k < 256) : ∀ k, k < 4 → numB (seqF f) 4 k = f k := by
  obtain ⟨h0, h1, h2, h3⟩ := numB4_of (h 0 (by decide)) (h 1 (by decide)) (h 2 (by decide)) (h 3 (by decide))
  intro k hk
  unfold seqF
  match k, hk with
  | 0, _ => exact h0
  | 1, _ => exact h1
  | 2, _ => exact h2
  | 3, _ => exact h3
theorem seqF_fr {s n : Nat} {B : Nat → Nat} {i : Nat} {f : Nat → Nat} (hs : s < 4294967296) (h : ∀ k, k < 64 → f k = frF s n B i k) : seqF f = s := by
  unfold seqF
  rw [h 0 (by decide), h 1 (by decide), h 2 (by decide), h 3 (by decide), frF_low _ _ _ _ _ (by decide), frF_low _ _ _ _ _ (by decide), frF_low _ _ _ _ _ (by decide), frF_low _ _ _ _ _ (by decide)]
  exact numB4_sum hs
theorem szF_fr {s n : Nat} {B : Nat → Nat} {i : Nat} {f : Nat → Nat} (h : ∀ k, k < 64 → f k = frF s n B i k) : szF f = n := by
  unfold szF
  rw [h 6 (by decide), h 7 (by decide), frF_at6, frF_at7]; omega
/-- A record's sectors begin with it. -/
theorem JoinP.of_split {s n q : Nat} {B : Nat → Nat} {L : Nat → Nat} {G : Nat → Nat → Nat} (hs : s < 4294967296) (h0 : s ≠ 0) (hn : n ≤ 14280) (hq : secN n ≤ q)
    (hL : ∀ i, i < secN n → L i = 64) (hG : ∀ i, i < secN n → ∀ k, k < 64 → G i k = frF s n B i k) :
    JoinP q L G ∧ seqF (G 0) = s ∧ szF (G 0) = n ∧ G 0 5 = secN n ∧ ∀ j, j < n → bodyF G j = B j := by
  have hp := secN_pos n
  have e1 := seqF_fr hs (hG 0 hp)
  have e2 := szF_fr (hG 0 hp)
  have e3 : G 0 5 = secN n := by rw [hG 0 hp 5 (by decide), frF_at5]
  have e4 : ∀ j, j < n → bodyF G j = B j := fun j hj => by
    have hr := secN_room n
    unfold bodyF
    rw [hG (j / 56) (by omega) _ (by omega), frF_hi _ _ _ _ _ (by omega), show 56 * (j / 56) + (8 + j % 56 - 8) = j by omega, if_pos hj]
  refine ⟨⟨by omega, hL 0 hp, by omega, by rw [e3, e2], by omega, fun i hi => hL i (by omega), by omega, fun i hi k hk => ?_⟩, e1, e2, e3, e4⟩
  rw [e1, e2, hG i (by omega) k hk]
  exact (frF_congr e4 i k).symm
/-- Sectors that hold another number somewhere are none. -/
theorem JoinP.seqs {q : Nat} {L : Nat → Nat} {G : Nat → Nat → Nat} (h : JoinP q L G) {i : Nat} (hi : i < G 0 5) : ∀ k, k < 4 → G i k = G 0 k := fun k hk => by
  have h0 : 0 < G 0 5 := by omega
  rw [h.all i hi k (by omega), h.all 0 h0 k (by omega), frF_low _ _ _ _ _ hk, frF_low _ _ _ _ _ hk]
def cntB (p : Nat → Bool) : Nat → Nat
  | 0 => 0
  | n + 1 => cntB p n + if p n then 1 else 0
theorem cntB_le (p : Nat → Bool) : ∀ n, cntB p n ≤ n
  | 0 => Nat.le_refl _
  | n + 1 => by have := cntB_le p n; unfold cntB; split <;> omega
theorem cntB_all {p : Nat → Bool} : ∀ {n : Nat}, cntB p n = n → ∀ i, i < n → p i = true
  | 0, _, i, hi => absurd hi (Nat.not_lt_zero _)
  | n + 1, h, i, hi => by
    have := cntB_le p n
    unfold cntB at h
    by_cases e : p n = true
    · rw [if_pos e] at h
      rcases Nat.lt_succ_iff_lt_or_eq.1 hi with h1 | h1
      · exact cntB_all (by omega) i h1
      · rw [h1]; exact e
    · rw [if_neg e] at h; omega
theorem cntB_none {p : Nat → Bool} : ∀ {n : Nat}, cntB p n = 0 → ∀ i, i < n → p i = false
  | 0, _, i, hi => absurd hi (Nat.not_lt_zero _)
  | n + 1, h, i, hi => by
    unfold cntB at h
    by_cases e : p n = true
    · rw [if_pos e] at h; omega
    · rw [if_neg e] at h
      rcases Nat.lt_succ_iff_lt_or_eq.1 hi with h1 | h1
      · exact cntB_none (by omega) i h1
      · rw [h1]; simpa using e
theorem cntB_of_all {p : Nat → Bool} : ∀ {n : Nat}, (∀ i, i < n → p i = true) → cntB p n = n
  | 0, _ => rfl
  | n + 1, h => by unfold cntB; rw [cntB_of_all (fun i hi => h i (by omega)), if_pos (h n (by omega))]
theorem cntB_some {p : Nat → Bool} : ∀ {n : Nat}, cntB p n ≠ 0 → ∃ i, i < n ∧ p i = true
  | 0, h => absurd rfl h
  | n + 1, h => by
    by_cases e : p n = true
    · exact ⟨n, by omega, e⟩
    · unfold cntB at h
      rw [if_neg e] at h
      obtain ⟨i, hi, he⟩ := cntB_some (p := p) (n := n) (by omega)
      exact ⟨i, by omega, he⟩
theorem cntB_miss {p : Nat → Bool} : ∀ {n : Nat}, cntB p n ≠ n → ∃ i, i < n ∧ p i = false
  | 0, h => absurd rfl h
  | n + 1, h => by
    by_cases e : p n = true
    · unfold cntB at h
      rw [if_pos e] at h
      obtain ⟨i, hi, he⟩ := cntB_miss (p := p) (n := n) (by omega)
      exact ⟨i, by omega, he⟩
    · exact ⟨n, by omega, by simpa using e⟩
/-- Sectors of two records, in one place: which of them came. -/
def mixF (na nb : Nat) (A B : Nat → Nat) (p : Nat → Bool) (i k : Nat) : Nat :=
  if i < secN nb ∧ p i = true then frF 6 nb B i k else if i < secN na then frF 5 na A i k else 0
theorem mix_new {na nb q : Nat} {A B : Nat → Nat} {p : Nat → Bool} {L : Nat → Nat} {G : Nat → Nat → Nat} (hb : nb ≤ 14280) (hq : secN nb ≤ q)
    (hL : ∀ i, i < q → L i = 64) (hG : ∀ i, i < q → ∀ k, k < 64 → G i k = mixF na nb A B p i k) (hp : ∀ i, i < secN nb → p i = true) :
    JoinP q L G ∧ seqF (G 0) = 6 ∧ szF (G 0) = nb ∧ G 0 5 = secN nb ∧ ∀ j, j < nb → bodyF G j = B j :=
  JoinP.of_split (by decide) (by decide) hb hq (fun i hi => hL i (by omega)) fun i hi k hk => by rw [hG i (by omega) k hk]; unfold mixF; rw [if_pos ⟨hi, hp i hi⟩]
theorem mix_old {na nb q : Nat} {A B : Nat → Nat} {p : Nat → Bool} {L : Nat → Nat} {G : Nat → Nat → Nat} (ha : na ≤ 14280) (hq : secN na ≤ q)
    (hL : ∀ i, i < q → L i = 64) (hG : ∀ i, i < q → ∀ k, k < 64 → G i k = mixF na nb A B p i k) (hp : ∀ i, i < secN nb → i < secN na → p i = false) :
    JoinP q L G ∧ seqF (G 0) = 5 ∧ szF (G 0) = na ∧ G 0 5 = secN na ∧ ∀ j, j < na → bodyF G j = A j :=
  JoinP.of_split (by decide) (by decide) ha hq (fun i hi => hL i (by omega)) fun i hi k hk => by
    rw [hG i (by omega) k hk]; unfold mixF
    rw [if_neg (fun h => by rw [hp i h.1 hi] at h; cases h.2), if_pos hi]
theorem mix_none {na nb q : Nat} {A B : Nat → Nat} {p : Nat → Bool} {L : Nat → Nat} {G : Nat → Nat → Nat} (hqa : secN na ≤ q) (hqb : secN nb ≤ q)
    (hG : ∀ i, i < q → ∀ k, k < 64 → G i k = mixF na nb A B p i k) (h1 : ∃ i, i < secN nb ∧ i < secN na ∧ p i = true) (h2 : ∃ i, i < secN nb ∧ p i = false) : ¬ JoinP q L G := by
  intro h
  have hpa := secN_pos na
  have hpb := secN_pos nb
  have z : ∀ i, i < secN nb → p i = true → ∀ k, k < 64 → G i k = frF 6 nb B i k := fun i hi e k hk => by
    rw [hG i (by omega) k hk]; unfold mixF; rw [if_pos ⟨hi, e⟩]
  have y : ∀ i, i < secN na → p i = false → ∀ k, k < 64 → G i k = frF 5 na A i k := fun i hi e k hk => by
    rw [hG i (by omega) k hk]; unfold mixF; rw [if_neg (fun h => by rw [e] at h; cases h.2), if_pos hi]
  have x : ∀ i, i < q → ¬ i < secN na → p i = false → ∀ k, k < 64 → G i k = 0 := fun i hq hi e k hk => by
    rw [hG i (by omega) k hk]; unfold mixF; rw [if_neg (fun h => by rw [e] at h; cases h.2), if_neg hi]
  have n6 : numB 6 4 3 = 6 := by decide
  have n5 : numB 5 4 3 = 5 := by decide
  cases e0 : p 0 with
  | true =>
    obtain ⟨i, hi, e⟩ := h2
    have c5 : G 0 5 = secN nb := by rw [z 0 hpb e0 5 (by decide), frF_at5]
    have c3 : G 0 3 = 6 := by rw [z 0 hpb e0 3 (by decide), frF_low _ _ _ _ _ (by decide), n6]
    have hs := h.seqs (i := i) (by omega) 3 (by decide)
    rw [c3] at hs
    by_cases hl : i < secN na
    · rw [y i hl e 3 (by decide), frF_low _ _ _ _ _ (by decide), n5] at hs; omega
    · rw [x i (by omega) hl e 3 (by decide)] at hs; omega
  | false =>
    obtain ⟨i, hi, hl, e⟩ := h1
    have c5 : G 0 5 = secN na := by rw [y 0 hpa e0 5 (by decide), frF_at5]
    have c3 : G 0 3 = 5 := by rw [y 0 hpa e0 3 (by decide), frF_low _ _ _ _ _ (by decide), n5]
    have hs := h.seqs (i := i) (by omega) 3 (by decide)
    rw [c3, z i hi e 3 (by decide), frF_low _ _ _ _ _ (by decide), n6] at hs
    omega
open Go.RowKit
theorem splice_row {n m o : Nat} {F K : Nat → Nat} (h : o + m ≤ n) : splice (rowC n F) o (rowC m K) = rowC n (fun k => if o ≤ k ∧ k < o + m then K (k - o) else F k) := by
  refine List.ext_getElem? fun i => ?_
  unfold splice
  rw [rowC_len]
  by_cases h1 : i < o
  · rw [List.getElem?_append_left (by rw [List.length_take, rowC_len]; omega), List.getElem?_take_of_lt h1, rowC_get _ (by omega), rowC_get _ (by omega), if_neg (by omega)]
  · rw [List.getElem?_append_right (by rw [List.length_take, rowC_len]; omega), List.length_take, rowC_len, Nat.min_eq_left (by omega)]
    by_cases h2 : i < o + m
    · rw [List.getElem?_append_left (by rw [rowC_len]; omega), rowC_get _ (by omega), rowC_get _ (by omega), if_pos ⟨by omega, h2⟩]
    · rw [List.getElem?_append_right (by rw [rowC_len]; omega), rowC_len, List.getElem?_drop, show o + m + (i - o - m) = i by omega]
      by_cases h3 : i < n
      · rw [rowC_get _ h3, rowC_get _ h3, if_neg (by omega)]
      · rw [List.getElem?_eq_none (by rw [rowC_len]; omega), List.getElem?_eq_none (by rw [rowC_len]; omega)]
theorem row_fr {s n i q m : Nat} {B : Nat → Nat} (hq : secN n = q) (hm : m = min (n - 56 * i) 56) : ∀ k, k < 64 → (if 8 ≤ k ∧ k < 8 + m then B (56 * i + (k - 8)) else
    upd (upd (upd (upd (upd (upd (upd (upd (fun _ => 0) 0 (numB s 4 0)) 1 (numB s 4 1)) 2 (numB s 4 2)) 3 (numB s 4 3)) 4 i) 5 q) 6 (n / 256)) 7 (n % 256) k) = frF s n B i k := by
  intro k hk
  by_cases h8 : 8 ≤ k
  · rw [frF_hi _ _ _ _ _ h8]
    by_cases h9 : k < 8 + m
    · rw [if_pos ⟨h8, h9⟩, if_pos (by omega)]
    · rw [if_neg (by omega), if_neg (by omega)]
      unfold upd
      rw [if_neg (by omega), if_neg (by omega), if_neg (by omega), if_neg (by omega), if_neg (by omega), if_neg (by omega), if_neg (by omega), if_neg (by omega)]
  · rw [if_neg (by omega)]
    have hk8 : k < 8 := by omega
    subst hq
    match k, hk8 with
    | 0, _ => simp [upd, frF]
    | 1, _ => simp [upd, frF]
    | 2, _ => simp [upd, frF]
    | 3, _ => simp [upd, frF]
    | 4, _ => simp [upd, frF]
    | 5, _ => simp [upd, frF]
    | 6, _ => simp [upd, frF]
    | 7, _ => simp [upd, frF]
end Go.Proofs.YtfbbnffinlebbaaDoor
